/- The proof's texts, part 5. -/
import Derived.Test.YtnlhkgoppjejeaaDoorPart2
import Derived.Test.YtnlhkgoppjejeaaDoorPart3
import Derived.Test.YtnlhkgoppjejeaaDoorPart4
import Derived.Deep.RegionHeld3

/- What l3boxOk of package spec do. -/
namespace Go.Proofs.YtnlhkgoppjejeaaDoor
open Go.RowKit
set_option maxRecDepth 100000
set_option linter.unusedVariables false
set_option linter.unusedSimpArgs false

set_option maxRecDepth 100000 in
set_option maxHeartbeats 40000000 in
theorem l3boxOk_inJ (v:Value) (x:BoxD) (mv:Int) (w:World) (hv:BoxV w v x) (hX1:nameB x.name=true) (q0:1≤x.valid) (q1:x.valid≤mv) (q2:1≤x.next) (q3:x.next≤1000000) (q4:0≤x.seq) (q5:x.seq≤1000000) (q6:(x.mails.length:Int)≤12) (q7:(x.gones.length:Int)≤40) (q8:0≤x.lost) (q9:x.lost≤x.seq) (HMA0:Hid (∀ j,j < x.mails.length→mailAt x j=true)) (HGE:Hid (∀ k,k < x.gones.length→(∀ j,j < k→goneAt x j=true)→goneAt x k=false→1≤clsB x k∧clsB x k≤3)) :
  Calls Tryd.prog 16 #[v,.int .i64 mv] w fun e w'=>e=.returned (.bool (boxB x mv))∧Below w.heap.size w w':=by
 have HV:Hid (∀ wi,Below w.heap.size w wi→BoxV wi v x):=fun wi h=>hv.below h
 have HNM:Hid ((List.range x.mails.length).all (mailAt x)=false→boxB x mv=false):=boxB_noM
 have HNG:Hid ((List.range x.gones.length).all (goneAt x)=false→boxB x mv=false):=boxB_noG
 have HN1:Hid (nameB x.name=true):=hX1
 obtain ⟨u0,u1,u2,rfl,g0,g1,g2,i0,i1,i2,i3⟩:=hv
 have H0:Hid (∀ wi,Below w.heap.size w wi→Bs wi u0 x.name∧MailsV wi u1 x.mails∧GonesV wi u2 x.gones):=fun wi h=>⟨g0.below h,g1.below keepsMail h,g2.below keepsGone h⟩
 obtain ⟨a0,n0,c0,rfl⟩:=g0.form3
 obtain ⟨a1,c1,rfl,m0,m1⟩:=g1.form
 obtain ⟨a2,c2,rfl,m2,m3⟩:=g2.form
 clear g0 g1 g2
 have HX:Hid (Below w.heap.size w (w.alloc (.cells #[.slice a0 n0 c0,.int .i64 x.valid,.int .i64 x.next,.int .i64 x.seq,.slice a1 x.mails.length c1,.slice a2 x.gones.length c2,.int .i64 x.lost] 44))):=(Below.refl _ _).alloc (Nat.le_refl _) _
 have HK:Hid ((w.alloc (.cells #[.slice a0 n0 c0,.int .i64 x.valid,.int .i64 x.next,.int .i64 x.seq,.slice a1 x.mails.length c1,.slice a2 x.gones.length c2,.int .i64 x.lost] 44)).heap[w.heap.size]?=some (.cells #[.slice a0 n0 c0,.int .i64 x.valid,.int .i64 x.next,.int .i64 x.seq,.slice a1 x.mails.length c1,.slice a2 x.gones.length c2,.int .i64 x.lost] 44)):=box_new w _
 have hn:=l3name_any _ x.name _ (H0.out _ HX.out).1
 rw [hX1] at hn
 have z0:decide (x.valid < 1)=false:=by simpa using q0
 have z1:decide (mv < x.valid)=false:=by simpa using q1
 have z2:decide (x.next < 1)=false:=by simpa using q2
 have z3:decide (1000000 < x.next)=false:=by simpa using q3
 have z4:decide (x.seq < 0)=false:=by simpa using q4
 have z5:decide (1000000 < x.seq)=false:=by simpa using q5
 have z6:decide (12 < (x.mails.length:Int))=false:=by simpa using q6
 have z7:decide (40 < (x.gones.length:Int))=false:=by simpa using q7
 have z8:decide (x.lost < 0)=false:=by simpa using q8
 have z9:decide (x.seq < x.lost)=false:=by simpa using q9
 go_enter Tryd.func16,Tryd.ntmps16
 go_wp2_with fail
 refine hn.mono ?_
 rintro e w' ⟨rfl,rfl⟩
 clear hn hX1
 go_wp2
 clear z0 z1 z2 z3 z4 z5 z6 z7 z8 z9
 go_loopw [5,6] (fun i _ wr=>∃ k:Nat,k≤x.mails.length∧i=.int .i64 k∧Hid (∀ j,j < k→mailAt x j=true)∧Hid (wr.heap[w.heap.size]?=some (.cells #[.slice a0 n0 c0,.int .i64 x.valid,.int .i64 x.next,.int .i64 x.seq,.slice a1 x.mails.length c1,.slice a2 x.gones.length c2,.int .i64 x.lost] 44))∧Hid (Below w.heap.size w wr)) (fun i _ _=>x.mails.length - (intOf i).toNat)
 case atStart=>exact ⟨0,Nat.zero_le _,rfl,(fun j hj=>absurd hj (Nat.not_lt_zero _)),HK,HX⟩
 case round =>
  obtain ⟨k,hk,rfl,hA,hK,hB⟩:=hrel
  by_cases hlt:k < x.mails.length
  ·obtain ⟨m,hm⟩:∃ m,x.mails[k]?=some m:=⟨x.mails[k],List.getElem?_eq_getElem hlt⟩
   obtain ⟨b,off,cap',u,hv',hlb,d0,d1,d2,d3,hu,j0,j1,j2⟩:=MailsV.cell (H0.out wr hB.out).2.1 k m hm
   simp only [Value.slice.injEq,true_and] at hv'
   obtain ⟨rfl,rfl⟩:=hv'
   obtain ⟨ua,un,uc,rfl⟩:=hu.form3
   have hp:=prevU_ok q3 hk hA.out
   have HE:Hid (mailAt x k=(inB m.uid (prevU x.mails k+1) (x.next - 1) && (inB m.flags 0 31 && (inB m.seq 1 x.seq && textB m.text)))):=by simp [Hid,mailAt,hm]
   generalize hQ:prevU x.mails k=q at hp HE
   have HQ:Hid (prevU x.mails k=q):=hQ
   clear hQ hm
   obtain ⟨uid,flags,seq,text⟩:=m
   simp only at d0 d1 d2 d3 hu j0 j1 j2 HE
   have DR:Below (wr.alloc (.cells #[.int .i64 uid,.int .i64 flags,.int .i64 seq,.slice ua un uc] 67)).heap.size (wr.alloc (.cells #[.int .i64 uid,.int .i64 flags,.int .i64 seq,.slice ua un uc] 67)) (wr.alloc (.cells #[.int .i64 uid,.int .i64 flags,.int .i64 seq,.slice ua un uc] 67)).drew:=(Below.refl _ _).drew
   have HA1:Hid (Below wr.heap.size wr (wr.alloc (.cells #[.int .i64 uid,.int .i64 flags,.int .i64 seq,.slice ua un uc] 67))):=(Below.refl _ _).alloc (Nat.le_refl _) _
   have HB1:Hid (Below w.heap.size w (wr.alloc (.cells #[.int .i64 uid,.int .i64 flags,.int .i64 seq,.slice ua un uc] 67))):=Below.step hB.out HA1.out
   have HT:Hid (Calls Tryd.prog 35 #[.slice ua un uc] (wr.alloc (.cells #[.int .i64 uid,.int .i64 flags,.int .i64 seq,.slice ua un uc] 67)).drew fun e w'=>e=.returned (.bool (textB text))∧w'=(wr.alloc (.cells #[.int .i64 uid,.int .i64 flags,.int .i64 seq,.slice ua un uc] 67)).drew):=l3text_any _ text _ (hu.below (Below.step HA1.out DR))
   generalize textB text=XT at HE HT
   have HKm:Hid ((wr.alloc (.cells #[.int .i64 uid,.int .i64 flags,.int .i64 seq,.slice ua un uc] 67)).heap[wr.heap.size]?=some (.cells #[.int .i64 uid,.int .i64 flags,.int .i64 seq,.slice ua un uc] 67)):=box_new wr _
   have HKb:Hid ((wr.alloc (.cells #[.int .i64 uid,.int .i64 flags,.int .i64 seq,.slice ua un uc] 67)).heap[w.heap.size]?=some (.cells #[.slice a0 n0 c0,.int .i64 x.valid,.int .i64 x.next,.int .i64 x.seq,.slice (some ⟨b,off,none⟩) x.mails.length c1,.slice a2 x.gones.length c2,.int .i64 x.lost] 44)):=box_alloc hK.out _
   have HF:Hid (∀ w',Below (wr.alloc (.cells #[.int .i64 uid,.int .i64 flags,.int .i64 seq,.slice ua un uc] 67)).heap.size (wr.alloc (.cells #[.int .i64 uid,.int .i64 flags,.int .i64 seq,.slice ua un uc] 67)) w'→w'.cell? ⟨wr.heap.size,0,none⟩=some (.int .i64 uid)∧w'.cell? ⟨wr.heap.size,1,none⟩=some (.int .i64 flags)∧w'.cell? ⟨wr.heap.size,2,none⟩=some (.int .i64 seq)∧w'.cell? ⟨wr.heap.size,3,none⟩=some (.slice ua un uc)∧w'.cell? ⟨w.heap.size,2,none⟩=some (.int .i64 x.next)∧w'.cell? ⟨w.heap.size,3,none⟩=some (.int .i64 x.seq)∧w'.cell? ⟨w.heap.size,4,none⟩=some (.slice (some ⟨b,off,none⟩) x.mails.length c1)):=by
    intro w' h
    obtain ⟨r0,r1,r2,r3⟩:=bx4 (box_below h HKm.out)
    obtain ⟨s0,s1,s2,s3,s4,s5,s6⟩:=bx7 (box_below h HKb.out)
    exact ⟨r0,r1,r2,r3,s2,s3,s4⟩
   obtain ⟨e0,e1,e2,e3,e4,e5,e6⟩:=bx7 hK.out
   have hlA:=lt_of_heap hK.out
   clear hu
   by_cases hkz:(0:Int) < (k:Int)
   ·obtain ⟨j,hj⟩:∃ j,k=j+1:=⟨k - 1,by omega⟩
    have hjk:(j:Int) < (k:Int):=by omega
    have hjl:(j:Int) < (x.mails.length:Int):=by omega
    have hj0:(0:Int)≤(j:Int):=by omega
    have hw1:IntKind.i64.wrap ((k:Int) - 1)=(j:Int):=by rw [IntWalk.i64_in _ (by omega)];omega
    have hkN:0 < k:=by omega
    have hd:decide (0 < k)=true:=by simpa using hkN
    have HJ:Hid (k=j+1):=hj
    clear hj
    obtain ⟨m',hm'⟩:∃ m',x.mails[j]?=some m':=⟨x.mails[j]'(by have:=HJ.out;omega),List.getElem?_eq_getElem (by have:=HJ.out;omega)⟩
    obtain ⟨b2,off2,cap2,u2,hv2,hlb2,t0,-⟩:=MailsV.cell (H0.out wr hB.out).2.1 j m' hm'
    simp only [Value.slice.injEq,true_and,Option.some.injEq,Addr.mk.injEq,and_true] at hv2
    obtain ⟨⟨rfl,rfl⟩,rfl⟩:=hv2
    have HPU:Hid (m'.uid=q):=by rw [← HQ.out,HJ.out];simp [Hid,prevU,hm']
    generalize m'.uid=pu at t0 HPU
    clear hm'
    have HF2:Hid (∀ w',Below (wr.alloc (.cells #[.int .i64 uid,.int .i64 flags,.int .i64 seq,.slice ua un uc] 67)).heap.size (wr.alloc (.cells #[.int .i64 uid,.int .i64 flags,.int .i64 seq,.slice ua un uc] 67)) w'→w'.cell? ⟨wr.heap.size,0,none⟩=some (.int .i64 uid)∧w'.cell? ⟨wr.heap.size,1,none⟩=some (.int .i64 flags)∧w'.cell? ⟨wr.heap.size,2,none⟩=some (.int .i64 seq)∧w'.cell? ⟨wr.heap.size,3,none⟩=some (.slice ua un uc)∧w'.cell? ⟨w.heap.size,2,none⟩=some (.int .i64 x.next)∧w'.cell? ⟨w.heap.size,3,none⟩=some (.int .i64 x.seq)∧w'.cell? ⟨w.heap.size,4,none⟩=some (.slice (some ⟨b,off,none⟩) x.mails.length c1)∧w'.cell? ⟨b,off+j * 4,none⟩=some (.int .i64 pu)):=by
     intro w' h
     obtain ⟨r0,r1,r2,r3,s2,s3,s4⟩:=HF.out w' h
     exact ⟨r0,r1,r2,r3,s2,s3,s4,((Below.step HA1.out h).cell (p:=⟨b,off+j * 4,none⟩) hlb).trans t0⟩
    have HE2:Hid (mailAt x k = !(decide (uid < 1) || (decide (x.next≤uid) || (decide (uid≤pu) || (decide (flags < 0) || (decide (31 < flags) || (decide (seq < 1) || (decide (x.seq < seq) || !XT)))))))):=by rw [HE.out,← HPU.out];exact mailE1 (by rw [HPU.out];exact hp.1)
    clear HE
    generalize e82:decide (uid < 1)=B0 at HE2
    generalize e88:decide (x.next≤uid)=B1 at HE2
    generalize e103:decide (uid≤pu)=B2 at HE2
    generalize e109:decide (flags < 0)=B3 at HE2
    generalize e114:decide (31 < flags)=B4 at HE2
    generalize e119:decide (seq < 1)=B5 at HE2
    generalize e126:decide (x.seq < seq)=B6 at HE2
    rcases waysM1 B0 B1 B2 B3 B4 B5 B6 XT with rfl | ⟨rfl,rfl⟩ | ⟨rfl,rfl,rfl⟩ | ⟨rfl,rfl,rfl,rfl⟩ | ⟨rfl,rfl,rfl,rfl,rfl⟩ | ⟨rfl,rfl,rfl,rfl,rfl,rfl⟩ | ⟨rfl,rfl,rfl,rfl,rfl,rfl,rfl⟩ | ⟨rfl,rfl,rfl,rfl,rfl,rfl,rfl,rfl⟩ | ⟨rfl,rfl,rfl,rfl,rfl,rfl,rfl,rfl⟩
    all_goals first
    | exact absurd (HMA0.out k hlt) (by rw [show mailAt x k=false from HE2.out];decide)
    | (
      go_wp2
      refine wp_begin (S:=fun w'=>w'.cell? ⟨wr.heap.size,0,none⟩=some (.int .i64 uid)∧w'.cell? ⟨wr.heap.size,1,none⟩=some (.int .i64 flags)∧w'.cell? ⟨wr.heap.size,2,none⟩=some (.int .i64 seq)∧w'.cell? ⟨wr.heap.size,3,none⟩=some (.slice ua un uc)∧w'.cell? ⟨w.heap.size,2,none⟩=some (.int .i64 x.next)∧w'.cell? ⟨w.heap.size,3,none⟩=some (.int .i64 x.seq)∧w'.cell? ⟨w.heap.size,4,none⟩=some (.slice (some ⟨b,off,none⟩) x.mails.length c1)∧w'.cell? ⟨b,off+j * 4,none⟩=some (.int .i64 pu)) (tab_of (by kernel_rfl) tab7) (by kernel_rfl) (HF2.out _ DR) (fun hTb hHeld=>?_)
      refine tkq 0 80 hTb hHeld ?_;refine tkq 1 81 hTb hHeld ?_;refine tkq 2 82 hTb hHeld ?_;refine tkq 3 83 hTb hHeld ?_
      first | (have tt:=(show decide (uid < 1)=false from e82);clear tt;refine tkq 4 84 hTb hHeld ?_;refine tkq 5 85 hTb hHeld ?_;refine tkq 6 86 hTb hHeld ?_;refine tkq 7 87 hTb hHeld ?_;refine tkq 8 88 hTb hHeld ?_) | (refine skj (i:=4) (j:=9) [84,85,86,87,88] rfl hTb (fun _ _ _ _ _ h=>h) hHeld (by kernel_rfl) ?_;conv=>arg 7;dsimp only [List.foldl_cons,List.foldl_nil,setT,List.toList_toArray,put0,putS])
      refine tkq 9 89 hTb hHeld ?_;refine tkq 10 90 hTb hHeld ?_
      first | (have tt:=(show decide (x.next≤uid)=false from e88);clear tt;refine tkq 11 91 hTb hHeld ?_;refine tkq 12 92 hTb hHeld ?_;refine tkq 13 93 hTb hHeld ?_) | (refine skj (i:=11) (j:=14) [91,92,93] rfl hTb (fun _ _ _ _ _ h=>h) hHeld (by kernel_rfl) ?_;conv=>arg 7;dsimp only [List.foldl_cons,List.foldl_nil,setT,List.toList_toArray,put0,putS])
      first | (have tt:=(show decide (x.next≤uid)=false from e88);clear tt;refine tkq 14 94 hTb hHeld ?_;refine tkq 15 95 hTb hHeld ?_;refine tkq 16 96 hTb hHeld ?_;refine tkq 17 97 hTb hHeld ?_;refine tkq 18 98 hTb hHeld ?_;refine tkq 19 99 hTb hHeld ?_;refine tkq 20 100 hTb hHeld ?_;refine tkq 21 101 hTb hHeld ?_;refine tkq 22 102 hTb hHeld ?_;refine tkq 23 103 hTb hHeld ?_) | (refine skj (i:=14) (j:=24) [94,95,96,97,98,99,100,101,102,103] rfl hTb (fun _ _ _ _ _ h=>h) hHeld (by kernel_rfl) ?_;conv=>arg 7;dsimp only [List.foldl_cons,List.foldl_nil,setT,List.toList_toArray,put0,putS])
      first | (have tt:=(show decide (x.next≤uid)=false from e88);clear tt;refine tkq 24 104 hTb hHeld ?_) | (refine skj (i:=24) (j:=25) [104] rfl hTb (fun _ _ _ _ _ h=>h) hHeld (by kernel_rfl) ?_;conv=>arg 7;dsimp only [List.foldl_cons,List.foldl_nil,setT,List.toList_toArray,put0,putS])
      refine tkq 25 105 hTb hHeld ?_;refine tkq 26 106 hTb hHeld ?_
      first | (have tt:=(show decide (uid≤pu)=false from e103);clear tt;refine tkq 27 107 hTb hHeld ?_;refine tkq 28 108 hTb hHeld ?_;refine tkq 29 109 hTb hHeld ?_) | (refine skj (i:=27) (j:=30) [107,108,109] rfl hTb (fun _ _ _ _ _ h=>h) hHeld (by kernel_rfl) ?_;conv=>arg 7;dsimp only [List.foldl_cons,List.foldl_nil,setT,List.toList_toArray,put0,putS])
      refine tkq 30 110 hTb hHeld ?_;refine tkq 31 111 hTb hHeld ?_
      first | (have tt:=(show decide (flags < 0)=false from e109);clear tt;refine tkq 32 112 hTb hHeld ?_;refine tkq 33 113 hTb hHeld ?_;refine tkq 34 114 hTb hHeld ?_) | (refine skj (i:=32) (j:=35) [112,113,114] rfl hTb (fun _ _ _ _ _ h=>h) hHeld (by kernel_rfl) ?_;conv=>arg 7;dsimp only [List.foldl_cons,List.foldl_nil,setT,List.toList_toArray,put0,putS])
      refine tkq 35 115 hTb hHeld ?_;refine tkq 36 116 hTb hHeld ?_
      first | (have tt:=(show decide (31 < flags)=false from e114);clear tt;refine tkq 37 117 hTb hHeld ?_;refine tkq 38 118 hTb hHeld ?_;refine tkq 39 119 hTb hHeld ?_) | (refine skj (i:=37) (j:=40) [117,118,119] rfl hTb (fun _ _ _ _ _ h=>h) hHeld (by kernel_rfl) ?_;conv=>arg 7;dsimp only [List.foldl_cons,List.foldl_nil,setT,List.toList_toArray,put0,putS])
      refine tkq 40 120 hTb hHeld ?_;refine tkq 41 121 hTb hHeld ?_
      first | (have tt:=(show decide (seq < 1)=false from e119);clear tt;refine tkq 42 122 hTb hHeld ?_;refine tkq 43 123 hTb hHeld ?_;refine tkq 44 124 hTb hHeld ?_;refine tkq 45 125 hTb hHeld ?_;refine tkq 46 126 hTb hHeld ?_) | (refine skj (i:=42) (j:=47) [122,123,124,125,126] rfl hTb (fun _ _ _ _ _ h=>h) hHeld (by kernel_rfl) ?_;conv=>arg 7;dsimp only [List.foldl_cons,List.foldl_nil,setT,List.toList_toArray,put0,putS])
      refine tkq 47 127 hTb hHeld ?_;refine tkq 48 128 hTb hHeld ?_
      first | (have tt:=(show decide (x.seq < seq)=false from e126);clear tt;refine tkq 49 129 hTb hHeld ?_;refine tkq 50 130 hTb hHeld ?_;refine clp 51 hTb (by decide) ?_;refine AllReadyH.cons rfl (fun K hK=>?_) AllReadyH.nil;go_simp;refine HT.out.mono ?_;rintro e w2 ⟨rfl,rfl⟩;refine hK.out _ _ (HF2.out _ DR) (fun hHeld=>?_);clear hK K;refine wpAt_in (n:=54) (i:=51) (by decide) rfl rfl ?_;refine tkq 52 132 hTb hHeld ?_) | (refine skj (i:=49) (j:=53) [129,130,131,132] rfl hTb (fun _ _ _ _ _ h=>h) hHeld (by kernel_rfl) ?_;conv=>arg 7;dsimp only [List.foldl_cons,List.foldl_nil,setT,List.toList_toArray,put0,putS])
      refine tkq 53 133 hTb hHeld ?_
      refine wp_end hTb ?_
      have HV:Hid (mailAt x k=true):=HE2.out
      have HB2:Hid (Below w.heap.size w (wr.alloc (.cells #[.int .i64 uid,.int .i64 flags,.int .i64 seq,.slice ua un uc] 67)).drew):=Below.step HB1.out DR
      have HK2:Hid ((wr.alloc (.cells #[.int .i64 uid,.int .i64 flags,.int .i64 seq,.slice ua un uc] 67)).drew.heap[w.heap.size]?=some (.cells #[.slice a0 n0 c0,.int .i64 x.valid,.int .i64 x.next,.int .i64 x.seq,.slice (some ⟨b,off,none⟩) x.mails.length c1,.slice a2 x.gones.length c2,.int .i64 x.lost] 44)):=box_below DR HKb.out
      clear HF HF2 HKm HKb HA1 HT HB1
      repeat clear hHeld
      go_wp2
      go_roundw
      case rel =>
        refine ⟨k+1,by omega,by go_num,(show Hid _ from fun i hi=>?_),HK2,HB2⟩
        by_cases e:i=k
        · subst e;exact HE2.out
        · exact hA.out i (by omega)
      case measure=>simp [intOf];omega)
   ·have hkN:¬ 0 < k:=by omega
    have hd:decide (0 < k)=false:=by simpa using hkN
    have HPU:Hid (q=0):=by
              rw [← HQ.out];have:k=0:=by omega
              rw [this];rfl
    have HE2:Hid (mailAt x k = !(decide (uid < 1) || (decide (x.next≤uid) || (decide (flags < 0) || (decide (31 < flags) || (decide (seq < 1) || (decide (x.seq < seq) || !XT))))))):=by rw [HE.out,HPU.out];exact mailE0
    clear HE
    generalize e82:decide (uid < 1)=B0 at HE2
    generalize e88:decide (x.next≤uid)=B1 at HE2
    generalize e109:decide (flags < 0)=B2 at HE2
    generalize e114:decide (31 < flags)=B3 at HE2
    generalize e119:decide (seq < 1)=B4 at HE2
    generalize e126:decide (x.seq < seq)=B5 at HE2
    rcases waysM0 B0 B1 B2 B3 B4 B5 XT with rfl | ⟨rfl,rfl⟩ | ⟨rfl,rfl,rfl⟩ | ⟨rfl,rfl,rfl,rfl⟩ | ⟨rfl,rfl,rfl,rfl,rfl⟩ | ⟨rfl,rfl,rfl,rfl,rfl,rfl⟩ | ⟨rfl,rfl,rfl,rfl,rfl,rfl,rfl⟩ | ⟨rfl,rfl,rfl,rfl,rfl,rfl,rfl⟩
    all_goals first
    | exact absurd (HMA0.out k hlt) (by rw [show mailAt x k=false from HE2.out];decide)
    | (
      go_wp2
      refine wp_begin (S:=fun w'=>w'.cell? ⟨wr.heap.size,0,none⟩=some (.int .i64 uid)∧w'.cell? ⟨wr.heap.size,1,none⟩=some (.int .i64 flags)∧w'.cell? ⟨wr.heap.size,2,none⟩=some (.int .i64 seq)∧w'.cell? ⟨wr.heap.size,3,none⟩=some (.slice ua un uc)∧w'.cell? ⟨w.heap.size,2,none⟩=some (.int .i64 x.next)∧w'.cell? ⟨w.heap.size,3,none⟩=some (.int .i64 x.seq)∧w'.cell? ⟨w.heap.size,4,none⟩=some (.slice (some ⟨b,off,none⟩) x.mails.length c1)) (tab_of (by kernel_rfl) tab7) (by kernel_rfl) (HF.out _ DR) (fun hTb hHeld=>?_)
      refine tkq 0 80 hTb hHeld ?_;refine tkq 1 81 hTb hHeld ?_;refine tkq 2 82 hTb hHeld ?_;refine tkq 3 83 hTb hHeld ?_
      first | (have tt:=(show decide (uid < 1)=false from e82);clear tt;refine tkq 4 84 hTb hHeld ?_;refine tkq 5 85 hTb hHeld ?_;refine tkq 6 86 hTb hHeld ?_;refine tkq 7 87 hTb hHeld ?_;refine tkq 8 88 hTb hHeld ?_) | (refine skj (i:=4) (j:=9) [84,85,86,87,88] rfl hTb (fun _ _ _ _ _ h=>h) hHeld (by kernel_rfl) ?_;conv=>arg 7;dsimp only [List.foldl_cons,List.foldl_nil,setT,List.toList_toArray,put0,putS])
      refine tkq 9 89 hTb hHeld ?_;refine tkq 10 90 hTb hHeld ?_
      first | (have tt:=(show decide (x.next≤uid)=false from e88);clear tt;refine tkq 11 91 hTb hHeld ?_;refine tkq 12 92 hTb hHeld ?_;refine tkq 13 93 hTb hHeld ?_) | (refine skj (i:=11) (j:=14) [91,92,93] rfl hTb (fun _ _ _ _ _ h=>h) hHeld (by kernel_rfl) ?_;conv=>arg 7;dsimp only [List.foldl_cons,List.foldl_nil,setT,List.toList_toArray,put0,putS])
      refine skj (i:=14) (j:=24) [94,95,96,97,98,99,100,101,102,103] rfl hTb (fun _ _ _ _ _ h=>h) hHeld (by kernel_rfl) ?_
      conv=>arg 7;dsimp only [List.foldl_cons,List.foldl_nil,setT,List.toList_toArray,put0,putS]
      first | (have tt:=(show decide (x.next≤uid)=false from e88);clear tt;refine tkq 24 104 hTb hHeld ?_) | (refine skj (i:=24) (j:=25) [104] rfl hTb (fun _ _ _ _ _ h=>h) hHeld (by kernel_rfl) ?_;conv=>arg 7;dsimp only [List.foldl_cons,List.foldl_nil,setT,List.toList_toArray,put0,putS])
      refine tkq 25 105 hTb hHeld ?_;refine tkq 26 106 hTb hHeld ?_
      first | (have tt:=(show decide (x.next≤uid)=false from e88);clear tt;refine tkq 27 107 hTb hHeld ?_;refine tkq 28 108 hTb hHeld ?_;refine tkq 29 109 hTb hHeld ?_) | (refine skj (i:=27) (j:=30) [107,108,109] rfl hTb (fun _ _ _ _ _ h=>h) hHeld (by kernel_rfl) ?_;conv=>arg 7;dsimp only [List.foldl_cons,List.foldl_nil,setT,List.toList_toArray,put0,putS])
      refine tkq 30 110 hTb hHeld ?_;refine tkq 31 111 hTb hHeld ?_
      first | (have tt:=(show decide (flags < 0)=false from e109);clear tt;refine tkq 32 112 hTb hHeld ?_;refine tkq 33 113 hTb hHeld ?_;refine tkq 34 114 hTb hHeld ?_) | (refine skj (i:=32) (j:=35) [112,113,114] rfl hTb (fun _ _ _ _ _ h=>h) hHeld (by kernel_rfl) ?_;conv=>arg 7;dsimp only [List.foldl_cons,List.foldl_nil,setT,List.toList_toArray,put0,putS])
      refine tkq 35 115 hTb hHeld ?_;refine tkq 36 116 hTb hHeld ?_
      first | (have tt:=(show decide (31 < flags)=false from e114);clear tt;refine tkq 37 117 hTb hHeld ?_;refine tkq 38 118 hTb hHeld ?_;refine tkq 39 119 hTb hHeld ?_) | (refine skj (i:=37) (j:=40) [117,118,119] rfl hTb (fun _ _ _ _ _ h=>h) hHeld (by kernel_rfl) ?_;conv=>arg 7;dsimp only [List.foldl_cons,List.foldl_nil,setT,List.toList_toArray,put0,putS])
      refine tkq 40 120 hTb hHeld ?_;refine tkq 41 121 hTb hHeld ?_
      first | (have tt:=(show decide (seq < 1)=false from e119);clear tt;refine tkq 42 122 hTb hHeld ?_;refine tkq 43 123 hTb hHeld ?_;refine tkq 44 124 hTb hHeld ?_;refine tkq 45 125 hTb hHeld ?_;refine tkq 46 126 hTb hHeld ?_) | (refine skj (i:=42) (j:=47) [122,123,124,125,126] rfl hTb (fun _ _ _ _ _ h=>h) hHeld (by kernel_rfl) ?_;conv=>arg 7;dsimp only [List.foldl_cons,List.foldl_nil,setT,List.toList_toArray,put0,putS])
      refine tkq 47 127 hTb hHeld ?_;refine tkq 48 128 hTb hHeld ?_
      first | (have tt:=(show decide (x.seq < seq)=false from e126);clear tt;refine tkq 49 129 hTb hHeld ?_;refine tkq 50 130 hTb hHeld ?_;refine clp 51 hTb (by decide) ?_;refine AllReadyH.cons rfl (fun K hK=>?_) AllReadyH.nil;go_simp;refine HT.out.mono ?_;rintro e w2 ⟨rfl,rfl⟩;refine hK.out _ _ (HF.out _ DR) (fun hHeld=>?_);clear hK K;refine wpAt_in (n:=54) (i:=51) (by decide) rfl rfl ?_;refine tkq 52 132 hTb hHeld ?_) | (refine skj (i:=49) (j:=53) [129,130,131,132] rfl hTb (fun _ _ _ _ _ h=>h) hHeld (by kernel_rfl) ?_;conv=>arg 7;dsimp only [List.foldl_cons,List.foldl_nil,setT,List.toList_toArray,put0,putS])
      refine tkq 53 133 hTb hHeld ?_
      refine wp_end hTb ?_
      have HV:Hid (mailAt x k=true):=HE2.out
      have HB2:Hid (Below w.heap.size w (wr.alloc (.cells #[.int .i64 uid,.int .i64 flags,.int .i64 seq,.slice ua un uc] 67)).drew):=Below.step HB1.out DR
      have HK2:Hid ((wr.alloc (.cells #[.int .i64 uid,.int .i64 flags,.int .i64 seq,.slice ua un uc] 67)).drew.heap[w.heap.size]?=some (.cells #[.slice a0 n0 c0,.int .i64 x.valid,.int .i64 x.next,.int .i64 x.seq,.slice (some ⟨b,off,none⟩) x.mails.length c1,.slice a2 x.gones.length c2,.int .i64 x.lost] 44)):=box_below DR HKb.out
      clear HF HKm HKb HA1 HT HB1
      repeat clear hHeld
      go_wp2
      go_roundw
      case rel =>
        refine ⟨k+1,by omega,by go_num,(show Hid _ from fun i hi=>?_),HK2,HB2⟩
        by_cases e:i=k
        · subst e;exact HE2.out
        · exact hA.out i (by omega)
      case measure=>simp [intOf];omega)
  ·obtain rfl:k=x.mails.length:=by omega
   obtain ⟨e0,e1,e2,e3,e4,e5,e6⟩:=bx7 hK.out
   go_wp2
   clear hlt e0 e1 e2 e3 e4 e5 e6
   have HMA:Hid (∀ j,j < x.mails.length→mailAt x j=true):=hA.out
   clear hA
   go_loopw [7,8] (fun i _ wr=>∃ k:Nat,k≤x.gones.length∧i=.int .i64 k∧Hid (∀ j,j < k→goneAt x j=true)∧Hid (wr.heap[w.heap.size]?=some (.cells #[.slice a0 n0 c0,.int .i64 x.valid,.int .i64 x.next,.int .i64 x.seq,.slice a1 x.mails.length c1,.slice a2 x.gones.length c2,.int .i64 x.lost] 44))∧Hid (Below w.heap.size w wr)) (fun i _ _=>x.gones.length - (intOf i).toNat)
   case atStart=>exact ⟨0,Nat.zero_le _,rfl,(fun j hj=>absurd hj (Nat.not_lt_zero _)),hK,hB⟩
   case round =>
    clear hK hB
    obtain ⟨k,hk,rfl,hA,hK,hB⟩:=hrel
    by_cases hlt:k < x.gones.length
    ·obtain ⟨m,hm⟩:∃ m,x.gones[k]?=some m:=⟨x.gones[k],List.getElem?_eq_getElem hlt⟩
     obtain ⟨b,off,cap',hv',hlb,d0,d1,j0,j1⟩:=GonesV.cell (H0.out wr hB.out).2.2 k m hm
     simp only [Value.slice.injEq,true_and] at hv'
     obtain ⟨rfl,rfl⟩:=hv'
     have hms:=minS_ok hk hA.out
     have HE:Hid (goneAt x k=(inB m.uid 1 (x.next - 1) && (inB m.seq (minS x k) x.seq && (!(x.mails.any fun o=>decide (o.uid=m.uid)) && !((x.gones.take k).any fun o=>decide (o.uid=m.uid)))))):=by simp [Hid,goneAt,hm]
     have HEB:Hid (clsB x k=(if m.uid < 1 then 1 else if x.next≤m.uid then 2 else if (x.mails.any fun o=>decide (o.uid=m.uid))=true then 3 else if m.seq < 1 then 4 else if x.seq < m.seq then 5 else if (0:Int) < (k:Int) then (if m.seq < minS x k then 8 else if m.seq < x.lost then 9 else 10) else (if m.seq < x.lost then 6 else 7))):=by simp only [Hid,clsB,hm]
     generalize hQ:minS x k=ms at hms HE HEB
     have HQ:Hid (minS x k=ms):=hQ
     clear hQ hm
     obtain ⟨uid,seq⟩:=m
     simp only at d0 d1 j0 j1 HE HEB
     have hkc:k≤c2:=by omega
     have DR:Below (wr.alloc (.cells #[.int .i64 uid,.int .i64 seq] 65)).heap.size (wr.alloc (.cells #[.int .i64 uid,.int .i64 seq] 65)) (wr.alloc (.cells #[.int .i64 uid,.int .i64 seq] 65)).drew:=(Below.refl _ _).drew
     have HA1:Hid (Below wr.heap.size wr (wr.alloc (.cells #[.int .i64 uid,.int .i64 seq] 65))):=(Below.refl _ _).alloc (Nat.le_refl _) _
     have HB1:Hid (Below w.heap.size w (wr.alloc (.cells #[.int .i64 uid,.int .i64 seq] 65))):=Below.step hB.out HA1.out
     have HLM:Hid (∀ wi,Below wr.heap.size wr wi→Calls Tryd.prog 36 #[.agg #[.slice a0 n0 c0,.int .i64 x.valid,.int .i64 x.next,.int .i64 x.seq,.slice a1 x.mails.length c1,.slice (some ⟨b,off,none⟩) x.gones.length c2,.int .i64 x.lost],.int .i64 uid] wi fun e w'=>e=.returned (.int .i64 (firstI (fun m=>decide (m.uid=uid)) x.mails))∧Below wi.heap.size wi w'):=fun wi h=>l3mail_any _ x uid wi (HV.out _ (Below.step hB.out h))
     have HLG:Hid (∀ wi,Below wr.heap.size wr wi→Calls Tryd.prog 37 #[.slice (some ⟨b,off,none⟩) k c2,.int .i64 uid] wi fun e w'=>e=.returned (.bool ((x.gones.take k).any fun o=>decide (o.uid=uid)))∧w'=wi):=fun wi h=>l3gone_any _ (x.gones.take k) uid wi (((H0.out _ (Below.step hB.out h)).2.2).takeG k hk)
     have HMF:Hid ((x.mails.any fun o=>decide (o.uid=uid))=decide (0≤firstI (fun m=>decide (m.uid=uid)) x.mails)):=any_firstI _ _
     generalize (x.mails.any fun o=>decide (o.uid=uid))=M at HE HMF HEB
     generalize firstI (fun m=>decide (m.uid=uid)) x.mails=fi at HLM HMF
     generalize ((x.gones.take k).any fun o=>decide (o.uid=uid))=XG at HE HLG
     have HKm:Hid ((wr.alloc (.cells #[.int .i64 uid,.int .i64 seq] 65)).heap[wr.heap.size]?=some (.cells #[.int .i64 uid,.int .i64 seq] 65)):=box_new wr _
     have HKb:Hid ((wr.alloc (.cells #[.int .i64 uid,.int .i64 seq] 65)).heap[w.heap.size]?=some (.cells #[.slice a0 n0 c0,.int .i64 x.valid,.int .i64 x.next,.int .i64 x.seq,.slice a1 x.mails.length c1,.slice (some ⟨b,off,none⟩) x.gones.length c2,.int .i64 x.lost] 44)):=box_alloc hK.out _
     have HF:Hid (∀ w',Below (wr.alloc (.cells #[.int .i64 uid,.int .i64 seq] 65)).heap.size (wr.alloc (.cells #[.int .i64 uid,.int .i64 seq] 65)) w'→w'.cell? ⟨wr.heap.size,0,none⟩=some (.int .i64 uid)∧w'.cell? ⟨wr.heap.size,1,none⟩=some (.int .i64 seq)∧w'.cell? ⟨w.heap.size,0,none⟩=some (.slice a0 n0 c0)∧w'.cell? ⟨w.heap.size,1,none⟩=some (.int .i64 x.valid)∧w'.cell? ⟨w.heap.size,2,none⟩=some (.int .i64 x.next)∧w'.cell? ⟨w.heap.size,3,none⟩=some (.int .i64 x.seq)∧w'.cell? ⟨w.heap.size,4,none⟩=some (.slice a1 x.mails.length c1)∧w'.cell? ⟨w.heap.size,5,none⟩=some (.slice (some ⟨b,off,none⟩) x.gones.length c2)∧w'.cell? ⟨w.heap.size,6,none⟩=some (.int .i64 x.lost)):=by
       intro w' h
       obtain ⟨r0,r1⟩:=bx2 (box_below h HKm.out)
       obtain ⟨s0,s1,s2,s3,s4,s5,s6⟩:=bx7 (box_below h HKb.out)
       exact ⟨r0,r1,s0,s1,s2,s3,s4,s5,s6⟩
     obtain ⟨e0,e1,e2,e3,e4,e5,e6⟩:=bx7 hK.out
     have hlA:=lt_of_heap hK.out
     by_cases hkz:(0:Int) < (k:Int)
     · obtain ⟨j,hj⟩:∃ j,k=j+1:=⟨k - 1,by omega⟩
       have hjk:(j:Int) < (k:Int):=by omega
       have hjl:(j:Int) < (x.gones.length:Int):=by omega
       have hj0:(0:Int)≤(j:Int):=by omega
       have hw1:IntKind.i64.wrap ((k:Int) - 1)=(j:Int):=by rw [IntWalk.i64_in _ (by omega)];omega
       have hkN:0 < k:=by omega
       have hd:decide (0 < k)=true:=by simpa using hkN
       have HJ:Hid (k=j+1):=hj
       clear hj
       obtain ⟨m',hm'⟩:∃ m',x.gones[j]?=some m':=⟨x.gones[j]'(by have:=HJ.out;omega),List.getElem?_eq_getElem (by have:=HJ.out;omega)⟩
       obtain ⟨b2,off2,cap2,hv2,hlb2,-,t0,-⟩:=GonesV.cell (H0.out wr hB.out).2.2 j m' hm'
       simp only [Value.slice.injEq,true_and,Option.some.injEq,Addr.mk.injEq,and_true] at hv2
       obtain ⟨⟨rfl,rfl⟩,rfl⟩:=hv2
       have HPS:Hid (m'.seq=ms):=by rw [← HQ.out,HJ.out];simp [Hid,minS,hm']
       generalize m'.seq=ps at t0 HPS
       clear hm'
       have HF2:Hid (∀ w',Below (wr.alloc (.cells #[.int .i64 uid,.int .i64 seq] 65)).heap.size (wr.alloc (.cells #[.int .i64 uid,.int .i64 seq] 65)) w'→w'.cell? ⟨wr.heap.size,0,none⟩=some (.int .i64 uid)∧w'.cell? ⟨wr.heap.size,1,none⟩=some (.int .i64 seq)∧w'.cell? ⟨w.heap.size,0,none⟩=some (.slice a0 n0 c0)∧w'.cell? ⟨w.heap.size,1,none⟩=some (.int .i64 x.valid)∧w'.cell? ⟨w.heap.size,2,none⟩=some (.int .i64 x.next)∧w'.cell? ⟨w.heap.size,3,none⟩=some (.int .i64 x.seq)∧w'.cell? ⟨w.heap.size,4,none⟩=some (.slice a1 x.mails.length c1)∧w'.cell? ⟨w.heap.size,5,none⟩=some (.slice (some ⟨b,off,none⟩) x.gones.length c2)∧w'.cell? ⟨w.heap.size,6,none⟩=some (.int .i64 x.lost)∧w'.cell? ⟨b,off+j * 2+1,none⟩=some (.int .i64 ps)):=by
         intro w' h
         obtain ⟨r0,r1,s0,s1,s2,s3,s4,s5,s6⟩:=HF.out w' h
         exact ⟨r0,r1,s0,s1,s2,s3,s4,s5,s6,((Below.step HA1.out h).cell (p:=⟨b,off+j * 2+1,none⟩) hlb).trans t0⟩
       have HE2:Hid (goneAt x k = !(decide (uid < 1) || (decide (x.next≤uid) || (decide (0≤fi) || (decide (seq < 1) || (decide (x.seq < seq) || (decide (seq < ps) || (decide (seq < x.lost) || XG)))))))):=by have h1:=hms;rw [← HPS.out] at h1;rw [HE.out,HMF.out,← HPS.out];exact goneE1 h1.1 h1.2
       clear HE
       have HEB2:Hid (clsB x k=bif decide (uid < 1) then 1 else bif decide (x.next≤uid) then 2 else bif decide (0≤fi) then 3 else bif decide (seq < 1) then 4 else bif decide (x.seq < seq) then 5 else bif decide (seq < ps) then 8 else bif decide (seq < x.lost) then 9 else 10):=by rw [HEB.out,HMF.out];simp only [hkz,if_true,if_false,cond_eq_ite,decide_eq_true_eq,← HPS.out];trivial
       clear HEB
       generalize e148:decide (uid < 1)=B0 at HE2 HEB2
       generalize e154:decide (x.next≤uid)=B1 at HE2 HEB2
       generalize e161:decide (0≤fi)=B2 at HE2 HEB2
       generalize e166:decide (seq < 1)=B3 at HE2 HEB2
       generalize e173:decide (x.seq < seq)=B4 at HE2 HEB2
       generalize e188:decide (seq < ps)=B5 at HE2 HEB2
       generalize e196:decide (seq < x.lost)=B6 at HE2 HEB2
       rcases waysG1 B0 B1 B2 B3 B4 B5 B6 XG with rfl | ⟨rfl,rfl⟩ | ⟨rfl,rfl,rfl⟩ | ⟨rfl,rfl,rfl,rfl⟩ | ⟨rfl,rfl,rfl,rfl,rfl⟩ | ⟨rfl,rfl,rfl,rfl,rfl,rfl⟩ | ⟨rfl,rfl,rfl,rfl,rfl,rfl,rfl⟩ | ⟨rfl,rfl,rfl,rfl,rfl,rfl,rfl,rfl⟩ | ⟨rfl,rfl,rfl,rfl,rfl,rfl,rfl,rfl⟩
       all_goals first
       | (have HCL:=HGE.out k hlt hA.out HE2.out;rw [HEB2.out] at HCL;simp only [cond_true,cond_false] at HCL;omega)
       | (
          go_wp2
          refine wp_begin (S:=fun w'=>w'.cell? ⟨wr.heap.size,0,none⟩=some (.int .i64 uid)∧w'.cell? ⟨wr.heap.size,1,none⟩=some (.int .i64 seq)∧w'.cell? ⟨w.heap.size,0,none⟩=some (.slice a0 n0 c0)∧w'.cell? ⟨w.heap.size,1,none⟩=some (.int .i64 x.valid)∧w'.cell? ⟨w.heap.size,2,none⟩=some (.int .i64 x.next)∧w'.cell? ⟨w.heap.size,3,none⟩=some (.int .i64 x.seq)∧w'.cell? ⟨w.heap.size,4,none⟩=some (.slice a1 x.mails.length c1)∧w'.cell? ⟨w.heap.size,5,none⟩=some (.slice (some ⟨b,off,none⟩) x.gones.length c2)∧w'.cell? ⟨w.heap.size,6,none⟩=some (.int .i64 x.lost)∧w'.cell? ⟨b,off+j * 2+1,none⟩=some (.int .i64 ps)) (tab_of (by kernel_rfl) tab13) (by kernel_rfl) (HF2.out _ DR) (fun hTb hHeld=>?_)
          refine tkq 0 146 hTb hHeld ?_;refine tkq 1 147 hTb hHeld ?_;refine tkq 2 148 hTb hHeld ?_;refine tkq 3 149 hTb hHeld ?_
          first | (have tt:=(show decide (uid < 1)=false from e148);clear tt;refine tkq 4 150 hTb hHeld ?_;refine tkq 5 151 hTb hHeld ?_;refine tkq 6 152 hTb hHeld ?_;refine tkq 7 153 hTb hHeld ?_;refine tkq 8 154 hTb hHeld ?_) | (refine skj (i:=4) (j:=9) [150,151,152,153,154] rfl hTb (fun _ _ _ _ _ h=>h) hHeld (by kernel_rfl) ?_;conv=>arg 7;dsimp only [List.foldl_cons,List.foldl_nil,setT,List.toList_toArray,put0,putS])
          refine tkq 9 155 hTb hHeld ?_;refine tkq 10 156 hTb hHeld ?_
          first | (have tt:=(show decide (x.next≤uid)=false from e154);clear tt;refine tkq 11 157 hTb hHeld ?_;refine tkq 12 158 hTb hHeld ?_;refine tkq 13 159 hTb hHeld ?_;refine clp 14 hTb (by decide) ?_;refine AllReadyH.cons rfl (fun K hK=>?_) AllReadyH.nil;go_simp;refine (HLM.out _ (Below.step HA1.out DR)).mono ?_;rintro e w1 ⟨rfl,B⟩;refine hK.out _ _ (HF2.out _ (Below.step DR B)) (fun hHeld=>?_);clear hK K;refine wpAt_in (n:=61) (i:=14) (by decide) rfl rfl ?_;refine tkq 15 161 hTb hHeld ?_) | (refine skj (i:=11) (j:=16) [157,158,159,160,161] rfl hTb (fun _ _ _ _ _ h=>h) hHeld (by kernel_rfl) ?_;conv=>arg 7;dsimp only [List.foldl_cons,List.foldl_nil,setT,List.toList_toArray,put0,putS])
          refine tkq 16 162 hTb hHeld ?_;refine tkq 17 163 hTb hHeld ?_
          first | (have tt:=(show decide (0≤fi)=false from e161);clear tt;refine tkq 18 164 hTb hHeld ?_;refine tkq 19 165 hTb hHeld ?_;refine tkq 20 166 hTb hHeld ?_) | (refine skj (i:=18) (j:=21) [164,165,166] rfl hTb (fun _ _ _ _ _ h=>h) hHeld (by kernel_rfl) ?_;conv=>arg 7;dsimp only [List.foldl_cons,List.foldl_nil,setT,List.toList_toArray,put0,putS])
          refine tkq 21 167 hTb hHeld ?_;refine tkq 22 168 hTb hHeld ?_
          first | (have tt:=(show decide (seq < 1)=false from e166);clear tt;refine tkq 23 169 hTb hHeld ?_;refine tkq 24 170 hTb hHeld ?_;refine tkq 25 171 hTb hHeld ?_;refine tkq 26 172 hTb hHeld ?_;refine tkq 27 173 hTb hHeld ?_) | (refine skj (i:=23) (j:=28) [169,170,171,172,173] rfl hTb (fun _ _ _ _ _ h=>h) hHeld (by kernel_rfl) ?_;conv=>arg 7;dsimp only [List.foldl_cons,List.foldl_nil,setT,List.toList_toArray,put0,putS])
          refine tkq 28 174 hTb hHeld ?_;refine tkq 29 175 hTb hHeld ?_
          first | (have tt:=(show decide (x.seq < seq)=false from e173);clear tt;refine tkq 30 176 hTb hHeld ?_;refine tkq 31 177 hTb hHeld ?_;refine tkq 32 178 hTb hHeld ?_) | (refine skj (i:=30) (j:=33) [176,177,178] rfl hTb (fun _ _ _ _ _ h=>h) hHeld (by kernel_rfl) ?_;conv=>arg 7;dsimp only [List.foldl_cons,List.foldl_nil,setT,List.toList_toArray,put0,putS])
          first | (have tt:=(show decide (x.seq < seq)=false from e173);clear tt;refine tkq 33 179 hTb hHeld ?_;refine tkq 34 180 hTb hHeld ?_;refine tkq 35 181 hTb hHeld ?_;refine tkq 36 182 hTb hHeld ?_;refine tkq 37 183 hTb hHeld ?_;refine tkq 38 184 hTb hHeld ?_;refine tkq 39 185 hTb hHeld ?_;refine tkq 40 186 hTb hHeld ?_;refine tkq 41 187 hTb hHeld ?_;refine tkq 42 188 hTb hHeld ?_) | (refine skj (i:=33) (j:=43) [179,180,181,182,183,184,185,186,187,188] rfl hTb (fun _ _ _ _ _ h=>h) hHeld (by kernel_rfl) ?_;conv=>arg 7;dsimp only [List.foldl_cons,List.foldl_nil,setT,List.toList_toArray,put0,putS])
          first | (have tt:=(show decide (x.seq < seq)=false from e173);clear tt;refine tkq 43 189 hTb hHeld ?_) | (refine skj (i:=43) (j:=44) [189] rfl hTb (fun _ _ _ _ _ h=>h) hHeld (by kernel_rfl) ?_;conv=>arg 7;dsimp only [List.foldl_cons,List.foldl_nil,setT,List.toList_toArray,put0,putS])
          refine tkq 44 190 hTb hHeld ?_;refine tkq 45 191 hTb hHeld ?_
          first | (have tt:=(show decide (seq < ps)=false from e188);clear tt;refine tkq 46 192 hTb hHeld ?_;refine tkq 47 193 hTb hHeld ?_;refine tkq 48 194 hTb hHeld ?_;refine tkq 49 195 hTb hHeld ?_;refine tkq 50 196 hTb hHeld ?_) | (refine skj (i:=46) (j:=51) [192,193,194,195,196] rfl hTb (fun _ _ _ _ _ h=>h) hHeld (by kernel_rfl) ?_;conv=>arg 7;dsimp only [List.foldl_cons,List.foldl_nil,setT,List.toList_toArray,put0,putS])
          refine tkq 51 197 hTb hHeld ?_;refine tkq 52 198 hTb hHeld ?_
          first | (have tt:=(show decide (seq < x.lost)=false from e196);clear tt;refine tkq 53 199 hTb hHeld ?_;refine tkq 54 200 hTb hHeld ?_;refine tkq 55 201 hTb hHeld ?_;refine tkq 56 202 hTb hHeld ?_;refine tkq 57 203 hTb hHeld ?_;refine tkq 58 204 hTb hHeld ?_;refine clp 59 hTb (by decide) ?_;refine AllReadyH.cons rfl (fun K hK=>?_) AllReadyH.nil;go_simp;refine (HLG.out _ (Below.step (Below.step HA1.out DR) B)).mono ?_;rintro e w2 ⟨rfl,rfl⟩;refine hK.out _ _ (HF2.out _ (Below.step DR B)) (fun hHeld=>?_);clear hK K;refine wpAt_in (n:=61) (i:=59) (by decide) rfl rfl ?_) | (refine skj (i:=53) (j:=60) [199,200,201,202,203,204,205] rfl hTb (fun _ _ _ _ _ h=>h) hHeld (by kernel_rfl) ?_;conv=>arg 7;dsimp only [List.foldl_cons,List.foldl_nil,setT,List.toList_toArray,put0,putS])
          refine tkq 60 206 hTb hHeld ?_
          refine wp_end hTb ?_
          first
          | (
           have HV:Hid (goneAt x k=false):=HE2.out
           clear HF HF2 HKm HKb HA1 HLM HLG
           repeat clear hHeld
           go_wp2
           go_ret
           first | exact ⟨ret_b (HNG.out (rangeAll_no k hlt HV.out)),Below.step (Below.step HB1.out DR) B⟩ | exact ⟨ret_b (HNG.out (rangeAll_no k hlt HV.out)),Below.step HB1.out DR⟩)
          | (
           have HV:Hid (goneAt x k=true):=HE2.out
           have HB2:Hid (Below w.heap.size w w2):=Below.step (Below.step HB1.out DR) B
           have HK2:Hid (w2.heap[w.heap.size]?=some (.cells #[.slice a0 n0 c0,.int .i64 x.valid,.int .i64 x.next,.int .i64 x.seq,.slice a1 x.mails.length c1,.slice (some ⟨b,off,none⟩) x.gones.length c2,.int .i64 x.lost] 44)):=box_below B (box_below DR HKb.out)
           clear HF HF2 HKm HKb HA1 HLM HLG HB1
           repeat clear hHeld
           go_wp2
           go_roundw
           case rel =>
            refine ⟨k+1,by omega,by go_num,(show Hid _ from fun i hi=>?_),HK2,HB2⟩
            by_cases e:i=k
            ·subst e;exact HE2.out
            ·exact hA.out i (by omega)
           case measure=>simp [intOf];omega))
     · have hkN:¬ 0 < k:=by omega
       have hd:decide (0 < k)=false:=by simpa using hkN
       have HPS:Hid (ms≤1∨ms≤x.lost):=by
         have:k=0:=by omega
         rw [← HQ.out,this]
         simp only [Hid,minS]
         omega
       have HE2:Hid (goneAt x k = !(decide (uid < 1) || (decide (x.next≤uid) || (decide (0≤fi) || (decide (seq < 1) || (decide (x.seq < seq) || (decide (seq < x.lost) || XG))))))):=by rw [HE.out,HMF.out];exact goneE0 hms.1 hms.2 HPS.out
       clear HE
       have HEB2:Hid (clsB x k=bif decide (uid < 1) then 1 else bif decide (x.next≤uid) then 2 else bif decide (0≤fi) then 3 else bif decide (seq < 1) then 4 else bif decide (x.seq < seq) then 5 else bif decide (seq < x.lost) then 6 else 7):=by rw [HEB.out,HMF.out];simp only [hkz,if_true,if_false,cond_eq_ite,decide_eq_true_eq];trivial
       clear HEB
       generalize e148:decide (uid < 1)=B0 at HE2 HEB2
       generalize e154:decide (x.next≤uid)=B1 at HE2 HEB2
       generalize e161:decide (0≤fi)=B2 at HE2 HEB2
       generalize e166:decide (seq < 1)=B3 at HE2 HEB2
       generalize e173:decide (x.seq < seq)=B4 at HE2 HEB2
       generalize e196:decide (seq < x.lost)=B5 at HE2 HEB2
       rcases waysG0 B0 B1 B2 B3 B4 B5 XG with rfl | ⟨rfl,rfl⟩ | ⟨rfl,rfl,rfl⟩ | ⟨rfl,rfl,rfl,rfl⟩ | ⟨rfl,rfl,rfl,rfl,rfl⟩ | ⟨rfl,rfl,rfl,rfl,rfl,rfl⟩ | ⟨rfl,rfl,rfl,rfl,rfl,rfl,rfl⟩ | ⟨rfl,rfl,rfl,rfl,rfl,rfl,rfl⟩
       all_goals first
       | (have HCL:=HGE.out k hlt hA.out HE2.out;rw [HEB2.out] at HCL;simp only [cond_true,cond_false] at HCL;omega)
       | (
          go_wp2
          refine wp_begin (S:=fun w'=>w'.cell? ⟨wr.heap.size,0,none⟩=some (.int .i64 uid)∧w'.cell? ⟨wr.heap.size,1,none⟩=some (.int .i64 seq)∧w'.cell? ⟨w.heap.size,0,none⟩=some (.slice a0 n0 c0)∧w'.cell? ⟨w.heap.size,1,none⟩=some (.int .i64 x.valid)∧w'.cell? ⟨w.heap.size,2,none⟩=some (.int .i64 x.next)∧w'.cell? ⟨w.heap.size,3,none⟩=some (.int .i64 x.seq)∧w'.cell? ⟨w.heap.size,4,none⟩=some (.slice a1 x.mails.length c1)∧w'.cell? ⟨w.heap.size,5,none⟩=some (.slice (some ⟨b,off,none⟩) x.gones.length c2)∧w'.cell? ⟨w.heap.size,6,none⟩=some (.int .i64 x.lost)) (tab_of (by kernel_rfl) tab13) (by kernel_rfl) (HF.out _ DR) (fun hTb hHeld=>?_)
          refine tkq 0 146 hTb hHeld ?_;refine tkq 1 147 hTb hHeld ?_;refine tkq 2 148 hTb hHeld ?_;refine tkq 3 149 hTb hHeld ?_
          first | (have tt:=(show decide (uid < 1)=false from e148);clear tt;refine tkq 4 150 hTb hHeld ?_;refine tkq 5 151 hTb hHeld ?_;refine tkq 6 152 hTb hHeld ?_;refine tkq 7 153 hTb hHeld ?_;refine tkq 8 154 hTb hHeld ?_) | (refine skj (i:=4) (j:=9) [150,151,152,153,154] rfl hTb (fun _ _ _ _ _ h=>h) hHeld (by kernel_rfl) ?_;conv=>arg 7;dsimp only [List.foldl_cons,List.foldl_nil,setT,List.toList_toArray,put0,putS])
          refine tkq 9 155 hTb hHeld ?_;refine tkq 10 156 hTb hHeld ?_
          first | (have tt:=(show decide (x.next≤uid)=false from e154);clear tt;refine tkq 11 157 hTb hHeld ?_;refine tkq 12 158 hTb hHeld ?_;refine tkq 13 159 hTb hHeld ?_;refine clp 14 hTb (by decide) ?_;refine AllReadyH.cons rfl (fun K hK=>?_) AllReadyH.nil;go_simp;refine (HLM.out _ (Below.step HA1.out DR)).mono ?_;rintro e w1 ⟨rfl,B⟩;refine hK.out _ _ (HF.out _ (Below.step DR B)) (fun hHeld=>?_);clear hK K;refine wpAt_in (n:=61) (i:=14) (by decide) rfl rfl ?_;refine tkq 15 161 hTb hHeld ?_) | (refine skj (i:=11) (j:=16) [157,158,159,160,161] rfl hTb (fun _ _ _ _ _ h=>h) hHeld (by kernel_rfl) ?_;conv=>arg 7;dsimp only [List.foldl_cons,List.foldl_nil,setT,List.toList_toArray,put0,putS])
          refine tkq 16 162 hTb hHeld ?_;refine tkq 17 163 hTb hHeld ?_
          first | (have tt:=(show decide (0≤fi)=false from e161);clear tt;refine tkq 18 164 hTb hHeld ?_;refine tkq 19 165 hTb hHeld ?_;refine tkq 20 166 hTb hHeld ?_) | (refine skj (i:=18) (j:=21) [164,165,166] rfl hTb (fun _ _ _ _ _ h=>h) hHeld (by kernel_rfl) ?_;conv=>arg 7;dsimp only [List.foldl_cons,List.foldl_nil,setT,List.toList_toArray,put0,putS])
          refine tkq 21 167 hTb hHeld ?_;refine tkq 22 168 hTb hHeld ?_
          first | (have tt:=(show decide (seq < 1)=false from e166);clear tt;refine tkq 23 169 hTb hHeld ?_;refine tkq 24 170 hTb hHeld ?_;refine tkq 25 171 hTb hHeld ?_;refine tkq 26 172 hTb hHeld ?_;refine tkq 27 173 hTb hHeld ?_) | (refine skj (i:=23) (j:=28) [169,170,171,172,173] rfl hTb (fun _ _ _ _ _ h=>h) hHeld (by kernel_rfl) ?_;conv=>arg 7;dsimp only [List.foldl_cons,List.foldl_nil,setT,List.toList_toArray,put0,putS])
          refine tkq 28 174 hTb hHeld ?_;refine tkq 29 175 hTb hHeld ?_
          first | (have tt:=(show decide (x.seq < seq)=false from e173);clear tt;refine tkq 30 176 hTb hHeld ?_;refine tkq 31 177 hTb hHeld ?_;refine tkq 32 178 hTb hHeld ?_) | (refine skj (i:=30) (j:=33) [176,177,178] rfl hTb (fun _ _ _ _ _ h=>h) hHeld (by kernel_rfl) ?_;conv=>arg 7;dsimp only [List.foldl_cons,List.foldl_nil,setT,List.toList_toArray,put0,putS])
          refine skj (i:=33) (j:=43) [179,180,181,182,183,184,185,186,187,188] rfl hTb (fun _ _ _ _ _ h=>h) hHeld (by kernel_rfl) ?_
          conv=>arg 7;dsimp only [List.foldl_cons,List.foldl_nil,setT,List.toList_toArray,put0,putS]
          first | (have tt:=(show decide (x.seq < seq)=false from e173);clear tt;refine tkq 43 189 hTb hHeld ?_) | (refine skj (i:=43) (j:=44) [189] rfl hTb (fun _ _ _ _ _ h=>h) hHeld (by kernel_rfl) ?_;conv=>arg 7;dsimp only [List.foldl_cons,List.foldl_nil,setT,List.toList_toArray,put0,putS])
          refine tkq 44 190 hTb hHeld ?_;refine tkq 45 191 hTb hHeld ?_
          first | (have tt:=(show decide (x.seq < seq)=false from e173);clear tt;refine tkq 46 192 hTb hHeld ?_;refine tkq 47 193 hTb hHeld ?_;refine tkq 48 194 hTb hHeld ?_;refine tkq 49 195 hTb hHeld ?_;refine tkq 50 196 hTb hHeld ?_) | (refine skj (i:=46) (j:=51) [192,193,194,195,196] rfl hTb (fun _ _ _ _ _ h=>h) hHeld (by kernel_rfl) ?_;conv=>arg 7;dsimp only [List.foldl_cons,List.foldl_nil,setT,List.toList_toArray,put0,putS])
          refine tkq 51 197 hTb hHeld ?_;refine tkq 52 198 hTb hHeld ?_
          first | (have tt:=(show decide (seq < x.lost)=false from e196);clear tt;refine tkq 53 199 hTb hHeld ?_;refine tkq 54 200 hTb hHeld ?_;refine tkq 55 201 hTb hHeld ?_;refine tkq 56 202 hTb hHeld ?_;refine tkq 57 203 hTb hHeld ?_;refine tkq 58 204 hTb hHeld ?_;refine clp 59 hTb (by decide) ?_;refine AllReadyH.cons rfl (fun K hK=>?_) AllReadyH.nil;go_simp;refine (HLG.out _ (Below.step (Below.step HA1.out DR) B)).mono ?_;rintro e w2 ⟨rfl,rfl⟩;refine hK.out _ _ (HF.out _ (Below.step DR B)) (fun hHeld=>?_);clear hK K;refine wpAt_in (n:=61) (i:=59) (by decide) rfl rfl ?_) | (refine skj (i:=53) (j:=60) [199,200,201,202,203,204,205] rfl hTb (fun _ _ _ _ _ h=>h) hHeld (by kernel_rfl) ?_;conv=>arg 7;dsimp only [List.foldl_cons,List.foldl_nil,setT,List.toList_toArray,put0,putS])
          refine tkq 60 206 hTb hHeld ?_
          refine wp_end hTb ?_
          first
          | (
           have HV:Hid (goneAt x k=false):=HE2.out
           clear HF HKm HKb HA1 HLM HLG
           repeat clear hHeld
           go_wp2
           go_ret
           first | exact ⟨ret_b (HNG.out (rangeAll_no k hlt HV.out)),Below.step (Below.step HB1.out DR) B⟩ | exact ⟨ret_b (HNG.out (rangeAll_no k hlt HV.out)),Below.step HB1.out DR⟩)
          | (
           have HV:Hid (goneAt x k=true):=HE2.out
           have HB2:Hid (Below w.heap.size w w2):=Below.step (Below.step HB1.out DR) B
           have HK2:Hid (w2.heap[w.heap.size]?=some (.cells #[.slice a0 n0 c0,.int .i64 x.valid,.int .i64 x.next,.int .i64 x.seq,.slice a1 x.mails.length c1,.slice (some ⟨b,off,none⟩) x.gones.length c2,.int .i64 x.lost] 44)):=box_below B (box_below DR HKb.out)
           clear HF HKm HKb HA1 HLM HLG HB1
           repeat clear hHeld
           go_wp2
           go_roundw
           case rel =>
            refine ⟨k+1,by omega,by go_num,(show Hid _ from fun i hi=>?_),HK2,HB2⟩
            by_cases e:i=k
            ·subst e;exact HE2.out
            ·exact hA.out i (by omega)
           case measure=>simp [intOf];omega))
    ·obtain rfl:k=x.gones.length:=by omega
     obtain ⟨e0,e1,e2,e3,e4,e5,e6⟩:=bx7 hK.out
     go_wp2
     go_ret
     refine ⟨ret_b ?_,hB.out⟩
     have z1:=rangeAll_yes HMA.out
     have z2:=rangeAll_yes hA.out
     simp [boxB,mailsB,gonesB,inB,z1,z2,HN1.out,q0,q1,q2,q3,q4,q5,q8,q9]
     omega

end Go.Proofs.YtnlhkgoppjejeaaDoor
