/- The proof's texts, part 8. -/
import Derived.Test.YtnlhkgoppjejeaaDoorPart2
import Derived.Test.YtnlhkgoppjejeaaDoorPart3
import Derived.Test.YtnlhkgoppjejeaaDoorPart4
import Derived.Deep.RegionHeld3
import Derived.Test.YtnlhkgoppjejeaaDoorPart5
import Derived.Test.YtnlhkgoppjejeaaDoorPart6
import Derived.Test.YtnlhkgoppjejeaaDoorPart7
import Derived.Test.YtnlhkgoppjejeaaDoorPart1

/- What l3boxOk of package spec do. -/
namespace Go.Proofs.YtnlhkgoppjejeaaDoor
open Go.RowKit
set_option maxRecDepth 100000
set_option linter.unusedVariables false
set_option linter.unusedSimpArgs false

set_option maxRecDepth 100000 in
set_option maxHeartbeats 40000000 in
theorem l3boxOk_inM (v:Value) (x:BoxD) (mv:Int) (w:World) (hv:BoxV w v x) (hX1:nameB x.name=true) (q0:1≤x.valid) (q1:x.valid≤mv) (q2:1≤x.next) (q3:x.next≤1000000) (q4:0≤x.seq) (q5:x.seq≤1000000) (q6:(x.mails.length:Int)≤12) (q7:(x.gones.length:Int)≤40) (q8:0≤x.lost) (q9:x.lost≤x.seq) (HMB:Hid ((List.range x.mails.length).all (mailAt x)=false)) :
  Calls Tryd.prog 16 #[v,.int .i64 mv] w fun e w'=>e=.returned (.bool (boxB x mv))∧Below w.heap.size w w':=by
 have HV:Hid (∀ wi,Below w.heap.size w wi→BoxV wi v x):=fun wi h=>hv.below h
 have HNM:Hid ((List.range x.mails.length).all (mailAt x)=false→boxB x mv=false):=boxB_noM
 have HNG:Hid ((List.range x.gones.length).all (goneAt x)=false→boxB x mv=false):=boxB_noG
 have HN1:Hid (nameB x.name=true):=hX1
 obtain ⟨u0,u1,u2,rfl,g0,g1,g2,i0,i1,i2,i3⟩:=hv
 have H0:Hid (∀ wi,Below w.heap.size w wi→Bs wi u0 x.name∧MailsV wi u1 x.mails∧GonesV wi u2 x.gones):=fun wi h=>⟨g0.below h,g1.below keepsMail h,g2.below keepsGone h⟩
 obtain ⟨a0,n0,c0,rfl⟩:=g0.form3
 obtain ⟨a1,c1,rfl,m0,m1⟩:=g1.form
 obtain ⟨a2,c2,rfl,m2,m3⟩:=g2.form
 clear g0 g1 g2
 have HX:Hid (Below w.heap.size w (w.alloc (.cells #[.slice a0 n0 c0,.int .i64 x.valid,.int .i64 x.next,.int .i64 x.seq,.slice a1 x.mails.length c1,.slice a2 x.gones.length c2,.int .i64 x.lost] 44))):=(Below.refl _ _).alloc (Nat.le_refl _) _
 have HK:Hid ((w.alloc (.cells #[.slice a0 n0 c0,.int .i64 x.valid,.int .i64 x.next,.int .i64 x.seq,.slice a1 x.mails.length c1,.slice a2 x.gones.length c2,.int .i64 x.lost] 44)).heap[w.heap.size]?=some (.cells #[.slice a0 n0 c0,.int .i64 x.valid,.int .i64 x.next,.int .i64 x.seq,.slice a1 x.mails.length c1,.slice a2 x.gones.length c2,.int .i64 x.lost] 44)):=box_new w _
 have hn:=l3name_any _ x.name _ (H0.out _ HX.out).1
 rw [hX1] at hn
 have z0:decide (x.valid < 1)=false:=by simpa using q0
 have z1:decide (mv < x.valid)=false:=by simpa using q1
 have z2:decide (x.next < 1)=false:=by simpa using q2
 have z3:decide (1000000 < x.next)=false:=by simpa using q3
 have z4:decide (x.seq < 0)=false:=by simpa using q4
 have z5:decide (1000000 < x.seq)=false:=by simpa using q5
 have z6:decide (12 < (x.mails.length:Int))=false:=by simpa using q6
 have z7:decide (40 < (x.gones.length:Int))=false:=by simpa using q7
 have z8:decide (x.lost < 0)=false:=by simpa using q8
 have z9:decide (x.seq < x.lost)=false:=by simpa using q9
 go_enter Tryd.func16,Tryd.ntmps16
 go_wp2_with fail
 refine hn.mono ?_
 rintro e w' ⟨rfl,rfl⟩
 clear hn hX1
 go_wp2
 clear z0 z1 z2 z3 z4 z5 z6 z7 z8 z9
 go_loopw [5,6] (fun i _ wr=>∃ k:Nat,k≤x.mails.length∧i=.int .i64 k∧Hid (∀ j,j < k→mailAt x j=true)∧Hid (wr.heap[w.heap.size]?=some (.cells #[.slice a0 n0 c0,.int .i64 x.valid,.int .i64 x.next,.int .i64 x.seq,.slice a1 x.mails.length c1,.slice a2 x.gones.length c2,.int .i64 x.lost] 44))∧Hid (Below w.heap.size w wr)) (fun i _ _=>x.mails.length - (intOf i).toNat)
 case atStart=>exact ⟨0,Nat.zero_le _,rfl,(fun j hj=>absurd hj (Nat.not_lt_zero _)),HK,HX⟩
 case round =>
  obtain ⟨k,hk,rfl,hA,hK,hB⟩:=hrel
  by_cases hlt:k < x.mails.length
  ·obtain ⟨m,hm⟩:∃ m,x.mails[k]?=some m:=⟨x.mails[k],List.getElem?_eq_getElem hlt⟩
   obtain ⟨b,off,cap',u,hv',hlb,d0,d1,d2,d3,hu,j0,j1,j2⟩:=MailsV.cell (H0.out wr hB.out).2.1 k m hm
   simp only [Value.slice.injEq,true_and] at hv'
   obtain ⟨rfl,rfl⟩:=hv'
   obtain ⟨ua,un,uc,rfl⟩:=hu.form3
   have hp:=prevU_ok q3 hk hA.out
   have HE:Hid (mailAt x k=(inB m.uid (prevU x.mails k+1) (x.next - 1) && (inB m.flags 0 31 && (inB m.seq 1 x.seq && textB m.text)))):=by simp [Hid,mailAt,hm]
   generalize hQ:prevU x.mails k=q at hp HE
   have HQ:Hid (prevU x.mails k=q):=hQ
   clear hQ hm
   obtain ⟨uid,flags,seq,text⟩:=m
   simp only at d0 d1 d2 d3 hu j0 j1 j2 HE
   have DR:Below (wr.alloc (.cells #[.int .i64 uid,.int .i64 flags,.int .i64 seq,.slice ua un uc] 67)).heap.size (wr.alloc (.cells #[.int .i64 uid,.int .i64 flags,.int .i64 seq,.slice ua un uc] 67)) (wr.alloc (.cells #[.int .i64 uid,.int .i64 flags,.int .i64 seq,.slice ua un uc] 67)).drew:=(Below.refl _ _).drew
   have HA1:Hid (Below wr.heap.size wr (wr.alloc (.cells #[.int .i64 uid,.int .i64 flags,.int .i64 seq,.slice ua un uc] 67))):=(Below.refl _ _).alloc (Nat.le_refl _) _
   have HB1:Hid (Below w.heap.size w (wr.alloc (.cells #[.int .i64 uid,.int .i64 flags,.int .i64 seq,.slice ua un uc] 67))):=Below.step hB.out HA1.out
   have HT:Hid (Calls Tryd.prog 35 #[.slice ua un uc] (wr.alloc (.cells #[.int .i64 uid,.int .i64 flags,.int .i64 seq,.slice ua un uc] 67)).drew fun e w'=>e=.returned (.bool (textB text))∧w'=(wr.alloc (.cells #[.int .i64 uid,.int .i64 flags,.int .i64 seq,.slice ua un uc] 67)).drew):=l3text_any _ text _ (hu.below (Below.step HA1.out DR))
   generalize textB text=XT at HE HT
   have HKm:Hid ((wr.alloc (.cells #[.int .i64 uid,.int .i64 flags,.int .i64 seq,.slice ua un uc] 67)).heap[wr.heap.size]?=some (.cells #[.int .i64 uid,.int .i64 flags,.int .i64 seq,.slice ua un uc] 67)):=box_new wr _
   have HKb:Hid ((wr.alloc (.cells #[.int .i64 uid,.int .i64 flags,.int .i64 seq,.slice ua un uc] 67)).heap[w.heap.size]?=some (.cells #[.slice a0 n0 c0,.int .i64 x.valid,.int .i64 x.next,.int .i64 x.seq,.slice (some ⟨b,off,none⟩) x.mails.length c1,.slice a2 x.gones.length c2,.int .i64 x.lost] 44)):=box_alloc hK.out _
   have HF:Hid (∀ w',Below (wr.alloc (.cells #[.int .i64 uid,.int .i64 flags,.int .i64 seq,.slice ua un uc] 67)).heap.size (wr.alloc (.cells #[.int .i64 uid,.int .i64 flags,.int .i64 seq,.slice ua un uc] 67)) w'→w'.cell? ⟨wr.heap.size,0,none⟩=some (.int .i64 uid)∧w'.cell? ⟨wr.heap.size,1,none⟩=some (.int .i64 flags)∧w'.cell? ⟨wr.heap.size,2,none⟩=some (.int .i64 seq)∧w'.cell? ⟨wr.heap.size,3,none⟩=some (.slice ua un uc)∧w'.cell? ⟨w.heap.size,2,none⟩=some (.int .i64 x.next)∧w'.cell? ⟨w.heap.size,3,none⟩=some (.int .i64 x.seq)∧w'.cell? ⟨w.heap.size,4,none⟩=some (.slice (some ⟨b,off,none⟩) x.mails.length c1)):=by
    intro w' h
    obtain ⟨r0,r1,r2,r3⟩:=bx4 (box_below h HKm.out)
    obtain ⟨s0,s1,s2,s3,s4,s5,s6⟩:=bx7 (box_below h HKb.out)
    exact ⟨r0,r1,r2,r3,s2,s3,s4⟩
   obtain ⟨e0,e1,e2,e3,e4,e5,e6⟩:=bx7 hK.out
   have hlA:=lt_of_heap hK.out
   clear hu
   by_cases hkz:(0:Int) < (k:Int)
   ·obtain ⟨j,hj⟩:∃ j,k=j+1:=⟨k - 1,by omega⟩
    have hjk:(j:Int) < (k:Int):=by omega
    have hjl:(j:Int) < (x.mails.length:Int):=by omega
    have hj0:(0:Int)≤(j:Int):=by omega
    have hw1:IntKind.i64.wrap ((k:Int) - 1)=(j:Int):=by rw [IntWalk.i64_in _ (by omega)];omega
    have hkN:0 < k:=by omega
    have hd:decide (0 < k)=true:=by simpa using hkN
    have HJ:Hid (k=j+1):=hj
    clear hj
    obtain ⟨m',hm'⟩:∃ m',x.mails[j]?=some m':=⟨x.mails[j]'(by have:=HJ.out;omega),List.getElem?_eq_getElem (by have:=HJ.out;omega)⟩
    obtain ⟨b2,off2,cap2,u2,hv2,hlb2,t0,-⟩:=MailsV.cell (H0.out wr hB.out).2.1 j m' hm'
    simp only [Value.slice.injEq,true_and,Option.some.injEq,Addr.mk.injEq,and_true] at hv2
    obtain ⟨⟨rfl,rfl⟩,rfl⟩:=hv2
    have HPU:Hid (m'.uid=q):=by rw [← HQ.out,HJ.out];simp [Hid,prevU,hm']
    generalize m'.uid=pu at t0 HPU
    clear hm'
    have HF2:Hid (∀ w',Below (wr.alloc (.cells #[.int .i64 uid,.int .i64 flags,.int .i64 seq,.slice ua un uc] 67)).heap.size (wr.alloc (.cells #[.int .i64 uid,.int .i64 flags,.int .i64 seq,.slice ua un uc] 67)) w'→w'.cell? ⟨wr.heap.size,0,none⟩=some (.int .i64 uid)∧w'.cell? ⟨wr.heap.size,1,none⟩=some (.int .i64 flags)∧w'.cell? ⟨wr.heap.size,2,none⟩=some (.int .i64 seq)∧w'.cell? ⟨wr.heap.size,3,none⟩=some (.slice ua un uc)∧w'.cell? ⟨w.heap.size,2,none⟩=some (.int .i64 x.next)∧w'.cell? ⟨w.heap.size,3,none⟩=some (.int .i64 x.seq)∧w'.cell? ⟨w.heap.size,4,none⟩=some (.slice (some ⟨b,off,none⟩) x.mails.length c1)∧w'.cell? ⟨b,off+j * 4,none⟩=some (.int .i64 pu)):=by
     intro w' h
     obtain ⟨r0,r1,r2,r3,s2,s3,s4⟩:=HF.out w' h
     exact ⟨r0,r1,r2,r3,s2,s3,s4,((Below.step HA1.out h).cell (p:=⟨b,off+j * 4,none⟩) hlb).trans t0⟩
    have HE2:Hid (mailAt x k = !(decide (uid < 1) || (decide (x.next≤uid) || (decide (uid≤pu) || (decide (flags < 0) || (decide (31 < flags) || (decide (seq < 1) || (decide (x.seq < seq) || !XT)))))))):=by rw [HE.out,← HPU.out];exact mailE1 (by rw [HPU.out];exact hp.1)
    clear HE
    generalize e82:decide (uid < 1)=B0 at HE2
    generalize e88:decide (x.next≤uid)=B1 at HE2
    generalize e103:decide (uid≤pu)=B2 at HE2
    generalize e109:decide (flags < 0)=B3 at HE2
    generalize e114:decide (31 < flags)=B4 at HE2
    generalize e119:decide (seq < 1)=B5 at HE2
    generalize e126:decide (x.seq < seq)=B6 at HE2
    rcases waysM1 B0 B1 B2 B3 B4 B5 B6 XT with rfl | ⟨rfl,rfl⟩ | ⟨rfl,rfl,rfl⟩ | ⟨rfl,rfl,rfl,rfl⟩ | ⟨rfl,rfl,rfl,rfl,rfl⟩ | ⟨rfl,rfl,rfl,rfl,rfl,rfl⟩ | ⟨rfl,rfl,rfl,rfl,rfl,rfl,rfl⟩ | ⟨rfl,rfl,rfl,rfl,rfl,rfl,rfl,rfl⟩ | ⟨rfl,rfl,rfl,rfl,rfl,rfl,rfl,rfl⟩
    all_goals (
     go_wp2
     refine wp_begin (S:=fun w'=>w'.cell? ⟨wr.heap.size,0,none⟩=some (.int .i64 uid)∧w'.cell? ⟨wr.heap.size,1,none⟩=some (.int .i64 flags)∧w'.cell? ⟨wr.heap.size,2,none⟩=some (.int .i64 seq)∧w'.cell? ⟨wr.heap.size,3,none⟩=some (.slice ua un uc)∧w'.cell? ⟨w.heap.size,2,none⟩=some (.int .i64 x.next)∧w'.cell? ⟨w.heap.size,3,none⟩=some (.int .i64 x.seq)∧w'.cell? ⟨w.heap.size,4,none⟩=some (.slice (some ⟨b,off,none⟩) x.mails.length c1)∧w'.cell? ⟨b,off+j * 4,none⟩=some (.int .i64 pu)) (tab_of (by kernel_rfl) tab7) (by kernel_rfl) (HF2.out _ DR) (fun hTb hHeld=>?_)
     refine tkq 0 80 hTb hHeld ?_;refine tkq 1 81 hTb hHeld ?_;refine tkq 2 82 hTb hHeld ?_;refine tkq 3 83 hTb hHeld ?_
     first | (have tt:=(show decide (uid < 1)=false from e82);clear tt;refine tkq 4 84 hTb hHeld ?_;refine tkq 5 85 hTb hHeld ?_;refine tkq 6 86 hTb hHeld ?_;refine tkq 7 87 hTb hHeld ?_;refine tkq 8 88 hTb hHeld ?_) | (refine skj (i:=4) (j:=9) [84,85,86,87,88] rfl hTb (fun _ _ _ _ _ h=>h) hHeld (by kernel_rfl) ?_;conv=>arg 7;dsimp only [List.foldl_cons,List.foldl_nil,setT,List.toList_toArray,put0,putS])
     refine tkq 9 89 hTb hHeld ?_;refine tkq 10 90 hTb hHeld ?_
     first | (have tt:=(show decide (x.next≤uid)=false from e88);clear tt;refine tkq 11 91 hTb hHeld ?_;refine tkq 12 92 hTb hHeld ?_;refine tkq 13 93 hTb hHeld ?_) | (refine skj (i:=11) (j:=14) [91,92,93] rfl hTb (fun _ _ _ _ _ h=>h) hHeld (by kernel_rfl) ?_;conv=>arg 7;dsimp only [List.foldl_cons,List.foldl_nil,setT,List.toList_toArray,put0,putS])
     first | (have tt:=(show decide (x.next≤uid)=false from e88);clear tt;refine tkq 14 94 hTb hHeld ?_;refine tkq 15 95 hTb hHeld ?_;refine tkq 16 96 hTb hHeld ?_;refine tkq 17 97 hTb hHeld ?_;refine tkq 18 98 hTb hHeld ?_;refine tkq 19 99 hTb hHeld ?_;refine tkq 20 100 hTb hHeld ?_;refine tkq 21 101 hTb hHeld ?_;refine tkq 22 102 hTb hHeld ?_;refine tkq 23 103 hTb hHeld ?_) | (refine skj (i:=14) (j:=24) [94,95,96,97,98,99,100,101,102,103] rfl hTb (fun _ _ _ _ _ h=>h) hHeld (by kernel_rfl) ?_;conv=>arg 7;dsimp only [List.foldl_cons,List.foldl_nil,setT,List.toList_toArray,put0,putS])
     first | (have tt:=(show decide (x.next≤uid)=false from e88);clear tt;refine tkq 24 104 hTb hHeld ?_) | (refine skj (i:=24) (j:=25) [104] rfl hTb (fun _ _ _ _ _ h=>h) hHeld (by kernel_rfl) ?_;conv=>arg 7;dsimp only [List.foldl_cons,List.foldl_nil,setT,List.toList_toArray,put0,putS])
     refine tkq 25 105 hTb hHeld ?_;refine tkq 26 106 hTb hHeld ?_
     first | (have tt:=(show decide (uid≤pu)=false from e103);clear tt;refine tkq 27 107 hTb hHeld ?_;refine tkq 28 108 hTb hHeld ?_;refine tkq 29 109 hTb hHeld ?_) | (refine skj (i:=27) (j:=30) [107,108,109] rfl hTb (fun _ _ _ _ _ h=>h) hHeld (by kernel_rfl) ?_;conv=>arg 7;dsimp only [List.foldl_cons,List.foldl_nil,setT,List.toList_toArray,put0,putS])
     refine tkq 30 110 hTb hHeld ?_;refine tkq 31 111 hTb hHeld ?_
     first | (have tt:=(show decide (flags < 0)=false from e109);clear tt;refine tkq 32 112 hTb hHeld ?_;refine tkq 33 113 hTb hHeld ?_;refine tkq 34 114 hTb hHeld ?_) | (refine skj (i:=32) (j:=35) [112,113,114] rfl hTb (fun _ _ _ _ _ h=>h) hHeld (by kernel_rfl) ?_;conv=>arg 7;dsimp only [List.foldl_cons,List.foldl_nil,setT,List.toList_toArray,put0,putS])
     refine tkq 35 115 hTb hHeld ?_;refine tkq 36 116 hTb hHeld ?_
     first | (have tt:=(show decide (31 < flags)=false from e114);clear tt;refine tkq 37 117 hTb hHeld ?_;refine tkq 38 118 hTb hHeld ?_;refine tkq 39 119 hTb hHeld ?_) | (refine skj (i:=37) (j:=40) [117,118,119] rfl hTb (fun _ _ _ _ _ h=>h) hHeld (by kernel_rfl) ?_;conv=>arg 7;dsimp only [List.foldl_cons,List.foldl_nil,setT,List.toList_toArray,put0,putS])
     refine tkq 40 120 hTb hHeld ?_;refine tkq 41 121 hTb hHeld ?_
     first | (have tt:=(show decide (seq < 1)=false from e119);clear tt;refine tkq 42 122 hTb hHeld ?_;refine tkq 43 123 hTb hHeld ?_;refine tkq 44 124 hTb hHeld ?_;refine tkq 45 125 hTb hHeld ?_;refine tkq 46 126 hTb hHeld ?_) | (refine skj (i:=42) (j:=47) [122,123,124,125,126] rfl hTb (fun _ _ _ _ _ h=>h) hHeld (by kernel_rfl) ?_;conv=>arg 7;dsimp only [List.foldl_cons,List.foldl_nil,setT,List.toList_toArray,put0,putS])
     refine tkq 47 127 hTb hHeld ?_;refine tkq 48 128 hTb hHeld ?_
     first | (have tt:=(show decide (x.seq < seq)=false from e126);clear tt;refine tkq 49 129 hTb hHeld ?_;refine tkq 50 130 hTb hHeld ?_;refine clp 51 hTb (by decide) ?_;refine AllReadyH.cons rfl (fun K hK=>?_) AllReadyH.nil;go_simp;refine HT.out.mono ?_;rintro e w2 ⟨rfl,rfl⟩;refine hK.out _ _ (HF2.out _ DR) (fun hHeld=>?_);clear hK K;refine wpAt_in (n:=54) (i:=51) (by decide) rfl rfl ?_;refine tkq 52 132 hTb hHeld ?_) | (refine skj (i:=49) (j:=53) [129,130,131,132] rfl hTb (fun _ _ _ _ _ h=>h) hHeld (by kernel_rfl) ?_;conv=>arg 7;dsimp only [List.foldl_cons,List.foldl_nil,setT,List.toList_toArray,put0,putS])
     refine tkq 53 133 hTb hHeld ?_
     refine wp_end hTb ?_
     first
     | (
      have HV:Hid (mailAt x k=false):=HE2.out
      clear HF HF2 HKm HKb HA1 HT
      repeat clear hHeld
      go_wp2
      go_ret
      exact ⟨ret_b (HNM.out (rangeAll_no k hlt HV.out)),Below.step HB1.out DR⟩)
     | (
      have HV:Hid (mailAt x k=true):=HE2.out
      have HB2:Hid (Below w.heap.size w (wr.alloc (.cells #[.int .i64 uid,.int .i64 flags,.int .i64 seq,.slice ua un uc] 67)).drew):=Below.step HB1.out DR
      have HK2:Hid ((wr.alloc (.cells #[.int .i64 uid,.int .i64 flags,.int .i64 seq,.slice ua un uc] 67)).drew.heap[w.heap.size]?=some (.cells #[.slice a0 n0 c0,.int .i64 x.valid,.int .i64 x.next,.int .i64 x.seq,.slice (some ⟨b,off,none⟩) x.mails.length c1,.slice a2 x.gones.length c2,.int .i64 x.lost] 44)):=box_below DR HKb.out
      clear HF HF2 HKm HKb HA1 HT HB1
      repeat clear hHeld
      go_wp2
      go_roundw
      case rel =>
       refine ⟨k+1,by omega,by go_num,(show Hid _ from fun i hi=>?_),HK2,HB2⟩
       by_cases e:i=k
       ·subst e;exact HE2.out
       ·exact hA.out i (by omega)
      case measure=>simp [intOf];omega))
   ·have hkN:¬ 0 < k:=by omega
    have hd:decide (0 < k)=false:=by simpa using hkN
    have HPU:Hid (q=0):=by
         rw [← HQ.out];have:k=0:=by omega
         rw [this];rfl
    have HE2:Hid (mailAt x k = !(decide (uid < 1) || (decide (x.next≤uid) || (decide (flags < 0) || (decide (31 < flags) || (decide (seq < 1) || (decide (x.seq < seq) || !XT))))))):=by rw [HE.out,HPU.out];exact mailE0
    clear HE
    generalize e82:decide (uid < 1)=B0 at HE2
    generalize e88:decide (x.next≤uid)=B1 at HE2
    generalize e109:decide (flags < 0)=B2 at HE2
    generalize e114:decide (31 < flags)=B3 at HE2
    generalize e119:decide (seq < 1)=B4 at HE2
    generalize e126:decide (x.seq < seq)=B5 at HE2
    rcases waysM0 B0 B1 B2 B3 B4 B5 XT with rfl | ⟨rfl,rfl⟩ | ⟨rfl,rfl,rfl⟩ | ⟨rfl,rfl,rfl,rfl⟩ | ⟨rfl,rfl,rfl,rfl,rfl⟩ | ⟨rfl,rfl,rfl,rfl,rfl,rfl⟩ | ⟨rfl,rfl,rfl,rfl,rfl,rfl,rfl⟩ | ⟨rfl,rfl,rfl,rfl,rfl,rfl,rfl⟩
    all_goals (
     go_wp2
     refine wp_begin (S:=fun w'=>w'.cell? ⟨wr.heap.size,0,none⟩=some (.int .i64 uid)∧w'.cell? ⟨wr.heap.size,1,none⟩=some (.int .i64 flags)∧w'.cell? ⟨wr.heap.size,2,none⟩=some (.int .i64 seq)∧w'.cell? ⟨wr.heap.size,3,none⟩=some (.slice ua un uc)∧w'.cell? ⟨w.heap.size,2,none⟩=some (.int .i64 x.next)∧w'.cell? ⟨w.heap.size,3,none⟩=some (.int .i64 x.seq)∧w'.cell? ⟨w.heap.size,4,none⟩=some (.slice (some ⟨b,off,none⟩) x.mails.length c1)) (tab_of (by kernel_rfl) tab7) (by kernel_rfl) (HF.out _ DR) (fun hTb hHeld=>?_)
     refine tkq 0 80 hTb hHeld ?_;refine tkq 1 81 hTb hHeld ?_;refine tkq 2 82 hTb hHeld ?_;refine tkq 3 83 hTb hHeld ?_
     first | (have tt:=(show decide (uid < 1)=false from e82);clear tt;refine tkq 4 84 hTb hHeld ?_;refine tkq 5 85 hTb hHeld ?_;refine tkq 6 86 hTb hHeld ?_;refine tkq 7 87 hTb hHeld ?_;refine tkq 8 88 hTb hHeld ?_) | (refine skj (i:=4) (j:=9) [84,85,86,87,88] rfl hTb (fun _ _ _ _ _ h=>h) hHeld (by kernel_rfl) ?_;conv=>arg 7;dsimp only [List.foldl_cons,List.foldl_nil,setT,List.toList_toArray,put0,putS])
     refine tkq 9 89 hTb hHeld ?_;refine tkq 10 90 hTb hHeld ?_
     first | (have tt:=(show decide (x.next≤uid)=false from e88);clear tt;refine tkq 11 91 hTb hHeld ?_;refine tkq 12 92 hTb hHeld ?_;refine tkq 13 93 hTb hHeld ?_) | (refine skj (i:=11) (j:=14) [91,92,93] rfl hTb (fun _ _ _ _ _ h=>h) hHeld (by kernel_rfl) ?_;conv=>arg 7;dsimp only [List.foldl_cons,List.foldl_nil,setT,List.toList_toArray,put0,putS])
     refine skj (i:=14) (j:=24) [94,95,96,97,98,99,100,101,102,103] rfl hTb (fun _ _ _ _ _ h=>h) hHeld (by kernel_rfl) ?_
     conv=>arg 7;dsimp only [List.foldl_cons,List.foldl_nil,setT,List.toList_toArray,put0,putS]
     first | (have tt:=(show decide (x.next≤uid)=false from e88);clear tt;refine tkq 24 104 hTb hHeld ?_) | (refine skj (i:=24) (j:=25) [104] rfl hTb (fun _ _ _ _ _ h=>h) hHeld (by kernel_rfl) ?_;conv=>arg 7;dsimp only [List.foldl_cons,List.foldl_nil,setT,List.toList_toArray,put0,putS])
     refine tkq 25 105 hTb hHeld ?_;refine tkq 26 106 hTb hHeld ?_
     first | (have tt:=(show decide (x.next≤uid)=false from e88);clear tt;refine tkq 27 107 hTb hHeld ?_;refine tkq 28 108 hTb hHeld ?_;refine tkq 29 109 hTb hHeld ?_) | (refine skj (i:=27) (j:=30) [107,108,109] rfl hTb (fun _ _ _ _ _ h=>h) hHeld (by kernel_rfl) ?_;conv=>arg 7;dsimp only [List.foldl_cons,List.foldl_nil,setT,List.toList_toArray,put0,putS])
     refine tkq 30 110 hTb hHeld ?_;refine tkq 31 111 hTb hHeld ?_
     first | (have tt:=(show decide (flags < 0)=false from e109);clear tt;refine tkq 32 112 hTb hHeld ?_;refine tkq 33 113 hTb hHeld ?_;refine tkq 34 114 hTb hHeld ?_) | (refine skj (i:=32) (j:=35) [112,113,114] rfl hTb (fun _ _ _ _ _ h=>h) hHeld (by kernel_rfl) ?_;conv=>arg 7;dsimp only [List.foldl_cons,List.foldl_nil,setT,List.toList_toArray,put0,putS])
     refine tkq 35 115 hTb hHeld ?_;refine tkq 36 116 hTb hHeld ?_
     first | (have tt:=(show decide (31 < flags)=false from e114);clear tt;refine tkq 37 117 hTb hHeld ?_;refine tkq 38 118 hTb hHeld ?_;refine tkq 39 119 hTb hHeld ?_) | (refine skj (i:=37) (j:=40) [117,118,119] rfl hTb (fun _ _ _ _ _ h=>h) hHeld (by kernel_rfl) ?_;conv=>arg 7;dsimp only [List.foldl_cons,List.foldl_nil,setT,List.toList_toArray,put0,putS])
     refine tkq 40 120 hTb hHeld ?_;refine tkq 41 121 hTb hHeld ?_
     first | (have tt:=(show decide (seq < 1)=false from e119);clear tt;refine tkq 42 122 hTb hHeld ?_;refine tkq 43 123 hTb hHeld ?_;refine tkq 44 124 hTb hHeld ?_;refine tkq 45 125 hTb hHeld ?_;refine tkq 46 126 hTb hHeld ?_) | (refine skj (i:=42) (j:=47) [122,123,124,125,126] rfl hTb (fun _ _ _ _ _ h=>h) hHeld (by kernel_rfl) ?_;conv=>arg 7;dsimp only [List.foldl_cons,List.foldl_nil,setT,List.toList_toArray,put0,putS])
     refine tkq 47 127 hTb hHeld ?_;refine tkq 48 128 hTb hHeld ?_
     first | (have tt:=(show decide (x.seq < seq)=false from e126);clear tt;refine tkq 49 129 hTb hHeld ?_;refine tkq 50 130 hTb hHeld ?_;refine clp 51 hTb (by decide) ?_;refine AllReadyH.cons rfl (fun K hK=>?_) AllReadyH.nil;go_simp;refine HT.out.mono ?_;rintro e w2 ⟨rfl,rfl⟩;refine hK.out _ _ (HF.out _ DR) (fun hHeld=>?_);clear hK K;refine wpAt_in (n:=54) (i:=51) (by decide) rfl rfl ?_;refine tkq 52 132 hTb hHeld ?_) | (refine skj (i:=49) (j:=53) [129,130,131,132] rfl hTb (fun _ _ _ _ _ h=>h) hHeld (by kernel_rfl) ?_;conv=>arg 7;dsimp only [List.foldl_cons,List.foldl_nil,setT,List.toList_toArray,put0,putS])
     refine tkq 53 133 hTb hHeld ?_
     refine wp_end hTb ?_
     first
     | (
      have HV:Hid (mailAt x k=false):=HE2.out
      clear HF HKm HKb HA1 HT
      repeat clear hHeld
      go_wp2
      go_ret
      exact ⟨ret_b (HNM.out (rangeAll_no k hlt HV.out)),Below.step HB1.out DR⟩)
     | (
      have HV:Hid (mailAt x k=true):=HE2.out
      have HB2:Hid (Below w.heap.size w (wr.alloc (.cells #[.int .i64 uid,.int .i64 flags,.int .i64 seq,.slice ua un uc] 67)).drew):=Below.step HB1.out DR
      have HK2:Hid ((wr.alloc (.cells #[.int .i64 uid,.int .i64 flags,.int .i64 seq,.slice ua un uc] 67)).drew.heap[w.heap.size]?=some (.cells #[.slice a0 n0 c0,.int .i64 x.valid,.int .i64 x.next,.int .i64 x.seq,.slice (some ⟨b,off,none⟩) x.mails.length c1,.slice a2 x.gones.length c2,.int .i64 x.lost] 44)):=box_below DR HKb.out
      clear HF HKm HKb HA1 HT HB1
      repeat clear hHeld
      go_wp2
      go_roundw
      case rel =>
       refine ⟨k+1,by omega,by go_num,(show Hid _ from fun i hi=>?_),HK2,HB2⟩
       by_cases e:i=k
       ·subst e;exact HE2.out
       ·exact hA.out i (by omega)
      case measure=>simp [intOf];omega))
  ·obtain rfl:k=x.mails.length:=by omega
   exact absurd (rangeAll_yes hA.out) (by rw [HMB.out];decide)

end Go.Proofs.YtnlhkgoppjejeaaDoor

/- What l3boxOk of package spec does of every box. -/
namespace Go.Proofs.YtnlhkgoppjejeaaDoor
open Go.RowKit
set_option maxRecDepth 100000

theorem l3boxOk_in (v:Value) (x:BoxD) (mv:Int) (w:World) (hv:BoxV w v x) (hX1:nameB x.name=true) (q0:1≤x.valid) (q1:x.valid≤mv) (q2:1≤x.next) (q3:x.next≤1000000) (q4:0≤x.seq) (q5:x.seq≤1000000) (q6:(x.mails.length:Int)≤12) (q7:(x.gones.length:Int)≤40) (q8:0≤x.lost) (q9:x.lost≤x.seq) :
  Calls Tryd.prog 16 #[v,.int .i64 mv] w fun e w'=>e=.returned (.bool (boxB x mv))∧Below w.heap.size w w':=by
 cases h:(List.range x.mails.length).all (mailAt x) with
 | true =>
  have hA:∀ j,j < x.mails.length→mailAt x j=true:=fun j hj=>List.all_eq_true.1 h j (List.mem_range.2 hj)
  cases hg:(List.range x.gones.length).all (goneAt x) with
  | true=>exact l3boxOk_inJ v x mv w hv hX1 q0 q1 q2 q3 q4 q5 q6 q7 q8 q9 hA (fun k hk _ h=>by rw [List.all_eq_true.1 hg k (List.mem_range.2 hk)] at h;cases h)
  | false =>
   obtain ⟨kb,_,h1,h2⟩:=first_bad hg
   have hr:=clsB_range x kb
   by_cases h3':clsB x kb≤3
   ·exact l3boxOk_inJ v x mv w hv hX1 q0 q1 q2 q3 q4 q5 q6 q7 q8 q9 hA (fun k _ h3 h4=>by rw [only_bad h1 h2 h3 h4];omega)
   by_cases h5:clsB x kb≤5
   ·exact l3boxOk_inK v x mv w hv hX1 q0 q1 q2 q3 q4 q5 q6 q7 q8 q9 hA (fun k _ h3 h4=>by rw [only_bad h1 h2 h3 h4];omega)
   ·exact l3boxOk_inI v x mv w hv hX1 q0 q1 q2 q3 q4 q5 q6 q7 q8 q9 hA (fun k _ h3 h4=>by rw [only_bad h1 h2 h3 h4];omega)
 | false=>exact l3boxOk_inM v x mv w hv hX1 q0 q1 q2 q3 q4 q5 q6 q7 q8 q9 h

theorem boxB_no {x:BoxD} {mv:Int} (h:¬ (1≤x.valid∧x.valid≤mv∧1≤x.next∧x.next≤1000000∧0≤x.seq∧x.seq≤1000000∧(x.mails.length:Int)≤12∧(x.gones.length:Int)≤40∧0≤x.lost∧x.lost≤x.seq)):boxB x mv=false:=by
 rw [Bool.eq_false_iff]
 intro e
 simp only [boxB,mailsB,gonesB,inB,Bool.and_eq_true,decide_eq_true_eq] at e
 obtain ⟨-,⟨e1,e2⟩,⟨e3,e4⟩,⟨e5,e6⟩,⟨e7,e8⟩,⟨e9,-⟩,e10,-⟩:=e
 exact h ⟨e1,e2,e3,e4,e5,e6,by omega,by omega,e7,e8⟩

set_option maxRecDepth 100000 in
set_option maxHeartbeats 8000000 in
theorem l3boxOk_any (v:Value) (x:BoxD) (mv:Int) (w:World) (hv:BoxV w v x) :
  Calls Tryd.prog 16 #[v,.int .i64 mv] w fun e w'=>e=.returned (.bool (boxB x mv))∧Below w.heap.size w w':=by
 cases hX:nameB x.name with
 | true =>
  by_cases hC:1≤x.valid∧x.valid≤mv∧1≤x.next∧x.next≤1000000∧0≤x.seq∧x.seq≤1000000∧(x.mails.length:Int)≤12∧(x.gones.length:Int)≤40∧0≤x.lost∧x.lost≤x.seq
  ·obtain ⟨q0,q1,q2,q3,q4,q5,q6,q7,q8,q9⟩:=hC
   exact l3boxOk_in v x mv w hv hX q0 q1 q2 q3 q4 q5 q6 q7 q8 q9
  ·obtain ⟨u0,u1,u2,rfl,g0,g1,g2,-⟩:=hv
   have HX:Hid (∀ o,Below w.heap.size w (w.alloc o)):=fun o=>(Below.refl _ _).alloc (Nat.le_refl _) o
   have hn:∀ o,Calls Tryd.prog 34 #[u0] (w.alloc o) fun e w'=>e=.returned (.bool true)∧w'=w.alloc o:=fun o=>by
    have h:=l3name_any _ x.name _ (g0.below (HX.out o))
    rwa [hX] at h
   obtain ⟨a0,n0,c0,rfl⟩:=g0.form3
   obtain ⟨a1,c1,rfl,m0,m1⟩:=g1.form
   obtain ⟨a2,c2,rfl,m2,m3⟩:=g2.form
   clear g0 g1 g2 hX
   have HC:Hid (¬ (1≤x.valid∧x.valid≤mv∧1≤x.next∧x.next≤1000000∧0≤x.seq∧x.seq≤1000000∧(x.mails.length:Int)≤12∧(x.gones.length:Int)≤40∧0≤x.lost∧x.lost≤x.seq)):=hC
   clear hC
   go_enter Tryd.func16,Tryd.ntmps16
   go_wp2_with fail
   refine (hn _).mono ?_
   rintro e w' ⟨rfl,rfl⟩
   clear hn
   go_wp2
   all_goals first
    | (go_ret;exact ⟨ret_b (boxB_no HC.out),HX.out _⟩)
    | exact (HC.out ⟨by omega,by omega,by omega,by omega,by omega,by omega,by omega,by omega,by omega,by omega⟩).elim
 | false =>
  have HZ:Hid (boxB x mv=false):=by simp [Hid,boxB,hX]
  obtain ⟨u0,u1,u2,rfl,g0,g1,g2,-⟩:=hv
  have HX:Hid (∀ o,Below w.heap.size w (w.alloc o)):=fun o=>(Below.refl _ _).alloc (Nat.le_refl _) o
  have hn:∀ o,Calls Tryd.prog 34 #[u0] (w.alloc o) fun e w'=>e=.returned (.bool false)∧w'=w.alloc o:=fun o=>by
   have h:=l3name_any _ x.name _ (g0.below (HX.out o))
   rwa [hX] at h
  obtain ⟨a0,n0,c0,rfl⟩:=g0.form3
  obtain ⟨a1,c1,rfl,m0,m1⟩:=g1.form
  obtain ⟨a2,c2,rfl,m2,m3⟩:=g2.form
  clear g0 g1 g2 hX
  go_enter Tryd.func16,Tryd.ntmps16
  go_wp2_with fail
  refine (hn _).mono ?_
  rintro e w' ⟨rfl,rfl⟩
  clear hn
  go_wp2
  go_ret
  exact ⟨ret_b HZ.out,HX.out _⟩

end Go.Proofs.YtnlhkgoppjejeaaDoor

/- The error that says 'gave up'. -/
namespace Go.Proofs.YtnlhkgoppjejeaaDoor
open Go.RowKit

/-- The error that says 'gave up' lies in its variable. -/
def Gave (w:World) (ea:Addr):Prop:=w.cell? ⟨1,0,none⟩=some (.iface 127 (.pointer (some ea)))
theorem Gave.lt {w:World} {ea:Addr} (h:Gave w ea):1 < w.heap.size:=World.block_lt_of_cell? w ⟨1,0,none⟩ h
theorem Gave.below {w w':World} {ea:Addr} (h:Gave w ea) (hb:Below w.heap.size w w'):Gave w' ea:=(hb.cell (p:=⟨1,0,none⟩) h.lt).trans h
theorem Gave.gr {w w':World} {ea:Addr} {g:Nat} (h:Gave w ea) (hg:w.grownBy w' (some g)) (hne:g≠1):Gave w' ea:=by
 have:=hg.block 1 h.lt (by simp only [ne_eq,Option.some.injEq];exact fun e=>hne e.symm)
 show w'.cell? _=_
 have h2:w.cell? ⟨1,0,none⟩=_:=h
 rw [← h2]
 unfold World.cell?
 rw [this]
abbrev gaveUp (ea:Addr):Ending:=.panicked [{ v:=.iface 127 (.pointer (some ea)),recovered:=false }]

end Go.Proofs.YtnlhkgoppjejeaaDoor

/- A number read in two steps: how many bytes it has, then what they say. -/
namespace Go.Proofs.YtnlhkgoppjejeaaDoor
open Go.RowKit

/-- How many bytes the number has, i of them passed already; 0: there is none. -/
def szL:Nat→List Int→Nat
 | _,[]=>0
 | i,x :: r=>if x < 128 then (if x=0∧0 < i then 0 else i+1) else szL (i+1) r
/-- What the bytes say, seven bits each, the lowest first. -/
def valL:List Int→Int
 | []=>0
 | x :: r=>x % 128+128 * valL r

theorem szL_gt (i:Nat) (l:List Int):szL i l=0∨(i < szL i l∧szL i l≤i+l.length):=by
 induction l generalizing i with
 | nil=>left;rfl
 | cons x r ih =>
  unfold szL
  split
  ·split
   ·left;rfl
   ·right;simp
  ·rcases ih (i+1) with h | h
   ·left;exact h
   ·right;simp;omega

theorem dec_two (f i:Nat) (n sc:Int) (l:List Int) :
  dec f i n sc l=if szL i (l.take f)=0 then none else if 2147483647 < n+sc * valL (l.take (szL i (l.take f) - i)) then none else some (n+sc * valL (l.take (szL i (l.take f) - i)),szL i (l.take f)):=by
 induction f generalizing i n sc l with
 | zero=>simp [dec,szL]
 | succ f ih =>
  cases l with
  | nil=>simp [dec,szL]
  | cons x r =>
   simp only [dec,List.take_succ_cons,szL]
   by_cases hx:x < 128
   ·simp only [if_pos hx]
    by_cases hz:x=0∧0 < i
    ·simp [hz]
    ·have e:sc * valL [x]=x % 128 * sc:=by simp [valL,Int.mul_comm]
     simp only [hz,false_or]
     simp [e]
   ·simp only [if_neg hx]
    rw [ih]
    rcases szL_gt (i+1) (r.take f) with h | h
    ·simp [h]
    ·have hne:szL (i+1) (r.take f)≠0:=by omega
     have e:n+x % 128 * sc+sc * 128 * valL (r.take (szL (i+1) (r.take f) - (i+1)))=n+sc * valL ((x :: r).take (szL (i+1) (r.take f) - i)):=by
      rw [show szL (i+1) (r.take f) - i=(szL (i+1) (r.take f) - (i+1))+1 by omega,List.take_succ_cons,valL,Int.mul_add,Int.mul_comm (x % 128) sc,Int.mul_assoc,Int.add_assoc]
     rw [e]

end Go.Proofs.YtnlhkgoppjejeaaDoor
