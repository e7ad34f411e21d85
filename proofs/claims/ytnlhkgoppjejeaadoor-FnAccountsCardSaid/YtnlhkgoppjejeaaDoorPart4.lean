/- The proof's texts, part 4. -/
import Derived.Test.YtnlhkgoppjejeaaDoorPart3
import Derived.Test.YtnlhkgoppjejeaaDoorPart2
import Derived.Test.YtnlhkgoppjejeaaDoorPart1
import Derived.Deep.RegionHeld3

/- What seenOk and mailsOk of package impl do. -/
namespace Go.Proofs.YtnlhkgoppjejeaaDoor
open Go.RowKit Go.Shelf
set_option maxRecDepth 100000
set_option linter.unusedVariables false

set_option maxRecDepth 100000 in
set_option maxHeartbeats 1000000 in
theorem seenOk_any (v:Value) (l:List Int) (w:World) (hv:IntsV w v l) :
  Calls Tryd.prog 18 #[v] w fun e w'=>e=.returned (.bool (seenB l))∧w'=w:=by
 have HV:Hid (IntsV w v l):=hv
 obtain ⟨a,cap,rfl,hlc,hcm⟩:=hv.form
 clear hv
 by_cases h0:l.length≤60
 ·have HS:Hid (seenB l=(List.range l.length).all (seenAt l)):=by simp [Hid,seenB,h0]
  go_enter Tryd.func18,Tryd.ntmps18
  go_wp2
  go_loop [3,5,11] (fun q _ i=>∃ k:Nat,k≤l.length∧i=.int .i64 k∧q=.int .i64 (prevI l k)∧Hid (∀ j,j < k→seenAt l j=true)) (fun _ _ i=>l.length - (intOf i).toNat)
  case atStart=>exact ⟨0,Nat.zero_le _,rfl,rfl,fun j hj=>absurd hj (Nat.not_lt_zero _)⟩
  case round =>
   obtain ⟨k,hk,rfl,rfl,hA⟩:=hrel
   by_cases hlt:k < l.length
   ·obtain ⟨x,hx⟩:∃ x,l[k]?=some x:=⟨l[k],List.getElem?_eq_getElem hlt⟩
    obtain ⟨b,off,cap',hv',hlb,d0,i0⟩:=IntsV.cell HV.out k x hx
    simp only [Value.slice.injEq,true_and] at hv'
    obtain ⟨rfl,rfl⟩:=hv'
    have hp:=prevI_ok hk hA.out
    have HD:Hid (l.getD k 0=x):=by simp [Hid,List.getD,hx]
    have HE:Hid (seenAt l k=inB x (prevI l k+1) 1000000):=by show seenAt l k=_;unfold seenAt;rw [HD.out]
    generalize hQ:prevI l k=q at hp HE
    clear hQ
    obtain ⟨hp0,hp1,-⟩:=hp
    have hcall:=within_any x (q+1) 1000000
    generalize hX:inB x (q+1) 1000000=X at hcall HE
    clear hX hx
    cases X with
    | true =>
     go_wp2_with (go_at_call 17;refine (hcall _).mono ?_;rintro e w' ⟨rfl,rfl⟩)
     go_round
     case rel =>
      refine ⟨k+1,by omega,by go_num,by simp only [prevI];rw [HD.out],(show Hid _ from fun j hj=>?_)⟩
      by_cases e:j=k
      ·subst e;exact HE.out
      ·exact hA.out j (by omega)
     case measure=>simp [intOf];omega
    | false =>
     go_wp2_with (go_at_call 17;refine (hcall _).mono ?_;rintro e w' ⟨rfl,rfl⟩)
     go_ret
     exact ⟨ret_b (by rw [HS.out];exact rangeAll_no k hlt HE.out),rfl⟩
   ·obtain rfl:k=l.length:=by omega
    go_wp2
    go_ret
    exact ⟨ret_b (by rw [HS.out];exact rangeAll_yes hA.out),rfl⟩
 ·have HS:Hid (seenB l=false):=by simp [Hid,seenB,h0]
  go_enter Tryd.func18,Tryd.ntmps18
  go_wp2
  go_ret
  exact ⟨ret_b HS.out,rfl⟩

set_option maxRecDepth 100000 in
set_option maxHeartbeats 1000000 in
theorem mailsOk_any (v:Value) (x:BoxD) (w:World) (hv:BoxV w v x) (hn0:1≤x.next) (hn1:x.next≤1000000) :
  Calls Tryd.prog 39 #[v] w fun e w'=>e=.returned (.bool (mailsB x))∧Below w.heap.size w w':=by
 obtain ⟨u0,u1,u2,rfl,g0,g1,g2,i0,i1,i2,i3⟩:=hv
 have H0:Hid (∀ wi,Below w.heap.size w wi→Bs wi u0 x.name∧MailsV wi u1 x.mails∧GonesV wi u2 x.gones):=fun wi h=>⟨g0.below h,g1.below keepsMail h,g2.below keepsGone h⟩
 obtain ⟨a0,n0,c0,rfl⟩:=g0.form3
 obtain ⟨a1,c1,rfl,m0,m1⟩:=g1.form
 obtain ⟨a2,c2,rfl,m2,m3⟩:=g2.form
 clear g0 g1 g2
 have kA:=box_new w (.cells #[.slice a0 n0 c0,.int .i64 x.valid,.int .i64 x.next,.int .i64 x.seq,.slice a1 x.mails.length c1,.slice a2 x.gones.length c2,.int .i64 x.lost] 44)
 have X:Below w.heap.size w (w.alloc (.cells #[.slice a0 n0 c0,.int .i64 x.valid,.int .i64 x.next,.int .i64 x.seq,.slice a1 x.mails.length c1,.slice a2 x.gones.length c2,.int .i64 x.lost] 44)):=(Below.refl _ _).alloc (Nat.le_refl _) _
 by_cases h0:x.mails.length≤12
 ·have HS:Hid (mailsB x=(List.range x.mails.length).all (mailAt x)):=by simp [Hid,mailsB,h0]
  have HK:Hid ((w.alloc (.cells #[.slice a0 n0 c0,.int .i64 x.valid,.int .i64 x.next,.int .i64 x.seq,.slice a1 x.mails.length c1,.slice a2 x.gones.length c2,.int .i64 x.lost] 44)).heap[w.heap.size]?=some (.cells #[.slice a0 n0 c0,.int .i64 x.valid,.int .i64 x.next,.int .i64 x.seq,.slice a1 x.mails.length c1,.slice a2 x.gones.length c2,.int .i64 x.lost] 44)):=kA
  have HX:Hid (Below w.heap.size w (w.alloc (.cells #[.slice a0 n0 c0,.int .i64 x.valid,.int .i64 x.next,.int .i64 x.seq,.slice a1 x.mails.length c1,.slice a2 x.gones.length c2,.int .i64 x.lost] 44))):=X
  clear kA X
  go_enter Tryd.func39,Tryd.ntmps39
  go_wp2
  go_loopw [3,5,13] (fun q _ i wr=>∃ k:Nat,k≤x.mails.length∧i=.int .i64 k∧q=.int .i64 (prevU x.mails k)∧Hid (∀ j,j < k→mailAt x j=true)∧Hid (wr.heap[w.heap.size]?=some (.cells #[.slice a0 n0 c0,.int .i64 x.valid,.int .i64 x.next,.int .i64 x.seq,.slice a1 x.mails.length c1,.slice a2 x.gones.length c2,.int .i64 x.lost] 44))∧Hid (Below w.heap.size w wr)) (fun _ _ i _=>x.mails.length - (intOf i).toNat)
  case atStart=>exact ⟨0,Nat.zero_le _,rfl,rfl,(fun j hj=>absurd hj (Nat.not_lt_zero _)),HK,HX⟩
  case round =>
   obtain ⟨k,hk,rfl,rfl,hA,hK,hB⟩:=hrel
   by_cases hlt:k < x.mails.length
   ·obtain ⟨m,hm⟩:∃ m,x.mails[k]?=some m:=⟨x.mails[k],List.getElem?_eq_getElem hlt⟩
    obtain ⟨b,off,cap',u,hv',hlb,d0,d1,d2,d3,hu,j0,j1,j2⟩:=MailsV.cell (H0.out wr hB.out).2.1 k m hm
    simp only [Value.slice.injEq,true_and] at hv'
    obtain ⟨rfl,rfl⟩:=hv'
    obtain ⟨ua,un,uc,rfl⟩:=hu.form3
    have hp:=prevU_ok hn1 hk hA.out
    have HE:Hid (mailAt x k=(inB m.uid (prevU x.mails k+1) (x.next - 1) && (inB m.flags 0 31 && (inB m.seq 1 x.seq && textB m.text)))):=by simp [Hid,mailAt,hm]
    have HP1:Hid (prevU x.mails (k+1)=m.uid):=by simp [Hid,prevU,hm]
    generalize hQ:prevU x.mails k=q at hp HE
    clear hQ hm
    obtain ⟨hp0,hp1⟩:=hp
    obtain ⟨uid,flags,seq,text⟩:=m
    simp only at d0 d1 d2 d3 hu j0 j1 j2 HE HP1
    have c1':=within_any uid (q+1) (x.next - 1)
    have c2':=within_any flags 0 31
    have c3':=within_any seq 1 x.seq
    generalize inB uid (q+1) (x.next - 1)=X1 at c1' HE
    generalize inB flags 0 31=X2 at c2' HE
    generalize inB seq 1 x.seq=X3 at c3' HE
    have ab:Below wr.heap.size wr (wr.alloc (.cells #[.int .i64 uid,.int .i64 flags,.int .i64 seq,.slice ua un uc] 67)):=(Below.refl _ _).alloc (Nat.le_refl _) _
    have c4':=textOk_any _ text _ (hu.below ab)
    generalize textB text=X4 at c4' HE
    have hKA:=hK.out
    obtain ⟨e0,e1,e2,e3,e4,e5,e6⟩:=bx7 hKA
    have hlA:=lt_of_heap hKA
    have HKm:Hid ((wr.alloc (.cells #[.int .i64 uid,.int .i64 flags,.int .i64 seq,.slice ua un uc] 67)).heap[wr.heap.size]?=some (.cells #[.int .i64 uid,.int .i64 flags,.int .i64 seq,.slice ua un uc] 67)):=box_new wr _
    have HKb:Hid ((wr.alloc (.cells #[.int .i64 uid,.int .i64 flags,.int .i64 seq,.slice ua un uc] 67)).heap[w.heap.size]?=some (.cells #[.slice a0 n0 c0,.int .i64 x.valid,.int .i64 x.next,.int .i64 x.seq,.slice (some ⟨b,off,none⟩) x.mails.length c1,.slice a2 x.gones.length c2,.int .i64 x.lost] 44)):=box_alloc hKA _
    have HB1:Hid (Below w.heap.size w (wr.alloc (.cells #[.int .i64 uid,.int .i64 flags,.int .i64 seq,.slice ua un uc] 67))):=Below.step hB.out ab
    clear hKA hu ab hK hB
    go_wp2_with fail
    refine (c1' _).mono ?_
    rintro e w' ⟨rfl,rfl⟩
    cases X1 with
    | false =>
     go_wp2
     go_ret
     exact ⟨ret_b (by rw [HS.out];exact rangeAll_no k hlt HE.out),HB1.out⟩
    | true =>
    go_wp2_with fail
    refine (c2' _).mono ?_
    rintro e w' ⟨rfl,rfl⟩
    cases X2 with
    | false =>
     go_wp2
     go_ret
     exact ⟨ret_b (by rw [HS.out];exact rangeAll_no k hlt HE.out),HB1.out⟩
    | true =>
    go_wp2_with fail
    refine (c3' _).mono ?_
    rintro e w' ⟨rfl,rfl⟩
    cases X3 with
    | false =>
     go_wp2
     go_ret
     exact ⟨ret_b (by rw [HS.out];exact rangeAll_no k hlt HE.out),HB1.out⟩
    | true =>
    go_wp2_with fail
    refine c4'.mono ?_
    rintro e w2 ⟨rfl,B⟩
    have HB2:Hid (Below w.heap.size w w2):=Below.step HB1.out B
    have HKb2:Hid (w2.heap[w.heap.size]?=some (.cells #[.slice a0 n0 c0,.int .i64 x.valid,.int .i64 x.next,.int .i64 x.seq,.slice (some ⟨b,off,none⟩) x.mails.length c1,.slice a2 x.gones.length c2,.int .i64 x.lost] 44)):=box_below B HKb.out
    obtain ⟨t0,t1,t2,t3⟩:=bx4 (box_below B HKm.out)
    clear B HB1 HKb HKm
    cases X4 with
    | false =>
     go_wp2
     go_ret
     exact ⟨ret_b (by rw [HS.out];exact rangeAll_no k hlt HE.out),HB2.out⟩
    | true =>
    go_wp2
    go_roundw
    case rel =>
     refine ⟨k+1,by omega,by go_num,by rw [HP1.out],(show Hid _ from fun j hj=>?_),HKb2,HB2⟩
     by_cases e:j=k
     ·subst e;exact HE.out
     ·exact hA.out j (by omega)
    case measure=>simp [intOf];omega
   ·obtain rfl:k=x.mails.length:=by omega
    go_wp2
    go_ret
    exact ⟨ret_b (by rw [HS.out];exact rangeAll_yes hA.out),hB.out⟩
 ·have HS:Hid (mailsB x=false):=by simp [Hid,mailsB,h0]
  go_enter Tryd.func39,Tryd.ntmps39
  go_wp2
  go_ret
  exact ⟨ret_b HS.out,X⟩

end Go.Proofs.YtnlhkgoppjejeaaDoor

/- What gonesOk of package impl do. -/
namespace Go.Proofs.YtnlhkgoppjejeaaDoor
open Go.RowKit Go.Shelf
set_option maxRecDepth 100000
set_option linter.unusedVariables false

theorem Rd.takeG {α:Type} {sz:Nat} {E:World→List Value→α→Prop} {w:World} {a:Option Addr} {n cap:Nat} {l:List α} (h:Rd sz E w (.slice a n cap) l) (k:Nat) (hk:k≤l.length):Rd sz E w (.slice a k cap) (l.take k):=by
 obtain ⟨a',cap',cs,hv,h1,h2,h3,h4,h5⟩:=h
 simp only [Value.slice.injEq] at hv
 obtain ⟨rfl,-,rfl⟩:=hv
 have hl:(l.take k).length=k:=by simp;omega
 refine ⟨a,cap,cs,by rw [hl],by rw [hl];omega,h2,h3,fun i x hx=>?_,fun hp=>?_⟩
 ·rw [List.getElem?_take] at hx
  split at hx
  ·exact h4 i x hx
  ·cases hx
 ·rw [hl] at hp
  obtain ⟨b,off,ha,hlt,hc⟩:=h5 (by omega)
  exact ⟨b,off,ha,hlt,fun i j u hi hu=>hc i j u (by rw [hl] at hi;omega) hu⟩

set_option maxRecDepth 100000 in
set_option maxHeartbeats 1000000 in
theorem gonesOk1_any (u:Value) (m:MailD) (bg:Nat) (guid:Int) (w:World) (hu:MailV w u m) (hc:w.cell? ⟨bg,0,none⟩=some (.int .i64 guid)) (hb:bg < w.heap.size) :
  Calls Tryd.prog 57 #[u,.pointer (some ⟨bg,0,none⟩)] w fun e w'=>e=.returned (.bool (decide (m.uid=guid)))∧Below w.heap.size w w':=by
 obtain ⟨u,rfl,h,-⟩:=hu
 obtain ⟨ua,un,uc,rfl⟩:=h.form3
 clear h
 obtain ⟨uid,flags,seq,text⟩:=m
 simp only
 go_enter Tryd.func57,Tryd.ntmps57
 go_wp2
 go_ret
 exact ⟨ret_b (by rw [Bool.eq_iff_iff];simp),(Below.refl _ _).alloc (Nat.le_refl _) _⟩

set_option maxRecDepth 100000 in
set_option maxHeartbeats 1000000 in
theorem gonesOk2_any (u:Value) (m:GoneD) (bg:Nat) (guid:Int) (w:World) (hu:GoneV w u m) (hc:w.cell? ⟨bg,0,none⟩=some (.int .i64 guid)) (hb:bg < w.heap.size) :
  Calls Tryd.prog 59 #[u,.pointer (some ⟨bg,0,none⟩)] w fun e w'=>e=.returned (.bool (decide (m.uid=guid)))∧Below w.heap.size w w':=by
 unfold GoneV at hu
 subst hu
 obtain ⟨uid,seq⟩:=m
 simp only
 go_enter Tryd.func59,Tryd.ntmps59
 go_wp2
 go_ret
 exact ⟨ret_b (by rw [Bool.eq_iff_iff];simp),(Below.refl _ _).alloc (Nat.le_refl _) _⟩

set_option maxRecDepth 100000 in
set_option maxHeartbeats 1000000 in
theorem gonesOk_any (v:Value) (x:BoxD) (w:World) (hv:BoxV w v x) (hn0:1≤x.next) (hn1:x.next≤1000000) :
  Calls Tryd.prog 40 #[v] w fun e w'=>e=.returned (.bool (gonesB x))∧Below w.heap.size w w':=by
 obtain ⟨u0,u1,u2,rfl,g0,g1,g2,i0,i1,i2,i3⟩:=hv
 have H0:Hid (∀ wi,Below w.heap.size w wi→Bs wi u0 x.name∧MailsV wi u1 x.mails∧GonesV wi u2 x.gones):=fun wi h=>⟨g0.below h,g1.below keepsMail h,g2.below keepsGone h⟩
 obtain ⟨a0,n0,c0,rfl⟩:=g0.form3
 obtain ⟨a1,c1,rfl,m0,m1⟩:=g1.form
 obtain ⟨a2,c2,rfl,m2,m3⟩:=g2.form
 clear g0 g1 g2
 have kA:=box_new w (.cells #[.slice a0 n0 c0,.int .i64 x.valid,.int .i64 x.next,.int .i64 x.seq,.slice a1 x.mails.length c1,.slice a2 x.gones.length c2,.int .i64 x.lost] 44)
 have X:Below w.heap.size w (w.alloc (.cells #[.slice a0 n0 c0,.int .i64 x.valid,.int .i64 x.next,.int .i64 x.seq,.slice a1 x.mails.length c1,.slice a2 x.gones.length c2,.int .i64 x.lost] 44)):=(Below.refl _ _).alloc (Nat.le_refl _) _
 by_cases h0:x.gones.length≤40
 ·have HS:Hid (gonesB x=(List.range x.gones.length).all (goneAt x)):=by simp [Hid,gonesB,h0]
  have HK:Hid ((w.alloc (.cells #[.slice a0 n0 c0,.int .i64 x.valid,.int .i64 x.next,.int .i64 x.seq,.slice a1 x.mails.length c1,.slice a2 x.gones.length c2,.int .i64 x.lost] 44)).heap[w.heap.size]?=some (.cells #[.slice a0 n0 c0,.int .i64 x.valid,.int .i64 x.next,.int .i64 x.seq,.slice a1 x.mails.length c1,.slice a2 x.gones.length c2,.int .i64 x.lost] 44)):=kA
  have HX:Hid (Below w.heap.size w (w.alloc (.cells #[.slice a0 n0 c0,.int .i64 x.valid,.int .i64 x.next,.int .i64 x.seq,.slice a1 x.mails.length c1,.slice a2 x.gones.length c2,.int .i64 x.lost] 44))):=X
  clear kA X
  by_cases hml:1 < x.lost
  ·have hml0:Hid True:=trivial
   go_enter Tryd.func40,Tryd.ntmps40
   go_wp2
   go_loopw [3,4,5,16] (fun q _ _ i wr=>∃ k:Nat,k≤x.gones.length∧i=.int .i64 k∧q=.int .i64 (minS x k)∧Hid (∀ j,j < k→goneAt x j=true)∧Hid (wr.heap[w.heap.size]?=some (.cells #[.slice a0 n0 c0,.int .i64 x.valid,.int .i64 x.next,.int .i64 x.seq,.slice a1 x.mails.length c1,.slice a2 x.gones.length c2,.int .i64 x.lost] 44))∧Hid (Below w.heap.size w wr)) (fun _ _ _ i _=>x.gones.length - (intOf i).toNat)
   case atStart=>exact ⟨0,Nat.zero_le _,rfl,by simp [minS] <;> omega,(fun j hj=>absurd hj (Nat.not_lt_zero _)),HK,HX⟩
   case round =>
    obtain ⟨k,hk,rfl,rfl,hA,hK,hB⟩:=hrel
    by_cases hlt:k < x.gones.length
    ·obtain ⟨m,hm⟩:∃ m,x.gones[k]?=some m:=⟨x.gones[k],List.getElem?_eq_getElem hlt⟩
     obtain ⟨b,off,cap',hv',hlb,d0,d1,j0,j1⟩:=GonesV.cell (H0.out wr hB.out).2.2 k m hm
     simp only [Value.slice.injEq,true_and] at hv'
     obtain ⟨rfl,rfl⟩:=hv'
     have HE:Hid (goneAt x k=(inB m.uid 1 (x.next - 1) && (inB m.seq (minS x k) x.seq && (!(x.mails.any fun o=>decide (o.uid=m.uid)) && !((x.gones.take k).any fun o=>decide (o.uid=m.uid)))))):=by simp [Hid,goneAt,hm]
     have HP1:Hid (minS x (k+1)=m.seq):=by simp [Hid,minS,hm]
     generalize hQ:minS x k=q at HE
     clear hQ hm
     obtain ⟨uid,seq⟩:=m
     simp only at d0 d1 j0 j1 HE HP1
     have c1':=within_any uid 1 (x.next - 1)
     have c2':=within_any seq q x.seq
     generalize inB uid 1 (x.next - 1)=X1 at c1' HE
     generalize inB seq q x.seq=X2 at c2' HE
     have HKg:Hid ((wr.alloc (.cells #[.int .i64 uid,.int .i64 seq] 65)).heap[wr.heap.size]?=some (.cells #[.int .i64 uid,.int .i64 seq] 65)):=box_new wr _
     have HKb:Hid ((wr.alloc (.cells #[.int .i64 uid,.int .i64 seq] 65)).heap[w.heap.size]?=some (.cells #[.slice a0 n0 c0,.int .i64 x.valid,.int .i64 x.next,.int .i64 x.seq,.slice a1 x.mails.length c1,.slice (some ⟨b,off,none⟩) x.gones.length c2,.int .i64 x.lost] 44)):=box_alloc hK.out _
     have HB1:Hid (Below w.heap.size w (wr.alloc (.cells #[.int .i64 uid,.int .i64 seq] 65))):=Below.step hB.out ((Below.refl _ _).alloc (Nat.le_refl _) _)
     have c3':=containsFuncMail 57 #[.pointer (some ⟨wr.heap.size,0,none⟩)] (fun o=>decide (o.uid=uid)) _ x.mails _ (H0.out _ HB1.out).2.1 (fun args w=>by kernel_rfl) (fun wi o u hbi hu=>gonesOk1_any u o wr.heap.size uid wi hu (bx2 (box_below hbi HKg.out)).1 (lt_of_heap (box_below hbi HKg.out)))
     have HC4:Hid (∀ wi,Below (wr.alloc (.cells #[.int .i64 uid,.int .i64 seq] 65)).heap.size (wr.alloc (.cells #[.int .i64 uid,.int .i64 seq] 65)) wi→Calls Tryd.prog 58 #[.slice (some ⟨b,off,none⟩) k c2,.func (.func 59) #[] #[.pointer (some ⟨wr.heap.size,0,none⟩)]] wi fun e w'=>e=.returned (.bool ((x.gones.take k).any fun o=>decide (o.uid=uid)))∧Below wi.heap.size wi w'):=fun wi hbi =>
      containsFuncGone 59 #[.pointer (some ⟨wr.heap.size,0,none⟩)] (fun o=>decide (o.uid=uid)) _ (x.gones.take k) _ (((H0.out _ (Below.step HB1.out hbi)).2.2).takeG k hk) (fun args w=>by kernel_rfl) (fun wj o u hbj hu=>gonesOk2_any u o wr.heap.size uid wj hu (bx2 (box_below hbj (box_below hbi HKg.out))).1 (lt_of_heap (box_below hbj (box_below hbi HKg.out))))
     generalize (x.mails.any fun o=>decide (o.uid=uid))=X3 at c3' HE
     generalize ((x.gones.take k).any fun o=>decide (o.uid=uid))=X4 at HC4 HE
     obtain ⟨e0,e1,e2,e3,e4,e5,e6⟩:=bx7 hK.out
     have hlA:=lt_of_heap hK.out
     clear hK hB
     go_wp2_with fail
     refine (c1' _).mono ?_
     rintro e w' ⟨rfl,rfl⟩
     cases X1 with
     | false =>
      go_wp2
      go_ret
      exact ⟨ret_b (by rw [HS.out];exact rangeAll_no k hlt HE.out),HB1.out⟩
     | true =>
     go_wp2_with fail
     refine (c2' _).mono ?_
     rintro e w' ⟨rfl,rfl⟩
     cases X2 with
     | false =>
      go_wp2
      go_ret
      exact ⟨ret_b (by rw [HS.out];exact rangeAll_no k hlt HE.out),HB1.out⟩
     | true =>
     go_wp2_with fail
     refine c3'.mono ?_
     rintro e w2 ⟨rfl,B⟩
     have HB2:Hid (Below w.heap.size w w2):=Below.step HB1.out B
     have HKb2:Hid (w2.heap[w.heap.size]?=some (.cells #[.slice a0 n0 c0,.int .i64 x.valid,.int .i64 x.next,.int .i64 x.seq,.slice a1 x.mails.length c1,.slice (some ⟨b,off,none⟩) x.gones.length c2,.int .i64 x.lost] 44)):=box_below B HKb.out
     have HKg2:Hid (w2.heap[wr.heap.size]?=some (.cells #[.int .i64 uid,.int .i64 seq] 65)):=box_below B HKg.out
     have c4':=HC4.out w2 B
     obtain ⟨t0,t1⟩:=bx2 HKg2.out
     obtain ⟨s0,s1,s2,s3,s4,s5,s6⟩:=bx7 HKb2.out
     clear B HB1 HKb HKg HC4 e0 e1 e2 e3 e4 e5 e6
     cases X3 with
     | true =>
      go_wp2
      go_ret
      exact ⟨ret_b (by rw [HS.out];exact rangeAll_no k hlt HE.out),HB2.out⟩
     | false =>
     go_wp2_with fail
     refine c4'.mono ?_
     rintro e w3 ⟨rfl,B⟩
     have HB3:Hid (Below w.heap.size w w3):=Below.step HB2.out B
     have HKb3:Hid (w3.heap[w.heap.size]?=some (.cells #[.slice a0 n0 c0,.int .i64 x.valid,.int .i64 x.next,.int .i64 x.seq,.slice a1 x.mails.length c1,.slice (some ⟨b,off,none⟩) x.gones.length c2,.int .i64 x.lost] 44)):=box_below B HKb2.out
     clear t0 t1 s0 s1 s2 s3 s4 s5 s6
     obtain ⟨t0,t1⟩:=bx2 (box_below B HKg2.out)
     clear B HB2 HKb2 HKg2
     cases X4 with
     | true =>
      go_wp2
      go_ret
      exact ⟨ret_b (by rw [HS.out];exact rangeAll_no k hlt HE.out),HB3.out⟩
     | false =>
     go_wp2
     go_roundw
     case rel =>
      refine ⟨k+1,by omega,by go_num,by rw [HP1.out],(show Hid _ from fun j hj=>?_),HKb3,HB3⟩
      by_cases e:j=k
      ·subst e;exact HE.out
      ·exact hA.out j (by omega)
     case measure=>simp [intOf];omega
    ·obtain rfl:k=x.gones.length:=by omega
     go_wp2
     go_ret
     exact ⟨ret_b (by rw [HS.out];exact rangeAll_yes hA.out),hB.out⟩
  ·have hml':x.lost≤1:=by omega
   clear hml
   go_enter Tryd.func40,Tryd.ntmps40
   go_wp2
   go_loopw [3,4,5,16] (fun q _ _ i wr=>∃ k:Nat,k≤x.gones.length∧i=.int .i64 k∧q=.int .i64 (minS x k)∧Hid (∀ j,j < k→goneAt x j=true)∧Hid (wr.heap[w.heap.size]?=some (.cells #[.slice a0 n0 c0,.int .i64 x.valid,.int .i64 x.next,.int .i64 x.seq,.slice a1 x.mails.length c1,.slice a2 x.gones.length c2,.int .i64 x.lost] 44))∧Hid (Below w.heap.size w wr)) (fun _ _ _ i _=>x.gones.length - (intOf i).toNat)
   case atStart=>exact ⟨0,Nat.zero_le _,rfl,by simp [minS] <;> omega,(fun j hj=>absurd hj (Nat.not_lt_zero _)),HK,HX⟩
   case round =>
    obtain ⟨k,hk,rfl,rfl,hA,hK,hB⟩:=hrel
    by_cases hlt:k < x.gones.length
    ·obtain ⟨m,hm⟩:∃ m,x.gones[k]?=some m:=⟨x.gones[k],List.getElem?_eq_getElem hlt⟩
     obtain ⟨b,off,cap',hv',hlb,d0,d1,j0,j1⟩:=GonesV.cell (H0.out wr hB.out).2.2 k m hm
     simp only [Value.slice.injEq,true_and] at hv'
     obtain ⟨rfl,rfl⟩:=hv'
     have HE:Hid (goneAt x k=(inB m.uid 1 (x.next - 1) && (inB m.seq (minS x k) x.seq && (!(x.mails.any fun o=>decide (o.uid=m.uid)) && !((x.gones.take k).any fun o=>decide (o.uid=m.uid)))))):=by simp [Hid,goneAt,hm]
     have HP1:Hid (minS x (k+1)=m.seq):=by simp [Hid,minS,hm]
     generalize hQ:minS x k=q at HE
     clear hQ hm
     obtain ⟨uid,seq⟩:=m
     simp only at d0 d1 j0 j1 HE HP1
     have c1':=within_any uid 1 (x.next - 1)
     have c2':=within_any seq q x.seq
     generalize inB uid 1 (x.next - 1)=X1 at c1' HE
     generalize inB seq q x.seq=X2 at c2' HE
     have HKg:Hid ((wr.alloc (.cells #[.int .i64 uid,.int .i64 seq] 65)).heap[wr.heap.size]?=some (.cells #[.int .i64 uid,.int .i64 seq] 65)):=box_new wr _
     have HKb:Hid ((wr.alloc (.cells #[.int .i64 uid,.int .i64 seq] 65)).heap[w.heap.size]?=some (.cells #[.slice a0 n0 c0,.int .i64 x.valid,.int .i64 x.next,.int .i64 x.seq,.slice a1 x.mails.length c1,.slice (some ⟨b,off,none⟩) x.gones.length c2,.int .i64 x.lost] 44)):=box_alloc hK.out _
     have HB1:Hid (Below w.heap.size w (wr.alloc (.cells #[.int .i64 uid,.int .i64 seq] 65))):=Below.step hB.out ((Below.refl _ _).alloc (Nat.le_refl _) _)
     have c3':=containsFuncMail 57 #[.pointer (some ⟨wr.heap.size,0,none⟩)] (fun o=>decide (o.uid=uid)) _ x.mails _ (H0.out _ HB1.out).2.1 (fun args w=>by kernel_rfl) (fun wi o u hbi hu=>gonesOk1_any u o wr.heap.size uid wi hu (bx2 (box_below hbi HKg.out)).1 (lt_of_heap (box_below hbi HKg.out)))
     have HC4:Hid (∀ wi,Below (wr.alloc (.cells #[.int .i64 uid,.int .i64 seq] 65)).heap.size (wr.alloc (.cells #[.int .i64 uid,.int .i64 seq] 65)) wi→Calls Tryd.prog 58 #[.slice (some ⟨b,off,none⟩) k c2,.func (.func 59) #[] #[.pointer (some ⟨wr.heap.size,0,none⟩)]] wi fun e w'=>e=.returned (.bool ((x.gones.take k).any fun o=>decide (o.uid=uid)))∧Below wi.heap.size wi w'):=fun wi hbi =>
      containsFuncGone 59 #[.pointer (some ⟨wr.heap.size,0,none⟩)] (fun o=>decide (o.uid=uid)) _ (x.gones.take k) _ (((H0.out _ (Below.step HB1.out hbi)).2.2).takeG k hk) (fun args w=>by kernel_rfl) (fun wj o u hbj hu=>gonesOk2_any u o wr.heap.size uid wj hu (bx2 (box_below hbj (box_below hbi HKg.out))).1 (lt_of_heap (box_below hbj (box_below hbi HKg.out))))
     generalize (x.mails.any fun o=>decide (o.uid=uid))=X3 at c3' HE
     generalize ((x.gones.take k).any fun o=>decide (o.uid=uid))=X4 at HC4 HE
     obtain ⟨e0,e1,e2,e3,e4,e5,e6⟩:=bx7 hK.out
     have hlA:=lt_of_heap hK.out
     clear hK hB
     go_wp2_with fail
     refine (c1' _).mono ?_
     rintro e w' ⟨rfl,rfl⟩
     cases X1 with
     | false =>
      go_wp2
      go_ret
      exact ⟨ret_b (by rw [HS.out];exact rangeAll_no k hlt HE.out),HB1.out⟩
     | true =>
     go_wp2_with fail
     refine (c2' _).mono ?_
     rintro e w' ⟨rfl,rfl⟩
     cases X2 with
     | false =>
      go_wp2
      go_ret
      exact ⟨ret_b (by rw [HS.out];exact rangeAll_no k hlt HE.out),HB1.out⟩
     | true =>
     go_wp2_with fail
     refine c3'.mono ?_
     rintro e w2 ⟨rfl,B⟩
     have HB2:Hid (Below w.heap.size w w2):=Below.step HB1.out B
     have HKb2:Hid (w2.heap[w.heap.size]?=some (.cells #[.slice a0 n0 c0,.int .i64 x.valid,.int .i64 x.next,.int .i64 x.seq,.slice a1 x.mails.length c1,.slice (some ⟨b,off,none⟩) x.gones.length c2,.int .i64 x.lost] 44)):=box_below B HKb.out
     have HKg2:Hid (w2.heap[wr.heap.size]?=some (.cells #[.int .i64 uid,.int .i64 seq] 65)):=box_below B HKg.out
     have c4':=HC4.out w2 B
     obtain ⟨t0,t1⟩:=bx2 HKg2.out
     obtain ⟨s0,s1,s2,s3,s4,s5,s6⟩:=bx7 HKb2.out
     clear B HB1 HKb HKg HC4 e0 e1 e2 e3 e4 e5 e6
     cases X3 with
     | true =>
      go_wp2
      go_ret
      exact ⟨ret_b (by rw [HS.out];exact rangeAll_no k hlt HE.out),HB2.out⟩
     | false =>
     go_wp2_with fail
     refine c4'.mono ?_
     rintro e w3 ⟨rfl,B⟩
     have HB3:Hid (Below w.heap.size w w3):=Below.step HB2.out B
     have HKb3:Hid (w3.heap[w.heap.size]?=some (.cells #[.slice a0 n0 c0,.int .i64 x.valid,.int .i64 x.next,.int .i64 x.seq,.slice a1 x.mails.length c1,.slice (some ⟨b,off,none⟩) x.gones.length c2,.int .i64 x.lost] 44)):=box_below B HKb2.out
     clear t0 t1 s0 s1 s2 s3 s4 s5 s6
     obtain ⟨t0,t1⟩:=bx2 (box_below B HKg2.out)
     clear B HB2 HKb2 HKg2
     cases X4 with
     | true =>
      go_wp2
      go_ret
      exact ⟨ret_b (by rw [HS.out];exact rangeAll_no k hlt HE.out),HB3.out⟩
     | false =>
     go_wp2
     go_roundw
     case rel =>
      refine ⟨k+1,by omega,by go_num,by rw [HP1.out],(show Hid _ from fun j hj=>?_),HKb3,HB3⟩
      by_cases e:j=k
      ·subst e;exact HE.out
      ·exact hA.out j (by omega)
     case measure=>simp [intOf];omega
    ·obtain rfl:k=x.gones.length:=by omega
     go_wp2
     go_ret
     exact ⟨ret_b (by rw [HS.out];exact rangeAll_yes hA.out),hB.out⟩
 ·have HS:Hid (gonesB x=false):=by simp [Hid,gonesB,h0]
  go_enter Tryd.func40,Tryd.ntmps40
  go_wp2
  go_ret
  exact ⟨ret_b HS.out,X⟩

end Go.Proofs.YtnlhkgoppjejeaaDoor

/- What l3name of package spec does. -/
namespace Go.Proofs.YtnlhkgoppjejeaaDoor
open Go.RowKit
set_option maxRecDepth 100000

set_option maxHeartbeats 400000 in
theorem l3name_any (v:Value) (l:List Int) (w:World) (hv:Bs w v l) :
  Calls Tryd.prog 34 #[v] w fun e w'=>e=.returned (.bool (nameB l))∧w'=w:=by
 obtain ⟨ho,a,cap,rfl,hlc,hcm,hnil,hcells⟩:=hv
 unfold maxLen at hcm
 by_cases h0:1≤l.length
 ·by_cases h1:l.length≤6
  ·have HN:Hid (nameB l=allIn 97 122 l):=by simp [Hid,nameB,h0,h1]
   obtain ⟨b,off,rfl,hlb,hc⟩:=hcells (by omega)
   go_enter Tryd.func34,Tryd.ntmps34
   go_wp2
   go_loop [3] (fun i=>∃ k:Nat,k≤l.length∧i=.int .i64 k∧Hid (∀ j,j < k→97≤l.getD j 0∧l.getD j 0≤122)) (fun i=>l.length - (intOf i).toNat)
   case atStart=>exact ⟨0,Nat.zero_le _,rfl,fun j hj=>absurd hj (Nat.not_lt_zero _)⟩
   case round =>
    obtain ⟨k,hk,rfl,hA⟩:=hrel
    by_cases hlt:k < l.length
    ·have hx:=hc k hlt
     have hbx:=oct_get ho k
     have HY:Hid (l.getD k 0=l.getD k 0):=rfl
     generalize hy:l.getD k 0=x at hx hbx HY
     have HX:Hid (l.getD k 0=x):=hy
     clear hy HY hc
     by_cases c1:97≤x
     ·by_cases c2:x≤122
      ·go_wp2
       go_round
       case rel =>
        refine ⟨k+1,by omega,by go_num,(show Hid _ from fun j hj=>?_)⟩
        by_cases e:j=k
        ·subst e;rw [HX.out];exact ⟨c1,c2⟩
        ·exact hA.out j (by omega)
       case measure=>simp [intOf];omega
      ·go_wp2
       go_ret
       exact ⟨ret_b (a:=false) (by rw [HN.out,allIn_no k hlt (by rw [HX.out];omega)]),rfl⟩
     ·go_wp2
      go_ret
      exact ⟨ret_b (a:=false) (by rw [HN.out,allIn_no k hlt (by rw [HX.out];omega)]),rfl⟩
    ·obtain rfl:k=l.length:=by omega
     go_wp2
     go_ret
     exact ⟨ret_b (a:=true) (by rw [HN.out,allIn_yes hA.out]),rfl⟩
  ·have HN:Hid (nameB l=false):=by simp [Hid,nameB,h1]
   go_enter Tryd.func34,Tryd.ntmps34
   go_wp2
   go_ret
   exact ⟨ret_b (a:=false) HN.out,rfl⟩
 ·have HN:Hid (nameB l=false):=by simp [Hid,nameB,h0]
  go_enter Tryd.func34,Tryd.ntmps34
  go_wp2
  go_ret
  exact ⟨ret_b (a:=false) HN.out,rfl⟩

end Go.Proofs.YtnlhkgoppjejeaaDoor

/- What l3text of package spec does. -/
namespace Go.Proofs.YtnlhkgoppjejeaaDoor
open Go.RowKit
set_option maxRecDepth 100000

set_option maxHeartbeats 400000 in
theorem l3text_any (v:Value) (l:List Int) (w:World) (hv:Bs w v l) :
  Calls Tryd.prog 35 #[v] w fun e w'=>e=.returned (.bool (textB l))∧w'=w:=by
 obtain ⟨ho,a,cap,rfl,hlc,hcm,hnil,hcells⟩:=hv
 unfold maxLen at hcm
 by_cases h0:l.length≤30
 ·by_cases h1:True
  ·have HN:Hid (textB l=allIn 32 126 l):=by simp [Hid,textB,h0]
   clear h1
   go_enter Tryd.func35,Tryd.ntmps35
   go_wp2
   go_loop [3] (fun i=>∃ k:Nat,k≤l.length∧i=.int .i64 k∧Hid (∀ j,j < k→32≤l.getD j 0∧l.getD j 0≤126)) (fun i=>l.length - (intOf i).toNat)
   case atStart=>exact ⟨0,Nat.zero_le _,rfl,fun j hj=>absurd hj (Nat.not_lt_zero _)⟩
   case round =>
    obtain ⟨k,hk,rfl,hA⟩:=hrel
    by_cases hlt:k < l.length
    ·obtain ⟨b,off,rfl,hlb,hc⟩:=hcells (by omega)
     have hx:=hc k hlt
     have hbx:=oct_get ho k
     have HY:Hid (l.getD k 0=l.getD k 0):=rfl
     generalize hy:l.getD k 0=x at hx hbx HY
     have HX:Hid (l.getD k 0=x):=hy
     clear hy HY hc hcells
     by_cases c1:32≤x
     ·by_cases c2:x≤126
      ·go_wp2
       go_round
       case rel =>
        refine ⟨k+1,by omega,by go_num,(show Hid _ from fun j hj=>?_)⟩
        by_cases e:j=k
        ·subst e;rw [HX.out];exact ⟨c1,c2⟩
        ·exact hA.out j (by omega)
       case measure=>simp [intOf];omega
      ·go_wp2
       go_ret
       exact ⟨ret_b (a:=false) (by rw [HN.out,allIn_no k hlt (by rw [HX.out];omega)]),rfl⟩
     ·go_wp2
      go_ret
      exact ⟨ret_b (a:=false) (by rw [HN.out,allIn_no k hlt (by rw [HX.out];omega)]),rfl⟩
    ·obtain rfl:k=l.length:=by omega
     go_wp2
     go_ret
     exact ⟨ret_b (a:=true) (by rw [HN.out,allIn_yes hA.out]),rfl⟩
  ·exact absurd trivial h1
 ·have HN:Hid (textB l=false):=by simp [Hid,textB,h0]
  go_enter Tryd.func35,Tryd.ntmps35
  go_wp2
  go_ret
  exact ⟨ret_b (a:=false) HN.out,rfl⟩

end Go.Proofs.YtnlhkgoppjejeaaDoor

/- In a region that draws its order: operations whose guards are not met are passed by together. -/
namespace Go.Proofs.YtnlhkgoppjejeaaDoor


/-- These operations may come up one behind the other, and none is wanted; ds: the slots that they would fill. -/
def skipsOk (md:Region.Mode) (ops:Array Oper):List Nat→List Nat→Array Bool→Array Value→Bool
 | [],[],_,_=>true
 | i :: is,d :: ds,l,tm=>match ops[i]? with
  | some o=>(o.dst == some d) && (Region.free md ops l i && ((Region.ready md ops l).contains i && (!(Region.wanted o (yielded ops tm)) && skipsOk md ops is ds (l.setIfInBounds i true) (tm.setIfInBounds d undef))))
  | none=>false
 | _,_,_,_=>false

theorem wpAnyH_skips {P:Program} {md:Region.Mode} {ops:Array Oper} {Q:Exit→Act→World→Prop} {S:World→Prop} {w:World} (hs:Region.noSelect ops=true)
  (hQ:∀ (d:Nat) v c a w,Q (.panic c) (a.put (some d) v) w→Q (.panic c) a w) (hS:S w) :
  ∀ (is ds:List Nat) (l:Array Bool) (a:Act) (fuel:Nat),skipsOk md ops is ds l a.tmps=true →
   wpAnyH P md ops Q S fuel (is.foldl (fun l i=>l.setIfInBounds i true) l) (ds.foldl (fun a d=>a.put (some d) undef) a) w→wpAnyH P md ops Q S (fuel+is.length) l a w
 | [],[],_,_,_,_,h=>h
 | [],_ :: _,_,_,_,hk,_=>by simp [skipsOk] at hk
 | _ :: _,[],_,_,_,hk,_=>by simp [skipsOk] at hk
 | i :: is,d :: ds,l,a,fuel,hk,h=>by
  unfold skipsOk at hk
  split at hk
  ·rename_i o ho
   simp only [Bool.and_eq_true,beq_iff_eq,Bool.not_eq_true'] at hk
   obtain ⟨h1,h2,h3,h4,h5⟩:=hk
   refine wpAnyH_take (fuel:=fuel+is.length) (i:=i) (oi:=o) (v:=undef) ho hs h2 h3 (fun c a w=>by rw [h1];exact hQ d _ c a w) (Or.inr ⟨h4,rfl⟩) hS ?_
   rw [h1]
   exact wpAnyH_skips hs hQ hS is ds _ _ fuel (by simpa [Act.put] using h5) h
  ·cases hk

/-- One operation is taken first; the slot that it fills is named. -/
theorem wpAnyH_takeD {P:Program} {md:Region.Mode} {ops:Array Oper} {Q:Exit→Act→World→Prop} {S:World→Prop} {i:Nat} (d:Nat) {oi:Oper} {v:Value} {fuel:Nat} {listed:Array Bool} {a:Act} {w:World} (hi:ops[i]?=some oi)
  (hd:oi.dst=some d) (hs:Region.noSelect ops=true) (hf:Region.free md ops listed i=true) (hr:(Region.ready md ops listed).contains i=true)
  (hQ:∀ c a w,Q (.panic c) (a.put (some d) v) w→Q (.panic c) a w) (hy:YieldsIf P ops S oi v a) (hS:S w)
  (h:wpAnyH P md ops Q S fuel (listed.setIfInBounds i true) (a.put (some d) v) w):wpAnyH P md ops Q S (fuel+1) listed a w :=
 wpAnyH_take hi hs hf hr (by rw [hd];exact hQ) hy hS (by rw [hd];exact h)

/-- The same, its side conditions in one Bool; short, for it is written often. -/
theorem tk {P:Program} {md:Region.Mode} {ops:Array Oper} {Q:Exit→Act→World→Prop} {S:World→Prop} (i d:Nat) {oi:Oper} (v:Value) {fuel:Nat} {listed:Array Bool} {a:Act} {w:World}
  (hy:∀ w,S w→(execOp a.eval oi).run P w=.ok (.value v) w) (hS:S w) (h:wpAnyH P md ops Q S fuel (listed.setIfInBounds i true) (a.put (some d) v) w)
  (hi:ops[i]?=some oi:=by rfl)
  (hc:(Region.noSelect ops && (Region.free md ops listed i && (Region.ready md ops listed).contains i))=true:=by decide +kernel)
  (hg:(oi.dst == some d && Region.wanted oi (yielded ops a.tmps))=true:=by kernel_rfl)
  (hQ:∀ c a w,Q (.panic c) (a.put (some d) v) w→Q (.panic c) a w:=by exact fun _ _ _ h=>h):wpAnyH P md ops Q S (fuel+1) listed a w:=by
 simp only [Bool.and_eq_true,beq_iff_eq] at hc hg
 obtain ⟨h2,h3,h4⟩:=hc
 obtain ⟨h1,h5⟩:=hg
 exact wpAnyH_takeD d hi h1 h2 h3 h4 hQ (Or.inl ⟨h5,hy⟩) hS h
theorem sA {α:Type} (l:List α) (i:Nat) (a:α):l.toArray.setIfInBounds i a=(l.set i a).toArray:=by simp
theorem s0 {α:Type} (x:α) (l:List α) (a:α):(x :: l).set 0 a=a :: l:=rfl
theorem sS {α:Type} (x:α) (l:List α) (i:Nat) (a:α):(x :: l).set (i+1) a=x :: l.set i a:=rfl
/-- The same, what it yields and the state behind it found by themselves. -/
theorem tq {P:Program} {md:Region.Mode} {ops:Array Oper} {Q:Exit→Act→World→Prop} {S:World→Prop} (i d:Nat) {oi:Oper} {v:Value} {fuel:Nat} {listed:Array Bool} {a a':Act} {w:World}
  (hS:S w) (h:wpAnyH P md ops Q S fuel (listed.setIfInBounds i true) a' w)
  (hi:ops[i]?=some oi:=by rfl)
  (hc:(Region.noSelect ops && (Region.free md ops listed i && (Region.ready md ops listed).contains i))=true:=by decide +kernel)
  (hg:(oi.dst == some d && Region.wanted oi (yielded ops a.tmps))=true:=by kernel_rfl)
  (hy:∀ w,S w→(execOp a.eval oi).run P w=.ok (.value v) w:=by (intro w s;(try dsimp only at s);go_simp <;> with_reducible rfl))
  (ha:a.put (some d) v=a':=by (conv=>lhs;simp only [Act.put,sA,s0,sS]))
  (hQ:∀ c a w,Q (.panic c) (a.put (some d) v) w→Q (.panic c) a w:=by exact fun _ _ _ h=>h):wpAnyH P md ops Q S (fuel+1) listed a w :=
 tk i d v hy hS (by rw [ha];exact h) hi hc hg hQ

end Go.Proofs.YtnlhkgoppjejeaaDoor
