/- The proof's texts, part 15. -/
import Derived.Test.YtnlhkgoppjejeaaDoorPart4
import Derived.Test.YtnlhkgoppjejeaaDoorPart3
import Derived.Test.YtnlhkgoppjejeaaDoorPart1
import Derived.Test.YtnlhkgoppjejeaaDoorPart2
import Derived.Shelf.Abstract
import Derived.Lib.BytesEntry
import Derived.Lib.Bytealg
import Derived.Deep.RegionHeld3
import Derived.Laws.BytesArg

/- What boxOk of package impl do. -/
namespace Go.Proofs.YtnlhkgoppjejeaaDoor
open Go.RowKit Go.Shelf
set_option maxRecDepth 100000
set_option linter.unusedVariables false

set_option maxRecDepth 100000 in
set_option maxHeartbeats 1000000 in
theorem boxOk_any (v:Value) (x:BoxD) (mv:Int) (w:World) (hv:BoxV w v x) :
  Calls Tryd.prog 19 #[v,.int .i64 mv] w fun e w'=>e=.returned (.bool (boxB x mv))∧Below w.heap.size w w':=by
 have HV:Hid (∀ wi,Below w.heap.size w wi→BoxV wi v x):=fun wi h=>hv.below h
 obtain ⟨u0,u1,u2,rfl,g0,g1,g2,i0,i1,i2,i3⟩:=hv
 have H0:Hid (∀ wi,Below w.heap.size w wi→Bs wi u0 x.name∧MailsV wi u1 x.mails∧GonesV wi u2 x.gones):=fun wi h=>⟨g0.below h,g1.below keepsMail h,g2.below keepsGone h⟩
 obtain ⟨a0,n0,c0,rfl⟩:=g0.form3
 obtain ⟨a1,c1,rfl,m0,m1⟩:=g1.form
 obtain ⟨a2,c2,rfl,m2,m3⟩:=g2.form
 have kA:=box_new w (.cells #[.slice a0 n0 c0,.int .i64 x.valid,.int .i64 x.next,.int .i64 x.seq,.slice a1 x.mails.length c1,.slice a2 x.gones.length c2,.int .i64 x.lost] 44)
 have X:Below w.heap.size w (w.alloc (.cells #[.slice a0 n0 c0,.int .i64 x.valid,.int .i64 x.next,.int .i64 x.seq,.slice a1 x.mails.length c1,.slice a2 x.gones.length c2,.int .i64 x.lost] 44)):=(Below.refl _ _).alloc (Nat.le_refl _) _
 clear g0 g1 g2
 have HC:Hid (boxB x mv=(nameB x.name && (inB x.valid 1 mv && (inB x.next 1 1000000 && (inB x.seq 0 1000000 && (inB x.lost 0 x.seq && (mailsB x && gonesB x))))))):=rfl
 have HN:Hid (inB x.next 1 1000000=true→1≤x.next∧x.next≤1000000):=by intro h;simp [inB] at h;exact h
 have hy1:=fun wi (h:Bs wi (.slice a0 n0 c0) x.name)=>nameOk_any _ x.name wi h
 have hy2:=within_any x.valid 1 mv
 have hy3:=within_any x.next 1 1000000
 have hy4:=within_any x.seq 0 1000000
 have hy5:=within_any x.lost 0 x.seq
 have hy6:=fun wi (h:BoxV wi (.agg #[.slice a0 n0 c0,.int .i64 x.valid,.int .i64 x.next,.int .i64 x.seq,.slice a1 x.mails.length c1,.slice a2 x.gones.length c2,.int .i64 x.lost]) x) h1 h2=>mailsOk_any _ x wi h h1 h2
 have hy7:=fun wi (h:BoxV wi (.agg #[.slice a0 n0 c0,.int .i64 x.valid,.int .i64 x.next,.int .i64 x.seq,.slice a1 x.mails.length c1,.slice a2 x.gones.length c2,.int .i64 x.lost]) x) h1 h2=>gonesOk_any _ x wi h h1 h2
 generalize nameB x.name=X1 at HC hy1
 generalize inB x.valid 1 mv=X2 at HC hy2
 generalize inB x.next 1 1000000=X3 at HC hy3 HN
 generalize inB x.seq 0 1000000=X4 at HC hy4
 generalize inB x.lost 0 x.seq=X5 at HC hy5
 generalize mailsB x=X6 at HC hy6
 generalize gonesB x=X7 at HC hy7
 go_enter Tryd.func19,Tryd.ntmps19
 go_wp2_with fail
 refine (hy1 _ (H0.out _ X).1).mono ?_
 rintro e w1 ⟨rfl,B⟩
 replace kA:=box_below B kA
 replace X:=Below.step X B
 clear B hy1
 obtain ⟨f0,f1,f2,f3,f4,f5,f6⟩:=bx7 kA
 cases X1 with
 | false =>
  go_wp2
  go_ret
  exact ⟨ret_b HC.out,X⟩
 | true =>
 go_wp2_with fail
 refine (hy2 _).mono ?_
 rintro e w' ⟨rfl,rfl⟩
 cases X2 with
 | false =>
  go_wp2
  go_ret
  exact ⟨ret_b HC.out,X⟩
 | true =>
 go_wp2_with fail
 refine (hy3 _).mono ?_
 rintro e w' ⟨rfl,rfl⟩
 cases X3 with
 | false =>
  go_wp2
  go_ret
  exact ⟨ret_b HC.out,X⟩
 | true =>
 obtain ⟨hn0,hn1⟩:=HN.out rfl
 go_wp2_with fail
 refine (hy4 _).mono ?_
 rintro e w' ⟨rfl,rfl⟩
 cases X4 with
 | false =>
  go_wp2
  go_ret
  exact ⟨ret_b HC.out,X⟩
 | true =>
 go_wp2_with fail
 refine (hy5 _).mono ?_
 rintro e w' ⟨rfl,rfl⟩
 cases X5 with
 | false =>
  go_wp2
  go_ret
  exact ⟨ret_b HC.out,X⟩
 | true =>
 go_wp2_with fail
 refine (hy6 _ (HV.out _ X) hn0 hn1).mono ?_
 rintro e w2 ⟨rfl,B⟩
 replace kA:=box_below B kA
 replace X:=Below.step X B
 clear B hy6 f0 f1 f2 f3 f4 f5 f6
 obtain ⟨f0,f1,f2,f3,f4,f5,f6⟩:=bx7 kA
 cases X6 with
 | false =>
  go_wp2
  go_ret
  exact ⟨ret_b HC.out,X⟩
 | true =>
 go_wp2_with fail
 refine (hy7 _ (HV.out _ X) hn0 hn1).mono ?_
 rintro e w3 ⟨rfl,B⟩
 replace X:=Below.step X B
 go_wp2
 go_ret
 exact ⟨ret_b HC.out,X⟩

end Go.Proofs.YtnlhkgoppjejeaaDoor

/- What slices.IndexFunc and slices.ContainsFunc of boxes do. -/
namespace Go.Proofs.YtnlhkgoppjejeaaDoor
open Go.RowKit Go.Shelf
set_option maxRecDepth 100000
set_option linter.unusedVariables false

set_option maxRecDepth 100000 in
set_option maxHeartbeats 1000000 in
theorem indexFuncBox (g:Nat) (lb:Array Value) (p:BoxD→Bool) (v:Value) (l:List BoxD) (w:World) (hv:BoxesV w v l) (eg:∀ args w,(callFunc g args).run Tryd.prog w=.ok (.enter g args) w)
  (hp:∀ wi x u,Below w.heap.size w wi→BoxV wi u x→Calls Tryd.prog g (#[u] ++ lb) wi fun e w'=>e=.returned (.bool (p x))∧Below wi.heap.size wi w') :
  Calls Tryd.prog 42 #[v,.func (.func g) #[] lb] w fun e w'=>e=.returned (.int .i64 (firstI p l))∧Below w.heap.size w w':=by
 have HV:Hid (∀ wi,Below w.heap.size w wi→BoxesV wi v l):=fun wi h=>hv.below keepsBox h
 have HP:Hid (∀ wi x u,Below w.heap.size w wi→BoxV wi u x→Calls Tryd.prog g (#[u] ++ lb) wi fun e w'=>e=.returned (.bool (p x))∧Below wi.heap.size wi w'):=hp
 obtain ⟨a,cap,rfl,hlc,hcm⟩:=hv.form
 clear hv hp
 go_enter Tryd.func42,Tryd.ntmps42
 go_wp2
 go_loopw [5,8] (fun _ i wr=>∃ k:Nat,k≤l.length∧i=.int .i64 k∧Hid (∀ j x,j < k→l[j]?=some x→p x=false)∧Hid (Below w.heap.size w wr)) (fun _ i _=>l.length - (intOf i).toNat)
 case atStart=>exact ⟨0,Nat.zero_le _,rfl,(fun j x hj=>absurd hj (Nat.not_lt_zero _)),Below.refl _ _⟩
 case round =>
  obtain ⟨k,hk,rfl,hA,hB⟩:=hrel
  by_cases hlt:k < l.length
  ·obtain ⟨x,hx⟩:∃ x,l[k]?=some x:=⟨l[k],List.getElem?_eq_getElem hlt⟩
   obtain ⟨b,off,cap',u0,u1,u2,hv',hlb,d0,d1,d2,d3,d4,d5,d6,hu0,hu1,hu2,i0,i1,i2,i3⟩:=BoxesV.cell (HV.out wr hB.out) k x hx
   simp only [Value.slice.injEq,true_and] at hv'
   obtain ⟨rfl,rfl⟩:=hv'
   obtain ⟨ua,un,uc,rfl⟩:=hu0.form3
   obtain ⟨va,vc,rfl,-⟩:=hu1.form
   obtain ⟨wa,wc,rfl,-⟩:=hu2.form
   have hcall:=HP.out wr x (.agg #[.slice ua un uc,.int .i64 x.valid,.int .i64 x.next,.int .i64 x.seq,.slice va x.mails.length vc,.slice wa x.gones.length wc,.int .i64 x.lost]) hB.out ⟨_,_,_,rfl,hu0,hu1,hu2,i0,i1,i2,i3⟩
   have HX:Hid (l[k]?=some x):=hx
   clear hx
   cases hq:p x with
   | true =>
    rw [hq] at hcall
    have HQ:Hid (p x=true):=hq
    clear hq
    go_wp2_with (go_at_fn g;refine hcall.mono ?_;rintro e w1 ⟨rfl,B⟩)
    go_ret
    exact ⟨ret_i (firstI_hit' hlt HX.out HQ.out hA.out).symm,Below.step hB.out B⟩
   | false =>
    rw [hq] at hcall
    have HQ:Hid (p x=false):=hq
    clear hq
    go_wp2_with (go_at_fn g;refine hcall.mono ?_;rintro e w1 ⟨rfl,B⟩)
    have HB2:Hid (Below w.heap.size w w1):=Below.step hB.out B
    clear B hB
    go_roundw
    case rel =>
     refine ⟨k+1,by omega,by go_num,(show Hid _ from fun j y hj hy=>?_),HB2⟩
     by_cases e:j=k
     ·subst e;rw [HX.out] at hy;cases hy;exact HQ.out
     ·exact hA.out j y (by omega) hy
    case measure=>simp [intOf];omega
  ·obtain rfl:k=l.length:=by omega
   go_wp2
   go_ret
   exact ⟨ret_i (firstI_none' hA.out).symm,hB.out⟩

set_option maxRecDepth 100000 in
set_option maxHeartbeats 1000000 in
theorem containsFuncBox (g:Nat) (lb:Array Value) (p:BoxD→Bool) (v:Value) (l:List BoxD) (w:World) (hv:BoxesV w v l) (eg:∀ args w,(callFunc g args).run Tryd.prog w=.ok (.enter g args) w)
  (hp:∀ wi x u,Below w.heap.size w wi→BoxV wi u x→Calls Tryd.prog g (#[u] ++ lb) wi fun e w'=>e=.returned (.bool (p x))∧Below wi.heap.size wi w') :
  Calls Tryd.prog 21 #[v,.func (.func g) #[] lb] w fun e w'=>e=.returned (.bool (l.any p))∧Below w.heap.size w w':=by
 have hi:=indexFuncBox g lb p v l w hv eg hp
 have HF:Hid (l.any p=decide (0≤firstI p l)):=any_firstI p l
 generalize firstI p l=i at hi HF
 obtain ⟨a,cap,rfl,-⟩:=hv.form
 clear hp hv
 go_enter Tryd.func21,Tryd.ntmps21
 go_wp2_with (go_at_call 42;refine hi.mono ?_;rintro e w1 ⟨rfl,B⟩)
 go_ret
 exact ⟨ret_b HF.out,B⟩

end Go.Proofs.YtnlhkgoppjejeaaDoor

/- What bytes.Compare do. -/
namespace Go.Proofs.YtnlhkgoppjejeaaDoor
open Go.RowKit Go.Shelf
set_option maxRecDepth 100000
set_option linter.unusedVariables false

/-- The bytes of a slice, as the model's entries take them. -/
theorem run_bytesOf_bs {w:World} {v:Value} {l:List Int} (h:Bs w v l):(Extern.Bytes.bytesOf v).run Tryd.prog w=.ok ⟨(bts l).toArray⟩ w:=by
 obtain ⟨ho,a,cap,rfl,h1,h2,h3,h4⟩:=h
 cases a with
 | none =>
  have hc:=h3 rfl
  have:l=[]:=List.eq_nil_of_length_eq_zero (by omega)
  subst this
  rfl
 | some ad =>
  have key:∀ j x,l[j]?=some x→w.cell? (ad.add j)=some (.int .u8 x):=by
   intro j x hj
   have hjl:j < l.length:=(List.getElem?_eq_some_iff.1 hj).1
   obtain ⟨b,off,had,-,hc⟩:=h4 (by omega)
   cases had
   rw [Addr.add_lit,hc j hjl]
   simp [List.getD,hj]
  have:=Lib.run_loadBytesX (P:=Tryd.prog) w l ad .empty key
  simp only [Extern.Bytes.bytesOf]
  rw [this]
  congr 1
  apply ByteArray.ext
  show (#[]:Array UInt8) ++ _=_
  simp only [Array.empty_append]
  rfl
theorem run_compare_bs {w:World} {v u:Value} {l m:List Int} (hv:Bs w v l) (hu:Bs w u m):(Extern.BytealgCompare.compare #[v,u]).run Tryd.prog w=.ok (.int .i64 (Lib.compareBytes (bts l) (bts m))) w:=by
 change Sem.run Tryd.prog (do pure (goInt (Extern.BytealgCompare.cmp (← Extern.Bytes.bytesOf v) (← Extern.Bytes.bytesOf u)))) w=_
 simp only [Sem.run_bind,Sem.run_pure,run_bytesOf_bs hv,run_bytesOf_bs hu,Result.andThen]
 rw [Lib.cmp_eq]
 rfl

set_option maxRecDepth 100000 in
set_option maxHeartbeats 1000000 in
theorem compare_any (v u:Value) (l m:List Int) (w:World) (hv:Bs w v l) (hu:Bs w u m) :
  Calls Tryd.prog 20 #[v,u] w fun e w'=>e=.returned (.int .i64 (Lib.compareBytes (bts l) (bts m)))∧w'=w:=by
 have h8:=@run_callFunc_extern Tryd.prog 41 _ Extern.BytealgCompare.compare Tryd.func41 (by kernel_rfl) (by kernel_rfl) (by kernel_rfl) (by kernel_rfl)
 have hr:=run_compare_bs hv hu
 obtain ⟨a,n,c,rfl⟩:=hv.form3
 obtain ⟨a',n',c',rfl⟩:=hu.form3
 clear hv hu
 generalize Lib.compareBytes (bts l) (bts m)=r at hr
 go_enter Tryd.func20,Tryd.ntmps20
 go_wp2
 go_ret
 exact ⟨rfl,rfl⟩

end Go.Proofs.YtnlhkgoppjejeaaDoor

/- What AccountOk of package impl do. -/
namespace Go.Proofs.YtnlhkgoppjejeaaDoor
open Go.RowKit Go.Shelf
set_option maxRecDepth 100000
set_option linter.unusedVariables false

set_option maxRecDepth 100000 in
set_option maxHeartbeats 1000000 in
theorem accountOk1_any (u:Value) (m:BoxD) (bg:Nat) (vd:Int) (w:World) (hu:BoxV w u m) (hc:w.cell? ⟨bg,1,none⟩=some (.int .i64 vd)) (hb:bg < w.heap.size) :
  Calls Tryd.prog 22 #[u,.pointer (some ⟨bg,0,none⟩)] w fun e w'=>e=.returned (.bool (decide (m.valid=vd)))∧Below w.heap.size w w':=by
 obtain ⟨u0,u1,u2,rfl,g0,g1,g2,-⟩:=hu
 obtain ⟨a0,n0,c0,rfl⟩:=g0.form3
 obtain ⟨a1,c1,rfl,-⟩:=g1.form
 obtain ⟨a2,c2,rfl,-⟩:=g2.form
 clear g0 g1 g2
 obtain ⟨name,valid,next,seq,mails,gones,lost⟩:=m
 simp only
 go_enter Tryd.func22,Tryd.ntmps22
 go_wp2
 go_ret
 exact ⟨ret_b (by rw [Bool.eq_iff_iff];simp),(Below.refl _ _).alloc (Nat.le_refl _) _⟩

set_option maxRecDepth 100000 in
set_option maxHeartbeats 4000000 in
theorem implAccountOk_any (v:Value) (x:AccD) (w:World) (hv:AccV w v x) :
  Calls Tryd.prog 7 #[v] w fun e w'=>e=.returned (.bool (accB x))∧Below w.heap.size w w':=by
 obtain ⟨u0,u1,rfl,g0,g1,i0⟩:=hv
 have H0:Hid (∀ wi,Below w.heap.size w wi→BoxesV wi u0 x.boxes∧IntsV wi u1 x.seen):=fun wi h=>⟨g0.below keepsBox h,g1.below keepsInt h⟩
 obtain ⟨a0,c0,rfl,m0,m1⟩:=g0.form
 obtain ⟨a1,c1,rfl,m2,m3⟩:=g1.form
 clear g0 g1
 have HK:Hid ((w.alloc (.cells #[.int .i64 x.valid,.slice a0 x.boxes.length c0,.slice a1 x.seen.length c1] 26)).heap[w.heap.size]?=some (.cells #[.int .i64 x.valid,.slice a0 x.boxes.length c0,.slice a1 x.seen.length c1] 26)):=box_new w _
 have HX:Hid (Below w.heap.size w (w.alloc (.cells #[.int .i64 x.valid,.slice a0 x.boxes.length c0,.slice a1 x.seen.length c1] 26))):=(Below.refl _ _).alloc (Nat.le_refl _) _
 have HC:Hid (accB x=(inB x.valid 0 1000000 && (decide (x.boxes.length≤4) && (seenB x.seen && (List.range x.boxes.length).all (boxAt x))))):=rfl
 have hy1:=within_any x.valid 0 1000000
 have hy2:=seenOk_any _ x.seen _ (H0.out _ HX.out).2
 generalize inB x.valid 0 1000000=X1 at HC hy1
 generalize seenB x.seen=X2 at HC hy2
 cases X1 with
 | false =>
  go_enter Tryd.func7,Tryd.ntmps7
  go_wp2_with fail
  refine (hy1 _).mono ?_
  rintro e w' ⟨rfl,rfl⟩
  go_wp2
  go_ret
  exact ⟨ret_b HC.out,HX.out⟩
 | true =>
 rcases Nat.lt_or_ge 4 x.boxes.length with h4 | h4
 ·rw [decide_eq_false (Nat.not_le_of_lt h4)] at HC
  have h4':(4:Int) < x.boxes.length:=by omega
  go_enter Tryd.func7,Tryd.ntmps7
  go_wp2_with fail
  refine (hy1 _).mono ?_
  rintro e w' ⟨rfl,rfl⟩
  go_wp2
  go_ret
  exact ⟨ret_b HC.out,HX.out⟩
 rw [decide_eq_true h4] at HC
 have h4':(x.boxes.length:Int)≤4:=by omega
 cases X2 with
 | false =>
  go_enter Tryd.func7,Tryd.ntmps7
  go_wp2_with fail
  refine (hy1 _).mono ?_
  rintro e w' ⟨rfl,rfl⟩
  go_wp2_with fail
  refine hy2.mono ?_
  rintro e w' ⟨rfl,rfl⟩
  go_wp2
  go_ret
  exact ⟨ret_b HC.out,HX.out⟩
 | true =>
 have HS:Hid (accB x=(List.range x.boxes.length).all (boxAt x)):=HC.out
 clear HC
 go_enter Tryd.func7,Tryd.ntmps7
 go_wp2_with fail
 refine (hy1 _).mono ?_
 rintro e w' ⟨rfl,rfl⟩
 go_wp2_with fail
 refine hy2.mono ?_
 rintro e w' ⟨rfl,rfl⟩
 clear hy1 hy2
 go_wp2
 go_loopw [3,4,5,25] (fun _ _ _ i wr=>∃ k:Nat,k≤x.boxes.length∧i=.int .i64 k∧Hid (∀ j,j < k→boxAt x j=true)∧Hid (wr.heap[w.heap.size]?=some (.cells #[.int .i64 x.valid,.slice a0 x.boxes.length c0,.slice a1 x.seen.length c1] 26))∧Hid (Below w.heap.size w wr)) (fun _ _ _ i _=>x.boxes.length - (intOf i).toNat)
 case atStart=>exact ⟨0,Nat.zero_le _,rfl,(fun j hj=>absurd hj (Nat.not_lt_zero _)),HK,HX⟩
 case round =>
  obtain ⟨k,hk,rfl,hA,hK,hB⟩:=hrel
  by_cases hlt:k < x.boxes.length
  ·obtain ⟨m,hm⟩:∃ m,x.boxes[k]?=some m:=⟨x.boxes[k],List.getElem?_eq_getElem hlt⟩
   obtain ⟨b,off,cap',u0,u1,u2,hv',hlb,d0,d1,d2,d3,d4,d5,d6,hu0,hu1,hu2,j0,j1,j2,j3⟩:=BoxesV.cell (H0.out wr hB.out).1 k m hm
   simp only [Value.slice.injEq,true_and] at hv'
   obtain ⟨rfl,rfl⟩:=hv'
   obtain ⟨ua,un,uc,rfl⟩:=hu0.form3
   obtain ⟨va,vc,rfl,-⟩:=hu1.form
   obtain ⟨wa,wc,rfl,-⟩:=hu2.form
   have HBV:Hid (∀ wi,Below wr.heap.size wr wi→BoxV wi (.agg #[.slice ua un uc,.int .i64 m.valid,.int .i64 m.next,.int .i64 m.seq,.slice va m.mails.length vc,.slice wa m.gones.length wc,.int .i64 m.lost]) m):=fun wi h=>⟨_,_,_,rfl,hu0.below h,hu1.below keepsMail h,hu2.below keepsGone h,j0,j1,j2,j3⟩
   have HE:Hid (boxAt x k=(boxB m x.valid && (aheadB x.boxes m k && !((x.boxes.take k).any fun o=>decide (o.valid=m.valid))))):=by simp [Hid,boxAt,hm]
   have HKg:Hid ((wr.alloc (.cells #[.slice ua un uc,.int .i64 m.valid,.int .i64 m.next,.int .i64 m.seq,.slice va m.mails.length vc,.slice wa m.gones.length wc,.int .i64 m.lost] 44)).heap[wr.heap.size]?=some (.cells #[.slice ua un uc,.int .i64 m.valid,.int .i64 m.next,.int .i64 m.seq,.slice va m.mails.length vc,.slice wa m.gones.length wc,.int .i64 m.lost] 44)):=box_new wr _
   have HKb:Hid ((wr.alloc (.cells #[.slice ua un uc,.int .i64 m.valid,.int .i64 m.next,.int .i64 m.seq,.slice va m.mails.length vc,.slice wa m.gones.length wc,.int .i64 m.lost] 44)).heap[w.heap.size]?=some (.cells #[.int .i64 x.valid,.slice (some ⟨b,off,none⟩) x.boxes.length c0,.slice a1 x.seen.length c1] 26)):=box_alloc hK.out _
   have HA1:Hid (Below wr.heap.size wr (wr.alloc (.cells #[.slice ua un uc,.int .i64 m.valid,.int .i64 m.next,.int .i64 m.seq,.slice va m.mails.length vc,.slice wa m.gones.length wc,.int .i64 m.lost] 44))):=(Below.refl _ _).alloc (Nat.le_refl _) _
   have HB1:Hid (Below w.heap.size w (wr.alloc (.cells #[.slice ua un uc,.int .i64 m.valid,.int .i64 m.next,.int .i64 m.seq,.slice va m.mails.length vc,.slice wa m.gones.length wc,.int .i64 m.lost] 44))):=Below.step hB.out HA1.out
   have HCF:Hid (∀ wi,Below (wr.alloc (.cells #[.slice ua un uc,.int .i64 m.valid,.int .i64 m.next,.int .i64 m.seq,.slice va m.mails.length vc,.slice wa m.gones.length wc,.int .i64 m.lost] 44)).heap.size (wr.alloc (.cells #[.slice ua un uc,.int .i64 m.valid,.int .i64 m.next,.int .i64 m.seq,.slice va m.mails.length vc,.slice wa m.gones.length wc,.int .i64 m.lost] 44)) wi→Calls Tryd.prog 21 #[.slice (some ⟨b,off,none⟩) k c0,.func (.func 22) #[] #[.pointer (some ⟨wr.heap.size,0,none⟩)]] wi fun e w'=>e=.returned (.bool ((x.boxes.take k).any fun o=>decide (o.valid=m.valid)))∧Below wi.heap.size wi w'):=fun wi hbi =>
    containsFuncBox 22 #[.pointer (some ⟨wr.heap.size,0,none⟩)] (fun o=>decide (o.valid=m.valid)) _ (x.boxes.take k) _ (((H0.out _ (Below.step HB1.out hbi)).1).takeG k hk) (fun args w=>by kernel_rfl) (fun wj o u hbj hu=>accountOk1_any u o wr.heap.size m.valid wj hu (bx7 (box_below hbj (box_below hbi HKg.out))).2.1 (lt_of_heap (box_below hbj (box_below hbi HKg.out))))
   generalize ((x.boxes.take k).any fun o=>decide (o.valid=m.valid))=X3 at HCF HE
   have HC1:=fun wi (h:BoxV wi (.agg #[.slice ua un uc,.int .i64 m.valid,.int .i64 m.next,.int .i64 m.seq,.slice va m.mails.length vc,.slice wa m.gones.length wc,.int .i64 m.lost]) m)=>boxOk_any _ m x.valid wi h
   generalize boxB m x.valid=X1 at HE HC1
   have hK0:=hK.out
   obtain ⟨e0,e1,e2⟩:=bx3 hK0
   have hlA:=lt_of_heap hK0
   clear hK0 hm
   have DR:Below (wr.alloc (.cells #[.slice ua un uc,.int .i64 m.valid,.int .i64 m.next,.int .i64 m.seq,.slice va m.mails.length vc,.slice wa m.gones.length wc,.int .i64 m.lost] 44)).heap.size (wr.alloc (.cells #[.slice ua un uc,.int .i64 m.valid,.int .i64 m.next,.int .i64 m.seq,.slice va m.mails.length vc,.slice wa m.gones.length wc,.int .i64 m.lost] 44)) (wr.alloc (.cells #[.slice ua un uc,.int .i64 m.valid,.int .i64 m.next,.int .i64 m.seq,.slice va m.mails.length vc,.slice wa m.gones.length wc,.int .i64 m.lost] 44)).drew:=(Below.refl _ _).drew
   have HF:Hid (∀ w',Below (wr.alloc (.cells #[.slice ua un uc,.int .i64 m.valid,.int .i64 m.next,.int .i64 m.seq,.slice va m.mails.length vc,.slice wa m.gones.length wc,.int .i64 m.lost] 44)).heap.size (wr.alloc (.cells #[.slice ua un uc,.int .i64 m.valid,.int .i64 m.next,.int .i64 m.seq,.slice va m.mails.length vc,.slice wa m.gones.length wc,.int .i64 m.lost] 44)) w'→w'.cell? ⟨wr.heap.size,0,none⟩=some (.slice ua un uc)∧w'.cell? ⟨wr.heap.size,1,none⟩=some (.int .i64 m.valid)∧w'.cell? ⟨wr.heap.size,2,none⟩=some (.int .i64 m.next)∧w'.cell? ⟨wr.heap.size,3,none⟩=some (.int .i64 m.seq)∧w'.cell? ⟨wr.heap.size,4,none⟩=some (.slice va m.mails.length vc)∧w'.cell? ⟨wr.heap.size,5,none⟩=some (.slice wa m.gones.length wc)∧w'.cell? ⟨wr.heap.size,6,none⟩=some (.int .i64 m.lost)∧w'.cell? ⟨w.heap.size,0,none⟩=some (.int .i64 x.valid)):=by
    intro w' h
    obtain ⟨r0,r1,r2,r3,r4,r5,r6⟩:=bx7 (box_below h HKg.out)
    exact ⟨r0,r1,r2,r3,r4,r5,r6,(bx3 (box_below h HKb.out)).1⟩
   cases X1 with
   | false =>
    go_wp2
    refine wp_region_held_drew (S:=fun w'=>w'.cell? ⟨wr.heap.size,0,none⟩=some (.slice ua un uc)∧w'.cell? ⟨wr.heap.size,1,none⟩=some (.int .i64 m.valid)∧w'.cell? ⟨wr.heap.size,2,none⟩=some (.int .i64 m.next)∧w'.cell? ⟨wr.heap.size,3,none⟩=some (.int .i64 m.seq)∧w'.cell? ⟨wr.heap.size,4,none⟩=some (.slice va m.mails.length vc)∧w'.cell? ⟨wr.heap.size,5,none⟩=some (.slice wa m.gones.length wc)∧w'.cell? ⟨wr.heap.size,6,none⟩=some (.int .i64 m.lost)∧w'.cell? ⟨w.heap.size,0,none⟩=some (.int .i64 x.valid)) (by kernel_rfl) (HF.out _ DR) (fun hHeld=>(show wpAnyH _ _ _ _ _ 21 #[false,false,false,false,false,false,false,false,false,false,false,false,false,false,false,false,false,false,false,false,false] _ _ from ?_))
    refine tq 0 34 hHeld ?_
    refine tq 1 35 hHeld ?_
    refine tq 2 36 hHeld ?_
    refine wpAnyH_ready (rs:=[3]) (by kernel_rfl) (by simp) ?_
    refine AllReadyH.cons rfl (fun K hK=>?_) AllReadyH.nil
    go_simp
    refine (HC1 _ (HBV.out _ (Below.step HA1.out DR))).mono ?_
    rintro e w1 ⟨rfl,B⟩
    refine hK.out _ _ (HF.out _ (Below.step DR B)) (fun hHeld=>?_)
    clear hK K
    refine tq 4 38 hHeld ?_
    refine tq 5 39 hHeld ?_
    refine wpAnyH_skips (by kernel_rfl) (fun _ _ _ _ _ h=>h) hHeld [6,7,8,9,10,11,12,13,14,15,16,17,18,19] [40,41,42,43,44,45,46,47,48,49,50,51,52,53] _ _ _ (by kernel_rfl) ?_
    simp only [List.foldl_cons,List.foldl_nil,Act.put,sA,s0,sS]
    refine tq 20 54 hHeld ?_
    refine wpAnyH_done (by kernel_rfl) ?_ _
    clear HC1 HCF HF HBV HKg HKb HA1
    repeat clear hHeld
    go_wp2
    go_ret
    exact ⟨ret_b (by rw [HS.out];exact rangeAll_no k hlt HE.out),Below.step (Below.step HB1.out DR) B⟩
   | true =>
    by_cases hkz:(0:Int) < (k:Int)
    rotate_left
    ·have HAH:Hid (aheadB x.boxes m k=true):=by
          have:k=0:=by omega
          subst this;rfl
     rw [HAH.out,Bool.true_and,Bool.true_and] at HE
     clear HAH
     have hkN:¬ 0 < k:=by omega
     have hd:decide (0 < k)=false:=by simpa using hkN
     go_wp2
     refine wp_region_held_drew (S:=fun w'=>w'.cell? ⟨wr.heap.size,0,none⟩=some (.slice ua un uc)∧w'.cell? ⟨wr.heap.size,1,none⟩=some (.int .i64 m.valid)∧w'.cell? ⟨wr.heap.size,2,none⟩=some (.int .i64 m.next)∧w'.cell? ⟨wr.heap.size,3,none⟩=some (.int .i64 m.seq)∧w'.cell? ⟨wr.heap.size,4,none⟩=some (.slice va m.mails.length vc)∧w'.cell? ⟨wr.heap.size,5,none⟩=some (.slice wa m.gones.length wc)∧w'.cell? ⟨wr.heap.size,6,none⟩=some (.int .i64 m.lost)∧w'.cell? ⟨w.heap.size,0,none⟩=some (.int .i64 x.valid)) (by kernel_rfl) (HF.out _ DR) (fun hHeld=>(show wpAnyH _ _ _ _ _ 21 #[false,false,false,false,false,false,false,false,false,false,false,false,false,false,false,false,false,false,false,false,false] _ _ from ?_))
     refine tq 0 34 hHeld ?_
     refine tq 1 35 hHeld ?_
     refine tq 2 36 hHeld ?_
     refine wpAnyH_ready (rs:=[3]) (by kernel_rfl) (by simp) ?_
     refine AllReadyH.cons rfl (fun K hK=>?_) AllReadyH.nil
     go_simp
     refine (HC1 _ (HBV.out _ (Below.step HA1.out DR))).mono ?_
     rintro e w1 ⟨rfl,B⟩
     refine hK.out _ _ (HF.out _ (Below.step DR B)) (fun hHeld=>?_)
     clear hK K
     refine tq 4 38 hHeld ?_
     refine tq 5 39 hHeld ?_
     refine tq 6 40 hHeld ?_
     refine tq 7 41 hHeld ?_
     refine tq 8 42 hHeld ?_
     refine wpAnyH_skips (by kernel_rfl) (fun _ _ _ _ _ h=>h) hHeld [9,10,11,12,13,14,15,16,17,18] [43,44,45,46,47,48,49,50,51,52] _ _ _ (by kernel_rfl) ?_
     simp only [List.foldl_cons,List.foldl_nil,Act.put,sA,s0,sS]
     refine tq 19 53 hHeld ?_
     refine tq 20 54 hHeld ?_
     refine wpAnyH_done (by kernel_rfl) ?_ _
     repeat clear hHeld
     have c3':=HCF.out w1 (Below.step DR B)
     have HB2:Hid (Below w.heap.size w w1):=Below.step (Below.step HB1.out DR) B
     have HKb2:Hid (w1.heap[w.heap.size]?=some (.cells #[.int .i64 x.valid,.slice (some ⟨b,off,none⟩) x.boxes.length c0,.slice a1 x.seen.length c1] 26)):=box_below B (box_below DR HKb.out)
     clear B DR HB1 HKb HA1 HC1 HF HCF
     cases X3 with
     | true =>
      go_wp2_with fail
      refine c3'.mono ?_
      rintro e w3 ⟨rfl,B⟩
      go_wp2
      go_ret
      exact ⟨ret_b (by rw [HS.out];exact rangeAll_no k hlt HE.out),Below.step HB2.out B⟩
     | false =>
      go_wp2_with fail
      refine c3'.mono ?_
      rintro e w3 ⟨rfl,B⟩
      have HB3:Hid (Below w.heap.size w w3):=Below.step HB2.out B
      have HKb3:Hid (w3.heap[w.heap.size]?=some (.cells #[.int .i64 x.valid,.slice (some ⟨b,off,none⟩) x.boxes.length c0,.slice a1 x.seen.length c1] 26)):=box_below B HKb2.out
      clear B HB2 HKb2
      go_wp2
      go_roundw
      case rel =>
       refine ⟨k+1,by omega,by go_num,(show Hid _ from fun i hi=>?_),HKb3,HB3⟩
       by_cases e:i=k
       ·subst e;exact HE.out
       ·exact hA.out i (by omega)
      case measure=>simp [intOf];omega
    ·obtain ⟨j,hj⟩:∃ j,k=j+1:=⟨k - 1,by omega⟩
     have hjk:(j:Int) < (k:Int):=by omega
     have hkN:0 < k:=by omega
     have hd:decide (0 < k)=true:=by simpa using hkN
     have hj0:(0:Int)≤(j:Int):=by omega
     have hw1:IntKind.i64.wrap ((k:Int) - 1)=(j:Int):=by rw [IntWalk.i64_in _ (by omega)];omega
     have HJ:Hid (k=j+1):=hj
     clear hj
     obtain ⟨m',hm'⟩:∃ m',x.boxes[j]?=some m':=⟨x.boxes[j]'(by have:=HJ.out;omega),List.getElem?_eq_getElem (by have:=HJ.out;omega)⟩
     obtain ⟨b2,off2,cap2,p0,q1,q2,hv2,hlb2,t0,-,-,-,-,-,-,hp0,-⟩:=BoxesV.cell (H0.out wr hB.out).1 j m' hm'
     simp only [Value.slice.injEq,true_and,Option.some.injEq,Addr.mk.injEq,and_true] at hv2
     obtain ⟨⟨rfl,rfl⟩,rfl⟩:=hv2
     obtain ⟨pa,pn,pc,rfl⟩:=hp0.form3
     have HAH:Hid (aheadB x.boxes m k=lessB m'.name m.name):=by rw [HJ.out];simp [Hid,aheadB,nameAt,hm']
     rw [HAH.out] at HE
     have HCM:Hid (∀ wi,Below wr.heap.size wr wi→Calls Tryd.prog 20 #[.slice pa pn pc,.slice ua un uc] wi fun e w'=>e=.returned (.int .i64 (Lib.compareBytes (bts m'.name) (bts m.name)))∧w'=wi):=fun wi h=>compare_any _ _ m'.name m.name wi (hp0.below h) (hu0.below h)
     have HLC:Hid (lessB m'.name m.name = !decide (0≤Lib.compareBytes (bts m'.name) (bts m.name))):=by simp only [Hid];rw [less_cmp];simp [lessB]
     generalize Lib.compareBytes (bts m'.name) (bts m.name)=cv at HCM HLC
     generalize lessB m'.name m.name=L at HE HLC
     have HF2:Hid (∀ w',Below (wr.alloc (.cells #[.slice ua un uc,.int .i64 m.valid,.int .i64 m.next,.int .i64 m.seq,.slice va m.mails.length vc,.slice wa m.gones.length wc,.int .i64 m.lost] 44)).heap.size (wr.alloc (.cells #[.slice ua un uc,.int .i64 m.valid,.int .i64 m.next,.int .i64 m.seq,.slice va m.mails.length vc,.slice wa m.gones.length wc,.int .i64 m.lost] 44)) w'→(w'.cell? ⟨wr.heap.size,0,none⟩=some (.slice ua un uc)∧w'.cell? ⟨wr.heap.size,1,none⟩=some (.int .i64 m.valid)∧w'.cell? ⟨wr.heap.size,2,none⟩=some (.int .i64 m.next)∧w'.cell? ⟨wr.heap.size,3,none⟩=some (.int .i64 m.seq)∧w'.cell? ⟨wr.heap.size,4,none⟩=some (.slice va m.mails.length vc)∧w'.cell? ⟨wr.heap.size,5,none⟩=some (.slice wa m.gones.length wc)∧w'.cell? ⟨wr.heap.size,6,none⟩=some (.int .i64 m.lost)∧w'.cell? ⟨w.heap.size,0,none⟩=some (.int .i64 x.valid))∧w'.cell? ⟨b,off+j * 7,none⟩=some (.slice pa pn pc)):=by
      intro w' h
      exact ⟨HF.out w' h,((Below.step HA1.out h).cell (p:=⟨b,off+j * 7,none⟩) hlb).trans t0⟩
     clear hm' HAH
     by_cases hcv:0≤cv
     ·have HL:Hid (L=false):=by rw [Hid,HLC.out,decide_eq_true hcv];rfl
      clear HLC
      go_wp2
      refine wp_region_held_drew (S:=fun w'=>(w'.cell? ⟨wr.heap.size,0,none⟩=some (.slice ua un uc)∧w'.cell? ⟨wr.heap.size,1,none⟩=some (.int .i64 m.valid)∧w'.cell? ⟨wr.heap.size,2,none⟩=some (.int .i64 m.next)∧w'.cell? ⟨wr.heap.size,3,none⟩=some (.int .i64 m.seq)∧w'.cell? ⟨wr.heap.size,4,none⟩=some (.slice va m.mails.length vc)∧w'.cell? ⟨wr.heap.size,5,none⟩=some (.slice wa m.gones.length wc)∧w'.cell? ⟨wr.heap.size,6,none⟩=some (.int .i64 m.lost)∧w'.cell? ⟨w.heap.size,0,none⟩=some (.int .i64 x.valid))∧w'.cell? ⟨b,off+j * 7,none⟩=some (.slice pa pn pc)) (by kernel_rfl) (HF2.out _ DR) (fun hHeld=>(show wpAnyH _ _ _ _ _ 21 #[false,false,false,false,false,false,false,false,false,false,false,false,false,false,false,false,false,false,false,false,false] _ _ from ?_))
      refine tq 0 34 hHeld ?_
      refine tq 1 35 hHeld ?_
      refine tq 2 36 hHeld ?_
      refine wpAnyH_ready (rs:=[3]) (by kernel_rfl) (by simp) ?_
      refine AllReadyH.cons rfl (fun K hK=>?_) AllReadyH.nil
      go_simp
      refine (HC1 _ (HBV.out _ (Below.step HA1.out DR))).mono ?_
      rintro e w1 ⟨rfl,B⟩
      refine hK.out _ _ (HF2.out _ (Below.step DR B)) (fun hHeld=>?_)
      clear hK K
      refine tq 4 38 hHeld ?_
      refine tq 5 39 hHeld ?_
      refine tq 6 40 hHeld ?_
      refine tq 7 41 hHeld ?_
      refine tq 8 42 hHeld ?_
      refine tq 9 43 hHeld ?_
      refine tq 10 44 hHeld ?_
      refine tq 11 45 hHeld ?_
      refine tq 12 46 hHeld ?_
      refine tq 13 47 hHeld ?_
      refine tq 14 48 hHeld ?_
      refine tq 15 49 hHeld ?_
      refine tq 16 50 hHeld ?_
      refine wpAnyH_ready (rs:=[17]) (by kernel_rfl) (by simp) ?_
      refine AllReadyH.cons rfl (fun K hK=>?_) AllReadyH.nil
      go_simp
      refine (HCM.out _ (Below.step (Below.step HA1.out DR) B)).mono ?_
      rintro e w2 ⟨rfl,rfl⟩
      refine hK.out _ _ (HF2.out _ (Below.step DR B)) (fun hHeld=>?_)
      clear hK K
      refine tq 18 52 hHeld ?_
      refine tq 19 53 hHeld ?_
      refine tq 20 54 hHeld ?_
      refine wpAnyH_done (by kernel_rfl) ?_ _
      clear HC1 HCF HF HBV HKg HKb HA1 HF2 HCM
      repeat clear hHeld
      go_wp2
      go_ret
      exact ⟨ret_b (by rw [HS.out];exact rangeAll_no k hlt (by rw [HE.out,HL.out];rfl)),Below.step (Below.step HB1.out DR) B⟩
     ·have HL:Hid (L=true):=by rw [Hid,HLC.out,decide_eq_false hcv];rfl
      rw [HL.out,Bool.true_and,Bool.true_and] at HE
      clear HLC
      go_wp2
      refine wp_region_held_drew (S:=fun w'=>(w'.cell? ⟨wr.heap.size,0,none⟩=some (.slice ua un uc)∧w'.cell? ⟨wr.heap.size,1,none⟩=some (.int .i64 m.valid)∧w'.cell? ⟨wr.heap.size,2,none⟩=some (.int .i64 m.next)∧w'.cell? ⟨wr.heap.size,3,none⟩=some (.int .i64 m.seq)∧w'.cell? ⟨wr.heap.size,4,none⟩=some (.slice va m.mails.length vc)∧w'.cell? ⟨wr.heap.size,5,none⟩=some (.slice wa m.gones.length wc)∧w'.cell? ⟨wr.heap.size,6,none⟩=some (.int .i64 m.lost)∧w'.cell? ⟨w.heap.size,0,none⟩=some (.int .i64 x.valid))∧w'.cell? ⟨b,off+j * 7,none⟩=some (.slice pa pn pc)) (by kernel_rfl) (HF2.out _ DR) (fun hHeld=>(show wpAnyH _ _ _ _ _ 21 #[false,false,false,false,false,false,false,false,false,false,false,false,false,false,false,false,false,false,false,false,false] _ _ from ?_))
      refine tq 0 34 hHeld ?_
      refine tq 1 35 hHeld ?_
      refine tq 2 36 hHeld ?_
      refine wpAnyH_ready (rs:=[3]) (by kernel_rfl) (by simp) ?_
      refine AllReadyH.cons rfl (fun K hK=>?_) AllReadyH.nil
      go_simp
      refine (HC1 _ (HBV.out _ (Below.step HA1.out DR))).mono ?_
      rintro e w1 ⟨rfl,B⟩
      refine hK.out _ _ (HF2.out _ (Below.step DR B)) (fun hHeld=>?_)
      clear hK K
      refine tq 4 38 hHeld ?_
      refine tq 5 39 hHeld ?_
      refine tq 6 40 hHeld ?_
      refine tq 7 41 hHeld ?_
      refine tq 8 42 hHeld ?_
      refine tq 9 43 hHeld ?_
      refine tq 10 44 hHeld ?_
      refine tq 11 45 hHeld ?_
      refine tq 12 46 hHeld ?_
      refine tq 13 47 hHeld ?_
      refine tq 14 48 hHeld ?_
      refine tq 15 49 hHeld ?_
      refine tq 16 50 hHeld ?_
      refine wpAnyH_ready (rs:=[17]) (by kernel_rfl) (by simp) ?_
      refine AllReadyH.cons rfl (fun K hK=>?_) AllReadyH.nil
      go_simp
      refine (HCM.out _ (Below.step (Below.step HA1.out DR) B)).mono ?_
      rintro e w2 ⟨rfl,rfl⟩
      refine hK.out _ _ (HF2.out _ (Below.step DR B)) (fun hHeld=>?_)
      clear hK K
      refine tq 18 52 hHeld ?_
      refine tq 19 53 hHeld ?_
      refine tq 20 54 hHeld ?_
      refine wpAnyH_done (by kernel_rfl) ?_ _
      repeat clear hHeld
      clear HF2 HCM
      have c3':=HCF.out w2 (Below.step DR B)
      have HB2:Hid (Below w.heap.size w w2):=Below.step (Below.step HB1.out DR) B
      have HKb2:Hid (w2.heap[w.heap.size]?=some (.cells #[.int .i64 x.valid,.slice (some ⟨b,off,none⟩) x.boxes.length c0,.slice a1 x.seen.length c1] 26)):=box_below B (box_below DR HKb.out)
      clear B DR HB1 HKb HA1 HC1 HF HCF
      cases X3 with
      | true =>
       go_wp2_with fail
       refine c3'.mono ?_
       rintro e w3 ⟨rfl,B⟩
       go_wp2
       go_ret
       exact ⟨ret_b (by rw [HS.out];exact rangeAll_no k hlt HE.out),Below.step HB2.out B⟩
      | false =>
       go_wp2_with fail
       refine c3'.mono ?_
       rintro e w3 ⟨rfl,B⟩
       have HB3:Hid (Below w.heap.size w w3):=Below.step HB2.out B
       have HKb3:Hid (w3.heap[w.heap.size]?=some (.cells #[.int .i64 x.valid,.slice (some ⟨b,off,none⟩) x.boxes.length c0,.slice a1 x.seen.length c1] 26)):=box_below B HKb2.out
       clear B HB2 HKb2
       go_wp2
       go_roundw
       case rel =>
        refine ⟨k+1,by omega,by go_num,(show Hid _ from fun i hi=>?_),HKb3,HB3⟩
        by_cases e:i=k
        ·subst e;exact HE.out
        ·exact hA.out i (by omega)
       case measure=>simp [intOf];omega
  ·obtain rfl:k=x.boxes.length:=by omega
   go_wp2
   go_ret
   exact ⟨ret_b (by rw [HS.out];exact rangeAll_yes hA.out),hB.out⟩

end Go.Proofs.YtnlhkgoppjejeaaDoor

/- The bytes of a slice as a string. -/
namespace Go.Proofs.YtnlhkgoppjejeaaDoor
open Go.RowKit

theorem underlyingStr:Tryd.prog.underlying 9=some .string:=by kernel_rfl

/-- The bytes of a slice as a string. -/
theorem run_convert_bs {w:World} {v:Value} {l:List Int} (h:Bs w v l):(convert 22 9 v).run Tryd.prog w=.ok (.string (strOfNums l)) w:=by
 obtain ⟨ho,a,cap,rfl,h1,h2,h3,h4⟩:=h
 cases a with
 | none =>
  have hc:=h3 rfl
  have:l=[]:=List.eq_nil_of_length_eq_zero (by omega)
  subst this
  exact run_convert_bytes_nil w 22 5 Tryd.underlying22 Tryd.underlying5 _ _ 9 underlyingStr
 | some x =>
  by_cases h0:l=[]
  ·subst h0
   rw [run_convert_bytes_string w 22 9 5 _ _ _ Tryd.underlying22 Tryd.underlying5 underlyingStr]
   exact run_bytesToString w x 0 cap [] (by simp [loadCells,loadCellsFrom])
  ·obtain ⟨b,off,hx,_,hc⟩:=h4 (List.length_pos_iff.2 h0)
   cases hx
   exact run_convert_bytes_arg w 22 5 Tryd.underlying22 Tryd.underlying5 b off l.length cap l rfl hc 9 underlyingStr

end Go.Proofs.YtnlhkgoppjejeaaDoor
