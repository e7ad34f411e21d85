/- The proof's texts, part 13. -/
import Derived.Test.YtmglhdkeidhafaaGreatT6
import Derived.Test.YtmglhdkeidhafaaGreatTc
namespace Go.Proofs.YtmglhdkeidhafaaGreat
open Go.RowKit
set_option linter.unusedVariables false
set_option linter.unusedSimpArgs false
set_option maxHeartbeats 4000000
set_option maxRecDepth 100000
/- What afM of package spec does: an account is copied, with all that it leads to. -/
theorem OV:∀ (w:World) (c:List Value) (x:Int),DW w c x→∀ y ∈ c,y.oneCell'=true:=by
 rintro w c x ⟨rfl,-⟩ y hy
 simp at hy
 subst hy
 rfl
theorem OW {w:World} {c:List Value} {b:aA} {S:Nat→Prop} (h:fI w c b S):∃ a0 n0 c0 a1 n1 c1 a2 n2 c2,c=[.slice a0 n0 c0,.int .i64 b.valid,.int .i64 b.next,.int .i64 b.seq,.slice a1 n1 c1,.slice a2 n2 c2,.int .i64 b.lost]:=by
 obtain ⟨u0,u1,u2,S0,S1,S2,rfl,h0,h1,h2,-⟩:=h
 obtain ⟨a0,n0,c0,rfl⟩:=h0.bs.aG
 obtain ⟨a1,n1,c1,rfl⟩:=tV.aG h1
 obtain ⟨a2,n2,c2,rfl⟩:=tV.aG h2
 exact ⟨_,_,_,_,_,_,_,_,_,rfl⟩
theorem OX {w w0:World} {B:Nat} {v:Value} {l:List Int} {xs:List Value} {S:Nat→Prop} (h:w.ownsRow B 3 1 v l.length xs) (hx:∀ i x,l[i]?=some x→∃ c,c.length=1∧DW w0 c x∧∀ j y,c[j]?=some y→xs[i * 1+j]?=some y) (hS:∀ g,v.ownBlock=some g→S g):eY w S v l:=by
 rcases h.2 with ⟨hn,hl⟩ | ⟨g,cap,cur,hv,hg,hh,h1,h2,h3,h4⟩
 ·exact .inl ⟨hn,List.eq_nil_of_length_eq_zero hl⟩
 ·refine .inr ⟨g,cap,cur,fun i=>match l[i]? with | some x=>[.int .i64 x] | none=>[],fun _ _=>False,hv,hh,h1,h2,h3,hS g (by rw [hv];rfl),fun i x hi=>?_,by simp,by simp⟩
  obtain ⟨c,-,⟨hc,Hr⟩,hj⟩:=hx i x hi
  simp only [hi]
  refine ⟨⟨rfl,Hr⟩,rfl,fun j y hy=>?_⟩
  rw [← hc] at hy
  have:=hj j y hy
  rw [← h4,List.getElem?_take] at this
  split at this
  ·simpa using this
  ·cases this
/- DU of a list of the call's own whose texts lie in memory that was there. -/
theorem EC {i j:Int}:∀ u ∈ [Value.int .i64 i,.int .i64 j],Value.oneCell' u=true:=by
 intro u hu
 simp only [List.mem_cons,List.not_mem_nil,or_false] at hu
 rcases hu with rfl | rfl <;> rfl
/-- DU whose texts lie where they lay in w. -/
def ED (w:World) (_:World) (c:List Value) (m:aC) (_:Nat→Prop):Prop:=yQ w c m
theorem Bt (w:World):Frames (ED w):=fun _ _ _ _ _ h _=>h
def mq (w:World) (wr:World) (B T:Nat) (v:Value) (l:List aC):Prop:=Ow 72 4 (ED w) wr (In B T) v l
theorem mq.v {w wr:World} {B T:Nat} {v:Value} {l:List aC} (h:mq w wr B T v l) (hb:Below w.heap.size w wr):eT wr v l:=by
 rcases h with ⟨rfl,rfl⟩ | ⟨g,cap,cur,cs,fs,hv,hh,h1,h2,h3,h4,h5,h6,h7⟩
 ·exact Rd.nil wr
 ·refine ⟨some ⟨g,0,none⟩,cap,cs,hv,h1,h2,(fun h=>by cases h),fun i x hx=>⟨iG _ _ _ _ hb (h5 i x hx).1,(h5 i x hx).2.1⟩,fun hp=>⟨g,0,rfl,lt_of_heap hh,fun i j u hi hu=>?_⟩⟩
  rw [Nat.zero_add,cell_of_row wr g _ cur _ (0,0) hh]
  exact (h5 i l[i] (aL hi)).2.2 j u hu
theorem OY {w wr:World} {B T g i:Nat} {v x:Value} {l:List aC} (h:mq w wr B T v l) (hd:g < B∨T≤g):mq w (wr.setCell ⟨g,i,none⟩ x) B T v l :=
 Ow.frame (Bt w) h fun b hb _=>Below.heap_setCell _ _ _ _ (show b≠g by have:=hb.1;have:=hb.2;omega)
theorem Xi {w wr wr':World} {B T:Nat} {row:Option Nat} {v:Value} {l:List aC} (h:Ow 72 4 (ED w) wr (In B T) v l) (hw:wr.grownBy wr' row) (hd:∀ j,row=some j→T≤j):mq w wr' B T v l :=
 Ow.frame (Bt w) h fun b hb hlt=>hw.block b hlt fun e=>by have:=hd b e.symm;have:=hb.2;omega
theorem aI:ay 0:=⟨by decide,by decide⟩
theorem OZ:ay 4:=⟨by decide,by decide⟩
theorem mD (w:World):Bs w (.slice none 0 0) []:=(RO.nil w (fun _=>True)).bs
/- What afN, sameBox, afO of package laws answer where both are the same. -/
theorem Xj (v u:Value) (x:aC) (w:World) (hv:iA w v x) (hu:iA w u x) :
  Calls Tryz.prog 59 #[v,u] w fun e w'=>e=.returned (.bool true)∧Below w.heap.size w w':=by
 obtain ⟨u0,rfl,g0,-⟩:=hv
 obtain ⟨u1,rfl,g1,-⟩:=hu
 have H0:Hid (∀ wi,Below w.heap.size w wi→Bs wi u0 x.text∧Bs wi u1 x.text):=fun wi h=>⟨g0.below h,g1.below h⟩
 obtain ⟨ua,un,uc,rfl⟩:=g0.aG
 obtain ⟨ta,tn,tc,rfl⟩:=g1.aG
 clear g0 g1
 obtain ⟨kA,kB,X⟩:=iX w (.cells #[.int .i64 x.uid,.int .i64 x.flags,.int .i64 x.seq,.slice ua un uc] 72) (.cells #[.int .i64 x.uid,.int .i64 x.flags,.int .i64 x.seq,.slice ta tn tc] 72)
 go_enter Tryz.func59,Tryz.ntmps59
 go_wp2_with fail
 refine (Oe _ _ x.text _ (H0.out _ X).1 (H0.out _ X).2).mono ?_
 rintro e w1 ⟨rfl,B⟩
 replace X:=Below.step X B
 clear B kA kB
 go_wp2
 go_ret
 exact ⟨by simp,X⟩
theorem Xk (v u:Value) (x:aA) (w:World) (hv:bI w v x) (hu:bI w u x) :
  Calls Tryz.prog 28 #[v,u] w fun e w'=>e=.returned (.bool true)∧Below w.heap.size w w':=by
 obtain ⟨u0,u1,u2,rfl,g0,g1,g2,-⟩:=hv
 obtain ⟨u3,u4,u5,rfl,g3,g4,g5,-⟩:=hu
 have H0:Hid (∀ wi,Below w.heap.size w wi→(Bs wi u0 x.name∧Bs wi u3 x.name)∧(eT wi u1 x.ah∧eT wi u4 x.ah)∧(dD wi u2 x.au∧dD wi u5 x.au)):=fun wi h=>⟨⟨g0.below h,g3.below h⟩,⟨g1.below iG h,g4.below iG h⟩,⟨g2.below gU h,g5.below gU h⟩⟩
 obtain ⟨ua,un,uc,rfl⟩:=g0.aG
 obtain ⟨va,vc,rfl,m1,m2⟩:=g1.form
 obtain ⟨wa,wc,rfl,m3,m4⟩:=g2.form
 obtain ⟨ra,rn,rc,rfl⟩:=g3.aG
 obtain ⟨sa,sc,rfl,-⟩:=g4.form
 obtain ⟨ta,tc,rfl,-⟩:=g5.form
 clear g0 g1 g2 g3 g4 g5
 obtain ⟨kA,kB,X⟩:=iX w (.cells #[.slice ua un uc,.int .i64 x.valid,.int .i64 x.next,.int .i64 x.seq,.slice va x.ah.length vc,.slice wa x.au.length wc,.int .i64 x.lost] 34) (.cells #[.slice ra rn rc,.int .i64 x.valid,.int .i64 x.next,.int .i64 x.seq,.slice sa x.ah.length sc,.slice ta x.au.length tc,.int .i64 x.lost] 34)
 go_enter Tryz.func28,Tryz.ntmps28
 go_wp2_with fail
 refine (Oe _ _ x.name _ (H0.out _ X).1.1 (H0.out _ X).1.2).mono ?_
 rintro e w1 ⟨rfl,B⟩
 have HX:=ak (Below.step X B)
 have HA:=ak (aB B kA)
 have HB:=ak (aB B kB)
 clear B kA kB X
 have HM:Hid (∀ wi,Below w1.heap.size w1 wi→eT wi (.slice va x.ah.length vc) x.ah∧eT wi (.slice sa x.ah.length sc) x.ah):=fun wi h=>(H0.out wi (Below.step HX.out h)).2.1
 have HG:Hid (∀ wi,Below w1.heap.size w1 wi→dD wi (.slice wa x.au.length wc) x.au∧dD wi (.slice ta x.au.length tc) x.au):=fun wi h=>(H0.out wi (Below.step HX.out h)).2.2
 clear H0
 obtain ⟨f0,f1,f2,f3,f4,f5,f6⟩:=bU HA.out
 obtain ⟨e0,e1,e2,e3,e4,e5,e6⟩:=bU HB.out
 have la:=lt_of_heap HA.out
 have lb:=lt_of_heap HB.out
 go_wp2_with fail
 clear f0 f1 f2 f3 f4 f5 f6 e0 e1 e2 e3 e4 e5 e6
 go_loopw [5] (fun i wr=>∃ k:Nat,k≤x.ah.length∧i=.int .i64 k∧Hid (Below w1.heap.size w1 wr)) (fun i _=>x.ah.length - (intOf i).toNat)
 case atStart=>exact ⟨0,Nat.zero_le _,rfl,Below.refl _ _⟩
 case round =>
  obtain ⟨k,hk,rfl,hB⟩:=hrel
  obtain ⟨-,-,-,-,f4,f5,-⟩:=bU (aB hB.out HA.out)
  obtain ⟨-,-,-,-,e4,e5,-⟩:=bU (aB hB.out HB.out)
  have hs1:=hB.out.size
  by_cases hlt:k < x.ah.length
  ·obtain ⟨m,hm⟩:∃ m,x.ah[k]?=some m:=⟨x.ah[k],aL hlt⟩
   have DR:Below wr.heap.size wr wr.drew:=(bd _ _)
   obtain ⟨b,off,cap',u,hv',hlb,d0,d1,d2,d3,hu,i0,i1,i2⟩:=eT.cell (HM.out wr hB.out).1 k m hm
   obtain ⟨b2,off2,O0,u2,hv2,iJ,z0,z1,z2,z3,hu2,j0,j1,j2⟩:=eT.cell (HM.out wr hB.out).2 k m hm
   simp only [Value.slice.injEq,true_and] at hv' hv2
   obtain ⟨rfl,rfl⟩:=hv'
   obtain ⟨rfl,rfl⟩:=hv2
   obtain ⟨ua,un,uc,rfl⟩:=hu.aG
   obtain ⟨ta,tn,tc,rfl⟩:=hu2.aG
   have HV:Hid (iA wr.drew (.agg #[.int .i64 m.uid,.int .i64 m.flags,.int .i64 m.seq,.slice ua un uc]) m∧iA wr.drew (.agg #[.int .i64 m.uid,.int .i64 m.flags,.int .i64 m.seq,.slice ta tn tc]) m):=⟨⟨_,rfl,hu.below DR,i0,i1,i2⟩,⟨_,rfl,hu2.below DR,j0,j1,j2⟩⟩
   go_wp2
   go_region_held3 (fun w'=>w'.cell? ⟨w.heap.size,4,none⟩=some (.slice (some ⟨b,off,none⟩) x.ah.length vc)∧w'.cell? ⟨w.heap.size+1,4,none⟩=some (.slice (some ⟨b2,off2,none⟩) x.ah.length sc)∧w'.cell? ⟨b,off+k * 4,none⟩=some (.int .i64 m.uid)∧w'.cell? ⟨b,off+k * 4+1,none⟩=some (.int .i64 m.flags)∧w'.cell? ⟨b,off+k * 4+2,none⟩=some (.int .i64 m.seq)∧w'.cell? ⟨b,off+k * 4+3,none⟩=some (.slice ua un uc)∧w'.cell? ⟨b2,off2+k * 4,none⟩=some (.int .i64 m.uid)∧w'.cell? ⟨b2,off2+k * 4+1,none⟩=some (.int .i64 m.flags)∧w'.cell? ⟨b2,off2+k * 4+2,none⟩=some (.int .i64 m.seq)∧w'.cell? ⟨b2,off2+k * 4+3,none⟩=some (.slice ta tn tc))
    (first | go_keep | exact ⟨f4,e4,d0,d1,d2,d3,z0,z1,z2,z3⟩ | exact ⟨(B.cell (p:=⟨_,_,none⟩) (by simp only;exact Nat.lt_of_lt_of_le la hs1)).trans f4,(B.cell (p:=⟨_,_,none⟩) (by simp only;exact Nat.lt_of_lt_of_le lb hs1)).trans e4,(B.cell (p:=⟨_,_,none⟩) (by exact hlb)).trans d0,(B.cell (p:=⟨_,_,none⟩) (by exact hlb)).trans d1,(B.cell (p:=⟨_,_,none⟩) (by exact hlb)).trans d2,(B.cell (p:=⟨_,_,none⟩) (by exact hlb)).trans d3,(B.cell (p:=⟨_,_,none⟩) (by exact iJ)).trans z0,(B.cell (p:=⟨_,_,none⟩) (by exact iJ)).trans z1,(B.cell (p:=⟨_,_,none⟩) (by exact iJ)).trans z2,(B.cell (p:=⟨_,_,none⟩) (by exact iJ)).trans z3⟩)
    ((go_at_call 59;refine (Xj _ _ m _ HV.out.1 HV.out.2).mono ?_;rintro e w2 ⟨rfl,B⟩))
   have HB2:Hid (Below w1.heap.size w1 w2):=Below.step (Below.step hB.out DR) B
   clear d0 d1 d2 d3 z0 z1 z2 z3 B hB f4 f5 e4 e5
   go_wp2
   go_roundw
   case rel=>exact ⟨k+1,by omega,by go_num,HB2⟩
   case measure=>simp [intOf];omega
  ·obtain ⟨w2,hw2⟩:∃ w2,w2=wr:=⟨_,rfl⟩
   go_wp2_with fail
   clear f4 f5 e4 e5
   have HB1:=hB
   clear hB hw2
   go_loopw [6] (fun i w3=>∃ k:Nat,k≤x.au.length∧i=.int .i64 k∧Hid (Below w1.heap.size w1 w3)) (fun i _=>x.au.length - (intOf i).toNat)
   case atStart=>exact ⟨0,Nat.zero_le _,rfl,HB1⟩
   case round =>
    obtain ⟨k,hk,rfl,hB⟩:=hrel
    obtain ⟨-,-,-,-,-,f5,-⟩:=bU (aB hB.out HA.out)
    obtain ⟨-,-,-,-,-,e5,-⟩:=bU (aB hB.out HB.out)
    have hs1:=hB.out.size
    by_cases hlt:k < x.au.length
    ·obtain ⟨m,hm⟩:∃ m,x.au[k]?=some m:=⟨x.au[k],aL hlt⟩
     have DR:Below wr.heap.size wr wr.drew:=(bd _ _)
     obtain ⟨b,off,cap',hv',hlb,d0,d1,i0,i1⟩:=dD.cell (HG.out wr hB.out).1 k m hm
     obtain ⟨b2,off2,O0,hv2,iJ,z0,z1,j0,j1⟩:=dD.cell (HG.out wr hB.out).2 k m hm
     simp only [Value.slice.injEq,true_and] at hv' hv2
     obtain ⟨rfl,rfl⟩:=hv'
     obtain ⟨rfl,rfl⟩:=hv2
     have HB2:Hid (Below w1.heap.size w1 wr.drew):=Below.step hB.out DR
     go_wp2
     go_region_held3 (fun w'=>w'.cell? ⟨w.heap.size,5,none⟩=some (.slice (some ⟨b,off,none⟩) x.au.length wc)∧w'.cell? ⟨w.heap.size+1,5,none⟩=some (.slice (some ⟨b2,off2,none⟩) x.au.length tc)∧w'.cell? ⟨b,off+k * 2,none⟩=some (.int .i64 m.uid)∧w'.cell? ⟨b,off+k * 2+1,none⟩=some (.int .i64 m.seq)∧w'.cell? ⟨b2,off2+k * 2,none⟩=some (.int .i64 m.uid)∧w'.cell? ⟨b2,off2+k * 2+1,none⟩=some (.int .i64 m.seq))
      (first | go_keep | exact ⟨f5,e5,d0,d1,z0,z1⟩)
      (fail)
     clear d0 d1 z0 z1 hB f5 e5
     go_wp2
     go_roundw
     case rel=>exact ⟨k+1,by omega,by go_num,HB2⟩
     case measure=>simp [intOf];omega
    ·go_wp2
     go_ret
     exact ⟨rfl,Below.step HX.out hB.out⟩
theorem Iz (v u:Value) (x y:aF) (w:World) (hv:iw w v x) (hu:iw w u y) (hxv:x.valid=y.valid) (hxb:x.boxes=y.boxes) :
  Calls Tryz.prog 9 #[v,u] w fun e w'=>e=.returned (.bool true)∧Below w.heap.size w w':=by
 obtain ⟨u0,u1,rfl,g0,g1,-⟩:=hv
 obtain ⟨u2,u3,rfl,g2,g3,-⟩:=hu
 rw [← hxv]
 rw [← hxb] at g2
 have HV:Hid (∀ wi,Below w.heap.size w wi→gJ wi u0 x.boxes∧gJ wi u2 x.boxes):=fun wi h=>⟨g0.below tK h,g2.below tK h⟩
 obtain ⟨a0,c0,rfl,m1,m2⟩:=g0.form
 obtain ⟨a1,c1,rfl,-⟩:=g1.form
 obtain ⟨a2,c2,rfl,-⟩:=g2.form
 obtain ⟨a3,c3,rfl,-⟩:=g3.form
 clear g0 g1 g2 g3 hxb hxv
 obtain ⟨kA,kB,X⟩:=iX w (.cells #[.int .i64 x.valid,.slice a0 x.boxes.length c0,.slice a1 x.seen.length c1] 26) (.cells #[.int .i64 x.valid,.slice a2 x.boxes.length c2,.slice a3 y.seen.length c3] 26)
 have HX:=ak X
 have HA:=ak kA
 have HB:=ak kB
 clear X kA kB
 go_enter Tryz.func9,Tryz.ntmps9
 go_upto_region 1 with fail
 generalize (w.alloc (.cells #[.int .i64 x.valid,.slice a0 x.boxes.length c0,.slice a1 x.seen.length c1] 26)).alloc (.cells #[.int .i64 x.valid,.slice a2 x.boxes.length c2,.slice a3 y.seen.length c3] 26)=w1 at HX HA HB ⊢
 obtain ⟨f0,f1,f2⟩:=bM HA.out
 obtain ⟨e0,e1,e2⟩:=bM HB.out
 have la:=lt_of_heap HA.out
 have lb:=lt_of_heap HB.out
 go_wp2_with fail
 clear f0 f1 f2 e0 e1 e2
 go_loopw [5] (fun i wr=>∃ k:Nat,k≤x.boxes.length∧i=.int .i64 k∧Hid (Below w1.heap.size w1 wr)) (fun i _=>x.boxes.length - (intOf i).toNat)
 case atStart=>exact ⟨0,Nat.zero_le _,rfl,Below.refl _ _⟩
 case round =>
  obtain ⟨k,hk,rfl,hB⟩:=hrel
  obtain ⟨-,f1,-⟩:=bM (aB hB.out HA.out)
  obtain ⟨-,e1,-⟩:=bM (aB hB.out HB.out)
  have hs1:=hB.out.size
  by_cases hlt:k < x.boxes.length
  ·obtain ⟨z,hz⟩:∃ z,x.boxes[k]?=some z:=⟨x.boxes[k],aL hlt⟩
   have DR:Below wr.heap.size wr wr.drew:=(bd _ _)
   obtain ⟨b,off,cap',u0,u1,u2,hv',hlb,d0,d1,d2,d3,d4,d5,d6,hu0,hu1,hu2,i0,i1,i2,i3⟩:=gJ.cell (HV.out wr (Below.step HX.out hB.out)).1 k z hz
   obtain ⟨b2,off2,O0,u3,u4,u5,hv2,iJ,z0,z1,z2,z3,z4,z5,z6,hu3,O1,O3,j0,j1,j2,j3⟩:=gJ.cell (HV.out wr (Below.step HX.out hB.out)).2 k z hz
   simp only [Value.slice.injEq,true_and] at hv' hv2
   obtain ⟨rfl,rfl⟩:=hv'
   obtain ⟨rfl,rfl⟩:=hv2
   obtain ⟨ua,un,uc,rfl⟩:=hu0.aG
   obtain ⟨va,vc,rfl,-⟩:=hu1.form
   obtain ⟨wa,wc,rfl,-⟩:=hu2.form
   obtain ⟨ra,rn,rc,rfl⟩:=hu3.aG
   obtain ⟨sa,sc,rfl,-⟩:=O1.form
   obtain ⟨ta,tc,rfl,-⟩:=O3.form
   have gM:Hid (bI wr.drew (.agg #[.slice ua un uc,.int .i64 z.valid,.int .i64 z.next,.int .i64 z.seq,.slice va z.ah.length vc,.slice wa z.au.length wc,.int .i64 z.lost]) z∧bI wr.drew (.agg #[.slice ra rn rc,.int .i64 z.valid,.int .i64 z.next,.int .i64 z.seq,.slice sa z.ah.length sc,.slice ta z.au.length tc,.int .i64 z.lost]) z):=⟨⟨_,_,_,rfl,hu0.below DR,hu1.below iG DR,hu2.below gU DR,i0,i1,i2,i3⟩,⟨_,_,_,rfl,hu3.below DR,O1.below iG DR,O3.below gU DR,j0,j1,j2,j3⟩⟩
   go_wp2
   go_region_held3 (fun w'=>w'.cell? ⟨w.heap.size,1,none⟩=some (.slice (some ⟨b,off,none⟩) x.boxes.length c0)∧w'.cell? ⟨w.heap.size+1,1,none⟩=some (.slice (some ⟨b2,off2,none⟩) x.boxes.length c2)∧w'.cell? ⟨b,off+k * 7,none⟩=some (.slice ua un uc)∧w'.cell? ⟨b,off+k * 7+1,none⟩=some (.int .i64 z.valid)∧w'.cell? ⟨b,off+k * 7+2,none⟩=some (.int .i64 z.next)∧w'.cell? ⟨b,off+k * 7+3,none⟩=some (.int .i64 z.seq)∧w'.cell? ⟨b,off+k * 7+4,none⟩=some (.slice va z.ah.length vc)∧w'.cell? ⟨b,off+k * 7+5,none⟩=some (.slice wa z.au.length wc)∧w'.cell? ⟨b,off+k * 7+6,none⟩=some (.int .i64 z.lost)∧w'.cell? ⟨b2,off2+k * 7,none⟩=some (.slice ra rn rc)∧w'.cell? ⟨b2,off2+k * 7+1,none⟩=some (.int .i64 z.valid)∧w'.cell? ⟨b2,off2+k * 7+2,none⟩=some (.int .i64 z.next)∧w'.cell? ⟨b2,off2+k * 7+3,none⟩=some (.int .i64 z.seq)∧w'.cell? ⟨b2,off2+k * 7+4,none⟩=some (.slice sa z.ah.length sc)∧w'.cell? ⟨b2,off2+k * 7+5,none⟩=some (.slice ta z.au.length tc)∧w'.cell? ⟨b2,off2+k * 7+6,none⟩=some (.int .i64 z.lost))
    (first | go_keep | exact ⟨f1,e1,d0,d1,d2,d3,d4,d5,d6,z0,z1,z2,z3,z4,z5,z6⟩ | exact ⟨(B.cell (p:=⟨_,_,none⟩) (by simp only;exact Nat.lt_of_lt_of_le la hs1)).trans f1,(B.cell (p:=⟨_,_,none⟩) (by simp only;exact Nat.lt_of_lt_of_le lb hs1)).trans e1,(B.cell (p:=⟨_,_,none⟩) (by exact hlb)).trans d0,(B.cell (p:=⟨_,_,none⟩) (by exact hlb)).trans d1,(B.cell (p:=⟨_,_,none⟩) (by exact hlb)).trans d2,(B.cell (p:=⟨_,_,none⟩) (by exact hlb)).trans d3,(B.cell (p:=⟨_,_,none⟩) (by exact hlb)).trans d4,(B.cell (p:=⟨_,_,none⟩) (by exact hlb)).trans d5,(B.cell (p:=⟨_,_,none⟩) (by exact hlb)).trans d6,(B.cell (p:=⟨_,_,none⟩) (by exact iJ)).trans z0,(B.cell (p:=⟨_,_,none⟩) (by exact iJ)).trans z1,(B.cell (p:=⟨_,_,none⟩) (by exact iJ)).trans z2,(B.cell (p:=⟨_,_,none⟩) (by exact iJ)).trans z3,(B.cell (p:=⟨_,_,none⟩) (by exact iJ)).trans z4,(B.cell (p:=⟨_,_,none⟩) (by exact iJ)).trans z5,(B.cell (p:=⟨_,_,none⟩) (by exact iJ)).trans z6⟩)
    ((go_at_call 28;refine (Xk _ _ z _ gM.out.1 gM.out.2).mono ?_;rintro e w2 ⟨rfl,B⟩))
   have HB2:Hid (Below w1.heap.size w1 w2):=Below.step (Below.step hB.out DR) B
   clear d0 d1 d2 d3 d4 d5 d6 z0 z1 z2 z3 z4 z5 z6 B hB f1 e1
   go_wp2
   go_roundw
   case rel=>exact ⟨k+1,by omega,by go_num,HB2⟩
   case measure=>simp [intOf];omega
  ·go_wp2
   go_ret
   exact ⟨rfl,Below.step HX.out hB.out⟩
/- What slices.DeleteFunc does at boxes. -/
open Go.RowKit Go.Shelf
/-- A rY box as its seven cells. -/
structure rZ where
 a0:Option Addr
 n0:Nat
 c0:Nat
 vd:Int
 nx:Int
 sq:Int
 a2:Option Addr
 n2:Nat
 c2:Nat
 ls:Int
def fK (x:rZ):List Value:=[.slice x.a0 x.n0 x.c0,.int .i64 x.vd,.int .i64 x.nx,.int .i64 x.sq,.slice none 0 0,.slice x.a2 x.n2 x.c2,.int .i64 x.ls]
theorem Xl (g:Nat) (lb:Array Value) (p:rZ→Bool) (oa:Option Addr) (gk cap:Nat) (xs:List rZ) (w:World) (hoa:xs≠[]→oa=some ⟨gk,0,none⟩∧bP 34 7 fK w gk cap [] xs 0) (hlc:xs.length≤cap) (hcm:cap≤maxLen) (eg:∀ args w,(callFunc g args).run Tryz.prog w=.ok (.enter g args) w)
  (hp:∀ wi x,w.grownBy wi (some gk)→x ∈ xs→Calls Tryz.prog g (#[.agg #[.slice x.a0 x.n0 x.c0,.int .i64 x.vd,.int .i64 x.nx,.int .i64 x.sq,.slice none 0 0,.slice x.a2 x.n2 x.c2,.int .i64 x.ls]] ++ lb) wi fun e w'=>e=.returned (.bool (p x))∧Below wi.heap.size wi w')
  (hi:Calls Tryz.prog 57 #[.slice oa xs.length cap,.func (.func g) #[] lb] w fun e w'=>e=.returned (.int .i64 (bC p xs))∧Below w.heap.size w w') :
  Calls Tryz.prog 71 #[.slice oa xs.length cap,.func (.func g) #[] lb] w fun e w'=>e=.returned (.slice oa (xs.filter fun x=>!p x).length cap)∧(xs≠[]→bP 34 7 fK w' gk cap (xs.filter fun x=>!p x) [] 0)∧w.grownBy w' (some gk):=by
 have HP:=ak hp
 have HO:=ak hoa
 have hml:(xs.length:Int)≤9223372036854775807:=by unfold maxLen at hcm;omega
 clear hp hoa
 unfold bC at hi
 cases hf:xs.findIdx? p with
 | none =>
  have uo:Hid (xs.filter (fun x=>!p x)=xs):=by
   show _=_
   rw [List.filter_eq_self]
   intro y hy
   rw [List.findIdx?_eq_none_iff] at hf
   simpa using hf y hy
  rw [hf] at hi
  have HI:=ak hi
  clear hi hf
  go_enter Tryz.func71,Tryz.ntmps71
  go_wp2_with (go_at_call 57;refine HI.out.mono ?_;rintro e w1 ⟨rfl,B⟩)
  go_ret
  rw [uo.out]
  exact ⟨rfl,fun hne=>((HO.out hne).2.same (B.block gk (HO.out hne).2.lt)).all,⟨B.os,B.tape,B.output,B.size,fun k hk _=>B.block k hk⟩⟩
 | some k0 =>
  obtain ⟨f1,f2,hk0⟩:=Ol hf
  obtain ⟨rfl,hD0⟩:=HO.out (fun e=>by rw [e] at hk0;simp at hk0)
  have HD0:=ak hD0
  have HF:=ak f2
  have Bu:=ak (show (xs.take k0).length=k0 by rw [List.length_take];omega)
  rw [hf] at hi
  have HI:=ak hi
  clear hi hf f1 f2 hD0 HO
  have hk1:((k0:Int) == -1)=false:=by simp
  go_enter Tryz.func71,Tryz.ntmps71
  go_wp2_with (go_at_call 57;refine HI.out.mono ?_;rintro e w1 ⟨rfl,B⟩)
  have gN:Hid (w.grownBy w1 (some gk)):=⟨B.os,B.tape,B.output,B.size,fun k hk _=>B.block k hk⟩
  have HD1:=ak (HD0.out.same (B.block gk HD0.out.lt))
  clear HD0 B HI
  go_loopw [5,6,7] (fun s5 s6 _ wr=>∃ i j:Nat,s5=.int .i64 i∧s6=.int .i64 j∧j≤xs.length∧i < j∧Hid (((xs.take j).filter fun x=>!p x).length=i)∧Hid (bP 34 7 fK wr gk cap ((xs.take j).filter fun x=>!p x) xs j)∧Hid (w.grownBy wr (some gk))) (fun _ s6 _ _=>xs.length - (intOf s6).toNat)
  case atStart=>exact ⟨k0,k0+1,rfl,by go_num,by omega,by omega,(show _=_ by rw [HF.out];exact Bu.out),(show bP _ _ _ _ _ _ _ _ _ by rw [HF.out];exact HD1.out.first k0),gN.out⟩
  case round =>
   obtain ⟨i,j,rfl,rfl,hjl,hij,hL,hD,hG⟩:=hrel
   by_cases hlt:j < xs.length
   ·obtain ⟨x,hx⟩:∃ x,xs[j]?=some x:=⟨xs[j],aL hlt⟩
    have hji:(j:Int) < xs.length:=by omega
    have hii:(i:Int) < xs.length:=by omega
    have hlb:=hD.out.lt
    have d0:wr.cell? ⟨gk,j * 7,none⟩=some (.slice x.a0 x.n0 x.c0):=hD.out.cell hx (k:=0) rfl
    have d1:wr.cell? ⟨gk,j * 7+1,none⟩=some (.int .i64 x.vd):=hD.out.cell hx (k:=1) rfl
    have d2:wr.cell? ⟨gk,j * 7+2,none⟩=some (.int .i64 x.nx):=hD.out.cell hx (k:=2) rfl
    have d3:wr.cell? ⟨gk,j * 7+3,none⟩=some (.int .i64 x.sq):=hD.out.cell hx (k:=3) rfl
    have d4:wr.cell? ⟨gk,j * 7+4,none⟩=some (.slice none 0 0):=hD.out.cell hx (k:=4) rfl
    have d5:wr.cell? ⟨gk,j * 7+5,none⟩=some (.slice x.a2 x.n2 x.c2):=hD.out.cell hx (k:=5) rfl
    have d6:wr.cell? ⟨gk,j * 7+6,none⟩=some (.int .i64 x.ls):=hD.out.cell hx (k:=6) rfl
    have hcall:=HP.out _ x (xC hG.out ((Below.refl wr.heap.size wr).alloc (Nat.le_refl _) (.cells #[.slice x.a0 x.n0 x.c0,.int .i64 x.vd,.int .i64 x.nx,.int .i64 x.sq,.slice none 0 0,.slice x.a2 x.n2 x.c2,.int .i64 x.ls] 34))) (List.mem_of_getElem? hx)
    have A1:Below wr.heap.size wr (wr.alloc (.cells #[.slice x.a0 x.n0 x.c0,.int .i64 x.vd,.int .i64 x.nx,.int .i64 x.sq,.slice none 0 0,.slice x.a2 x.n2 x.c2,.int .i64 x.ls] 34)):=bn _ _
    have HA1:=ak A1
    have HX:=ak hx
    clear hx A1
    cases hq:p x with
    | true =>
     rw [hq] at hcall
     have HQ:=ak hq
     clear hq
     go_wp2_with (go_at_fn g;refine hcall.mono ?_;rintro e w2 ⟨rfl,B⟩)
     have HE:Hid ((xs.take (j+1)).filter (fun x=>!p x)=(xs.take j).filter fun x=>!p x):=by
      show _=_
      rw [Bb HX.out,HQ.out]
      simp
     have HB2:=ak (Below.step HA1.out B)
     clear B
     go_roundw
     case rel=>exact ⟨i,j+1,rfl,by go_num,by omega,by omega,(show _=_ by rw [HE.out];exact hL.out),(show bP _ _ _ _ _ _ _ _ _ by rw [HE.out];exact (hD.out.same (HB2.out.block gk hlb)).skip),xC hG.out HB2.out⟩
     case measure=>simp [intOf];omega
    | false =>
     rw [hq] at hcall
     have HQ:=ak hq
     clear hq
     go_wp2_with fail
     go_at_fn g
     refine hcall.mono ?_
     rintro e w2 ⟨rfl,B⟩
     have HE:Hid ((xs.take (j+1)).filter (fun x=>!p x)=(xs.take j).filter (fun x=>!p x) ++ [x]):=by
      show _=_
      rw [Bb HX.out,HQ.out]
      simp
     have B2:=Below.step HA1.out B
     have HD2:=ak (hD.out.same (B2.block gk hlb))
     have HG2:=ak (xC hG.out B2)
     have hcells:=(aB B (aW wr (.cells #[.slice x.a0 x.n0 x.c0,.int .i64 x.vd,.int .i64 x.nx,.int .i64 x.sq,.slice none 0 0,.slice x.a2 x.n2 x.c2,.int .i64 x.ls] 34)))
     have hlv:=lt_of_heap hcells
     obtain ⟨v0,v1,v2,v3,v4,v5,v6⟩:=bU hcells
     have fz:∀ o,w2.frozen? ⟨gk,o,none⟩=false:=HD2.out.fz
     have hlk:=HD2.out.lt
     have hcz:=Nat.mul_le_mul_right 7 (show i+1≤cap by omega)
     have HR:Hid (bP 34 7 fK (w2.setCells gk (i * 7) (fK x)) gk cap ((xs.take j).filter (fun x=>!p x) ++ [x]) xs (j+1)):=by
      have:=HD2.out.keep (by rw [hL.out];exact hij) (by omega) (fun _=>rfl) x
      rwa [hL.out] at this
     have xI:=ak (Eu HG2.out (i * 7) (fK x))
     obtain ⟨o0,q0⟩:=HD2.out.some (o:=i * 7) (by omega)
     obtain ⟨o1,q1⟩:=HD2.out.some (o:=i * 7+1) (by omega)
     obtain ⟨o2,q2⟩:=HD2.out.some (o:=i * 7+2) (by omega)
     obtain ⟨o3,q3⟩:=HD2.out.some (o:=i * 7+3) (by omega)
     obtain ⟨o4,q4⟩:=HD2.out.some (o:=i * 7+4) (by omega)
     obtain ⟨o5,q5⟩:=HD2.out.some (o:=i * 7+5) (by omega)
     obtain ⟨o6,q6⟩:=HD2.out.some (o:=i * 7+6) (by omega)
     clear B B2 hD hG HA1 d0 d1 d2 d3 d4 d5 d6 hcells hlb hcz
     go_wp2
     go_roundw
     case rel=>exact ⟨i+1,j+1,by go_num,by go_num,by omega,by omega,(show _=_ by rw [HE.out,List.length_append,hL.out];rfl),(show bP _ _ _ _ _ _ _ _ _ by rw [HE.out];exact HR.out),xI.out⟩
     case measure=>simp [intOf];omega
   ·obtain rfl:j=xs.length:=by omega
    have hji:¬ (xs.length:Int) < xs.length:=by omega
    have hcc:=Nat.mul_le_mul_right 7 hlc
    obtain ⟨zs,hzs,hcl⟩:∃ zs:List Value,zs.length=(xs.length - i) * 7∧∀ ty,(Builtin.clear_ #[23] ty #[.slice (some ⟨gk,i * 7,none⟩) (xs.length - i) (cap - i)]).run Tryz.prog wr=.ok (.tuple #[]) (wr.setCells gk (i * 7) zs):=by
     obtain ⟨zs,e1,e2⟩:=Oj (P:=Tryz.prog) wr 23 34 0 (.agg #[.slice none 0 0,.int .i64 0,.int .i64 0,.int .i64 0,.slice none 0 0,.slice none 0 0,.int .i64 0]) Tryz.underlying23 (fun w=>Tryz.zeroValue34 w) (by decide) (by decide) gk (i * 7) (xs.length - i) (cap - i) (by omega) (fun o ho=>by
      have ho:o < (xs.length - i) * 7:=ho
      obtain ⟨u,hu⟩:=hD.out.some (o:=i * 7+o) (by rw [Nat.sub_mul] at ho;omega)
      rw [hu];rfl) (fun o=>hD.out.fz _)
     exact ⟨zs,e1,fun _=>e2⟩
    have uo:Hid ((xs.take xs.length).filter (fun x=>!p x)=xs.filter fun x=>!p x):=by show _=_;rw [List.take_length]
    have HR:Hid (bP 34 7 fK (wr.setCells gk (i * 7) zs) gk cap (xs.filter fun x=>!p x) [] xs.length):=by
     have:=hD.out.cleared (fun _=>rfl) (zs:=zs) (by rw [hL.out,hzs,Nat.sub_mul];omega)
     rw [hL.out,uo.out] at this
     exact this
    have xI:=ak (Eu hG.out (i * 7) zs)
    have HL2:Hid ((xs.filter fun x=>!p x).length=i):=by show _=_;rw [← uo.out];exact hL.out
    have h1:(i:Int)≤xs.length:=by omega
    have h2:(i:Int)≤cap:=by omega
    have h3:¬ cap=i:=by omega
    clear hcc hzs
    go_wp2
    go_ret
    rw [HL2.out]
    refine ⟨rfl,fun _=>?_,xI.out⟩
    obtain ⟨cur,k1,k2,k3,-⟩:=HR.out
    exact ⟨cur,k1,k2,k3,fun i x _ hx=>by simp at hx⟩
/- What Merge of package impl does. -/
open Go.RowKit Go.Maps
theorem Xm {w w1:World} {r N:Nat} {d0 d1 d2 d3 d4 d5 d6:Value} (hk:w1.heap[r]?=some (.cells #[d0,d1,d2,d3,d4,d5,d6] 34 (0,0))) (hr:N≤r) (hb:Below N w w1) (x0 x1 x2 x3 x4 x5 x6:Value) :
  (((((((w1.setCell ⟨r,0,none⟩ (x0)).setCell ⟨r,1,none⟩ (x1)).setCell ⟨r,2,none⟩ (x2)).setCell ⟨r,3,none⟩ (x3)).setCell ⟨r,4,none⟩ (x4)).setCell ⟨r,5,none⟩ (x5)).setCell ⟨r,6,none⟩ (x6)).heap[r]?=some (.cells #[x0,x1,x2,x3,x4,x5,x6] 34 (0,0))∧Below N w (((((((w1.setCell ⟨r,0,none⟩ (x0)).setCell ⟨r,1,none⟩ (x1)).setCell ⟨r,2,none⟩ (x2)).setCell ⟨r,3,none⟩ (x3)).setCell ⟨r,4,none⟩ (x4)).setCell ⟨r,5,none⟩ (x5)).setCell ⟨r,6,none⟩ (x6))∧(∀ k,k≠r→(((((((w1.setCell ⟨r,0,none⟩ (x0)).setCell ⟨r,1,none⟩ (x1)).setCell ⟨r,2,none⟩ (x2)).setCell ⟨r,3,none⟩ (x3)).setCell ⟨r,4,none⟩ (x4)).setCell ⟨r,5,none⟩ (x5)).setCell ⟨r,6,none⟩ (x6)).heap[k]?=w1.heap[k]?)∧(((((((w1.setCell ⟨r,0,none⟩ (x0)).setCell ⟨r,1,none⟩ (x1)).setCell ⟨r,2,none⟩ (x2)).setCell ⟨r,3,none⟩ (x3)).setCell ⟨r,4,none⟩ (x4)).setCell ⟨r,5,none⟩ (x5)).setCell ⟨r,6,none⟩ (x6)).heap.size=w1.heap.size:=by
 replace hk:(World.setCell _ _ _).heap[r]?=some (Obj.cells #[x0,d1,d2,d3,d4,d5,d6] 34 (0,0)):=aJ (i:=0) (v:=x0) hk
 replace hk:(World.setCell _ _ _).heap[r]?=some (Obj.cells #[x0,x1,d2,d3,d4,d5,d6] 34 (0,0)):=aJ (i:=1) (v:=x1) hk
 replace hk:(World.setCell _ _ _).heap[r]?=some (Obj.cells #[x0,x1,x2,d3,d4,d5,d6] 34 (0,0)):=aJ (i:=2) (v:=x2) hk
 replace hk:(World.setCell _ _ _).heap[r]?=some (Obj.cells #[x0,x1,x2,x3,d4,d5,d6] 34 (0,0)):=aJ (i:=3) (v:=x3) hk
 replace hk:(World.setCell _ _ _).heap[r]?=some (Obj.cells #[x0,x1,x2,x3,x4,d5,d6] 34 (0,0)):=aJ (i:=4) (v:=x4) hk
 replace hk:(World.setCell _ _ _).heap[r]?=some (Obj.cells #[x0,x1,x2,x3,x4,x5,d6] 34 (0,0)):=aJ (i:=5) (v:=x5) hk
 replace hk:(World.setCell _ _ _).heap[r]?=some (Obj.cells #[x0,x1,x2,x3,x4,x5,x6] 34 (0,0)):=aJ (i:=6) (v:=x6) hk
 refine ⟨hk,(((((((hb.setCell hr _).setCell hr _).setCell hr _).setCell hr _).setCell hr _).setCell hr _).setCell hr _),fun k hk=>?_,by simp only [bf]⟩
 rw [Below.heap_setCell _ _ _ _ (show k≠r from hk),Below.heap_setCell _ _ _ _ (show k≠r from hk),Below.heap_setCell _ _ _ _ (show k≠r from hk),Below.heap_setCell _ _ _ _ (show k≠r from hk),Below.heap_setCell _ _ _ _ (show k≠r from hk),Below.heap_setCell _ _ _ _ (show k≠r from hk),Below.heap_setCell _ _ _ _ (show k≠r from hk)]
end Go.Proofs.YtmglhdkeidhafaaGreat
