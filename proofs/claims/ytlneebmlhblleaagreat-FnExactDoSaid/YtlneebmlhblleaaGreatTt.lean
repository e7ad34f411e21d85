/- The proof's texts, part 29. -/
import Derived.Test.YtlneebmlhblleaaGreatTs
namespace Go.Proofs.YtlneebmlhblleaaGreat
open Go.RowKit
set_option linter.unusedVariables false
set_option linter.unusedSimpArgs false
set_option maxHeartbeats 4000000
set_option maxRecDepth 100000
/- The law's two drawn regions: what is in hand, whatever is done. -/
abbrev LV:Obj:=.cells #[.int .i64 0,.slice none 0 0,.slice none 0 0] 33
abbrev LW:Obj:=.cells #[.int .i64 0,.int .i64 0,.slice none 0 0,.int .i64 0,.int .i64 0,.int .i64 0,.slice none 0 0,.slice none 0 0,.int .i64 0,.slice none 0 0] 40
/-- An account, a command, what Do answered, two variables. -/
structure LC (B0 xc y:World) (b6 b7:Nat) (v1 v2 aA aC:Value) (a:aJ) (c:iC) (L:Nat→Bool) (V:Nat→Value) (z:World):Prop where
 d:Below B0.heap.size B0 z
 f0:L 0=true→V 0=aA
 f1:L 1=true→dM z (V 1) a
 f2:L 2=true→V 2=aC
 f3:L 3=true→∃ B T,Au z B T (V 3) c
 f4:L 4=true→V 4=.tuple #[v1,v2]∧(∀ W',Kept xc y W'→dM W' v1 (aH a c).1∧iO W' v2 (aH a c).2)∧Below y.heap.size y z
 f5:L 5=true→V 5=.tuple #[v1,v2]
 f6:L 6=true→V 6=v1
 f7:L 7=true→V 7=v2
 f8:L 8=true→V 8=.pointer (some ⟨b6,0,none⟩)∧B0.heap.size≤b6∧z.heap[b6]?=some LV∧(L 4=true→b6 < xc.heap.size∨y.heap.size≤b6)
 f9:L 9=true→V 9=.pointer (some ⟨b7,0,none⟩)∧B0.heap.size≤b7∧z.heap[b7]?=some LW∧(L 4=true→b7 < xc.heap.size∨y.heap.size≤b7)
abbrev DK:List (List Nat):=[[],[0],[],[1,2],[1,3],[4],[5],[5],[],[],[0,1,2,3,4,5,6,8,9],[0,1,2,3,4,5,6,7,8,9,10]]
section
variable {B0 xc y x x' z W : World} {b6 b7 : Nat} {v v1 v2 aA aC : Value} {a : aJ} {c : iC} {L : Nat → Bool} {V : Nat → Value}
theorem LC.below (h:LC B0 xc y b6 b7 v1 v2 aA aC a c L V x) (B:Below x.heap.size x x'):LC B0 xc y b6 b7 v1 v2 aA aC a c L V x' :=
 ⟨Below.step h.d B,h.f0,fun q=>(h.f1 q).below B,h.f2,fun q=>let ⟨b,t,r⟩:=h.f3 q;⟨b,t,iN.below r B⟩,fun q=>let ⟨e,r,k⟩:=h.f4 q;⟨e,r,Below.step k B⟩,h.f5,h.f6,h.f7,
  fun q=>let ⟨e,r,k,l⟩:=h.f8 q;⟨e,r,ay B k,l⟩,fun q=>let ⟨e,r,k,l⟩:=h.f9 q;⟨e,r,ay B k,l⟩⟩
theorem LC.iy (h:LC B0 xc y b6 b7 v1 v2 aA aC a c L V x):LC B0 xc y b6 b7 v1 v2 aA aC a c (fK L 0) (iJ V 0 aA) x:=⟨h.d,fun _=>rfl,h.f1,h.f2,h.f3,h.f4,h.f5,h.f6,h.f7,h.f8,h.f9⟩
theorem LC.iA (h:LC B0 xc y b6 b7 v1 v2 aA aC a c L V x) (hv:dM x v a):LC B0 xc y b6 b7 v1 v2 aA aC a c (fK L 1) (iJ V 1 v) x:=⟨h.d,h.f0,fun _=>hv,h.f2,h.f3,h.f4,h.f5,h.f6,h.f7,h.f8,h.f9⟩
theorem LC.iB (h:LC B0 xc y b6 b7 v1 v2 aA aC a c L V x):LC B0 xc y b6 b7 v1 v2 aA aC a c (fK L 2) (iJ V 2 aC) x:=⟨h.d,h.f0,h.f1,fun _=>rfl,h.f3,h.f4,h.f5,h.f6,h.f7,h.f8,h.f9⟩
theorem LC.Ue {B T:Nat} (h:LC B0 xc y b6 b7 v1 v2 aA aC a c L V x) (hv:Au x B T v c):LC B0 xc y b6 b7 v1 v2 aA aC a c (fK L 3) (iJ V 3 v) x:=⟨h.d,h.f0,h.f1,h.f2,fun _=>⟨B,T,hv⟩,h.f4,h.f5,h.f6,h.f7,h.f8,h.f9⟩
theorem LC.Uf {p1 p2:Value} (h:LC B0 xc y b6 b7 v1 v2 aA aC a c L V x) (h4:L 4=false) (hC:Ay DK L) (B:Below x.heap.size x x') (R:∀ W',Kept x x' W'→dM W' p1 (aH a c).1∧iO W' p2 (aH a c).2):LC B0 x x' b6 b7 p1 p2 aA aC a c (fK L 4) (iJ V 4 (.tuple #[p1,p2])) x':=by
 have g:=h.below B
 have n5:L 5=true→False:=fun q=>by have:=(hC 5 _ rfl q).1;rw [h4] at this;cases this
 have n6:L 6=true→False:=fun q=>n5 (hC 6 _ rfl q).1
 have n7:L 7=true→False:=fun q=>n5 (hC 7 _ rfl q).1
 exact ⟨g.d,g.f0,g.f1,g.f2,g.f3,fun _=>⟨rfl,R,Below.refl _ _⟩,fun q=>(n5 q).elim,fun q=>(n6 q).elim,fun q=>(n7 q).elim,fun q=>let ⟨e,r,k,_⟩:=g.f8 q;⟨e,r,k,fun _=>.inl (lt_of_heap (h.f8 q).2.2.1)⟩,fun q=>let ⟨e,r,k,_⟩:=g.f9 q;⟨e,r,k,fun _=>.inl (lt_of_heap (h.f9 q).2.2.1)⟩⟩
theorem LC.Ug (h:LC B0 xc y b6 b7 v1 v2 aA aC a c L V x):LC B0 xc y b6 b7 v1 v2 aA aC a c (fK L 5) (iJ V 5 (.tuple #[v1,v2])) x:=⟨h.d,h.f0,h.f1,h.f2,h.f3,h.f4,fun _=>rfl,h.f6,h.f7,h.f8,h.f9⟩
theorem LC.Uh (h:LC B0 xc y b6 b7 v1 v2 aA aC a c L V x):LC B0 xc y b6 b7 v1 v2 aA aC a c (fK L 6) (iJ V 6 v1) x:=⟨h.d,h.f0,h.f1,h.f2,h.f3,h.f4,h.f5,fun _=>rfl,h.f7,h.f8,h.f9⟩
theorem LC.Hq (h:LC B0 xc y b6 b7 v1 v2 aA aC a c L V x):LC B0 xc y b6 b7 v1 v2 aA aC a c (fK L 7) (iJ V 7 v2) x:=⟨h.d,h.f0,h.f1,h.f2,h.f3,h.f4,h.f5,h.f6,fun _=>rfl,h.f8,h.f9⟩
theorem LC.Ui (h:LC B0 xc y b6 b7 v1 v2 aA aC a c L V x):LC B0 xc y x.heap.size b7 v1 v2 aA aC a c (fK L 8) (iJ V 8 (.pointer (some ⟨x.heap.size,0,none⟩))) (x.alloc LV) :=
 let g:=h.below (bn _ _)
 ⟨g.d,g.f0,g.f1,g.f2,g.f3,g.f4,g.f5,g.f6,g.f7,fun _=>⟨rfl,h.d.size,aV _ _,fun q=>.inr (h.f4 q).2.2.size⟩,g.f9⟩
theorem LC.Uj (h:LC B0 xc y b6 b7 v1 v2 aA aC a c L V x):LC B0 xc y b6 x.heap.size v1 v2 aA aC a c (fK L 9) (iJ V 9 (.pointer (some ⟨x.heap.size,0,none⟩))) (x.alloc LW) :=
 let g:=h.below (bn _ _)
 ⟨g.d,g.f0,g.f1,g.f2,g.f3,g.f4,g.f5,g.f6,g.f7,g.f8,fun _=>⟨rfl,h.d.size,aV _ _,fun q=>.inr (h.f4 q).2.2.size⟩⟩
/-- Where the region stands: the two stores come last. -/
def LF (B0:World) (aA aC:Value) (a:aJ) (c:iC) (L:Nat→Bool) (V:Nat→Value) (x:World):Prop:=∃ (xc y z:World) (b6 b7:Nat) (v1 v2:Value),LC B0 xc y b6 b7 v1 v2 aA aC a c L V z∧(L 10=false→x=z) ∧
 (L 10=true→L 11=false→∃ p0 k0 p1 k1,v1=.agg #[.int .i64 (aH a c).1.valid,.slice p0 (aH a c).1.boxes.length k0,.slice p1 (aH a c).1.seen.length k1]∧x=jU z b6 (.int .i64 (aH a c).1.valid) (.slice p0 (aH a c).1.boxes.length k0) (.slice p1 (aH a c).1.seen.length k1))∧(L 11=true→DI B0 x (V 8) (V 9) (aH a c))
theorem LF.old (h:LF B0 aA aC a c L V x) (h10:L 10=false):∃ xc y b6 b7 v1 v2,LC B0 xc y b6 b7 v1 v2 aA aC a c L V x:=by
 obtain ⟨xc,y,z,b6,b7,v1,v2,g,e,-⟩:=h
 cases e h10;exact ⟨xc,y,b6,b7,v1,v2,g⟩
theorem lg (hC:Ay DK L) {i:Nat} (hi:L i=false) (hm:[0,1,2,3,4,5,6,8,9].contains i=true:=by rfl):L 10=false:=by
 cases h:L 10
 ·rfl
 ·rw [Av.1 (hC 10 _ rfl h) i (by simpa using hm)] at hi;cases hi
theorem jA (hC:Ay DK L) {i:Nat} (hi:L i=false) (hm:[0,1,2,3,4,5,6,7,8,9,10].contains i=true:=by rfl):L 11=false:=by
 cases h:L 11
 ·rfl
 ·rw [Av.1 (hC 11 _ rfl h) i (by simpa using hm)] at hi;cases hi
theorem LC.lf {i:Nat} (h:LC B0 xc y b6 b7 v1 v2 aA aC a c (fK L i) (iJ V i v) x) (h10:L 10=false) (h11:L 11=false) (hi:(Nat.beq 10 i || Nat.beq 11 i)=false:=by rfl):LF B0 aA aC a c (fK L i) (iJ V i v) x:=by
 simp only [Bool.or_eq_false_iff] at hi
 have e10:fK L i 10=false:=by unfold fK;rw [hi.1];exact h10
 have e11:fK L i 11=false:=by unfold fK;rw [hi.2];exact h11
 exact ⟨xc,y,x,b6,b7,v1,v2,h,fun _=>rfl,fun q=>(by rw [e10] at q;cases q),fun q=>(by rw [e11] at q;cases q)⟩
theorem LF.Hq (h:LF B0 aA aC a c L V x) (h5:L 5=true) (h11:L 11=false):∃ v1 v2,V 5=.tuple #[v1,v2]∧LF B0 aA aC a c (fK L 7) (iJ V 7 v2) x:=by
 obtain ⟨xc,y,z,b6,b7,v1,v2,g,e,e',-⟩:=h
 exact ⟨v1,v2,g.f5 h5,xc,y,z,b6,b7,v1,v2,g.Hq,e,e',fun q=>(by rw [show fK L 7 11=L 11 from rfl,h11] at q;cases q)⟩
theorem LF.Uk (h:LF B0 aA aC a c L V x) (hw:tY L [0,1,2,3,4,5,6,8,9]) (h10:L 10=false) (h11:L 11=false):∃ b6 p0 k0 p1 k1,V 8=.pointer (some ⟨b6,0,none⟩)∧V 6=.agg #[.int .i64 (aH a c).1.valid,.slice p0 (aH a c).1.boxes.length k0,.slice p1 (aH a c).1.seen.length k1]∧x.heap[b6]?=some LV ∧
  ∀ v,LF B0 aA aC a c (fK L 10) (iJ V 10 v) (jU x b6 (.int .i64 (aH a c).1.valid) (.slice p0 (aH a c).1.boxes.length k0) (.slice p1 (aH a c).1.seen.length k1)):=by
 obtain ⟨xc,y,b6,b7,v1,v2,g⟩:=h.old h10
 obtain ⟨h0,h1,h2,h3,h4,h5,h6,h8,h9,-⟩:=hw
 obtain ⟨e4,R,K⟩:=g.f4 h4
 obtain ⟨p0,k0,p1,k1,e⟩:=(R y (Kept.refl _ _)).1.form'
 refine ⟨b6,p0,k0,p1,k1,(g.f8 h8).1,(g.f6 h6).trans e,(g.f8 h8).2.2.1,fun v=>⟨xc,y,x,b6,b7,v1,v2,⟨g.d,g.f0,g.f1,g.f2,g.f3,g.f4,g.f5,g.f6,g.f7,g.f8,g.f9⟩,fun q=>(by rw [show fK L 10 10=true from rfl] at q;cases q),fun _ _=>⟨p0,k0,p1,k1,e,rfl⟩,fun q=>(by rw [show fK L 10 11=L 11 from rfl,h11] at q;cases q)⟩⟩
theorem LF.Ul (h:LF B0 aA aC a c L V x) (hw:tY L [0,1,2,3,4,5,6,7,8,9,10]) (h11:L 11=false):∃ b7 a0 m0 j0 a1 j1 a2 j2 a3 j3,V 9=.pointer (some ⟨b7,0,none⟩)∧V 7=.agg #[.int .i64 (aH a c).2.code,.int .i64 (aH a c).2.num,.slice a0 m0 j0,.int .i64 (aH a c).2.box.valid,.int .i64 (aH a c).2.box.next,.int .i64 (aH a c).2.box.seq,.slice a1 (aH a c).2.box.ah.length j1,.slice a2 (aH a c).2.box.au.length j2,.int .i64 (aH a c).2.box.lost,.slice a3 (aH a c).2.names.length j3]∧x.heap[b7]?=some LW ∧
  ∀ v,LF B0 aA aC a c (fK L 11) (iJ V 11 v) (iE x b7 (.int .i64 (aH a c).2.code) (.int .i64 (aH a c).2.num) (.slice a0 m0 j0) (.int .i64 (aH a c).2.box.valid) (.int .i64 (aH a c).2.box.next) (.int .i64 (aH a c).2.box.seq) (.slice a1 (aH a c).2.box.ah.length j1) (.slice a2 (aH a c).2.box.au.length j2) (.int .i64 (aH a c).2.box.lost) (.slice a3 (aH a c).2.names.length j3)):=by
 obtain ⟨xc,y,z,b6,b7,v1,v2,g,-,H,-⟩:=h
 obtain ⟨h0,h1,h2,h3,h4,h5,h6,h7,h8,h9,h10,-⟩:=hw
 obtain ⟨p0,k0,p1,k1,rfl,rfl⟩:=H h10 h11
 obtain ⟨e4,R,K⟩:=g.f4 h4
 obtain ⟨a0,m0,j0,a1,j1,a2,j2,a3,j3,rfl⟩:=(R y (Kept.refl _ _)).2.form
 obtain ⟨e8,q6,F6,o6⟩:=g.f8 h8
 obtain ⟨e9,q7,F7,o7⟩:=g.f9 h9
 obtain ⟨k7,-,G⟩:=acO R K F6 F7 g.d q6 q7 (o6 h4) (o7 h4)
 exact ⟨b7,a0,m0,j0,a1,j1,a2,j2,a3,j3,e9,g.f7 h7,k7,fun v=>⟨xc,y,z,b6,b7,_,_,⟨g.d,g.f0,g.f1,g.f2,g.f3,g.f4,g.f5,g.f6,g.f7,g.f8,g.f9⟩,fun q=>(by rw [show fK L 11 10=L 10 from rfl,h10] at q;cases q),fun _ q=>(by rw [show fK L 11 11=true from rfl] at q;cases q),fun _=>by rw [show iJ V 11 v 8=V 8 from rfl,show iJ V 11 v 9=V 9 from rfl,e8,e9];exact G⟩⟩
theorem LF.start (h:Below B0.heap.size B0 x) {n:Nat} (hm:n=12):LF B0 aA aC a c (fun i=>Nat.ble n i) V x:=by
 subst hm
 have hn:∀ i,i < 12→Nat.ble 12 i=false:=fun i hi=>Bool.eq_false_iff.2 fun q=>by have:=Nat.le_of_ble_eq_true q;omega
 have n:∀ i,i < 12→∀ {p:Prop},Nat.ble 12 i=true→p:=fun i hi p q=>by rw [hn i hi] at q;cases q
 exact ⟨x,x,x,0,0,aA,aA,⟨h,n 0 (by decide),n 1 (by decide),n 2 (by decide),n 3 (by decide),n 4 (by decide),n 5 (by decide),n 6 (by decide),n 7 (by decide),n 8 (by decide),n 9 (by decide)⟩,fun _=>rfl,n 10 (by decide),n 11 (by decide)⟩
theorem LF.fin (h:LF B0 aA aC a c (fun _=>true) V x):DI B0 x (V 8) (V 9) (aH a c):=h.choose_spec.choose_spec.choose_spec.choose_spec.choose_spec.choose_spec.choose_spec.2.2.2 rfl
end
/- What Um of package spec does where it creates nothing. -/
theorem acV (ga:Nat) (a:aJ) (S:Nat→Prop) (nv:Value) (nm:List Int) (w:World) (hp:aU w S ga a) (iI:Bs w nv nm) (hbl:a.boxes.length≤2000000) (hf:0≤bB (fun x:aD=>decide (x.name=nm)) a.boxes) :
  Calls Tryz.prog 54 #[.pointer (some ⟨ga,0,none⟩),nv] w fun e w'=>∃ u,e=.returned u∧jk w' u (aQ 2 0)∧Below w.heap.size w w'∧aU w' S ga a:=by
 have HP:Hid (∀ w',Below w.heap.size w w'→aU w' S ga a):=fun w' h=>hp.below h
 have HN:Hid (∀ w',Below w.heap.size w w'→Bs w' nv nm):=fun w' h=>iI.below h
 have bM:=hp.lt
 obtain ⟨q0,q1,q2,rfl⟩:=iI.aG
 clear hp iI
 have HB:Hid (Below w.heap.size w (w.alloc (.cells #[.int .i64 0,.int .i64 0,.slice none 0 0,.int .i64 0,.int .i64 0,.int .i64 0,.slice none 0 0,.slice none 0 0,.int .i64 0,.slice none 0 0] 40))):=bn _ _
 have HK:Hid ((w.alloc (.cells #[.int .i64 0,.int .i64 0,.slice none 0 0,.int .i64 0,.int .i64 0,.int .i64 0,.slice none 0 0,.slice none 0 0,.int .i64 0,.slice none 0 0] 40)).heap[w.heap.size]?=some (.cells #[.int .i64 0,.int .i64 0,.slice none 0 0,.int .i64 0,.int .i64 0,.int .i64 0,.slice none 0 0,.slice none 0 0,.int .i64 0,.slice none 0 0] 40 (0,0))):=aV w _
 go_enter Tryz.func54,Tryz.ntmps54
 go_upto_region 1 with fail
 generalize w.alloc (.cells #[.int .i64 0,.int .i64 0,.slice none 0 0,.int .i64 0,.int .i64 0,.int .i64 0,.slice none 0 0,.slice none 0 0,.int .i64 0,.slice none 0 0] 40)=W at HB HK ⊢
 obtain ⟨u0,u1,c0,c1,c2,hb,hv⟩:=(HP.out W HB.out).cells
 have hl2:ga < W.heap.size:=Nat.lt_of_lt_of_le bM HB.out.size
 have HV:Hid _:=hv
 obtain ⟨e0,e1,rfl,-⟩:=hb.v.form
 clear hb hv
 go_wp2_with fail
 refine (uM _ _ a nm _ HV.out (HN.out _ HB.out) hbl).mono ?_
 rintro e w1 ⟨rfl,B1⟩
 have HB1:Hid (Below w.heap.size w w1):=Below.step HB.out B1
 have jK:Hid _:=ay B1 HK.out
 have d0:w1.cell? ⟨ga,0,none⟩=some (.int .i64 a.valid):=(B1.cell (p:=⟨ga,0,none⟩) hl2).trans c0
 have d1:w1.cell? ⟨ga,1,none⟩=some (.slice e0 a.boxes.length e1):=(B1.cell (p:=⟨ga,1,none⟩) hl2).trans c1
 have hl3:ga < w1.heap.size:=Nat.lt_of_lt_of_le hl2 B1.size
 clear B1 HK c0 c1 c2 HV HN
 generalize bB (fun x:aD=>decide (x.name=nm)) a.boxes=fi at *
 obtain ⟨r0,r1,r2,r3,r4,r5,r6,r7,r8,r9⟩:=aM jK.out
 have fz:∀ i,w1.frozen? ⟨w.heap.size,i,none⟩=false:=fun i=>frozen_of_row w1 _ i _ _ jK.out
 have hlr:=lt_of_heap jK.out
 have HF:Hid _:=oW (w:=w) jK.out (Nat.le_refl _) HB1.out 2 0
 go_wp2
 have ff:=aM HF.out.1
 refine bodyPost_ret (v:=.agg #[.int .i64 2,.int .i64 0,.slice none 0 0,.int .i64 0,.int .i64 0,.int .i64 0,.slice none 0 0,.slice none 0 0,.int .i64 0,.slice none 0 0]) (by simp [results,Tryz.results54,go_sem,ff]) rfl ⟨_,rfl,?_,HF.out.2,HP.out _ HF.out.2⟩
 exact ⟨_,_,_,_,rfl,⟨_,_,_,rfl,ng _,Rd.nil _,Rd.nil _,aI,aI,aI,aI⟩,⟨rfl,rfl⟩,⟨by decide,by decide⟩,aI⟩
theorem acW (ga:Nat) (a:aJ) (S:Nat→Prop) (nv:Value) (nm:List Int) (w:World) (hp:aU w S ga a) (iI:Bs w nv nm) (hbl:a.boxes.length≤2000000) (hf:bB (fun x:aD=>decide (x.name=nm)) a.boxes < 0) (h4:4≤a.boxes.length) :
  Calls Tryz.prog 54 #[.pointer (some ⟨ga,0,none⟩),nv] w fun e w'=>∃ u,e=.returned u∧jk w' u (aQ 3 0)∧Below w.heap.size w w'∧aU w' S ga a:=by
 have HP:Hid (∀ w',Below w.heap.size w w'→aU w' S ga a):=fun w' h=>hp.below h
 have HN:Hid (∀ w',Below w.heap.size w w'→Bs w' nv nm):=fun w' h=>iI.below h
 have bM:=hp.lt
 obtain ⟨q0,q1,q2,rfl⟩:=iI.aG
 clear hp iI
 have HB:Hid (Below w.heap.size w (w.alloc (.cells #[.int .i64 0,.int .i64 0,.slice none 0 0,.int .i64 0,.int .i64 0,.int .i64 0,.slice none 0 0,.slice none 0 0,.int .i64 0,.slice none 0 0] 40))):=bn _ _
 have HK:Hid ((w.alloc (.cells #[.int .i64 0,.int .i64 0,.slice none 0 0,.int .i64 0,.int .i64 0,.int .i64 0,.slice none 0 0,.slice none 0 0,.int .i64 0,.slice none 0 0] 40)).heap[w.heap.size]?=some (.cells #[.int .i64 0,.int .i64 0,.slice none 0 0,.int .i64 0,.int .i64 0,.int .i64 0,.slice none 0 0,.slice none 0 0,.int .i64 0,.slice none 0 0] 40 (0,0))):=aV w _
 go_enter Tryz.func54,Tryz.ntmps54
 go_upto_region 1 with fail
 generalize w.alloc (.cells #[.int .i64 0,.int .i64 0,.slice none 0 0,.int .i64 0,.int .i64 0,.int .i64 0,.slice none 0 0,.slice none 0 0,.int .i64 0,.slice none 0 0] 40)=W at HB HK ⊢
 obtain ⟨u0,u1,c0,c1,c2,hb,hv⟩:=(HP.out W HB.out).cells
 have hl2:ga < W.heap.size:=Nat.lt_of_lt_of_le bM HB.out.size
 have HV:Hid _:=hv
 obtain ⟨e0,e1,rfl,-⟩:=hb.v.form
 clear hb hv
 go_wp2_with fail
 refine (uM _ _ a nm _ HV.out (HN.out _ HB.out) hbl).mono ?_
 rintro e w1 ⟨rfl,B1⟩
 have HB1:Hid (Below w.heap.size w w1):=Below.step HB.out B1
 have jK:Hid _:=ay B1 HK.out
 have d0:w1.cell? ⟨ga,0,none⟩=some (.int .i64 a.valid):=(B1.cell (p:=⟨ga,0,none⟩) hl2).trans c0
 have d1:w1.cell? ⟨ga,1,none⟩=some (.slice e0 a.boxes.length e1):=(B1.cell (p:=⟨ga,1,none⟩) hl2).trans c1
 have hl3:ga < w1.heap.size:=Nat.lt_of_lt_of_le hl2 B1.size
 clear B1 HK c0 c1 c2 HV HN
 generalize bB (fun x:aD=>decide (x.name=nm)) a.boxes=fi at *
 obtain ⟨r0,r1,r2,r3,r4,r5,r6,r7,r8,r9⟩:=aM jK.out
 have fz:∀ i,w1.frozen? ⟨w.heap.size,i,none⟩=false:=fun i=>frozen_of_row w1 _ i _ _ jK.out
 have hlr:=lt_of_heap jK.out
 have Un:(4:Int)≤(a.boxes.length:Int):=by omega
 have HF:Hid _:=oW (w:=w) jK.out (Nat.le_refl _) HB1.out 3 0
 go_wp2
 have ff:=aM HF.out.1
 refine bodyPost_ret (v:=.agg #[.int .i64 3,.int .i64 0,.slice none 0 0,.int .i64 0,.int .i64 0,.int .i64 0,.slice none 0 0,.slice none 0 0,.int .i64 0,.slice none 0 0]) (by simp [results,Tryz.results54,go_sem,ff]) rfl ⟨_,rfl,?_,HF.out.2,HP.out _ HF.out.2⟩
 exact ⟨_,_,_,_,rfl,⟨_,_,_,rfl,ng _,Rd.nil _,Rd.nil _,aI,aI,aI,aI⟩,⟨rfl,rfl⟩,⟨by decide,by decide⟩,aI⟩
theorem acX (ga:Nat) (a:aJ) (S:Nat→Prop) (nv:Value) (nm:List Int) (w:World) (hp:aU w S ga a) (iI:Bs w nv nm) (hbl:a.boxes.length≤2000000) (hf:bB (fun x:aD=>decide (x.name=nm)) a.boxes < 0) (h4:¬ 4≤a.boxes.length) (hv:1000000≤a.valid) :
  Calls Tryz.prog 54 #[.pointer (some ⟨ga,0,none⟩),nv] w fun e w'=>∃ u,e=.returned u∧jk w' u (aQ 3 0)∧Below w.heap.size w w'∧aU w' S ga a:=by
 have HP:Hid (∀ w',Below w.heap.size w w'→aU w' S ga a):=fun w' h=>hp.below h
 have HN:Hid (∀ w',Below w.heap.size w w'→Bs w' nv nm):=fun w' h=>iI.below h
 have bM:=hp.lt
 obtain ⟨q0,q1,q2,rfl⟩:=iI.aG
 clear hp iI
 have HB:Hid (Below w.heap.size w (w.alloc (.cells #[.int .i64 0,.int .i64 0,.slice none 0 0,.int .i64 0,.int .i64 0,.int .i64 0,.slice none 0 0,.slice none 0 0,.int .i64 0,.slice none 0 0] 40))):=bn _ _
 have HK:Hid ((w.alloc (.cells #[.int .i64 0,.int .i64 0,.slice none 0 0,.int .i64 0,.int .i64 0,.int .i64 0,.slice none 0 0,.slice none 0 0,.int .i64 0,.slice none 0 0] 40)).heap[w.heap.size]?=some (.cells #[.int .i64 0,.int .i64 0,.slice none 0 0,.int .i64 0,.int .i64 0,.int .i64 0,.slice none 0 0,.slice none 0 0,.int .i64 0,.slice none 0 0] 40 (0,0))):=aV w _
 go_enter Tryz.func54,Tryz.ntmps54
 go_upto_region 1 with fail
 generalize w.alloc (.cells #[.int .i64 0,.int .i64 0,.slice none 0 0,.int .i64 0,.int .i64 0,.int .i64 0,.slice none 0 0,.slice none 0 0,.int .i64 0,.slice none 0 0] 40)=W at HB HK ⊢
 obtain ⟨u0,u1,c0,c1,c2,hb,hv⟩:=(HP.out W HB.out).cells
 have hl2:ga < W.heap.size:=Nat.lt_of_lt_of_le bM HB.out.size
 have HV:Hid _:=hv
 obtain ⟨e0,e1,rfl,-⟩:=hb.v.form
 clear hb hv
 go_wp2_with fail
 refine (uM _ _ a nm _ HV.out (HN.out _ HB.out) hbl).mono ?_
 rintro e w1 ⟨rfl,B1⟩
 have HB1:Hid (Below w.heap.size w w1):=Below.step HB.out B1
 have jK:Hid _:=ay B1 HK.out
 have d0:w1.cell? ⟨ga,0,none⟩=some (.int .i64 a.valid):=(B1.cell (p:=⟨ga,0,none⟩) hl2).trans c0
 have d1:w1.cell? ⟨ga,1,none⟩=some (.slice e0 a.boxes.length e1):=(B1.cell (p:=⟨ga,1,none⟩) hl2).trans c1
 have hl3:ga < w1.heap.size:=Nat.lt_of_lt_of_le hl2 B1.size
 clear B1 HK c0 c1 c2 HV HN
 generalize bB (fun x:aD=>decide (x.name=nm)) a.boxes=fi at *
 obtain ⟨r0,r1,r2,r3,r4,r5,r6,r7,r8,r9⟩:=aM jK.out
 have fz:∀ i,w1.frozen? ⟨w.heap.size,i,none⟩=false:=fun i=>frozen_of_row w1 _ i _ _ jK.out
 have hlr:=lt_of_heap jK.out
 have Un:(a.boxes.length:Int) < 4:=by omega
 have HF:Hid _:=oW (w:=w) jK.out (Nat.le_refl _) HB1.out 3 0
 go_wp2
 have ff:=aM HF.out.1
 refine bodyPost_ret (v:=.agg #[.int .i64 3,.int .i64 0,.slice none 0 0,.int .i64 0,.int .i64 0,.int .i64 0,.slice none 0 0,.slice none 0 0,.int .i64 0,.slice none 0 0]) (by simp [results,Tryz.results54,go_sem,ff]) rfl ⟨_,rfl,?_,HF.out.2,HP.out _ HF.out.2⟩
 exact ⟨_,_,_,_,rfl,⟨_,_,_,rfl,ng _,Rd.nil _,Rd.nil _,aI,aI,aI,aI⟩,⟨rfl,rfl⟩,⟨by decide,by decide⟩,aI⟩
/- Cells put behind a row of the call's own, as they are. -/
/-- A slice's cells, as they are. -/
def tZ (w:World) (u:Value) (m sz:Nat) (news:List Value):Prop :=
 (u=.slice none 0 0∧m=0∧news=[])∨∃ g off cap,u=.slice (some ⟨g,off,none⟩) m cap∧news.length=m * sz∧∀ j y,news[j]?=some y→w.cell? ⟨g,off+j,none⟩=some y
section
variable {P : Program} {w : World} {e t : TypeId} {sz bytes B n m : Nat} {v u : Value} {xs news : List Value}
theorem Uo (h:w.ownsRow B e sz v n xs) (hu:tZ w u m sz news) (hone:∀ y ∈ news,y.oneCell'=true) (ty:TypeId) {i:TypeInfo} {z:Value} (ht:P.underlying t=some (.slice e)) (hi:P.info? e=some i) (hz:i.zero=some z) (hsize:i.size=sz) (hby:i.bytes=bytes) (hzs:z.cells.size=sz) (hsz:0 < sz)
  (hl:n+m≤maxLen) (hb:(n+m) * bytes≤140737488355328) (hB:B≤w.heap.size) :
  ∃ v' w',(Builtin.append_ #[t,t] ty #[v,u]).run P w=.ok v' w'∧w'.ownsRow B e sz v' (n+m) (xs ++ news)∧w.grownBy w' v.ownBlock∧(v'.ownBlock=v.ownBlock∨v'.ownBlock=some w.heap.size):=by
 rcases hu with ⟨rfl,rfl,rfl⟩ | ⟨g,off,cap,rfl,hn,hc⟩
 ·exact ⟨v,w,run_append_owned_none (P:=P) (w:=w) B t ty e i sz ht hi v n xs h,by simpa using h,World.grownBy.refl _ _,.inl rfl⟩
 ·obtain ⟨v',w',hr,k2,k3,k4,k5⟩:=run_append_own_at (P:=P) w B t ty e i z sz bytes ht hi hz hsize hby hzs hsz v n xs h ⟨g,off,none⟩ m cap news hn (fun j y hy=>by rw [Addr.add_lit];exact hc j y hy) hone hl hb hB
  exact ⟨v',w',hr,k2,k3,k5⟩
theorem Hr {o:Oper} {a:Act} {K:Act→World→Prop} {Q:Exit→Act→World→Prop} (d:Nat) (hd:o.dst=some d) (s y:Operand)
  (ho:o.op=.call { callee:=.builtin .append,args:=#[s,y],argTypes:=#[t,t] }) (h:w.ownsRow B e sz v n xs) (hu:tZ w u m sz news) (hone:∀ y ∈ news,y.oneCell'=true) {i:TypeInfo} {z:Value} (ht:P.underlying t=some (.slice e)) (hi:P.info? e=some i) (hz:i.zero=some z) (hsize:i.size=sz) (hby:i.bytes=bytes) (hzs:z.cells.size=sz) (hsz:0 < sz)
  (hs:a.eval s=v) (hy:a.eval y=u) (hl:n+m≤maxLen) (hb:(n+m) * bytes≤140737488355328) (hB:B≤w.heap.size)
  (k:∀ v' w',w'.ownsRow B e sz v' (n+m) (xs ++ news)→w.grownBy w' v.ownBlock→(v'.ownBlock=v.ownBlock∨v'.ownBlock=some w.heap.size)→K (a.put (some d) v') w'):o.wp P a w K Q:=by
 obtain ⟨v',w',hr,h2,h3,h5⟩:=Uo (P:=P) (t:=t) h hu hone o.type ht hi hz hsize hby hzs hsz hl hb hB
 unfold Oper.wp execOp
 simp only [ho,resolve,invoke,builtin,Sem.run_bind,Sem.run_pure,Result.andThen_ok,List.map_toArray,List.map_cons,List.map_nil,hs,hy,hr]
 have:=k v' w' h2 h3 h5
 rw [← hd] at this
 exact this
theorem LX {ops:Array Oper} {rest:List Oper} {o:Oper} {a:Act} {Q:Exit→Act→World→Prop} (hgd:o.guard=none) (s y:Operand)
  (ho:o.op=.call { callee:=.builtin .append,args:=#[s,y],argTypes:=#[t,t] }) (h:w.ownsRow B e sz v n xs) (hu:tZ w u m sz news) (hone:∀ y ∈ news,y.oneCell'=true) {i:TypeInfo} {z:Value} (ht:P.underlying t=some (.slice e)) (hi:P.info? e=some i) (hz:i.zero=some z) (hsize:i.size=sz) (hby:i.bytes=bytes) (hzs:z.cells.size=sz) (hsz:0 < sz)
  (hs:a.eval s=v) (hy:a.eval y=u) (hl:n+m≤maxLen) (hb:(n+m) * bytes≤140737488355328) (hB:B≤w.heap.size)
  (k:∀ v' w',w'.ownsRow B e sz v' (n+m) (xs ++ news)→w.grownBy w' v.ownBlock→(v'.ownBlock=v.ownBlock∨v'.ownBlock=some w.heap.size)→wpList P ops Q rest (a.put o.dst v') w'):wpList P ops Q (o :: rest) a w:=by
 refine wpList_plain hgd fun K hK=>?_
 obtain ⟨v',w',hr,h2,h3,h5⟩:=Uo (P:=P) (t:=t) h hu hone o.type ht hi hz hsize hby hzs hsz hl hb hB
 unfold Oper.wp execOp
 simp only [ho,resolve,invoke,builtin,Sem.run_bind,Sem.run_pure,Result.andThen_ok,List.map_toArray,List.map_cons,List.map_nil,hs,hy,hr]
 exact hK _ _ (k v' w' h2 h3 h5)
end
/- An account whose boxes are put anew. -/
theorem aU.Uq {w1 w:World} {S S':Nat→Prop} {ga:Nat} {a:aJ} {v:Value} {l:List aD} (h:aU w1 S ga a) (hb:Below w1.heap.size w1 w) (hq:jS w S' v l) (hg:¬ S' ga) (hS:∀ k,S' k→S k∨w1.heap.size≤k) :
  aU (w.setCell ⟨ga,1,none⟩ v) S' ga ⟨a.valid,l,a.seen⟩:=by
 have h':=h.below hb
 have ht:=h'.ty
 obtain ⟨_,QJ,u1',hh,_,hi,_⟩:=h
 obtain ⟨hs,u0,u1,h0,h1,_,r⟩:=h'
 have hk:∀ k,k≠ga→(w.setCell ⟨ga,1,none⟩ v).heap[k]?=w.heap[k]?:=fun k h=>Below.heap_setCell _ _ _ _ h
 have he:=(hb.block ga (lt_of_heap hh)).trans hh
 rw [h0] at he
 simp only [Option.some.injEq,Obj.cells.injEq,Array.mk.injEq,List.cons.injEq,true_and,and_true] at he
 obtain ⟨rfl,rfl⟩:=he
 refine ⟨hg,v,u1,aP (i:=1) h0,Gb hq (fun k h _=>hk k fun e=>hg (e ▸ h)) (iT ht (by decide)) (iT ht (by decide)),?_,r⟩
 refine Ow.mono (Cj (w:=w1) hi fun k hk1 hk2 hT=>?_) fun k h=>⟨fun h'=>(hS k h').elim h.1 fun h'=>by have:=h.2;omega,by have:=h.2;have:=hb.size;simpa [World.setCell] using Nat.lt_of_lt_of_le h.2 hb.size⟩
 have:k≠ga:=fun e=>by subst e;obtain ⟨cs,fz,hT⟩:=hT;exact kN hT ⟨_,_,hh⟩ (by decide)
 exact (hk k this).trans (hb.block k hk2)
/-- A box of its own, without ah and au. -/
theorem acY {w:World} {na:Option Addr} {nn nc:Nat} {nm:List Int} {v n:Int} (h:RO w Any (.slice na nn nc) nm) (hv:aB v) (hn:aB n):EL 7 gT w [⟨nm,v,n,0,[],[],0⟩] (fun _=>False) [.slice na nn nc,.int .i64 v,.int .i64 n,.int .i64 0,.slice none 0 0,.slice none 0 0,.int .i64 0] :=
 EL.one rfl ⟨_,_,_,rfl,h,.inl ⟨rfl,rfl⟩,⟨Rd.nil _,fun _ _ _ e=>by cases e⟩,hv,hn,aI,aI⟩
theorem zk {w:World}:∀ {l:List aD} {S:Nat→Prop} {xs:List Value},EL 7 gT w l S xs→∀ y ∈ xs,y.oneCell'=true
 | [],_,_,h=>by rw [show _=[] from h];simp
 | x :: l,_,_,⟨c,ys,_,_,e,hc,⟨u0,u1,u2,ec,h0,h1,h2,_⟩,hl,_⟩=>by
  obtain ⟨a0,n0,c0,rfl⟩:=h0.bs.aG
  obtain ⟨a1,c1,rfl,-⟩:=h1.v.form
  obtain ⟨a2,c2,rfl,-⟩:=h2.1.form
  subst ec
  subst e
  intro y hy
  simp only [List.cons_append,List.nil_append,List.mem_cons,List.mem_append,List.not_mem_nil,or_false] at hy
  rcases hy with rfl | rfl | rfl | rfl | rfl | rfl | rfl | hy
  all_goals first | rfl | exact zk hl y hy
/-- One box into the middle of a row. -/
theorem acZ {w:World} {l:List aD} {b:aD} {S:Nat→Prop} {xs cb:List Value} (i:Nat) (h:EL 7 gT w l S xs) (hb:EL 7 gT w [b] (fun _=>False) cb):EL 7 gT w (l.take i ++ b :: l.drop i) S (xs.take (i * 7) ++ cb ++ xs.drop (i * 7)):=by
 obtain ⟨S1,S2,e1,e2,d1,d2,d3⟩:=EL.split i h
 have:=(e1.app hb (fun _ _ h=>h)).app e2 (fun k h h'=>h.elim (fun h=>d3 k h h') (fun h=>h))
 rw [List.append_assoc] at this
 exact this.mono fun k h=>h.elim (fun h=>h.elim (d1 k) False.elim) (d2 k)
/-- One box out of a row. -/
theorem ac3 {w:World} {l:List aD} {S:Nat→Prop} {xs:List Value} (i:Nat) (h:EL 7 gT w l S xs):EL 7 gT w (l.take i ++ l.drop (i+1)) S (xs.take (i * 7) ++ xs.drop ((i+1) * 7)):=by
 obtain ⟨S1,S2,e1,e2,d1,d2,d3⟩:=EL.split i h
 obtain ⟨T1,T2,f1,f2,c1,c2,c3⟩:=EL.split 1 e2
 have:=e1.app f2 (fun k h h'=>d3 k h (c2 k h'))
 rw [List.drop_drop,List.drop_drop] at this
 rw [show (i+1) * 7=i * 7+1 * 7 by omega]
 exact this.mono fun k h=>h.elim (d1 k) fun h=>d2 k (c2 k h)
theorem takeWhile_take {α:Type} (p:α→Bool):∀ (l:List α) (i:Nat),(∀ j x,j < i→l[j]?=some x→p x=true)→(∀ x,l[i]?=some x→p x=false)→i≤l.length→l.takeWhile p=l.take i∧l.dropWhile p=l.drop i
 | [],i,_,_,hi=>by simp at hi;subst hi;simp
 | x :: l,0,_,h,_=>by simp [h x rfl]
 | x :: l,i+1,h1,h2,hi=>by
  have hx:=h1 0 x (by omega) rfl
  obtain ⟨e1,e2⟩:=takeWhile_take p l i (fun j y hj hy=>h1 (j+1) y (by omega) (by simpa using hy)) (fun y hy=>h2 y (by simpa using hy)) (by simpa using hi)
  simp [hx,e1,e2]
section
variable {w : World} {g cap n k : Nat} {cur : Array Value}
theorem Ht (hh:w.heap[g]?=some (.cells cur 37 (0,0))) (hs:n * 7≤cur.size) (hk:k≤n) (c:Nat):tZ w (.slice (some ⟨g,0,none⟩) k c) k 7 ((cur.toList.take (n * 7)).take (k * 7)):=by
 refine .inr ⟨g,0,c,rfl,?_,fun j y hy=>?_⟩
 ·rw [List.length_take,List.length_take,Array.length_toList];omega
 ·rw [List.getElem?_take] at hy
  split at hy
  ·rw [List.getElem?_take] at hy
   split at hy
   ·rw [cell_of_row w g _ cur _ (0,0) hh,Nat.zero_add];simpa using hy
   ·cases hy
  ·cases hy
theorem Ur (hh:w.heap[g]?=some (.cells cur 37 (0,0))) (hs:n * 7≤cur.size) (hk:k≤n) (c:Nat):tZ w (.slice (some ⟨g,k * 7,none⟩) (n - k) c) (n - k) 7 ((cur.toList.take (n * 7)).drop (k * 7)):=by
 refine .inr ⟨g,k * 7,c,rfl,?_,fun j y hy=>?_⟩
 ·rw [List.length_drop,List.length_take,Array.length_toList,Nat.sub_mul];omega
 ·rw [List.getElem?_drop,List.getElem?_take] at hy
  split at hy
  ·rw [cell_of_row w g _ cur _ (0,0) hh];simpa using hy
  ·cases hy
theorem Us (w:World) (g n:Nat) (cur:Array Value) (c:Nat):tZ w (.slice (some ⟨g,0,none⟩) 0 c) 0 7 ((cur.toList.take (n * 7)).drop (n * 7)):=by
 refine .inr ⟨g,0,c,rfl,?_,fun j y hy=>?_⟩
 ·rw [List.length_drop,List.length_take];omega
 ·rw [List.drop_of_length_le (by rw [List.length_take];omega)] at hy;cases hy
end
/-- The boxes with one more are the JQ. -/
theorem ac4 {wl w3:World} {S0:Nat→Prop} {ga k m:Nat} {A:aJ} {cells xs:List Value} {V:Value} {na:Option Addr} {nn nc:Nat} {nm:List Int} {v:Int} (hA:aU wl S0 ga A) (LY:∀ k,S0 k→k < wl.heap.size) (hb:Below wl.heap.size wl w3) (hel:EL 7 gT wl A.boxes S0 cells) (hro:RO wl Any (.slice na nn nc) nm) (hv:aB v)
  (hrow:w3.ownsRow wl.heap.size 37 7 V m xs) (hm:m=A.boxes.length+1) (hxs:xs=cells.take (k * 7) ++ [.slice na nn nc,.int .i64 v,.int .i64 1,.int .i64 0,.slice none 0 0,.slice none 0 0,.int .i64 0] ++ cells.drop (k * 7)) (hk:k≤A.boxes.length) :
  aU (w3.setCell ⟨ga,1,none⟩ V) (fun j=>S0 j∨wl.heap.size≤j) ga ⟨A.valid,A.boxes.take k ++ ⟨nm,v,1,0,[],[],0⟩ :: A.boxes.drop k,A.seen⟩:=by
 have hl:(A.boxes.take k ++ (⟨nm,v,1,0,[],[],0⟩:aD) :: A.boxes.drop k).length=m:=by rw [hm,List.length_append,List.length_cons,List.length_take,List.length_drop];omega
 subst hxs
 rw [← hl] at hrow
 have he:=acZ k (Gc hel (fun k _ hk=>hb.block k hk) (gG hb) (gG hb)) (acY (w:=w3) (v:=v) (n:=1) (mR hro (gG hb)) hv ⟨by decide,by decide⟩)
 exact hA.Uq hb (Qw hrow he LY) (fun h=>h.elim hA.1 (fun h=>by have:=hA.lt;omega)) (fun k h=>h)
/- A reply that is laid behind an account that turned. -/
/-- A reply that is laid above all that was there; what turned ahead of it. -/
theorem AA {w w1:World} {S:Nat→Prop} {ga r:Nat} {d0 d1 d2 d3 d4 d5 d6 d7 d8 d9:Value} (hR:w1.heap[r]?=some (.cells #[d0,d1,d2,d3,d4,d5,d6,d7,d8,d9] 40 (0,0))) (hr:w.heap.size≤r) (ht:aT w w1 S ga) (a:aJ) (S':Nat→Prop) (hp:aU w1 S' ga a) (hg:ga < w.heap.size) (hS:¬ S' r) (c n:Int) (hc:aB c∧aB n) :
  let w2:=((((((((((w1.setCell ⟨r,0,none⟩ (.int .i64 c)).setCell ⟨r,1,none⟩ (.int .i64 n)).setCell ⟨r,2,none⟩ (.slice none 0 0)).setCell ⟨r,3,none⟩ (.int .i64 0)).setCell ⟨r,4,none⟩ (.int .i64 0)).setCell ⟨r,5,none⟩ (.int .i64 0)).setCell ⟨r,6,none⟩ (.slice none 0 0)).setCell ⟨r,7,none⟩ (.slice none 0 0)).setCell ⟨r,8,none⟩ (.int .i64 0)).setCell ⟨r,9,none⟩ (.slice none 0 0))
  w2.heap[r]?=some (.cells #[.int .i64 c,.int .i64 n,.slice none 0 0,.int .i64 0,.int .i64 0,.int .i64 0,.slice none 0 0,.slice none 0 0,.int .i64 0,.slice none 0 0] 40 (0,0))∧aT w w2 S ga∧aU w2 S' ga a∧jk w2 (.agg #[.int .i64 c,.int .i64 n,.slice none 0 0,.int .i64 0,.int .i64 0,.int .i64 0,.slice none 0 0,.slice none 0 0,.int .i64 0,.slice none 0 0]) (aQ c n):=by
 intro w2
 have hoth:∀ k,k≠r→w2.heap[k]?=w1.heap[k]?:=fun k hk=>by
  show ((((((((((w1.setCell ⟨r,0,none⟩ (.int .i64 c)).setCell ⟨r,1,none⟩ (.int .i64 n)).setCell ⟨r,2,none⟩ (.slice none 0 0)).setCell ⟨r,3,none⟩ (.int .i64 0)).setCell ⟨r,4,none⟩ (.int .i64 0)).setCell ⟨r,5,none⟩ (.int .i64 0)).setCell ⟨r,6,none⟩ (.slice none 0 0)).setCell ⟨r,7,none⟩ (.slice none 0 0)).setCell ⟨r,8,none⟩ (.int .i64 0)).setCell ⟨r,9,none⟩ (.slice none 0 0)).heap[k]?=_
  rw [Below.heap_setCell _ _ _ _ (show k≠r from hk),Below.heap_setCell _ _ _ _ (show k≠r from hk),Below.heap_setCell _ _ _ _ (show k≠r from hk),Below.heap_setCell _ _ _ _ (show k≠r from hk),Below.heap_setCell _ _ _ _ (show k≠r from hk),Below.heap_setCell _ _ _ _ (show k≠r from hk),Below.heap_setCell _ _ _ _ (show k≠r from hk),Below.heap_setCell _ _ _ _ (show k≠r from hk),Below.heap_setCell _ _ _ _ (show k≠r from hk),Below.heap_setCell _ _ _ _ (show k≠r from hk)]
 have hsz:w2.heap.size=w1.heap.size:=by show ((((((((((w1.setCell ⟨r,0,none⟩ (.int .i64 c)).setCell ⟨r,1,none⟩ (.int .i64 n)).setCell ⟨r,2,none⟩ (.slice none 0 0)).setCell ⟨r,3,none⟩ (.int .i64 0)).setCell ⟨r,4,none⟩ (.int .i64 0)).setCell ⟨r,5,none⟩ (.int .i64 0)).setCell ⟨r,6,none⟩ (.slice none 0 0)).setCell ⟨r,7,none⟩ (.slice none 0 0)).setCell ⟨r,8,none⟩ (.int .i64 0)).setCell ⟨r,9,none⟩ (.slice none 0 0)).heap.size=_;simp only [aZ]
 have hos:w2.os=w1.os:=by show ((((((((((w1.setCell ⟨r,0,none⟩ (.int .i64 c)).setCell ⟨r,1,none⟩ (.int .i64 n)).setCell ⟨r,2,none⟩ (.slice none 0 0)).setCell ⟨r,3,none⟩ (.int .i64 0)).setCell ⟨r,4,none⟩ (.int .i64 0)).setCell ⟨r,5,none⟩ (.int .i64 0)).setCell ⟨r,6,none⟩ (.slice none 0 0)).setCell ⟨r,7,none⟩ (.slice none 0 0)).setCell ⟨r,8,none⟩ (.int .i64 0)).setCell ⟨r,9,none⟩ (.slice none 0 0)).os=_;simp only [Ck]
 have Co:w2.tape=w1.tape:=by show ((((((((((w1.setCell ⟨r,0,none⟩ (.int .i64 c)).setCell ⟨r,1,none⟩ (.int .i64 n)).setCell ⟨r,2,none⟩ (.slice none 0 0)).setCell ⟨r,3,none⟩ (.int .i64 0)).setCell ⟨r,4,none⟩ (.int .i64 0)).setCell ⟨r,5,none⟩ (.int .i64 0)).setCell ⟨r,6,none⟩ (.slice none 0 0)).setCell ⟨r,7,none⟩ (.slice none 0 0)).setCell ⟨r,8,none⟩ (.int .i64 0)).setCell ⟨r,9,none⟩ (.slice none 0 0)).tape=_;simp only [Cm]
 have Cq:w2.output=w1.output:=by show ((((((((((w1.setCell ⟨r,0,none⟩ (.int .i64 c)).setCell ⟨r,1,none⟩ (.int .i64 n)).setCell ⟨r,2,none⟩ (.slice none 0 0)).setCell ⟨r,3,none⟩ (.int .i64 0)).setCell ⟨r,4,none⟩ (.int .i64 0)).setCell ⟨r,5,none⟩ (.int .i64 0)).setCell ⟨r,6,none⟩ (.slice none 0 0)).setCell ⟨r,7,none⟩ (.slice none 0 0)).setCell ⟨r,8,none⟩ (.int .i64 0)).setCell ⟨r,9,none⟩ (.slice none 0 0)).output=_;simp only [Cn]
 have hT:∀ t,t≠40→bT w1 w2 t:=fun t hne k hk=>hoth k fun e=>by obtain ⟨cs,fz,hh⟩:=hk;rw [e,hR] at hh;cases hh;exact hne rfl
 have hrg:ga≠r:=by omega
 refine ⟨?_,⟨by rw [hsz];exact ht.1,fun k h1 h2 h3=>(hoth k (by omega)).trans (ht.2.1 k h1 h2 h3),ht.2.2.1.trans (hT _ (by decide)),ht.2.2.2.1.trans (hT _ (by decide)),hos.trans ht.2.2.2.2.1,Co.trans ht.2.2.2.2.2.1,Cq.trans ht.2.2.2.2.2.2.1,fun h1 h2=>(show w2.cell? ⟨ga,2,none⟩=w1.cell? ⟨ga,2,none⟩ by unfold World.cell?;rw [hoth ga hrg]).trans (ht.2.2.2.2.2.2.2 h1 h2)⟩,hp.qy (by omega) (hoth ga hrg) (fun k h1 h2=>hoth k fun e=>hS (e ▸ h1)) (hT _ (by decide)) (hT _ (by decide)) (hT _ (by decide)),?_⟩
 ·exact (oW (w:={ w1 with heap:=#[] }) hR (Nat.zero_le _) ⟨rfl,rfl,rfl,Nat.zero_le _,fun k hk=>absurd hk (Nat.not_lt_zero _)⟩ c n).1
 ·exact ⟨_,_,_,_,rfl,⟨_,_,_,rfl,ng _,Rd.nil _,Rd.nil _,aI,aI,aI,aI⟩,⟨rfl,rfl⟩,hc⟩
end Go.Proofs.YtlneebmlhblleaaGreat
