/- The proof's texts, part 16. -/
import Derived.Test.YtlneebmlhblleaaGreatTe
import Derived.Test.YtlneebmlhblleaaGreatTf
namespace Go.Proofs.YtlneebmlhblleaaGreat
open Go.RowKit
set_option linter.unusedVariables false
set_option linter.unusedSimpArgs false
set_option maxHeartbeats 4000000
set_option maxRecDepth 100000
/- What a store leaves of the world. -/
theorem Ck (w:World) (p:Addr) (v:Value):(w.setCell p v).os=w.os:=rfl
theorem Cm (w:World) (p:Addr) (v:Value):(w.setCell p v).tape=w.tape:=rfl
theorem Cn (w:World) (p:Addr) (v:Value):(w.setCell p v).output=w.output:=rfl
/- Yp that stay while their own blocks do; what a command leaves of an account behind a pointer. -/
/-- The names of a reply: none at all, or the call's own in blocks from N on (then its box has nothing). -/
def Gd (w:World) (N:Nat) (u:Value) (r:cO):Prop:=∃ c0 c1 c2 c3 c4 c5 c6 c7 c8 c9,u=.agg #[c0,c1,c2,c3,c4,c5,c6,c7,c8,c9]∧((c9=.slice none 0 0∧r.names=[])∨((r.box.name=[]∧r.box.ah=[]∧r.box.au=[])∧kM w (In N w.heap.size) c9 r.names))
theorem Gd.qy {w w':World} {N:Nat} {u:Value} {r:cO} (h:Gd w N u r) (hs:w.heap.size≤w'.heap.size) (hk:∀ k,N≤k→k < w.heap.size→w'.heap[k]?=w.heap[k]?):Gd w' N u r :=
 let ⟨c0,c1,c2,c3,c4,c5,c6,c7,c8,c9,e,h⟩:=h;⟨c0,c1,c2,c3,c4,c5,c6,c7,c8,c9,e,h.imp id fun h=>⟨h.1,Ow.mono (Ow.frame kL h.2 fun k h1 h2=>hk k h1.1 h2) fun k h1=>⟨h1.1,Nat.lt_of_lt_of_le h1.2 hs⟩⟩⟩
/-- The value u reads as the reply r wherever the blocks from N on stay. -/
def jo (w:World) (N:Nat) (u:Value) (r:cO):Prop:=(∀ w':World,w.heap.size≤w'.heap.size→(∀ k,N≤k→k < w.heap.size→w'.heap[k]?=w.heap[k]?)→iO w' u r)∧Gd w N u r
theorem jo.v {w:World} {N:Nat} {u:Value} {r:cO} (h:jo w N u r):iO w u r:=h.1 w (Nat.le_refl _) fun _ _ _=>rfl
/-- It stays where the world changes below N alone. -/
theorem jo.qy {w w':World} {N:Nat} {u:Value} {r:cO} (h:jo w N u r) (hs:w.heap.size≤w'.heap.size) (hk:∀ k,N≤k→k < w.heap.size→w'.heap[k]?=w.heap[k]?):jo w' N u r :=
 ⟨fun w'' hs' hk'=>h.1 w'' (Nat.le_trans hs hs') fun k h1 h2=>(hk' k h1 (Nat.lt_of_lt_of_le h2 hs)).trans (hk k h1 h2),h.2.qy hs hk⟩
theorem jo.below {w w':World} {N:Nat} {u:Value} {r:cO} (h:jo w N u r) (hb:Below w.heap.size w w'):jo w' N u r:=h.qy hb.size fun k _ h2=>hb.block k h2
theorem jo.less {w:World} {N N':Nat} {u:Value} {r:cO} (h:jo w N u r) (hN:N'≤N):jo w N' u r :=
 ⟨fun w'' hs hk=>h.1 w'' hs fun k h1 h2=>hk k (Nat.le_trans hN h1) h2,let ⟨c0,c1,c2,c3,c4,c5,c6,c7,c8,c9,e,h⟩:=h.2;⟨c0,c1,c2,c3,c4,c5,c6,c7,c8,c9,e,h.imp id fun h=>⟨h.1,Ow.mono h.2 fun k h1=>⟨Nat.le_trans hN h1.1,h1.2⟩⟩⟩⟩
theorem Zq {w w':World} {v:Value} (h:Bs w v []):Bs w' v []:=let ⟨ho,a,cap,e,h1,h2,h3,_⟩:=h;⟨ho,a,cap,e,h1,h2,h3,fun h=>absurd h (Nat.lt_irrefl 0)⟩
theorem QA {α:Type} {sz:Nat} {E:World→List Value→α→Prop} {w w':World} {v:Value} (h:Rd sz E w v ([]:List α)):Rd sz E w' v ([]:List α):=let ⟨a,cap,cs,e,h1,h2,h3,_,_⟩:=h;⟨a,cap,cs,e,h1,h2,h3,fun i x hx=>by simp at hx,fun h=>absurd h (Nat.lt_irrefl 0)⟩
/-- A reply without a box and names stays always. -/
theorem sQ {w:World} {N:Nat} {u:Value} {c n:Int} (h:jk w u (aQ c n)):jo w N u (aQ c n):=by
 obtain ⟨u0,u1,u2,u3,e,⟨z0,z1,z2,ez,h0,h1,h2,hi⟩,h3,i⟩:=h
 simp only [Value.agg.injEq,Array.mk.injEq,List.cons.injEq,and_true,true_and] at ez
 obtain ⟨rfl,rfl,rfl⟩:=ez
 exact ⟨fun w' _ _=>⟨u0,u1,u2,u3,e,⟨_,_,_,rfl,Zq h0,QA h1,QA h2,hi⟩,by rw [h3.1];exact Rd.nil _,i⟩,_,_,_,_,_,_,_,_,_,_,e,.inl h3⟩
/-- What a command leaves: the account behind the pointer, the reply; nothing else that is old has turned. -/
def jr (w:World) (S:Nat→Prop) (ga:Nat) (x:aJ × cO) (e:Ending) (w':World):Prop :=
 ∃ u S',e=.returned u∧jo w' w.heap.size u x.2∧aT w w' S ga∧aU w' S' ga x.1∧∀ k,S' k→S k∨w.heap.size≤k
theorem jr.same {w:World} {S:Nat→Prop} {ga:Nat} {a:aJ} {c n:Int} {e:Ending} {w':World} (h:∃ u,e=.returned u∧jk w' u (aQ c n)∧Below w.heap.size w w'∧aU w' S ga a):jr w S ga (a,aQ c n) e w' :=
 let ⟨u,h0,h1,h2,h3⟩:=h;⟨u,S,h0,sQ h1,aT.below h2,h3,fun _ h=>.inl h⟩
theorem jr.code {w:World} {S:Nat→Prop} {ga:Nat} {a:aJ} {c n:Int} {e:Ending} {w':World} (h:∃ u S',e=.returned u∧jk w' u (aQ c n)∧aT w w' S ga∧aU w' S' ga a∧∀ k,S' k→S k∨w.heap.size≤k):jr w S ga (a,aQ c n) e w' :=
 let ⟨u,S',h0,h1,h2⟩:=h;⟨u,S',h0,sQ h1,h2⟩
/-- A reply that a callee gave is laid into the call's own variable. -/
theorem QB {w1:World} {r:Nat} {d0 d1 d2 d3 d4 d5 d6 d7 d8 d9:Value} (hk:w1.heap[r]?=some (.cells #[d0,d1,d2,d3,d4,d5,d6,d7,d8,d9] 40 (0,0))) (c0 c1 c2 c3 c4 c5 c6 c7 c8 c9:Value):((((((((((w1.setCell ⟨r,0,none⟩ c0).setCell ⟨r,1,none⟩ c1).setCell ⟨r,2,none⟩ c2).setCell ⟨r,3,none⟩ c3).setCell ⟨r,4,none⟩ c4).setCell ⟨r,5,none⟩ c5).setCell ⟨r,6,none⟩ c6).setCell ⟨r,7,none⟩ c7).setCell ⟨r,8,none⟩ c8).setCell ⟨r,9,none⟩ c9).heap[r]?=some (.cells #[c0,c1,c2,c3,c4,c5,c6,c7,c8,c9] 40 (0,0)):=by
 replace hk:(World.setCell _ _ _).heap[r]?=some (Obj.cells #[c0,d1,d2,d3,d4,d5,d6,d7,d8,d9] 40 (0,0)):=aP (i:=0) (v:=c0) hk
 replace hk:(World.setCell _ _ _).heap[r]?=some (Obj.cells #[c0,c1,d2,d3,d4,d5,d6,d7,d8,d9] 40 (0,0)):=aP (i:=1) (v:=c1) hk
 replace hk:(World.setCell _ _ _).heap[r]?=some (Obj.cells #[c0,c1,c2,d3,d4,d5,d6,d7,d8,d9] 40 (0,0)):=aP (i:=2) (v:=c2) hk
 replace hk:(World.setCell _ _ _).heap[r]?=some (Obj.cells #[c0,c1,c2,c3,d4,d5,d6,d7,d8,d9] 40 (0,0)):=aP (i:=3) (v:=c3) hk
 replace hk:(World.setCell _ _ _).heap[r]?=some (Obj.cells #[c0,c1,c2,c3,c4,d5,d6,d7,d8,d9] 40 (0,0)):=aP (i:=4) (v:=c4) hk
 replace hk:(World.setCell _ _ _).heap[r]?=some (Obj.cells #[c0,c1,c2,c3,c4,c5,d6,d7,d8,d9] 40 (0,0)):=aP (i:=5) (v:=c5) hk
 replace hk:(World.setCell _ _ _).heap[r]?=some (Obj.cells #[c0,c1,c2,c3,c4,c5,c6,d7,d8,d9] 40 (0,0)):=aP (i:=6) (v:=c6) hk
 replace hk:(World.setCell _ _ _).heap[r]?=some (Obj.cells #[c0,c1,c2,c3,c4,c5,c6,c7,d8,d9] 40 (0,0)):=aP (i:=7) (v:=c7) hk
 replace hk:(World.setCell _ _ _).heap[r]?=some (Obj.cells #[c0,c1,c2,c3,c4,c5,c6,c7,c8,d9] 40 (0,0)):=aP (i:=8) (v:=c8) hk
 replace hk:(World.setCell _ _ _).heap[r]?=some (Obj.cells #[c0,c1,c2,c3,c4,c5,c6,c7,c8,c9] 40 (0,0)):=aP (i:=9) (v:=c9) hk
 exact hk
theorem wL {w w1:World} {S:Nat→Prop} {ga r N:Nat} {d0 d1 d2 d3 d4 d5 d6 d7 d8 d9:Value} (hR:w1.heap[r]?=some (.cells #[d0,d1,d2,d3,d4,d5,d6,d7,d8,d9] 40 (0,0))) (hr:w.heap.size≤r) (ht:aT w w1 S ga) (a:aJ) (S':Nat→Prop) (hp:aU w1 S' ga a) (hg:ga < w.heap.size) (hS:¬ S' r) (rep:cO) (c0 c1 c2 c3 c4 c5 c6 c7 c8 c9:Value) (hrep:jo w1 N (.agg #[c0,c1,c2,c3,c4,c5,c6,c7,c8,c9]) rep) (hN:r < N) :
  let w2:=((((((((((w1.setCell ⟨r,0,none⟩ c0).setCell ⟨r,1,none⟩ c1).setCell ⟨r,2,none⟩ c2).setCell ⟨r,3,none⟩ c3).setCell ⟨r,4,none⟩ c4).setCell ⟨r,5,none⟩ c5).setCell ⟨r,6,none⟩ c6).setCell ⟨r,7,none⟩ c7).setCell ⟨r,8,none⟩ c8).setCell ⟨r,9,none⟩ c9)
  w2.heap[r]?=some (.cells #[c0,c1,c2,c3,c4,c5,c6,c7,c8,c9] 40 (0,0))∧aT w w2 S ga∧aU w2 S' ga a∧jo w2 w.heap.size (.agg #[c0,c1,c2,c3,c4,c5,c6,c7,c8,c9]) rep:=by
 intro w2
 have hoth:∀ k,k≠r→w2.heap[k]?=w1.heap[k]?:=fun k hk=>by
  show ((((((((((w1.setCell ⟨r,0,none⟩ c0).setCell ⟨r,1,none⟩ c1).setCell ⟨r,2,none⟩ c2).setCell ⟨r,3,none⟩ c3).setCell ⟨r,4,none⟩ c4).setCell ⟨r,5,none⟩ c5).setCell ⟨r,6,none⟩ c6).setCell ⟨r,7,none⟩ c7).setCell ⟨r,8,none⟩ c8).setCell ⟨r,9,none⟩ c9).heap[k]?=_
  rw [Below.heap_setCell _ _ _ _ (show k≠r from hk),Below.heap_setCell _ _ _ _ (show k≠r from hk),Below.heap_setCell _ _ _ _ (show k≠r from hk),Below.heap_setCell _ _ _ _ (show k≠r from hk),Below.heap_setCell _ _ _ _ (show k≠r from hk),Below.heap_setCell _ _ _ _ (show k≠r from hk),Below.heap_setCell _ _ _ _ (show k≠r from hk),Below.heap_setCell _ _ _ _ (show k≠r from hk),Below.heap_setCell _ _ _ _ (show k≠r from hk),Below.heap_setCell _ _ _ _ (show k≠r from hk)]
 have hsz:w2.heap.size=w1.heap.size:=by show ((((((((((w1.setCell ⟨r,0,none⟩ c0).setCell ⟨r,1,none⟩ c1).setCell ⟨r,2,none⟩ c2).setCell ⟨r,3,none⟩ c3).setCell ⟨r,4,none⟩ c4).setCell ⟨r,5,none⟩ c5).setCell ⟨r,6,none⟩ c6).setCell ⟨r,7,none⟩ c7).setCell ⟨r,8,none⟩ c8).setCell ⟨r,9,none⟩ c9).heap.size=_;simp only [aZ]
 have hos:w2.os=w1.os:=by show ((((((((((w1.setCell ⟨r,0,none⟩ c0).setCell ⟨r,1,none⟩ c1).setCell ⟨r,2,none⟩ c2).setCell ⟨r,3,none⟩ c3).setCell ⟨r,4,none⟩ c4).setCell ⟨r,5,none⟩ c5).setCell ⟨r,6,none⟩ c6).setCell ⟨r,7,none⟩ c7).setCell ⟨r,8,none⟩ c8).setCell ⟨r,9,none⟩ c9).os=_;simp only [Ck]
 have Co:w2.tape=w1.tape:=by show ((((((((((w1.setCell ⟨r,0,none⟩ c0).setCell ⟨r,1,none⟩ c1).setCell ⟨r,2,none⟩ c2).setCell ⟨r,3,none⟩ c3).setCell ⟨r,4,none⟩ c4).setCell ⟨r,5,none⟩ c5).setCell ⟨r,6,none⟩ c6).setCell ⟨r,7,none⟩ c7).setCell ⟨r,8,none⟩ c8).setCell ⟨r,9,none⟩ c9).tape=_;simp only [Cm]
 have Cq:w2.output=w1.output:=by show ((((((((((w1.setCell ⟨r,0,none⟩ c0).setCell ⟨r,1,none⟩ c1).setCell ⟨r,2,none⟩ c2).setCell ⟨r,3,none⟩ c3).setCell ⟨r,4,none⟩ c4).setCell ⟨r,5,none⟩ c5).setCell ⟨r,6,none⟩ c6).setCell ⟨r,7,none⟩ c7).setCell ⟨r,8,none⟩ c8).setCell ⟨r,9,none⟩ c9).output=_;simp only [Cn]
 have hT:∀ t,t≠40→bT w1 w2 t:=fun t hne k hk=>hoth k fun e=>by obtain ⟨cs,fz,hh⟩:=hk;rw [e,hR] at hh;cases hh;exact hne rfl
 have hrg:ga≠r:=by omega
 refine ⟨?_,⟨by rw [hsz];exact ht.1,fun k h1 h2 h3=>(hoth k (by omega)).trans (ht.2.1 k h1 h2 h3),ht.2.2.1.trans (hT _ (by decide)),ht.2.2.2.1.trans (hT _ (by decide)),hos.trans ht.2.2.2.2.1,Co.trans ht.2.2.2.2.2.1,Cq.trans ht.2.2.2.2.2.2.1,fun h1 h2=>(show w2.cell? ⟨ga,2,none⟩=w1.cell? ⟨ga,2,none⟩ by unfold World.cell?;rw [hoth ga hrg]).trans (ht.2.2.2.2.2.2.2 h1 h2)⟩,hp.qy (by omega) (hoth ga hrg) (fun k h1 h2=>hoth k fun e=>hS (e ▸ h1)) (hT _ (by decide)) (hT _ (by decide)) (hT _ (by decide)),?_⟩
 ·exact QB hR c0 c1 c2 c3 c4 c5 c6 c7 c8 c9
 ·exact (hrep.qy (by omega) fun k h1 _=>hoth k (by omega)).less (by omega)
/- A gH beside a variable that holds a reply; the map is written in a region that draws. -/
/-- A reply without a box and names. -/
def aY (c n:Int):Value:=.agg #[.int .i64 c,.int .i64 n,.slice none 0 0,.int .i64 0,.int .i64 0,.int .i64 0,.slice none 0 0,.slice none 0 0,.int .i64 0,.slice none 0 0]
/-- What a command leaves at the gH. -/
def Left (wt w w':World) (S:Nat→Prop) (gd g n:Nat) (u1:Value) (a:aJ):Prop :=
 ∃ S' u0 n' E,aW wt w' S' gd g n' a u0 u1 E∧(∀ k,S' k→S k∨w.heap.size≤k)∧iU w w' S gd g∧n'≤n+1
section
variable {wt w w' w1 : World} {S S' : Nat → Prop} {gd g n n' : Nat} {a a' : aJ} {u0 u1 : Value} {E : aX} {r : Nat}
theorem aW.ty (h:aW wt w S gd g n a u0 u1 E):Ty w gd 108∧gd≠g:=by
 refine ⟨⟨_,_,h.cells⟩,fun e=>?_⟩
 subst e
 obtain ⟨D,⟨es,c,e1,-⟩,-⟩:=h.map
 rw [h.cells] at e1
 cases e1
theorem aW.off (h:aW wt w S gd g n a u0 u1 E) {o:Array Value} {t:TypeId} {z:Nat × Nat} (hr:w.heap[r]?=some (.cells o t z)) (h1:t≠108) (h2:t≠3):r≠gd∧r≠g∧u1.ownBlock≠some r:=by
 refine ⟨fun e=>?_,fun e=>?_,fun e=>?_⟩
 ·subst e
  rw [h.cells] at hr
  cases hr
  exact h1 rfl
 ·subst e
  obtain ⟨D,⟨es,c,e1,-⟩,-⟩:=h.map
  rw [hr] at e1
  cases e1
 ·rcases yD h.seen with ⟨e',-⟩ | ⟨gs,e',ht⟩
  ·rw [e'] at e;simp [Value.ownBlock] at e
  ·rw [e'] at e
   cases e
   obtain ⟨_,_,ht⟩:=ht
   rw [hr] at ht
   cases ht
   exact h2 rfl
/-- Something is written into a block that is none of the sJ. -/
theorem aW.aside (h:aW wt w S gd g n a u0 u1 E) (hs:w'.heap.size=w.heap.size) (hp:w'.os=w.os∧w'.tape=w.tape∧w'.output=w.output) (hk:∀ k,k≠r→w'.heap[k]?=w.heap[k]?) (hr:wt.heap.size≤r) (hS:¬ S r) (hne:r≠gd∧r≠g∧u1.ownBlock≠some r):aW wt w' S gd g n a u0 u1 E :=
 h.kept (by omega) ⟨hp.1.trans h.base.os,hp.2.1.trans h.base.tape,hp.2.2.trans h.base.output,by rw [hs];exact h.base.size,fun k hk'=>(hk k (by omega)).trans (h.base.block k hk')⟩ fun k _ hk'=>hk k fun e=>by
  subst e
  rcases hk' with h1 | h1 | h1 | h1
  ·exact hne.1 h1
  ·exact hne.2.1 h1
  ·exact hS h1
  ·exact hne.2.2 h1
theorem Cr (h:iU w w1 S gd g) (hs:w'.heap.size=w1.heap.size) (hp:w'.os=w1.os∧w'.tape=w1.tape∧w'.output=w1.output) (hk:∀ k,k≠r→w'.heap[k]?=w1.heap[k]?) (hr:w.heap.size≤r):iU w w' S gd g :=
 ⟨by rw [hs];exact h.1,fun k h1 h2 h3 h4=>(hk k (by omega)).trans (h.2.1 k h1 h2 h3 h4),hp.1.trans h.2.2.1,hp.2.1.trans h.2.2.2.1,hp.2.2.trans h.2.2.2.2⟩
/-- A field of a box is written. -/
theorem yE {i j gb cap:Nat} {v:Value} (h:aW wt w1 S' gd g n a u0 u1 E) (hu:u0=.slice (some ⟨gb,0,none⟩) a.boxes.length cap) (hi:i < a.boxes.length) (hS:∀ k,S' k→S k∨w.heap.size≤k) (ht:iU w w1 S gd g):iU w (w1.setCell ⟨gb,j,none⟩ v) S gd g:=by
 obtain ⟨fF,cap',v0,v5,f,e1,-,-,-,hg,-⟩:=h.read (aK hi)
 rw [hu] at e1
 simp only [Value.slice.injEq,Option.some.injEq,Addr.mk.injEq,and_true,true_and] at e1
 obtain ⟨rfl,-⟩:=e1
 refine ⟨by rw [aZ];exact ht.1,fun k h1 h2 h3 h4=>(Below.heap_setCell _ _ _ _ fun e=>?_).trans (ht.2.1 k h1 h2 h3 h4),ht.2.2⟩
 have e:k=gb:=e
 subst e
 exact (hS k hg).elim h4 (by omega)
theorem Gf {w2:World} (ht:iU w w1 S gd g) (hG:w1.grownBy w2 (some g)):iU w w2 S gd g :=
 ⟨Nat.le_trans ht.1 hG.size,fun k h1 h2 h3 h4=>(hG.block k (Nat.lt_of_lt_of_le h1 ht.1) fun e=>h3 (Option.some.inj e)).trans (ht.2.1 k h1 h2 h3 h4),hG.os.trans ht.2.2.1,hG.tape.trans ht.2.2.2.1,hG.output.trans ht.2.2.2.2⟩
/-- A Yq ten cells are written. -/
theorem nZ {d0 d1 d2 d3 d4 d5 d6 d7 d8 d9:Value} (hr:w.heap[r]?=some (.cells #[d0,d1,d2,d3,d4,d5,d6,d7,d8,d9] 40 (0,0))) (c0 c1 c2 c3 c4 c5 c6 c7 c8 c9:Value) :
  (((((((((((w.setCell ⟨r,0,none⟩ c0).setCell ⟨r,1,none⟩ c1).setCell ⟨r,2,none⟩ c2).setCell ⟨r,3,none⟩ c3).setCell ⟨r,4,none⟩ c4).setCell ⟨r,5,none⟩ c5).setCell ⟨r,6,none⟩ c6).setCell ⟨r,7,none⟩ c7).setCell ⟨r,8,none⟩ c8).setCell ⟨r,9,none⟩ c9)).heap[r]?=some (.cells #[c0,c1,c2,c3,c4,c5,c6,c7,c8,c9] 40 (0,0))∧(((((((((((w.setCell ⟨r,0,none⟩ c0).setCell ⟨r,1,none⟩ c1).setCell ⟨r,2,none⟩ c2).setCell ⟨r,3,none⟩ c3).setCell ⟨r,4,none⟩ c4).setCell ⟨r,5,none⟩ c5).setCell ⟨r,6,none⟩ c6).setCell ⟨r,7,none⟩ c7).setCell ⟨r,8,none⟩ c8).setCell ⟨r,9,none⟩ c9)).heap.size=w.heap.size∧((((((((((((w.setCell ⟨r,0,none⟩ c0).setCell ⟨r,1,none⟩ c1).setCell ⟨r,2,none⟩ c2).setCell ⟨r,3,none⟩ c3).setCell ⟨r,4,none⟩ c4).setCell ⟨r,5,none⟩ c5).setCell ⟨r,6,none⟩ c6).setCell ⟨r,7,none⟩ c7).setCell ⟨r,8,none⟩ c8).setCell ⟨r,9,none⟩ c9)).os=w.os∧(((((((((((w.setCell ⟨r,0,none⟩ c0).setCell ⟨r,1,none⟩ c1).setCell ⟨r,2,none⟩ c2).setCell ⟨r,3,none⟩ c3).setCell ⟨r,4,none⟩ c4).setCell ⟨r,5,none⟩ c5).setCell ⟨r,6,none⟩ c6).setCell ⟨r,7,none⟩ c7).setCell ⟨r,8,none⟩ c8).setCell ⟨r,9,none⟩ c9)).tape=w.tape∧(((((((((((w.setCell ⟨r,0,none⟩ c0).setCell ⟨r,1,none⟩ c1).setCell ⟨r,2,none⟩ c2).setCell ⟨r,3,none⟩ c3).setCell ⟨r,4,none⟩ c4).setCell ⟨r,5,none⟩ c5).setCell ⟨r,6,none⟩ c6).setCell ⟨r,7,none⟩ c7).setCell ⟨r,8,none⟩ c8).setCell ⟨r,9,none⟩ c9)).output=w.output)∧∀ k,k≠r→(((((((((((w.setCell ⟨r,0,none⟩ c0).setCell ⟨r,1,none⟩ c1).setCell ⟨r,2,none⟩ c2).setCell ⟨r,3,none⟩ c3).setCell ⟨r,4,none⟩ c4).setCell ⟨r,5,none⟩ c5).setCell ⟨r,6,none⟩ c6).setCell ⟨r,7,none⟩ c7).setCell ⟨r,8,none⟩ c8).setCell ⟨r,9,none⟩ c9)).heap[k]?=w.heap[k]? :=
 ⟨QB hr c0 c1 c2 c3 c4 c5 c6 c7 c8 c9,by simp only [aZ],⟨by simp only [Ck],by simp only [Cm],by simp only [Cn]⟩,fun k hk=>by
  rw [Below.heap_setCell _ _ _ _ (show k≠r from hk),Below.heap_setCell _ _ _ _ (show k≠r from hk),Below.heap_setCell _ _ _ _ (show k≠r from hk),Below.heap_setCell _ _ _ _ (show k≠r from hk),Below.heap_setCell _ _ _ _ (show k≠r from hk),Below.heap_setCell _ _ _ _ (show k≠r from hk),Below.heap_setCell _ _ _ _ (show k≠r from hk),Below.heap_setCell _ _ _ _ (show k≠r from hk),Below.heap_setCell _ _ _ _ (show k≠r from hk),Below.heap_setCell _ _ _ _ (show k≠r from hk)]⟩
/-- The reply is laid into its variable. -/
theorem aW.rep (h:aW wt w S gd g n a u0 u1 E) {d0 d1 d2 d3 d4 d5 d6 d7 d8 d9:Value} (hr:w.heap[r]?=some (.cells #[d0,d1,d2,d3,d4,d5,d6,d7,d8,d9] 40 (0,0))) (hS:¬ S r) (hN:wt.heap.size≤r) (c0 c1 c2 c3 c4 c5 c6 c7 c8 c9:Value) :
  (((((((((((w.setCell ⟨r,0,none⟩ c0).setCell ⟨r,1,none⟩ c1).setCell ⟨r,2,none⟩ c2).setCell ⟨r,3,none⟩ c3).setCell ⟨r,4,none⟩ c4).setCell ⟨r,5,none⟩ c5).setCell ⟨r,6,none⟩ c6).setCell ⟨r,7,none⟩ c7).setCell ⟨r,8,none⟩ c8).setCell ⟨r,9,none⟩ c9)).heap[r]?=some (.cells #[c0,c1,c2,c3,c4,c5,c6,c7,c8,c9] 40 (0,0))∧aW wt (((((((((((w.setCell ⟨r,0,none⟩ c0).setCell ⟨r,1,none⟩ c1).setCell ⟨r,2,none⟩ c2).setCell ⟨r,3,none⟩ c3).setCell ⟨r,4,none⟩ c4).setCell ⟨r,5,none⟩ c5).setCell ⟨r,6,none⟩ c6).setCell ⟨r,7,none⟩ c7).setCell ⟨r,8,none⟩ c8).setCell ⟨r,9,none⟩ c9)) S gd g n a u0 u1 E∧((((((((((((w.setCell ⟨r,0,none⟩ c0).setCell ⟨r,1,none⟩ c1).setCell ⟨r,2,none⟩ c2).setCell ⟨r,3,none⟩ c3).setCell ⟨r,4,none⟩ c4).setCell ⟨r,5,none⟩ c5).setCell ⟨r,6,none⟩ c6).setCell ⟨r,7,none⟩ c7).setCell ⟨r,8,none⟩ c8).setCell ⟨r,9,none⟩ c9)).heap.size=w.heap.size∧((((((((((((w.setCell ⟨r,0,none⟩ c0).setCell ⟨r,1,none⟩ c1).setCell ⟨r,2,none⟩ c2).setCell ⟨r,3,none⟩ c3).setCell ⟨r,4,none⟩ c4).setCell ⟨r,5,none⟩ c5).setCell ⟨r,6,none⟩ c6).setCell ⟨r,7,none⟩ c7).setCell ⟨r,8,none⟩ c8).setCell ⟨r,9,none⟩ c9)).os=w.os∧(((((((((((w.setCell ⟨r,0,none⟩ c0).setCell ⟨r,1,none⟩ c1).setCell ⟨r,2,none⟩ c2).setCell ⟨r,3,none⟩ c3).setCell ⟨r,4,none⟩ c4).setCell ⟨r,5,none⟩ c5).setCell ⟨r,6,none⟩ c6).setCell ⟨r,7,none⟩ c7).setCell ⟨r,8,none⟩ c8).setCell ⟨r,9,none⟩ c9)).tape=w.tape∧(((((((((((w.setCell ⟨r,0,none⟩ c0).setCell ⟨r,1,none⟩ c1).setCell ⟨r,2,none⟩ c2).setCell ⟨r,3,none⟩ c3).setCell ⟨r,4,none⟩ c4).setCell ⟨r,5,none⟩ c5).setCell ⟨r,6,none⟩ c6).setCell ⟨r,7,none⟩ c7).setCell ⟨r,8,none⟩ c8).setCell ⟨r,9,none⟩ c9)).output=w.output)∧∀ k,k≠r→(((((((((((w.setCell ⟨r,0,none⟩ c0).setCell ⟨r,1,none⟩ c1).setCell ⟨r,2,none⟩ c2).setCell ⟨r,3,none⟩ c3).setCell ⟨r,4,none⟩ c4).setCell ⟨r,5,none⟩ c5).setCell ⟨r,6,none⟩ c6).setCell ⟨r,7,none⟩ c7).setCell ⟨r,8,none⟩ c8).setCell ⟨r,9,none⟩ c9)).heap[k]?=w.heap[k]?) :=
 let ⟨h1,h2,h3,h4⟩:=nZ hr c0 c1 c2 c3 c4 c5 c6 c7 c8 c9
 ⟨h1,h.aside h2 h3 h4 hN hS (h.off hr (by decide) (by decide)),h2,h3,h4⟩
theorem qB {N:Nat} (h:Below N w w1) (hs:w'.heap.size=w1.heap.size) (hp:w'.os=w1.os∧w'.tape=w1.tape∧w'.output=w1.output) (hk:∀ k,k≠r→w'.heap[k]?=w1.heap[k]?) (hr:N≤r):Below N w w' :=
 ⟨hp.1.trans h.os,hp.2.1.trans h.tape,hp.2.2.trans h.output,by rw [hs];exact h.size,fun k h1=>(hk k (by omega)).trans (h.block k h1)⟩
/-- A reply without a box and names, wherever. -/
theorem sU (w:World) (B T:Nat) {c x:Int} (hc:aB c) (hx:aB x) (hB:B≤T):dD w B T (aY c x) (aQ c x) :=
 ⟨_,_,_,_,B,rfl,⟨_,_,_,fun _=>False,fun _=>False,fun _=>False,rfl,RO.nil _ _,.inl ⟨rfl,rfl⟩,.inl ⟨rfl,rfl⟩,fun _ h=>h.elim,fun _ h=>h.elim,fun _ h=>h.elim,aI,aI,aI,aI⟩,.inl ⟨rfl,rfl⟩,Nat.le_refl _,hB,hc,hx⟩
end
theorem QC {w w':World} {o:Oper} {a:Act} {K:Act→World→Prop} {Q:Exit→Act→World→Prop} (t:TypeId) (m x v:Operand) (hd:o.dst=none) (ho:o.op=.mapUpdate t m x v) {m' x' v':Value} (h1:a.eval m=m') (h2:a.eval x=x') (h3:a.eval v=v') (hr:(Instr.mapUpdate t m' x' v').run Tryz.prog w=.ok () w') (k:K a w'):o.wp Tryz.prog a w K Q:=by
 unfold Oper.wp execOp
 simp only [ho,h1,h2,h3,Sem.run_bind,Sem.run_pure,Result.andThen_ok,hr]
 show K (a.put o.dst undef) _
 rw [hd]
 exact k
/- A command's end at a gH: a reply without a box is laid into its variable. -/
section
variable {wt w w' w1 : World} {S S' : Nat → Prop} {gd g n n' : Nat} {a a' : aJ} {u0 u1 : Value} {E : aX} {r : Nat}
/-- The ten cells of a reply. -/
abbrev iE (w:World) (r:Nat) (c0 c1 c2 c3 c4 c5 c6 c7 c8 c9:Value):World :=
 (((((((((w.setCell ⟨r,0,none⟩ c0).setCell ⟨r,1,none⟩ c1).setCell ⟨r,2,none⟩ c2).setCell ⟨r,3,none⟩ c3).setCell ⟨r,4,none⟩ c4).setCell ⟨r,5,none⟩ c5).setCell ⟨r,6,none⟩ c6).setCell ⟨r,7,none⟩ c7).setCell ⟨r,8,none⟩ c8).setCell ⟨r,9,none⟩ c9
abbrev wM (w:World) (r:Nat) (c x:Int):World:=iE w r (.int .i64 c) (.int .i64 x) (.slice none 0 0) (.int .i64 0) (.int .i64 0) (.int .i64 0) (.slice none 0 0) (.slice none 0 0) (.int .i64 0) (.slice none 0 0)
theorem aW.done (h:aW wt w1 S' gd g n' a u0 u1 E) (hS:∀ k,S' k→S k∨w.heap.size≤k) (hT:iU w w1 S gd g) (hn:n'≤n+1) {d0 d1 d2 d3 d4 d5 d6 d7 d8 d9:Value} (hr:w1.heap[r]?=some (.cells #[d0,d1,d2,d3,d4,d5,d6,d7,d8,d9] 40 (0,0))) (hS':¬ S' r) (hw:wt.heap.size≤w.heap.size) (hN:w.heap.size≤r) {c x:Int} (hc:aB c) (hx:aB x) :
  (wM w1 r c x).heap[r]?=some (.cells #[.int .i64 c,.int .i64 x,.slice none 0 0,.int .i64 0,.int .i64 0,.int .i64 0,.slice none 0 0,.slice none 0 0,.int .i64 0,.slice none 0 0] 40 (0,0))∧dD (wM w1 r c x) w.heap.size (wM w1 r c x).heap.size (aY c x) (aQ c x)∧Left wt w (wM w1 r c x) S gd g n u1 a:=by
 obtain ⟨h1,h2,h3,h4⟩:=nZ hr (.int .i64 c) (.int .i64 x) (.slice none 0 0) (.int .i64 0) (.int .i64 0) (.int .i64 0) (.slice none 0 0) (.slice none 0 0) (.int .i64 0) (.slice none 0 0)
 refine ⟨h1,sU _ _ _ hc hx (by rw [h2];exact hT.1),S',u0,n',E,h.aside h2 h3 h4 (Nat.le_trans hw hN) hS' (h.off hr (by decide) (by decide)),hS,Cr hT h2 h3 h4 hN,hn⟩
theorem eT {w:World} {r:Nat} {d0 d1 d2 d3 d4 d5 d6 d7 d8 d9:Value} {t:TypeId} (hr:w.heap[r]?=some (.cells #[d0,d1,d2,d3,d4,d5,d6,d7,d8,d9] t (0,0))):(∀ i,w.frozen? ⟨r,i,none⟩=false)∧r < w.heap.size∧w.cell? ⟨r,0,none⟩=some d0∧w.cell? ⟨r,1,none⟩=some d1∧w.cell? ⟨r,2,none⟩=some d2∧w.cell? ⟨r,3,none⟩=some d3∧w.cell? ⟨r,4,none⟩=some d4∧w.cell? ⟨r,5,none⟩=some d5∧w.cell? ⟨r,6,none⟩=some d6∧w.cell? ⟨r,7,none⟩=some d7∧w.cell? ⟨r,8,none⟩=some d8∧w.cell? ⟨r,9,none⟩=some d9 :=
 ⟨(bR hr).1,lt_of_heap hr,aM hr⟩
theorem Gg {i:Nat} {b:aD} (hb:a.boxes[i]?=some b):aL a i b=a:=by
 unfold aL
 have:a.boxes.set i b=a.boxes:=by
  obtain ⟨h1,h2⟩:=gs1 hb
  rw [← h2]
  exact List.set_getElem_self h1
 rw [this]
/-- A reply with a box is laid into its variable. -/
theorem Zr {w w2:World} {d0 d1 d2 d3 d4 d5 d6 d7 d8 d9:Value} (hr:w2.heap[w.heap.size]?=some (.cells #[d0,d1,d2,d3,d4,d5,d6,d7,d8,d9] 40 (0,0))) (hA:Below w.heap.size w w2) {x:aD} {v0 v1 v2:Value} {bn bs bv bl:Int} (hE:dh w2 [v0,.int .i64 bv,.int .i64 bn,.int .i64 bs,v1,v2,.int .i64 bl] x (In (w.heap.size+1) w2.heap.size)) (e0:x.valid=bv) (e1:x.next=bn) (e2:x.seq=bs) (e3:x.lost=bl) {c y:Int} (hc:aB c) (hy:aB y) :
  (iE w2 w.heap.size (.int .i64 c) (.int .i64 y) v0 (.int .i64 bv) (.int .i64 bn) (.int .i64 bs) v1 v2 (.int .i64 bl) (.slice none 0 0)).heap[w.heap.size]?=some (.cells #[.int .i64 c,.int .i64 y,v0,.int .i64 bv,.int .i64 bn,.int .i64 bs,v1,v2,.int .i64 bl,.slice none 0 0] 40 (0,0))∧dD (iE w2 w.heap.size (.int .i64 c) (.int .i64 y) v0 (.int .i64 bv) (.int .i64 bn) (.int .i64 bs) v1 v2 (.int .i64 bl) (.slice none 0 0)) w.heap.size (iE w2 w.heap.size (.int .i64 c) (.int .i64 y) v0 (.int .i64 bv) (.int .i64 bn) (.int .i64 bs) v1 v2 (.int .i64 bl) (.slice none 0 0)).heap.size (.agg #[.int .i64 c,.int .i64 y,v0,.int .i64 bv,.int .i64 bn,.int .i64 bs,v1,v2,.int .i64 bl,.slice none 0 0]) ⟨c,y,x,[]⟩∧Below w.heap.size w (iE w2 w.heap.size (.int .i64 c) (.int .i64 y) v0 (.int .i64 bv) (.int .i64 bn) (.int .i64 bs) v1 v2 (.int .i64 bl) (.slice none 0 0)):=by
 subst e0 e1 e2 e3
 obtain ⟨h1,h2,h3,h4⟩:=nZ hr (.int .i64 c) (.int .i64 y) v0 (.int .i64 x.valid) (.int .i64 x.next) (.int .i64 x.seq) v1 v2 (.int .i64 x.lost) (.slice none 0 0)
 refine ⟨h1,?_,qB hA h2 h3 h4 (Nat.le_refl _)⟩
 refine ⟨v0,v1,v2,_,w2.heap.size,rfl,?_,.inl ⟨rfl,rfl⟩,hA.size,by rw [h2];exact Nat.le_refl _,hc,hy⟩
 exact (gq _ _ _ _ _ hE fun k hk _=>h4 k (by have:=hk.1;omega)).wide fun k hk=>⟨by have:=hk.1;omega,hk.2⟩
theorem Zt {w w2:World} {d0 d1 d2 d3 d4 d5 d6 d7 d8 d9:Value} (hr:w2.heap[w.heap.size]?=some (.cells #[d0,d1,d2,d3,d4,d5,d6,d7,d8,d9] 40 (0,0))) (hA:Below w.heap.size w w2) {c y:Int} (hc:aB c) (hy:aB y) :
  (wM w2 w.heap.size c y).heap[w.heap.size]?=some (.cells #[.int .i64 c,.int .i64 y,.slice none 0 0,.int .i64 0,.int .i64 0,.int .i64 0,.slice none 0 0,.slice none 0 0,.int .i64 0,.slice none 0 0] 40 (0,0))∧dD (wM w2 w.heap.size c y) w.heap.size (wM w2 w.heap.size c y).heap.size (aY c y) (aQ c y)∧Below w.heap.size w (wM w2 w.heap.size c y):=by
 obtain ⟨h1,h2,h3,h4⟩:=nZ hr (.int .i64 c) (.int .i64 y) (.slice none 0 0) (.int .i64 0) (.int .i64 0) (.int .i64 0) (.slice none 0 0) (.slice none 0 0) (.int .i64 0) (.slice none 0 0)
 exact ⟨h1,sU _ _ _ hc hy (by rw [h2];exact hA.size),qB hA h2 h3 h4 (Nat.le_refl _)⟩
end
/- What commands leave of an account stays small, on lists. -/
/-- A box as drawn commands leave one. -/
def fG (x:aD):Prop:=x.name.length≤6∧x.ah.length≤12∧(∀ m ∈ x.ah,m.text.length≤30)∧x.au.length≤40
def qC (a:aJ):Prop:=a.boxes.length≤4∧∀ x ∈ a.boxes,fG x
theorem QD {l:List aF} (h:∀ m ∈ l,m.text.length≤30):dG l≤31 * l.length:=by
 induction l with
 | nil=>simp [dG]
 | cons m l ih =>
  have h1:=h m (by simp)
  have h2:=ih fun m hm=>h m (by simp [hm])
  simp only [dG,List.map_cons,List.sum_cons,List.length_cons] at h2 ⊢
  omega
theorem fG.sz {x:aD} (h:fG x):bA x≤900000:=by
 have:=QD h.2.2.1
 have h1:=h.1
 have h2:=h.2.1
 have h4:=h.2.2.2
 unfold bA
 omega
theorem qC.set {a:aJ} {k:Nat} {b:aD} (h:qC a) (hb:fG b):qC (aL a k b):=by
 refine ⟨by simpa [aL] using h.1,fun x hx=>?_⟩
 rcases List.mem_or_eq_of_mem_set hx with hx | rfl
 ·exact h.2 x hx
 ·exact hb
theorem Zu (l:List bf):∀ lost:Int,(dX lost l).2.length≤40:=by
 induction l with
 | nil=>intro _;simp [dX]
 | cons x l ih =>
  intro lost
  rw [dX]
  split
  ·exact ih x.seq
  ·simp only [List.length_cons];omega
theorem fG.seq {b:aD} (h:fG b):fG (bH b):=h
theorem fG.drop {b:aD} {i:Nat} (h:fG b):fG (bG b i)∧(bG b i).ah.length≤b.ah.length∧(i < b.ah.length→(bG b i).ah.length+1=b.ah.length):=by
 unfold bG
 cases hm:b.ah[i]? with
 | none =>
  have:=List.getElem?_eq_none_iff.1 hm
  exact ⟨h,Nat.le_refl _,fun h=>by omega⟩
 | some m =>
  have hi:=(gs1 hm).1
  have hl:(b.ah.take i ++ b.ah.drop (i+1)).length+1=b.ah.length:=by rw [List.length_append,List.length_take,List.length_drop];omega
  refine ⟨⟨h.1,by simp only;have:=h.2.1;omega,fun x hx=>?_,Zu _ _⟩,by simp only;omega,fun _=>hl⟩
  rcases List.mem_append.1 hx with hx | hx
  ·exact h.2.2.1 x (List.mem_of_mem_take hx)
  ·exact h.2.2.1 x (List.mem_of_mem_drop hx)
theorem fG.add {b:aD} {fl:Int} {tx:List Int} (h:fG b) (hm:b.ah.length+1≤12) (ht:tx.length≤30):fG (jR b fl tx):=by
 refine ⟨h.1,by simpa [jR] using hm,fun m hx=>?_,h.2.2.2⟩
 simp only [jR,List.mem_append,List.mem_singleton] at hx
 rcases hx with hx | rfl
 ·exact h.2.2.1 m hx
 ·exact ht
theorem fG.store {b:aD} {uid mode fl si:Int} (h:fG b):fG (j6 b uid mode fl si).1:=by
 unfold j6
 split
 ·exact h
 ·split
  ·exact h
  ·rename_i i _ m hm
   split
   ·exact h
   ·split
    ·exact h
    ·split
     ·exact h
     ·refine ⟨h.1,by simpa using h.2.1,fun x hx=>?_,h.2.2.2⟩
      rcases List.mem_or_eq_of_mem_set hx with hx | rfl
      ·exact h.2.2.1 x hx
      ·exact h.2.2.1 m (List.mem_of_getElem? hm)
theorem fG.loop:∀ (n:Nat) (b:aD) (i:Nat),fG b→fG (iR n b i)
 | 0,b,_,h=>h
 | n+1,b,i,h=>by
  rw [iR]
  split
  ·exact h
  ·split
   ·exact fG.loop n _ _ h.drop.1
   ·exact fG.loop n _ _ h
theorem fG.exp {b:aD} (h:fG b):fG (iD b).1:=by
 unfold iD
 split
 ·exact h
 ·split
  ·exact h
  ·exact fG.loop _ _ _ h.seq
theorem room_le {b:aD} {n:Int} (h:dx b n=true):(b.ah.length:Int)+n≤12:=by
 simp only [dx,Bool.and_eq_true,decide_eq_true_eq] at h
 exact h.2.2
theorem qC.copy {a:aJ} {k:Nat} {b:aD} {tt:List Int} {uid mode:Int} (h:qC a) (hb:a.boxes[k]?=some b):qC (lN a k b tt uid mode).1:=by
 have hbx:=h.2 b (List.mem_of_getElem? hb)
 unfold lN
 split
 ·rename_i i t hi ht
  split
  ·rename_i m bt hm hbt
   have hil:=(gs1 hm).1
   have hmt:=hbx.2.2.1 m (List.mem_of_getElem? hm)
   by_cases hno:dx bt (if mode=1∧t=k then 0 else 1)=false∨(mode=1∧999999≤b.seq)
   ·rw [if_pos hno];exact h
   ·rw [if_neg hno]
    have hroom:dx bt (if mode=1∧t=k then 0 else 1)=true:=by
     cases hr:dx bt (if mode=1∧t=k then 0 else 1) with
     | true=>rfl
     | false=>exact absurd (Or.inl hr) hno
    have hle:=room_le hroom
    have h1:qC (if mode=1 then aL a k (bG (bH b) i) else a):=by
     split
     ·exact h.set hbx.seq.drop.1
     ·exact h
    simp only
    cases hbu:(if mode=1 then aL a k (bG (bH b) i) else a).boxes[t]? with
    | some bu =>
     refine h1.set (fG.add (h1.2 bu (List.mem_of_getElem? hbu)) ?_ hmt)
     by_cases hm1:mode=1
     ·rw [if_pos hm1] at hbu
      simp only [aL] at hbu
      by_cases htk:t=k
      ·subst htk
       have hkl:=(gs1 hb).1
       rw [List.getElem?_set_self hkl] at hbu
       cases hbu
       have hd:=(hbx.seq.drop (i:=i)).2.2 hil
       have ah1:=hbx.2.1
       have wN:(bH b).ah.length=b.ah.length:=rfl
       omega
      ·rw [List.getElem?_set_ne (Ne.symm htk),hbt] at hbu
       cases hbu
       rw [if_neg (fun h=>htk h.2)] at hle
       omega
     ·rw [if_neg hm1,hbt] at hbu
      cases hbu
      rw [if_neg (fun h=>hm1 h.1)] at hle
      omega
    | none=>exact h1
  ·exact h
 ·exact h
theorem J7 {a:aJ} {c:iC} (h:qC a) (hb:c.bx.length≤6) (ht:c.tx.length≤30):qC (dz a c).1:=by
 unfold dz
 split
 ·unfold qx
  split
  ·exact h
  ·split
   ·exact h
   ·rename_i hf
    have h4:a.boxes.length < 4:=by omega
    refine ⟨?_,fun x hx=>?_⟩
    ·have:=congrArg List.length (List.takeWhile_append_dropWhile (p:=fun x:aD=>dH x.name c.bx) (l:=a.boxes))
     rw [List.length_append] at this
     simp only [List.length_append,List.length_cons]
     omega
    ·simp only [List.mem_append,List.mem_cons] at hx
     rcases hx with hx | rfl | hx
     ·exact h.2 x ((List.takeWhile_sublist _).subset hx)
     ·exact ⟨hb,by simp,by simp,by simp⟩
     ·exact h.2 x ((List.dropWhile_sublist _).subset hx)
 ·split
  ·exact h
  ·split
   ·exact h
   ·split
    ·exact h
    ·rename_i k _ b hk
     have hx:=h.2 b (List.mem_of_getElem? hk)
     split
     ·refine ⟨?_,fun x hx=>?_⟩
      ·have:=h.1
       simp only [List.length_append,List.length_take,List.length_drop]
       omega
      ·rcases List.mem_append.1 hx with hx | hx
       ·exact h.2 x (List.mem_of_mem_take hx)
       ·exact h.2 x (List.mem_of_mem_drop hx)
     split
     ·split
      ·rename_i hr
       exact h.set (hx.add (by have:=room_le hr;omega) ht)
      ·exact h
     split
     ·exact h.set hx.store
     split
     ·exact h.set hx.exp
     split
     ·exact h.copy hk
     split
     ·exact h
     split
     ·exact h
     split
     ·exact h
     ·exact h
/- What a gH tells of a box: whether a fQ that came would have its numbers; how many ah it has. -/
theorem QE (gb o:Nat) (b:aD) (w:World) (c2:w.cell? ⟨gb,o+2,none⟩=some (.int .i64 b.next)) (c3:w.cell? ⟨gb,o+3,none⟩=some (.int .i64 b.seq)) (hl:gb < w.heap.size) :
  Calls Tryz.prog 115 #[.pointer (some ⟨gb,o,none⟩)] w fun e w'=>e=.returned (.bool (decide (b.seq < 1000000) && decide (b.next < 1000000)))∧w'=w:=by
 by_cases h1:b.seq < 1000000
 ·go_enter Tryz.func115,Tryz.ntmps115
  go_wp2
  go_ret
  exact ⟨aR (by simp [h1]),rfl⟩
 ·go_enter Tryz.func115,Tryz.ntmps115
  go_wp2
  go_ret
  exact ⟨aR (by rw [decide_eq_false (show ¬ b.seq < 1000000 by omega)];rfl),rfl⟩
theorem J8 (wt w:World) (S:Nat→Prop) (gd g n i gb cap:Nat) (a:aJ) (b:aD) (u0 u1:Value) (E:aX) (h:aW wt w S gd g n a u0 u1 E) (hb:a.boxes[i]?=some b) (hu:u0=.slice (some ⟨gb,0,none⟩) a.boxes.length cap) (hn:n≤2000000) (h12:b.ah.length≤12) :
  Calls Tryz.prog 84 #[.pointer (some ⟨gd,0,none⟩),.pointer (some ⟨gb,i * 7,none⟩)] w fun e w'=>e=.returned (.int .i64 b.ah.length)∧Below w.heap.size w w':=by
 obtain ⟨fF,cap',v0,v5,f,e1,-,-,hlb,-,-,⟨-,c1,-⟩,-,-,-,i0,-⟩:=h.read hb
 rw [hu] at e1
 simp only [Value.slice.injEq,Option.some.injEq,Addr.mk.injEq,and_true,true_and] at e1
 obtain ⟨rfl,rfl⟩:=e1
 have hE:=h.ents b (List.mem_of_getElem? hb)
 have bM:=lt_of_heap h.cells
 have d2:w.cell? ⟨gd,2,none⟩=some (.map (some g)):=(cell_of_row w gd 2 _ _ (0,0) h.cells).trans rfl
 have HC:Hid (∀ w',Below w.heap.size w w'→Calls Tryz.prog 112 #[.map (some g),.int .i64 b.valid] w' fun e w''=>∃ kv,e=.returned kv∧xY w'' kv ((b.ah.map fun m=>m.uid).map fun u=>(b.valid,u))∧Below w'.heap.size w' w''):=fun w' hw=>O7 g n E b.valid (b.ah.map fun m=>m.uid) w' ((h.below hw).map.mm (h.below hw).base) hn i0 (List.pairwise_map.2 hE.sorted) hE.mem (by simpa using h12)
 have HS:Hid (∀ w',Below w.heap.size w w'→w'.cell? ⟨gd,2,none⟩=some (.map (some g))∧w'.cell? ⟨gb,i * 7+1,none⟩=some (.int .i64 b.valid)):=fun w' hw=>⟨(hw.cell (p:=⟨gd,2,none⟩) bM).trans d2,(hw.cell (p:=⟨gb,i * 7+1,none⟩) hlb).trans c1⟩
 clear h hb hE
 have DR:Below w.heap.size w w.drew:=bd _ _
 have hl1:gd < w.drew.heap.size:=bM
 have hl2:gb < w.drew.heap.size:=hlb
 go_enter Tryz.func84,Tryz.ntmps84
 go_wp2
 go_region_held3 (fun w'=>w'.cell? ⟨gd,2,none⟩=some (.map (some g))∧w'.cell? ⟨gb,i * 7+1,none⟩=some (.int .i64 b.valid))
  (first | exact HS.out _ DR | exact HS.out _ (Below.step DR B1) | go_keep)
  ((go_at_call 112;refine (HC.out _ DR).mono ?_;rintro e w1 ⟨kv,rfl,K1,B1⟩;obtain ⟨ka,kc,rfl,-⟩:=K1.form))
 go_wp2
 go_ret
 exact ⟨lI (by simp),Below.step DR B1⟩
/- A fQ comes into a box of a gH. -/
theorem Zv:(Tryz.f116.body.bind (bQ 4)).all (fun o=>dQ o 19 [0,1,2,3,4,5,6,7,8,9,10,11,12,13,14,15,16,17,18] [18] [18,19] 8)=true:=by kernel_rfl
/-- What a box ah2 of its ah: their numbers are below the next. -/
def wO (b:aD):Prop:=∀ m ∈ b.ah,m.uid < b.next
theorem QF (wt w:World) (S:Nat→Prop) (gd g n i gb cap:Nat) (a:aJ) (b:aD) (u0 u1 tv:Value) (E:aX) (fl:Int) (tx:List Int) (h:aW wt w S gd g n a u0 u1 E) (hb:a.boxes[i]?=some b) (hu:u0=.slice (some ⟨gb,0,none⟩) a.boxes.length cap) (hn:n≤2000000) (hv:b.valid≤a.valid) (hnx:wO b) (hs:b.seq < 1000000) (hx:b.next < 1000000) (hfl:aB fl) (ht:Bs wt tv tx) :
  Calls Tryz.prog 116 #[.pointer (some ⟨gd,0,none⟩),.pointer (some ⟨gb,i * 7,none⟩),.int .i64 fl,tv] w fun e w'=>e=.returned (aY 0 b.next)∧Left wt w w' S gd g n u1 (aL a i (jR b fl tx)):=by
 have hil:=(gs1 hb).1
 have A1:Below w.heap.size w (w.alloc (.cells #[.int .i64 0,.int .i64 0,.slice none 0 0,.int .i64 0,.int .i64 0,.int .i64 0,.slice none 0 0,.slice none 0 0,.int .i64 0,.slice none 0 0] 40)):=bn _ _
 have HK:=ak (aV w (.cells #[.int .i64 0,.int .i64 0,.slice none 0 0,.int .i64 0,.int .i64 0,.int .i64 0,.slice none 0 0,.slice none 0 0,.int .i64 0,.slice none 0 0] 40))
 have h1:=h.below A1
 obtain ⟨fF,cap',v0,v5,f,e1,-,-,hlb,hgs,fz,⟨-,c1,c2,c3,-⟩,-,-,-,i0,i1,i2,-⟩:=h1.read hb
 rw [hu] at e1
 simp only [Value.slice.injEq,Option.some.injEq,Addr.mk.injEq,and_true,true_and] at e1
 obtain ⟨rfl,rfl⟩:=e1
 have q1:=i1.1
 have q2:=i2.1
 have j1:aB (b.next+1):=⟨by omega,by omega⟩
 have j2:aB (b.seq+1):=⟨by omega,by omega⟩
 have hr0:w.heap.size≠gb:=by have:=(h.low gb hgs).2.1;omega
 have T1:iU w (w.alloc (.cells #[.int .i64 0,.int .i64 0,.slice none 0 0,.int .i64 0,.int .i64 0,.int .i64 0,.slice none 0 0,.slice none 0 0,.int .i64 0,.slice none 0 0] 40)) S gd g:=fT A1
 have h2:=h1.JZ hb hu j1
 have T2:=yE (v:=.int .i64 (b.next+1)) (j:=i * 7+2) h1 hu hil (fun k hk=>.inl hk) T1
 have b2:(aL a i ⟨b.name,b.valid,b.next+1,b.seq,b.ah,b.au,b.lost⟩).boxes[i]?=some ⟨b.name,b.valid,b.next+1,b.seq,b.ah,b.au,b.lost⟩:=List.getElem?_set_self hil
 have hu2:u0=.slice (some ⟨gb,0,none⟩) (aL a i ⟨b.name,b.valid,b.next+1,b.seq,b.ah,b.au,b.lost⟩).boxes.length cap:=by rw [hu];simp [aL]
 have h3:=h2.uN b2 hu2 j2
 have T3:=yE (v:=.int .i64 (b.seq+1)) (j:=i * 7+3) h2 hu2 (by simpa [aL] using hil) (fun k hk=>.inl hk) T2
 have b3:(aL (aL a i ⟨b.name,b.valid,b.next+1,b.seq,b.ah,b.au,b.lost⟩) i ⟨b.name,b.valid,b.next+1,b.seq+1,b.ah,b.au,b.lost⟩).boxes[i]?=some ⟨b.name,b.valid,b.next+1,b.seq+1,b.ah,b.au,b.lost⟩:=List.getElem?_set_self (by simpa [aL] using hil)
 have K3:=ak (bP (i:=i * 7+3) (v:=.int .i64 (b.seq+1)) (bP (i:=i * 7+2) (v:=.int .i64 (b.next+1)) HK.out hr0) hr0)
 have HD:=ak h3
 have HT:=ak T3
 have HB3:=ak b3
 have HE:=ak (h.ents b (List.mem_of_getElem? hb))
 have HI:=ak (And.intro i0 (And.intro i1 (And.intro j2 hfl)))
 have QG:Hid (Bs wt tv tx):=ht
 have QH:Hid (wO b):=hnx
 have HSL:Hid (∀ k,S k→k < w.heap.size):=fun k hk=>(h.low k hk).2.1
 have hwr:wt.heap.size≤w.heap.size:=h.base.size
 obtain ⟨ta,tn,tc,rfl⟩:=ht.aG
 clear h h1 h2 h3 T1 T2 T3 b2 b3 hu2 i1 i2 j1 j2 hgs hfl ht hnx A1 HK i0
 go_enter Tryz.func116,Tryz.ntmps116
 go_upto_region 4 with fail
 clear c1 c2 c3 fz hlb
 generalize ((w.alloc (.cells #[.int .i64 0,.int .i64 0,.slice none 0 0,.int .i64 0,.int .i64 0,.int .i64 0,.slice none 0 0,.slice none 0 0,.int .i64 0,.slice none 0 0] 40)).setCell ⟨gb,i * 7+2,none⟩ (.int .i64 (b.next+1))).setCell ⟨gb,i * 7+3,none⟩ (.int .i64 (b.seq+1))=w3 at HD HT K3 ⊢
 have DR:Below w3.heap.size w3 w3.drew:=bd _ _
 have h4:=HD.out.below DR
 have T4:=HT.out.trans (fT DR) (S':=S) (fun k hk=>.inl hk)
 have K4:=ay DR K3.out
 obtain ⟨fF,cap',yF,wI,f',e1,-,-,hlb,-,-,⟨-,c1,-,c3,-⟩,-⟩:=h4.read HB3.out
 have gM:u0=_:=e1
 rw [hu] at gM
 simp only [Value.slice.injEq,Option.some.injEq,Addr.mk.injEq,and_true,true_and] at gM
 obtain ⟨rfl,-⟩:=gM
 have bM:=lt_of_heap h4.cells
 have QI:Hid (w3.drew.cell? ⟨gd,2,none⟩=some (.map (some g))∧w3.drew.cell? ⟨gb,i * 7+1,none⟩=some (.int .i64 b.valid)∧w3.drew.cell? ⟨gb,i * 7+3,none⟩=some (.int .i64 (b.seq+1))):=⟨(cell_of_row _ gd 2 _ _ (0,0) h4.cells).trans rfl,c1,c3⟩
 obtain ⟨w5,hrun,hM,hG⟩:=h4.map.store (md:=⟨b.next,fl,b.seq+1,tx⟩) (v:=b.valid) (u:=b.next) (by unfold maxLen;omega) HI.out.1 HI.out.2.1 ⟨.slice ta tn tc,rfl,QG.out,HI.out.2.1,HI.out.2.2.2,HI.out.2.2.1⟩
 have sV:=ak hrun
 have HD5:=ak (h4.mapped HB3.out hG hM (ms:=b.ah ++ [⟨b.next,fl,b.seq+1,tx⟩]) (HE.out.add (m:=⟨b.next,fl,b.seq+1,tx⟩) HI.out.2.1 QH.out) (fun v ms hne he=>he.JU hne) (fun e he=>by
  rcases List.mem_append.1 he with he | he
  ·exact h4.high e (List.mem_filter.1 he).1
  ·rw [List.mem_singleton] at he;subst he;exact hv))
 have qm:=ak (Gf T4 hG)
 have K5:=ak (p8 hG K4 (h4.off K4 (by decide) (by decide)).2.1)
 clear h4 T4 hrun hM hG c1 c3 e1 K4 DR HD HT K3 HE QH QG HB3
 refine eF 18 (S:=fun w'=>w'.cell? ⟨gd,2,none⟩=some (.map (some g))∧w'.cell? ⟨gb,i * 7+1,none⟩=some (.int .i64 b.valid)∧w'.cell? ⟨gb,i * 7+3,none⟩=some (.int .i64 (b.seq+1))) (eB (by kernel_rfl) Zv) (by kernel_rfl) (QI.out) (fun aj aks=>?_)
 refine tks 0 0 28 aj aks ?_
 refine tks 1 1 29 aj aks ?_
 refine tks 2 2 30 aj aks ?_
 refine tks 3 3 31 aj aks ?_
 refine tks 4 4 32 aj aks ?_
 refine tks 5 5 33 aj aks ?_
 refine tks 6 6 34 aj aks ?_
 refine tks 7 7 35 aj aks ?_
 refine tks 8 8 36 aj aks ?_
 refine tks 9 9 37 aj aks ?_
 refine tks 10 10 38 aj aks ?_
 refine tks 11 11 39 aj aks ?_
 refine tks 12 12 40 aj aks ?_
 refine tks 13 13 41 aj aks ?_
 refine tks 14 14 42 aj aks ?_
 refine tks 15 15 43 aj aks ?_
 refine tks 16 16 44 aj aks ?_
 refine tks 17 17 45 aj aks ?_
 refine gL (S':=fun w'=>True) 18 19 aj (by decide) (trivial) (fun aks=>?_)
 refine cls 18 18 aj (by decide) rfl rfl (fun K hK=>?_)
 refine QC _ _ _ _ rfl rfl rfl rfl rfl sV.out ?_
 refine hK.out _ _ (trivial) (fun aks=>?_)
 clear hK K
 refine eG aj ?_
 clear sV QI hlb bM
 have HF:=ak (HD5.out.rep K5.out (fun hS=>by have:=HSL.out _ hS;omega) (by omega) (.int .i64 0) (.int .i64 b.next) (.slice none 0 0) (.int .i64 0) (.int .i64 0) (.int .i64 0) (.slice none 0 0) (.slice none 0 0) (.int .i64 0) (.slice none 0 0))
 have fz:=(bR K5.out).1
 have hlr:=lt_of_heap K5.out
 obtain ⟨r0,r1,r2,r3,r4,r5,r6,r7,r8,r9⟩:=aM K5.out
 go_wp2
 have ff:=aM HF.out.1
 have hfin:=HF.out.2.1
 simp only [aL,List.set_set] at hfin
 exact bodyPost_ret (v:=aY 0 b.next) (by simp [results,Tryz.results116,aY,go_sem,ff]) rfl ⟨rfl,S,_,_,_,hfin,fun k hk=>.inl hk,Cr qm.out HF.out.2.2.1 HF.out.2.2.2.1 HF.out.2.2.2.2 (Nat.le_refl _),Nat.le_refl _⟩
/- Zw of package o9 gH. -/
theorem Zx (wt w:World) (S:Nat→Prop) (gd g n i gb cap:Nat) (a:aJ) (b:aD) (u0 u1 cv:Value) (E:aX) (c:iC) (h:aW wt w S gd g n a u0 u1 E) (hb:a.boxes[i]?=some b) (hu:u0=.slice (some ⟨gb,0,none⟩) a.boxes.length cap) (hn:n≤1000000) (hv:b.valid≤a.valid) (hnx:wO b) (h12:b.ah.length≤12) (hc:ig wt cv c.k c.bx c.tt c.uid c.mode c.fl c.si c.tx) (res:aJ × cO) (hres:res=if dx b 1 then (aL a i (jR b c.fl c.tx),aQ 0 b.next) else (a,aQ 3 0)) :
  Calls Tryz.prog 79 #[.pointer (some ⟨gd,0,none⟩),.pointer (some ⟨gb,i * 7,none⟩),cv] w fun e w'=>∃ v,e=.returned v∧dD w' w.heap.size w'.heap.size v res.2∧Left wt w w' S gd g n u1 res.1:=by
 obtain ⟨q0,q1,q2,rfl,g0,g1,g2,i0,i1,i2,i3,i4⟩:=hc
 obtain ⟨x0,m0,z0,rfl⟩:=g0.aG
 obtain ⟨x1,m1,z1,rfl⟩:=g1.aG
 obtain ⟨x2,m2,z2,rfl⟩:=g2.aG
 obtain ⟨kC,kR,A2⟩:=gJ w (.cells #[.int .i64 c.k,.slice x0 m0 z0,.slice x1 m1 z1,.int .i64 c.uid,.int .i64 c.mode,.int .i64 c.fl,.int .i64 c.si,.slice x2 m2 z2] 44) (.cells #[.int .i64 0,.int .i64 0,.slice none 0 0,.int .i64 0,.int .i64 0,.int .i64 0,.slice none 0 0,.slice none 0 0,.int .i64 0,.slice none 0 0] 40)
 have h1:=h.below A2
 obtain ⟨fF,cap',v0,v5,f,e1,-,-,hlb,-,-,⟨-,-,c2,c3,-⟩,-,-,-,-,j1,j2,-⟩:=h1.read hb
 rw [hu] at e1
 simp only [Value.slice.injEq,Option.some.injEq,Addr.mk.injEq,and_true,true_and] at e1
 obtain ⟨rfl,rfl⟩:=e1
 have bN:=ak hres
 clear hres
 have HD:=ak h1
 have HA:=ak A2
 have bC:=ak kC
 have aO:=ak kR
 have Ct:=ak g2
 have yG:Hid (aB c.fl):=by assumption
 have HSL:Hid (∀ k,S k→k < w.heap.size):=fun k hk=>(h.low k hk).2.1
 have hw0:=h.base.size
 have hzz:w.heap.size+2≤((w.alloc (.cells #[.int .i64 c.k,.slice x0 m0 z0,.slice x1 m1 z1,.int .i64 c.uid,.int .i64 c.mode,.int .i64 c.fl,.int .i64 c.si,.slice x2 m2 z2] 44)).alloc (.cells #[.int .i64 0,.int .i64 0,.slice none 0 0,.int .i64 0,.int .i64 0,.int .i64 0,.slice none 0 0,.slice none 0 0,.int .i64 0,.slice none 0 0] 40)).heap.size:=by simp
 have HJ:=ak (And.intro j1 j2)
 clear h h1 A2 kC kR g0 g1 g2
 go_enter Tryz.func79,Tryz.ntmps79
 go_upto_region 1 with fail
 generalize (w.alloc (.cells #[.int .i64 c.k,.slice x0 m0 z0,.slice x1 m1 z1,.int .i64 c.uid,.int .i64 c.mode,.int .i64 c.fl,.int .i64 c.si,.slice x2 m2 z2] 44)).alloc (.cells #[.int .i64 0,.int .i64 0,.slice none 0 0,.int .i64 0,.int .i64 0,.int .i64 0,.slice none 0 0,.slice none 0 0,.int .i64 0,.slice none 0 0] 40)=w1 at HD HA bC aO hlb c2 c3 hzz ⊢
 have kT:=ak (QE gb (i * 7) b w1 c2 c3 hlb)
 clear c2 c3 hlb
 go_wp2_with fail
 refine kT.out.mono ?_
 rintro e w2 ⟨rfl,rfl⟩
 clear kT
 by_cases hcn:b.seq < 1000000∧b.next < 1000000
 ·have hB1:(decide (b.seq < 1000000) && decide (b.next < 1000000))=true:=by simp [hcn]
  have kT:=ak hcn
  rw [hB1]
  clear hB1 hcn
  have nC:=ak (J8 wt _ S gd g n i gb cap a b u0 u1 E HD.out hb hu (by omega) h12)
  go_wp2_with fail
  refine nC.out.mono ?_
  rintro e w3 ⟨rfl,B3⟩
  have yH:=ak (HD.out.below B3)
  have og:=ak (Below.step HA.out B3)
  have lQ:=ak (ay B3 bC.out)
  have bX:=ak (ay B3 aO.out)
  have hs3:=B3.size
  clear nC B3 HD HA bC aO
  by_cases hl:b.ah.length=12
  ·have hl1:((b.ah.length:Int) == 12)=true:=by simp [hl]
   have sW:Hid (dx b 1=false):=by show _=_;unfold dx;simp;omega
   have bI:Hid (res=(a,aQ 3 0)):=by show _=_;rw [bN.out,sW.out];rfl
   clear hl
   have HF:=ak (nZ bX.out (.int .i64 3) (.int .i64 0) (.slice none 0 0) (.int .i64 0) (.int .i64 0) (.int .i64 0) (.slice none 0 0) (.slice none 0 0) (.int .i64 0) (.slice none 0 0))
   obtain ⟨y0,y1,y2,y3,y4,y5,y6,y7,y8,y9⟩:=aM bX.out
   have yz:=(bR bX.out).1
   have yl:=lt_of_heap bX.out
   go_wp2
   have ff:=aM HF.out.1
   have hD:=yH.out.aside HF.out.2.1 HF.out.2.2.1 HF.out.2.2.2 (show wt.heap.size≤w.heap.size+1 by omega) (fun hS=>by have:=HSL.out _ hS;omega) (yH.out.off bX.out (by decide) (by decide))
   refine bodyPost_ret (v:=aY 3 0) (by simp [results,Tryz.results79,aY,go_sem,ff]) rfl ⟨aY 3 0,rfl,?_,?_⟩
   ·rw [bI.out]
    exact sU _ _ _ (c:=3) (x:=0) ⟨by decide,by decide⟩ aI (by rw [HF.out.2.1];exact og.out.size)
   ·rw [bI.out]
    exact ⟨S,_,_,_,hD,fun k hk=>.inl hk,fT (qB og.out HF.out.2.1 HF.out.2.2.1 HF.out.2.2.2 (Nat.le_succ _)),by omega⟩
  ·have hl1:((b.ah.length:Int) == 12)=false:=by simp;omega
   have sW:Hid (dx b 1=true):=by show _=_;unfold dx;have:=kT.out;simp;omega
   have qV:=ak (QF wt w3 S gd g n i gb cap a b u0 u1 (.slice x2 m2 z2) E c.fl c.tx yH.out hb hu (by omega) hv hnx kT.out.1 kT.out.2 yG.out Ct.out)
   obtain ⟨y0,y1,y2,y3,y4,y5,y6,y7⟩:=l5 lQ.out
   have Zy:=lt_of_heap lQ.out
   clear hl
   go_wp2_with fail
   refine qV.out.mono ?_
   rintro e w4 ⟨rfl,S',QJ,n',E',hD4,Aa,Gh,J9⟩
   unfold aY
   have hof:=yH.out.off bX.out (by decide) (by decide)
   have dW:=ak ((Gh.2.1 _ (lt_of_heap bX.out) hof.1 hof.2.1 (fun hS=>by have:=HSL.out _ hS;omega)).trans bX.out)
   have HF:=ak (nZ dW.out (.int .i64 0) (.int .i64 b.next) (.slice none 0 0) (.int .i64 0) (.int .i64 0) (.int .i64 0) (.slice none 0 0) (.slice none 0 0) (.int .i64 0) (.slice none 0 0))
   have bI:Hid (res=(aL a i (jR b c.fl c.tx),aQ 0 b.next)):=by show _=_;rw [bN.out,sW.out];rfl
   have Zz:Hid (∀ W:World,W.heap.size=w4.heap.size→(W.os=w4.os∧W.tape=w4.tape∧W.output=w4.output)→(∀ k,k≠w.heap.size+1→W.heap[k]?=w4.heap[k]?)→Left wt w W S gd g n u1 (aL a i (jR b c.fl c.tx))):=fun W e1 e2 e3=>⟨S',QJ,n',E',hD4.aside e1 e2 e3 (by omega) (fun hS=>(Aa _ hS).elim (fun h=>by have:=HSL.out _ h;omega) (fun h=>by have:=lt_of_heap bX.out;omega)) (hD4.off dW.out (by decide) (by decide)),fun k hk=>(Aa k hk).imp id fun h=>Nat.le_trans og.out.size h,Cr (iU.trans (fT og.out) Gh fun k hk=>.inl hk) e1 e2 e3 (Nat.le_succ _),J9⟩
   have hs4:=Nat.le_trans og.out.size Gh.1
   obtain ⟨t0,t1,t2,t3,t4,t5,t6,t7,t8,t9⟩:=aM dW.out
   have tz:=(bR dW.out).1
   have tl:=lt_of_heap dW.out
   clear hD4 Aa Gh qV y0 y1 y2 y3 y4 y5 y6 y7 Zy hof
   go_wp2
   have ff:=aM HF.out.1
   refine bodyPost_ret (v:=aY 0 b.next) (by simp [results,Tryz.results79,aY,go_sem,ff]) rfl ⟨aY 0 b.next,rfl,?_,?_⟩
   ·rw [bI.out]
    exact sU _ _ _ (c:=0) (x:=b.next) aI HJ.out.1 (by rw [HF.out.2.1];exact hs4)
   ·rw [bI.out]
    exact Zz.out _ HF.out.2.1 HF.out.2.2.1 HF.out.2.2.2
 ·have hB1:(decide (b.seq < 1000000) && decide (b.next < 1000000))=false:=by
   by_cases h1:b.seq < 1000000
   ·simp [h1];omega
   ·simp [h1]
  have sW:Hid (dx b 1=false):=by show _=_;unfold dx;rw [← Bool.and_assoc,hB1];rfl
  rw [hB1]
  clear hB1 hcn
  have yH:=HD
  have og:=HA
  have bI:Hid (res=(a,aQ 3 0)):=by show _=_;rw [bN.out,sW.out];rfl
  have HF:=ak (nZ aO.out (.int .i64 3) (.int .i64 0) (.slice none 0 0) (.int .i64 0) (.int .i64 0) (.int .i64 0) (.slice none 0 0) (.slice none 0 0) (.int .i64 0) (.slice none 0 0))
  obtain ⟨y0,y1,y2,y3,y4,y5,y6,y7,y8,y9⟩:=aM aO.out
  have yz:=(bR aO.out).1
  have yl:=lt_of_heap aO.out
  go_wp2
  have ff:=aM HF.out.1
  have hD:=yH.out.aside HF.out.2.1 HF.out.2.2.1 HF.out.2.2.2 (show wt.heap.size≤w.heap.size+1 by omega) (fun hS=>by have:=HSL.out _ hS;omega) (yH.out.off aO.out (by decide) (by decide))
  refine bodyPost_ret (v:=aY 3 0) (by simp [results,Tryz.results79,aY,go_sem,ff]) rfl ⟨aY 3 0,rfl,?_,?_⟩
  ·rw [bI.out]
   exact sU _ _ _ (c:=3) (x:=0) ⟨by decide,by decide⟩ aI (by rw [HF.out.2.1];exact og.out.size)
  ·rw [bI.out]
   exact ⟨S,_,_,_,hD,fun k hk=>.inl hk,fT (qB og.out HF.out.2.1 HF.out.2.2.1 HF.out.2.2.2 (Nat.le_succ _)),by omega⟩
end Go.Proofs.YtlneebmlhblleaaGreat
