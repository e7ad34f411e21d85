/- The proof's texts, part 18. -/
import Derived.Test.YtmglhdkeidhafaaGreatTh
namespace Go.Proofs.YtmglhdkeidhafaaGreat
open Go.RowKit
set_option linter.unusedVariables false
set_option linter.unusedSimpArgs false
set_option maxHeartbeats 20000000
set_option maxRecDepth 100000
/- Vj that stay while their own blocks do; what a command leaves of an account behind a pointer. -/
/-- The names of a reply: none at all, or the call's own in blocks from N on (then its box has nothing). -/
def EO (w:World) (N:Nat) (u:Value) (r:dI):Prop:=∃ c0 c1 c2 c3 c4 c5 c6 c7 c8 c9,u=.agg #[c0,c1,c2,c3,c4,c5,c6,c7,c8,c9]∧((c9=.slice none 0 0∧r.names=[])∨((r.box.name=[]∧r.box.ah=[]∧r.box.au=[])∧rE w (In N w.heap.size) c9 r.names))
theorem EO.pU {w w':World} {N:Nat} {u:Value} {r:dI} (h:EO w N u r) (hs:w.heap.size≤w'.heap.size) (hk:∀ k,N≤k→k < w.heap.size→w'.heap[k]?=w.heap[k]?):EO w' N u r :=
 let ⟨c0,c1,c2,c3,c4,c5,c6,c7,c8,c9,e,h⟩:=h;⟨c0,c1,c2,c3,c4,c5,c6,c7,c8,c9,e,h.imp id fun h=>⟨h.1,Ow.mono (Ow.frame mW h.2 fun k h1 h2=>hk k h1.1 h2) fun k h1=>⟨h1.1,Nat.lt_of_lt_of_le h1.2 hs⟩⟩⟩
/-- The value u reads as the reply r wherever the blocks from N on stay. -/
def jg (w:World) (N:Nat) (u:Value) (r:dI):Prop:=(∀ w':World,w.heap.size≤w'.heap.size→(∀ k,N≤k→k < w.heap.size→w'.heap[k]?=w.heap[k]?)→nW w' u r)∧EO w N u r
theorem jg.v {w:World} {N:Nat} {u:Value} {r:dI} (h:jg w N u r):nW w u r:=h.1 w (Nat.le_refl _) fun _ _ _=>rfl
/-- It stays where the world changes below N alone. -/
theorem jg.pU {w w':World} {N:Nat} {u:Value} {r:dI} (h:jg w N u r) (hs:w.heap.size≤w'.heap.size) (hk:∀ k,N≤k→k < w.heap.size→w'.heap[k]?=w.heap[k]?):jg w' N u r :=
 ⟨fun w'' hs' hk'=>h.1 w'' (Nat.le_trans hs hs') fun k h1 h2=>(hk' k h1 (Nat.lt_of_lt_of_le h2 hs)).trans (hk k h1 h2),h.2.pU hs hk⟩
theorem jg.below {w w':World} {N:Nat} {u:Value} {r:dI} (h:jg w N u r) (hb:Below w.heap.size w w'):jg w' N u r:=h.pU hb.size fun k _ h2=>hb.block k h2
theorem jg.less {w:World} {N N':Nat} {u:Value} {r:dI} (h:jg w N u r) (hN:N'≤N):jg w N' u r :=
 ⟨fun w'' hs hk=>h.1 w'' hs fun k h1 h2=>hk k (Nat.le_trans hN h1) h2,let ⟨c0,c1,c2,c3,c4,c5,c6,c7,c8,c9,e,h⟩:=h.2;⟨c0,c1,c2,c3,c4,c5,c6,c7,c8,c9,e,h.imp id fun h=>⟨h.1,Ow.mono h.2 fun k h1=>⟨Nat.le_trans hN h1.1,h1.2⟩⟩⟩⟩
theorem XO {w w':World} {v:Value} (h:Bs w v []):Bs w' v []:=let ⟨ho,a,cap,e,h1,h2,h3,_⟩:=h;⟨ho,a,cap,e,h1,h2,h3,fun h=>absurd h (Nat.lt_irrefl 0)⟩
theorem PI {α:Type} {sz:Nat} {E:World→List Value→α→Prop} {w w':World} {v:Value} (h:Rd sz E w v ([]:List α)):Rd sz E w' v ([]:List α):=let ⟨a,cap,cs,e,h1,h2,h3,_,_⟩:=h;⟨a,cap,cs,e,h1,h2,h3,fun i x hx=>by simp at hx,fun h=>absurd h (Nat.lt_irrefl 0)⟩
/-- A reply without a box and names stays always. -/
theorem sG {w:World} {N:Nat} {u:Value} {c n:Int} (h:je w u (aN c n)):jg w N u (aN c n):=by
 obtain ⟨u0,u1,u2,u3,e,⟨z0,z1,z2,ez,h0,h1,h2,hi⟩,h3,i⟩:=h
 simp only [Value.agg.injEq,Array.mk.injEq,List.cons.injEq,and_true,true_and] at ez
 obtain ⟨rfl,rfl,rfl⟩:=ez
 exact ⟨fun w' _ _=>⟨u0,u1,u2,u3,e,⟨_,_,_,rfl,XO h0,PI h1,PI h2,hi⟩,by rw [h3.1];exact Rd.nil _,i⟩,_,_,_,_,_,_,_,_,_,_,e,.inl h3⟩
/-- What a command leaves: the account behind the pointer, the reply; nothing else that is old has turned. -/
def jh (w:World) (S:Nat→Prop) (ga:Nat) (x:aF × dI) (e:Ending) (w':World):Prop :=
 ∃ u S',e=.returned u∧jg w' w.heap.size u x.2∧aR w w' S ga∧aS w' S' ga x.1∧∀ k,S' k→S k∨w.heap.size≤k
theorem jh.same {w:World} {S:Nat→Prop} {ga:Nat} {a:aF} {c n:Int} {e:Ending} {w':World} (h:∃ u,e=.returned u∧je w' u (aN c n)∧Below w.heap.size w w'∧aS w' S ga a):jh w S ga (a,aN c n) e w' :=
 let ⟨u,h0,h1,h2,h3⟩:=h;⟨u,S,h0,sG h1,aR.below h2,h3,fun _ h=>.inl h⟩
theorem jh.code {w:World} {S:Nat→Prop} {ga:Nat} {a:aF} {c n:Int} {e:Ending} {w':World} (h:∃ u S',e=.returned u∧je w' u (aN c n)∧aR w w' S ga∧aS w' S' ga a∧∀ k,S' k→S k∨w.heap.size≤k):jh w S ga (a,aN c n) e w' :=
 let ⟨u,S',h0,h1,h2⟩:=h;⟨u,S',h0,sG h1,h2⟩
/-- A reply that a callee gave is laid into the call's own variable. -/
theorem PK {w1:World} {r:Nat} {d0 d1 d2 d3 d4 d5 d6 d7 d8 d9:Value} (hk:w1.heap[r]?=some (.cells #[d0,d1,d2,d3,d4,d5,d6,d7,d8,d9] 37 (0,0))) (c0 c1 c2 c3 c4 c5 c6 c7 c8 c9:Value):((((((((((w1.setCell ⟨r,0,none⟩ c0).setCell ⟨r,1,none⟩ c1).setCell ⟨r,2,none⟩ c2).setCell ⟨r,3,none⟩ c3).setCell ⟨r,4,none⟩ c4).setCell ⟨r,5,none⟩ c5).setCell ⟨r,6,none⟩ c6).setCell ⟨r,7,none⟩ c7).setCell ⟨r,8,none⟩ c8).setCell ⟨r,9,none⟩ c9).heap[r]?=some (.cells #[c0,c1,c2,c3,c4,c5,c6,c7,c8,c9] 37 (0,0)):=by
 replace hk:(World.setCell _ _ _).heap[r]?=some (Obj.cells #[c0,d1,d2,d3,d4,d5,d6,d7,d8,d9] 37 (0,0)):=aJ (i:=0) (v:=c0) hk
 replace hk:(World.setCell _ _ _).heap[r]?=some (Obj.cells #[c0,c1,d2,d3,d4,d5,d6,d7,d8,d9] 37 (0,0)):=aJ (i:=1) (v:=c1) hk
 replace hk:(World.setCell _ _ _).heap[r]?=some (Obj.cells #[c0,c1,c2,d3,d4,d5,d6,d7,d8,d9] 37 (0,0)):=aJ (i:=2) (v:=c2) hk
 replace hk:(World.setCell _ _ _).heap[r]?=some (Obj.cells #[c0,c1,c2,c3,d4,d5,d6,d7,d8,d9] 37 (0,0)):=aJ (i:=3) (v:=c3) hk
 replace hk:(World.setCell _ _ _).heap[r]?=some (Obj.cells #[c0,c1,c2,c3,c4,d5,d6,d7,d8,d9] 37 (0,0)):=aJ (i:=4) (v:=c4) hk
 replace hk:(World.setCell _ _ _).heap[r]?=some (Obj.cells #[c0,c1,c2,c3,c4,c5,d6,d7,d8,d9] 37 (0,0)):=aJ (i:=5) (v:=c5) hk
 replace hk:(World.setCell _ _ _).heap[r]?=some (Obj.cells #[c0,c1,c2,c3,c4,c5,c6,d7,d8,d9] 37 (0,0)):=aJ (i:=6) (v:=c6) hk
 replace hk:(World.setCell _ _ _).heap[r]?=some (Obj.cells #[c0,c1,c2,c3,c4,c5,c6,c7,d8,d9] 37 (0,0)):=aJ (i:=7) (v:=c7) hk
 replace hk:(World.setCell _ _ _).heap[r]?=some (Obj.cells #[c0,c1,c2,c3,c4,c5,c6,c7,c8,d9] 37 (0,0)):=aJ (i:=8) (v:=c8) hk
 replace hk:(World.setCell _ _ _).heap[r]?=some (Obj.cells #[c0,c1,c2,c3,c4,c5,c6,c7,c8,c9] 37 (0,0)):=aJ (i:=9) (v:=c9) hk
 exact hk
theorem vM {w w1:World} {S:Nat→Prop} {ga r N:Nat} {d0 d1 d2 d3 d4 d5 d6 d7 d8 d9:Value} (hR:w1.heap[r]?=some (.cells #[d0,d1,d2,d3,d4,d5,d6,d7,d8,d9] 37 (0,0))) (hr:w.heap.size≤r) (ht:aR w w1 S ga) (a:aF) (S':Nat→Prop) (hp:aS w1 S' ga a) (hg:ga < w.heap.size) (hS:¬ S' r) (rep:dI) (c0 c1 c2 c3 c4 c5 c6 c7 c8 c9:Value) (hrep:jg w1 N (.agg #[c0,c1,c2,c3,c4,c5,c6,c7,c8,c9]) rep) (hN:r < N) :
  let w2:=((((((((((w1.setCell ⟨r,0,none⟩ c0).setCell ⟨r,1,none⟩ c1).setCell ⟨r,2,none⟩ c2).setCell ⟨r,3,none⟩ c3).setCell ⟨r,4,none⟩ c4).setCell ⟨r,5,none⟩ c5).setCell ⟨r,6,none⟩ c6).setCell ⟨r,7,none⟩ c7).setCell ⟨r,8,none⟩ c8).setCell ⟨r,9,none⟩ c9)
  w2.heap[r]?=some (.cells #[c0,c1,c2,c3,c4,c5,c6,c7,c8,c9] 37 (0,0))∧aR w w2 S ga∧aS w2 S' ga a∧jg w2 w.heap.size (.agg #[c0,c1,c2,c3,c4,c5,c6,c7,c8,c9]) rep:=by
 intro w2
 have hoth:∀ k,k≠r→w2.heap[k]?=w1.heap[k]?:=fun k hk=>by
  show ((((((((((w1.setCell ⟨r,0,none⟩ c0).setCell ⟨r,1,none⟩ c1).setCell ⟨r,2,none⟩ c2).setCell ⟨r,3,none⟩ c3).setCell ⟨r,4,none⟩ c4).setCell ⟨r,5,none⟩ c5).setCell ⟨r,6,none⟩ c6).setCell ⟨r,7,none⟩ c7).setCell ⟨r,8,none⟩ c8).setCell ⟨r,9,none⟩ c9).heap[k]?=_
  rw [Below.heap_setCell _ _ _ _ (show k≠r from hk),Below.heap_setCell _ _ _ _ (show k≠r from hk),Below.heap_setCell _ _ _ _ (show k≠r from hk),Below.heap_setCell _ _ _ _ (show k≠r from hk),Below.heap_setCell _ _ _ _ (show k≠r from hk),Below.heap_setCell _ _ _ _ (show k≠r from hk),Below.heap_setCell _ _ _ _ (show k≠r from hk),Below.heap_setCell _ _ _ _ (show k≠r from hk),Below.heap_setCell _ _ _ _ (show k≠r from hk),Below.heap_setCell _ _ _ _ (show k≠r from hk)]
 have hsz:w2.heap.size=w1.heap.size:=by show ((((((((((w1.setCell ⟨r,0,none⟩ c0).setCell ⟨r,1,none⟩ c1).setCell ⟨r,2,none⟩ c2).setCell ⟨r,3,none⟩ c3).setCell ⟨r,4,none⟩ c4).setCell ⟨r,5,none⟩ c5).setCell ⟨r,6,none⟩ c6).setCell ⟨r,7,none⟩ c7).setCell ⟨r,8,none⟩ c8).setCell ⟨r,9,none⟩ c9).heap.size=_;simp only [bf]
 have hos:w2.os=w1.os:=by show ((((((((((w1.setCell ⟨r,0,none⟩ c0).setCell ⟨r,1,none⟩ c1).setCell ⟨r,2,none⟩ c2).setCell ⟨r,3,none⟩ c3).setCell ⟨r,4,none⟩ c4).setCell ⟨r,5,none⟩ c5).setCell ⟨r,6,none⟩ c6).setCell ⟨r,7,none⟩ c7).setCell ⟨r,8,none⟩ c8).setCell ⟨r,9,none⟩ c9).os=_;simp only [Aj]
 have Bw:w2.tape=w1.tape:=by show ((((((((((w1.setCell ⟨r,0,none⟩ c0).setCell ⟨r,1,none⟩ c1).setCell ⟨r,2,none⟩ c2).setCell ⟨r,3,none⟩ c3).setCell ⟨r,4,none⟩ c4).setCell ⟨r,5,none⟩ c5).setCell ⟨r,6,none⟩ c6).setCell ⟨r,7,none⟩ c7).setCell ⟨r,8,none⟩ c8).setCell ⟨r,9,none⟩ c9).tape=_;simp only [Ak]
 have BA:w2.output=w1.output:=by show ((((((((((w1.setCell ⟨r,0,none⟩ c0).setCell ⟨r,1,none⟩ c1).setCell ⟨r,2,none⟩ c2).setCell ⟨r,3,none⟩ c3).setCell ⟨r,4,none⟩ c4).setCell ⟨r,5,none⟩ c5).setCell ⟨r,6,none⟩ c6).setCell ⟨r,7,none⟩ c7).setCell ⟨r,8,none⟩ c8).setCell ⟨r,9,none⟩ c9).output=_;simp only [Al]
 have hT:∀ t,t≠37→bD w1 w2 t:=fun t hne k hk=>hoth k fun e=>by obtain ⟨cs,fz,hh⟩:=hk;rw [e,hR] at hh;cases hh;exact hne rfl
 have hrg:ga≠r:=by omega
 refine ⟨?_,⟨by rw [hsz];exact ht.1,fun k h1 h2 h3=>(hoth k (by omega)).trans (ht.2.1 k h1 h2 h3),ht.2.2.1.trans (hT _ (by decide)),ht.2.2.2.1.trans (hT _ (by decide)),hos.trans ht.2.2.2.2.1,Bw.trans ht.2.2.2.2.2.1,BA.trans ht.2.2.2.2.2.2.1,fun h1 h2=>(show w2.cell? ⟨ga,2,none⟩=w1.cell? ⟨ga,2,none⟩ by unfold World.cell?;rw [hoth ga hrg]).trans (ht.2.2.2.2.2.2.2 h1 h2)⟩,hp.pU (by omega) (hoth ga hrg) (fun k h1 h2=>hoth k fun e=>hS (e ▸ h1)) (hT _ (by decide)) (hT _ (by decide)) (hT _ (by decide)),?_⟩
 ·exact PK hR c0 c1 c2 c3 c4 c5 c6 c7 c8 c9
 ·exact (hrep.pU (by omega) fun k h1 _=>hoth k (by omega)).less (by omega)
/- A reply that is laid behind an account that turned. -/
/-- A reply that is laid above all that was there; what turned ahead of it. -/
theorem zB {w w1:World} {S:Nat→Prop} {ga r:Nat} {d0 d1 d2 d3 d4 d5 d6 d7 d8 d9:Value} (hR:w1.heap[r]?=some (.cells #[d0,d1,d2,d3,d4,d5,d6,d7,d8,d9] 37 (0,0))) (hr:w.heap.size≤r) (ht:aR w w1 S ga) (a:aF) (S':Nat→Prop) (hp:aS w1 S' ga a) (hg:ga < w.heap.size) (hS:¬ S' r) (c n:Int) (hc:ay c∧ay n) :
  let w2:=((((((((((w1.setCell ⟨r,0,none⟩ (.int .i64 c)).setCell ⟨r,1,none⟩ (.int .i64 n)).setCell ⟨r,2,none⟩ (.slice none 0 0)).setCell ⟨r,3,none⟩ (.int .i64 0)).setCell ⟨r,4,none⟩ (.int .i64 0)).setCell ⟨r,5,none⟩ (.int .i64 0)).setCell ⟨r,6,none⟩ (.slice none 0 0)).setCell ⟨r,7,none⟩ (.slice none 0 0)).setCell ⟨r,8,none⟩ (.int .i64 0)).setCell ⟨r,9,none⟩ (.slice none 0 0))
  w2.heap[r]?=some (.cells #[.int .i64 c,.int .i64 n,.slice none 0 0,.int .i64 0,.int .i64 0,.int .i64 0,.slice none 0 0,.slice none 0 0,.int .i64 0,.slice none 0 0] 37 (0,0))∧aR w w2 S ga∧aS w2 S' ga a∧je w2 (.agg #[.int .i64 c,.int .i64 n,.slice none 0 0,.int .i64 0,.int .i64 0,.int .i64 0,.slice none 0 0,.slice none 0 0,.int .i64 0,.slice none 0 0]) (aN c n):=by
 intro w2
 have hoth:∀ k,k≠r→w2.heap[k]?=w1.heap[k]?:=fun k hk=>by
  show ((((((((((w1.setCell ⟨r,0,none⟩ (.int .i64 c)).setCell ⟨r,1,none⟩ (.int .i64 n)).setCell ⟨r,2,none⟩ (.slice none 0 0)).setCell ⟨r,3,none⟩ (.int .i64 0)).setCell ⟨r,4,none⟩ (.int .i64 0)).setCell ⟨r,5,none⟩ (.int .i64 0)).setCell ⟨r,6,none⟩ (.slice none 0 0)).setCell ⟨r,7,none⟩ (.slice none 0 0)).setCell ⟨r,8,none⟩ (.int .i64 0)).setCell ⟨r,9,none⟩ (.slice none 0 0)).heap[k]?=_
  rw [Below.heap_setCell _ _ _ _ (show k≠r from hk),Below.heap_setCell _ _ _ _ (show k≠r from hk),Below.heap_setCell _ _ _ _ (show k≠r from hk),Below.heap_setCell _ _ _ _ (show k≠r from hk),Below.heap_setCell _ _ _ _ (show k≠r from hk),Below.heap_setCell _ _ _ _ (show k≠r from hk),Below.heap_setCell _ _ _ _ (show k≠r from hk),Below.heap_setCell _ _ _ _ (show k≠r from hk),Below.heap_setCell _ _ _ _ (show k≠r from hk),Below.heap_setCell _ _ _ _ (show k≠r from hk)]
 have hsz:w2.heap.size=w1.heap.size:=by show ((((((((((w1.setCell ⟨r,0,none⟩ (.int .i64 c)).setCell ⟨r,1,none⟩ (.int .i64 n)).setCell ⟨r,2,none⟩ (.slice none 0 0)).setCell ⟨r,3,none⟩ (.int .i64 0)).setCell ⟨r,4,none⟩ (.int .i64 0)).setCell ⟨r,5,none⟩ (.int .i64 0)).setCell ⟨r,6,none⟩ (.slice none 0 0)).setCell ⟨r,7,none⟩ (.slice none 0 0)).setCell ⟨r,8,none⟩ (.int .i64 0)).setCell ⟨r,9,none⟩ (.slice none 0 0)).heap.size=_;simp only [bf]
 have hos:w2.os=w1.os:=by show ((((((((((w1.setCell ⟨r,0,none⟩ (.int .i64 c)).setCell ⟨r,1,none⟩ (.int .i64 n)).setCell ⟨r,2,none⟩ (.slice none 0 0)).setCell ⟨r,3,none⟩ (.int .i64 0)).setCell ⟨r,4,none⟩ (.int .i64 0)).setCell ⟨r,5,none⟩ (.int .i64 0)).setCell ⟨r,6,none⟩ (.slice none 0 0)).setCell ⟨r,7,none⟩ (.slice none 0 0)).setCell ⟨r,8,none⟩ (.int .i64 0)).setCell ⟨r,9,none⟩ (.slice none 0 0)).os=_;simp only [Aj]
 have Bw:w2.tape=w1.tape:=by show ((((((((((w1.setCell ⟨r,0,none⟩ (.int .i64 c)).setCell ⟨r,1,none⟩ (.int .i64 n)).setCell ⟨r,2,none⟩ (.slice none 0 0)).setCell ⟨r,3,none⟩ (.int .i64 0)).setCell ⟨r,4,none⟩ (.int .i64 0)).setCell ⟨r,5,none⟩ (.int .i64 0)).setCell ⟨r,6,none⟩ (.slice none 0 0)).setCell ⟨r,7,none⟩ (.slice none 0 0)).setCell ⟨r,8,none⟩ (.int .i64 0)).setCell ⟨r,9,none⟩ (.slice none 0 0)).tape=_;simp only [Ak]
 have BA:w2.output=w1.output:=by show ((((((((((w1.setCell ⟨r,0,none⟩ (.int .i64 c)).setCell ⟨r,1,none⟩ (.int .i64 n)).setCell ⟨r,2,none⟩ (.slice none 0 0)).setCell ⟨r,3,none⟩ (.int .i64 0)).setCell ⟨r,4,none⟩ (.int .i64 0)).setCell ⟨r,5,none⟩ (.int .i64 0)).setCell ⟨r,6,none⟩ (.slice none 0 0)).setCell ⟨r,7,none⟩ (.slice none 0 0)).setCell ⟨r,8,none⟩ (.int .i64 0)).setCell ⟨r,9,none⟩ (.slice none 0 0)).output=_;simp only [Al]
 have hT:∀ t,t≠37→bD w1 w2 t:=fun t hne k hk=>hoth k fun e=>by obtain ⟨cs,fz,hh⟩:=hk;rw [e,hR] at hh;cases hh;exact hne rfl
 have hrg:ga≠r:=by omega
 refine ⟨?_,⟨by rw [hsz];exact ht.1,fun k h1 h2 h3=>(hoth k (by omega)).trans (ht.2.1 k h1 h2 h3),ht.2.2.1.trans (hT _ (by decide)),ht.2.2.2.1.trans (hT _ (by decide)),hos.trans ht.2.2.2.2.1,Bw.trans ht.2.2.2.2.2.1,BA.trans ht.2.2.2.2.2.2.1,fun h1 h2=>(show w2.cell? ⟨ga,2,none⟩=w1.cell? ⟨ga,2,none⟩ by unfold World.cell?;rw [hoth ga hrg]).trans (ht.2.2.2.2.2.2.2 h1 h2)⟩,hp.pU (by omega) (hoth ga hrg) (fun k h1 h2=>hoth k fun e=>hS (e ▸ h1)) (hT _ (by decide)) (hT _ (by decide)) (hT _ (by decide)),?_⟩
 ·exact (oD (w:={ w1 with heap:=#[] }) hR (Nat.zero_le _) ⟨rfl,rfl,rfl,Nat.zero_le _,fun k hk=>absurd hk (Nat.not_lt_zero _)⟩ c n).1
 ·exact ⟨_,_,_,_,rfl,⟨_,_,_,rfl,mD _,Rd.nil _,Rd.nil _,aI,aI,aI,aI⟩,⟨rfl,rfl⟩,hc⟩
/- What EP of package spec does where it copies nothing. -/
theorem PL (ga k:Nat) (a:aF) (b:aA) (tt:List Int) (S:Nat→Prop) (kd uid mode fl si:Int) (x0 x1 x2:Option Addr) (n0 n1 n2 m0 m1 m2:Nat) (w:World) (hp:aS w S ga a) (hb:a.boxes[k]?=some b) (hto:Bs w (.slice x1 n1 m1) tt) (hbl:a.boxes.length≤2000000) (hsx:bT b≤2000000) (hf:bC (fun m:aC=>decide (m.uid=uid)) b.ah = -1∨∃ i:Nat,bC (fun m:aC=>decide (m.uid=uid)) b.ah=(i:Int)∧bC (fun x:aA=>decide (x.name=tt)) a.boxes = -1) :
  Calls Tryz.prog 92 #[.pointer (some ⟨ga,0,none⟩),.int .i64 k,.agg #[.int .i64 kd,.slice x0 n0 m0,.slice x1 n1 m1,.int .i64 uid,.int .i64 mode,.int .i64 fl,.int .i64 si,.slice x2 n2 m2]] w fun e w'=>∃ u,e=.returned u∧je w' u (aN 1 0)∧Below w.heap.size w w'∧aS w' S ga a:=by
 have HP:Hid (∀ w',Below w.heap.size w w'→aS w' S ga a):=fun w' h=>hp.below h
 have HN:Hid _:=hf
 clear hf
 have jT:Hid (∀ w',Below w.heap.size w w'→Bs w' (.slice x1 n1 m1) tt):=fun w' h=>hto.below h
 have iF:=hp.lt
 obtain ⟨g,cap,S1,cb,fE,hpb,hS1,-⟩:=hp.at hb
 obtain ⟨v9,u9,lM,jB,lN,hbq,nI⟩:=hp.cells
 have e9:v9=.slice (some ⟨g,0,none⟩) a.boxes.length cap:=Option.some.inj (jB.symm.trans cb)
 subst e9
 have kT:Hid (∀ w',Below w.heap.size w w'→iw w' (.agg #[.int .i64 a.valid,.slice (some ⟨g,0,none⟩) a.boxes.length cap,u9]) a):=fun w' h=>nI.below h
 have hkl:k < a.boxes.length:=(gs1 hb).1
 have bE:g < w.heap.size:=jS hpb.ty
 have hcap:a.boxes.length≤cap:=by obtain ⟨_,_,e,h,-⟩:=hbq.v.form;cases e;exact h
 obtain ⟨u0,u1,u2,h0,h1,h2,hint,c0,c1,c2,c3,c4,c5,c6⟩:=hpb.cells
 obtain ⟨a0,q0,z0,rfl⟩:=h0.bs.aG
 obtain ⟨a1,z1,rfl,-⟩:=h1.v.form
 obtain ⟨a2,z2,rfl,-⟩:=h2.1.form
 have HV:Hid (∀ w',Below w.heap.size w w'→bI w' (.agg #[.slice a0 q0 z0,.int .i64 b.valid,.int .i64 b.next,.int .i64 b.seq,.slice a1 b.ah.length z1,.slice a2 b.au.length z2,.int .i64 b.lost]) b):=fun w' h=>⟨_,_,_,rfl,h0.bs.below h,h1.v.below iG h,h2.1.below gU h,hint⟩
 obtain ⟨HB,bO,aQ,jf⟩:=uz w (.cells #[.int .i64 kd,.slice x0 n0 m0,.slice x1 n1 m1,.int .i64 uid,.int .i64 mode,.int .i64 fl,.int .i64 si,.slice x2 n2 m2] 28) (.cells #[.int .i64 0,.int .i64 0,.slice none 0 0,.int .i64 0,.int .i64 0,.int .i64 0,.slice none 0 0,.slice none 0 0,.int .i64 0,.slice none 0 0] 37)
 have HC:Hid (∀ W w',Below w.heap.size w W→W.heap[w.heap.size]?=some (.cells #[.int .i64 kd,.slice x0 n0 m0,.slice x1 n1 m1,.int .i64 uid,.int .i64 mode,.int .i64 fl,.int .i64 si,.slice x2 n2 m2] 28 (0,0))→Below W.heap.size W w'→w'.cell? ⟨g,k * 7,none⟩=some (.slice a0 q0 z0)∧w'.cell? ⟨g,k * 7+1,none⟩=some (.int .i64 b.valid)∧w'.cell? ⟨g,k * 7+2,none⟩=some (.int .i64 b.next)∧w'.cell? ⟨g,k * 7+3,none⟩=some (.int .i64 b.seq)∧w'.cell? ⟨g,k * 7+4,none⟩=some (.slice a1 b.ah.length z1)∧w'.cell? ⟨g,k * 7+5,none⟩=some (.slice a2 b.au.length z2)∧w'.cell? ⟨g,k * 7+6,none⟩=some (.int .i64 b.lost)∧w'.cell? ⟨ga,0,none⟩=some (.int .i64 a.valid)∧w'.cell? ⟨ga,1,none⟩=some (.slice (some ⟨g,0,none⟩) a.boxes.length cap)∧w'.cell? ⟨ga,2,none⟩=some (u9)∧w'.cell? ⟨w.heap.size,2,none⟩=some (.slice x1 n1 m1)∧w'.cell? ⟨w.heap.size,3,none⟩=some (.int .i64 uid)∧w'.cell? ⟨w.heap.size,4,none⟩=some (.int .i64 mode)):=by
  intro W w' hb hc hw
  have h:=fun j=>hb.cell (p:=⟨g,j,none⟩) bE
  have h':=fun j=>hw.cell (p:=⟨g,j,none⟩) (Nat.lt_of_lt_of_le bE hb.size)
  have i:=fun j=>hb.cell (p:=⟨ga,j,none⟩) iF
  have i':=fun j=>hw.cell (p:=⟨ga,j,none⟩) (Nat.lt_of_lt_of_le iF hb.size)
  have hk:=aB hw hc
  have hq:=fun j=>cell_of_row w' w.heap.size j _ _ (0,0) hk
  exact ⟨(h' _).trans ((h _).trans c0),(h' _).trans ((h _).trans c1),(h' _).trans ((h _).trans c2),(h' _).trans ((h _).trans c3),(h' _).trans ((h _).trans c4),(h' _).trans ((h _).trans c5),(h' _).trans ((h _).trans c6),(i' _).trans ((i _).trans lM),(i' _).trans ((i _).trans jB),(i' _).trans ((i _).trans lN),hq 2,hq 3,hq 4⟩
 have hki:(k:Int) < (a.boxes.length:Int):=by omega
 clear h0 h1 h2 hp hpb hbq nI hto c0 c1 c2 c3 c4 c5 c6 lM jB lN cb hint
 go_enter Tryz.func92,Tryz.ntmps92
 go_upto_region 1 with fail
 generalize ((w.alloc (.cells #[.int .i64 kd,.slice x0 n0 m0,.slice x1 n1 m1,.int .i64 uid,.int .i64 mode,.int .i64 fl,.int .i64 si,.slice x2 n2 m2] 28)).alloc (.cells #[.int .i64 0,.int .i64 0,.slice none 0 0,.int .i64 0,.int .i64 0,.int .i64 0,.slice none 0 0,.slice none 0 0,.int .i64 0,.slice none 0 0] 37))=W at HB bO aQ jf ⊢
 have HS:Hid (∀ w',Below W.heap.size W w'→w'.cell? ⟨g,k * 7,none⟩=some (.slice a0 q0 z0)∧w'.cell? ⟨g,k * 7+1,none⟩=some (.int .i64 b.valid)∧w'.cell? ⟨g,k * 7+2,none⟩=some (.int .i64 b.next)∧w'.cell? ⟨g,k * 7+3,none⟩=some (.int .i64 b.seq)∧w'.cell? ⟨g,k * 7+4,none⟩=some (.slice a1 b.ah.length z1)∧w'.cell? ⟨g,k * 7+5,none⟩=some (.slice a2 b.au.length z2)∧w'.cell? ⟨g,k * 7+6,none⟩=some (.int .i64 b.lost)∧w'.cell? ⟨ga,0,none⟩=some (.int .i64 a.valid)∧w'.cell? ⟨ga,1,none⟩=some (.slice (some ⟨g,0,none⟩) a.boxes.length cap)∧w'.cell? ⟨ga,2,none⟩=some (u9)∧w'.cell? ⟨w.heap.size,2,none⟩=some (.slice x1 n1 m1)∧w'.cell? ⟨w.heap.size,3,none⟩=some (.int .i64 uid)∧w'.cell? ⟨w.heap.size,4,none⟩=some (.int .i64 mode)):=fun w' h=>HC.out W w' HB.out bO.out h
 obtain ⟨-,-,-,-,-,-,-,s0,s1,s2,-⟩:=HS.out W (Below.refl _ _)
 have hl0:ga < W.heap.size:=by omega
 go_upto_region 2 with fail
 clear s0 s1 s2
 have DR:Below W.heap.size W W.drew:=(bd _ _)
 have hl1:w.heap.size < W.drew.heap.size:=by show _ < W.heap.size;omega
 have hl2:g < W.drew.heap.size:=by show _ < W.heap.size;omega
 have dY:Hid _:=HV.out W.drew (Below.step HB.out DR)
 go_region_held3 (fun w'=>w'.cell? ⟨g,k * 7,none⟩=some (.slice a0 q0 z0)∧w'.cell? ⟨g,k * 7+1,none⟩=some (.int .i64 b.valid)∧w'.cell? ⟨g,k * 7+2,none⟩=some (.int .i64 b.next)∧w'.cell? ⟨g,k * 7+3,none⟩=some (.int .i64 b.seq)∧w'.cell? ⟨g,k * 7+4,none⟩=some (.slice a1 b.ah.length z1)∧w'.cell? ⟨g,k * 7+5,none⟩=some (.slice a2 b.au.length z2)∧w'.cell? ⟨g,k * 7+6,none⟩=some (.int .i64 b.lost)∧w'.cell? ⟨ga,0,none⟩=some (.int .i64 a.valid)∧w'.cell? ⟨ga,1,none⟩=some (.slice (some ⟨g,0,none⟩) a.boxes.length cap)∧w'.cell? ⟨ga,2,none⟩=some (u9)∧w'.cell? ⟨w.heap.size,2,none⟩=some (.slice x1 n1 m1)∧w'.cell? ⟨w.heap.size,3,none⟩=some (.int .i64 uid)∧w'.cell? ⟨w.heap.size,4,none⟩=some (.int .i64 mode))
  (first | exact HS.out _ DR | exact HS.out _ (Below.step DR B1) | go_keep)
  ((go_at_call 51;refine (rH _ b uid _ dY.out).mono ?_;rintro e w1 ⟨rfl,B1⟩))
 have HB1:Hid (Below W.heap.size W w1):=Below.step DR B1
 have hw1:W.heap.size≤w1.heap.size:=HB1.out.size
 clear B1 dY DR hl1 hl2
 go_upto_region 3 with fail
 have DR:Below W.heap.size W w1.drew:=HB1.out.drew
 have hl1:w.heap.size < w1.drew.heap.size:=by show _ < w1.heap.size;omega
 have hl2:g < w1.drew.heap.size:=by show _ < w1.heap.size;omega
 have hl3:ga < w1.drew.heap.size:=by show _ < w1.heap.size;omega
 have dY:Hid _:=kT.out w1.drew (Below.step HB.out DR)
 have mH:Hid _:=jT.out w1.drew (Below.step HB.out DR)
 go_region_held3 (fun w'=>w'.cell? ⟨g,k * 7,none⟩=some (.slice a0 q0 z0)∧w'.cell? ⟨g,k * 7+1,none⟩=some (.int .i64 b.valid)∧w'.cell? ⟨g,k * 7+2,none⟩=some (.int .i64 b.next)∧w'.cell? ⟨g,k * 7+3,none⟩=some (.int .i64 b.seq)∧w'.cell? ⟨g,k * 7+4,none⟩=some (.slice a1 b.ah.length z1)∧w'.cell? ⟨g,k * 7+5,none⟩=some (.slice a2 b.au.length z2)∧w'.cell? ⟨g,k * 7+6,none⟩=some (.int .i64 b.lost)∧w'.cell? ⟨ga,0,none⟩=some (.int .i64 a.valid)∧w'.cell? ⟨ga,1,none⟩=some (.slice (some ⟨g,0,none⟩) a.boxes.length cap)∧w'.cell? ⟨ga,2,none⟩=some (u9)∧w'.cell? ⟨w.heap.size,2,none⟩=some (.slice x1 n1 m1)∧w'.cell? ⟨w.heap.size,3,none⟩=some (.int .i64 uid)∧w'.cell? ⟨w.heap.size,4,none⟩=some (.int .i64 mode))
  (first | exact HS.out _ DR | exact HS.out _ (Below.step DR B2) | go_keep)
  ((go_at_call 87;refine (uj _ _ a tt _ dY.out mH.out hbl).mono ?_;rintro e w2 ⟨rfl,B2⟩))
 have HB2:Hid (Below W.heap.size W w2):=Below.step DR B2
 have cB:Hid _:=aB HB2.out aQ.out
 have hw2:W.heap.size≤w2.heap.size:=HB2.out.size
 clear B2 dY mH DR hl1 hl2 hl3 HB1 hw1
 have zC:bC (fun m:aC=>decide (m.uid=uid)) b.ah = -1∨(0≤bC (fun m:aC=>decide (m.uid=uid)) b.ah∧bC (fun x:aA=>decide (x.name=tt)) a.boxes = -1):=by
  rcases HN.out with h | ⟨i,h,h2⟩
  ·exact .inl h
  ·exact .inr ⟨by omega,h2⟩
 clear HN
 generalize bC (fun m:aC=>decide (m.uid=uid)) b.ah=fm at *
 generalize bC (fun x:aA=>decide (x.name=tt)) a.boxes=fb at *
 rcases zC with hf | ⟨hi0,hf2⟩
 all_goals
  obtain ⟨r0,r1,r2,r3,r4,r5,r6,r7,r8,r9⟩:=aO cB.out
  have fz:∀ i,w2.frozen? ⟨w.heap.size+1,i,none⟩=false:=fun i=>frozen_of_row w2 _ i _ _ cB.out
  have hlr:w.heap.size+1 < w2.heap.size:=by omega
  clear HS bO HC HV aQ kT jT
  have HF:Hid _:=oD (w:=w) cB.out (by omega) (Below.step HB.out HB2.out) 1 0
  go_wp2
  have ff:=aO HF.out.1
  refine bodyPost_ret (v:=.agg #[.int .i64 1,.int .i64 0,.slice none 0 0,.int .i64 0,.int .i64 0,.int .i64 0,.slice none 0 0,.slice none 0 0,.int .i64 0,.slice none 0 0]) (by simp [results,Tryz.results92,go_sem,ff]) rfl ⟨_,rfl,?_,HF.out.2,HP.out _ HF.out.2⟩
  exact ⟨_,_,_,_,rfl,⟨_,_,_,rfl,mD _,Rd.nil _,Rd.nil _,aI,aI,aI,aI⟩,⟨rfl,rfl⟩,⟨by decide,by decide⟩,aI⟩
/- What EP of package spec does where the box is full. -/
theorem BD (ga k:Nat) (a:aF) (b:aA) (tt:List Int) (S:Nat→Prop) (kd uid mode fl si:Int) (x0 x1 x2:Option Addr) (n0 n1 n2 m0 m1 m2:Nat) (w:World) (hp:aS w S ga a) (hb:a.boxes[k]?=some b) (hto:Bs w (.slice x1 n1 m1) tt) (hbl:a.boxes.length≤2000000) (hsx:bT b≤2000000) (i t:Nat) (bt:aA) (hf:bC (fun m:aC=>decide (m.uid=uid)) b.ah=(i:Int)) (hf2:bC (fun x:aA=>decide (x.name=tt)) a.boxes=(t:Int)) (hbt:a.boxes[t]?=some bt) (lQ:bT bt≤2000000) (BF:(mode≠1∧dh bt 1=false)∨(mode=1∧t=k∧dh bt 0=false)∨(mode=1∧t≠k∧dh bt 1=false)∨(mode=1∧t=k∧dh bt 0=true∧999999≤b.seq)∨(mode=1∧t≠k∧dh bt 1=true∧999999≤b.seq))  :
  Calls Tryz.prog 92 #[.pointer (some ⟨ga,0,none⟩),.int .i64 k,.agg #[.int .i64 kd,.slice x0 n0 m0,.slice x1 n1 m1,.int .i64 uid,.int .i64 mode,.int .i64 fl,.int .i64 si,.slice x2 n2 m2]] w fun e w'=>∃ u,e=.returned u∧je w' u (aN 3 0)∧Below w.heap.size w w'∧aS w' S ga a:=by
 have HW:Hid _:=BF
 clear BF
 have HP:Hid (∀ w',Below w.heap.size w w'→aS w' S ga a):=fun w' h=>hp.below h
 have jT:Hid (∀ w',Below w.heap.size w w'→Bs w' (.slice x1 n1 m1) tt):=fun w' h=>hto.below h
 have iF:=hp.lt
 obtain ⟨g,cap,S1,cb,fE,hpb,hS1,-⟩:=hp.at hb
 obtain ⟨v9,u9,lM,jB,lN,hbq,nI⟩:=hp.cells
 have e9:v9=.slice (some ⟨g,0,none⟩) a.boxes.length cap:=Option.some.inj (jB.symm.trans cb)
 subst e9
 have kT:Hid (∀ w',Below w.heap.size w w'→iw w' (.agg #[.int .i64 a.valid,.slice (some ⟨g,0,none⟩) a.boxes.length cap,u9]) a):=fun w' h=>nI.below h
 have hkl:k < a.boxes.length:=(gs1 hb).1
 have bE:g < w.heap.size:=jS hpb.ty
 have hcap:a.boxes.length≤cap:=by obtain ⟨_,_,e,h,-⟩:=hbq.v.form;cases e;exact h
 obtain ⟨u0,u1,u2,h0,h1,h2,hint,c0,c1,c2,c3,c4,c5,c6⟩:=hpb.cells
 obtain ⟨a0,q0,z0,rfl⟩:=h0.bs.aG
 obtain ⟨a1,z1,rfl,-⟩:=h1.v.form
 obtain ⟨a2,z2,rfl,-⟩:=h2.1.form
 have HV:Hid (∀ w',Below w.heap.size w w'→bI w' (.agg #[.slice a0 q0 z0,.int .i64 b.valid,.int .i64 b.next,.int .i64 b.seq,.slice a1 b.ah.length z1,.slice a2 b.au.length z2,.int .i64 b.lost]) b):=fun w' h=>⟨_,_,_,rfl,h0.bs.below h,h1.v.below iG h,h2.1.below gU h,hint⟩
 obtain ⟨HB,bO,aQ,jf⟩:=uz w (.cells #[.int .i64 kd,.slice x0 n0 m0,.slice x1 n1 m1,.int .i64 uid,.int .i64 mode,.int .i64 fl,.int .i64 si,.slice x2 n2 m2] 28) (.cells #[.int .i64 0,.int .i64 0,.slice none 0 0,.int .i64 0,.int .i64 0,.int .i64 0,.slice none 0 0,.slice none 0 0,.int .i64 0,.slice none 0 0] 37)
 have HC:Hid (∀ W w',Below w.heap.size w W→W.heap[w.heap.size]?=some (.cells #[.int .i64 kd,.slice x0 n0 m0,.slice x1 n1 m1,.int .i64 uid,.int .i64 mode,.int .i64 fl,.int .i64 si,.slice x2 n2 m2] 28 (0,0))→Below W.heap.size W w'→w'.cell? ⟨g,k * 7,none⟩=some (.slice a0 q0 z0)∧w'.cell? ⟨g,k * 7+1,none⟩=some (.int .i64 b.valid)∧w'.cell? ⟨g,k * 7+2,none⟩=some (.int .i64 b.next)∧w'.cell? ⟨g,k * 7+3,none⟩=some (.int .i64 b.seq)∧w'.cell? ⟨g,k * 7+4,none⟩=some (.slice a1 b.ah.length z1)∧w'.cell? ⟨g,k * 7+5,none⟩=some (.slice a2 b.au.length z2)∧w'.cell? ⟨g,k * 7+6,none⟩=some (.int .i64 b.lost)∧w'.cell? ⟨ga,0,none⟩=some (.int .i64 a.valid)∧w'.cell? ⟨ga,1,none⟩=some (.slice (some ⟨g,0,none⟩) a.boxes.length cap)∧w'.cell? ⟨ga,2,none⟩=some (u9)∧w'.cell? ⟨w.heap.size,2,none⟩=some (.slice x1 n1 m1)∧w'.cell? ⟨w.heap.size,3,none⟩=some (.int .i64 uid)∧w'.cell? ⟨w.heap.size,4,none⟩=some (.int .i64 mode)):=by
  intro W w' hb hc hw
  have h:=fun j=>hb.cell (p:=⟨g,j,none⟩) bE
  have h':=fun j=>hw.cell (p:=⟨g,j,none⟩) (Nat.lt_of_lt_of_le bE hb.size)
  have i:=fun j=>hb.cell (p:=⟨ga,j,none⟩) iF
  have i':=fun j=>hw.cell (p:=⟨ga,j,none⟩) (Nat.lt_of_lt_of_le iF hb.size)
  have hk:=aB hw hc
  have hq:=fun j=>cell_of_row w' w.heap.size j _ _ (0,0) hk
  exact ⟨(h' _).trans ((h _).trans c0),(h' _).trans ((h _).trans c1),(h' _).trans ((h _).trans c2),(h' _).trans ((h _).trans c3),(h' _).trans ((h _).trans c4),(h' _).trans ((h _).trans c5),(h' _).trans ((h _).trans c6),(i' _).trans ((i _).trans lM),(i' _).trans ((i _).trans jB),(i' _).trans ((i _).trans lN),hq 2,hq 3,hq 4⟩
 have hki:(k:Int) < (a.boxes.length:Int):=by omega
 clear h0 h1 h2 hp hpb hbq nI hto c0 c1 c2 c3 c4 c5 c6 lM jB lN cb hint
 go_enter Tryz.func92,Tryz.ntmps92
 go_upto_region 1 with fail
 generalize ((w.alloc (.cells #[.int .i64 kd,.slice x0 n0 m0,.slice x1 n1 m1,.int .i64 uid,.int .i64 mode,.int .i64 fl,.int .i64 si,.slice x2 n2 m2] 28)).alloc (.cells #[.int .i64 0,.int .i64 0,.slice none 0 0,.int .i64 0,.int .i64 0,.int .i64 0,.slice none 0 0,.slice none 0 0,.int .i64 0,.slice none 0 0] 37))=W at HB bO aQ jf ⊢
 have HS:Hid (∀ w',Below W.heap.size W w'→w'.cell? ⟨g,k * 7,none⟩=some (.slice a0 q0 z0)∧w'.cell? ⟨g,k * 7+1,none⟩=some (.int .i64 b.valid)∧w'.cell? ⟨g,k * 7+2,none⟩=some (.int .i64 b.next)∧w'.cell? ⟨g,k * 7+3,none⟩=some (.int .i64 b.seq)∧w'.cell? ⟨g,k * 7+4,none⟩=some (.slice a1 b.ah.length z1)∧w'.cell? ⟨g,k * 7+5,none⟩=some (.slice a2 b.au.length z2)∧w'.cell? ⟨g,k * 7+6,none⟩=some (.int .i64 b.lost)∧w'.cell? ⟨ga,0,none⟩=some (.int .i64 a.valid)∧w'.cell? ⟨ga,1,none⟩=some (.slice (some ⟨g,0,none⟩) a.boxes.length cap)∧w'.cell? ⟨ga,2,none⟩=some (u9)∧w'.cell? ⟨w.heap.size,2,none⟩=some (.slice x1 n1 m1)∧w'.cell? ⟨w.heap.size,3,none⟩=some (.int .i64 uid)∧w'.cell? ⟨w.heap.size,4,none⟩=some (.int .i64 mode)):=fun w' h=>HC.out W w' HB.out bO.out h
 obtain ⟨-,-,-,-,-,-,-,s0,s1,s2,-⟩:=HS.out W (Below.refl _ _)
 have hl0:ga < W.heap.size:=by omega
 go_upto_region 2 with fail
 clear s0 s1 s2
 have DR:Below W.heap.size W W.drew:=(bd _ _)
 have hl1:w.heap.size < W.drew.heap.size:=by show _ < W.heap.size;omega
 have hl2:g < W.drew.heap.size:=by show _ < W.heap.size;omega
 have dY:Hid _:=HV.out W.drew (Below.step HB.out DR)
 go_region_held3 (fun w'=>w'.cell? ⟨g,k * 7,none⟩=some (.slice a0 q0 z0)∧w'.cell? ⟨g,k * 7+1,none⟩=some (.int .i64 b.valid)∧w'.cell? ⟨g,k * 7+2,none⟩=some (.int .i64 b.next)∧w'.cell? ⟨g,k * 7+3,none⟩=some (.int .i64 b.seq)∧w'.cell? ⟨g,k * 7+4,none⟩=some (.slice a1 b.ah.length z1)∧w'.cell? ⟨g,k * 7+5,none⟩=some (.slice a2 b.au.length z2)∧w'.cell? ⟨g,k * 7+6,none⟩=some (.int .i64 b.lost)∧w'.cell? ⟨ga,0,none⟩=some (.int .i64 a.valid)∧w'.cell? ⟨ga,1,none⟩=some (.slice (some ⟨g,0,none⟩) a.boxes.length cap)∧w'.cell? ⟨ga,2,none⟩=some (u9)∧w'.cell? ⟨w.heap.size,2,none⟩=some (.slice x1 n1 m1)∧w'.cell? ⟨w.heap.size,3,none⟩=some (.int .i64 uid)∧w'.cell? ⟨w.heap.size,4,none⟩=some (.int .i64 mode))
  (first | exact HS.out _ DR | exact HS.out _ (Below.step DR B1) | go_keep)
  ((go_at_call 51;refine (rH _ b uid _ dY.out).mono ?_;rintro e w1 ⟨rfl,B1⟩))
 have HB1:Hid (Below W.heap.size W w1):=Below.step DR B1
 have hw1:W.heap.size≤w1.heap.size:=HB1.out.size
 clear B1 dY DR hl1 hl2
 go_upto_region 3 with fail
 have DR:Below W.heap.size W w1.drew:=HB1.out.drew
 have hl1:w.heap.size < w1.drew.heap.size:=by show _ < w1.heap.size;omega
 have hl2:g < w1.drew.heap.size:=by show _ < w1.heap.size;omega
 have hl3:ga < w1.drew.heap.size:=by show _ < w1.heap.size;omega
 have dY:Hid _:=kT.out w1.drew (Below.step HB.out DR)
 have mH:Hid _:=jT.out w1.drew (Below.step HB.out DR)
 go_region_held3 (fun w'=>w'.cell? ⟨g,k * 7,none⟩=some (.slice a0 q0 z0)∧w'.cell? ⟨g,k * 7+1,none⟩=some (.int .i64 b.valid)∧w'.cell? ⟨g,k * 7+2,none⟩=some (.int .i64 b.next)∧w'.cell? ⟨g,k * 7+3,none⟩=some (.int .i64 b.seq)∧w'.cell? ⟨g,k * 7+4,none⟩=some (.slice a1 b.ah.length z1)∧w'.cell? ⟨g,k * 7+5,none⟩=some (.slice a2 b.au.length z2)∧w'.cell? ⟨g,k * 7+6,none⟩=some (.int .i64 b.lost)∧w'.cell? ⟨ga,0,none⟩=some (.int .i64 a.valid)∧w'.cell? ⟨ga,1,none⟩=some (.slice (some ⟨g,0,none⟩) a.boxes.length cap)∧w'.cell? ⟨ga,2,none⟩=some (u9)∧w'.cell? ⟨w.heap.size,2,none⟩=some (.slice x1 n1 m1)∧w'.cell? ⟨w.heap.size,3,none⟩=some (.int .i64 uid)∧w'.cell? ⟨w.heap.size,4,none⟩=some (.int .i64 mode))
  (first | exact HS.out _ DR | exact HS.out _ (Below.step DR B2) | go_keep)
  ((go_at_call 87;refine (uj _ _ a tt _ dY.out mH.out hbl).mono ?_;rintro e w2 ⟨rfl,B2⟩))
 have HB2:Hid (Below W.heap.size W w2):=Below.step DR B2
 have cB:Hid _:=aB HB2.out aQ.out
 have hw2:W.heap.size≤w2.heap.size:=HB2.out.size
 clear B2 dY mH DR hl1 hl2 hl3 HB1 hw1
 obtain ⟨-,-,-,s3,-,-,-,s7,s8,-,-,-,s12⟩:=HS.out w2 HB2.out
 obtain ⟨g',cap',S2,cb',-,hpt,-,-⟩:=(HP.out w2 (Below.step HB.out HB2.out)).at hbt
 have e9:=Option.some.inj (cb'.symm.trans s8)
 simp only [Value.slice.injEq,Option.some.injEq,Addr.mk.injEq,and_true,true_and] at e9
 obtain ⟨rfl,rfl⟩:=e9
 obtain ⟨y0',y1',y2',g0,g1,g2,vN,t0,t1,t2,t3,t4,t5,t6⟩:=hpt.cells
 obtain ⟨y0,p0,k0,rfl⟩:=g0.bs.aG
 obtain ⟨y1,k1,rfl,-⟩:=g1.v.form
 obtain ⟨y2,k2,rfl,-⟩:=g2.1.form
 have sH:Hid (bI w2 (.agg #[.slice y0 p0 k0,.int .i64 bt.valid,.int .i64 bt.next,.int .i64 bt.seq,.slice y1 bt.ah.length k1,.slice y2 bt.au.length k2,.int .i64 bt.lost]) bt):=⟨_,_,_,rfl,g0.bs,g1.v,g2.1,vN⟩
 have htl:t < a.boxes.length:=(gs1 hbt).1
 have hti:(t:Int) < (a.boxes.length:Int):=by omega
 have hl1:w.heap.size < w2.heap.size:=by omega
 have hl2:g' < w2.heap.size:=jS hpt.ty
 have hl3:ga < w2.heap.size:=by omega
 clear g0 g1 g2 vN hpt cb'
 have hw:=HW.out
 clear HW
 rcases hw with ⟨hm,hroom⟩ | ⟨hm,htk,hroom⟩ | ⟨hm,htk,hroom⟩ | ⟨hm,htk,hroom,qL⟩ | ⟨hm,htk,hroom,qL⟩
 all_goals try (have hm1:(mode == 1)=false:=by simp [hm])
 all_goals try subst hm
 all_goals try subst htk
 all_goals try (have PN:((t:Int) == (k:Int))=false:=by simp;omega)
 all_goals (
  go_wp2_with fail
  first | (have tt:=(show dh bt 1=_ from hroom);clear tt;refine (zn _ bt 1 w2 sH.out (by decide) (by decide) (by have:=lF bt.ah;unfold bT at lQ;omega)).mono ?_) | refine (zn _ bt 0 w2 sH.out (by decide) (by decide) (by have:=lF bt.ah;unfold bT at lQ;omega)).mono ?_
  rintro e w3 ⟨rfl,B3⟩
  have HB3:Hid (Below W.heap.size W w3):=Below.step HB2.out B3
  have cK:Hid _:=aB B3 cB.out
  have hw3:W.heap.size≤w3.heap.size:=HB3.out.size
  have hl4:g' < w3.heap.size:=by have:=B3.size;omega
  clear B3 s3 s7 s8 s12 t0 t1 t2 t3 t4 t5 t6 sH
  obtain ⟨-,-,-,s3,-⟩:=HS.out w3 HB3.out
  rw [hroom]
  obtain ⟨r0,r1,r2,r3,r4,r5,r6,r7,r8,r9⟩:=aO cK.out
  have fz:∀ i,w3.frozen? ⟨w.heap.size+1,i,none⟩=false:=fun i=>frozen_of_row w3 _ i _ _ cK.out
  have hlr:w.heap.size+1 < w3.heap.size:=by omega
  clear HS bO HC HV aQ kT jT
  have HF:Hid _:=oD (w:=w) cK.out (by omega) (Below.step HB.out HB3.out) 3 0
  go_wp2
  have ff:=aO HF.out.1
  refine bodyPost_ret (v:=.agg #[.int .i64 3,.int .i64 0,.slice none 0 0,.int .i64 0,.int .i64 0,.int .i64 0,.slice none 0 0,.slice none 0 0,.int .i64 0,.slice none 0 0]) (by simp [results,Tryz.results92,go_sem,ff]) rfl ⟨_,rfl,?_,HF.out.2,HP.out _ HF.out.2⟩
  exact ⟨_,_,_,_,rfl,⟨_,_,_,rfl,mD _,Rd.nil _,Rd.nil _,aI,aI,aI,aI⟩,⟨rfl,rfl⟩,⟨by decide,by decide⟩,aI⟩)
/- Small laws for XP. -/
theorem aK.cut {w:World} {S:Nat→Prop} {g o:Nat} {b:aA} (h:aK w S g o b):aK w (fun k=>S k∧k < w.heap.size) g o b:=by
 obtain ⟨cur,c,hh,⟨u0,u1,u2,e,h1,h2,h3,r⟩,hc⟩:=h
 refine ⟨cur,c,hh,⟨u0,u1,u2,e,h1,?_,EG h3,r⟩,hc⟩
 rcases h2 with h | ⟨m,cap,cu,cs,fs,hv,hm,k1,k2,k3,k4,k5,k6,k7⟩
 ·exact .inl h
 ·exact .inr ⟨m,cap,cu,cs,fun _ _=>False,hv,hm,k1,k2,k3,⟨k4,lt_of_heap hm⟩,k5,by simp,by simp⟩
/-- How many ah a box behind a pointer holds. -/
def BH (w:World) (g o:Nat):Nat:=match w.cell? ⟨g,o+4,none⟩ with | some (.slice _ n _)=>n | _=>0
theorem aK.PO {w:World} {S:Nat→Prop} {g o:Nat} {b:aA} (h:aK w S g o b):BH w g o=b.ah.length:=by
 obtain ⟨u0,u1,u2,h0,h1,h2,hi,c0,c1,c2,c3,c4,c5,c6⟩:=h.cells
 obtain ⟨a,c,rfl,-⟩:=h1.v.form
 unfold BH
 rw [c4]
theorem PS {l:List aC} {k:Nat} {m:aC} (h:l[k]?=some m):(l.take (k+1)).countP fD=(l.take k).countP fD+if fD m then 1 else 0:=by
 obtain ⟨hk,rfl⟩:=gs1 h
 rw [List.take_succ_eq_append_getElem hk,List.countP_append]
 simp [List.countP_cons]
theorem XQ {b:aA} {i:Nat} {m:aC} (h:b.ah[i]?=some m):(aV b i).ah.length+1=b.ah.length∧(aV b i).au.length≤b.au.length+1:=by
 have hi:=(gs1 h).1
 unfold aV
 rw [h]
 refine ⟨by simp;omega,?_⟩
 have:=Xt (b.au ++ [⟨m.uid,b.seq⟩]) b.lost
 simpa using this
/-- A reply that is laid above all that was there; what turned ahead of it. -/
theorem ER {w w1:World} {S:Nat→Prop} {g o r:Nat} {d0 d1 d2 d3 d4 d5 d6 d7 d8 d9:Value} (hR:w1.heap[r]?=some (.cells #[d0,d1,d2,d3,d4,d5,d6,d7,d8,d9] 37 (0,0))) (hr:w.heap.size≤r) (ht:Turns w w1 S g o) (b:aA) (S':Nat→Prop) (hp:aK w1 S' g o b) (hg:g < w.heap.size) (hS:¬ S' r) (c n:Int) (hc:ay c∧ay n) :
  let w2:=((((((((((w1.setCell ⟨r,0,none⟩ (.int .i64 c)).setCell ⟨r,1,none⟩ (.int .i64 n)).setCell ⟨r,2,none⟩ (.slice none 0 0)).setCell ⟨r,3,none⟩ (.int .i64 0)).setCell ⟨r,4,none⟩ (.int .i64 0)).setCell ⟨r,5,none⟩ (.int .i64 0)).setCell ⟨r,6,none⟩ (.slice none 0 0)).setCell ⟨r,7,none⟩ (.slice none 0 0)).setCell ⟨r,8,none⟩ (.int .i64 0)).setCell ⟨r,9,none⟩ (.slice none 0 0))
  w2.heap[r]?=some (.cells #[.int .i64 c,.int .i64 n,.slice none 0 0,.int .i64 0,.int .i64 0,.int .i64 0,.slice none 0 0,.slice none 0 0,.int .i64 0,.slice none 0 0] 37 (0,0))∧Turns w w2 S g o∧aK w2 S' g o b∧je w2 (.agg #[.int .i64 c,.int .i64 n,.slice none 0 0,.int .i64 0,.int .i64 0,.int .i64 0,.slice none 0 0,.slice none 0 0,.int .i64 0,.slice none 0 0]) (aN c n):=by
 intro w2
 have hoth:∀ k,k≠r→w2.heap[k]?=w1.heap[k]?:=fun k hk=>by
  show ((((((((((w1.setCell ⟨r,0,none⟩ (.int .i64 c)).setCell ⟨r,1,none⟩ (.int .i64 n)).setCell ⟨r,2,none⟩ (.slice none 0 0)).setCell ⟨r,3,none⟩ (.int .i64 0)).setCell ⟨r,4,none⟩ (.int .i64 0)).setCell ⟨r,5,none⟩ (.int .i64 0)).setCell ⟨r,6,none⟩ (.slice none 0 0)).setCell ⟨r,7,none⟩ (.slice none 0 0)).setCell ⟨r,8,none⟩ (.int .i64 0)).setCell ⟨r,9,none⟩ (.slice none 0 0)).heap[k]?=_
  rw [Below.heap_setCell _ _ _ _ (show k≠r from hk),Below.heap_setCell _ _ _ _ (show k≠r from hk),Below.heap_setCell _ _ _ _ (show k≠r from hk),Below.heap_setCell _ _ _ _ (show k≠r from hk),Below.heap_setCell _ _ _ _ (show k≠r from hk),Below.heap_setCell _ _ _ _ (show k≠r from hk),Below.heap_setCell _ _ _ _ (show k≠r from hk),Below.heap_setCell _ _ _ _ (show k≠r from hk),Below.heap_setCell _ _ _ _ (show k≠r from hk),Below.heap_setCell _ _ _ _ (show k≠r from hk)]
 have hsz:w2.heap.size=w1.heap.size:=by show ((((((((((w1.setCell ⟨r,0,none⟩ (.int .i64 c)).setCell ⟨r,1,none⟩ (.int .i64 n)).setCell ⟨r,2,none⟩ (.slice none 0 0)).setCell ⟨r,3,none⟩ (.int .i64 0)).setCell ⟨r,4,none⟩ (.int .i64 0)).setCell ⟨r,5,none⟩ (.int .i64 0)).setCell ⟨r,6,none⟩ (.slice none 0 0)).setCell ⟨r,7,none⟩ (.slice none 0 0)).setCell ⟨r,8,none⟩ (.int .i64 0)).setCell ⟨r,9,none⟩ (.slice none 0 0)).heap.size=_;simp only [bf]
 have hos:w2.os=w1.os:=by show ((((((((((w1.setCell ⟨r,0,none⟩ (.int .i64 c)).setCell ⟨r,1,none⟩ (.int .i64 n)).setCell ⟨r,2,none⟩ (.slice none 0 0)).setCell ⟨r,3,none⟩ (.int .i64 0)).setCell ⟨r,4,none⟩ (.int .i64 0)).setCell ⟨r,5,none⟩ (.int .i64 0)).setCell ⟨r,6,none⟩ (.slice none 0 0)).setCell ⟨r,7,none⟩ (.slice none 0 0)).setCell ⟨r,8,none⟩ (.int .i64 0)).setCell ⟨r,9,none⟩ (.slice none 0 0)).os=_;simp only [Aj]
 have Bw:w2.tape=w1.tape:=by show ((((((((((w1.setCell ⟨r,0,none⟩ (.int .i64 c)).setCell ⟨r,1,none⟩ (.int .i64 n)).setCell ⟨r,2,none⟩ (.slice none 0 0)).setCell ⟨r,3,none⟩ (.int .i64 0)).setCell ⟨r,4,none⟩ (.int .i64 0)).setCell ⟨r,5,none⟩ (.int .i64 0)).setCell ⟨r,6,none⟩ (.slice none 0 0)).setCell ⟨r,7,none⟩ (.slice none 0 0)).setCell ⟨r,8,none⟩ (.int .i64 0)).setCell ⟨r,9,none⟩ (.slice none 0 0)).tape=_;simp only [Ak]
 have BA:w2.output=w1.output:=by show ((((((((((w1.setCell ⟨r,0,none⟩ (.int .i64 c)).setCell ⟨r,1,none⟩ (.int .i64 n)).setCell ⟨r,2,none⟩ (.slice none 0 0)).setCell ⟨r,3,none⟩ (.int .i64 0)).setCell ⟨r,4,none⟩ (.int .i64 0)).setCell ⟨r,5,none⟩ (.int .i64 0)).setCell ⟨r,6,none⟩ (.slice none 0 0)).setCell ⟨r,7,none⟩ (.slice none 0 0)).setCell ⟨r,8,none⟩ (.int .i64 0)).setCell ⟨r,9,none⟩ (.slice none 0 0)).output=_;simp only [Al]
 have hT:∀ t,t≠37→bD w1 w2 t:=fun t hne k hk=>hoth k fun e=>by obtain ⟨cs,fz,hh⟩:=hk;rw [e,hR] at hh;cases hh;exact hne rfl
 have hrg:g≠r:=by omega
 refine ⟨?_,⟨by rw [hsz];exact ht.1,fun k h1 h2 h3=>(hoth k (by omega)).trans (ht.2.1 k h1 h2 h3),ht.2.2.1.trans (hT _ (by decide)),ht.2.2.2.1.trans (hT _ (by decide)),fun cur hc=>?_,hos.trans ht.2.2.2.2.2.1,Bw.trans ht.2.2.2.2.2.2.1,BA.trans ht.2.2.2.2.2.2.2⟩,hp.pU (hoth g hrg) (fun k h1 h2=>hoth k fun e=>hS (e ▸ h1)) (hT _ (by decide)) (hT _ (by decide)),?_⟩
 ·exact (oD (w:={ w1 with heap:=#[] }) hR (Nat.zero_le _) ⟨rfl,rfl,rfl,Nat.zero_le _,fun k hk=>absurd hk (Nat.not_lt_zero _)⟩ c n).1
 ·obtain ⟨cur',h1,h2⟩:=ht.2.2.2.2.1 cur hc
  exact ⟨cur',(hoth g hrg).trans h1,h2⟩
 ·exact ⟨_,_,_,_,rfl,⟨_,_,_,rfl,mD _,Rd.nil _,Rd.nil _,aI,aI,aI,aI⟩,⟨rfl,rfl⟩,hc⟩
end Go.Proofs.YtmglhdkeidhafaaGreat
