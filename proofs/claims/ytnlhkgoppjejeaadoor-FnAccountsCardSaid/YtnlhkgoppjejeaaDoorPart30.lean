/- The proof's texts, part 30. -/
import Derived.Test.YtnlhkgoppjejeaaDoorPart2
import Derived.Test.YtnlhkgoppjejeaaDoorPart28
import Derived.Test.YtnlhkgoppjejeaaDoorPart29
import Derived.Test.YtnlhkgoppjejeaaDoorPart27
import Derived.Test.YtnlhkgoppjejeaaDoorPart12

/- What a store leaves of the world. -/
namespace Go.Proofs.YtnlhkgoppjejeaaDoor
open Go.RowKit

theorem set_os (w:World) (p:Addr) (v:Value):(w.setCell p v).os=w.os:=rfl
theorem set_tape (w:World) (p:Addr) (v:Value):(w.setCell p v).tape=w.tape:=rfl
theorem set_output (w:World) (p:Addr) (v:Value):(w.setCell p v).output=w.output:=rfl

end Go.Proofs.YtnlhkgoppjejeaaDoor

/- Replies that stay while their own blocks do; what a command leaves of an account behind a pointer. -/
namespace Go.Proofs.YtnlhkgoppjejeaaDoor
open Go.RowKit
set_option linter.unusedVariables false

/-- The names of a reply: none at all, or the call's own in blocks from N on (then its box has nothing). -/
def NmN (w:World) (N:Nat) (u:Value) (r:RepD):Prop:=∃ c0 c1 c2 c3 c4 c5 c6 c7 c8 c9,u=.agg #[c0,c1,c2,c3,c4,c5,c6,c7,c8,c9]∧((c9=.slice none 0 0∧r.names=[])∨((r.box.name=[]∧r.box.mails=[]∧r.box.gones=[])∧NamesO w (In N w.heap.size) c9 r.names))
theorem NmN.oth {w w':World} {N:Nat} {u:Value} {r:RepD} (h:NmN w N u r) (hs:w.heap.size≤w'.heap.size) (hk:∀ k,N≤k→k < w.heap.size→w'.heap[k]?=w.heap[k]?):NmN w' N u r :=
 let ⟨c0,c1,c2,c3,c4,c5,c6,c7,c8,c9,e,h⟩:=h;⟨c0,c1,c2,c3,c4,c5,c6,c7,c8,c9,e,h.imp id fun h=>⟨h.1,Ow.mono (Ow.frame framesName h.2 fun k h1 h2=>hk k h1.1 h2) fun k h1=>⟨h1.1,Nat.lt_of_lt_of_le h1.2 hs⟩⟩⟩
/-- The value u reads as the reply r wherever the blocks from N on stay. -/
def RepS (w:World) (N:Nat) (u:Value) (r:RepD):Prop:=(∀ w':World,w.heap.size≤w'.heap.size→(∀ k,N≤k→k < w.heap.size→w'.heap[k]?=w.heap[k]?)→RepV w' u r)∧NmN w N u r
theorem RepS.v {w:World} {N:Nat} {u:Value} {r:RepD} (h:RepS w N u r):RepV w u r:=h.1 w (Nat.le_refl _) fun _ _ _=>rfl
/-- It stays where the world changes below N alone. -/
theorem RepS.oth {w w':World} {N:Nat} {u:Value} {r:RepD} (h:RepS w N u r) (hs:w.heap.size≤w'.heap.size) (hk:∀ k,N≤k→k < w.heap.size→w'.heap[k]?=w.heap[k]?):RepS w' N u r :=
 ⟨fun w'' hs' hk'=>h.1 w'' (Nat.le_trans hs hs') fun k h1 h2=>(hk' k h1 (Nat.lt_of_lt_of_le h2 hs)).trans (hk k h1 h2),h.2.oth hs hk⟩
theorem RepS.below {w w':World} {N:Nat} {u:Value} {r:RepD} (h:RepS w N u r) (hb:Below w.heap.size w w'):RepS w' N u r:=h.oth hb.size fun k _ h2=>hb.block k h2
theorem RepS.less {w:World} {N N':Nat} {u:Value} {r:RepD} (h:RepS w N u r) (hN:N'≤N):RepS w N' u r :=
 ⟨fun w'' hs hk=>h.1 w'' hs fun k h1 h2=>hk k (Nat.le_trans hN h1) h2,let ⟨c0,c1,c2,c3,c4,c5,c6,c7,c8,c9,e,h⟩:=h.2;⟨c0,c1,c2,c3,c4,c5,c6,c7,c8,c9,e,h.imp id fun h=>⟨h.1,Ow.mono h.2 fun k h1=>⟨Nat.le_trans hN h1.1,h1.2⟩⟩⟩⟩
theorem bs_nil_any {w w':World} {v:Value} (h:Bs w v []):Bs w' v []:=let ⟨ho,a,cap,e,h1,h2,h3,_⟩:=h;⟨ho,a,cap,e,h1,h2,h3,fun h=>absurd h (Nat.lt_irrefl 0)⟩
theorem rd_nil_any {α:Type} {sz:Nat} {E:World→List Value→α→Prop} {w w':World} {v:Value} (h:Rd sz E w v ([]:List α)):Rd sz E w' v ([]:List α):=let ⟨a,cap,cs,e,h1,h2,h3,_,_⟩:=h;⟨a,cap,cs,e,h1,h2,h3,fun i x hx=>by simp at hx,fun h=>absurd h (Nat.lt_irrefl 0)⟩
/-- A reply without a box and names stays always. -/
theorem reps_code {w:World} {N:Nat} {u:Value} {c n:Int} (h:RepC w u (codeR c n)):RepS w N u (codeR c n):=by
 obtain ⟨u0,u1,u2,u3,e,⟨z0,z1,z2,ez,h0,h1,h2,hi⟩,h3,i⟩:=h
 simp only [Value.agg.injEq,Array.mk.injEq,List.cons.injEq,and_true,true_and] at ez
 obtain ⟨rfl,rfl,rfl⟩:=ez
 exact ⟨fun w' _ _=>⟨u0,u1,u2,u3,e,⟨_,_,_,rfl,bs_nil_any h0,rd_nil_any h1,rd_nil_any h2,hi⟩,by rw [h3.1];exact Rd.nil _,i⟩,_,_,_,_,_,_,_,_,_,_,e,.inl h3⟩

/-- What a command leaves: the account behind the pointer, the reply; nothing else that is old has turned. -/
def DoneA (w:World) (S:Nat→Prop) (ga:Nat) (x:AccD × RepD) (e:Ending) (w':World):Prop :=
 ∃ u S',e=.returned u∧RepS w' w.heap.size u x.2∧TurnsA w w' S ga∧AccP w' S' ga x.1∧∀ k,S' k→S k∨w.heap.size≤k
theorem DoneA.same {w:World} {S:Nat→Prop} {ga:Nat} {a:AccD} {c n:Int} {e:Ending} {w':World} (h:∃ u,e=.returned u∧RepC w' u (codeR c n)∧Below w.heap.size w w'∧AccP w' S ga a):DoneA w S ga (a,codeR c n) e w' :=
 let ⟨u,h0,h1,h2,h3⟩:=h;⟨u,S,h0,reps_code h1,TurnsA.below h2,h3,fun _ h=>.inl h⟩
theorem DoneA.code {w:World} {S:Nat→Prop} {ga:Nat} {a:AccD} {c n:Int} {e:Ending} {w':World} (h:∃ u S',e=.returned u∧RepC w' u (codeR c n)∧TurnsA w w' S ga∧AccP w' S' ga a∧∀ k,S' k→S k∨w.heap.size≤k):DoneA w S ga (a,codeR c n) e w' :=
 let ⟨u,S',h0,h1,h2⟩:=h;⟨u,S',h0,reps_code h1,h2⟩

/-- A reply that a callee gave is laid into the call's own variable. -/
theorem rep_cells {w1:World} {r:Nat} {d0 d1 d2 d3 d4 d5 d6 d7 d8 d9:Value} (hk:w1.heap[r]?=some (.cells #[d0,d1,d2,d3,d4,d5,d6,d7,d8,d9] 84 (0,0))) (c0 c1 c2 c3 c4 c5 c6 c7 c8 c9:Value):((((((((((w1.setCell ⟨r,0,none⟩ c0).setCell ⟨r,1,none⟩ c1).setCell ⟨r,2,none⟩ c2).setCell ⟨r,3,none⟩ c3).setCell ⟨r,4,none⟩ c4).setCell ⟨r,5,none⟩ c5).setCell ⟨r,6,none⟩ c6).setCell ⟨r,7,none⟩ c7).setCell ⟨r,8,none⟩ c8).setCell ⟨r,9,none⟩ c9).heap[r]?=some (.cells #[c0,c1,c2,c3,c4,c5,c6,c7,c8,c9] 84 (0,0)):=by
 replace hk:(World.setCell _ _ _).heap[r]?=some (Obj.cells #[c0,d1,d2,d3,d4,d5,d6,d7,d8,d9] 84 (0,0)):=box_set (i:=0) (v:=c0) hk
 replace hk:(World.setCell _ _ _).heap[r]?=some (Obj.cells #[c0,c1,d2,d3,d4,d5,d6,d7,d8,d9] 84 (0,0)):=box_set (i:=1) (v:=c1) hk
 replace hk:(World.setCell _ _ _).heap[r]?=some (Obj.cells #[c0,c1,c2,d3,d4,d5,d6,d7,d8,d9] 84 (0,0)):=box_set (i:=2) (v:=c2) hk
 replace hk:(World.setCell _ _ _).heap[r]?=some (Obj.cells #[c0,c1,c2,c3,d4,d5,d6,d7,d8,d9] 84 (0,0)):=box_set (i:=3) (v:=c3) hk
 replace hk:(World.setCell _ _ _).heap[r]?=some (Obj.cells #[c0,c1,c2,c3,c4,d5,d6,d7,d8,d9] 84 (0,0)):=box_set (i:=4) (v:=c4) hk
 replace hk:(World.setCell _ _ _).heap[r]?=some (Obj.cells #[c0,c1,c2,c3,c4,c5,d6,d7,d8,d9] 84 (0,0)):=box_set (i:=5) (v:=c5) hk
 replace hk:(World.setCell _ _ _).heap[r]?=some (Obj.cells #[c0,c1,c2,c3,c4,c5,c6,d7,d8,d9] 84 (0,0)):=box_set (i:=6) (v:=c6) hk
 replace hk:(World.setCell _ _ _).heap[r]?=some (Obj.cells #[c0,c1,c2,c3,c4,c5,c6,c7,d8,d9] 84 (0,0)):=box_set (i:=7) (v:=c7) hk
 replace hk:(World.setCell _ _ _).heap[r]?=some (Obj.cells #[c0,c1,c2,c3,c4,c5,c6,c7,c8,d9] 84 (0,0)):=box_set (i:=8) (v:=c8) hk
 replace hk:(World.setCell _ _ _).heap[r]?=some (Obj.cells #[c0,c1,c2,c3,c4,c5,c6,c7,c8,c9] 84 (0,0)):=box_set (i:=9) (v:=c9) hk
 exact hk
theorem rep_putA {w w1:World} {S:Nat→Prop} {ga r N:Nat} {d0 d1 d2 d3 d4 d5 d6 d7 d8 d9:Value} (hR:w1.heap[r]?=some (.cells #[d0,d1,d2,d3,d4,d5,d6,d7,d8,d9] 84 (0,0))) (hr:w.heap.size≤r) (ht:TurnsA w w1 S ga) (a:AccD) (S':Nat→Prop) (hp:AccP w1 S' ga a) (hg:ga < w.heap.size) (hS:¬ S' r) (rep:RepD) (c0 c1 c2 c3 c4 c5 c6 c7 c8 c9:Value) (hrep:RepS w1 N (.agg #[c0,c1,c2,c3,c4,c5,c6,c7,c8,c9]) rep) (hN:r < N) :
  let w2:=((((((((((w1.setCell ⟨r,0,none⟩ c0).setCell ⟨r,1,none⟩ c1).setCell ⟨r,2,none⟩ c2).setCell ⟨r,3,none⟩ c3).setCell ⟨r,4,none⟩ c4).setCell ⟨r,5,none⟩ c5).setCell ⟨r,6,none⟩ c6).setCell ⟨r,7,none⟩ c7).setCell ⟨r,8,none⟩ c8).setCell ⟨r,9,none⟩ c9)
  w2.heap[r]?=some (.cells #[c0,c1,c2,c3,c4,c5,c6,c7,c8,c9] 84 (0,0))∧TurnsA w w2 S ga∧AccP w2 S' ga a∧RepS w2 w.heap.size (.agg #[c0,c1,c2,c3,c4,c5,c6,c7,c8,c9]) rep:=by
 intro w2
 have hoth:∀ k,k≠r→w2.heap[k]?=w1.heap[k]?:=fun k hk=>by
  show ((((((((((w1.setCell ⟨r,0,none⟩ c0).setCell ⟨r,1,none⟩ c1).setCell ⟨r,2,none⟩ c2).setCell ⟨r,3,none⟩ c3).setCell ⟨r,4,none⟩ c4).setCell ⟨r,5,none⟩ c5).setCell ⟨r,6,none⟩ c6).setCell ⟨r,7,none⟩ c7).setCell ⟨r,8,none⟩ c8).setCell ⟨r,9,none⟩ c9).heap[k]?=_
  rw [Below.heap_setCell _ _ _ _ (show k≠r from hk),Below.heap_setCell _ _ _ _ (show k≠r from hk),Below.heap_setCell _ _ _ _ (show k≠r from hk),Below.heap_setCell _ _ _ _ (show k≠r from hk),Below.heap_setCell _ _ _ _ (show k≠r from hk),Below.heap_setCell _ _ _ _ (show k≠r from hk),Below.heap_setCell _ _ _ _ (show k≠r from hk),Below.heap_setCell _ _ _ _ (show k≠r from hk),Below.heap_setCell _ _ _ _ (show k≠r from hk),Below.heap_setCell _ _ _ _ (show k≠r from hk)]
 have hsz:w2.heap.size=w1.heap.size:=by show ((((((((((w1.setCell ⟨r,0,none⟩ c0).setCell ⟨r,1,none⟩ c1).setCell ⟨r,2,none⟩ c2).setCell ⟨r,3,none⟩ c3).setCell ⟨r,4,none⟩ c4).setCell ⟨r,5,none⟩ c5).setCell ⟨r,6,none⟩ c6).setCell ⟨r,7,none⟩ c7).setCell ⟨r,8,none⟩ c8).setCell ⟨r,9,none⟩ c9).heap.size=_;simp only [box_size]
 have hos:w2.os=w1.os:=by show ((((((((((w1.setCell ⟨r,0,none⟩ c0).setCell ⟨r,1,none⟩ c1).setCell ⟨r,2,none⟩ c2).setCell ⟨r,3,none⟩ c3).setCell ⟨r,4,none⟩ c4).setCell ⟨r,5,none⟩ c5).setCell ⟨r,6,none⟩ c6).setCell ⟨r,7,none⟩ c7).setCell ⟨r,8,none⟩ c8).setCell ⟨r,9,none⟩ c9).os=_;simp only [set_os]
 have htape:w2.tape=w1.tape:=by show ((((((((((w1.setCell ⟨r,0,none⟩ c0).setCell ⟨r,1,none⟩ c1).setCell ⟨r,2,none⟩ c2).setCell ⟨r,3,none⟩ c3).setCell ⟨r,4,none⟩ c4).setCell ⟨r,5,none⟩ c5).setCell ⟨r,6,none⟩ c6).setCell ⟨r,7,none⟩ c7).setCell ⟨r,8,none⟩ c8).setCell ⟨r,9,none⟩ c9).tape=_;simp only [set_tape]
 have houtput:w2.output=w1.output:=by show ((((((((((w1.setCell ⟨r,0,none⟩ c0).setCell ⟨r,1,none⟩ c1).setCell ⟨r,2,none⟩ c2).setCell ⟨r,3,none⟩ c3).setCell ⟨r,4,none⟩ c4).setCell ⟨r,5,none⟩ c5).setCell ⟨r,6,none⟩ c6).setCell ⟨r,7,none⟩ c7).setCell ⟨r,8,none⟩ c8).setCell ⟨r,9,none⟩ c9).output=_;simp only [set_output]
 have hT:∀ t,t≠84→StayT w1 w2 t:=fun t hne k hk=>hoth k fun e=>by obtain ⟨cs,fz,hh⟩:=hk;rw [e,hR] at hh;cases hh;exact hne rfl
 have hrg:ga≠r:=by omega
 refine ⟨?_,⟨by rw [hsz];exact ht.1,fun k h1 h2 h3=>(hoth k (by omega)).trans (ht.2.1 k h1 h2 h3),ht.2.2.1.trans (hT _ (by decide)),ht.2.2.2.1.trans (hT _ (by decide)),hos.trans ht.2.2.2.2.1,htape.trans ht.2.2.2.2.2.1,houtput.trans ht.2.2.2.2.2.2.1,fun h1 h2=>(show w2.cell? ⟨ga,2,none⟩=w1.cell? ⟨ga,2,none⟩ by unfold World.cell?;rw [hoth ga hrg]).trans (ht.2.2.2.2.2.2.2 h1 h2)⟩,hp.oth (by omega) (hoth ga hrg) (fun k h1 h2=>hoth k fun e=>hS (e ▸ h1)) (hT _ (by decide)) (hT _ (by decide)) (hT _ (by decide)),?_⟩
 ·exact rep_cells hR c0 c1 c2 c3 c4 c5 c6 c7 c8 c9
 ·exact (hrep.oth (by omega) fun k h1 _=>hoth k (by omega)).less (by omega)

end Go.Proofs.YtnlhkgoppjejeaaDoor

/- What l3create of package spec does where it creates nothing. -/
namespace Go.Proofs.YtnlhkgoppjejeaaDoor
open Go.RowKit
set_option maxRecDepth 100000
set_option linter.unusedVariables false
set_option linter.unusedSimpArgs false

set_option maxRecDepth 100000 in
set_option maxHeartbeats 4000000 in
theorem l3create_has (ga:Nat) (a:AccD) (S:Nat→Prop) (nv:Value) (nm:List Int) (w:World) (hp:AccP w S ga a) (hnv:Bs w nv nm) (hbl:a.boxes.length≤2000000) (hf:0≤firstI (fun x:BoxD=>decide (x.name=nm)) a.boxes) :
  Calls Tryd.prog 67 #[.pointer (some ⟨ga,0,none⟩),nv] w fun e w'=>∃ u,e=.returned u∧RepC w' u (codeR 2 0)∧Below w.heap.size w w'∧AccP w' S ga a:=by
 have HP:Hid (∀ w',Below w.heap.size w w'→AccP w' S ga a):=fun w' h=>hp.below h
 have HN:Hid (∀ w',Below w.heap.size w w'→Bs w' nv nm):=fun w' h=>hnv.below h
 have hlg:=hp.lt
 obtain ⟨q0,q1,q2,rfl⟩:=hnv.form3
 clear hp hnv
 have HB:Hid (Below w.heap.size w (w.alloc (.cells #[.int .i64 0,.int .i64 0,.slice none 0 0,.int .i64 0,.int .i64 0,.int .i64 0,.slice none 0 0,.slice none 0 0,.int .i64 0,.slice none 0 0] 84))):=(Below.refl _ _).alloc (Nat.le_refl _) _
 have HK:Hid ((w.alloc (.cells #[.int .i64 0,.int .i64 0,.slice none 0 0,.int .i64 0,.int .i64 0,.int .i64 0,.slice none 0 0,.slice none 0 0,.int .i64 0,.slice none 0 0] 84)).heap[w.heap.size]?=some (.cells #[.int .i64 0,.int .i64 0,.slice none 0 0,.int .i64 0,.int .i64 0,.int .i64 0,.slice none 0 0,.slice none 0 0,.int .i64 0,.slice none 0 0] 84 (0,0))):=box_new w _
 go_enter Tryd.func67,Tryd.ntmps67
 go_upto_region 1 with fail
 generalize w.alloc (.cells #[.int .i64 0,.int .i64 0,.slice none 0 0,.int .i64 0,.int .i64 0,.int .i64 0,.slice none 0 0,.slice none 0 0,.int .i64 0,.slice none 0 0] 84)=W at HB HK ⊢
 obtain ⟨u0,u1,c0,c1,c2,hb,hv⟩:=(HP.out W HB.out).cells
 have hl2:ga < W.heap.size:=Nat.lt_of_lt_of_le hlg HB.out.size
 have HV:Hid _:=hv
 obtain ⟨e0,e1,rfl,-⟩:=hb.v.form
 clear hb hv
 go_wp2_with fail
 refine (l3box_any _ _ a nm _ HV.out (HN.out _ HB.out) hbl).mono ?_
 rintro e w1 ⟨rfl,B1⟩
 have HB1:Hid (Below w.heap.size w w1):=Below.step HB.out B1
 have HK1:Hid _:=box_below B1 HK.out
 have d0:w1.cell? ⟨ga,0,none⟩=some (.int .i64 a.valid):=(B1.cell (p:=⟨ga,0,none⟩) hl2).trans c0
 have d1:w1.cell? ⟨ga,1,none⟩=some (.slice e0 a.boxes.length e1):=(B1.cell (p:=⟨ga,1,none⟩) hl2).trans c1
 have hl3:ga < w1.heap.size:=Nat.lt_of_lt_of_le hl2 B1.size
 clear B1 HK c0 c1 c2 HV HN
 generalize firstI (fun x:BoxD=>decide (x.name=nm)) a.boxes=fi at *
 obtain ⟨r0,r1,r2,r3,r4,r5,r6,r7,r8,r9⟩:=bx10 HK1.out
 have fz:∀ i,w1.frozen? ⟨w.heap.size,i,none⟩=false:=fun i=>frozen_of_row w1 _ i _ _ HK1.out
 have hlr:=lt_of_heap HK1.out
 have HF:Hid _:=rep_fin (w:=w) HK1.out (Nat.le_refl _) HB1.out 2 0
 go_wp2
 obtain ⟨f0,f1,f2,f3,f4,f5,f6,f7,f8,f9⟩:=bx10 HF.out.1
 refine bodyPost_ret (v:=.agg #[.int .i64 2,.int .i64 0,.slice none 0 0,.int .i64 0,.int .i64 0,.int .i64 0,.slice none 0 0,.slice none 0 0,.int .i64 0,.slice none 0 0]) (by simp [results,Tryd.results67,go_sem,f0,f1,f2,f3,f4,f5,f6,f7,f8,f9]) rfl ⟨_,rfl,?_,HF.out.2,HP.out _ HF.out.2⟩
 exact ⟨_,_,_,_,rfl,⟨_,_,_,rfl,bs_nil' _,Rd.nil _,Rd.nil _,i64c0,i64c0,i64c0,i64c0⟩,⟨rfl,rfl⟩,⟨by decide,by decide⟩,i64c0⟩

set_option maxRecDepth 100000 in
set_option maxHeartbeats 4000000 in
theorem l3create_full1 (ga:Nat) (a:AccD) (S:Nat→Prop) (nv:Value) (nm:List Int) (w:World) (hp:AccP w S ga a) (hnv:Bs w nv nm) (hbl:a.boxes.length≤2000000) (hf:firstI (fun x:BoxD=>decide (x.name=nm)) a.boxes < 0) (h4:4≤a.boxes.length) :
  Calls Tryd.prog 67 #[.pointer (some ⟨ga,0,none⟩),nv] w fun e w'=>∃ u,e=.returned u∧RepC w' u (codeR 3 0)∧Below w.heap.size w w'∧AccP w' S ga a:=by
 have HP:Hid (∀ w',Below w.heap.size w w'→AccP w' S ga a):=fun w' h=>hp.below h
 have HN:Hid (∀ w',Below w.heap.size w w'→Bs w' nv nm):=fun w' h=>hnv.below h
 have hlg:=hp.lt
 obtain ⟨q0,q1,q2,rfl⟩:=hnv.form3
 clear hp hnv
 have HB:Hid (Below w.heap.size w (w.alloc (.cells #[.int .i64 0,.int .i64 0,.slice none 0 0,.int .i64 0,.int .i64 0,.int .i64 0,.slice none 0 0,.slice none 0 0,.int .i64 0,.slice none 0 0] 84))):=(Below.refl _ _).alloc (Nat.le_refl _) _
 have HK:Hid ((w.alloc (.cells #[.int .i64 0,.int .i64 0,.slice none 0 0,.int .i64 0,.int .i64 0,.int .i64 0,.slice none 0 0,.slice none 0 0,.int .i64 0,.slice none 0 0] 84)).heap[w.heap.size]?=some (.cells #[.int .i64 0,.int .i64 0,.slice none 0 0,.int .i64 0,.int .i64 0,.int .i64 0,.slice none 0 0,.slice none 0 0,.int .i64 0,.slice none 0 0] 84 (0,0))):=box_new w _
 go_enter Tryd.func67,Tryd.ntmps67
 go_upto_region 1 with fail
 generalize w.alloc (.cells #[.int .i64 0,.int .i64 0,.slice none 0 0,.int .i64 0,.int .i64 0,.int .i64 0,.slice none 0 0,.slice none 0 0,.int .i64 0,.slice none 0 0] 84)=W at HB HK ⊢
 obtain ⟨u0,u1,c0,c1,c2,hb,hv⟩:=(HP.out W HB.out).cells
 have hl2:ga < W.heap.size:=Nat.lt_of_lt_of_le hlg HB.out.size
 have HV:Hid _:=hv
 obtain ⟨e0,e1,rfl,-⟩:=hb.v.form
 clear hb hv
 go_wp2_with fail
 refine (l3box_any _ _ a nm _ HV.out (HN.out _ HB.out) hbl).mono ?_
 rintro e w1 ⟨rfl,B1⟩
 have HB1:Hid (Below w.heap.size w w1):=Below.step HB.out B1
 have HK1:Hid _:=box_below B1 HK.out
 have d0:w1.cell? ⟨ga,0,none⟩=some (.int .i64 a.valid):=(B1.cell (p:=⟨ga,0,none⟩) hl2).trans c0
 have d1:w1.cell? ⟨ga,1,none⟩=some (.slice e0 a.boxes.length e1):=(B1.cell (p:=⟨ga,1,none⟩) hl2).trans c1
 have hl3:ga < w1.heap.size:=Nat.lt_of_lt_of_le hl2 B1.size
 clear B1 HK c0 c1 c2 HV HN
 generalize firstI (fun x:BoxD=>decide (x.name=nm)) a.boxes=fi at *
 obtain ⟨r0,r1,r2,r3,r4,r5,r6,r7,r8,r9⟩:=bx10 HK1.out
 have fz:∀ i,w1.frozen? ⟨w.heap.size,i,none⟩=false:=fun i=>frozen_of_row w1 _ i _ _ HK1.out
 have hlr:=lt_of_heap HK1.out
 have h4i:(4:Int)≤(a.boxes.length:Int):=by omega
 have HF:Hid _:=rep_fin (w:=w) HK1.out (Nat.le_refl _) HB1.out 3 0
 go_wp2
 obtain ⟨f0,f1,f2,f3,f4,f5,f6,f7,f8,f9⟩:=bx10 HF.out.1
 refine bodyPost_ret (v:=.agg #[.int .i64 3,.int .i64 0,.slice none 0 0,.int .i64 0,.int .i64 0,.int .i64 0,.slice none 0 0,.slice none 0 0,.int .i64 0,.slice none 0 0]) (by simp [results,Tryd.results67,go_sem,f0,f1,f2,f3,f4,f5,f6,f7,f8,f9]) rfl ⟨_,rfl,?_,HF.out.2,HP.out _ HF.out.2⟩
 exact ⟨_,_,_,_,rfl,⟨_,_,_,rfl,bs_nil' _,Rd.nil _,Rd.nil _,i64c0,i64c0,i64c0,i64c0⟩,⟨rfl,rfl⟩,⟨by decide,by decide⟩,i64c0⟩

set_option maxRecDepth 100000 in
set_option maxHeartbeats 4000000 in
theorem l3create_full2 (ga:Nat) (a:AccD) (S:Nat→Prop) (nv:Value) (nm:List Int) (w:World) (hp:AccP w S ga a) (hnv:Bs w nv nm) (hbl:a.boxes.length≤2000000) (hf:firstI (fun x:BoxD=>decide (x.name=nm)) a.boxes < 0) (h4:¬ 4≤a.boxes.length) (hv:1000000≤a.valid) :
  Calls Tryd.prog 67 #[.pointer (some ⟨ga,0,none⟩),nv] w fun e w'=>∃ u,e=.returned u∧RepC w' u (codeR 3 0)∧Below w.heap.size w w'∧AccP w' S ga a:=by
 have HP:Hid (∀ w',Below w.heap.size w w'→AccP w' S ga a):=fun w' h=>hp.below h
 have HN:Hid (∀ w',Below w.heap.size w w'→Bs w' nv nm):=fun w' h=>hnv.below h
 have hlg:=hp.lt
 obtain ⟨q0,q1,q2,rfl⟩:=hnv.form3
 clear hp hnv
 have HB:Hid (Below w.heap.size w (w.alloc (.cells #[.int .i64 0,.int .i64 0,.slice none 0 0,.int .i64 0,.int .i64 0,.int .i64 0,.slice none 0 0,.slice none 0 0,.int .i64 0,.slice none 0 0] 84))):=(Below.refl _ _).alloc (Nat.le_refl _) _
 have HK:Hid ((w.alloc (.cells #[.int .i64 0,.int .i64 0,.slice none 0 0,.int .i64 0,.int .i64 0,.int .i64 0,.slice none 0 0,.slice none 0 0,.int .i64 0,.slice none 0 0] 84)).heap[w.heap.size]?=some (.cells #[.int .i64 0,.int .i64 0,.slice none 0 0,.int .i64 0,.int .i64 0,.int .i64 0,.slice none 0 0,.slice none 0 0,.int .i64 0,.slice none 0 0] 84 (0,0))):=box_new w _
 go_enter Tryd.func67,Tryd.ntmps67
 go_upto_region 1 with fail
 generalize w.alloc (.cells #[.int .i64 0,.int .i64 0,.slice none 0 0,.int .i64 0,.int .i64 0,.int .i64 0,.slice none 0 0,.slice none 0 0,.int .i64 0,.slice none 0 0] 84)=W at HB HK ⊢
 obtain ⟨u0,u1,c0,c1,c2,hb,hv⟩:=(HP.out W HB.out).cells
 have hl2:ga < W.heap.size:=Nat.lt_of_lt_of_le hlg HB.out.size
 have HV:Hid _:=hv
 obtain ⟨e0,e1,rfl,-⟩:=hb.v.form
 clear hb hv
 go_wp2_with fail
 refine (l3box_any _ _ a nm _ HV.out (HN.out _ HB.out) hbl).mono ?_
 rintro e w1 ⟨rfl,B1⟩
 have HB1:Hid (Below w.heap.size w w1):=Below.step HB.out B1
 have HK1:Hid _:=box_below B1 HK.out
 have d0:w1.cell? ⟨ga,0,none⟩=some (.int .i64 a.valid):=(B1.cell (p:=⟨ga,0,none⟩) hl2).trans c0
 have d1:w1.cell? ⟨ga,1,none⟩=some (.slice e0 a.boxes.length e1):=(B1.cell (p:=⟨ga,1,none⟩) hl2).trans c1
 have hl3:ga < w1.heap.size:=Nat.lt_of_lt_of_le hl2 B1.size
 clear B1 HK c0 c1 c2 HV HN
 generalize firstI (fun x:BoxD=>decide (x.name=nm)) a.boxes=fi at *
 obtain ⟨r0,r1,r2,r3,r4,r5,r6,r7,r8,r9⟩:=bx10 HK1.out
 have fz:∀ i,w1.frozen? ⟨w.heap.size,i,none⟩=false:=fun i=>frozen_of_row w1 _ i _ _ HK1.out
 have hlr:=lt_of_heap HK1.out
 have h4i:(a.boxes.length:Int) < 4:=by omega
 have HF:Hid _:=rep_fin (w:=w) HK1.out (Nat.le_refl _) HB1.out 3 0
 go_wp2
 obtain ⟨f0,f1,f2,f3,f4,f5,f6,f7,f8,f9⟩:=bx10 HF.out.1
 refine bodyPost_ret (v:=.agg #[.int .i64 3,.int .i64 0,.slice none 0 0,.int .i64 0,.int .i64 0,.int .i64 0,.slice none 0 0,.slice none 0 0,.int .i64 0,.slice none 0 0]) (by simp [results,Tryd.results67,go_sem,f0,f1,f2,f3,f4,f5,f6,f7,f8,f9]) rfl ⟨_,rfl,?_,HF.out.2,HP.out _ HF.out.2⟩
 exact ⟨_,_,_,_,rfl,⟨_,_,_,rfl,bs_nil' _,Rd.nil _,Rd.nil _,i64c0,i64c0,i64c0,i64c0⟩,⟨rfl,rfl⟩,⟨by decide,by decide⟩,i64c0⟩

end Go.Proofs.YtnlhkgoppjejeaaDoor

/- A box behind a pointer: its fields are written, one by one. -/
namespace Go.Proofs.YtnlhkgoppjejeaaDoor
open Go.RowKit

section
variable {w w' : World} {S S' : Nat → Prop} {g o : Nat} {b b' : BoxD}
theorem BoxP.fit (h:BoxP w S g o b):∀ cur t,w.heap[g]?=some (.cells cur t (0,0))→o+7≤cur.size:=by
 obtain ⟨cur,c,hh,⟨u0,u1,u2,rfl,-⟩,hc⟩:=h
 intro cur' t h'
 rw [hh] at h'
 cases h'
 have:=(Array.getElem?_eq_some_iff.1 (hc 6 _ rfl)).1
 omega
theorem BoxP.lt (h:BoxP w S g o b):g < w.heap.size:=ty_lt h.ty
/-- A field is written: what the box says with it. -/
theorem BoxP.put (h:BoxP w S g o b) (j:Nat) (hj:j < 7) (x:Value) (hq:∀ c,BoxQE w c b S→c.length=7→BoxQE (w.setCell ⟨g,o+j,none⟩ x) (c.set j x) b' S'):BoxP (w.setCell ⟨g,o+j,none⟩ x) S' g o b':=by
 have hf:=h.fit
 obtain ⟨cur,c,hh,hb,hc⟩:=h
 have hsz:=hf cur _ hh
 have hl:c.length=7:=by obtain ⟨u0,u1,u2,rfl,-⟩:=hb;rfl
 refine ⟨_,_,box_set hh,hq c hb hl,fun k u hk=>?_⟩
 by_cases e:k=j
 ·subst e
  rw [List.getElem?_set_self (by omega)] at hk
  cases hk
  rw [Array.getElem?_setIfInBounds_self_of_lt (by omega)]
 ·rw [List.getElem?_set_ne (Ne.symm e)] at hk
  rw [Array.getElem?_setIfInBounds_ne (by omega)]
  exact hc k u hk
theorem set_ro {x:Value} {j:Nat} {u:Value} {l:List Int} (ht:Ty w g 44) (h:RO w Any u l):RO (w.setCell ⟨g,j,none⟩ x) Any u l:=ro_oth h (stay_set ht (by decide))
theorem set_ms {x:Value} {j:Nat} {u:Value} {l:List MailD} (ht:Ty w g 44) (h:MailsQ w S u l):MailsQ (w.setCell ⟨g,j,none⟩ x) S u l:=by
 rcases h with h | ⟨m,cap,cur,cs,fs,hv,hh,r⟩
 ·exact .inl h
 ·have hne:m≠g:=fun e=>by subst e;exact ty_ne hh ht (by decide)
  obtain ⟨h1,h2,h3,h4,h5,h6,h7⟩:=r
  exact .inr ⟨m,cap,cur,cs,fs,hv,(Below.heap_setCell _ _ _ _ (show m≠g from hne)).trans hh,h1,h2,h3,h4,fun i y hy=>⟨mail_oth (h5 i y hy).1 (stay_set ht (by decide)),(h5 i y hy).2⟩,h6,h7⟩
theorem set_gs {x:Value} {j:Nat} {u:Value} {l:List GoneD} (ht:Ty w g 44) (h:GonesQ w S u l):GonesQ (w.setCell ⟨g,j,none⟩ x) S u l:=gonesq_oth h (stay_set ht (by decide))
theorem BoxP.setNext (h:BoxP w S g o b) (n:Int) (hn:I64 n):BoxP (w.setCell ⟨g,o+2,none⟩ (.int .i64 n)) S g o ⟨b.name,b.valid,n,b.seq,b.mails,b.gones,b.lost⟩ :=
 h.put 2 (by omega) _ fun c ⟨u0,u1,u2,e,h1,h2,h3,i0,i1,i2,i3⟩ _=>⟨u0,u1,u2,by rw [e];rfl,set_ro h.ty h1,set_ms h.ty h2,set_gs h.ty h3,i0,hn,i2,i3⟩
theorem BoxP.setSeq (h:BoxP w S g o b) (n:Int) (hn:I64 n):BoxP (w.setCell ⟨g,o+3,none⟩ (.int .i64 n)) S g o ⟨b.name,b.valid,b.next,n,b.mails,b.gones,b.lost⟩ :=
 h.put 3 (by omega) _ fun c ⟨u0,u1,u2,e,h1,h2,h3,i0,i1,i2,i3⟩ _=>⟨u0,u1,u2,by rw [e];rfl,set_ro h.ty h1,set_ms h.ty h2,set_gs h.ty h3,i0,i1,hn,i3⟩
theorem BoxP.setMails (h:BoxP w S g o b) {u:Value} {ms:List MailD} (hm:MailsQ w S' u ms) (hS:∀ k,S k→S' k):BoxP (w.setCell ⟨g,o+4,none⟩ u) S' g o ⟨b.name,b.valid,b.next,b.seq,ms,b.gones,b.lost⟩ :=
 h.put 4 (by omega) _ fun c ⟨u0,u1,u2,e,h1,h2,h3,r⟩ _=>⟨u0,u,u2,by rw [e];rfl,set_ro h.ty h1,set_ms h.ty hm,(set_gs h.ty h3).mono hS,r⟩
theorem BoxP.setGones (h:BoxP w S g o b) {u:Value} {gs:List GoneD} (hm:GonesQ w S u gs):BoxP (w.setCell ⟨g,o+5,none⟩ u) S g o ⟨b.name,b.valid,b.next,b.seq,b.mails,gs,b.lost⟩ :=
 h.put 5 (by omega) _ fun c ⟨u0,u1,u2,e,h1,h2,h3,r⟩ _=>⟨u0,u1,u,by rw [e];rfl,set_ro h.ty h1,set_ms h.ty h2,set_gs h.ty hm,r⟩
theorem BoxP.setLost (h:BoxP w S g o b) (n:Int) (hn:I64 n):BoxP (w.setCell ⟨g,o+6,none⟩ (.int .i64 n)) S g o ⟨b.name,b.valid,b.next,b.seq,b.mails,b.gones,n⟩ :=
 h.put 6 (by omega) _ fun c ⟨u0,u1,u2,e,h1,h2,h3,i0,i1,i2,i3⟩ _=>⟨u0,u1,u2,by rw [e];rfl,set_ro h.ty h1,set_ms h.ty h2,set_gs h.ty h3,i0,i1,i2,hn⟩
theorem BoxP.mono (h:BoxP w S g o b) (hS:∀ k,S k→S' k):BoxP w S' g o b :=
 let ⟨cur,c,hh,⟨u0,u1,u2,e,h1,h2,h3,r⟩,hc⟩:=h;⟨cur,c,hh,⟨u0,u1,u2,e,h1,h2.mono hS,h3.mono hS,r⟩,hc⟩
theorem turns_set {j:Nat} {x:Value} (h:BoxP w S g o b) (hj:j < 7):Turns w (w.setCell ⟨g,o+j,none⟩ x) S' g o:=turns_field h.ty (by omega) (by omega)
end

end Go.Proofs.YtnlhkgoppjejeaaDoor

/- Regions walked in phases: where several operations may come next, each one goes on in an order of its own. -/
namespace Go.Proofs.YtnlhkgoppjejeaaDoor
set_option linter.unusedVariables false

theorem left_same {A A':List Nat} (h:(A.all (fun x=>A'.contains x) && A'.all (fun x=>A.contains x))=true) (L:Array Bool):left A L=left A' L:=by
 simp only [Bool.and_eq_true,List.all_eq_true,List.contains_iff_mem] at h
 unfold left
 rw [Bool.eq_iff_iff]
 simp only [List.any_eq_true]
 exact ⟨fun ⟨x,hx,e⟩=>⟨x,h.1 x hx,e⟩,fun ⟨x,hx,e⟩=>⟨x,h.2 x hx,e⟩⟩
section
variable {P : Program} {md : Region.Mode} {ops : Array Oper} {Q : Exit → Act → World → Prop} {S : World → Prop}
theorem wpAnyS_same {A A':List Nat} (hA:∀ L,left A L=left A' L):∀ (n:Nat) (L:Array Bool) (a:Act) (w:World),wpAnyS P md ops Q S A n L a w→wpAnyS P md ops Q S A' n L a w
 | 0,_,_,_,h=>h
 | n+1,L,a,w,h=>by
  refine ⟨fun hl=>h.1 (by rw [hA];exact hl),fun hl=>?_⟩
  have h2:=h.2 (by rw [hA];exact hl)
  exact ⟨h2.1,fun i hi=>wpOp_mono (fun a' w' q=>⟨q.1,wpAnyS_same hA n _ a' w' q.2⟩) (h2.2 i hi)⟩
end
section
variable {P : Program} {ops : Array Oper} {Q : Exit → Act → World → Prop} {S : World → Prop} {n f : Nat} {ord cs qs : List Nat} {a : Act} {w : World}
/-- What is owed of those that may come next. -/
def AllS (P:Program) (ops:Array Oper) (Q:Exit→Act→World→Prop) (S:World→Prop) (n:Nat) (ord:List Nat) (q p:Nat) (a:Act) (w:World) (rs:List Nat):Prop :=
 ∀ i ∈ rs,wpOp P ops Q i (fun a' w'=>S w'∧wpAnyS P .any ops Q S (ord.take q) (n - (p+1)) ((doneA n (ord.take p)).setIfInBounds i true) a' w') a w
theorem AllS.nil {q p:Nat}:AllS P ops Q S n ord q p a w []:=fun _ h=>by cases h
theorem AllS.cons {q p i:Nat} {rs:List Nat} {oi:Oper} (ord':List Nat) (hi:ops[i]?=some oi) (hd:(doneA n (ord.take p)).setIfInBounds i true=doneA n (ord'.take (p+1)))
  (hA:((ord'.take q).all (fun x=>(ord.take q).contains x) && (ord.take q).all (fun x=>(ord'.take q).contains x))=true)
  (h:∀ K:Act→World→Prop,Shut (∀ a w,S w→(S w→wpPh P ops Q S n ord' q (p+1) a w)→K a w)→if Region.wanted oi (yielded ops a.tmps)=true then Oper.wp P oi a w K Q else K (a.put oi.dst undef) w)
  (hs:AllS P ops Q S n ord q p a w rs):AllS P ops Q S n ord q p a w (i :: rs):=by
 intro j hj
 rcases List.mem_cons.1 hj with rfl | hj
 ·refine wpOp_step hi (fun K hK=>h K (fun a w hS hW=>hK a w ⟨hS,?_⟩))
  have:=hW hS
  unfold wpPh at this
  rw [hd]
  exact wpAnyS_same (left_same hA) _ _ _ _ this
 ·exact hs j hj
/-- The table of an order some of whose places (bs) have several that may come next. -/
def tableB (ops:Array Oper) (n:Nat) (ord cs bs qs:List Nat) (f:Nat):Bool :=
 (ops.size == n) && ((ord.length == n) && (Region.noSelect ops && ((List.range n).all (fun p=>match ord[p]? with
  | some i=>cs.contains p || (bs.contains p || (Region.free .any ops (doneA n (ord.take p)) i && (Region.ready .any ops (doneA n (ord.take p))).contains i))
  | none=>false) && ((Region.ready .any ops (doneA n (ord.take n))).isEmpty && (cs.all (fun p=>match ord[p]? with
  | some i=>Nat.blt p n && (Region.ready .any ops (doneA n (ord.take p)) == [i])
  | none=>false) && ((List.range (n+1)).all (fun p=>(List.range n).all fun k=>!((doneA n (ord.take p)).getD k false) || (waits .any ops k).all fun i=>(doneA n (ord.take p)).getD i false) &&
  qs.all fun q=>(List.range n).all fun j=>(ord.take q).contains j || (ord.take q).all fun i=>(ancL .any ops j f).contains i))))))
structure TabB (ops:Array Oper) (n:Nat) (ord cs bs qs:List Nat) (f:Nat):Prop where
 out:tableB ops n ord cs bs qs f=true
variable {bs : List Nat}
theorem tabB_of {c:Option Code} {id:Nat} (h:c.bind (opsAt id)=some ops) (T:(c.bind (opsAt id)).all (fun o=>tableB o n ord cs bs qs f)=true):TabB ops n ord cs bs qs f:=by
 rw [h] at T;exact ⟨by simpa using T⟩
theorem TabB.all (T':TabB ops n ord cs bs qs f):ops.size=n∧ord.length=n∧Region.noSelect ops=true∧(∀ p i,ord[p]?=some i→¬ p ∈ cs→¬ p ∈ bs→Region.free .any ops (doneA n (ord.take p)) i=true∧(Region.ready .any ops (doneA n (ord.take p))).contains i=true)∧Region.ready .any ops (doneA n (ord.take n))=[] ∧
  (∀ p i,p ∈ cs→ord[p]?=some i→p < n∧Region.ready .any ops (doneA n (ord.take p))=[i])∧(∀ p,p≤n→ClosedL .any ops (doneA n (ord.take p)))∧∀ q,q ∈ qs→Parts .any ops (ord.take q):=by
 have T:=T'.out
 simp only [tableB,Bool.and_eq_true,beq_iff_eq,List.all_eq_true,List.mem_range,List.isEmpty_iff] at T
 obtain ⟨h1,h2,h3,h4,h5,h6,h7,h8⟩:=T
 refine ⟨h1,h2,h3,fun p i hp hc hb=>?_,h5,fun p i hc hp=>?_,fun p hp k i hk hi=>?_,fun q hq j hj hn i hi=>?_⟩
 ·have hlt:p < n:=by have:=(List.getElem?_eq_some_iff.1 hp).1;omega
  have:=h4 p hlt
  rw [hp] at this
  simp only [Bool.or_eq_true,Bool.and_eq_true,List.contains_iff_mem] at this
  rcases this with h | h | h
  ·exact absurd h hc
  ·exact absurd h hb
  ·exact ⟨h.1,by simpa using h.2⟩
 ·have:=h6 p hc
  rw [hp] at this
  simp only [Bool.and_eq_true,beq_iff_eq,Nat.blt_eq] at this
  exact this
 ·have hkn:k < n:=by
   by_cases hkn:k < n
   ·exact hkn
   ·unfold waits at hi
    rw [Array.getElem?_eq_none (by omega)] at hi
    cases hi
  have:=h7 p (by omega) k hkn
  rw [hk] at this
  simp only [Bool.not_true,Bool.false_or,List.all_eq_true] at this
  exact this i hi
 ·obtain ⟨o,ho⟩:=hj
  have hjn:j < n:=by rw [← h1];exact (Array.getElem?_eq_some_iff.1 ho).1
  have:=h8 q hq j hjn
  simp only [Bool.or_eq_true,List.contains_iff_mem,List.all_eq_true] at this
  rcases this with h | h
  ·exact absurd h hn
  ·exact anc_of f i (h i hi)
theorem wpB_begin {id:Nat} (q:Nat) (T:TabB ops n ord cs bs qs f) (hm:P.follows .mixedOrders=true) (hS:S w.drew) (h:TabB ops n ord cs bs qs f→S w.drew→wpPh P ops Q S n ord q 0 a w.drew):Code.wp P (.region id ops true) Q a w:=by
 refine wp_region_any hm ?_
 have h1:=T.all.1
 have:=wpAny_of_phase _ _ _ _ (h T hS)
 subst h1
 exact this
/-- The beginning, with the tables of three orders. -/
theorem wpB_begin3 {id:Nat} {ord2 cs2 bs2 ord3 cs3 bs3:List Nat} (q:Nat) (T:TabB ops n ord cs bs qs f) (T2:TabB ops n ord2 cs2 bs2 qs f) (T3:TabB ops n ord3 cs3 bs3 qs f) (hm:P.follows .mixedOrders=true) (hS:S w.drew)
 (h:TabB ops n ord cs bs qs f→TabB ops n ord2 cs2 bs2 qs f→TabB ops n ord3 cs3 bs3 qs f→S w.drew→wpPh P ops Q S n ord q 0 a w.drew):Code.wp P (.region id ops true) Q a w:=wpB_begin q T hm hS fun T=>h T T2 T3
theorem tkb0 (p i d:Nat) {q:Nat} {oi:Oper} (v:Value) (T:TabB ops n ord cs bs qs f) (hy:∀ w,S w→(execOp a.eval oi).run P w=.ok (.value v) w) (hS:S w) (h:wpPh P ops Q S n ord q (p+1) (setT a d v) w)
  (hp:(ord.take q)[p]?=some i) (hc:¬ p ∈ cs) (hb:¬ p ∈ bs) (hq:q ∈ qs) (hi:ops[i]?=some oi)
  (hg:(oi.dst == some d && Region.wanted oi (yielded ops a.tmps))=true) (hQ:∀ c a w,Q (.panic c) (a.put (some d) v) w→Q (.panic c) a w):wpPh P ops Q S n ord q p a w:=by
 obtain ⟨h1,h2,h3,h4,h5,h6,h7,h8⟩:=T.all
 have hp':ord[p]?=some i:=by
  rw [List.getElem?_take] at hp
  split at hp
  ·exact hp
  ·cases hp
 have hlt:p < n:=by have:=(List.getElem?_eq_some_iff.1 hp').1;omega
 simp only [Bool.and_eq_true,beq_iff_eq] at hg
 rw [← put_setT] at h
 unfold wpPh at h ⊢
 rw [show n - p=(n - (p+1))+1 by omega]
 rw [← doneA_step hp'] at h
 exact wpAnyS_first hi (List.mem_of_getElem? hp) (h8 q hq) (Region.noSelect_spec h3) (by rw [hg.1];exact hQ) _ _ _ _ (h7 p (by omega)) (Region.free_spec hi (h4 p i hp' hc hb).1) (by simpa using (h4 p i hp' hc hb).2) (Or.inl ⟨hg.2,hy⟩) hS (by rw [hg.1];exact h)
theorem clb (p i:Nat) {q:Nat} {oi:Oper} (T:TabB ops n ord cs bs qs f) (hc:p ∈ cs) (hp:(ord.take q)[p]?=some i) (hi:ops[i]?=some oi)
  (h:∀ K:Act→World→Prop,Shut (∀ a w,S w→(S w→wpPh P ops Q S n ord q (p+1) a w)→K a w)→if Region.wanted oi (yielded ops a.tmps)=true then Oper.wp P oi a w K Q else K (a.put oi.dst undef) w):wpPh P ops Q S n ord q p a w:=by
 obtain ⟨h1,h2,h3,h4,h5,h6,h7,h8⟩:=T.all
 have hp':ord[p]?=some i:=by
  rw [List.getElem?_take] at hp
  split at hp
  ·exact hp
  ·cases hp
 have hlt:=(h6 p i hc hp').1
 have hr:=(h6 p i hc hp').2
 have hun:(doneA n (ord.take p)).getD i true=false:=(mem_ready.1 (show i ∈ Region.ready .any ops (doneA n (ord.take p)) by rw [hr];simp)).1
 have hl:left (ord.take q) (doneA n (ord.take p))=true:=left_mem (List.mem_of_getElem? hp) hun
 unfold wpPh
 rw [show n - p=(n - (p+1))+1 by omega]
 refine ⟨fun h=>absurd hl (by rw [h];simp),fun _=>⟨fun h=>absurd hr (by rw [h];simp),fun j hj=>?_⟩⟩
 rw [hr] at hj
 obtain rfl:j=i:=by simpa using hj
 exact wpOp_step hi (fun K hK=>h K (fun a w hS hW=>hK a w ⟨hS,by rw [doneA_step hp'];exact hW hS⟩))
/-- Several may come next. -/
theorem brb (p:Nat) {q:Nat} (rs:List Nat) (hr:Region.ready .any ops (doneA n (ord.take p))=rs) (hl:left (ord.take q) (doneA n (ord.take p))=true) (hp:p < n) (hne:rs≠[])
  (h:AllS P ops Q S n ord q p a w rs):wpPh P ops Q S n ord q p a w:=by
 unfold wpPh
 rw [show n - p=(n - (p+1))+1 by omega]
 refine ⟨fun hl'=>?_,fun _=>⟨fun h'=>absurd (hr.symm.trans h') hne,fun i hi=>h i (by rw [← hr];exact hi)⟩⟩
 rw [hl] at hl'
 cases hl'
theorem wpB_next {S':World→Prop} (q q':Nat) (hl:left (ord.take q) (doneA n (ord.take q))=false) (hS:S' w) (h:S' w→wpPh P ops Q S' n ord q' q a w):wpPh P ops Q S n ord q q a w:=by
 have h:=wpAny_of_phase _ _ _ _ (h hS)
 unfold wpPh
 revert h
 generalize n - q=m
 intro h
 cases m with
 | zero=>exact h
 | succ m=>exact ⟨fun _=>h,fun hh=>absurd hh (by rw [hl];simp)⟩
theorem wpB_end {q:Nat} (T:TabB ops n ord cs bs qs f) (h:Q .normal a w):wpPh P ops Q S n ord q n a w:=by
 unfold wpPh
 rw [Nat.sub_self]
 exact ⟨T.all.2.2.2.2.1,h⟩
end
theorem tkb {P:Program} {ops:Array Oper} {Q:Exit→Act→World→Prop} {S:World→Prop} {n f q:Nat} {ord cs bs qs:List Nat} {a a':Act} {w:World} (p i d:Nat) {oi:Oper} {v:Value} (T:TabB ops n ord cs bs qs f) (hS:S w) (h:wpPh P ops Q S n ord q (p+1) a' w)
  (hp:(ord.take q)[p]?=some i:=by rfl) (hc:¬ p ∈ cs:=by decide) (hb:¬ p ∈ bs:=by decide) (hq:q ∈ qs:=by decide)
  (hi:ops[i]?=some oi:=by rfl)
  (hg:(oi.dst == some d && Region.wanted oi (yielded ops a.tmps))=true:=by kernel_rfl)
  (hy:∀ w,S w→(execOp a.eval oi).run P w=.ok (.value v) w:=by (intro w s;(try dsimp only at s);go_simp <;> with_reducible rfl))
  (ha:setT a d v=a':=by (conv=>lhs;dsimp only [setT,List.toList_toArray,put0,putS]))
  (hQ:∀ c a w,Q (.panic c) (a.put (some d) v) w→Q (.panic c) a w:=by exact fun _ _ _ h=>h):wpPh P ops Q S n ord q p a w :=
 tkb0 p i d v T hy hS (by rw [ha];exact h) hp hc hb hq hi hg hQ

end Go.Proofs.YtnlhkgoppjejeaaDoor

/- A list of mails that is copied and grows by one: as it is read, and as it is then the box' own. -/
namespace Go.Proofs.YtnlhkgoppjejeaaDoor
open Go.RowKit
set_option linter.unusedVariables false

/-- Mails as they lay in w. -/
def MailAt (w:World) (_:World) (c:List Value) (m:MailD):Prop:=MailQE w c m Any
theorem MailsQ.at {w x:World} {S:Nat→Prop} {v:Value} {l:List MailD} (h:MailsQ w S v l) (hb:Below w.heap.size w x):Rd 4 (MailAt w) x v l:=by
 rcases h with ⟨rfl,rfl⟩ | ⟨g,cap,cur,cs,fs,hv,hh,h1,h2,h3,h4,h5,h6,h7⟩
 ·exact Rd.nil x
 ·refine ⟨some ⟨g,0,none⟩,cap,cs,hv,h1,h2,(fun h=>by cases h),fun i m hm=>⟨(h5 i m hm).1,(h5 i m hm).2.1⟩,fun hp=>⟨g,0,rfl,Nat.lt_of_lt_of_le (lt_of_heap hh) hb.size,fun i j u hi hu=>?_⟩⟩
  have hh':x.heap[g]?=some (.cells cur _ (0,0)):=(hb.block g (lt_of_heap hh)).trans hh
  rw [Nat.zero_add,cell_of_row x g _ cur _ (0,0) hh']
  exact (h5 i l[i] (List.getElem?_eq_getElem hi)).2.2 j u hu
theorem one_at {w:World}:∀ (x:World) (c:List Value) (m:MailD),MailAt w x c m→∀ y ∈ c,y.oneCell'=true:=by
 rintro x c m ⟨u,rfl,h,-⟩ y hy
 obtain ⟨a,n,cp,rfl⟩:=h.bs.form3
 simp only [List.mem_cons,List.not_mem_nil,or_false] at hy
 rcases hy with rfl | rfl | rfl | rfl <;> rfl
theorem mq_of {w:World} {B n:Nat} {v:Value} {l:List MailD} {xs:List Value} {S:Nat→Prop} (h:w.ownsRow B 67 4 v n xs) (hn:l.length=n)
  (hx:∀ i m,l[i]?=some m→∃ c,c.length=4∧MailQE w c m Any∧∀ j y,c[j]?=some y→xs[i * 4+j]?=some y) (hS:∀ g,v.ownBlock=some g→S g):MailsQ w S v l:=by
 subst hn
 rcases h.2 with ⟨hn,hl⟩ | ⟨g,cap,cur,hv,hg,hh,h1,h2,h3,h4⟩
 ·exact .inl ⟨hn,List.eq_nil_of_length_eq_zero hl⟩
 ·have hpick:∀ i,∃ c,i < l.length→∀ m,l[i]?=some m→c.length=4∧MailQE w c m Any∧∀ j y,c[j]?=some y→xs[i * 4+j]?=some y:=by
   intro i
   by_cases hi:i < l.length
   ·obtain ⟨c,hc⟩:=hx i l[i] (List.getElem?_eq_getElem hi)
    exact ⟨c,fun _ m hm=>by rw [List.getElem?_eq_getElem hi] at hm;cases hm;exact hc⟩
   ·exact ⟨[],fun h=>absurd h hi⟩
  obtain ⟨cs,hcs⟩:=Classical.axiomOfChoice hpick
  refine .inr ⟨g,cap,cur,cs,fun _ _=>False,hv,hh,h1,h2,h3,hS g (by rw [hv];rfl),fun i m hm=>?_,by simp,by simp⟩
  obtain ⟨q1,q2,q3⟩:=hcs i (List.getElem?_eq_some_iff.1 hm).1 m hm
  refine ⟨q2,q1,fun j y hy=>?_⟩
  have:=q3 j y hy
  rw [← h4,List.getElem?_take] at this
  split at this
  ·simpa using this
  ·cases this
section
variable {P : Program} {w : World} {e t : TypeId} {sz bytes B n : Nat} {v : Value} {xs : List Value}
/-- One element more put behind a row of the call's own, in a region that draws. -/
theorem wp_app1 {o:Oper} {a:Act} {K:Act→World→Prop} {Q:Exit→Act→World→Prop} (d:Nat) (hd:o.dst=some d) (s y:Operand)
  (ho:o.op=.call { callee:=.builtin .append,args:=#[s,y],argTypes:=#[t,t] }) (h:w.ownsRow B e sz v n xs) {i:TypeInfo} {z:Value} (ht:P.underlying t=some (.slice e)) (hi:P.info? e=some i) (hz:i.zero=some z) (hsize:i.size=sz) (hby:i.bytes=bytes) (hzs:z.cells.size=sz) (hsz:0 < sz)
  (hs:a.eval s=v) (c:List Value) (hc:c.length=sz) (ad:Addr) (cc:Nat) (hy:a.eval y=.slice (some ad) 1 cc) (hcell:∀ j u,c[j]?=some u→w.cell? (ad.add j)=some u) (h1:∀ u ∈ c,u.oneCell'=true) (hl:n+1≤maxLen) (hb:(n+1) * bytes≤140737488355328) (hB:B≤w.heap.size)
  (k:∀ v' w',w'.ownsRow B e sz v' (n+1) (xs ++ c)→w.grownBy w' v.ownBlock→(v'.ownBlock=v.ownBlock∨v'.ownBlock=some w.heap.size)→K (a.put (some d) v') w'):o.wp P a w K Q:=by
 obtain ⟨v',w',hr,h2,h3,h4,h5⟩:=run_append_own_at (P:=P) w B t o.type e i z sz bytes ht hi hz hsize hby hzs hsz v n xs h ad 1 cc c (by omega) hcell h1 hl hb hB
 unfold Oper.wp execOp
 simp only [ho,resolve,invoke,builtin,Sem.run_bind,Sem.run_pure,Result.andThen_ok,List.map_toArray,List.map_cons,List.map_nil,hs,hy,hr]
 have:=k v' w' h2 h3 h5
 rw [← hd] at this
 exact this
end

end Go.Proofs.YtnlhkgoppjejeaaDoor
