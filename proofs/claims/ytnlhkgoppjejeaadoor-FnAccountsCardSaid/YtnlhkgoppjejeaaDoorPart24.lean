/- The proof's texts, part 24. -/
import Derived.Test.YtnlhkgoppjejeaaDoorPart3
import Derived.Test.YtnlhkgoppjejeaaDoorPart2
import Derived.Test.YtnlhkgoppjejeaaDoorPart1
import Derived.Test.YtnlhkgoppjejeaaDoorPart23

/- What l3parts and l3seq of package spec do. -/
namespace Go.Proofs.YtnlhkgoppjejeaaDoor
open Go.RowKit
set_option maxRecDepth 100000

set_option maxHeartbeats 400000 in
theorem l3parts_any (k:Int) (w:World) :
  Calls Tryd.prog 65 #[.int .i64 k] w fun e w'=>e=.returned (.tuple #[.bool (toB k),.bool (uidB k),.bool (modeB k),.bool (sinceB k),.bool (textsB k)])∧w'=w:=by
 go_enter Tryd.func65,Tryd.ntmps65
 go_wp2
 all_goals exact bodyPost_ret (v:=.tuple #[.bool (toB k),.bool (uidB k),.bool (modeB k),.bool (sinceB k),.bool (textsB k)]) (by simp [results,Tryd.results65,go_sem,toB,uidB,modeB,sinceB,textsB, *] <;> (simp only [beq_iff_eq,beq_eq_false_iff_ne,ne_eq] at *;omega)) rfl ⟨rfl,rfl⟩

end Go.Proofs.YtnlhkgoppjejeaaDoor

/- Commands as data. -/
namespace Go.Proofs.YtnlhkgoppjejeaaDoor
open Go.RowKit

structure CmdD where
 k:Int
 bx:List Int
 tt:List Int
 uid:Int
 mode:Int
 fl:Int
 si:Int
 tx:List Int
theorem CmdR.set {w:World} {g i B T:Nat} {v x:Value} {k:Int} {bx tt:List Int} {uid mode fl si:Int} {tx:List Int} (h:CmdR w B T v k bx tt uid mode fl si tx) (hd:g < B∨T≤g):CmdR (w.setCell ⟨g,i,none⟩ x) B T v k bx tt uid mode fl si tx :=
 let ⟨u0,u1,u2,T0,T1,hv,h0,h1,h2,r0,r1,r2,r⟩:=h;⟨u0,u1,u2,T0,T1,hv,h0.set (by omega),h1.set (by omega),h2.set (by omega),r0,r1,r2,r⟩

end Go.Proofs.YtnlhkgoppjejeaaDoor

/- What l3cmd of package spec draws: a command that may be. -/
namespace Go.Proofs.YtnlhkgoppjejeaaDoor
open Go.RowKit
set_option linter.unusedVariables false
set_option linter.unusedSimpArgs false

/-- Bytes of one's own, or none. -/
def OwnX (w:World) (v:Value) (l:List Int):Prop:=(v=.slice none 0 0∧l=[])∨∃ q,OwnQ w q v l
/-- Bytes that lie in none of three blocks, but behind the last one. -/
def QB (w:World) (g k rr:Nat) (v:Value) (l:List Int):Prop:=(∃ a n c,v=.slice a n c)∧Bs w v l∧v.ownBlock≠some g∧v.ownBlock≠some k∧v.ownBlock≠some rr∧(∀ b,v.ownBlock=some b→rr < b∧b < w.heap.size)∧OwnX w v l
/-- The text: none, or bytes of the call's own beside all else. -/
def TxO (w:World) (g k rr:Nat) (v0 v1 v2:Value) (l:List Int):Prop:=(v2=.slice none 0 0∧l=[])∨∃ q,OwnQ w q v2 l∧v0.ownBlock≠some q∧v1.ownBlock≠some q∧q≠g∧q≠k∧rr < q
/-- Where l3cmd stands. -/
structure XSt (w0 wI w:World) (g k rr:Nat) (cv:Value) (L:List Int) (c:CmdD):Prop where
 cur:Cur w0 w g cv L
 gr:wI.grownBy w (some g)
 res:w.heap[rr]?=some (.cells #[.int .i64 0,.slice none 0 0,.slice none 0 0,.int .i64 0,.int .i64 0,.int .i64 0,.int .i64 0,.slice none 0 0] 80 (0,0))
 cmd:∃ v0 v1 v2,w.heap[k]?=some (.cells #[.int .i64 c.k,v0,v1,.int .i64 c.uid,.int .i64 c.mode,.int .i64 c.fl,.int .i64 c.si,v2] 80 (0,0))∧QB w g k rr v0 c.bx∧QB w g k rr v1 c.tt∧TxO w g k rr v0 v1 v2 c.tx
/-- Where the blocks lie. -/
structure XPl (w0 wI:World) (g k rr:Nat):Prop where
 gI:g < wI.heap.size
 g0:w0.heap.size≤g
 kI:wI.heap.size≤k
 rI:wI.heap.size≤rr
 kr:k≠rr
section
variable {w0 wI w w' : World} {g k rr : Nat} {cv v v0 v1 v2 : Value} {L l : List Int} {c : CmdD}
theorem OwnX.gb {j:Nat} (h:OwnX w v l) (hG:w.grownBy w' (some j)) (hj:v.ownBlock≠some j):OwnX w' v l:=by
 rcases h with h | ⟨q,h⟩
 ·exact .inl h
 ·refine .inr ⟨q,h.frame (hG.block q h.lt fun e=>hj ?_)⟩
  obtain ⟨cap,rfl⟩:=h.form
  simp only [Value.ownBlock]
  exact e
theorem QB.gb {j:Nat} (h:QB w g k rr v l) (hG:w.grownBy w' (some j)) (hj:j=g∨j=k∨j=rr):QB w' g k rr v l:=by
 refine ⟨h.1,h.2.1.grown hG ?_,h.2.2.1,h.2.2.2.1,h.2.2.2.2.1,fun b hb=>⟨(h.2.2.2.2.2.1 b hb).1,Nat.lt_of_lt_of_le (h.2.2.2.2.2.1 b hb).2 hG.size⟩,h.2.2.2.2.2.2.gb hG ?_⟩
 all_goals
  rcases hj with rfl | rfl | rfl
  ·exact h.2.2.1
  ·exact h.2.2.2.1
  ·exact h.2.2.2.2.1
theorem TxO.gb {j:Nat} (h:TxO w g k rr v0 v1 v2 l) (hG:w.grownBy w' (some j)) (hj:j=g∨j=k∨j=rr):TxO w' g k rr v0 v1 v2 l:=by
 rcases h with h | ⟨q,h,h0,h1,h2,h3,h4⟩
 ·exact .inl h
 ·exact .inr ⟨q,h.frame (hG.block q h.lt (by simp only [ne_eq,Option.some.injEq];omega)),h0,h1,h2,h3,h4⟩
theorem TxO.bs (h:TxO w g k rr v0 v1 v2 l):Bs w v2 l:=by
 rcases h with ⟨rfl,rfl⟩ | ⟨q,h,-⟩
 ·exact bs_nil w
 ·exact h.bs
theorem TxO.form (h:TxO w g k rr v0 v1 v2 l):∃ a n c,v2=.slice a n c:=by
 rcases h with ⟨rfl,rfl⟩ | ⟨q,h,-⟩
 ·exact ⟨_,_,_,rfl⟩
 ·obtain ⟨cap,rfl⟩:=h.form;exact ⟨_,_,_,rfl⟩
theorem XSt.draw (h:XSt w0 wI w g k rr cv L c) (P:XPl w0 wI g k rr) (hC:Cur w0 w' g cv L) (hG:w.grownBy w' (some g)):XSt w0 wI w' g k rr cv L c:=by
 obtain ⟨v0,v1,v2,hc,q0,q1,q2⟩:=h.cmd
 have p1:=P.gI
 have p2:=P.kI
 have p3:=P.rI
 exact ⟨hC,gb_trans' h.gr hG,(hG.block rr (lt_of_heap h.res) (by simp;omega)).trans h.res,v0,v1,v2,(hG.block k (lt_of_heap hc) (by simp;omega)).trans hc,q0.gb hG (.inl rfl),q1.gb hG (.inl rfl),q2.gb hG (.inl rfl)⟩
theorem set_gb (w:World) (k i:Nat) (x:Value):w.grownBy (w.setCell ⟨k,i,none⟩ x) (some k):=grownBy_setCell (World.grownBy.refl _ _)
theorem gb_setI {i:Nat} {x:Value} (h:wI.grownBy w (some g)) (hk:wI.heap.size≤k):wI.grownBy (w.setCell ⟨k,i,none⟩ x) (some g):=⟨h.os,h.tape,h.output,by rw [box_size];exact h.size,fun j hj hne=>(Below.heap_setCell _ _ _ _ (show j≠k by omega)).trans (h.block j hj hne)⟩
theorem XSt.setI {j:Nat} {n:Int} {c':CmdD} (h:XSt w0 wI w g k rr cv L c) (P:XPl w0 wI g k rr) (hj:(j=0∧c' = { c with k:=n })∨(j=3∧c' = { c with uid:=n })∨(j=4∧c' = { c with mode:=n })∨(j=5∧c' = { c with fl:=n })∨(j=6∧c' = { c with si:=n })):XSt w0 wI (w.setCell ⟨k,j,none⟩ (.int .i64 n)) g k rr cv L c':=by
 obtain ⟨v0,v1,v2,hc,q0,q1,q2⟩:=h.cmd
 have p1:=P.gI
 have p2:=P.kI
 have p0:=P.g0
 have hG:=set_gb w k j (.int .i64 n)
 have hq:k=g∨k=k∨k=rr:=.inr (.inl rfl)
 refine ⟨h.cur.set (by omega) (by omega),gb_setI h.gr p2,box_other (k:=k) (i:=j) (v:=.int .i64 n) h.res (Ne.symm P.kr),?_⟩
 rcases hj with ⟨rfl,rfl⟩ | ⟨rfl,rfl⟩ | ⟨rfl,rfl⟩ | ⟨rfl,rfl⟩ | ⟨rfl,rfl⟩
 ·exact ⟨v0,v1,v2,box_set (i:=0) (v:=.int .i64 n) hc,q0.gb hG hq,q1.gb hG hq,q2.gb hG hq⟩
 ·exact ⟨v0,v1,v2,box_set (i:=3) (v:=.int .i64 n) hc,q0.gb hG hq,q1.gb hG hq,q2.gb hG hq⟩
 ·exact ⟨v0,v1,v2,box_set (i:=4) (v:=.int .i64 n) hc,q0.gb hG hq,q1.gb hG hq,q2.gb hG hq⟩
 ·exact ⟨v0,v1,v2,box_set (i:=5) (v:=.int .i64 n) hc,q0.gb hG hq,q1.gb hG hq,q2.gb hG hq⟩
 ·exact ⟨v0,v1,v2,box_set (i:=6) (v:=.int .i64 n) hc,q0.gb hG hq,q1.gb hG hq,q2.gb hG hq⟩
theorem QB.of {gq N:Nat} (h:OwnQ w gq v l) (hN:N≤gq) (h1:g < N) (h2:k < N) (h3:rr < N):QB w g k rr v l:=by
 have hlt:=h.lt
 obtain ⟨cap,rfl⟩:=h.form
 have e:(Value.slice (some ⟨gq,0,none⟩) l.length cap).ownBlock=some gq:=rfl
 refine ⟨⟨_,_,_,rfl⟩,h.bs,?_,?_,?_,?_,.inr ⟨gq,h⟩⟩
 ·rw [e];simp;omega
 ·rw [e];simp;omega
 ·rw [e];simp;omega
 ·rw [e];rintro b hb;cases hb;omega
theorem QB.nil (w:World) (g k rr:Nat):QB w g k rr (.slice none 0 0) []:=⟨⟨_,_,_,rfl⟩,bs_nil w,by simp [Value.ownBlock],by simp [Value.ownBlock],by simp [Value.ownBlock],by simp [Value.ownBlock],.inl ⟨rfl,rfl⟩⟩
/-- Bytes that were made since are put into a cell. -/
theorem XSt.setN {j gq:Nat} {u:Value} {x:List Int} {c':CmdD} (h:XSt w0 wI w g k rr cv L c) (P:XPl w0 wI g k rr) (hC:Cur w0 w' g cv L) (hG:w.grownBy w' (some g)) (O:OwnQ w' gq u x) (hge:w.heap.size≤gq) (hj:(j=1∧c' = { c with bx:=x })∨(j=2∧c' = { c with tt:=x })∨(j=7∧c' = { c with tx:=x })):XSt w0 wI (w'.setCell ⟨k,j,none⟩ u) g k rr cv L c':=by
 have p1:=P.gI
 have p2:=P.kI
 have p0:=P.g0
 have hgl:=h.cur.lt.2
 have hrl:=lt_of_heap h.res
 obtain ⟨v0,v1,v2,hc,q0,q1,q2⟩:=h.cmd
 have hkl:=lt_of_heap hc
 have Q:=QB.of O hge hgl hkl hrl
 have hD:=h.draw P hC hG
 have hc':=(hG.block k hkl (by simp;omega)).trans hc
 have hq:k=g∨k=k∨k=rr:=.inr (.inl rfl)
 have g0:=q0.gb hG (.inl rfl)
 have g1:=q1.gb hG (.inl rfl)
 have g2:=q2.gb hG (.inl rfl)
 have hS:=set_gb w' k j u
 obtain ⟨cp,rfl⟩:=O.form
 refine ⟨hD.cur.set (by omega) (by omega),gb_setI hD.gr p2,box_other (k:=k) (i:=j) (v:=.slice (some ⟨gq,0,none⟩) x.length cp) hD.res (Ne.symm P.kr),?_⟩
 rcases hj with ⟨rfl,rfl⟩ | ⟨rfl,rfl⟩ | ⟨rfl,rfl⟩
 ·refine ⟨_,v1,v2,box_set (i:=1) hc',Q.gb hS hq,g1.gb hS hq,?_⟩
  rcases q2 with e | ⟨q,t,t0,t1,t2,t3,t4⟩
  ·exact .inl e
  ·have hl:=t.lt
   refine .inr ⟨q,(t.frame (hG.block q hl (by simp;omega))).frame (Below.heap_setCell _ _ _ _ (show q≠k from t3)),?_,t1,t2,t3,t4⟩
   simp only [Value.ownBlock,ne_eq,Option.some.injEq];omega
 ·refine ⟨v0,_,v2,box_set (i:=2) hc',g0.gb hS hq,Q.gb hS hq,?_⟩
  rcases q2 with e | ⟨q,t,t0,t1,t2,t3,t4⟩
  ·exact .inl e
  ·have hl:=t.lt
   refine .inr ⟨q,(t.frame (hG.block q hl (by simp;omega))).frame (Below.heap_setCell _ _ _ _ (show q≠k from t3)),t0,?_,t2,t3,t4⟩
   simp only [Value.ownBlock,ne_eq,Option.some.injEq];omega
 ·refine ⟨v0,v1,_,box_set (i:=7) hc',g0.gb hS hq,g1.gb hS hq,.inr ⟨gq,O.frame (Below.heap_setCell _ _ _ _ (show gq≠k by omega)),fun e=>?_,fun e=>?_,by omega,by omega,by omega⟩⟩
  ·have:=(q0.2.2.2.2.2.1 gq e).2;omega
  ·have:=(q1.2.2.2.2.2.1 gq e).2;omega
theorem XSt.setZ {c':CmdD} (h:XSt w0 wI w g k rr cv L c) (P:XPl w0 wI g k rr) (hj:c' = { c with bx:=[] }):XSt w0 wI (w.setCell ⟨k,1,none⟩ (.slice none 0 0)) g k rr cv L c':=by
 obtain ⟨v0,v1,v2,hc,q0,q1,q2⟩:=h.cmd
 have p1:=P.gI
 have p2:=P.kI
 have p0:=P.g0
 have hS:=set_gb w k 1 (.slice none 0 0)
 have hq:k=g∨k=k∨k=rr:=.inr (.inl rfl)
 subst hj
 refine ⟨h.cur.set (by omega) (by omega),gb_setI h.gr p2,box_other (k:=k) (i:=1) (v:=.slice none 0 0) h.res (Ne.symm P.kr),.slice none 0 0,v1,v2,box_set (i:=1) hc,QB.nil _ _ _ _,q1.gb hS hq,?_⟩
 rcases q2.gb hS hq with e | ⟨q,t,t0,t1,r⟩
 ·exact .inl e
 ·exact .inr ⟨q,t,by simp [Value.ownBlock],t1,r⟩
theorem XSt.below (h:XSt w0 wI w g k rr cv L c) (P:XPl w0 wI g k rr) (hb:Below w.heap.size w w'):XSt w0 wI w' g k rr cv L c:=h.draw P (h.cur.below hb) (gb_below' (World.grownBy.refl _ _) hb)
theorem XSt.cells (h:XSt w0 wI w g k rr cv L c):∃ v1 v2 v7:Value,w.cell? ⟨k,0,none⟩=some (.int .i64 c.k)∧w.cell? ⟨k,1,none⟩=some v1∧w.cell? ⟨k,2,none⟩=some v2∧w.cell? ⟨k,3,none⟩=some (.int .i64 c.uid)∧w.cell? ⟨k,4,none⟩=some (.int .i64 c.mode)∧w.cell? ⟨k,5,none⟩=some (.int .i64 c.fl)∧w.cell? ⟨k,6,none⟩=some (.int .i64 c.si)∧w.cell? ⟨k,7,none⟩=some v7∧(∀ i,w.frozen? ⟨k,i,none⟩=false)∧k < w.heap.size:=by
 obtain ⟨v0,v1,v2,hc,-⟩:=h.cmd
 obtain ⟨d0,d1,d2,d3,d4,d5,d6,d7,d8⟩:=box8l hc
 exact ⟨_,_,_,d0,d1,d2,d3,d4,d5,d6,d7,(box8z hc).1,d8⟩
end

end Go.Proofs.YtnlhkgoppjejeaaDoor

/- Eight cells of a block that are set. -/
namespace Go.Proofs.YtnlhkgoppjejeaaDoor
open Go.RowKit
set_option linter.unusedVariables false

section
variable {w : World} {R : Nat} {t : TypeId} {c0 c1 c2 c3 c4 c5 c6 c7 d0 d1 d2 d3 d4 d5 d6 d7 : Value}
theorem heap_set8 (h:w.heap[R]?=some (.cells #[c0,c1,c2,c3,c4,c5,c6,c7] t (0,0))):((((((((w.setCell ⟨R,0,none⟩ d0).setCell ⟨R,1,none⟩ d1).setCell ⟨R,2,none⟩ d2).setCell ⟨R,3,none⟩ d3).setCell ⟨R,4,none⟩ d4).setCell ⟨R,5,none⟩ d5).setCell ⟨R,6,none⟩ d6).setCell ⟨R,7,none⟩ d7).heap[R]?=some (.cells #[d0,d1,d2,d3,d4,d5,d6,d7] t (0,0)):=by
 have e0:(w.setCell ⟨R,0,none⟩ d0).heap[R]?=some (.cells #[d0,c1,c2,c3,c4,c5,c6,c7] t (0,0)):=box_set h
 have e1:((w.setCell ⟨R,0,none⟩ d0).setCell ⟨R,1,none⟩ d1).heap[R]?=some (.cells #[d0,d1,c2,c3,c4,c5,c6,c7] t (0,0)):=box_set e0
 have e2:(((w.setCell ⟨R,0,none⟩ d0).setCell ⟨R,1,none⟩ d1).setCell ⟨R,2,none⟩ d2).heap[R]?=some (.cells #[d0,d1,d2,c3,c4,c5,c6,c7] t (0,0)):=box_set e1
 have e3:((((w.setCell ⟨R,0,none⟩ d0).setCell ⟨R,1,none⟩ d1).setCell ⟨R,2,none⟩ d2).setCell ⟨R,3,none⟩ d3).heap[R]?=some (.cells #[d0,d1,d2,d3,c4,c5,c6,c7] t (0,0)):=box_set e2
 have e4:(((((w.setCell ⟨R,0,none⟩ d0).setCell ⟨R,1,none⟩ d1).setCell ⟨R,2,none⟩ d2).setCell ⟨R,3,none⟩ d3).setCell ⟨R,4,none⟩ d4).heap[R]?=some (.cells #[d0,d1,d2,d3,d4,c5,c6,c7] t (0,0)):=box_set e3
 have e5:((((((w.setCell ⟨R,0,none⟩ d0).setCell ⟨R,1,none⟩ d1).setCell ⟨R,2,none⟩ d2).setCell ⟨R,3,none⟩ d3).setCell ⟨R,4,none⟩ d4).setCell ⟨R,5,none⟩ d5).heap[R]?=some (.cells #[d0,d1,d2,d3,d4,d5,c6,c7] t (0,0)):=box_set e4
 have e6:(((((((w.setCell ⟨R,0,none⟩ d0).setCell ⟨R,1,none⟩ d1).setCell ⟨R,2,none⟩ d2).setCell ⟨R,3,none⟩ d3).setCell ⟨R,4,none⟩ d4).setCell ⟨R,5,none⟩ d5).setCell ⟨R,6,none⟩ d6).heap[R]?=some (.cells #[d0,d1,d2,d3,d4,d5,d6,c7] t (0,0)):=box_set e5
 have e7:((((((((w.setCell ⟨R,0,none⟩ d0).setCell ⟨R,1,none⟩ d1).setCell ⟨R,2,none⟩ d2).setCell ⟨R,3,none⟩ d3).setCell ⟨R,4,none⟩ d4).setCell ⟨R,5,none⟩ d5).setCell ⟨R,6,none⟩ d6).setCell ⟨R,7,none⟩ d7).heap[R]?=some (.cells #[d0,d1,d2,d3,d4,d5,d6,d7] t (0,0)):=box_set e6
 exact e7
theorem below_set8 {w0:World} {N:Nat} (h:Below N w0 w) (hN:N≤R):Below N w0 ((((((((w.setCell ⟨R,0,none⟩ d0).setCell ⟨R,1,none⟩ d1).setCell ⟨R,2,none⟩ d2).setCell ⟨R,3,none⟩ d3).setCell ⟨R,4,none⟩ d4).setCell ⟨R,5,none⟩ d5).setCell ⟨R,6,none⟩ d6).setCell ⟨R,7,none⟩ d7) :=
 (((((((h.setCell (p:=⟨R,0,none⟩) hN _).setCell (p:=⟨R,1,none⟩) hN _).setCell (p:=⟨R,2,none⟩) hN _).setCell (p:=⟨R,3,none⟩) hN _).setCell (p:=⟨R,4,none⟩) hN _).setCell (p:=⟨R,5,none⟩) hN _).setCell (p:=⟨R,6,none⟩) hN _).setCell (p:=⟨R,7,none⟩) hN _
end

end Go.Proofs.YtnlhkgoppjejeaaDoor
