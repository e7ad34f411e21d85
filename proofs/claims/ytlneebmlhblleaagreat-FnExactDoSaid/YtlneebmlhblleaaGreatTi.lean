/- The proof's texts, part 18. -/
import Derived.Test.YtlneebmlhblleaaGreatTc
namespace Go.Proofs.YtlneebmlhblleaaGreat
set_option linter.unusedVariables false
set_option linter.unusedSimpArgs false
set_option maxRecDepth 100000
/- A fQ is looked up in a sJ map, in whatever world the map's block is the same; Qf of package impl. -/
open Go.RowKit Go.Maps
theorem MR.looks {wt w:World} {b n:Nat} {E:aX} {v u:Int} (h:MR wt w b n E) (hv:aB v) (hu:aB u) :
  ∃ p,(∀ w':World,w'.heap[b]?=w.heap[b]?→(Instr.lookup 106 (.map (some b)) (.agg #[.int .i64 v,.int .i64 u]) true).run Tryz.prog w'=.ok (.tuple #[pX p,.bool (cB E v u).isSome]) w')∧∀ m,cB E v u=some m→gK wt (pX p) m:=by
 obtain ⟨D,h1,h2,h3,h4,h5⟩:=h
 have h6:=h5 v u hv hu
 have step:∀ w':World,w'.heap[b]?=w.heap[b]?→∃ p,(Instr.lookup 106 (.map (some b)) (.agg #[.int .i64 v,.int .i64 u]) true).run Tryz.prog w'=.ok (.tuple #[pX p,.bool (cB E v u).isSome]) w'∧D.atKey (dI v u) (.held (.agg #[.int .i64 0,.int .i64 0,.int .i64 0,.slice none 0 0]))=.held (pX p):=fun w' hb=>by
  obtain ⟨es,c,e1,e2⟩:=h1
  have h1':w'.ownsMap Tryz.prog 135 RM b n D:=⟨es,c,hb.trans e1,e2⟩
  obtain ⟨x,ps,hr,hx⟩:=h1'.look_ok nQ vW (OG w') (zd:=.held (.agg #[.int .i64 0,.int .i64 0,.int .i64 0,.slice none 0 0])) (zp:=[]) rfl (rW hv hu)
  rw [MM.has h6] at hr
  obtain ⟨⟨p,rfl⟩,e⟩:=I5 hx
  simp only [Prod.mk.injEq] at e
  exact ⟨p,hr,e.1⟩
 obtain ⟨p,hp,hd⟩:=step w rfl
 refine ⟨p,fun w' hb=>?_,fun m hm=>?_⟩
 ·obtain ⟨p',hp',hd'⟩:=step w' hb
  rw [hd] at hd'
  have:pX p=pX p':=by simpa using hd'
  rw [this]
  exact hp'
 ·rw [hm] at h6
  obtain ⟨y,hy,hz⟩:=h6
  rw [hz] at hd
  simp only [DataW.held.injEq] at hd
  rw [← hd]
  exact hy
/-- A fQ out of the map: its four cells. -/
theorem MR.looked {wt w:World} {b n:Nat} {E:aX} {v u:Int} {ms:List aF} (h:MR wt w b n E) (hv:aB v) (hu:aB u) (hE:dB E v ms) :
  ∃ p0 p1 p2 p3 p4 p5,(∀ w':World,w'.heap[b]?=w.heap[b]?→(Instr.lookup 106 (.map (some b)) (.agg #[.int .i64 v,.int .i64 u]) true).run Tryz.prog w'=.ok (.tuple #[.agg #[.int .i64 p0,.int .i64 p1,.int .i64 p2,.slice p3 p4 p5],.bool (ms.findIdx? fun m=>decide (m.uid=u)).isSome]) w')∧∀ j m,ms.findIdx? (fun m=>decide (m.uid=u))=some j→ms[j]?=some m→p0=m.uid∧p1=m.flags∧p2=m.seq∧m.uid=u∧Bs wt (.slice p3 p4 p5) m.text∧aB m.uid∧aB m.flags∧aB m.seq:=by
 obtain ⟨⟨⟨p0,p1,p2⟩,p3,p4,p5⟩,h1,h2⟩:=h.looks hv hu
 refine ⟨p0,p1,p2,p3,p4,p5,fun w' hw=>?_,fun j m hj hm=>?_⟩
 ·have:=h1 w' hw
  rw [hE.find u hu] at this
  rw [this,show (ms.find? fun m=>decide (m.uid=u)).isSome=(ms.findIdx? fun m=>decide (m.uid=u)).isSome by rw [Bool.eq_iff_iff,List.findIdx?_isSome];simp]
  rfl
 ·have hu':m.uid=u:=by
   obtain ⟨h3,h4,-⟩:=List.findIdx?_eq_some_iff_getElem.1 hj
   rw [aK h3] at hm
   cases hm
   simpa using h4
  obtain ⟨t,e,k⟩:=h2 m ((hE.iff hu m).2 ⟨List.mem_of_getElem? hm,hu'⟩)
  simp only [pX,Value.agg.injEq,Array.mk.injEq,List.cons.injEq,Value.int.injEq,true_and,and_true] at e
  obtain ⟨rfl,rfl,rfl,rfl⟩:=e
  exact ⟨rfl,rfl,rfl,hu',k⟩
theorem ZP (was k:Int) (bx tt:List Int) (uid mode fl si:Int) (tx:List Int) (cv:Value) (w:World) (hc:ig w cv k bx tt uid mode fl si tx) :
  Calls Tryz.prog 117 #[.int .i64 was,cv] w fun e w'=>e=.returned (.int .i64 (gy was mode fl))∧Below w.heap.size w w':=by
 obtain ⟨q0,q1,q2,rfl,g0,g1,g2,-⟩:=hc
 obtain ⟨x0,m0,z0,rfl⟩:=g0.aG
 obtain ⟨x1,m1,z1,rfl⟩:=g1.aG
 obtain ⟨x2,m2,z2,rfl⟩:=g2.aG
 clear g0 g1 g2
 have HB:Hid (Below w.heap.size w (w.alloc (.cells #[.int .i64 k,.slice x0 m0 z0,.slice x1 m1 z1,.int .i64 uid,.int .i64 mode,.int .i64 fl,.int .i64 si,.slice x2 m2 z2] 44))):=bn _ _
 by_cases h1:mode=1
 ·subst h1
  go_enter Tryz.func117,Tryz.ntmps117
  go_wp2
  go_ret
  exact ⟨rfl,HB.out⟩
 ·by_cases h2:mode=2
  ·subst h2
   go_enter Tryz.func117,Tryz.ntmps117
   go_wp2
   go_ret
   exact ⟨rfl,HB.out⟩
  ·have HF:Hid (gy was mode fl=fl):=by show _=_;unfold gy;rw [if_neg h1,if_neg h2]
   have e1:(mode == 1)=false:=by simpa using h1
   have e2:(mode == 2)=false:=by simpa using h2
   clear h1 h2
   go_enter Tryz.func117,Tryz.ntmps117
   go_wp2
   go_ret
   exact ⟨lI HF.out.symm,HB.out⟩
end Go.Proofs.YtlneebmlhblleaaGreat
