/- The proof's texts, part 14. -/
import Derived.Test.YtlneebmlhblleaaGreatTd
namespace Go.Proofs.YtlneebmlhblleaaGreat
open Go.RowKit
set_option linter.unusedVariables false
/- An account behind a pointer: what it reads, what keeps it; a box out of it and back; its boxes put anew. -/
theorem Cj {w w':World} {S:Nat→Prop} {v:Value} {l:List Int} (h:gQ w S v l) (hm:∀ k,S k→k < w.heap.size→Ty w k 3→w'.heap[k]?=w.heap[k]?):gQ w' S v l:=by
 rcases h with h | ⟨g,cap,cur,cs,fs,hv,hh,h1,h2,h3,h4,h5,h6,h7⟩
 ·exact .inl h
 ·exact .inr ⟨g,cap,cur,cs,fs,hv,(hm g h4 (lt_of_heap hh) ⟨_,_,hh⟩).trans hh,h1,h2,h3,h4,h5,h6,h7⟩
theorem Gc {w w':World} {S:Nat→Prop} {xs:List Value} {l:List aD} (h:EL 7 gT w l S xs) (hm:∀ k,S k→k < w.heap.size→w'.heap[k]?=w.heap[k]?) (ht:bT w w' 5) (hg:bT w w' 126):EL 7 gT w' l S xs :=
 h.keep fun _ _ _ hF he=>JY he (fun k hk hlt=>hm k (hF k hk) hlt) ht hg
/-- ah0 in a new row. -/
theorem Qw {w:World} {S:Nat→Prop} {B:Nat} {v:Value} {xs:List Value} {l:List aD} (h:w.ownsRow B 37 7 v l.length xs) (he:EL 7 gT w l S xs) (hS:∀ k,S k→k < B):jS w (fun k=>S k∨B≤k) v l:=by
 obtain ⟨-,⟨rfl,hn⟩ | ⟨g,cap,cur,rfl,hB,hh,h1,h2,h3,h4⟩⟩:=h
 ·exact .inl ⟨rfl,List.length_eq_zero_iff.1 hn⟩
 ·rw [← h4] at he
  exact Ow.mono (he.ow hh h1 h2 h3 fun e=>by have:=hS g e;omega) fun k h=>h.elim .inl fun e=>.inr (by omega)
/-- The account behind a pointer: its block is ga; the boxes and their ah lie in S, what it has seen does not. -/
def aU (w:World) (S:Nat→Prop) (ga:Nat) (a:aJ):Prop :=
 ¬ S ga∧∃ u0 u1,w.heap[ga]?=some (.cells #[.int .i64 a.valid,u0,u1] 33 (0,0))∧jS w S u0 a.boxes∧gQ w (fun k=>¬ S k∧k < w.heap.size) u1 a.seen∧aB a.valid
section
variable {w w' : World} {S : Nat → Prop} {ga : Nat} {a : aJ}
theorem aU.lt (h:aU w S ga a):ga < w.heap.size:=let ⟨_,_,_,h,_⟩:=h;lt_of_heap h
theorem aU.ty (h:aU w S ga a):Ty w ga 33:=let ⟨_,_,_,h,_⟩:=h;⟨_,_,h⟩
theorem aU.below (h:aU w S ga a) (hb:Below w.heap.size w w'):aU w' S ga a :=
 let ⟨hs,u0,u1,h0,h1,h2,r⟩:=h;⟨hs,u0,u1,(hb.block ga (lt_of_heap h0)).trans h0,Gb h1 (fun k _ hk=>hb.block k hk) (gG hb) (gG hb),Ow.mono (Cj h2 fun k _ hk _=>hb.block k hk) fun k h=>⟨h.1,Nat.lt_of_lt_of_le h.2 hb.size⟩,r⟩
/-- Its three cells, and the account as a value. -/
theorem aU.cells (h:aU w S ga a):∃ u0 u1,w.cell? ⟨ga,0,none⟩=some (.int .i64 a.valid)∧w.cell? ⟨ga,1,none⟩=some u0∧w.cell? ⟨ga,2,none⟩=some u1∧jS w S u0 a.boxes∧dM w (.agg #[.int .i64 a.valid,u0,u1]) a:=by
 obtain ⟨-,u0,u1,h0,h1,h2,r⟩:=h
 obtain ⟨c0,c1,c2⟩:=bD h0
 exact ⟨u0,u1,c0,c1,c2,h1,u0,u1,rfl,h1.v,Ow.rd (fun _ _ _ _ h=>h) h2,r⟩
theorem aU.open (h:aU w S ga a) (i:Nat):w.frozen? ⟨ga,i,none⟩=false:=let ⟨_,_,_,h,_⟩:=h;frozen_of_row w ga i _ _ h
/-- Its number is written. -/
theorem aU.J4 (h:aU w S ga a) {n:Int} (hn:aB n):aU (w.setCell ⟨ga,0,none⟩ (.int .i64 n)) S ga ⟨n,a.boxes,a.seen⟩:=by
 have ht:=h.ty
 obtain ⟨hs,u0,u1,h0,h1,h2,r⟩:=h
 have hk:∀ k,k≠ga→(w.setCell ⟨ga,0,none⟩ (.int .i64 n)).heap[k]?=w.heap[k]?:=fun k h=>Below.heap_setCell _ _ _ _ h
 refine ⟨hs,u0,u1,aP (i:=0) h0,Gb h1 (fun k h _=>hk k fun e=>hs (e ▸ h)) (iT ht (by decide)) (iT ht (by decide)),Ow.mono (Cj h2 fun k _ _ hT=>iT ht (by decide) k hT) fun k h=>⟨h.1,by simpa [World.setCell] using h.2⟩,hn⟩
/-- A box out of it, and behind a call that turns that box alone back into it. -/
theorem aU.at (h:aU w S ga a) {i:Nat} {b:aD} (hb:a.boxes[i]?=some b) :
  ∃ g cap S1,w.cell? ⟨ga,1,none⟩=some (.slice (some ⟨g,0,none⟩) a.boxes.length cap)∧S g∧aN w S1 g (i * 7) b∧(∀ k,S1 k→S k∧k≠g) ∧
   ∀ (w':World) (b':aD) (sM:Nat→Prop),Turns w w' S1 g (i * 7)→aN w' sM g (i * 7) b'→(∀ k,sM k→S1 k∨w.heap.size≤k)→aU w' (fun k=>S k∨w.heap.size≤k) ga (aL a i b'):=by
 have hlt:=h.lt
 obtain ⟨hs,u0,u1,h0,h1,h2,r⟩:=h
 obtain ⟨-,c1,-⟩:=bD h0
 obtain ⟨g,cap,S1,rfl,hg,hp,hS1,hback⟩:=h1.at hb
 refine ⟨g,cap,S1,c1,hg,hp,hS1,fun w' b' sM ht hp' hS'=>⟨fun h=>h.elim hs fun h=>by omega,_,u1,?_,hback w' b' sM ht hp' hS',?_,r⟩⟩
 ·exact (ht.2.1 ga hlt (fun e=>hs (e ▸ hg)) fun h=>hs (hS1 _ h).1).trans h0
 ·refine Ow.mono (Cj h2 fun k hk hkl _=>ht.2.1 k hkl (fun e=>hk.1 (e ▸ hg)) fun h=>hk.1 (hS1 _ h).1) fun k h=>⟨fun h'=>h'.elim h.1 fun h'=>by have:=h.2;omega,Nat.lt_of_lt_of_le h.2 ht.1⟩
end
/- A fQ of a box behind a pointer: its four cells, its text. -/
/-- A text by the type of its block: read wherever the bytes stay. -/
theorem RO.stay {w:World} {u:Value} {tx:List Int} (h:RO w Any u tx):∀ w':World,w.heap.size≤w'.heap.size→bT w w' 5→Bs w' u tx:=fun _ _ ht=>(mR h ht).bs
theorem aN.J5 {w:World} {S:Nat→Prop} {g o i:Nat} {b:aD} {m:aF} (h:aN w S g o b) (hm:b.ah[i]?=some m) :
  ∃ mb cap u,w.cell? ⟨g,o+4,none⟩=some (.slice (some ⟨mb,0,none⟩) b.ah.length cap)∧b.ah.length≤cap∧mb < w.heap.size∧w.cell? ⟨mb,i * 4,none⟩=some (.int .i64 m.uid)∧w.cell? ⟨mb,i * 4+1,none⟩=some (.int .i64 m.flags)∧w.cell? ⟨mb,i * 4+2,none⟩=some (.int .i64 m.seq)∧w.cell? ⟨mb,i * 4+3,none⟩=some u ∧
   RO w Any u m.text∧aB m.uid∧aB m.flags∧aB m.seq:=by
 obtain ⟨cur,c,hh,⟨u0,u1,u2,e,h1,h2,h3,r⟩,hc⟩:=h
 rcases h2 with ⟨_,h⟩ | ⟨mb,cap,mc,cs,fs,hv,hhm,b1,b2,b3,b4,b5,b6,b7⟩
 ·rw [h] at hm;simp at hm
 obtain ⟨⟨u,ec,hro,i0,i1,i2⟩,hl,hcs⟩:=b5 i m hm
 have hcell:∀ j x,(cs i)[j]?=some x→w.cell? ⟨mb,i * 4+j,none⟩=some x:=fun j x hx=>by
  rw [cell_of_row w mb _ mc _ (0,0) hhm]
  exact hcs j x hx
 refine ⟨mb,cap,u,?_,b1,lt_of_heap hhm,hcell 0 _ (by rw [ec];rfl),hcell 1 _ (by rw [ec];rfl),hcell 2 _ (by rw [ec];rfl),hcell 3 _ (by rw [ec];rfl),hro,i0,i1,i2⟩
 rw [cell_of_row w g _ cur _ (0,0) hh,← hv]
 exact hc 4 u1 (by rw [e];rfl)
/- An account behind a pointer: what a call that is given it may turn; its blocks, cut to those that are there. -/
/-- What a call turns that is given an account: its block (not what it has seen), and blocks in S; nothing else that is old. -/
def aT (w w':World) (S:Nat→Prop) (ga:Nat):Prop :=
 w.heap.size≤w'.heap.size∧(∀ k,k < w.heap.size→k≠ga→¬ S k→w'.heap[k]?=w.heap[k]?)∧bT w w' 5∧bT w w' 126∧w'.os=w.os∧w'.tape=w.tape∧w'.output=w.output∧(ga < w.heap.size→¬ S ga→w'.cell? ⟨ga,2,none⟩=w.cell? ⟨ga,2,none⟩)
section
variable {w w' w'' : World} {S S' S1 : Nat → Prop} {ga g o : Nat} {a : aJ}
theorem aT.refl (w:World) (S:Nat→Prop) (ga:Nat):aT w w S ga:=⟨Nat.le_refl _,fun _ _ _ _=>rfl,bT.refl _ _,bT.refl _ _,rfl,rfl,rfl,fun _ _=>rfl⟩
theorem aT.trans (h:aT w w' S ga) (h':aT w' w'' S' ga) (hS:∀ k,S' k→S k∨w.heap.size≤k):aT w w'' S ga :=
 ⟨Nat.le_trans h.1 h'.1,fun k hk hg hs=>(h'.2.1 k (Nat.lt_of_lt_of_le hk h.1) hg (fun h2=>(hS k h2).elim hs (fun h3=>by omega))).trans (h.2.1 k hk hg hs),h.2.2.1.trans h'.2.2.1,h.2.2.2.1.trans h'.2.2.2.1,h'.2.2.2.2.1.trans h.2.2.2.2.1,h'.2.2.2.2.2.1.trans h.2.2.2.2.2.1,h'.2.2.2.2.2.2.1.trans h.2.2.2.2.2.2.1,fun h1 h2=>(h'.2.2.2.2.2.2.2 (Nat.lt_of_lt_of_le h1 h.1) (fun h3=>(hS ga h3).elim h2 (fun h4=>by omega))).trans (h.2.2.2.2.2.2.2 h1 h2)⟩
theorem aT.below (h:Below w.heap.size w w'):aT w w' S ga:=⟨h.size,fun k hk _ _=>h.block k hk,gG h,gG h,h.os,h.tape,h.output,fun h1 _=>h.cell (p:=⟨ga,2,none⟩) h1⟩
theorem aT.box (h:Turns w w' S1 g o) (hg:S g) (hS:∀ k,S1 k→S k):aT w w' S ga :=
 ⟨h.1,fun k hk _ hs=>h.2.1 k hk (fun e=>hs (e ▸ hg)) (fun h=>hs (hS k h)),h.2.2.1,h.2.2.2.1,h.2.2.2.2.2.1,h.2.2.2.2.2.2.1,h.2.2.2.2.2.2.2,fun h1 h2=>by unfold World.cell?;rw [h.2.1 ga h1 (fun e=>h2 (e ▸ hg)) (fun h=>h2 (hS ga h))]⟩
theorem aT.set {i:Nat} {x:Value} (h:aU w S' ga a) (hi:i≠2:=by decide):aT w (w.setCell ⟨ga,i,none⟩ x) S ga :=
 ⟨by rw [aZ];exact Nat.le_refl _,fun k _ hg _=>Below.heap_setCell _ _ _ _ hg,iT h.ty (by decide),iT h.ty (by decide),rfl,rfl,rfl,fun _ _=>by
  obtain ⟨-,u0,u1,hh,-⟩:=h
  rw [cell_of_row _ _ _ _ _ (0,0) (aP (i:=i) (v:=x) hh),cell_of_row _ _ _ _ _ (0,0) hh,Array.getElem?_setIfInBounds_ne hi]⟩
theorem aT.wide (h:aT w w' S ga) (hS:∀ k,S k→S' k):aT w w' S' ga:=⟨h.1,fun k h1 h2 h3=>h.2.1 k h1 h2 (fun h4=>h3 (hS k h4)),h.2.2.1,h.2.2.2.1,h.2.2.2.2.1,h.2.2.2.2.2.1,h.2.2.2.2.2.2.1,fun h1 h2=>h.2.2.2.2.2.2.2 h1 fun h3=>h2 (hS ga h3)⟩
theorem jS.cut {v:Value} {l:List aD} (h:jS w S v l):jS w (fun k=>S k∧k < w.heap.size) v l:=by
 rcases h with h | ⟨g,cap,cur,cs,fs,hv,hh,h1,h2,h3,h4,h5,h6,h7⟩
 ·exact .inl h
 ·refine .inr ⟨g,cap,cur,cs,fun i k=>fs i k∧k < w.heap.size,hv,hh,h1,h2,h3,⟨h4,lt_of_heap hh⟩,fun i x hx=>⟨?_,(h5 i x hx).2⟩,fun i k hi hk=>⟨⟨(h6 i k hi hk.1).1,hk.2⟩,(h6 i k hi hk.1).2⟩,fun i j k hi hj hne hk hk'=>h7 i j k hi hj hne hk.1 hk'.1⟩
  obtain ⟨u0,u1,u2,e,e1,e2,e3,r⟩:=(h5 i x hx).1
  refine ⟨u0,u1,u2,e,e1,?_,Ga e3,r⟩
  rcases e2 with h | ⟨m,cap,cu,cs,fs,hv,hm,k1,k2,k3,k4,k5,k6,k7⟩
  ·exact .inl h
  ·exact .inr ⟨m,cap,cu,cs,fun _ _=>False,hv,hm,k1,k2,k3,⟨k4,lt_of_heap hm⟩,k5,by simp,by simp⟩
theorem aU.cut (h:aU w S ga a):aU w (fun k=>S k∧k < w.heap.size) ga a :=
 let ⟨hs,u0,u1,h0,h1,h2,r⟩:=h;⟨fun h=>hs h.1,u0,u1,h0,jS.cut h1,Ow.mono h2 fun k h=>⟨fun h'=>h.1 h'.1,h.2⟩,r⟩
/-- It stays where a call turns none of its blocks. -/
theorem aU.qy (h:aU w S ga a) (hsz:w.heap.size≤w'.heap.size) (hg:w'.heap[ga]?=w.heap[ga]?) (hm:∀ k,S k→k < w.heap.size→w'.heap[k]?=w.heap[k]?) (ht:bT w w' 5) (hq:bT w w' 126) (hn:bT w w' 3):aU w' S ga a :=
 let ⟨hs,u0,u1,h0,h1,h2,r⟩:=h;⟨hs,u0,u1,hg.trans h0,Gb h1 hm ht hq,Ow.mono (Cj h2 fun k _ _ hT=>hn k hT) fun k h=>⟨h.1,Nat.lt_of_lt_of_le h.2 hsz⟩,r⟩
end
end Go.Proofs.YtlneebmlhblleaaGreat
