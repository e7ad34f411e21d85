/- The proof's texts, part 28. -/
import Derived.Test.YtnlhkgoppjejeaaDoorPart2
import Derived.Test.YtnlhkgoppjejeaaDoorPart27

/- Elements with what they lead to, as a list of cells: taken apart and put together in another order of blocks (boxes into a new row). -/
namespace Go.Proofs.YtnlhkgoppjejeaaDoor
open Go.RowKit

section
variable {α : Type} {sz : Nat} {E : World → List Value → α → (Nat → Prop) → Prop} {w w' : World}
/-- The cells xs are those of the elements l, one behind the other; what they lead to lies in S, apart from one another. -/
def EL (sz:Nat) (E:World→List Value→α→(Nat→Prop)→Prop) (w:World):List α→(Nat→Prop)→List Value→Prop
 | [],_,xs=>xs=[]
 | x :: l,S,xs=>∃ (c ys:List Value) (F S':Nat→Prop),xs=c ++ ys∧c.length=sz∧E w c x F∧EL sz E w l S' ys∧(∀ b,F b→S b)∧(∀ b,S' b→S b)∧∀ b,F b→¬ S' b
theorem EL.len:∀ {l:List α} {S:Nat→Prop} {xs:List Value},EL sz E w l S xs→xs.length=l.length * sz
 | [],_,_,h=>by rw [show _=[] from h];simp
 | _ :: l,_,_,⟨c,ys,_,_,e,hc,_,hl,_⟩=>by rw [e,List.length_append,hc,EL.len hl,List.length_cons,Nat.succ_mul,Nat.add_comm]
theorem EL.mono:∀ {l:List α} {S T:Nat→Prop} {xs:List Value},EL sz E w l S xs→(∀ b,S b→T b)→EL sz E w l T xs
 | [],_,_,_,h,_=>h
 | _ :: _,_,_,_,⟨c,ys,F,S',e,hc,he,hl,h1,h2,h3⟩,hS=>⟨c,ys,F,S',e,hc,he,hl,fun b h=>hS b (h1 b h),fun b h=>hS b (h2 b h),h3⟩
/-- It stays while what it leads to does. -/
theorem EL.keep {w w':World}:∀ {l:List α} {S:Nat→Prop} {xs:List Value},EL sz E w l S xs→(∀ c x F,(∀ b,F b→S b)→E w c x F→E w' c x F)→EL sz E w' l S xs
 | [],_,_,h,_=>h
 | _ :: _,_,_,⟨c,ys,F,S',e,hc,he,hl,h1,h2,h3⟩,hk=>⟨c,ys,F,S',e,hc,hk _ _ _ h1 he,hl.keep fun c x F h=>hk c x F fun b hb=>h2 b (h b hb),h1,h2,h3⟩
theorem EL.one {c:List Value} {x:α} {F:Nat→Prop} (hc:c.length=sz) (he:E w c x F):EL sz E w [x] F c :=
 ⟨c,[],F,fun _=>False,by simp,hc,he,rfl,fun _ h=>h,fun _ h=>h.elim,fun _ _ h=>h⟩
theorem EL.app:∀ {l m:List α} {S T:Nat→Prop} {xs ys:List Value},EL sz E w l S xs→EL sz E w m T ys→(∀ b,S b→¬ T b)→EL sz E w (l ++ m) (fun b=>S b∨T b) (xs ++ ys)
 | [],m,S,T,xs,ys,h,h',_=>by rw [show xs=[] from h];exact h'.mono fun b h=>.inr h
 | x :: l,m,S,T,xs,ys,⟨c,zs,F,S',e,hc,he,hl,h1,h2,h3⟩,h',hd =>
  ⟨c,zs ++ ys,F,fun b=>S' b∨T b,by rw [e,List.append_assoc],hc,he,hl.app h' fun b h=>hd b (h2 b h),fun b h=>.inl (h1 b h),fun b h=>h.elim (fun h=>.inl (h2 b h)) .inr,fun b h h'=>h'.elim (h3 b h) (hd b (h1 b h))⟩
/-- Taken apart. -/
theorem EL.split:∀ (i:Nat) {l:List α} {S:Nat→Prop} {xs:List Value},EL sz E w l S xs→∃ S1 S2:Nat→Prop,EL sz E w (l.take i) S1 (xs.take (i * sz))∧EL sz E w (l.drop i) S2 (xs.drop (i * sz))∧(∀ b,S1 b→S b)∧(∀ b,S2 b→S b)∧∀ b,S1 b→¬ S2 b
 | 0,l,S,xs,h=>⟨fun _=>False,S,by simp [EL],by simpa using h,fun _ h=>h.elim,fun _ h=>h,fun _ h=>h.elim⟩
 | i+1,[],S,xs,h=>⟨fun _=>False,S,by rw [show xs=[] from h];simp [EL],by rw [show xs=[] from h];simp [EL],fun _ h=>h.elim,fun _ h=>h,fun _ h=>h.elim⟩
 | i+1,x :: l,S,xs,⟨c,ys,F,S',e,hc,he,hl,h1,h2,h3⟩=>by
  obtain ⟨S1,S2,a1,a2,a3,a4,a5⟩:=EL.split i hl
  have e1:xs.take ((i+1) * sz)=c ++ ys.take (i * sz):=by
   rw [e,List.take_append,hc,List.take_of_length_le (by rw [hc,Nat.succ_mul];exact Nat.le_add_left _ _)]
   rw [show (i+1) * sz - sz=i * sz by rw [Nat.succ_mul,Nat.add_sub_cancel]]
  have e2:xs.drop ((i+1) * sz)=ys.drop (i * sz):=by
   rw [e,List.drop_append,hc,List.drop_of_length_le (by rw [hc,Nat.succ_mul];exact Nat.le_add_left _ _),List.nil_append]
   rw [show (i+1) * sz - sz=i * sz by rw [Nat.succ_mul,Nat.add_sub_cancel]]
  refine ⟨fun b=>F b∨S1 b,S2,?_,?_,fun b h=>h.elim (h1 b) fun h=>h2 b (a3 b h),fun b h=>h2 b (a4 b h),fun b h h'=>h.elim (fun h=>h3 b h (a4 b h')) fun h=>a5 b h h'⟩
  ·rw [e1]
   exact ⟨c,ys.take (i * sz),F,S1,rfl,hc,he,a1,fun b h=>.inl h,fun b h=>.inr h,fun b h h'=>h3 b h (a3 b h')⟩
  ·rw [e2]
   exact a2
/-- From elements by number. -/
theorem EL.of_idx:∀ (l:List α) {S:Nat→Prop} {xs:List Value} (cs:Nat→List Value) (fs:Nat→Nat→Prop),xs.length=l.length * sz →
  (∀ i x,l[i]?=some x→E w (cs i) x (fs i)∧(cs i).length=sz∧∀ j u,(cs i)[j]?=some u→xs[i * sz+j]?=some u)→(∀ i b,i < l.length→fs i b→S b)→(∀ i j b,i < l.length→j < l.length→i≠j→fs i b→¬ fs j b)→EL sz E w l S xs
 | [],S,xs,cs,fs,hl,_,_,_=>by
  show xs=[]
  exact List.length_eq_zero_iff.1 (by simpa using hl)
 | x :: l,S,xs,cs,fs,hl,he,hs,hd=>by
  obtain ⟨e0,e1,e2⟩:=he 0 x rfl
  have hxl:sz≤xs.length:=by rw [hl,List.length_cons,Nat.succ_mul];exact Nat.le_add_left _ _
  have ec:xs.take sz=cs 0:=by
   apply List.ext_getElem?
   intro j
   by_cases hj:j < sz
   ·rw [List.getElem?_take_of_lt hj]
    have:=e2 j (cs 0)[j] (List.getElem?_eq_getElem (by omega))
    rw [Nat.zero_mul,Nat.zero_add] at this
    rw [this,List.getElem?_eq_getElem]
   ·rw [List.getElem?_eq_none (by rw [List.length_take];omega),List.getElem?_eq_none (by omega)]
  refine ⟨cs 0,xs.drop sz,fs 0,fun b=>∃ i,i < l.length∧fs (i+1) b,by rw [← ec,List.take_append_drop],e1,e0,?_,fun b h=>hs 0 b (by simp) h,?_,?_⟩
  ·refine EL.of_idx l (fun i=>cs (i+1)) (fun i=>fs (i+1)) ?_ (fun i y hy=>?_) (fun i b hi h=>⟨i,hi,h⟩) (fun i j b hi hj hne=>hd (i+1) (j+1) b (by simpa using hi) (by simpa using hj) (by omega))
   ·rw [List.length_drop,hl,List.length_cons,Nat.succ_mul,Nat.add_sub_cancel]
   ·obtain ⟨f0,f1,f2⟩:=he (i+1) y (by simpa using hy)
    refine ⟨f0,f1,fun j u hu=>?_⟩
    have:=f2 j u hu
    rw [List.getElem?_drop]
    rw [Nat.succ_mul] at this
    rw [show sz+(i * sz+j)=i * sz+sz+j by omega]
    exact this
  ·rintro b ⟨i,hi,h⟩
   exact hs (i+1) b (by simpa using hi) h
  ·rintro b h ⟨i,hi,h'⟩
   exact hd 0 (i+1) b (by simp) (by simpa using hi) (by omega) h h'
/-- Back to elements by number. -/
theorem EL.idx:∀ {l:List α} {S:Nat→Prop} {xs:List Value},EL sz E w l S xs→∃ (cs:Nat→List Value) (fs:Nat→Nat→Prop),
  (∀ i x,l[i]?=some x→E w (cs i) x (fs i)∧(cs i).length=sz∧∀ j u,(cs i)[j]?=some u→xs[i * sz+j]?=some u)∧(∀ i b,i < l.length→fs i b→S b)∧(∀ i j b,i < l.length→j < l.length→i≠j→fs i b→¬ fs j b)
 | [],_,_,_=>⟨fun _=>[],fun _ _=>False,by simp,by simp,by simp⟩
 | x :: l,S,xs,⟨c,ys,F,S',e,hc,he,hl,h1,h2,h3⟩=>by
  obtain ⟨cs,fs,a1,a2,a3⟩:=EL.idx hl
  refine ⟨fun i=>match i with | 0=>c | i+1=>cs i,fun i=>match i with | 0=>F | i+1=>fs i,?_,?_,?_⟩
  ·intro i y hy
   cases i with
   | zero =>
    cases (by simpa using hy:x=y)
    refine ⟨he,hc,fun j u hu=>?_⟩
    have hj:j < c.length:=(List.getElem?_eq_some_iff.1 hu).1
    rw [e,Nat.zero_mul,Nat.zero_add,List.getElem?_append_left hj]
    exact hu
   | succ i =>
    obtain ⟨f0,f1,f2⟩:=a1 i y (by simpa using hy)
    refine ⟨f0,f1,fun j u hu=>?_⟩
    have:=f2 j u hu
    rw [e,Nat.succ_mul,List.getElem?_append_right (by omega),hc,show i * sz+sz+j - sz=i * sz+j by omega]
    exact this
  ·intro i b hi h
   cases i with
   | zero=>exact h1 b h
   | succ i=>exact h2 b (a2 i b (by simpa using hi) h)
  ·intro i j b hi hj hne h h'
   cases i with
   | zero =>
    cases j with
    | zero=>exact hne rfl
    | succ j=>exact h3 b h (a2 j b (by simpa using hj) h')
   | succ i =>
    cases j with
    | zero=>exact h3 b h' (a2 i b (by simpa using hi) h)
    | succ j=>exact a3 i j b (by simpa using hi) (by simpa using hj) (fun e=>hne (by rw [e])) h h'

variable {t : TypeId} {S : Nat → Prop} {v : Value} {l : List α}
/-- Out of a list of the call's own: its cells, and what they lead to, which is not its block. -/
theorem Ow.el (h:Ow t sz E w S v l):(v=.slice none 0 0∧l=[])∨∃ (g cap:Nat) (cur:Array Value),v=.slice (some ⟨g,0,none⟩) l.length cap∧w.heap[g]?=some (.cells cur t (0,0))∧l.length≤cap∧cap≤maxLen∧cur.size=cap * sz∧S g∧EL sz E w l (fun b=>S b∧b≠g) (cur.toList.take (l.length * sz)):=by
 rcases h with h | ⟨g,cap,cur,cs,fs,hv,hh,h1,h2,h3,h4,h5,h6,h7⟩
 ·exact .inl h
 ·have hle:l.length * sz≤cap * sz:=Nat.mul_le_mul_right _ h1
  refine .inr ⟨g,cap,cur,hv,hh,h1,h2,h3,h4,EL.of_idx l cs fs ?_ (fun i x hx=>?_) h6 h7⟩
  ·rw [List.length_take,show cur.toList.length=cap * sz from h3];omega
  ·obtain ⟨f0,f1,f2⟩:=h5 i x hx
   refine ⟨f0,f1,fun j u hu=>?_⟩
   have hj:j < sz:=by rw [← f1];exact (List.getElem?_eq_some_iff.1 hu).1
   have hi:i < l.length:=(List.getElem?_eq_some_iff.1 hx).1
   have hm:(i+1) * sz≤l.length * sz:=Nat.mul_le_mul_right _ hi
   rw [Nat.succ_mul] at hm
   rw [List.getElem?_take_of_lt (by omega),Array.getElem?_toList]
   exact f2 j u hu
/-- Into a block of the call's own. -/
theorem EL.ow {g cap:Nat} {cur:Array Value} (h:EL sz E w l S (cur.toList.take (l.length * sz))) (hh:w.heap[g]?=some (.cells cur t (0,0))) (h1:l.length≤cap) (h2:cap≤maxLen) (h3:cur.size=cap * sz) (hg:¬ S g):Ow t sz E w (fun b=>S b∨b=g) (.slice (some ⟨g,0,none⟩) l.length cap) l:=by
 obtain ⟨cs,fs,a1,a2,a3⟩:=h.idx
 refine .inr ⟨g,cap,cur,cs,fs,rfl,hh,h1,h2,h3,.inr rfl,fun i x hx=>?_,fun i b hi hb=>⟨.inl (a2 i b hi hb),fun e=>hg (e ▸ a2 i b hi hb)⟩,a3⟩
 obtain ⟨f0,f1,f2⟩:=a1 i x hx
 refine ⟨f0,f1,fun j u hu=>?_⟩
 have hj:j < sz:=by rw [← f1];exact (List.getElem?_eq_some_iff.1 hu).1
 have hi:i < l.length:=(List.getElem?_eq_some_iff.1 hx).1
 have hm:(i+1) * sz≤l.length * sz:=Nat.mul_le_mul_right _ hi
 rw [Nat.succ_mul] at hm
 have:=f2 j u hu
 rw [List.getElem?_take_of_lt (by omega),Array.getElem?_toList] at this
 exact this
end

end Go.Proofs.YtnlhkgoppjejeaaDoor

/- An account behind a pointer: what it reads, what keeps it; a box out of it and back; its boxes put anew. -/
namespace Go.Proofs.YtnlhkgoppjejeaaDoor
open Go.RowKit
set_option linter.unusedVariables false

theorem intsp_oth {w w':World} {S:Nat→Prop} {v:Value} {l:List Int} (h:IntsO w S v l) (hm:∀ k,S k→k < w.heap.size→Ty w k 3→w'.heap[k]?=w.heap[k]?):IntsO w' S v l:=by
 rcases h with h | ⟨g,cap,cur,cs,fs,hv,hh,h1,h2,h3,h4,h5,h6,h7⟩
 ·exact .inl h
 ·exact .inr ⟨g,cap,cur,cs,fs,hv,(hm g h4 (lt_of_heap hh) ⟨_,_,hh⟩).trans hh,h1,h2,h3,h4,h5,h6,h7⟩
theorem el_oth {w w':World} {S:Nat→Prop} {xs:List Value} {l:List BoxD} (h:EL 7 BoxQE w l S xs) (hm:∀ k,S k→k < w.heap.size→w'.heap[k]?=w.heap[k]?) (ht:StayT w w' 5) (hg:StayT w w' 65):EL 7 BoxQE w' l S xs :=
 h.keep fun _ _ _ hF he=>box_oth he (fun k hk hlt=>hm k (hF k hk) hlt) ht hg
/-- Boxes in a new row. -/
theorem boxesq_row {w:World} {S:Nat→Prop} {B:Nat} {v:Value} {xs:List Value} {l:List BoxD} (h:w.ownsRow B 44 7 v l.length xs) (he:EL 7 BoxQE w l S xs) (hS:∀ k,S k→k < B):BoxesQ w (fun k=>S k∨B≤k) v l:=by
 obtain ⟨-,⟨rfl,hn⟩ | ⟨g,cap,cur,rfl,hB,hh,h1,h2,h3,h4⟩⟩:=h
 ·exact .inl ⟨rfl,List.length_eq_zero_iff.1 hn⟩
 ·rw [← h4] at he
  exact Ow.mono (he.ow hh h1 h2 h3 fun e=>by have:=hS g e;omega) fun k h=>h.elim .inl fun e=>.inr (by omega)

/-- The account behind a pointer: its block is ga; the boxes and their mails lie in S, what it has seen does not. -/
def AccP (w:World) (S:Nat→Prop) (ga:Nat) (a:AccD):Prop :=
 ¬ S ga∧∃ u0 u1,w.heap[ga]?=some (.cells #[.int .i64 a.valid,u0,u1] 26 (0,0))∧BoxesQ w S u0 a.boxes∧IntsO w (fun k=>¬ S k∧k < w.heap.size) u1 a.seen∧I64 a.valid

section
variable {w w' : World} {S : Nat → Prop} {ga : Nat} {a : AccD}
theorem AccP.lt (h:AccP w S ga a):ga < w.heap.size:=let ⟨_,_,_,h,_⟩:=h;lt_of_heap h
theorem AccP.ty (h:AccP w S ga a):Ty w ga 26:=let ⟨_,_,_,h,_⟩:=h;⟨_,_,h⟩
theorem AccP.below (h:AccP w S ga a) (hb:Below w.heap.size w w'):AccP w' S ga a :=
 let ⟨hs,u0,u1,h0,h1,h2,r⟩:=h;⟨hs,u0,u1,(hb.block ga (lt_of_heap h0)).trans h0,boxes_oth h1 (fun k _ hk=>hb.block k hk) (stay_below hb) (stay_below hb),Ow.mono (intsp_oth h2 fun k _ hk _=>hb.block k hk) fun k h=>⟨h.1,Nat.lt_of_lt_of_le h.2 hb.size⟩,r⟩
/-- Its three cells, and the account as a value. -/
theorem AccP.cells (h:AccP w S ga a):∃ u0 u1,w.cell? ⟨ga,0,none⟩=some (.int .i64 a.valid)∧w.cell? ⟨ga,1,none⟩=some u0∧w.cell? ⟨ga,2,none⟩=some u1∧BoxesQ w S u0 a.boxes∧AccV w (.agg #[.int .i64 a.valid,u0,u1]) a:=by
 obtain ⟨-,u0,u1,h0,h1,h2,r⟩:=h
 obtain ⟨c0,c1,c2⟩:=bx3 h0
 exact ⟨u0,u1,c0,c1,c2,h1,u0,u1,rfl,h1.v,Ow.rd (fun _ _ _ _ h=>h) h2,r⟩
theorem AccP.open (h:AccP w S ga a) (i:Nat):w.frozen? ⟨ga,i,none⟩=false:=let ⟨_,_,_,h,_⟩:=h;frozen_of_row w ga i _ _ h
/-- Its number is written. -/
theorem AccP.setValid (h:AccP w S ga a) {n:Int} (hn:I64 n):AccP (w.setCell ⟨ga,0,none⟩ (.int .i64 n)) S ga ⟨n,a.boxes,a.seen⟩:=by
 have ht:=h.ty
 obtain ⟨hs,u0,u1,h0,h1,h2,r⟩:=h
 have hk:∀ k,k≠ga→(w.setCell ⟨ga,0,none⟩ (.int .i64 n)).heap[k]?=w.heap[k]?:=fun k h=>Below.heap_setCell _ _ _ _ h
 refine ⟨hs,u0,u1,box_set (i:=0) h0,boxes_oth h1 (fun k h _=>hk k fun e=>hs (e ▸ h)) (stay_set ht (by decide)) (stay_set ht (by decide)),Ow.mono (intsp_oth h2 fun k _ _ hT=>stay_set ht (by decide) k hT) fun k h=>⟨h.1,by simpa [World.setCell] using h.2⟩,hn⟩
/-- A box out of it, and behind a call that turns that box alone back into it. -/
theorem AccP.at (h:AccP w S ga a) {i:Nat} {b:BoxD} (hb:a.boxes[i]?=some b) :
  ∃ g cap S1,w.cell? ⟨ga,1,none⟩=some (.slice (some ⟨g,0,none⟩) a.boxes.length cap)∧S g∧BoxP w S1 g (i * 7) b∧(∀ k,S1 k→S k∧k≠g) ∧
   ∀ (w':World) (b':BoxD) (S1':Nat→Prop),Turns w w' S1 g (i * 7)→BoxP w' S1' g (i * 7) b'→(∀ k,S1' k→S1 k∨w.heap.size≤k)→AccP w' (fun k=>S k∨w.heap.size≤k) ga (setB a i b'):=by
 have hlt:=h.lt
 obtain ⟨hs,u0,u1,h0,h1,h2,r⟩:=h
 obtain ⟨-,c1,-⟩:=bx3 h0
 obtain ⟨g,cap,S1,rfl,hg,hp,hS1,hback⟩:=h1.at hb
 refine ⟨g,cap,S1,c1,hg,hp,hS1,fun w' b' S1' ht hp' hS'=>⟨fun h=>h.elim hs fun h=>by omega,_,u1,?_,hback w' b' S1' ht hp' hS',?_,r⟩⟩
 ·exact (ht.2.1 ga hlt (fun e=>hs (e ▸ hg)) fun h=>hs (hS1 _ h).1).trans h0
 ·refine Ow.mono (intsp_oth h2 fun k hk hkl _=>ht.2.1 k hkl (fun e=>hk.1 (e ▸ hg)) fun h=>hk.1 (hS1 _ h).1) fun k h=>⟨fun h'=>h'.elim h.1 fun h'=>by have:=h.2;omega,Nat.lt_of_lt_of_le h.2 ht.1⟩
end

end Go.Proofs.YtnlhkgoppjejeaaDoor

/- A mail of a box behind a pointer: its four cells, its text. -/
namespace Go.Proofs.YtnlhkgoppjejeaaDoor
open Go.RowKit

/-- A text by the type of its block: read wherever the bytes stay. -/
theorem RO.stay {w:World} {u:Value} {tx:List Int} (h:RO w Any u tx):∀ w':World,w.heap.size≤w'.heap.size→StayT w w' 5→Bs w' u tx:=fun _ _ ht=>(ro_oth h ht).bs
theorem BoxP.mail4 {w:World} {S:Nat→Prop} {g o i:Nat} {b:BoxD} {m:MailD} (h:BoxP w S g o b) (hm:b.mails[i]?=some m) :
  ∃ mb cap u,w.cell? ⟨g,o+4,none⟩=some (.slice (some ⟨mb,0,none⟩) b.mails.length cap)∧b.mails.length≤cap∧mb < w.heap.size∧w.cell? ⟨mb,i * 4,none⟩=some (.int .i64 m.uid)∧w.cell? ⟨mb,i * 4+1,none⟩=some (.int .i64 m.flags)∧w.cell? ⟨mb,i * 4+2,none⟩=some (.int .i64 m.seq)∧w.cell? ⟨mb,i * 4+3,none⟩=some u ∧
   RO w Any u m.text∧I64 m.uid∧I64 m.flags∧I64 m.seq:=by
 obtain ⟨cur,c,hh,⟨u0,u1,u2,e,h1,h2,h3,r⟩,hc⟩:=h
 rcases h2 with ⟨_,h⟩ | ⟨mb,cap,mc,cs,fs,hv,hhm,b1,b2,b3,b4,b5,b6,b7⟩
 ·rw [h] at hm;simp at hm
 obtain ⟨⟨u,ec,hro,i0,i1,i2⟩,hl,hcs⟩:=b5 i m hm
 have hcell:∀ j x,(cs i)[j]?=some x→w.cell? ⟨mb,i * 4+j,none⟩=some x:=fun j x hx=>by
  rw [cell_of_row w mb _ mc _ (0,0) hhm]
  exact hcs j x hx
 refine ⟨mb,cap,u,?_,b1,lt_of_heap hhm,hcell 0 _ (by rw [ec];rfl),hcell 1 _ (by rw [ec];rfl),hcell 2 _ (by rw [ec];rfl),hcell 3 _ (by rw [ec];rfl),hro,i0,i1,i2⟩
 rw [cell_of_row w g _ cur _ (0,0) hh,← hv]
 exact hc 4 u1 (by rw [e];rfl)

end Go.Proofs.YtnlhkgoppjejeaaDoor

/- An account behind a pointer: what a call that is given it may turn; its blocks, cut to those that are there. -/
namespace Go.Proofs.YtnlhkgoppjejeaaDoor
open Go.RowKit
set_option linter.unusedVariables false

/-- What a call turns that is given an account: its block (not what it has seen), and blocks in S; nothing else that is old. -/
def TurnsA (w w':World) (S:Nat→Prop) (ga:Nat):Prop :=
 w.heap.size≤w'.heap.size∧(∀ k,k < w.heap.size→k≠ga→¬ S k→w'.heap[k]?=w.heap[k]?)∧StayT w w' 5∧StayT w w' 65∧w'.os=w.os∧w'.tape=w.tape∧w'.output=w.output∧(ga < w.heap.size→¬ S ga→w'.cell? ⟨ga,2,none⟩=w.cell? ⟨ga,2,none⟩)

section
variable {w w' w'' : World} {S S' S1 : Nat → Prop} {ga g o : Nat} {a : AccD}
theorem TurnsA.refl (w:World) (S:Nat→Prop) (ga:Nat):TurnsA w w S ga:=⟨Nat.le_refl _,fun _ _ _ _=>rfl,StayT.refl _ _,StayT.refl _ _,rfl,rfl,rfl,fun _ _=>rfl⟩
theorem TurnsA.trans (h:TurnsA w w' S ga) (h':TurnsA w' w'' S' ga) (hS:∀ k,S' k→S k∨w.heap.size≤k):TurnsA w w'' S ga :=
 ⟨Nat.le_trans h.1 h'.1,fun k hk hg hs=>(h'.2.1 k (Nat.lt_of_lt_of_le hk h.1) hg (fun h2=>(hS k h2).elim hs (fun h3=>by omega))).trans (h.2.1 k hk hg hs),h.2.2.1.trans h'.2.2.1,h.2.2.2.1.trans h'.2.2.2.1,h'.2.2.2.2.1.trans h.2.2.2.2.1,h'.2.2.2.2.2.1.trans h.2.2.2.2.2.1,h'.2.2.2.2.2.2.1.trans h.2.2.2.2.2.2.1,fun h1 h2=>(h'.2.2.2.2.2.2.2 (Nat.lt_of_lt_of_le h1 h.1) (fun h3=>(hS ga h3).elim h2 (fun h4=>by omega))).trans (h.2.2.2.2.2.2.2 h1 h2)⟩
theorem TurnsA.below (h:Below w.heap.size w w'):TurnsA w w' S ga:=⟨h.size,fun k hk _ _=>h.block k hk,stay_below h,stay_below h,h.os,h.tape,h.output,fun h1 _=>h.cell (p:=⟨ga,2,none⟩) h1⟩
theorem TurnsA.box (h:Turns w w' S1 g o) (hg:S g) (hS:∀ k,S1 k→S k):TurnsA w w' S ga :=
 ⟨h.1,fun k hk _ hs=>h.2.1 k hk (fun e=>hs (e ▸ hg)) (fun h=>hs (hS k h)),h.2.2.1,h.2.2.2.1,h.2.2.2.2.2.1,h.2.2.2.2.2.2.1,h.2.2.2.2.2.2.2,fun h1 h2=>by unfold World.cell?;rw [h.2.1 ga h1 (fun e=>h2 (e ▸ hg)) (fun h=>h2 (hS ga h))]⟩
theorem TurnsA.set {i:Nat} {x:Value} (h:AccP w S' ga a) (hi:i≠2:=by decide):TurnsA w (w.setCell ⟨ga,i,none⟩ x) S ga :=
 ⟨by rw [box_size];exact Nat.le_refl _,fun k _ hg _=>Below.heap_setCell _ _ _ _ hg,stay_set h.ty (by decide),stay_set h.ty (by decide),rfl,rfl,rfl,fun _ _=>by
  obtain ⟨-,u0,u1,hh,-⟩:=h
  rw [cell_of_row _ _ _ _ _ (0,0) (box_set (i:=i) (v:=x) hh),cell_of_row _ _ _ _ _ (0,0) hh,Array.getElem?_setIfInBounds_ne hi]⟩
theorem TurnsA.wide (h:TurnsA w w' S ga) (hS:∀ k,S k→S' k):TurnsA w w' S' ga:=⟨h.1,fun k h1 h2 h3=>h.2.1 k h1 h2 (fun h4=>h3 (hS k h4)),h.2.2.1,h.2.2.2.1,h.2.2.2.2.1,h.2.2.2.2.2.1,h.2.2.2.2.2.2.1,fun h1 h2=>h.2.2.2.2.2.2.2 h1 fun h3=>h2 (hS ga h3)⟩
theorem BoxesQ.cut {v:Value} {l:List BoxD} (h:BoxesQ w S v l):BoxesQ w (fun k=>S k∧k < w.heap.size) v l:=by
 rcases h with h | ⟨g,cap,cur,cs,fs,hv,hh,h1,h2,h3,h4,h5,h6,h7⟩
 ·exact .inl h
 ·refine .inr ⟨g,cap,cur,cs,fun i k=>fs i k∧k < w.heap.size,hv,hh,h1,h2,h3,⟨h4,lt_of_heap hh⟩,fun i x hx=>⟨?_,(h5 i x hx).2⟩,fun i k hi hk=>⟨⟨(h6 i k hi hk.1).1,hk.2⟩,(h6 i k hi hk.1).2⟩,fun i j k hi hj hne hk hk'=>h7 i j k hi hj hne hk.1 hk'.1⟩
  obtain ⟨u0,u1,u2,e,e1,e2,e3,r⟩:=(h5 i x hx).1
  refine ⟨u0,u1,u2,e,e1,?_,gonesq_in e3,r⟩
  rcases e2 with h | ⟨m,cap,cu,cs,fs,hv,hm,k1,k2,k3,k4,k5,k6,k7⟩
  ·exact .inl h
  ·exact .inr ⟨m,cap,cu,cs,fun _ _=>False,hv,hm,k1,k2,k3,⟨k4,lt_of_heap hm⟩,k5,by simp,by simp⟩
theorem AccP.cut (h:AccP w S ga a):AccP w (fun k=>S k∧k < w.heap.size) ga a :=
 let ⟨hs,u0,u1,h0,h1,h2,r⟩:=h;⟨fun h=>hs h.1,u0,u1,h0,BoxesQ.cut h1,Ow.mono h2 fun k h=>⟨fun h'=>h.1 h'.1,h.2⟩,r⟩
/-- It stays where a call turns none of its blocks. -/
theorem AccP.oth (h:AccP w S ga a) (hsz:w.heap.size≤w'.heap.size) (hg:w'.heap[ga]?=w.heap[ga]?) (hm:∀ k,S k→k < w.heap.size→w'.heap[k]?=w.heap[k]?) (ht:StayT w w' 5) (hq:StayT w w' 65) (hn:StayT w w' 3):AccP w' S ga a :=
 let ⟨hs,u0,u1,h0,h1,h2,r⟩:=h;⟨hs,u0,u1,hg.trans h0,boxes_oth h1 hm ht hq,Ow.mono (intsp_oth h2 fun k _ _ hT=>hn k hT) fun k h=>⟨h.1,Nat.lt_of_lt_of_le h.2 hsz⟩,r⟩
end

end Go.Proofs.YtnlhkgoppjejeaaDoor
