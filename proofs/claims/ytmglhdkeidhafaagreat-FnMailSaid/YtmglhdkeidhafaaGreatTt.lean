/- The proof's texts, part 29. -/
import Derived.Test.YtmglhdkeidhafaaGreatTf
import Derived.Laws.Rows
namespace Go.Proofs.YtmglhdkeidhafaaGreat
open Go.RowKit
set_option linter.unusedSimpArgs false
set_option linter.unusedVariables false
/- What commands leave of an account stays small, on lists. -/
/-- A box as drawn commands leave one. -/
def eG (x:aA):Prop:=x.name.length≤6∧x.ah.length≤12∧(∀ m ∈ x.ah,m.text.length≤30)∧x.au.length≤40
def kY (a:aF):Prop:=a.boxes.length≤4∧∀ x ∈ a.boxes,eG x
theorem RP {l:List aC} (h:∀ m ∈ l,m.text.length≤30):iB l≤31 * l.length:=by
 induction l with
 | nil=>simp [iB]
 | cons m l ih =>
  have h1:=h m (by simp)
  have h2:=ih fun m hm=>h m (by simp [hm])
  simp only [iB,List.map_cons,List.sum_cons,List.length_cons] at h2 ⊢
  omega
theorem eG.sz {x:aA} (h:eG x):bT x≤900000:=by
 have:=RP h.2.2.1
 have h1:=h.1
 have h2:=h.2.1
 have h4:=h.2.2.2
 unfold bT
 omega
theorem kY.set {a:aF} {k:Nat} {b:aA} (h:kY a) (hb:eG b):kY (aH a k b):=by
 refine ⟨by simpa [aH] using h.1,fun x hx=>?_⟩
 rcases List.mem_or_eq_of_mem_set hx with hx | rfl
 ·exact h.2 x hx
 ·exact hb
theorem aaK (l:List bB):∀ lost:Int,(dw lost l).2.length≤40:=by
 induction l with
 | nil=>intro _;simp [dw]
 | cons x l ih =>
  intro lost
  rw [dw]
  split
  ·exact ih x.seq
  ·simp only [List.length_cons];omega
theorem eG.seq {b:aA} (h:eG b):eG (aX b):=h
theorem eG.drop {b:aA} {i:Nat} (h:eG b):eG (aV b i)∧(aV b i).ah.length≤b.ah.length∧(i < b.ah.length→(aV b i).ah.length+1=b.ah.length):=by
 unfold aV
 cases hm:b.ah[i]? with
 | none =>
  have:=List.getElem?_eq_none_iff.1 hm
  exact ⟨h,Nat.le_refl _,fun h=>by omega⟩
 | some m =>
  have hi:=(gs1 hm).1
  have hl:(b.ah.take i ++ b.ah.drop (i+1)).length+1=b.ah.length:=by rw [List.length_append,List.length_take,List.length_drop];omega
  refine ⟨⟨h.1,by simp only;have:=h.2.1;omega,fun x hx=>?_,aaK _ _⟩,by simp only;omega,fun _=>hl⟩
  rcases List.mem_append.1 hx with hx | hx
  ·exact h.2.2.1 x (List.mem_of_mem_take hx)
  ·exact h.2.2.1 x (List.mem_of_mem_drop hx)
theorem eG.add {b:aA} {fl:Int} {tx:List Int} (h:eG b) (hm:b.ah.length+1≤12) (ht:tx.length≤30):eG (jA b fl tx):=by
 refine ⟨h.1,by simpa [jA] using hm,fun m hx=>?_,h.2.2.2⟩
 simp only [jA,List.mem_append,List.mem_singleton] at hx
 rcases hx with hx | rfl
 ·exact h.2.2.1 m hx
 ·exact ht
theorem eG.store {b:aA} {uid mode fl si:Int} (h:eG b):eG (iD b uid mode fl si).1:=by
 unfold iD
 split
 ·exact h
 ·split
  ·exact h
  ·rename_i i _ m hm
   split
   ·exact h
   ·split
    ·exact h
    ·split
     ·exact h
     ·refine ⟨h.1,by simpa using h.2.1,fun x hx=>?_,h.2.2.2⟩
      rcases List.mem_or_eq_of_mem_set hx with hx | rfl
      ·exact h.2.2.1 x hx
      ·exact h.2.2.1 m (List.mem_of_getElem? hm)
theorem eG.loop:∀ (n:Nat) (b:aA) (i:Nat),eG b→eG (gD n b i)
 | 0,b,_,h=>h
 | n+1,b,i,h=>by
  rw [gD]
  split
  ·exact h
  ·split
   ·exact eG.loop n _ _ h.drop.1
   ·exact eG.loop n _ _ h
theorem eG.exp {b:aA} (h:eG b):eG (gF b).1:=by
 unfold gF
 split
 ·exact h
 ·split
  ·exact h
  ·exact eG.loop _ _ _ h.seq
theorem room_le {b:aA} {n:Int} (h:dh b n=true):(b.ah.length:Int)+n≤12:=by
 simp only [dh,Bool.and_eq_true,decide_eq_true_eq] at h
 exact h.2.2
theorem kY.copy {a:aF} {k:Nat} {b:aA} {tt:List Int} {uid mode:Int} (h:kY a) (hb:a.boxes[k]?=some b):kY (kS a k b tt uid mode).1:=by
 have hbx:=h.2 b (List.mem_of_getElem? hb)
 unfold kS
 split
 ·rename_i i t hi ht
  split
  ·rename_i m bt hm hbt
   have hil:=(gs1 hm).1
   have hmt:=hbx.2.2.1 m (List.mem_of_getElem? hm)
   by_cases hno:dh bt (if mode=1∧t=k then 0 else 1)=false∨(mode=1∧999999≤b.seq)
   ·rw [if_pos hno];exact h
   ·rw [if_neg hno]
    have hroom:dh bt (if mode=1∧t=k then 0 else 1)=true:=by
     cases hr:dh bt (if mode=1∧t=k then 0 else 1) with
     | true=>rfl
     | false=>exact absurd (Or.inl hr) hno
    have hle:=room_le hroom
    have h1:kY (if mode=1 then aH a k (aV (aX b) i) else a):=by
     split
     ·exact h.set hbx.seq.drop.1
     ·exact h
    simp only
    cases hbu:(if mode=1 then aH a k (aV (aX b) i) else a).boxes[t]? with
    | some bu =>
     refine h1.set (eG.add (h1.2 bu (List.mem_of_getElem? hbu)) ?_ hmt)
     by_cases hm1:mode=1
     ·rw [if_pos hm1] at hbu
      simp only [aH] at hbu
      by_cases htk:t=k
      ·subst htk
       have hkl:=(gs1 hb).1
       rw [List.getElem?_set_self hkl] at hbu
       cases hbu
       have hd:=(hbx.seq.drop (i:=i)).2.2 hil
       have agQ:=hbx.2.1
       have qL:(aX b).ah.length=b.ah.length:=rfl
       omega
      ·rw [List.getElem?_set_ne (Ne.symm htk),hbt] at hbu
       cases hbu
       rw [if_neg (fun h=>htk h.2)] at hle
       omega
     ·rw [if_neg hm1,hbt] at hbu
      cases hbu
      rw [if_neg (fun h=>hm1 h.1)] at hle
      omega
    | none=>exact h1
  ·exact h
 ·exact h
theorem KQ {a:aF} {c:dS} (h:kY a) (hb:c.bx.length≤6) (ht:c.tx.length≤30):kY (dA a c).1:=by
 unfold dA
 split
 ·unfold nE
  split
  ·exact h
  ·split
   ·exact h
   ·rename_i hf
    have h4:a.boxes.length < 4:=by omega
    refine ⟨?_,fun x hx=>?_⟩
    ·have:=congrArg List.length (List.takeWhile_append_dropWhile (p:=fun x:aA=>bV x.name c.bx) (l:=a.boxes))
     rw [List.length_append] at this
     simp only [List.length_append,List.length_cons]
     omega
    ·simp only [List.mem_append,List.mem_cons] at hx
     rcases hx with hx | rfl | hx
     ·exact h.2 x ((List.takeWhile_sublist _).subset hx)
     ·exact ⟨hb,by simp,by simp,by simp⟩
     ·exact h.2 x ((List.dropWhile_sublist _).subset hx)
 ·split
  ·exact h
  ·split
   ·exact h
   ·split
    ·exact h
    ·rename_i k _ b hk
     have hx:=h.2 b (List.mem_of_getElem? hk)
     split
     ·refine ⟨?_,fun x hx=>?_⟩
      ·have:=h.1
       simp only [List.length_append,List.length_take,List.length_drop]
       omega
      ·rcases List.mem_append.1 hx with hx | hx
       ·exact h.2 x (List.mem_of_mem_take hx)
       ·exact h.2 x (List.mem_of_mem_drop hx)
     split
     ·split
      ·rename_i hr
       exact h.set (hx.add (by have:=room_le hr;omega) ht)
      ·exact h
     split
     ·exact h.set hx.store
     split
     ·exact h.set hx.exp
     split
     ·exact h.copy hk
     split
     ·exact h
     split
     ·exact h
     split
     ·exact h
     ·exact h
/- Ap that draw their order and are guarded: one walk for all ways: what a guarded operation yields stands under its guard's Bool. -/
theorem jK {p:Prop} (h:p):Hid p:=h
/-- These cells stand one behind the other. -/
def lS (w:World) (p o:Nat):List Value→Prop
 | []=>True
 | v :: l=>w.cell? ⟨p,o,none⟩=some v∧lS w p (o+1) l
theorem CO {w:World} {p:Nat} {l:List Value} {t:TypeId} {fz:Nat × Nat} (h:w.heap[p]?=some (.cells l.toArray t fz)):lS w p 0 l:=by
 suffices H:∀ (l':List Value) (o:Nat),(∀ i,l'[i]?=l[o+i]?)→lS w p o l' from H l 0 (fun i=>by simp)
 intro l'
 induction l' with
 | nil=>intro _ _;trivial
 | cons v l' ih =>
  intro o ho
  have h0:=ho 0
  refine ⟨?_,ih (o+1) fun i=>?_⟩
  ·simp only [List.getElem?_cons_zero,Nat.add_zero] at h0
   exact cell_of_row w p o l.toArray _ _ h |>.trans (by simp [← h0])
  ·have:=ho (i+1);rw [List.getElem?_cons_succ] at this;rw [this];congr 1;omega
section
variable {P : Program} {ops : Array Oper} {Q : Exit → Act → World → Prop} {S : World → Prop} {n : Nat} {cs : List Nat} {a a' : Act} {w : World} {i i' j d : Nat} {oi : Oper} {v : Value} {c : Bool}
theorem CP (T:Tab ops n cs) (hi:ops[i]?=some oi) (hd:oi.dst=some d) (hy:YieldsIf P ops S oi v a) (hS:S w) (hQ:∀ c a w,Q (.panic c) (a.put (some d) v) w→Q (.panic c) a w)
  (h:jH P ops Q S n (i+1) (iR a d v) w):jH P ops Q S n i a w:=by
 obtain ⟨h1,h2,h3,h4,h5⟩:=Aq T
 have hlt:i < n:=by have:=(Array.getElem?_eq_some_iff.1 hi).1;omega
 rw [← DL] at h
 unfold jH at h ⊢
 rw [show n - i=(n - (i+1))+1 by omega]
 rw [← MU hlt] at h
 exact wpAnyH_take hi h2 (h3 i hlt).1 (h3 i hlt).2 (by rw [hd];exact hQ) hy hS (by rw [hd];exact h)
/-- The next operation bears no guard. -/
theorem yu (T:Tab ops n cs) (hS:S w) (h:jH P ops Q S n i' a' w)
  (hi:ops[i]?=some oi:=by rfl)
  (hd:oi.dst=some d:=by rfl)
  (hg:oi.guard=none:=by rfl)
  (hy:∀ w,S w→(execOp a.eval oi).run P w=.ok (.value v) w:=by (intro w s;(try simp only [lS,Nat.reduceAdd,and_true] at s);go_simp <;> with_reducible rfl))
  (ha:iR a d v=a':=by (conv=>lhs;dsimp only [iR,List.toList_toArray,tF,tH]))
  (hn:i+1=i':=by (conv=>lhs;simp only [Nat.reduceAdd]))
  (hQ:∀ c a w,Q (.panic c) (a.put (some d) v) w→Q (.panic c) a w:=by exact fun _ _ _ h=>h):jH P ops Q S n i a w :=
 CP T hi hd (.inl ⟨by unfold Region.wanted;rw [hg],hy⟩) hS hQ (by rw [ha,hn];exact h)
/-- The next operation is carried out where c is false. -/
theorem zL (T:Tab ops n cs) (hS:S w) (h:jH P ops Q S n i' a' w)
  (hi:ops[i]?=some oi:=by rfl)
  (hd:oi.dst=some d:=by rfl)
  (hg:oi.guard=some (j,false):=by rfl)
  (hj:yielded ops a.tmps j=some c:=by rfl)
  (hy:c=false→∀ w,S w→(execOp a.eval oi).run P w=.ok (.value v) w:=by (intro hc w s;(try simp only [lS,Nat.reduceAdd,and_true] at s);(try simp only [hc,cond_false]);go_simp <;> with_reducible rfl))
  (ha:iR a d (cond c undef v)=a':=by (conv=>lhs;dsimp only [iR,List.toList_toArray,tF,tH]))
  (hn:i+1=i':=by (conv=>lhs;simp only [Nat.reduceAdd]))
  (hQ:∀ c' a w,Q (.panic c') (a.put (some d) (cond c undef v)) w→Q (.panic c') a w:=by exact fun _ _ _ h=>h):jH P ops Q S n i a w:=by
 refine CP T hi hd ?_ hS hQ (by rw [ha,hn];exact h)
 cases hc:c with
 | false=>exact .inl ⟨by unfold Region.wanted;rw [hg];simp only [hj,hc];rfl,fun w s=>hy hc w s⟩
 | true=>exact .inr ⟨by unfold Region.wanted;rw [hg];simp only [hj,hc];rfl,rfl⟩
/-- The guard stands itself under c, and is true there. -/
theorem KS (T:Tab ops n cs) (hS:S w) (h:jH P ops Q S n i' a' w)
  (hi:ops[i]?=some oi:=by rfl)
  (hd:oi.dst=some d:=by rfl)
  (hg:oi.guard=some (j,true):=by rfl)
  (hj:((ops[j]?).bind (·.dst)).bind (a.tmps[·]?)=some (cond c undef (.bool true)):=by rfl)
  (hy:c=false→∀ w,S w→(execOp a.eval oi).run P w=.ok (.value v) w:=by (intro hc w s;(try simp only [lS,Nat.reduceAdd,and_true] at s);(try simp only [hc,cond_false]);go_simp <;> with_reducible rfl))
  (ha:iR a d (cond c undef v)=a':=by (conv=>lhs;dsimp only [iR,List.toList_toArray,tF,tH]))
  (hn:i+1=i':=by (conv=>lhs;simp only [Nat.reduceAdd]))
  (hQ:∀ c' a w,Q (.panic c') (a.put (some d) (cond c undef v)) w→Q (.panic c') a w:=by exact fun _ _ _ h=>h):jH P ops Q S n i a w:=by
 refine CP T hi hd ?_ hS hQ (by rw [ha,hn];exact h)
 cases hc:c with
 | false=>exact .inl ⟨by unfold Region.wanted yielded;rw [hg];simp only [hj,hc];rfl,fun w s=>hy hc w s⟩
 | true=>exact .inr ⟨by unfold Region.wanted yielded;rw [hg];simp only [hj,hc];rfl,rfl⟩
/-- The guard stands itself under c, and is false there: the operation is passed by. -/
theorem KT (T:Tab ops n cs) (hS:S w) (h:jH P ops Q S n i' a' w)
  (hi:ops[i]?=some oi:=by rfl)
  (hd:oi.dst=some d:=by rfl)
  (hg:oi.guard=some (j,true):=by rfl)
  (hj:((ops[j]?).bind (·.dst)).bind (a.tmps[·]?)=some (cond c undef (.bool false)):=by rfl)
  (ha:iR a d undef=a':=by (conv=>lhs;dsimp only [iR,List.toList_toArray,tF,tH]))
  (hn:i+1=i':=by (conv=>lhs;simp only [Nat.reduceAdd]))
  (hQ:∀ c' a w,Q (.panic c') (a.put (some d) undef) w→Q (.panic c') a w:=by exact fun _ _ _ h=>h):jH P ops Q S n i a w:=by
 refine CP T hi hd (.inr ⟨?_,rfl⟩) hS hQ (by rw [ha,hn];exact h)
 unfold Region.wanted yielded;rw [hg];simp only [hj];cases c <;> rfl
/-- '||': both sides are joined. -/
theorem zM {x z:Operand} {X:Bool} {A:Bool→Act} (T:Tab ops n cs) (hS:S w) (h:∀ C,Hid (C=(c || X))→jH P ops Q S n i' (A C) w)
  (hi:ops[i]?=some oi:=by rfl)
  (hd:oi.dst=some d:=by rfl)
  (hg:oi.guard=none:=by rfl)
  (ho:oi.op=.pick x (.const (.bool true)) z:=by rfl)
  (hx:a.eval x=.bool c:=by rfl)
  (hz:a.eval z=cond c undef (.bool X):=by rfl)
  (ha:∀ C,iR a d (.bool C)=A C:=by (intro C;conv=>lhs;dsimp only [iR,List.toList_toArray,tF,tH]))
  (hn:i+1=i':=by (conv=>lhs;simp only [Nat.reduceAdd]))
  (hQ:∀ v c' a w,Q (.panic c') (a.put (some d) v) w→Q (.panic c') a w:=by exact fun _ _ _ _ h=>h):jH P ops Q S n i a w:=by
 refine CP (v:=.bool (c || X)) T hi hd (.inl ⟨by unfold Region.wanted;rw [hg],fun w s=>?_⟩) hS (hQ _) (by rw [ha,hn];exact h _ rfl)
 unfold execOp
 rw [ho]
 simp only [hx,hz,show a.eval (.const (.bool true))=.bool true from rfl]
 cases c <;> rfl
/-- A call, under c or not: what is told of its answer and of the world behind it is all that is kept. -/
theorem FH {R:Value→World→Prop} {A:Value→Act} (T:Tab ops n cs) (hm:i ∈ cs)
  (hc:∀ K':Act→World→Prop,Shut (∀ v w',R v w'→K' (A v) w')→if Region.wanted oi (yielded ops a.tmps)=true then Oper.wp P oi a w K' Q else K' (a.put oi.dst undef) w)
  (hS:∀ v w',R v w'→S w')
  (h:∀ v w',R v w'→S w'→jH P ops Q S n i' (A v) w')
  (hi:ops[i]?=some oi:=by rfl)
  (hd:oi.dst=some d:=by rfl)
  (ha:∀ v,iR a d v=A v:=by (intro v;conv=>lhs;dsimp only [iR,List.toList_toArray,tF,tH]))
  (hn:i+1=i':=by (conv=>lhs;simp only [Nat.reduceAdd])):jH P ops Q S n i a w:=by
 obtain ⟨h1,h2,h3,h4,h5⟩:=Aq T
 have hlt:=(h5 i hm).1
 exact U5 i T hm (AllReadyH.cons hi (fun K' hK=>hc K' fun v w' hR=>hK.out _ _ (hS v w' hR) fun _=>U6 hlt rfl rfl (by rw [hn];exact h v w' hR (hS v w' hR))) AllReadyH.nil)
end
end Go.Proofs.YtmglhdkeidhafaaGreat
