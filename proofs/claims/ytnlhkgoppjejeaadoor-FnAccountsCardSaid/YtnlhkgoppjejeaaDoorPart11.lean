/- The proof's texts, part 11. -/
import Derived.Test.YtnlhkgoppjejeaaDoorPart10
import Derived.Test.YtnlhkgoppjejeaaDoorPart8
import Derived.Test.YtnlhkgoppjejeaaDoorPart9
import Derived.Test.YtnlhkgoppjejeaaDoorPart3
import Derived.WalkLawsBesides
import Derived.Deep.RegionHeld3

/- Accounts read from bytes, on lists: as the specification reads (a place below 0 says that nothing is there), and as the program reads (none says so); both come to the same. -/
namespace Go.Proofs.YtnlhkgoppjejeaaDoor
open Go.RowKit
set_option linter.unusedVariables false

/-- The number at p, and the place behind it; nothing is read behind a place that is none. -/
def gN (l:List Int) (p:Int):Int × Int:=if p < 0 then (0,p) else getL l p
def gT (l:List Int) (p:Int):List Int × Int:=if p < 0 then ([],p) else getTL l p
def gMany {α:Type} (g:Int→α × Int):Nat→Int→List α × Int
 | 0,p=>([],p)
 | m+1,p=>if p < 0 then ([],p) else ((g p).1 :: (gMany g m (g p).2).1,(gMany g m (g p).2).2)
def gMail (l:List Int) (p:Int):MailD × Int:=(⟨(gN l p).1,(gN l (gN l p).2).1,(gN l (gN l (gN l p).2).2).1,(gT l (gN l (gN l (gN l p).2).2).2).1⟩,(gT l (gN l (gN l (gN l p).2).2).2).2)
def gGone (l:List Int) (p:Int):GoneD × Int:=(⟨(gN l p).1,(gN l (gN l p).2).1⟩,(gN l (gN l p).2).2)
/-- The places within a box: behind its name, its five numbers; behind the mails, behind the number of those that went. -/
def bP0 (l:List Int) (p:Int):Int:=(gT l p).2
def bP1 (l:List Int) (p:Int):Int:=(gN l (bP0 l p)).2
def bP2 (l:List Int) (p:Int):Int:=(gN l (bP1 l p)).2
def bP3 (l:List Int) (p:Int):Int:=(gN l (bP2 l p)).2
def bP4 (l:List Int) (p:Int):Int:=(gN l (bP3 l p)).2
def bM (l:List Int) (p:Int):List MailD × Int:=gMany (gMail l) (min (gN l (bP4 l p)).1.toNat 13) (gN l (bP4 l p)).2
def bG (l:List Int) (p:Int):List GoneD × Int:=gMany (gGone l) (min (gN l (bM l p).2).1.toNat 41) (gN l (bM l p).2).2
def gBox (l:List Int) (p:Int):BoxD × Int:=(⟨(gT l p).1,(gN l (bP0 l p)).1,(gN l (bP1 l p)).1,(gN l (bP2 l p)).1,(bM l p).1,(bG l p).1,(gN l (bP3 l p)).1⟩,(bG l p).2)
def aB (l:List Int) (p:Int):List BoxD × Int:=gMany (gBox l) (min (gN l (gN l p).2).1.toNat 5) (gN l (gN l p).2).2
def aS (l:List Int) (p:Int):List Int × Int:=gMany (gN l) (min (gN l (aB l p).2).1.toNat 61) (gN l (aB l p).2).2
def gAcc (l:List Int) (p:Int):AccD × Int:=(⟨(gN l p).1,(aB l p).1,(aS l p).1⟩,(aS l p).2)

def iN (l:List Int) (p:Int):Option (Int × Int):=if (getL l p).2 < 0 then none else some (getL l p)
def iT (l:List Int) (p:Int):Option (List Int × Int):=if (getTL l p).2 < 0 then none else some (getTL l p)
def iC (l:List Int) (most:Int) (p:Int):Option (Int × Int):=(iN l p).bind fun r=>if most < r.1 then none else some r
def iMany {α:Type} (g:Int→Option (α × Int)):Nat→Int→Option (List α × Int)
 | 0,p=>some ([],p)
 | m+1,p=>(g p).bind fun x=>(iMany g m x.2).bind fun r=>some (x.1 :: r.1,r.2)
def iMail (l:List Int) (p:Int):Option (MailD × Int):=(iN l p).bind fun a=>(iN l a.2).bind fun b=>(iN l b.2).bind fun c=>(iT l c.2).bind fun d=>some (⟨a.1,b.1,c.1,d.1⟩,d.2)
def iGone (l:List Int) (p:Int):Option (GoneD × Int):=(iN l p).bind fun a=>(iN l a.2).bind fun b=>some (⟨a.1,b.1⟩,b.2)
def iBox (l:List Int) (p:Int):Option (BoxD × Int) :=
 (iT l p).bind fun a=>(iN l a.2).bind fun b=>(iN l b.2).bind fun c=>(iN l c.2).bind fun d=>(iN l d.2).bind fun e=>(iC l 12 e.2).bind fun f=>(iMany (iMail l) f.1.toNat f.2).bind fun g=>(iC l 40 g.2).bind fun h=>(iMany (iGone l) h.1.toNat h.2).bind fun i=>some (⟨a.1,b.1,c.1,d.1,g.1,i.1,e.1⟩,i.2)
def iAcc (l:List Int) (p:Int):Option (AccD × Int) :=
 (iN l p).bind fun a=>(iC l 4 a.2).bind fun b=>(iMany (iBox l) b.1.toNat b.2).bind fun c=>(iC l 60 c.2).bind fun d=>(iMany (iN l) d.1.toNat d.2).bind fun e=>some (⟨a.1,c.1,e.1⟩,e.2)

theorem gN_neg {l:List Int} {p:Int} (h:p < 0):(gN l p).2 < 0:=by unfold gN;rw [if_pos h];exact h
theorem gT_neg {l:List Int} {p:Int} (h:p < 0):(gT l p).2 < 0:=by unfold gT;rw [if_pos h];exact h
theorem gMany_neg {α:Type} {g:Int→α × Int} (m:Nat) {p:Int} (h:p < 0):(gMany g m p).2 < 0:=by
 cases m with
 | zero=>exact h
 | succ m=>unfold gMany;rw [if_pos h];exact h
theorem bP4_neg {l:List Int} {p:Int} (h:bP0 l p < 0):bP4 l p < 0:=gN_neg (gN_neg (gN_neg (gN_neg h)))
theorem bM_neg {l:List Int} {p:Int} (h:bP4 l p < 0):(bM l p).2 < 0:=gMany_neg _ (gN_neg h)
theorem bG_neg {l:List Int} {p:Int} (h:(bM l p).2 < 0):(bG l p).2 < 0:=gMany_neg _ (gN_neg h)

/-- What one reads the other reads, or else the place is none, or what was read is bad. -/
def Agr {α:Type} (bad:α→Prop) (s:α × Int):Option (α × Int)→Prop
 | some y=>s=y∧0≤s.2
 | none=>s.2 < 0∨bad s.1
theorem agr_n (l:List Int) {p:Int} (h:0≤p):Agr (fun _=>False) (gN l p) (iN l p):=by
 unfold gN iN
 rw [if_neg (by omega)]
 split
 ·exact .inl (by assumption)
 ·exact ⟨rfl,by omega⟩
theorem agr_t (l:List Int) {p:Int} (h:0≤p):Agr (fun _=>False) (gT l p) (iT l p):=by
 unfold gT iT
 rw [if_neg (by omega)]
 split
 ·exact .inl (by assumption)
 ·exact ⟨rfl,by omega⟩
theorem many_len {α:Type} (g:Int→α × Int):∀ (m:Nat) (p:Int),(gMany g m p).2 < 0∨(gMany g m p).1.length=m
 | 0,p=>by simp [gMany]
 | m+1,p=>by
  unfold gMany
  split
  ·exact .inl (by assumption)
  ·rcases many_len g m (g p).2 with h | h
   ·exact .inl h
   ·exact .inr (by simp [h])
theorem agr_many {α:Type} {g:Int→α × Int} {i:Int→Option (α × Int)} {bad:α→Prop} (hg:∀ p,0≤p→Agr bad (g p) (i p)):∀ (m:Nat) (p:Int),0≤p→Agr (fun l:List α=>∃ x,x ∈ l∧bad x) (gMany g m p) (iMany i m p)
 | 0,p,h=>⟨rfl,h⟩
 | m+1,p,h=>by
  have h1:=hg p h
  unfold gMany iMany
  rw [if_neg (by omega)]
  cases hi:i p with
  | none =>
   rw [hi] at h1
   rcases h1 with h1 | h1
   ·exact .inl (gMany_neg _ h1)
   ·exact .inr ⟨_,List.mem_cons_self,h1⟩
  | some x =>
   rw [hi] at h1
   obtain ⟨e,h2⟩:=h1
   have h3:=agr_many hg m (g p).2 h2
   rw [← e]
   cases hm:iMany i m (g p).2 with
   | none =>
    rw [hm] at h3
    simp only [Option.bind_some,hm,Option.bind_none]
    rcases h3 with h3 | ⟨y,h3,h4⟩
    ·exact .inl h3
    ·exact .inr ⟨y,List.mem_cons_of_mem _ h3,h4⟩
   | some y =>
    rw [hm] at h3
    obtain ⟨e2,h4⟩:=h3
    simp only [Option.bind_some,hm]
    exact ⟨by rw [e2],h4⟩
theorem agr_mail (l:List Int) (p:Int) (h:0≤p):Agr (fun _=>False) (gMail l p) (iMail l p):=by
 unfold iMail
 have h0:=agr_n l h
 cases e0:iN l p with
 | none=>rw [e0] at h0;rcases h0 with h0 | h0;exact .inl (gT_neg (gN_neg (gN_neg h0)));exact h0.elim
 | some a =>
  rw [e0] at h0;obtain ⟨f0,k0⟩:=h0;rw [f0] at k0
  have h1:=agr_n l k0
  simp only [Option.bind_some]
  cases e1:iN l a.2 with
  | none=>rw [e1] at h1;rcases h1 with h1 | h1;exact .inl (gT_neg (gN_neg (by rw [f0];exact h1)));exact h1.elim
  | some b =>
   rw [e1] at h1;obtain ⟨f1,k1⟩:=h1;rw [f1] at k1
   have h2:=agr_n l k1
   simp only [Option.bind_some]
   cases e2:iN l b.2 with
   | none=>rw [e2] at h2;rcases h2 with h2 | h2;exact .inl (gT_neg (by rw [f0,f1];exact h2));exact h2.elim
   | some c =>
    rw [e2] at h2;obtain ⟨f2,k2⟩:=h2;rw [f2] at k2
    have h3:=agr_t l k2
    simp only [Option.bind_some]
    cases e3:iT l c.2 with
    | none=>rw [e3] at h3;rcases h3 with h3 | h3;exact .inl (by unfold gMail;rw [f0,f1,f2];exact h3);exact h3.elim
    | some d =>
     rw [e3] at h3;obtain ⟨f3,k3⟩:=h3
     simp only [Option.bind_some]
     refine ⟨?_,?_⟩
     ·unfold gMail;rw [f0,f1,f2,f3]
     ·unfold gMail;rw [f0,f1,f2];exact k3
theorem agr_gone (l:List Int) (p:Int) (h:0≤p):Agr (fun _=>False) (gGone l p) (iGone l p):=by
 unfold iGone
 have h0:=agr_n l h
 cases e0:iN l p with
 | none=>rw [e0] at h0;rcases h0 with h0 | h0;exact .inl (gN_neg h0);exact h0.elim
 | some a =>
  rw [e0] at h0;obtain ⟨f0,k0⟩:=h0;rw [f0] at k0
  have h1:=agr_n l k0
  simp only [Option.bind_some]
  cases e1:iN l a.2 with
  | none=>rw [e1] at h1;rcases h1 with h1 | h1;exact .inl (by unfold gGone;rw [f0];exact h1);exact h1.elim
  | some b =>
   rw [e1] at h1;obtain ⟨f1,k1⟩:=h1
   simp only [Option.bind_some]
   exact ⟨by unfold gGone;rw [f0,f1],by unfold gGone;rw [f0];exact k1⟩
/-- A list with its number ahead. -/
theorem agr_list {α:Type} {g:Int→α × Int} {i:Int→Option (α × Int)} {bad:α→Prop} (hg:∀ p,0≤p→Agr bad (g p) (i p)) (l:List Int) (most:Nat) (p:Int) (h:0≤p) :
  Agr (fun x:List α=>most < x.length∨∃ y,y ∈ x∧bad y) (gMany g (min (gN l p).1.toNat (most+1)) (gN l p).2) ((iC l most p).bind fun f=>iMany i f.1.toNat f.2):=by
 have h0:=agr_n l h
 unfold iC
 cases e0:iN l p with
 | none=>rw [e0] at h0;rcases h0 with h0 | h0;exact .inl (gMany_neg _ h0);exact h0.elim
 | some a =>
  rw [e0] at h0;obtain ⟨f0,k0⟩:=h0
  simp only [Option.bind_some]
  rw [f0] at k0 ⊢
  by_cases hm:(most:Int) < a.1
  ·rw [if_pos hm,show min a.1.toNat (most+1)=most+1 by omega]
   simp only [Option.bind_none]
   rcases many_len g (most+1) a.2 with h | h
   ·exact .inl h
   ·exact .inr (.inl (by omega))
  ·rw [if_neg hm,show min a.1.toNat (most+1)=a.1.toNat by omega]
   simp only [Option.bind_some]
   have h1:=agr_many hg a.1.toNat a.2 k0
   revert h1
   cases iMany i a.1.toNat a.2 with
   | none=>intro h1;rcases h1 with h1 | h1;exact .inl h1;exact .inr (.inr h1)
   | some y=>exact fun h1=>h1
def badX (x:BoxD):Prop:=12 < x.mails.length∨40 < x.gones.length
theorem iBox_eq (l:List Int) (p:Int):iBox l p=(iT l p).bind fun a=>(iN l a.2).bind fun b=>(iN l b.2).bind fun c=>(iN l c.2).bind fun d=>(iN l d.2).bind fun e=>((iC l 12 e.2).bind fun f=>iMany (iMail l) f.1.toNat f.2).bind fun g=>((iC l 40 g.2).bind fun h=>iMany (iGone l) h.1.toNat h.2).bind fun i=>some (⟨a.1,b.1,c.1,d.1,g.1,i.1,e.1⟩,i.2):=by
 unfold iBox
 simp only [Option.bind_assoc]
theorem agr_box (l:List Int) (p:Int) (h:0≤p):Agr badX (gBox l p) (iBox l p):=by
 rw [iBox_eq]
 have h0:=agr_t l h
 cases e0:iT l p with
 | none=>rw [e0] at h0;rcases h0 with h0 | h0;exact .inl (bG_neg (bM_neg (bP4_neg h0)));exact h0.elim
 | some a =>
  rw [e0] at h0;obtain ⟨f0,k0⟩:=h0;rw [f0] at k0
  have q0:bP0 l p=a.2:=by unfold bP0;rw [f0]
  have h1:=agr_n l k0
  simp only [Option.bind_some]
  cases e1:iN l a.2 with
  | none=>rw [e1] at h1;rcases h1 with h1 | h1;exact .inl (bG_neg (bM_neg (gN_neg (gN_neg (gN_neg (show (gN l (bP0 l p)).2 < 0 by rw [q0];exact h1))))));exact h1.elim
  | some b =>
   rw [e1] at h1;obtain ⟨f1,k1⟩:=h1;rw [f1] at k1
   have q1:bP1 l p=b.2:=by unfold bP1;rw [q0,f1]
   have h2:=agr_n l k1
   simp only [Option.bind_some]
   cases e2:iN l b.2 with
   | none=>rw [e2] at h2;rcases h2 with h2 | h2;exact .inl (bG_neg (bM_neg (gN_neg (gN_neg (show (gN l (bP1 l p)).2 < 0 by rw [q1];exact h2)))));exact h2.elim
   | some c =>
    rw [e2] at h2;obtain ⟨f2,k2⟩:=h2;rw [f2] at k2
    have q2:bP2 l p=c.2:=by unfold bP2;rw [q1,f2]
    have h3:=agr_n l k2
    simp only [Option.bind_some]
    cases e3:iN l c.2 with
    | none=>rw [e3] at h3;rcases h3 with h3 | h3;exact .inl (bG_neg (bM_neg (gN_neg (show (gN l (bP2 l p)).2 < 0 by rw [q2];exact h3))));exact h3.elim
    | some d =>
     rw [e3] at h3;obtain ⟨f3,k3⟩:=h3;rw [f3] at k3
     have q3:bP3 l p=d.2:=by unfold bP3;rw [q2,f3]
     have h4:=agr_n l k3
     simp only [Option.bind_some]
     cases e4:iN l d.2 with
     | none=>rw [e4] at h4;rcases h4 with h4 | h4;exact .inl (bG_neg (bM_neg (show (gN l (bP3 l p)).2 < 0 by rw [q3];exact h4)));exact h4.elim
     | some e =>
      rw [e4] at h4;obtain ⟨f4,k4⟩:=h4;rw [f4] at k4
      have q4:bP4 l p=e.2:=by unfold bP4;rw [q3,f4]
      have h5:=agr_list (agr_mail l) l 12 e.2 k4
      simp only [Option.bind_some]
      have m0:bM l p=gMany (gMail l) (min (gN l e.2).1.toNat 13) (gN l e.2).2:=by unfold bM;rw [q4]
      rw [← m0] at h5
      cases e5:(iC l 12 e.2).bind fun f=>iMany (iMail l) f.1.toNat f.2 with
      | none =>
       rw [show ((12:Nat):Int)=12 from rfl,e5] at h5
       rcases h5 with h5 | h5 | ⟨y,_,h5⟩
       ·exact .inl (bG_neg h5)
       ·exact .inr (.inl h5)
       ·exact h5.elim
      | some g =>
       rw [show ((12:Nat):Int)=12 from rfl,e5] at h5;obtain ⟨f5,k5⟩:=h5;rw [f5] at k5
       have h6:=agr_list (agr_gone l) l 40 g.2 k5
       simp only [Option.bind_some]
       have m1:bG l p=gMany (gGone l) (min (gN l g.2).1.toNat 41) (gN l g.2).2:=by unfold bG;rw [f5]
       rw [← m1] at h6
       cases e6:(iC l 40 g.2).bind fun h=>iMany (iGone l) h.1.toNat h.2 with
       | none =>
        rw [show ((40:Nat):Int)=40 from rfl,e6] at h6
        rcases h6 with h6 | h6 | ⟨y,_,h6⟩
        ·exact .inl h6
        ·exact .inr (.inr h6)
        ·exact h6.elim
       | some i =>
        rw [show ((40:Nat):Int)=40 from rfl,e6] at h6;obtain ⟨f6,k6⟩:=h6
        simp only [Option.bind_some]
        refine ⟨?_,k6⟩
        unfold gBox
        rw [f0,q0,f1,q1,f2,q2,f3,q3,f4,f5,f6]
def badA (a:AccD):Prop:=4 < a.boxes.length∨(∃ x,x ∈ a.boxes∧badX x)∨60 < a.seen.length
theorem iAcc_eq (l:List Int) (p:Int):iAcc l p=(iN l p).bind fun a=>((iC l 4 a.2).bind fun b=>iMany (iBox l) b.1.toNat b.2).bind fun c=>((iC l 60 c.2).bind fun d=>iMany (iN l) d.1.toNat d.2).bind fun e=>some (⟨a.1,c.1,e.1⟩,e.2):=by
 unfold iAcc
 simp only [Option.bind_assoc]
theorem agr_acc (l:List Int) (p:Int) (h:0≤p):Agr badA (gAcc l p) (iAcc l p):=by
 rw [iAcc_eq]
 have h0:=agr_n l h
 cases e0:iN l p with
 | none=>rw [e0] at h0;rcases h0 with h0 | h0;exact .inl (gMany_neg _ (gN_neg (gMany_neg _ (gN_neg h0))));exact h0.elim
 | some a =>
  rw [e0] at h0;obtain ⟨f0,k0⟩:=h0;rw [f0] at k0
  have h5:=agr_list (agr_box l) l 4 a.2 k0
  simp only [Option.bind_some]
  have m0:aB l p=gMany (gBox l) (min (gN l a.2).1.toNat 5) (gN l a.2).2:=by unfold aB;rw [f0]
  rw [← m0] at h5
  cases e5:(iC l 4 a.2).bind fun f=>iMany (iBox l) f.1.toNat f.2 with
  | none =>
   rw [show ((4:Nat):Int)=4 from rfl,e5] at h5
   rcases h5 with h5 | h5 | h5
   ·exact .inl (gMany_neg _ (gN_neg h5))
   ·exact .inr (.inl h5)
   ·exact .inr (.inr (.inl h5))
  | some g =>
   rw [show ((4:Nat):Int)=4 from rfl,e5] at h5;obtain ⟨f5,k5⟩:=h5;rw [f5] at k5
   have h6:=agr_list (fun p=>agr_n l (p:=p)) l 60 g.2 k5
   simp only [Option.bind_some]
   have m1:aS l p=gMany (gN l) (min (gN l g.2).1.toNat 61) (gN l g.2).2:=by unfold aS;rw [f5]
   rw [← m1] at h6
   cases e6:(iC l 60 g.2).bind fun h=>iMany (iN l) h.1.toNat h.2 with
   | none =>
    rw [show ((60:Nat):Int)=60 from rfl,e6] at h6
    rcases h6 with h6 | h6 | ⟨y,_,h6⟩
    ·exact .inl h6
    ·exact .inr (.inr (.inr h6))
    ·exact h6.elim
   | some i =>
    rw [show ((60:Nat):Int)=60 from rfl,e6] at h6;obtain ⟨f6,k6⟩:=h6
    simp only [Option.bind_some]
    exact ⟨by unfold gAcc;rw [f0,f5,f6],k6⟩

/-- What was read from p up to q stands there as the bytes y. -/
def Wrt (l:List Int) (p q:Int) (y:List Int):Prop:=p≤q∧q≤l.length∧l.take q.toNat=l.take p.toNat ++ y
theorem Wrt.trans {l:List Int} {p q r:Int} {y z:List Int} (h:Wrt l p q y) (k:Wrt l q r z):Wrt l p r (y ++ z):=⟨by have:=h.1;have:=k.1;omega,k.2.1,by rw [k.2.2,h.2.2,List.append_assoc]⟩
theorem wrt_n {l:List Int} {p:Int} {r:Int × Int} (ho:Oct l) (h:iN l p=some r):Wrt l p r.2 (numB r.1)∧0≤r.1∧0≤r.2:=by
 unfold iN at h
 split at h
 ·cases h
 ·simp only [Option.some.injEq] at h
  subst h
  have:=put_get l p (getL l p).1 (getL l p).2 ho rfl (by omega)
  have hb:=getL_bd l p
  refine ⟨⟨this.2.1,this.2.2.1,?_⟩,?_,by omega⟩
  ·rw [← this.2.2.2,putL_eq]
  ·rcases hb with hb | hb
   ·rw [hb];simp
   ·exact hb.1
theorem wrt_t {l:List Int} {p:Int} {r:List Int × Int} (ho:Oct l) (h:iT l p=some r):Wrt l p r.2 (txB r.1)∧0≤r.2:=by
 unfold iT at h
 split at h
 ·cases h
 ·rename_i hn
  simp only [Option.some.injEq] at h
  subst h
  unfold getTL at hn ⊢
  split
  ·rename_i hc
   rw [if_pos hc] at hn
   simp at hn
  ·rename_i hc
   have hb:=getL_bd l p
   have hr:iN l p=some (getL l p):=by unfold iN;rw [if_neg (by omega)]
   have hw:=(wrt_n ho hr).1
   have h0:=(wrt_n ho hr).2.1
   have ht:((l.drop (getL l p).2.toNat).take (getL l p).1.toNat).length=(getL l p).1.toNat:=by simp;omega
   refine ⟨⟨by have:=hw.1;simp only;omega,by simp only;omega,?_⟩,by simp only;omega⟩
   simp only
   have e:txB ((l.drop (getL l p).2.toNat).take (getL l p).1.toNat)=numB (getL l p).1 ++ (l.drop (getL l p).2.toNat).take (getL l p).1.toNat:=by
    unfold txB putTL
    rw [if_neg (by omega),ht]
    rw [show (((getL l p).1.toNat:Nat):Int)=(getL l p).1 by omega]
    rfl
   rw [e,← List.append_assoc,← hw.2.2,show ((getL l p).2+(getL l p).1).toNat=(getL l p).2.toNat+(getL l p).1.toNat by omega,List.take_add]
theorem wrt_many {α:Type} {i:Int→Option (α × Int)} {f:α→List Int} {l:List Int} (hi:∀ p x,0≤p→i p=some x→Wrt l p x.2 (f x.1)∧0≤x.2):∀ (m:Nat) (p:Int) (y:List α × Int),0≤p→p≤l.length→iMany i m p=some y→Wrt l p y.2 (y.1.flatMap f)∧0≤y.2∧y.1.length=m
 | 0,p,y,h0,h1,h=>by
  simp only [iMany,Option.some.injEq] at h
  subst h
  exact ⟨⟨Int.le_refl _,h1,by simp⟩,h0,rfl⟩
 | m+1,p,y,h0,h1,h=>by
  unfold iMany at h
  cases e:i p with
  | none=>rw [e] at h;cases h
  | some x =>
   rw [e] at h
   simp only [Option.bind_some] at h
   have hw:=hi p x h0 e
   cases e2:iMany i m x.2 with
   | none=>rw [e2] at h;cases h
   | some z =>
    rw [e2] at h
    simp only [Option.bind_some,Option.some.injEq] at h
    subst h
    have h2:=wrt_many hi m x.2 z hw.2 hw.1.2.1 e2
    refine ⟨?_,h2.2.1,by simp [h2.2.2]⟩
    simp only [List.flatMap_cons]
    exact hw.1.trans h2.1
theorem bind_parts {α β:Type} {x:Option α} {f:α→Option β} {y:β} (h:x.bind f=some y):∃ a,x=some a∧f a=some y:=by
 cases x with
 | none=>cases h
 | some a=>exact ⟨a,rfl,h⟩
theorem wrt_mail {l:List Int} (ho:Oct l) (p:Int) (x:MailD × Int) (h0:0≤p) (h:iMail l p=some x):Wrt l p x.2 (mailBs x.1)∧0≤x.2:=by
 unfold iMail at h
 obtain ⟨a,ha,h⟩:=bind_parts h
 obtain ⟨b,hb,h⟩:=bind_parts h
 obtain ⟨c,hc,h⟩:=bind_parts h
 obtain ⟨d,hd,h⟩:=bind_parts h
 simp only [Option.some.injEq] at h
 subst h
 exact ⟨(wrt_n ho ha).1.trans ((wrt_n ho hb).1.trans ((wrt_n ho hc).1.trans (wrt_t ho hd).1)),(wrt_t ho hd).2⟩
theorem wrt_gone {l:List Int} (ho:Oct l) (p:Int) (x:GoneD × Int) (h0:0≤p) (h:iGone l p=some x):Wrt l p x.2 (goneBs x.1)∧0≤x.2:=by
 unfold iGone at h
 obtain ⟨a,ha,h⟩:=bind_parts h
 obtain ⟨b,hb,h⟩:=bind_parts h
 simp only [Option.some.injEq] at h
 subst h
 exact ⟨(wrt_n ho ha).1.trans (wrt_n ho hb).1,(wrt_n ho hb).2.2⟩
theorem wrt_c {l:List Int} {p most:Int} {r:Int × Int} (ho:Oct l) (h:iC l most p=some r):Wrt l p r.2 (numB r.1)∧0≤r.1∧0≤r.2∧r.1≤most:=by
 unfold iC at h
 obtain ⟨a,ha,h⟩:=bind_parts h
 split at h
 ·cases h
 ·simp only [Option.some.injEq] at h
  subst h
  have:=wrt_n ho ha
  exact ⟨this.1,this.2.1,this.2.2,by omega⟩
theorem wrt_box {l:List Int} (ho:Oct l) (p:Int) (x:BoxD × Int) (h0:0≤p) (h:iBox l p=some x):Wrt l p x.2 (boxBs x.1)∧0≤x.2:=by
 unfold iBox at h
 obtain ⟨a,ha,h⟩:=bind_parts h
 obtain ⟨b,hb,h⟩:=bind_parts h
 obtain ⟨c,hc,h⟩:=bind_parts h
 obtain ⟨d,hd,h⟩:=bind_parts h
 obtain ⟨e,he,h⟩:=bind_parts h
 obtain ⟨f,hf,h⟩:=bind_parts h
 obtain ⟨g,hg,h⟩:=bind_parts h
 obtain ⟨k,hk,h⟩:=bind_parts h
 obtain ⟨i,hi,h⟩:=bind_parts h
 simp only [Option.some.injEq] at h
 subst h
 have wf:=wrt_c ho hf
 have wk:=wrt_c ho hk
 have wg:=wrt_many (wrt_mail ho) _ _ _ wf.2.2.1 wf.1.2.1 hg
 have wi:=wrt_many (wrt_gone ho) _ _ _ wk.2.2.1 wk.1.2.1 hi
 have eg:((g.1.length:Nat):Int)=f.1:=by rw [wg.2.2];omega
 have ei:((i.1.length:Nat):Int)=k.1:=by rw [wi.2.2];omega
 refine ⟨?_,wi.2.1⟩
 unfold boxBs
 simp only [eg,ei]
 exact (wrt_t ho ha).1.trans ((wrt_n ho hb).1.trans ((wrt_n ho hc).1.trans ((wrt_n ho hd).1.trans ((wrt_n ho he).1.trans (wf.1.trans (wg.1.trans (wk.1.trans wi.1)))))))
theorem wrt_acc {l:List Int} (ho:Oct l) (p:Int) (x:AccD × Int) (h0:0≤p) (h:iAcc l p=some x):Wrt l p x.2 (accBs x.1)∧0≤x.2:=by
 unfold iAcc at h
 obtain ⟨a,ha,h⟩:=bind_parts h
 obtain ⟨f,hf,h⟩:=bind_parts h
 obtain ⟨g,hg,h⟩:=bind_parts h
 obtain ⟨k,hk,h⟩:=bind_parts h
 obtain ⟨i,hi,h⟩:=bind_parts h
 simp only [Option.some.injEq] at h
 subst h
 have wf:=wrt_c ho hf
 have wk:=wrt_c ho hk
 have wg:=wrt_many (wrt_box ho) _ _ _ wf.2.2.1 wf.1.2.1 hg
 have wi:=wrt_many (f:=numB) (fun p x _ h=>⟨(wrt_n ho h).1,(wrt_n ho h).2.2⟩) _ _ _ wk.2.2.1 wk.1.2.1 hi
 have eg:((g.1.length:Nat):Int)=f.1:=by rw [wg.2.2];omega
 have ei:((i.1.length:Nat):Int)=k.1:=by rw [wi.2.2];omega
 refine ⟨?_,wi.2.1⟩
 unfold accBs
 simp only [eg,ei]
 exact (wrt_n ho ha).1.trans (wf.1.trans (wg.1.trans (wk.1.trans wi.1)))
theorem bad_acc {a:AccD} (h:badA a):accB a=false:=by
 cases e:accB a with
 | false=>rfl
 | true =>
  exfalso
  have h1:=accB_small e
  have h2:=accB_seen e
  rcases h with h | ⟨x,hx,h⟩ | h
  ·omega
  ·have:=h1.2 x hx
   rcases h with h | h <;> omega
  ·omega
theorem szM_le:∀ (l:List MailD),(∀ m,m ∈ l→m.text.length≤30)→szM l≤31 * l.length
 | [],_=>by simp [szM]
 | x :: l,h=>by
  have h1:=h x (by simp)
  have h2:=szM_le l (fun m hm=>h m (by simp [hm]))
  simp only [szM,List.map_cons,List.sum_cons,List.length_cons] at h2 ⊢
  omega
theorem szXs_le (C:Nat):∀ (l:List BoxD),(∀ b,b ∈ l→szX b≤C)→szXs l≤(C+1) * l.length
 | [],_=>by simp [szXs]
 | x :: l,h=>by
  have h1:=h x (by simp)
  have h2:=szXs_le C l (fun m hm=>h m (by simp [hm]))
  simp only [szXs,List.map_cons,List.sum_cons,List.length_cons,Nat.mul_add,Nat.mul_one] at h2 ⊢
  omega
theorem acc_sz {a:AccD} (h:accB a=true):szXs a.boxes≤2000000:=by
 have hs:=accB_small h
 have h1:∀ b,b ∈ a.boxes→szX b≤500:=by
  intro b hb
  have hl:=hs.2 b hb
  simp only [accB,Bool.and_eq_true,decide_eq_true_eq,List.all_eq_true,List.mem_range] at h
  obtain ⟨i,hi,rfl⟩:=List.mem_iff_getElem.1 hb
  have:=h.2.2.2 i hi
  simp only [boxAt,List.getElem?_eq_getElem hi,boxB,mailsB,nameB,Bool.and_eq_true,decide_eq_true_eq,List.all_eq_true,List.mem_range] at this
  have hn:=this.1.1.2.1
  have hm:=this.1.2.2.2.2.2.1.2
  have hk:szM a.boxes[i].mails≤31 * a.boxes[i].mails.length:=by
   refine szM_le _ fun m hm'=>?_
   obtain ⟨j,hj,rfl⟩:=List.mem_iff_getElem.1 hm'
   have h3:=hm j hj
   simp only [mailAt,List.getElem?_eq_getElem hj,textB,Bool.and_eq_true,decide_eq_true_eq] at h3
   exact h3.2.2.2.1
  unfold szX
  omega
 have h2:=szXs_le 500 a.boxes h1
 have h3:=hs.1
 omega
def nilA:AccD:=⟨0,[],[]⟩
/-- What the specification answers, what the program answers. -/
def okS (l:List Int):Bool:=decide ((gAcc l 0).2=l.length) && (accB (gAcc l 0).1 && decide (accBs (gAcc l 0).1=l))
def okI (l:List Int):Bool:=match iAcc l 0 with
 | some y=>decide (y.2=l.length) && accB y.1
 | none=>false
def outS (l:List Int):AccD:=match okS l with
 | true=>(gAcc l 0).1
 | false=>nilA
theorem ok_same {l:List Int} (ho:Oct l):okS l=okI l:=by
 have h:=agr_acc l 0 (Int.le_refl _)
 unfold okS okI
 cases e:iAcc l 0 with
 | none =>
  rw [e] at h
  rcases h with h | h
  ·rw [decide_eq_false (by omega)];rfl
  ·simp [bad_acc h]
 | some y =>
  rw [e] at h
  obtain ⟨f,k⟩:=h
  rw [f]
  by_cases hq:y.2=l.length
  ·have hw:=(wrt_acc ho 0 y (Int.le_refl _) e).1.2.2
   rw [hq] at hw
   simp at hw
   simp [hq,← hw]
  ·simp [hq]
theorem out_same {l:List Int} {y:AccD × Int} (ho:Oct l) (e:iAcc l 0=some y) (hk:okI l=true):outS l=y.1:=by
 have h:=agr_acc l 0 (Int.le_refl _)
 rw [e] at h
 unfold outS
 rw [ok_same ho,hk]
 simp only [h.1]

end Go.Proofs.YtnlhkgoppjejeaaDoor

/- A cursor that is written while all else stays: what lies elsewhere, and what is new. -/
namespace Go.Proofs.YtnlhkgoppjejeaaDoor
open Go.RowKit

section
variable {w w' w'' : World} {g b : Nat}
theorem gr_at {o:Obj} (h:w.grownBy w' (some g)) (hb:w.heap[b]?=some o) (hne:b≠g):w'.heap[b]?=some o:=(h.block b (lt_of_heap hb) fun e=>hne (by simpa using e)).trans hb
theorem gr_set {j:Nat} {u:Value} (h:w.grownBy w' (some g)) (hb:w.heap.size≤b):w.grownBy (w'.setCell ⟨b,j,none⟩ u) (some g) :=
 ⟨h.os,h.tape,h.output,by rw [box_size];exact h.size,fun k hk hne=>(Below.heap_setCell w' ⟨b,j,none⟩ u k (show k≠b by omega)).trans (h.block k hk hne)⟩
theorem gr_below (h:w.grownBy w' (some g)) (hb:Below w'.heap.size w' w''):w.grownBy w'' (some g) :=
 ⟨hb.os.trans h.os,hb.tape.trans h.tape,hb.output.trans h.output,Nat.le_trans h.size hb.size,fun k hk hne=>(hb.block k (Nat.lt_of_lt_of_le hk h.size)).trans (h.block k hk hne)⟩
theorem gr_alloc {o:Obj} (h:w.grownBy w' (some g)):w.grownBy (w'.alloc o) (some g):=gr_below h ((Below.refl _ _).alloc (Nat.le_refl _) o)
theorem gr_push {row:Option Nat} (h:w.grownBy w' (some g)) (k:w'.grownBy w'' row) (hr:∀ j,row=some j→w.heap.size≤j):w.grownBy w'' (some g) :=
 ⟨k.os.trans h.os,k.tape.trans h.tape,k.output.trans h.output,Nat.le_trans h.size k.size,fun i hi hne=>(k.block i (Nat.lt_of_lt_of_le hi h.size) fun e=>by have:=hr i e.symm;omega).trans (h.block i hi hne)⟩
theorem Row.gr {B T:Nat} {v:Value} {l:List Int} (h:Row w B T v l) (hw:w.grownBy w' (some g)) (hd:g < B∨T≤g):Row w' B T v l:=h.drawn hw hd
variable {α : Type} {t : TypeId} {sz B T : Nat} {E : World → List Value → α → (Nat → Prop) → Prop} {v : Value} {l : List α}
theorem OwR.gr [Fr E] (h:OwR t sz E w B T v l) (hw:w.grownBy w' (some g)) (hd:g < B∨T≤g):OwR t sz E w' B T v l :=
 Ow.frame Fr.out h fun b hb hlt=>hw.block b hlt fun e=>by have:=hb.1;have:=hb.2;simp only [Option.some.injEq] at e;omega
theorem OwR.gr' [Fr E] {row:Option Nat} (h:OwR t sz E w B T v l) (hw:w.grownBy w' row) (hd:∀ j,row=some j→T≤j):OwR t sz E w' B T v l :=
 Ow.frame Fr.out h fun b hb hlt=>hw.block b hlt fun e=>by have:=hd b e.symm;have:=hb.2;omega
end
theorem Row.gr' {w w':World} {B T:Nat} {v:Value} {l:List Int} {row:Option Nat} (h:Row w B T v l) (hw:w.grownBy w' row) (hd:∀ j,row=some j→T≤j):Row w' B T v l:=by
 refine ⟨h.1,⟨h.2.1.1,?_⟩,h.2.2⟩
 rcases h.2.1.2 with hn | ⟨g,cap,cur,hv,hg,hh,r⟩
 ·exact .inl hn
 ·have hlt:g < T:=h.2.2 g (by rw [hv];rfl)
  exact .inr ⟨g,cap,cur,hv,hg,(hw.block g (lt_of_heap hh) fun e=>by have:=hd g e.symm;omega).trans hh,r⟩
theorem i64_of {n:Int} (h:0≤n∧n≤2147483647):I64 n:=⟨by omega,by omega⟩
end Go.Proofs.YtnlhkgoppjejeaaDoor

/- What moveTo, num, text, count of the reader of bytes of package impl do: they read, or give up by a panic. -/
namespace Go.Proofs.YtnlhkgoppjejeaaDoor
open Go.RowKit
set_option maxRecDepth 100000
set_option linter.unusedVariables false
set_option linter.unusedSimpArgs false

set_option maxRecDepth 100000 in
set_option maxHeartbeats 1000000 in
theorem moveTo_ok (g:Nat) (bv:Value) (p q:Int) (w:World) (hc:w.heap[g]?=some (.cells #[bv,.int .i64 p] 54 (0,0))) (hq:0≤q) :
  Calls Tryd.prog 61 #[.pointer (some ⟨g,0,none⟩),.int .i64 q] w fun e w'=>e=.returned (.tuple #[])∧w'=w.setCell ⟨g,1,none⟩ (.int .i64 q):=by
 obtain ⟨c0,c1⟩:=bx2 hc
 obtain ⟨cz,cl⟩:=box8z hc
 have hd:¬ q < 0:=by omega
 clear hc
 go_enter Tryd.func61,Tryd.ntmps61
 go_wp2
 go_end0
 exact ⟨rfl,rfl⟩
set_option maxRecDepth 100000 in
set_option maxHeartbeats 1000000 in
theorem moveTo_no (v:Value) (q:Int) (ea:Addr) (w:World) (hE:Gave w ea) (hq:q < 0) :
  Calls Tryd.prog 61 #[v,.int .i64 q] w fun e w'=>e=gaveUp ea∧w'=w:=by
 have h0:w.cell? ⟨1,0,none⟩=_:=hE
 clear hE
 go_enter Tryd.func61,Tryd.ntmps61
 go_wp2
 exact ⟨rfl,rfl,rfl⟩

set_option maxRecDepth 100000 in
set_option maxHeartbeats 2000000 in
theorem num_c (g:Nat) (bv:Value) (l:List Int) (p:Int) (ea:Addr) (w:World) (hc:w.heap[g]?=some (.cells #[bv,.int .i64 p] 54 (0,0))) (hb:∀ wi,w.grownBy wi (some g)→Bs wi bv l) (hE:Gave w ea) (hl:l.length≤2000000) (hp0:0≤p) (hp1:p≤9000000) :
  Calls Tryd.prog 43 #[.pointer (some ⟨g,0,none⟩)] w fun e w'=>((∃ r,iN l p=some r∧e=.returned (.int .i64 r.1)∧w'.heap[g]?=some (.cells #[bv,.int .i64 r.2] 54 (0,0)))∨(iN l p=none∧e=gaveUp ea))∧w.grownBy w' (some g):=by
 have HC:Hid (w.heap[g]?=some (.cells #[bv,.int .i64 p] 54 (0,0))):=hc
 have HE:Hid (Gave w ea):=hE
 have DR:Below w.heap.size w w.drew:=(Below.refl _ _).drew
 have HB:Bs w.drew bv l:=hb _ (gr_below (World.grownBy.refl _ _) DR)
 obtain ⟨ba,bn,bc,rfl⟩:=HB.form3
 have HI:Hid (iN l p=if (getL l p).2 < 0 then none else some (getL l p)):=rfl
 have hcall:=implGetNum_any _ l p _ HB hl (by omega) (by omega)
 generalize hG:getL l p=G at hcall HI
 obtain ⟨n,q⟩:=G
 simp only at hcall
 have HS:Hid (∀ w',Below w.heap.size w w'→w'.cell? ⟨g,0,none⟩=some (.slice ba bn bc)∧w'.cell? ⟨g,1,none⟩=some (.int .i64 p)):=fun w' h=>bx2 (box_below h HC.out)
 clear hb hG hc hE HB
 go_enter Tryd.func43,Tryd.ntmps43
 go_wp2
 go_region_held3 (fun w'=>w'.cell? ⟨g,0,none⟩=some (.slice ba bn bc)∧w'.cell? ⟨g,1,none⟩=some (.int .i64 p))
  (first | exact HS.out _ C1 | exact HS.out _ DR | go_keep)
  ((first | (go_at_call 60;refine hcall.mono ?_;rintro e w1 ⟨rfl,B1⟩;have C1:=Below.step DR B1)))
 clear hcall
 have K1:=box_below C1 HC.out
 have HE1:Hid (Gave w1 ea):=HE.out.below C1
 by_cases hq:q < 0
 ·have HN:Hid (iN l p=none):=by show _=_;rw [HI.out,if_pos hq]
  go_wp2_with fail
  refine (moveTo_no _ q ea _ HE1.out hq).mono ?_
  rintro e w2 ⟨rfl,rfl⟩
  go_wp2
  exact ⟨rfl,.inr ⟨HN.out,rfl⟩,gr_below (World.grownBy.refl _ _) C1⟩
 ·have HN:Hid (iN l p=some (n,q)):=by show _=_;rw [HI.out,if_neg hq]
  go_wp2_with fail
  refine (moveTo_ok g _ p q _ K1 (by omega)).mono ?_
  rintro e w2 ⟨rfl,rfl⟩
  go_wp2
  go_ret
  exact ⟨.inl ⟨_,HN.out,rfl,box_set K1⟩,grownBy_setCell (gr_below (World.grownBy.refl _ _) C1)⟩

set_option maxRecDepth 100000 in
set_option maxHeartbeats 2000000 in
theorem text_c (g:Nat) (bv:Value) (l:List Int) (p:Int) (ea:Addr) (w:World) (hc:w.heap[g]?=some (.cells #[bv,.int .i64 p] 54 (0,0))) (hb:∀ wi,w.grownBy wi (some g)→Bs wi bv l) (hE:Gave w ea) (hl:l.length≤2000000) (hp0:0≤p) (hp1:p≤9000000) :
  Calls Tryd.prog 62 #[.pointer (some ⟨g,0,none⟩)] w fun e w'=>((∃ r u,iT l p=some r∧e=.returned u∧Row w' w.heap.size w'.heap.size u r.1∧w'.heap[g]?=some (.cells #[bv,.int .i64 r.2] 54 (0,0)))∨(iT l p=none∧e=gaveUp ea))∧w.grownBy w' (some g):=by
 have HC:Hid (w.heap[g]?=some (.cells #[bv,.int .i64 p] 54 (0,0))):=hc
 have hlg:=lt_of_heap hc
 have HE:Hid (Gave w ea):=hE
 have DR:Below w.heap.size w w.drew:=(Below.refl _ _).drew
 have HB:Bs w.drew bv l:=hb _ (gr_below (World.grownBy.refl _ _) DR)
 obtain ⟨ba,bn,bc,rfl⟩:=HB.form3
 have HI:Hid (iT l p=if (getTL l p).2 < 0 then none else some (getTL l p)):=rfl
 have hcall:=implGetText_r _ l p _ HB hl (by omega) (by omega)
 generalize hG:getTL l p=G at hcall HI
 obtain ⟨n,q⟩:=G
 simp only at hcall
 have HS:Hid (∀ w',Below w.heap.size w w'→w'.cell? ⟨g,0,none⟩=some (.slice ba bn bc)∧w'.cell? ⟨g,1,none⟩=some (.int .i64 p)):=fun w' h=>bx2 (box_below h HC.out)
 clear hb hG hc hE HB
 go_enter Tryd.func62,Tryd.ntmps62
 go_wp2
 go_region_held3 (fun w'=>w'.cell? ⟨g,0,none⟩=some (.slice ba bn bc)∧w'.cell? ⟨g,1,none⟩=some (.int .i64 p))
  (first | exact HS.out _ C1 | exact HS.out _ DR | go_keep)
  ((first | (go_at_call 82;refine hcall.mono ?_;rintro e w1 ⟨r1,rfl,R1,B1⟩;have C1:=Below.step DR B1)))
 clear hcall
 have K1:=box_below C1 HC.out
 have HE1:Hid (Gave w1 ea):=HE.out.below C1
 have HR1:Hid (Row w1 w.heap.size w1.heap.size r1 n):=R1
 clear R1
 by_cases hq:q < 0
 ·have HN:Hid (iT l p=none):=by show _=_;rw [HI.out,if_pos hq]
  go_wp2_with fail
  refine (moveTo_no _ q ea _ HE1.out hq).mono ?_
  rintro e w2 ⟨rfl,rfl⟩
  go_wp2
  exact ⟨rfl,.inr ⟨HN.out,rfl⟩,gr_below (World.grownBy.refl _ _) C1⟩
 ·have HN:Hid (iT l p=some (n,q)):=by show _=_;rw [HI.out,if_neg hq]
  go_wp2_with fail
  refine (moveTo_ok g _ p q _ K1 (by omega)).mono ?_
  rintro e w2 ⟨rfl,rfl⟩
  go_wp2
  go_ret
  refine ⟨.inl ⟨_,_,HN.out,rfl,?_,box_set K1⟩,grownBy_setCell (gr_below (World.grownBy.refl _ _) C1)⟩
  rw [box_size]
  exact Row.set HR1.out (.inl hlg)

set_option maxRecDepth 100000 in
set_option maxHeartbeats 2000000 in
theorem count_c (g:Nat) (bv:Value) (l:List Int) (p most:Int) (ea:Addr) (w:World) (hc:w.heap[g]?=some (.cells #[bv,.int .i64 p] 54 (0,0))) (hb:∀ wi,w.grownBy wi (some g)→Bs wi bv l) (hE:Gave w ea) (hne:g≠1) (hl:l.length≤2000000) (hp0:0≤p) (hp1:p≤9000000) (hm0:0≤most) (hm1:most≤1000) :
  Calls Tryd.prog 44 #[.pointer (some ⟨g,0,none⟩),.int .i64 most] w fun e w'=>((∃ r,iC l most p=some r∧e=.returned (.int .i64 r.1)∧w'.heap[g]?=some (.cells #[bv,.int .i64 r.2] 54 (0,0)))∨(iC l most p=none∧e=gaveUp ea))∧w.grownBy w' (some g):=by
 have hn:=num_c g bv l p ea w hc hb hE hl hp0 hp1
 have HE:Hid (Gave w ea):=hE
 have HI:Hid (iC l most p=(iN l p).bind fun r=>if most < r.1 then none else some r):=rfl
 clear hc hb hE
 go_enter Tryd.func44,Tryd.ntmps44
 go_wp2_with fail
 refine hn.mono ?_
 rintro e w1 ⟨⟨r,hr,rfl,KC⟩ | ⟨hr,rfl⟩,G⟩
 ·have HK:Hid _:=KC
  have HG:Hid (w.grownBy w1 (some g)):=G
  have h0:w1.cell? ⟨1,0,none⟩=_:=HE.out.gr G hne
  clear KC G
  obtain ⟨n,q⟩:=r
  by_cases hm:most < n
  ·have HN:Hid (iC l most p=none):=by show _=_;rw [HI.out,hr];simp [hm]
   clear hr
   go_wp2
   exact ⟨rfl,.inr ⟨HN.out,rfl⟩,HG.out⟩
  ·have HN:Hid (iC l most p=some (n,q)):=by show _=_;rw [HI.out,hr];simp [hm]
   clear hr
   go_wp2
   go_ret
   exact ⟨.inl ⟨_,HN.out,rfl,HK.out⟩,HG.out⟩
 ·have HN:Hid (iC l most p=none):=by show _=_;rw [HI.out,hr];rfl
  clear hr
  go_wp2
  exact ⟨rfl,.inr ⟨HN.out,rfl⟩,G⟩

end Go.Proofs.YtnlhkgoppjejeaaDoor

/- Lists that are read, or given up: a round more, the end. -/
namespace Go.Proofs.YtnlhkgoppjejeaaDoor
open Go.RowKit

section
variable {α β : Type} {g : Int → Option (α × Int)} {F : List α × Int → Option β} {R : Option β} {m k : Nat} {q : Int} {ms : List α}
theorem manyI_start {p:Int} (h:R=(iMany g m p).bind F):R=(iMany g (m - 0) p).bind fun r=>F ([] ++ r.1,r.2):=h
theorem manyI_step {x:α × Int} (h:R=(iMany g (m - k) q).bind fun r=>F (ms ++ r.1,r.2)) (hk:k < m) (hx:g q=some x):R=(iMany g (m - (k+1)) x.2).bind fun r=>F (ms ++ [x.1] ++ r.1,r.2):=by
 rw [h,show m - k=(m - (k+1))+1 by omega]
 rw [show iMany g (m - (k+1)+1) q=(g q).bind fun x=>(iMany g (m - (k+1)) x.2).bind fun r=>some (x.1 :: r.1,r.2) from rfl,hx]
 simp only [Option.bind_some,Option.bind_assoc,List.append_assoc,List.singleton_append]
theorem manyI_none (h:R=(iMany g (m - k) q).bind fun r=>F (ms ++ r.1,r.2)) (hk:k < m) (hx:g q=none):R=none:=by
 rw [h,show m - k=(m - (k+1))+1 by omega]
 rw [show iMany g (m - (k+1)+1) q=(g q).bind fun x=>(iMany g (m - (k+1)) x.2).bind fun r=>some (x.1 :: r.1,r.2) from rfl,hx]
 rfl
theorem manyI_end (h:R=(iMany g (m - k) q).bind fun r=>F (ms ++ r.1,r.2)) (hk:m≤k):R=F (ms,q):=by
 rw [h,show m - k=0 by omega]
 simp [iMany]
end
theorem iN_bd {l:List Int} {p:Int} {r:Int × Int} (hl:l.length≤2000000) (h:iN l p=some r):(0≤r.1∧r.1≤2147483647)∧0≤r.2∧r.2≤9000000:=by
 unfold iN at h
 split at h
 ·cases h
 ·simp only [Option.some.injEq] at h
  subst h
  rcases getL_bd l p with hb | hb
  ·rename_i hn;rw [hb] at hn;simp at hn
  ·omega
theorem iT_bd {l:List Int} {p:Int} {r:List Int × Int} (hl:l.length≤2000000) (h:iT l p=some r):r.1.length≤30∧0≤r.2∧r.2≤9000000:=by
 unfold iT at h
 split at h
 ·cases h
 ·rename_i hn
  simp only [Option.some.injEq] at h
  subst h
  refine ⟨getTL_length l p,by omega,?_⟩
  have hb:=getL_bd l p
  unfold getTL
  split
  ·simp
  ·simp only
   rcases hb with hb | hb
   ·rw [hb] at *;simp at *
   ·omega
theorem iC_bd {l:List Int} {most p:Int} {r:Int × Int} (hl:l.length≤2000000) (h:iC l most p=some r):(0≤r.1∧r.1≤most)∧0≤r.2∧r.2≤9000000:=by
 unfold iC at h
 obtain ⟨a,ha,h⟩:=bind_parts h
 split at h
 ·cases h
 ·simp only [Option.some.injEq] at h
  subst h
  have:=iN_bd hl ha
  exact ⟨⟨this.1.1,by omega⟩,this.2⟩

end Go.Proofs.YtnlhkgoppjejeaaDoor
