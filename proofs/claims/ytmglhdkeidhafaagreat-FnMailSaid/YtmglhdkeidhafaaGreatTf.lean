/- The proof's texts, part 15. -/
import Derived.Test.YtmglhdkeidhafaaGreatTe
namespace Go.Proofs.YtmglhdkeidhafaaGreat
open Go.RowKit
set_option linter.unusedVariables false
/- What a command does to an account, on lists: after O4 of package spec. -/
/-- The oldest au fall out; the last that fell tells what is lost. -/
def dw (lost:Int):List bB→Int × List bB
 | []=>(lost,[])
 | x :: l=>if 40 < l.length+1 then dw x.seq l else (lost,x :: l)
theorem O5 {lost:Int} {l:List bB} (h:l.length≤40):dw lost l=(lost,l):=by
 cases l with
 | nil=>rfl
 | cons x l=>rw [dw,if_neg (by simp only [List.length_cons] at h;omega)]
theorem Xr {lost:Int} {l:List bB} {x:bB} (h:40 < (x :: l).length):dw lost (x :: l)=dw x.seq l:=by
 rw [dw,if_pos (by simpa only [List.length_cons] using h)]
theorem Xt (l:List bB):∀ lost:Int,(dw lost l).2.length≤l.length:=by
 induction l with
 | nil=>intro _;exact Nat.le_refl _
 | cons x l ih =>
  intro lost
  rw [dw]
  split
  ·exact Nat.le_trans (ih x.seq) (Nat.le_succ _)
  ·exact Nat.le_refl _
/-- The suffix that the loop holds after i turns, and what is lost then. -/
theorem O6 {l:List bB} {i:Nat} {lost:Int} {x:bB} (hx:l[i]?=some x) (h:40 < l.length - i):dw lost (l.drop i)=dw x.seq (l.drop (i+1)):=by
 obtain ⟨hi,rfl⟩:=List.getElem?_eq_some_iff.mp hx
 rw [List.drop_eq_getElem_cons hi,Xr (by simp only [List.length_cons,List.length_drop];omega)]
/-- A dV falls out of a box. -/
def aV (b:aA) (i:Nat):aA:=match b.ah[i]? with
 | some m=>⟨b.name,b.valid,b.next,b.seq,b.ah.take i ++ b.ah.drop (i+1),(dw b.lost (b.au ++ [⟨m.uid,b.seq⟩])).2,(dw b.lost (b.au ++ [⟨m.uid,b.seq⟩])).1⟩
 | none=>b
/-- A dV comes into a box. -/
def jA (b:aA) (fl:Int) (tx:List Int):aA:=⟨b.name,b.valid,b.next+1,b.seq+1,b.ah ++ [⟨b.next,fl,b.seq+1,tx⟩],b.au,b.lost⟩
def aX (b:aA):aA:=⟨b.name,b.valid,b.next,b.seq+1,b.ah,b.au,b.lost⟩
def aN (c n:Int):dI:=⟨c,n,pR,[]⟩
def nE (a:aF) (nm:List Int):aF × dI :=
 if 0≤bC (fun x:aA=>decide (x.name=nm)) a.boxes then (a,aN 2 0)
 else if 4≤a.boxes.length∨1000000≤a.valid then (a,aN 3 0)
 else (⟨a.valid+1,a.boxes.takeWhile (fun x:aA=>bV x.name nm) ++ (⟨nm,a.valid+1,1,0,[],[],0⟩ :: a.boxes.dropWhile (fun x:aA=>bV x.name nm)),a.seen⟩,aN 0 (a.valid+1))
def iD (b:aA) (uid mode fl si:Int):aA × dI :=
 match b.ah.findIdx? (fun m:aC=>decide (m.uid=uid)) with
 | none=>(b,aN 1 0)
 | some i=>match b.ah[i]? with
  | none=>(b,aN 1 0)
  | some m =>
   if 0 < si∧si < m.seq then (b,aN 4 m.seq)
   else if fC m.flags mode fl=m.flags then (b,aN 0 m.seq)
   else if 1000000≤b.seq then (b,aN 3 0)
   else (⟨b.name,b.valid,b.next,b.seq+1,b.ah.set i ⟨m.uid,fC m.flags mode fl,b.seq+1,m.text⟩,b.au,b.lost⟩,aN 0 (b.seq+1))
/-- A dV bears the flag that marks it as to be afP. -/
def fD (m:aC):Bool:=decide (0 < bits .and .i64 m.flags 8)
/-- From the i-th dV on, every one that is marked falls out; n: how many ah are still to be looked at. -/
def gD:Nat→aA→Nat→aA
 | 0,b,_=>b
 | n+1,b,i=>match b.ah[i]? with
  | none=>b
  | some m=>if fD m then gD n (aV b i) i else gD n b (i+1)
def gF (b:aA):aA × dI :=
 if b.ah.countP fD=0 then (b,aN 0 0)
 else if 1000000≤b.seq then (b,aN 3 0)
 else (gD b.ah.length (aX b) 0,aN 0 (b.ah.countP fD:Nat))
def aH (a:aF) (k:Nat) (b:aA):aF:=⟨a.valid,a.boxes.set k b,a.seen⟩
def kS (a:aF) (k:Nat) (b:aA) (tt:List Int) (uid mode:Int):aF × dI :=
 match b.ah.findIdx? (fun m:aC=>decide (m.uid=uid)),a.boxes.findIdx? (fun x:aA=>decide (x.name=tt)) with
 | some i,some t=>match b.ah[i]?,a.boxes[t]? with
  | some m,some bt =>
   if dh bt (if mode=1∧t=k then 0 else 1)=false∨(mode=1∧999999≤b.seq) then (a,aN 3 0)
   else
    let a1:=if mode=1 then aH a k (aV (aX b) i) else a
    match a1.boxes[t]? with
    | some bu=>(aH a1 t (jA bu m.flags m.text),aN 0 bu.next)
    | none=>(a1,aN 1 0)
  | _,_=>(a,aN 1 0)
 | _,_=>(a,aN 1 0)
/-- What a command does: the account behind it, and the reply. -/
def dA (a:aF) (c:dS):aF × dI :=
 if c.k=0 then nE a c.bx
 else if c.k=9 then (a,⟨0,0,pR,a.boxes.map fun x:aA=>x.name⟩)
 else match a.boxes.findIdx? (fun x:aA=>decide (x.name=c.bx)) with
  | none=>(a,aN 1 0)
  | some k=>match a.boxes[k]? with
   | none=>(a,aN 1 0)
   | some b =>
    if c.k=1 then (⟨a.valid,a.boxes.take k ++ a.boxes.drop (k+1),a.seen⟩,aN 0 0)
    else if c.k=2 then (if dh b 1 then (aH a k (jA b c.fl c.tx),aN 0 b.next) else (a,aN 3 0))
    else if c.k=3 then (aH a k (iD b c.uid c.mode c.fl c.si).1,(iD b c.uid c.mode c.fl c.si).2)
    else if c.k=4 then (aH a k (gF b).1,(gF b).2)
    else if c.k=6 then kS a k b c.tt c.uid c.mode
    else if c.k=8 then (a,nD b c.si)
    else if c.k=7 then (a,⟨0,(b.ah.length:Nat),⟨b.name,b.valid,b.next,b.seq,[],[],b.lost⟩,[]⟩)
    else match b.ah.findIdx? (fun m:aC=>decide (m.uid=c.uid)) with
     | none=>(a,aN 1 0)
     | some i=>(a,⟨0,c.uid,⟨b.name,b.valid,b.next,b.seq,(b.ah.drop i).take 1,[],b.lost⟩,[]⟩)
/- An account that is turned in place: boxes, ah apart by blocks; texts and au, which nobody turns, by the type of their cells. -/
def Any:Nat→Prop:=fun _=>True
/-- Blocks of a type stay. -/
def bD (w w':World) (t:TypeId):Prop:=∀ k,Ty w k t→w'.heap[k]?=w.heap[k]?
theorem bD.refl (w:World) (t:TypeId):bD w w t:=fun _ _=>rfl
theorem Xu {w w':World} {t:TypeId} {k:Nat} (h:bD w w' t) (hk:Ty w k t):Ty w' k t:=by
 obtain ⟨cs,fz,e⟩:=hk
 exact ⟨cs,fz,(h k ⟨cs,fz,e⟩).trans e⟩
theorem bD.trans {w w' w'':World} {t:TypeId} (h:bD w w' t) (h':bD w' w'' t):bD w w'' t:=fun k hk=>(h' k (Xu h hk)).trans (h k hk)
theorem jS {w:World} {k:Nat} {t:TypeId} (h:Ty w k t):k < w.heap.size:=by
 obtain ⟨cs,fz,e⟩:=h
 exact lt_of_heap e
theorem fU {w w':World} {t:TypeId} (h:Below w.heap.size w w'):bD w w' t:=fun k hk=>h.block k (jS hk)
theorem fV {w:World} {t e:TypeId} {g i:Nat} {x:Value} (ht:Ty w g e) (hne:t≠e):bD w (w.setCell ⟨g,i,none⟩ x) t:=by
 intro k ⟨cs,fz,hk⟩
 exact Below.heap_setCell _ _ _ _ (show k≠g from fun e2=>by subst e2;exact dO hk ht hne)
/-- DU whose texts lie in blocks of bytes, any. -/
def sj (w:World) (c:List Value) (m:aC) (_:Nat→Prop):Prop:=mQ w c m Any
abbrev jc:=Ow 72 4 sj
theorem uq {w w':World} {c:List Value} {m:aC} {S S':Nat→Prop} (h:sj w c m S) (ht:bD w w' 5):sj w' c m S' :=
 let ⟨u,h0,h1,r⟩:=h;⟨u,h0,jP h1 ht,r⟩
theorem xJ {w w':World} {S:Nat→Prop} {v:Value} {l:List aC} (h:jc w S v l) (hm:∀ k,S k→k < w.heap.size→w'.heap[k]?=w.heap[k]?) (ht:bD w w' 5):jc w' S v l:=by
 rcases h with h | ⟨g,cap,cur,cs,fs,hv,hh,h1,h2,h3,h4,h5,h6,h7⟩
 ·exact .inl h
 ·exact .inr ⟨g,cap,cur,cs,fs,hv,(hm g h4 (lt_of_heap hh)).trans hh,h1,h2,h3,h4,fun i x hx=>⟨uq (h5 i x hx).1 ht,(h5 i x hx).2⟩,h6,h7⟩
theorem jc.v {w:World} {S:Nat→Prop} {v:Value} {l:List aC} (h:jc w S v l):eT w v l:=Ow.rd (fun _ _ _ _ h=>mQ.rd h) h
/-- afQ that are read, in a block of au that nobody has closed: a slice from its middle may be. -/
def fM (w:World) (S:Nat→Prop) (v:Value) (l:List bB):Prop:=dD w v l∧∀ a n c,v=.slice (some a) n c→S a.block∧∃ cur,w.heap[a.block]?=some (.cells cur 70 (0,0))∧a.spot=none∧a.off+c * 2≤cur.size
theorem EF {w:World} {S:Nat→Prop} {v:Value} {l:List bB} (h:iY w S v l):fM w S v l:=by
 refine ⟨Ow.rd (fun _ _ _ _ h=>h) h,fun a n c hv=>?_⟩
 rcases h with ⟨h,-⟩ | ⟨g,cap,cur,cs,fs,hv',hh,-,-,hs,hS,-⟩
 ·rw [hv] at h;cases h
 ·rw [hv] at hv'
  simp only [Value.slice.injEq,Option.some.injEq] at hv'
  obtain ⟨rfl,-,rfl⟩:=hv'
  exact ⟨hS,cur,hh,rfl,by simp only;omega⟩
theorem fM.mono {w:World} {S S':Nat→Prop} {v:Value} {l:List bB} (h:fM w S v l) (hS:∀ k,S k→S' k):fM w S' v l:=⟨h.1,fun a n c e=>⟨hS _ (h.2 a n c e).1,(h.2 a n c e).2⟩⟩
theorem EG {w:World} {S:Nat→Prop} {v:Value} {l:List bB} (h:fM w S v l):fM w (fun k=>S k∧k < w.heap.size) v l:=⟨h.1,fun a n c e=>let ⟨h1,cur,hh,r⟩:=h.2 a n c e;⟨⟨h1,lt_of_heap hh⟩,cur,hh,r⟩⟩
theorem uw {w w':World} {S:Nat→Prop} {v:Value} {l:List bB} (h:fM w S v l) (ht:bD w w' 70):fM w' S v l:=by
 obtain ⟨⟨a,cap,cs,hv,h1,h2,h3,h4,h5⟩,hty⟩:=h
 refine ⟨⟨a,cap,cs,hv,h1,h2,h3,h4,fun hp=>?_⟩,fun a n c e=>let ⟨h1,cur,hh,r⟩:=hty a n c e;⟨h1,cur,(ht _ ⟨_,_,hh⟩).trans hh,r⟩⟩
 obtain ⟨b,off,ha,hb,hc⟩:=h5 hp
 obtain ⟨-,cells,hh,-⟩:=hty ⟨b,off,none⟩ l.length cap (by rw [hv,ha])
 have hh':=(ht b ⟨_,_,hh⟩).trans hh
 refine ⟨b,off,ha,lt_of_heap hh',fun i j u hi hu=>?_⟩
 have:=hc i j u hi hu
 rw [cell_of_row w b _ cells _ (0,0) hh] at this
 rw [cell_of_row w' b _ cells _ (0,0) hh']
 exact this
/-- A box whose ah are the IB own. -/
def iE (w:World) (c:List Value) (b:aA) (S:Nat→Prop):Prop :=
 ∃ u0 u1 u2,c=[u0,.int .i64 b.valid,.int .i64 b.next,.int .i64 b.seq,u1,u2,.int .i64 b.lost]∧RO w Any u0 b.name∧jc w S u1 b.ah∧fM w S u2 b.au∧ay b.valid∧ay b.next∧ay b.seq∧ay b.lost
abbrev iK:=Ow 34 7 iE
theorem IC {w w':World} {c:List Value} {b:aA} {S:Nat→Prop} (h:iE w c b S) (hm:∀ k,S k→k < w.heap.size→w'.heap[k]?=w.heap[k]?) (ht:bD w w' 5) (hg:bD w w' 70):iE w' c b S :=
 let ⟨u0,u1,u2,h0,h1,h2,h3,r⟩:=h;⟨u0,u1,u2,h0,jP h1 ht,xJ h2 hm ht,uw h3 hg,r⟩
theorem iE.rd {w:World} {c:List Value} {b:aA} {S:Nat→Prop} (h:iE w c b S):wX w c b :=
 let ⟨u0,u1,u2,h0,h1,h2,h3,r⟩:=h;⟨u0,u1,u2,h0,h1.bs,h2.v,h3.1,r⟩
theorem xK {w w':World} {S:Nat→Prop} {v:Value} {l:List aA} (h:iK w S v l) (hm:∀ k,S k→k < w.heap.size→w'.heap[k]?=w.heap[k]?) (ht:bD w w' 5) (hg:bD w w' 70):iK w' S v l:=by
 rcases h with h | ⟨g,cap,cur,cs,fs,hv,hh,h1,h2,h3,h4,h5,h6,h7⟩
 ·exact .inl h
 ·refine .inr ⟨g,cap,cur,cs,fs,hv,(hm g h4 (lt_of_heap hh)).trans hh,h1,h2,h3,h4,fun i x hx=>⟨?_,(h5 i x hx).2⟩,h6,h7⟩
  have hi:i < l.length:=(gs1 hx).1
  exact IC (h5 i x hx).1 (fun k hk hlt=>hm k (h6 i k hi hk).1 hlt) ht hg
theorem iK.v {w:World} {S:Nat→Prop} {v:Value} {l:List aA} (h:iK w S v l):gJ w v l:=Ow.rd (fun _ _ _ _ h=>iE.rd h) h
/-- One box behind a pointer: cells from o on in the block g; its afR block lies in S. -/
def aK (w:World) (S:Nat→Prop) (g o:Nat) (b:aA):Prop :=
 ∃ cur c,w.heap[g]?=some (.cells cur 34 (0,0))∧iE w c b S∧∀ j u,c[j]?=some u→cur[o+j]?=some u
/-- What a call turns that is given one box: that rV seven cells, and blocks in S; nothing else that is old. -/
def Turns (w w':World) (S:Nat→Prop) (g o:Nat):Prop :=
 w.heap.size≤w'.heap.size∧(∀ k,k < w.heap.size→k≠g→¬ S k→w'.heap[k]?=w.heap[k]?)∧bD w w' 5∧bD w w' 70 ∧
  (∀ cur,w.heap[g]?=some (.cells cur 34 (0,0))→∃ cur',w'.heap[g]?=some (.cells cur' 34 (0,0))∧cur'.size=cur.size∧∀ i,(i < o∨o+7≤i)→cur'[i]?=cur[i]?)∧w'.os=w.os∧w'.tape=w.tape∧w'.output=w.output
/-- The i-th box out of the list, behind its pointer; the blocks of its ah are none of the others'. -/
theorem iK.at {w:World} {S:Nat→Prop} {v:Value} {l:List aA} (h:iK w S v l) {i:Nat} {b:aA} (hb:l[i]?=some b) :
  ∃ g cap S1,v=.slice (some ⟨g,0,none⟩) l.length cap∧S g∧aK w S1 g (i * 7) b∧(∀ k,S1 k→S k∧k≠g) ∧
   ∀ (w':World) (b':aA) (mE:Nat→Prop),Turns w w' S1 g (i * 7)→aK w' mE g (i * 7) b'→(∀ k,mE k→S1 k∨w.heap.size≤k)→iK w' (fun k=>S k∨w.heap.size≤k) v (l.set i b'):=by
 rcases h with ⟨_,h⟩ | ⟨g,cap,cur,cs,fs,hv,hh,h1,h2,h3,h4,h5,h6,h7⟩
 ·subst h;simp at hb
 have hi:i < l.length:=(gs1 hb).1
 refine ⟨g,cap,fun k=>fs i k,hv,h4,⟨cur,cs i,hh,(h5 i b hb).1,(h5 i b hb).2.2⟩,fun k hk=>h6 i k hi hk,fun w' b' mE ht hp hs0=>?_⟩
 have hs:∀ k,mE k→(fs i k∨w.heap.size≤k)∧k≠g:=fun k h=>⟨hs0 k h,fun e=>by subst e;exact (hs0 _ h).elim (fun h'=>(h6 i _ hi h').2 rfl) fun h'=>by have:=lt_of_heap hh;omega⟩
 obtain ⟨t0,t1,t2,t3,t4,-⟩:=ht
 obtain ⟨cur',hh',hsz',hout⟩:=t4 cur hh
 obtain ⟨afS,c,e2,hq,hc⟩:=hp
 rw [hh'] at e2
 cases e2
 -- afT of the others,held to blocks that were there
 refine .inr ⟨g,cap,cur',fun j=>if j=i then c else cs j,fun j=>if j=i then mE else fun k=>fs j k∧k < w.heap.size,by rw [List.length_set];exact hv,hh',by rw [List.length_set];exact h1,h2,hsz'.trans h3,.inl h4,fun j x hx=>?_,fun j k hj hk=>?_,fun j m k hj hm hne hk=>?_⟩
 ·by_cases e:j=i
  ·subst e
   rw [List.getElem?_set_self hi] at hx
   cases hx
   simp only [if_pos]
   exact ⟨hq,by obtain ⟨u0,u1,u2,rfl,_⟩:=hq;rfl,hc⟩
  ·rw [List.getElem?_set_ne (Ne.symm e)] at hx
   simp only [if_neg e]
   have hj:j < l.length:=(gs1 hx).1
   obtain ⟨q0,q1,q2⟩:=h5 j x hx
   refine ⟨?_,q1,fun m u hu=>?_⟩
   ·obtain ⟨u0,u1,u2,e0,e1,em,eg,er⟩:=q0
    refine ⟨u0,u1,u2,e0,jP e1 t2,?_,uw (EG eg) t3,er⟩
    have hk:jc w' (fs j) u1 x.ah:=xJ em (fun k hk hlt=>t1 k hlt (h6 j k hj hk).2 (fun hk2=>h7 j i k hj hi e hk hk2)) t2
    rcases em with ⟨n1,n2⟩ | ⟨g',cap',cur',cs',fs',m0,m1,m2,m3,m4,m5,m6,m7⟩
    ·exact .inl ⟨n1,n2⟩
    ·exact .inr ⟨g',cap',cur',cs',fun _ _=>False,m0,(t1 g' (lt_of_heap m1) (h6 j g' hj m5).2 (fun hk2=>h7 j i g' hj hi e m5 hk2)).trans m1,m2,m3,m4,⟨m5,lt_of_heap m1⟩,fun p y hy=>⟨uq (m6 p y hy).1 t2,(m6 p y hy).2⟩,fun _ _ _ hF=>hF.elim,fun _ _ _ _ _ _ hF=>hF.elim⟩
   ·have afU:m < 7:=by
     have:=(gs1 hu).1
     omega
    rw [hout (j * 7+m) (by rcases Nat.lt_or_gt_of_ne e with e | e <;> omega)]
    exact q2 m u hu
 ·rw [List.length_set] at hj
  by_cases e:j=i
  ·simp only [if_pos e] at hk
   obtain ⟨hk1,hk2⟩:=hs k hk
   exact ⟨hk1.elim (fun h=>.inl (h6 i k hi h).1) .inr,hk2⟩
  ·simp only [if_neg e] at hk
   exact ⟨.inl (h6 j k hj hk.1).1,(h6 j k hj hk.1).2⟩
 ·rw [List.length_set] at hj hm
  by_cases e:j=i
  ·have e2:m≠i:=fun e2=>hne (e.trans e2.symm)
   simp only [if_pos e,if_neg e2] at hk ⊢
   intro hk2
   rcases (hs k hk).1 with h | h
   ·exact h7 m i k hm hi e2 hk2.1 h
   ·exact absurd hk2.2 (by omega)
  ·simp only [if_neg e] at hk
   by_cases e2:m=i
   ·simp only [if_pos e2]
    intro hk2
    rcases (hs k hk2).1 with h | h
    ·exact h7 j i k hj hi e hk.1 h
    ·exact absurd hk.2 (by omega)
   ·simp only [if_neg e2]
    exact fun hk2=>h7 j m k hj hm hne hk.1 hk2.1
/- A box behind a pointer: what it reads, what a call that turns it leaves. -/
section
variable {w w' w'' : World} {S S' S1 : Nat → Prop} {g o : Nat} {b : aA}
theorem Turns.refl (w:World) (S:Nat→Prop) (g o:Nat):Turns w w S g o:=⟨Nat.le_refl _,fun _ _ _ _=>rfl,bD.refl _ _,bD.refl _ _,fun cur h=>⟨cur,h,rfl,fun _ _=>rfl⟩,rfl,rfl,rfl⟩
/-- One call behind the other; what is new behind the first may be turned by the second. -/
theorem Turns.trans (h:Turns w w' S g o) (h':Turns w' w'' S' g o) (hS:∀ k,S' k→S k∨w.heap.size≤k):Turns w w'' S g o:=by
 refine ⟨Nat.le_trans h.1 h'.1,fun k hk hg hs=>?_,h.2.2.1.trans h'.2.2.1,h.2.2.2.1.trans h'.2.2.2.1,fun cur hc=>?_,h'.2.2.2.2.2.1.trans h.2.2.2.2.2.1,h'.2.2.2.2.2.2.1.trans h.2.2.2.2.2.2.1,h'.2.2.2.2.2.2.2.trans h.2.2.2.2.2.2.2⟩
 ·exact (h'.2.1 k (Nat.lt_of_lt_of_le hk h.1) hg (fun h2=>(hS k h2).elim hs (fun h3=>by omega))).trans (h.2.1 k hk hg hs)
 ·obtain ⟨c1,e1,z1,o1⟩:=h.2.2.2.2.1 cur hc
  obtain ⟨c2,e2,z2,o2⟩:=h'.2.2.2.2.1 c1 e1
  exact ⟨c2,e2,z2.trans z1,fun i hi=>(o2 i hi).trans (o1 i hi)⟩
theorem nG (h:Below w.heap.size w w'):Turns w w' S g o :=
 ⟨h.size,fun k hk _ _=>h.block k hk,fU h,fU h,fun cur hc=>⟨cur,(h.block g (lt_of_heap hc)).trans hc,rfl,fun _ _=>rfl⟩,h.os,h.tape,h.output⟩
/-- A field of the box is written. -/
theorem Xv {i:Nat} {x:Value} (ht:Ty w g 34) (hi:o≤i) (hi2:i < o+7):Turns w (w.setCell ⟨g,i,none⟩ x) S g o:=by
 refine ⟨by rw [bf];exact Nat.le_refl _,fun k _ hg _=>Below.heap_setCell _ _ _ _ hg,fV ht (by decide),fV ht (by decide),fun cur hc=>⟨_,aJ hc,by rw [Array.size_setIfInBounds],fun j hj=>?_⟩,rfl,rfl,rfl⟩
 rw [Array.getElem?_setIfInBounds_ne (by omega)]
/-- A field of a dV is written, in a block of ah. -/
theorem IE {m i:Nat} {x:Value} (ht:Ty w m 72) (hm:S m∨w.heap.size≤m):Turns w (w.setCell ⟨m,i,none⟩ x) S g o:=by
 have hlt:=jS ht
 refine ⟨by rw [bf];exact Nat.le_refl _,fun k _ _ hs=>Below.heap_setCell _ _ _ _ (show k≠m from fun e=>hm.elim (fun h=>hs (e ▸ h)) (fun h=>by omega)),fV ht (by decide),fV ht (by decide),fun cur hc=>⟨cur,?_,rfl,fun _ _=>rfl⟩,rfl,rfl,rfl⟩
 exact cO hc (fun e=>by subst e;exact dO hc ht (by decide))
theorem aK.ty (h:aK w S g o b):Ty w g 34:=let ⟨_,_,h,_⟩:=h;⟨_,_,h⟩
/-- Its seven cells. -/
theorem aK.cells (h:aK w S g o b):∃ u0 u1 u2,RO w Any u0 b.name∧jc w S u1 b.ah∧fM w S u2 b.au∧(ay b.valid∧ay b.next∧ay b.seq∧ay b.lost) ∧
  w.cell? ⟨g,o,none⟩=some u0∧w.cell? ⟨g,o+1,none⟩=some (.int .i64 b.valid)∧w.cell? ⟨g,o+2,none⟩=some (.int .i64 b.next)∧w.cell? ⟨g,o+3,none⟩=some (.int .i64 b.seq) ∧
  w.cell? ⟨g,o+4,none⟩=some u1∧w.cell? ⟨g,o+5,none⟩=some u2∧w.cell? ⟨g,o+6,none⟩=some (.int .i64 b.lost):=by
 obtain ⟨cur,c,hh,⟨u0,u1,u2,rfl,h1,h2,h3,hi⟩,hc⟩:=h
 have hw:=fun j=>cell_of_row w g j cur _ (0,0) hh
 exact ⟨u0,u1,u2,h1,h2,h3,hi,(hw _).trans (hc 0 _ rfl),(hw _).trans (hc 1 _ rfl),(hw _).trans (hc 2 _ rfl),(hw _).trans (hc 3 _ rfl),(hw _).trans (hc 4 _ rfl),(hw _).trans (hc 5 _ rfl),(hw _).trans (hc 6 _ rfl)⟩
/-- None of its block is frozen. -/
theorem aK.open (h:aK w S g o b) (i:Nat):w.frozen? ⟨g,i,none⟩=false:=by
 obtain ⟨cur,c,hh,_⟩:=h
 simp [World.frozen?,hh]
/-- A box stays while another call turns nothing of it. -/
theorem aK.pU (h:aK w S g o b) (hg:w'.heap[g]?=w.heap[g]?) (hm:∀ k,S k→k < w.heap.size→w'.heap[k]?=w.heap[k]?) (ht:bD w w' 5) (hq:bD w w' 70):aK w' S g o b :=
 let ⟨cur,c,hh,h1,h2⟩:=h;⟨cur,c,hg.trans hh,IC h1 hm ht hq,h2⟩
theorem aK.below (h:aK w S g o b) (hb:Below w.heap.size w w'):aK w' S g o b :=
 h.pU (let ⟨_,_,hh,_⟩:=h;hb.block g (lt_of_heap hh)) (fun k _ hk=>hb.block k hk) (fU hb) (fU hb)
/-- As a value. -/
theorem aK.v (h:aK w S g o b):∃ u0 u1 u2,bI w (.agg #[u0,.int .i64 b.valid,.int .i64 b.next,.int .i64 b.seq,u1,u2,.int .i64 b.lost]) b∧w.cell? ⟨g,o,none⟩=some u0∧w.cell? ⟨g,o+4,none⟩=some u1∧w.cell? ⟨g,o+5,none⟩=some u2:=by
 obtain ⟨u0,u1,u2,h1,h2,h3,hi,c0,-,-,-,c4,c5,-⟩:=h.cells
 exact ⟨u0,u1,u2,⟨u0,u1,u2,rfl,h1.bs,h2.v,h3.1,hi⟩,c0,c4,c5⟩
/-- The rV number is written. -/
theorem aK.seq {n:Int} (h:aK w S g o b) (hS:¬ S g) (hn:ay n) (ho:∀ cur t,w.heap[g]?=some (.cells cur t (0,0))→o+7≤cur.size):aK (w.setCell ⟨g,o+3,none⟩ (.int .i64 n)) S g o ⟨b.name,b.valid,b.next,n,b.ah,b.au,b.lost⟩:=by
 have hty:=h.ty
 obtain ⟨cur,c,hh,⟨u0,u1,u2,rfl,h1,h2,h3,i0,i1,i2,i3⟩,hc⟩:=h
 have hsz:=ho cur _ hh
 refine ⟨_,_,aJ hh,⟨u0,u1,u2,rfl,jP h1 (fV hty (by decide)),xJ h2 (fun k hk _=>Below.heap_setCell _ _ _ _ (show k≠g from fun e=>hS (e ▸ hk))) (fV hty (by decide)),uw h3 (fV hty (by decide)),i0,i1,hn,i3⟩,fun j u hj=>?_⟩
 by_cases e:j=3
 ·subst e
  cases hj
  rw [Array.getElem?_setIfInBounds_self_of_lt (by omega)]
 ·rw [Array.getElem?_setIfInBounds_ne (by omega)]
  refine hc j u ?_
  match j,hj with
  | 0,hj=>exact hj
  | 1,hj=>exact hj
  | 2,hj=>exact hj
  | 3,_=>exact absurd rfl e
  | 4,hj=>exact hj
  | 5,hj=>exact hj
  | 6,hj=>exact hj
  | j+7,hj=>simp at hj
end
/- A box behind a pointer: its fields are written, one by one. -/
section
variable {w w' : World} {S S' : Nat → Prop} {g o : Nat} {b b' : aA}
theorem aK.fit (h:aK w S g o b):∀ cur t,w.heap[g]?=some (.cells cur t (0,0))→o+7≤cur.size:=by
 obtain ⟨cur,c,hh,⟨u0,u1,u2,rfl,-⟩,hc⟩:=h
 intro cur' t h'
 rw [hh] at h'
 cases h'
 have:=(Array.getElem?_eq_some_iff.1 (hc 6 _ rfl)).1
 omega
theorem aK.lt (h:aK w S g o b):g < w.heap.size:=jS h.ty
/-- A field is written: what the box says with it. -/
theorem aK.put (h:aK w S g o b) (j:Nat) (hj:j < 7) (x:Value) (hq:∀ c,iE w c b S→c.length=7→iE (w.setCell ⟨g,o+j,none⟩ x) (c.set j x) b' S'):aK (w.setCell ⟨g,o+j,none⟩ x) S' g o b':=by
 have hf:=h.fit
 obtain ⟨cur,c,hh,hb,hc⟩:=h
 have hsz:=hf cur _ hh
 have hl:c.length=7:=by obtain ⟨u0,u1,u2,rfl,-⟩:=hb;rfl
 refine ⟨_,_,aJ hh,hq c hb hl,fun k u hk=>?_⟩
 by_cases e:k=j
 ·subst e
  rw [List.getElem?_set_self (by omega)] at hk
  cases hk
  rw [Array.getElem?_setIfInBounds_self_of_lt (by omega)]
 ·rw [List.getElem?_set_ne (Ne.symm e)] at hk
  rw [Array.getElem?_setIfInBounds_ne (by omega)]
  exact hc k u hk
theorem zo {x:Value} {j:Nat} {u:Value} {l:List Int} (ht:Ty w g 34) (h:RO w Any u l):RO (w.setCell ⟨g,j,none⟩ x) Any u l:=jP h (fV ht (by decide))
theorem zq {x:Value} {j:Nat} {u:Value} {l:List aC} (ht:Ty w g 34) (h:jc w S u l):jc (w.setCell ⟨g,j,none⟩ x) S u l:=by
 rcases h with h | ⟨m,cap,cur,cs,fs,hv,hh,r⟩
 ·exact .inl h
 ·have hne:m≠g:=fun e=>by subst e;exact dO hh ht (by decide)
  obtain ⟨h1,h2,h3,h4,h5,h6,h7⟩:=r
  exact .inr ⟨m,cap,cur,cs,fs,hv,(Below.heap_setCell _ _ _ _ (show m≠g from hne)).trans hh,h1,h2,h3,h4,fun i y hy=>⟨uq (h5 i y hy).1 (fV ht (by decide)),(h5 i y hy).2⟩,h6,h7⟩
theorem zu {x:Value} {j:Nat} {u:Value} {l:List bB} (ht:Ty w g 34) (h:fM w S u l):fM (w.setCell ⟨g,j,none⟩ x) S u l:=uw h (fV ht (by decide))
theorem aK.EH (h:aK w S g o b) (n:Int) (hn:ay n):aK (w.setCell ⟨g,o+2,none⟩ (.int .i64 n)) S g o ⟨b.name,b.valid,n,b.seq,b.ah,b.au,b.lost⟩ :=
 h.put 2 (by omega) _ fun c ⟨u0,u1,u2,e,h1,h2,h3,i0,i1,i2,i3⟩ _=>⟨u0,u1,u2,by rw [e];rfl,zo h.ty h1,zq h.ty h2,zu h.ty h3,i0,hn,i2,i3⟩
theorem aK.su (h:aK w S g o b) (n:Int) (hn:ay n):aK (w.setCell ⟨g,o+3,none⟩ (.int .i64 n)) S g o ⟨b.name,b.valid,b.next,n,b.ah,b.au,b.lost⟩ :=
 h.put 3 (by omega) _ fun c ⟨u0,u1,u2,e,h1,h2,h3,i0,i1,i2,i3⟩ _=>⟨u0,u1,u2,by rw [e];rfl,zo h.ty h1,zq h.ty h2,zu h.ty h3,i0,i1,hn,i3⟩
theorem aK.O7 (h:aK w S g o b) {u:Value} {ms:List aC} (hm:jc w S' u ms) (hS:∀ k,S k→S' k):aK (w.setCell ⟨g,o+4,none⟩ u) S' g o ⟨b.name,b.valid,b.next,b.seq,ms,b.au,b.lost⟩ :=
 h.put 4 (by omega) _ fun c ⟨u0,u1,u2,e,h1,h2,h3,r⟩ _=>⟨u0,u,u2,by rw [e];rfl,zo h.ty h1,zq h.ty hm,(zu h.ty h3).mono hS,r⟩
theorem aK.IG (h:aK w S g o b) {u:Value} {gs:List bB} (hm:fM w S u gs):aK (w.setCell ⟨g,o+5,none⟩ u) S g o ⟨b.name,b.valid,b.next,b.seq,b.ah,gs,b.lost⟩ :=
 h.put 5 (by omega) _ fun c ⟨u0,u1,u2,e,h1,h2,h3,r⟩ _=>⟨u0,u1,u,by rw [e];rfl,zo h.ty h1,zq h.ty h2,zu h.ty hm,r⟩
theorem aK.EI (h:aK w S g o b) (n:Int) (hn:ay n):aK (w.setCell ⟨g,o+6,none⟩ (.int .i64 n)) S g o ⟨b.name,b.valid,b.next,b.seq,b.ah,b.au,n⟩ :=
 h.put 6 (by omega) _ fun c ⟨u0,u1,u2,e,h1,h2,h3,i0,i1,i2,i3⟩ _=>⟨u0,u1,u2,by rw [e];rfl,zo h.ty h1,zq h.ty h2,zu h.ty h3,i0,i1,i2,hn⟩
theorem aK.mono (h:aK w S g o b) (hS:∀ k,S k→S' k):aK w S' g o b :=
 let ⟨cur,c,hh,⟨u0,u1,u2,e,h1,h2,h3,r⟩,hc⟩:=h;⟨cur,c,hh,⟨u0,u1,u2,e,h1,h2.mono hS,h3.mono hS,r⟩,hc⟩
theorem lK {j:Nat} {x:Value} (h:aK w S g o b) (hj:j < 7):Turns w (w.setCell ⟨g,o+j,none⟩ x) S' g o:=Xv h.ty (by omega) (by omega)
end
/- An account behind a pointer: what it reads, what keeps it; a box out of it and back; its boxes put anew. -/
theorem jd {w w':World} {S:Nat→Prop} {v:Value} {l:List Int} (h:eY w S v l) (hm:∀ k,S k→k < w.heap.size→Ty w k 3→w'.heap[k]?=w.heap[k]?):eY w' S v l:=by
 rcases h with h | ⟨g,cap,cur,cs,fs,hv,hh,h1,h2,h3,h4,h5,h6,h7⟩
 ·exact .inl h
 ·exact .inr ⟨g,cap,cur,cs,fs,hv,(hm g h4 (lt_of_heap hh) ⟨_,_,hh⟩).trans hh,h1,h2,h3,h4,h5,h6,h7⟩
theorem EJ {w w':World} {S:Nat→Prop} {xs:List Value} {l:List aA} (h:EL 7 iE w l S xs) (hm:∀ k,S k→k < w.heap.size→w'.heap[k]?=w.heap[k]?) (ht:bD w w' 5) (hg:bD w w' 70):EL 7 iE w' l S xs :=
 h.keep fun _ _ _ hF he=>IC he (fun k hk hlt=>hm k (hF k hk) hlt) ht hg
/-- afV in a new row. -/
theorem O8 {w:World} {S:Nat→Prop} {B:Nat} {v:Value} {xs:List Value} {l:List aA} (h:w.ownsRow B 34 7 v l.length xs) (he:EL 7 iE w l S xs) (hS:∀ k,S k→k < B):iK w (fun k=>S k∨B≤k) v l:=by
 obtain ⟨-,⟨rfl,hn⟩ | ⟨g,cap,cur,rfl,hB,hh,h1,h2,h3,h4⟩⟩:=h
 ·exact .inl ⟨rfl,List.length_eq_zero_iff.1 hn⟩
 ·rw [← h4] at he
  exact Ow.mono (he.ow hh h1 h2 h3 fun e=>by have:=hS g e;omega) fun k h=>h.elim .inl fun e=>.inr (by omega)
/-- The account behind a pointer: its block is ga; the boxes and their ah lie in S, what it has seen does not. -/
def aS (w:World) (S:Nat→Prop) (ga:Nat) (a:aF):Prop :=
 ¬ S ga∧∃ u0 u1,w.heap[ga]?=some (.cells #[.int .i64 a.valid,u0,u1] 26 (0,0))∧iK w S u0 a.boxes∧eY w (fun k=>¬ S k∧k < w.heap.size) u1 a.seen∧ay a.valid
section
variable {w w' : World} {S : Nat → Prop} {ga : Nat} {a : aF}
theorem aS.lt (h:aS w S ga a):ga < w.heap.size:=let ⟨_,_,_,h,_⟩:=h;lt_of_heap h
theorem aS.ty (h:aS w S ga a):Ty w ga 26:=let ⟨_,_,_,h,_⟩:=h;⟨_,_,h⟩
theorem aS.below (h:aS w S ga a) (hb:Below w.heap.size w w'):aS w' S ga a :=
 let ⟨hs,u0,u1,h0,h1,h2,r⟩:=h;⟨hs,u0,u1,(hb.block ga (lt_of_heap h0)).trans h0,xK h1 (fun k _ hk=>hb.block k hk) (fU hb) (fU hb),Ow.mono (jd h2 fun k _ hk _=>hb.block k hk) fun k h=>⟨h.1,Nat.lt_of_lt_of_le h.2 hb.size⟩,r⟩
/-- Its three cells, and the account as a value. -/
theorem aS.cells (h:aS w S ga a):∃ u0 u1,w.cell? ⟨ga,0,none⟩=some (.int .i64 a.valid)∧w.cell? ⟨ga,1,none⟩=some u0∧w.cell? ⟨ga,2,none⟩=some u1∧iK w S u0 a.boxes∧iw w (.agg #[.int .i64 a.valid,u0,u1]) a:=by
 obtain ⟨-,u0,u1,h0,h1,h2,r⟩:=h
 obtain ⟨c0,c1,c2⟩:=bM h0
 exact ⟨u0,u1,c0,c1,c2,h1,u0,u1,rfl,h1.v,Ow.rd (fun _ _ _ _ h=>h) h2,r⟩
theorem aS.open (h:aS w S ga a) (i:Nat):w.frozen? ⟨ga,i,none⟩=false:=let ⟨_,_,_,h,_⟩:=h;frozen_of_row w ga i _ _ h
/-- Its number is written. -/
theorem aS.zw (h:aS w S ga a) {n:Int} (hn:ay n):aS (w.setCell ⟨ga,0,none⟩ (.int .i64 n)) S ga ⟨n,a.boxes,a.seen⟩:=by
 have ht:=h.ty
 obtain ⟨hs,u0,u1,h0,h1,h2,r⟩:=h
 have hk:∀ k,k≠ga→(w.setCell ⟨ga,0,none⟩ (.int .i64 n)).heap[k]?=w.heap[k]?:=fun k h=>Below.heap_setCell _ _ _ _ h
 refine ⟨hs,u0,u1,aJ (i:=0) h0,xK h1 (fun k h _=>hk k fun e=>hs (e ▸ h)) (fV ht (by decide)) (fV ht (by decide)),Ow.mono (jd h2 fun k _ _ hT=>fV ht (by decide) k hT) fun k h=>⟨h.1,by simpa [World.setCell] using h.2⟩,hn⟩
/-- A box out of it, and behind a call that turns that box alone back into it. -/
theorem aS.at (h:aS w S ga a) {i:Nat} {b:aA} (hb:a.boxes[i]?=some b) :
  ∃ g cap S1,w.cell? ⟨ga,1,none⟩=some (.slice (some ⟨g,0,none⟩) a.boxes.length cap)∧S g∧aK w S1 g (i * 7) b∧(∀ k,S1 k→S k∧k≠g) ∧
   ∀ (w':World) (b':aA) (mE:Nat→Prop),Turns w w' S1 g (i * 7)→aK w' mE g (i * 7) b'→(∀ k,mE k→S1 k∨w.heap.size≤k)→aS w' (fun k=>S k∨w.heap.size≤k) ga (aH a i b'):=by
 have hlt:=h.lt
 obtain ⟨hs,u0,u1,h0,h1,h2,r⟩:=h
 obtain ⟨-,c1,-⟩:=bM h0
 obtain ⟨g,cap,S1,rfl,hg,hp,hS1,hback⟩:=h1.at hb
 refine ⟨g,cap,S1,c1,hg,hp,hS1,fun w' b' mE ht hp' hS'=>⟨fun h=>h.elim hs fun h=>by omega,_,u1,?_,hback w' b' mE ht hp' hS',?_,r⟩⟩
 ·exact (ht.2.1 ga hlt (fun e=>hs (e ▸ hg)) fun h=>hs (hS1 _ h).1).trans h0
 ·refine Ow.mono (jd h2 fun k hk hkl _=>ht.2.1 k hkl (fun e=>hk.1 (e ▸ hg)) fun h=>hk.1 (hS1 _ h).1) fun k h=>⟨fun h'=>h'.elim h.1 fun h'=>by have:=h.2;omega,Nat.lt_of_lt_of_le h.2 ht.1⟩
end
/- A dV of a box behind a pointer: its four cells, its text. -/
/-- A text by the type of its block: read wherever the bytes stay. -/
theorem RO.stay {w:World} {u:Value} {tx:List Int} (h:RO w Any u tx):∀ w':World,w.heap.size≤w'.heap.size→bD w w' 5→Bs w' u tx:=fun _ _ ht=>(jP h ht).bs
theorem aK.II {w:World} {S:Nat→Prop} {g o i:Nat} {b:aA} {m:aC} (h:aK w S g o b) (hm:b.ah[i]?=some m) :
  ∃ mb cap u,w.cell? ⟨g,o+4,none⟩=some (.slice (some ⟨mb,0,none⟩) b.ah.length cap)∧b.ah.length≤cap∧mb < w.heap.size∧w.cell? ⟨mb,i * 4,none⟩=some (.int .i64 m.uid)∧w.cell? ⟨mb,i * 4+1,none⟩=some (.int .i64 m.flags)∧w.cell? ⟨mb,i * 4+2,none⟩=some (.int .i64 m.seq)∧w.cell? ⟨mb,i * 4+3,none⟩=some u ∧
   RO w Any u m.text∧ay m.uid∧ay m.flags∧ay m.seq:=by
 obtain ⟨cur,c,hh,⟨u0,u1,u2,e,h1,h2,h3,r⟩,hc⟩:=h
 rcases h2 with ⟨_,h⟩ | ⟨mb,cap,mc,cs,fs,hv,hhm,b1,b2,b3,b4,b5,b6,b7⟩
 ·rw [h] at hm;simp at hm
 obtain ⟨⟨u,ec,hro,i0,i1,i2⟩,hl,hcs⟩:=b5 i m hm
 have hcell:∀ j x,(cs i)[j]?=some x→w.cell? ⟨mb,i * 4+j,none⟩=some x:=fun j x hx=>by
  rw [cell_of_row w mb _ mc _ (0,0) hhm]
  exact hcs j x hx
 refine ⟨mb,cap,u,?_,b1,lt_of_heap hhm,hcell 0 _ (by rw [ec];rfl),hcell 1 _ (by rw [ec];rfl),hcell 2 _ (by rw [ec];rfl),hcell 3 _ (by rw [ec];rfl),hro,i0,i1,i2⟩
 rw [cell_of_row w g _ cur _ (0,0) hh,← hv]
 exact hc 4 u1 (by rw [e];rfl)
/- An account behind a pointer: what a call that is given it may turn; its blocks, cut to those that are there. -/
/-- What a call turns that is given an account: its block (not what it has seen), and blocks in S; nothing else that is old. -/
def aR (w w':World) (S:Nat→Prop) (ga:Nat):Prop :=
 w.heap.size≤w'.heap.size∧(∀ k,k < w.heap.size→k≠ga→¬ S k→w'.heap[k]?=w.heap[k]?)∧bD w w' 5∧bD w w' 70∧w'.os=w.os∧w'.tape=w.tape∧w'.output=w.output∧(ga < w.heap.size→¬ S ga→w'.cell? ⟨ga,2,none⟩=w.cell? ⟨ga,2,none⟩)
section
variable {w w' w'' : World} {S S' S1 : Nat → Prop} {ga g o : Nat} {a : aF}
theorem aR.refl (w:World) (S:Nat→Prop) (ga:Nat):aR w w S ga:=⟨Nat.le_refl _,fun _ _ _ _=>rfl,bD.refl _ _,bD.refl _ _,rfl,rfl,rfl,fun _ _=>rfl⟩
theorem aR.trans (h:aR w w' S ga) (h':aR w' w'' S' ga) (hS:∀ k,S' k→S k∨w.heap.size≤k):aR w w'' S ga :=
 ⟨Nat.le_trans h.1 h'.1,fun k hk hg hs=>(h'.2.1 k (Nat.lt_of_lt_of_le hk h.1) hg (fun h2=>(hS k h2).elim hs (fun h3=>by omega))).trans (h.2.1 k hk hg hs),h.2.2.1.trans h'.2.2.1,h.2.2.2.1.trans h'.2.2.2.1,h'.2.2.2.2.1.trans h.2.2.2.2.1,h'.2.2.2.2.2.1.trans h.2.2.2.2.2.1,h'.2.2.2.2.2.2.1.trans h.2.2.2.2.2.2.1,fun h1 h2=>(h'.2.2.2.2.2.2.2 (Nat.lt_of_lt_of_le h1 h.1) (fun h3=>(hS ga h3).elim h2 (fun h4=>by omega))).trans (h.2.2.2.2.2.2.2 h1 h2)⟩
theorem aR.below (h:Below w.heap.size w w'):aR w w' S ga:=⟨h.size,fun k hk _ _=>h.block k hk,fU h,fU h,h.os,h.tape,h.output,fun h1 _=>h.cell (p:=⟨ga,2,none⟩) h1⟩
theorem aR.box (h:Turns w w' S1 g o) (hg:S g) (hS:∀ k,S1 k→S k):aR w w' S ga :=
 ⟨h.1,fun k hk _ hs=>h.2.1 k hk (fun e=>hs (e ▸ hg)) (fun h=>hs (hS k h)),h.2.2.1,h.2.2.2.1,h.2.2.2.2.2.1,h.2.2.2.2.2.2.1,h.2.2.2.2.2.2.2,fun h1 h2=>by unfold World.cell?;rw [h.2.1 ga h1 (fun e=>h2 (e ▸ hg)) (fun h=>h2 (hS ga h))]⟩
theorem aR.set {i:Nat} {x:Value} (h:aS w S' ga a) (hi:i≠2:=by decide):aR w (w.setCell ⟨ga,i,none⟩ x) S ga :=
 ⟨by rw [bf];exact Nat.le_refl _,fun k _ hg _=>Below.heap_setCell _ _ _ _ hg,fV h.ty (by decide),fV h.ty (by decide),rfl,rfl,rfl,fun _ _=>by
  obtain ⟨-,u0,u1,hh,-⟩:=h
  rw [cell_of_row _ _ _ _ _ (0,0) (aJ (i:=i) (v:=x) hh),cell_of_row _ _ _ _ _ (0,0) hh,Array.getElem?_setIfInBounds_ne hi]⟩
theorem aR.wide (h:aR w w' S ga) (hS:∀ k,S k→S' k):aR w w' S' ga:=⟨h.1,fun k h1 h2 h3=>h.2.1 k h1 h2 (fun h4=>h3 (hS k h4)),h.2.2.1,h.2.2.2.1,h.2.2.2.2.1,h.2.2.2.2.2.1,h.2.2.2.2.2.2.1,fun h1 h2=>h.2.2.2.2.2.2.2 h1 fun h3=>h2 (hS ga h3)⟩
theorem iK.cut {v:Value} {l:List aA} (h:iK w S v l):iK w (fun k=>S k∧k < w.heap.size) v l:=by
 rcases h with h | ⟨g,cap,cur,cs,fs,hv,hh,h1,h2,h3,h4,h5,h6,h7⟩
 ·exact .inl h
 ·refine .inr ⟨g,cap,cur,cs,fun i k=>fs i k∧k < w.heap.size,hv,hh,h1,h2,h3,⟨h4,lt_of_heap hh⟩,fun i x hx=>⟨?_,(h5 i x hx).2⟩,fun i k hi hk=>⟨⟨(h6 i k hi hk.1).1,hk.2⟩,(h6 i k hi hk.1).2⟩,fun i j k hi hj hne hk hk'=>h7 i j k hi hj hne hk.1 hk'.1⟩
  obtain ⟨u0,u1,u2,e,e1,e2,e3,r⟩:=(h5 i x hx).1
  refine ⟨u0,u1,u2,e,e1,?_,EG e3,r⟩
  rcases e2 with h | ⟨m,cap,cu,cs,fs,hv,hm,k1,k2,k3,k4,k5,k6,k7⟩
  ·exact .inl h
  ·exact .inr ⟨m,cap,cu,cs,fun _ _=>False,hv,hm,k1,k2,k3,⟨k4,lt_of_heap hm⟩,k5,by simp,by simp⟩
theorem aS.cut (h:aS w S ga a):aS w (fun k=>S k∧k < w.heap.size) ga a :=
 let ⟨hs,u0,u1,h0,h1,h2,r⟩:=h;⟨fun h=>hs h.1,u0,u1,h0,iK.cut h1,Ow.mono h2 fun k h=>⟨fun h'=>h.1 h'.1,h.2⟩,r⟩
/-- It stays where a call turns none of its blocks. -/
theorem aS.pU (h:aS w S ga a) (hsz:w.heap.size≤w'.heap.size) (hg:w'.heap[ga]?=w.heap[ga]?) (hm:∀ k,S k→k < w.heap.size→w'.heap[k]?=w.heap[k]?) (ht:bD w w' 5) (hq:bD w w' 70) (hn:bD w w' 3):aS w' S ga a :=
 let ⟨hs,u0,u1,h0,h1,h2,r⟩:=h;⟨hs,u0,u1,hg.trans h0,xK h1 hm ht hq,Ow.mono (jd h2 fun k _ _ hT=>hn k hT) fun k h=>⟨h.1,Nat.lt_of_lt_of_le h.2 hsz⟩,r⟩
end
/- A list of ah that is copied and grows by one: as it is read, and as it is then the rV own. -/
/-- DU as they lay in w. -/
def IJ (w:World) (_:World) (c:List Value) (m:aC):Prop:=sj w c m Any
theorem jc.at {w x:World} {S:Nat→Prop} {v:Value} {l:List aC} (h:jc w S v l) (hb:Below w.heap.size w x):Rd 4 (IJ w) x v l:=by
 rcases h with ⟨rfl,rfl⟩ | ⟨g,cap,cur,cs,fs,hv,hh,h1,h2,h3,h4,h5,h6,h7⟩
 ·exact Rd.nil x
 ·refine ⟨some ⟨g,0,none⟩,cap,cs,hv,h1,h2,(fun h=>by cases h),fun i m hm=>⟨(h5 i m hm).1,(h5 i m hm).2.1⟩,fun hp=>⟨g,0,rfl,Nat.lt_of_lt_of_le (lt_of_heap hh) hb.size,fun i j u hi hu=>?_⟩⟩
  have hh':x.heap[g]?=some (.cells cur _ (0,0)):=(hb.block g (lt_of_heap hh)).trans hh
  rw [Nat.zero_add,cell_of_row x g _ cur _ (0,0) hh']
  exact (h5 i l[i] (aL hi)).2.2 j u hu
theorem Bv {w:World}:∀ (x:World) (c:List Value) (m:aC),IJ w x c m→∀ y ∈ c,y.oneCell'=true:=by
 rintro x c m ⟨u,rfl,h,-⟩ y hy
 obtain ⟨a,n,cp,rfl⟩:=h.bs.aG
 simp only [List.mem_cons,List.not_mem_nil,or_false] at hy
 rcases hy with rfl | rfl | rfl | rfl <;> rfl
theorem O9 {w:World} {B n:Nat} {v:Value} {l:List aC} {xs:List Value} {S:Nat→Prop} (h:w.ownsRow B 72 4 v n xs) (hn:l.length=n)
  (hx:∀ i m,l[i]?=some m→∃ c,c.length=4∧sj w c m Any∧∀ j y,c[j]?=some y→xs[i * 4+j]?=some y) (hS:∀ g,v.ownBlock=some g→S g):jc w S v l:=by
 subst hn
 rcases h.2 with ⟨hn,hl⟩ | ⟨g,cap,cur,hv,hg,hh,h1,h2,h3,h4⟩
 ·exact .inl ⟨hn,List.eq_nil_of_length_eq_zero hl⟩
 ·have hpick:∀ i,∃ c,i < l.length→∀ m,l[i]?=some m→c.length=4∧sj w c m Any∧∀ j y,c[j]?=some y→xs[i * 4+j]?=some y:=by
   intro i
   by_cases hi:i < l.length
   ·obtain ⟨c,hc⟩:=hx i l[i] (aL hi)
    exact ⟨c,fun _ m hm=>by rw [aL hi] at hm;cases hm;exact hc⟩
   ·exact ⟨[],fun h=>absurd h hi⟩
  obtain ⟨cs,hcs⟩:=Classical.axiomOfChoice hpick
  refine .inr ⟨g,cap,cur,cs,fun _ _=>False,hv,hh,h1,h2,h3,hS g (by rw [hv];rfl),fun i m hm=>?_,by simp,by simp⟩
  obtain ⟨q1,q2,q3⟩:=hcs i (gs1 hm).1 m hm
  refine ⟨q2,q1,fun j y hy=>?_⟩
  have:=q3 j y hy
  rw [← h4,List.getElem?_take] at this
  split at this
  ·simpa using this
  ·cases this
section
variable {P : Program} {w : World} {e t : TypeId} {sz bytes B n : Nat} {v : Value} {xs : List Value}
/-- One element more put behind a row of the call's own, in a region that draws. -/
theorem zA {o:Oper} {a:Act} {K:Act→World→Prop} {Q:Exit→Act→World→Prop} (d:Nat) (hd:o.dst=some d) (s y:Operand)
  (ho:o.op=.call { callee:=.builtin .append,args:=#[s,y],argTypes:=#[t,t] }) (h:w.ownsRow B e sz v n xs) {i:TypeInfo} {z:Value} (ht:P.underlying t=some (.slice e)) (hi:P.info? e=some i) (hz:i.zero=some z) (hsize:i.size=sz) (hby:i.bytes=bytes) (hzs:z.cells.size=sz) (hsz:0 < sz)
  (hs:a.eval s=v) (c:List Value) (hc:c.length=sz) (ad:Addr) (cc:Nat) (hy:a.eval y=.slice (some ad) 1 cc) (hcell:∀ j u,c[j]?=some u→w.cell? (ad.add j)=some u) (h1:∀ u ∈ c,u.oneCell'=true) (hl:n+1≤maxLen) (hb:(n+1) * bytes≤140737488355328) (hB:B≤w.heap.size)
  (k:∀ v' w',w'.ownsRow B e sz v' (n+1) (xs ++ c)→w.grownBy w' v.ownBlock→(v'.ownBlock=v.ownBlock∨v'.ownBlock=some w.heap.size)→K (a.put (some d) v') w'):o.wp P a w K Q:=by
 obtain ⟨v',w',hr,h2,h3,h4,h5⟩:=run_append_own_at (P:=P) w B t o.type e i z sz bytes ht hi hz hsize hby hzs hsz v n xs h ad 1 cc c (by omega) hcell h1 hl hb hB
 unfold Oper.wp execOp
 simp only [ho,resolve,invoke,builtin,Sem.run_bind,Sem.run_pure,Result.andThen_ok,List.map_toArray,List.map_cons,List.map_nil,hs,hy,hr]
 have:=k v' w' h2 h3 h5
 rw [← hd] at this
 exact this
end
/- A whole list put behind a row of the call's own; parts of a list. -/
section
variable {α : Type} {P : Program} {w : World} {e t : TypeId} {sz bytes B n : Nat} {RE : World → List Value → α → Prop} {v u : Value} {m : List α} {xs : List Value}
theorem Xw (h:w.ownsRow B e sz v n xs) (hu:Rd sz RE w u m) (hone:∀ c x,RE w c x→∀ y ∈ c,y.oneCell'=true) (ty:TypeId) {i:TypeInfo} {z:Value} (ht:P.underlying t=some (.slice e)) (hi:P.info? e=some i) (hz:i.zero=some z) (hsize:i.size=sz) (hby:i.bytes=bytes) (hzs:z.cells.size=sz) (hsz:0 < sz)
  (hl:n+m.length≤maxLen) (hb:(n+m.length) * bytes≤140737488355328) (hB:B≤w.heap.size) :
  ∃ v' w' ys,(Builtin.append_ #[t,t] ty #[v,u]).run P w=.ok v' w'∧w'.ownsRow B e sz v' (n+m.length) (xs ++ ys)∧ys.length=m.length * sz∧(∀ i x,m[i]?=some x→∃ c,c.length=sz∧RE w c x∧∀ j y,c[j]?=some y→ys[i * sz+j]?=some y)∧w.grownBy w' v.ownBlock∧(v'.ownBlock=v.ownBlock∨v'.ownBlock=some w.heap.size):=by
 obtain ⟨a,cap,cs,rfl,h1,h2,h3,h4,h5⟩:=hu
 cases a with
 | none =>
  have hc:=h3 rfl
  have hm:m=[]:=List.eq_nil_of_length_eq_zero (by omega)
  subst hm
  subst hc
  exact ⟨v,w,[],run_append_owned_none (P:=P) (w:=w) B t ty e i sz ht hi v n xs h,by simpa using h,by simp,by simp,World.grownBy.refl _ _,.inl rfl⟩
 | some ad =>
  have hlen:∀ i,i < m.length→(cs i).length=sz:=fun i hi=>(h4 i m[i] (aL hi)).2
  have hfl:=Ec m.length hlen
  have hnews:∀ k y,((List.range m.length).flatMap cs)[k]?=some y→w.cell? (ad.add k)=some y:=by
   intro k y hk
   have hk2:k < m.length * sz:=by have:=(gs1 hk).1;omega
   have hd:k=k / sz * sz+k % sz:=by have:=Nat.div_add_mod k sz;rw [Nat.mul_comm];omega
   have hi1:k / sz < m.length:=Nat.div_lt_of_lt_mul (by rw [Nat.mul_comm];exact hk2)
   have hj1:k % sz < sz:=Nat.mod_lt _ hsz
   have hk3:=hk
   rw [hd,AL m.length hlen _ _ hi1 hj1] at hk3
   obtain ⟨b,off,hab,-,hcell⟩:=h5 (Nat.lt_of_le_of_lt (Nat.zero_le _) hi1)
   cases hab
   have:=hcell _ _ _ hi1 hk3
   rw [Addr.add_lit]
   rw [Nat.add_assoc,← hd] at this
   exact this
  have Ho:∀ y ∈ (List.range m.length).flatMap cs,y.oneCell'=true:=by
   intro y hy
   obtain ⟨i,hi',hy⟩:=List.mem_flatMap.1 hy
   have hil:i < m.length:=by simpa using hi'
   exact hone _ _ (h4 i m[i] (aL hil)).1 y hy
  obtain ⟨v',w',hr,k2,k3,k4,k5⟩:=run_append_own_at (P:=P) w B t ty e i z sz bytes ht hi hz hsize hby hzs hsz v n xs h ad m.length cap ((List.range m.length).flatMap cs) hfl hnews Ho hl hb hB
  refine ⟨v',w',(List.range m.length).flatMap cs,hr,k2,hfl,fun i x hx=>?_,k3,k5⟩
  have hil:i < m.length:=(gs1 hx).1
  refine ⟨cs i,hlen i hil,(h4 i x hx).1,fun j y hy=>?_⟩
  have hj:j < sz:=by have:=(gs1 hy).1;have:=hlen i hil;omega
  rw [AL m.length hlen i j hil hj]
  exact hy
theorem Pb {o:Oper} {a:Act} {K:Act→World→Prop} {Q:Exit→Act→World→Prop} (d:Nat) (hd:o.dst=some d) (s y:Operand)
  (ho:o.op=.call { callee:=.builtin .append,args:=#[s,y],argTypes:=#[t,t] }) (h:w.ownsRow B e sz v n xs) (hu:Rd sz RE w u m) (hone:∀ c x,RE w c x→∀ y ∈ c,y.oneCell'=true) {i:TypeInfo} {z:Value} (ht:P.underlying t=some (.slice e)) (hi:P.info? e=some i) (hz:i.zero=some z) (hsize:i.size=sz) (hby:i.bytes=bytes) (hzs:z.cells.size=sz) (hsz:0 < sz)
  (hs:a.eval s=v) (hy:a.eval y=u) (hl:n+m.length≤maxLen) (hb:(n+m.length) * bytes≤140737488355328) (hB:B≤w.heap.size)
  (k:∀ v' w' ys,w'.ownsRow B e sz v' (n+m.length) (xs ++ ys)→ys.length=m.length * sz→(∀ i x,m[i]?=some x→∃ c,c.length=sz∧RE w c x∧∀ j y,c[j]?=some y→ys[i * sz+j]?=some y)→w.grownBy w' v.ownBlock→(v'.ownBlock=v.ownBlock∨v'.ownBlock=some w.heap.size)→K (a.put (some d) v') w'):o.wp P a w K Q:=by
 obtain ⟨v',w',ys,hr,h2,h3,h4,h5,h6⟩:=Xw (P:=P) (t:=t) h hu hone o.type ht hi hz hsize hby hzs hsz hl hb hB
 unfold Oper.wp execOp
 simp only [ho,resolve,invoke,builtin,Sem.run_bind,Sem.run_pure,Result.andThen_ok,List.map_toArray,List.map_cons,List.map_nil,hs,hy,hr]
 have:=k v' w' ys h2 h3 h4 h5 h6
 rw [← hd] at this
 exact this
/-- The first ones, the last ones of a list that is read. -/
theorem Rd.take {ad:Option Addr} {c k:Nat} (h:Rd sz RE w (.slice ad m.length c) m) (hk:k≤m.length):Rd sz RE w (.slice ad k c) (m.take k):=by
 obtain ⟨a,cap,cs,hv,h1,h2,h3,h4,h5⟩:=h
 cases hv
 have hl:(m.take k).length=k:=by simp;omega
 refine ⟨ad,c,cs,by rw [hl],by omega,h2,h3,fun i x hx=>h4 i x ?_,fun hp=>?_⟩
 ·rw [List.getElem?_take] at hx
  split at hx
  ·exact hx
  ·cases hx
 ·rw [hl] at hp
  obtain ⟨b,off,ha,hb,hc⟩:=h5 (by omega)
  exact ⟨b,off,ha,hb,fun i j u hi hu=>hc i j u (by omega) hu⟩
theorem Rd.drop {b off c k:Nat} (h:Rd sz RE w (.slice (some ⟨b,off,none⟩) m.length c) m) (hk:k≤m.length):Rd sz RE w (.slice (some ⟨b,off+k * sz,none⟩) (m.length - k) (c - k)) (m.drop k):=by
 obtain ⟨a,cap,cs,hv,h1,h2,h3,h4,h5⟩:=h
 cases hv
 have hl:(m.drop k).length=m.length - k:=by simp
 refine ⟨some ⟨b,off+k * sz,none⟩,c - k,fun i=>cs (k+i),by rw [hl],by omega,by omega,(fun h=>by cases h),fun i x hx=>h4 (k+i) x (by rw [List.getElem?_drop] at hx;exact hx),fun hp=>?_⟩
 rw [hl] at hp
 obtain ⟨b',off',ha,hb,hc⟩:=h5 (by omega)
 cases ha
 refine ⟨b,off+k * sz,rfl,hb,fun i j u hi hu=>?_⟩
 have:=hc (k+i) j u (by omega) hu
 rw [Nat.add_mul,← Nat.add_assoc] at this
 exact this
end
/- Cells put behind a row of the call's own, as they are. -/
/-- A slice's cells, as they are. -/
def sw (w:World) (u:Value) (m sz:Nat) (news:List Value):Prop :=
 (u=.slice none 0 0∧m=0∧news=[])∨∃ g off cap,u=.slice (some ⟨g,off,none⟩) m cap∧news.length=m * sz∧∀ j y,news[j]?=some y→w.cell? ⟨g,off+j,none⟩=some y
section
variable {P : Program} {w : World} {e t : TypeId} {sz bytes B n m : Nat} {v u : Value} {xs news : List Value}
theorem Pf (h:w.ownsRow B e sz v n xs) (hu:sw w u m sz news) (hone:∀ y ∈ news,y.oneCell'=true) (ty:TypeId) {i:TypeInfo} {z:Value} (ht:P.underlying t=some (.slice e)) (hi:P.info? e=some i) (hz:i.zero=some z) (hsize:i.size=sz) (hby:i.bytes=bytes) (hzs:z.cells.size=sz) (hsz:0 < sz)
  (hl:n+m≤maxLen) (hb:(n+m) * bytes≤140737488355328) (hB:B≤w.heap.size) :
  ∃ v' w',(Builtin.append_ #[t,t] ty #[v,u]).run P w=.ok v' w'∧w'.ownsRow B e sz v' (n+m) (xs ++ news)∧w.grownBy w' v.ownBlock∧(v'.ownBlock=v.ownBlock∨v'.ownBlock=some w.heap.size):=by
 rcases hu with ⟨rfl,rfl,rfl⟩ | ⟨g,off,cap,rfl,hn,hc⟩
 ·exact ⟨v,w,run_append_owned_none (P:=P) (w:=w) B t ty e i sz ht hi v n xs h,by simpa using h,World.grownBy.refl _ _,.inl rfl⟩
 ·obtain ⟨v',w',hr,k2,k3,k4,k5⟩:=run_append_own_at (P:=P) w B t ty e i z sz bytes ht hi hz hsize hby hzs hsz v n xs h ⟨g,off,none⟩ m cap news hn (fun j y hy=>by rw [Addr.add_lit];exact hc j y hy) hone hl hb hB
  exact ⟨v',w',hr,k2,k3,k5⟩
theorem EK {o:Oper} {a:Act} {K:Act→World→Prop} {Q:Exit→Act→World→Prop} (d:Nat) (hd:o.dst=some d) (s y:Operand)
  (ho:o.op=.call { callee:=.builtin .append,args:=#[s,y],argTypes:=#[t,t] }) (h:w.ownsRow B e sz v n xs) (hu:sw w u m sz news) (hone:∀ y ∈ news,y.oneCell'=true) {i:TypeInfo} {z:Value} (ht:P.underlying t=some (.slice e)) (hi:P.info? e=some i) (hz:i.zero=some z) (hsize:i.size=sz) (hby:i.bytes=bytes) (hzs:z.cells.size=sz) (hsz:0 < sz)
  (hs:a.eval s=v) (hy:a.eval y=u) (hl:n+m≤maxLen) (hb:(n+m) * bytes≤140737488355328) (hB:B≤w.heap.size)
  (k:∀ v' w',w'.ownsRow B e sz v' (n+m) (xs ++ news)→w.grownBy w' v.ownBlock→(v'.ownBlock=v.ownBlock∨v'.ownBlock=some w.heap.size)→K (a.put (some d) v') w'):o.wp P a w K Q:=by
 obtain ⟨v',w',hr,h2,h3,h5⟩:=Pf (P:=P) (t:=t) h hu hone o.type ht hi hz hsize hby hzs hsz hl hb hB
 unfold Oper.wp execOp
 simp only [ho,resolve,invoke,builtin,Sem.run_bind,Sem.run_pure,Result.andThen_ok,List.map_toArray,List.map_cons,List.map_nil,hs,hy,hr]
 have:=k v' w' h2 h3 h5
 rw [← hd] at this
 exact this
theorem IK {ops:Array Oper} {rest:List Oper} {o:Oper} {a:Act} {Q:Exit→Act→World→Prop} (hgd:o.guard=none) (s y:Operand)
  (ho:o.op=.call { callee:=.builtin .append,args:=#[s,y],argTypes:=#[t,t] }) (h:w.ownsRow B e sz v n xs) (hu:sw w u m sz news) (hone:∀ y ∈ news,y.oneCell'=true) {i:TypeInfo} {z:Value} (ht:P.underlying t=some (.slice e)) (hi:P.info? e=some i) (hz:i.zero=some z) (hsize:i.size=sz) (hby:i.bytes=bytes) (hzs:z.cells.size=sz) (hsz:0 < sz)
  (hs:a.eval s=v) (hy:a.eval y=u) (hl:n+m≤maxLen) (hb:(n+m) * bytes≤140737488355328) (hB:B≤w.heap.size)
  (k:∀ v' w',w'.ownsRow B e sz v' (n+m) (xs ++ news)→w.grownBy w' v.ownBlock→(v'.ownBlock=v.ownBlock∨v'.ownBlock=some w.heap.size)→wpList P ops Q rest (a.put o.dst v') w'):wpList P ops Q (o :: rest) a w:=by
 refine wpList_plain hgd fun K hK=>?_
 obtain ⟨v',w',hr,h2,h3,h5⟩:=Pf (P:=P) (t:=t) h hu hone o.type ht hi hz hsize hby hzs hsz hl hb hB
 unfold Oper.wp execOp
 simp only [ho,resolve,invoke,builtin,Sem.run_bind,Sem.run_pure,Result.andThen_ok,List.map_toArray,List.map_cons,List.map_nil,hs,hy,hr]
 exact hK _ _ (k v' w' h2 h3 h5)
end
/- How many went of a box behind a pointer; the oldest cut off. -/
/-- How many au a box behind a pointer holds. -/
def oo (w:World) (g o:Nat):Nat:=match w.cell? ⟨g,o+5,none⟩ with | some (.slice _ n _)=>n | _=>0
theorem Pg {w:World} {S:Nat→Prop} {l:List bB} {b off c:Nat} (h:fM w S (.slice (some ⟨b,off,none⟩) l.length c) l) (hl:1 < l.length):fM w S (.slice (some ⟨b,off+1 * 2,none⟩) (l.length - 1) (c - 1)) (l.drop 1):=by
 refine ⟨h.1.drop (by omega),fun a n c' e=>?_⟩
 obtain ⟨hS,cur,hh,-,hs⟩:=h.2 ⟨b,off,none⟩ l.length c rfl
 obtain ⟨a0,cap,cs,hv,hle,-⟩:=h.1
 simp only [Value.slice.injEq,true_and] at hv
 obtain ⟨-,rfl⟩:=hv
 cases e
 exact ⟨hS,cur,hh,rfl,by simp only at hs ⊢;omega⟩
end Go.Proofs.YtmglhdkeidhafaaGreat
