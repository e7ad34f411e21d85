/- The proof's texts, part 24. -/
import Derived.Test.YtfabngnaejjcmaaGreatDoorTn
namespace Go.Proofs.YtfabngnaejjcmaaGreatDoor
open Go.RowKit
set_option linter.unusedVariables false
/- What a command does to an account, on lists: after UQ of package spec. -/
/-- The oldest au fall out; the last that fell tells what is lost. -/
def iQ (lost:Int):List bE->Int × List bE
 | []=>(lost,[])
 | x :: l=>if 40 < l.length+1 then iQ x.seq l else (lost,x :: l)
theorem ac7 {lost:Int} {l:List bE} (h:l.length<=40):iQ lost l=(lost,l):=by
 cases l with
 | nil=>rfl
 | cons x l=>rw[iQ,if_neg (by simp only[List.length_cons] at h;omega)]
theorem ac8 {lost:Int} {l:List bE} {x:bE} (h:40 < (x :: l).length):iQ lost (x :: l)=iQ x.seq l:=by
 rw[iQ,if_pos (by simpa only[List.length_cons] using h)]
theorem ac9 (l:List bE):∀lost:Int,(iQ lost l).2.length<=l.length:=by
 induction l with
 | nil=>intro _;exact Nat.le_refl _
 | cons x l ih =>
  intro lost;rw[iQ]
  split
  ·exact Nat.le_trans (ih x.seq) (Nat.le_succ _)
  ·exact Nat.le_refl _
/-- The suffix that the loop holds after i turns, and what is lost then. -/
theorem ada {l:List bE} {i:Nat} {lost:Int} {x:bE} (hx:l[i]?=some x) (h:40 < l.length - i):iQ lost (l.drop i)=iQ x.seq (l.drop (i+1)):=by
 obtain⟨hi,rfl⟩:=List.getElem?_eq_some_iff.mp hx;rw[List.drop_eq_getElem_cons hi,ac8 (by simp only[List.length_cons,List.length_drop];omega)]
/-- A jC falls out of a box. -/
def dK (b:aB) (i:Nat):aB:=match b.ah[i]? with
 | some m=>⟨b.name,b.valid,b.next,b.seq,b.ah.take i ++ b.ah.drop (i+1),(iQ b.lost (b.au ++ [⟨m.uid,b.seq⟩])).2,(iQ b.lost (b.au ++ [⟨m.uid,b.seq⟩])).1⟩
 | none=>b
/-- A jC comes into a box. -/
def qK (b:aB) (fl:Int) (tx:List Int):aB:=⟨b.name,b.valid,b.next+1,b.seq+1,b.ah ++ [⟨b.next,fl,b.seq+1,tx⟩],b.au,b.lost⟩
def eH (b:aB):aB:=⟨b.name,b.valid,b.next,b.seq+1,b.ah,b.au,b.lost⟩
def bJ (c n:Int):iw:=⟨c,n,Ca,[]⟩
def ER (a:aT) (nm:List Int):aT × iw :=
 if 0<=bD (λx:aB=>decide (x.name=nm)) a.boxes then (a,bJ 2 0)
 else if 4<=a.boxes.length\/1000000<=a.valid then (a,bJ 3 0)
 else (⟨a.valid+1,a.boxes.takeWhile (λx:aB=>ku x.name nm) ++ (⟨nm,a.valid+1,1,0,[],[],0⟩ :: a.boxes.dropWhile (λx:aB=>ku x.name nm)),a.seen⟩,bJ 0 (a.valid+1))
def tC (b:aB) (uid mode fl si:Int):aB × iw :=
 match b.ah.findIdx? (λm:aL=>decide (m.uid=uid)) with
 | none=>(b,bJ 1 0)
 | some i=>match b.ah[i]? with
  | none=>(b,bJ 1 0)
  | some m =>
   if 0 < si/\si < m.seq then (b,bJ 4 m.seq)
   else if jI m.flags mode fl=m.flags then (b,bJ 0 m.seq)
   else if 1000000<=b.seq then (b,bJ 3 0)
   else (⟨b.name,b.valid,b.next,b.seq+1,b.ah.set i ⟨m.uid,jI m.flags mode fl,b.seq+1,m.text⟩,b.au,b.lost⟩,bJ 0 (b.seq+1))
/-- A jC bears the flag that marks it as to be akp. -/
def jo (m:aL):Bool:=decide (0 < bits .and .i64 m.flags 8)
/-- From the i-th jC on, every one that is marked falls out; n: how many ah are still to be looked at. -/
def lC:Nat->aB->Nat->aB
 | 0,b,_=>b
 | n+1,b,i=>match b.ah[i]? with
  | none=>b
  | some m=>if jo m then lC n (dK b i) i else lC n b (i+1)
def mQ (b:aB):aB × iw :=
 if b.ah.countP jo=0 then (b,bJ 0 0)
 else if 1000000<=b.seq then (b,bJ 3 0)
 else (lC b.ah.length (eH b) 0,bJ 0 (b.ah.countP jo:Nat))
def eY (a:aT) (k:Nat) (b:aB):aT:=⟨a.valid,a.boxes.set k b,a.seen⟩
def Cb (a:aT) (k:Nat) (b:aB) (tt:List Int) (uid mode:Int):aT × iw :=
 match b.ah.findIdx? (λm:aL=>decide (m.uid=uid)),a.boxes.findIdx? (λx:aB=>decide (x.name=tt)) with
 | some i,some t=>match b.ah[i]?,a.boxes[t]? with
  | some m,some bt =>
   if fJ bt (if mode=1/\t=k then 0 else 1)=false\/(mode=1/\999999<=b.seq) then (a,bJ 3 0)
   else
    let a1:=if mode=1 then eY a k (dK (eH b) i) else a
    match a1.boxes[t]? with
    | some bu=>(eY a1 t (qK bu m.flags m.text),bJ 0 bu.next)
    | none=>(a1,bJ 1 0)
  | _,_=>(a,bJ 1 0)
 | _,_=>(a,bJ 1 0)
/-- What a command does: the account behind it, and the reply. -/
def lY (a:aT) (c:gP):aT × iw :=
 if c.k=0 then ER a c.bx
 else if c.k=9 then (a,⟨0,0,Ca,a.boxes.map λx:aB=>x.name⟩)
 else match a.boxes.findIdx? (λx:aB=>decide (x.name=c.bx)) with
  | none=>(a,bJ 1 0)
  | some k=>match a.boxes[k]? with
   | none=>(a,bJ 1 0)
   | some b =>
    if c.k=1 then (⟨a.valid,a.boxes.take k ++ a.boxes.drop (k+1),a.seen⟩,bJ 0 0)
    else if c.k=2 then (if fJ b 1 then (eY a k (qK b c.fl c.tx),bJ 0 b.next) else (a,bJ 3 0))
    else if c.k=3 then (eY a k (tC b c.uid c.mode c.fl c.si).1,(tC b c.uid c.mode c.fl c.si).2)
    else if c.k=4 then (eY a k (mQ b).1,(mQ b).2)
    else if c.k=6 then Cb a k b c.tt c.uid c.mode
    else if c.k=8 then (a,zn b c.si)
    else if c.k=7 then (a,⟨0,(b.ah.length:Nat),⟨b.name,b.valid,b.next,b.seq,[],[],b.lost⟩,[]⟩)
    else match b.ah.findIdx? (λm:aL=>decide (m.uid=c.uid)) with
     | none=>(a,bJ 1 0)
     | some i=>(a,⟨0,c.uid,⟨b.name,b.valid,b.next,b.seq,(b.ah.drop i).take 1,[],b.lost⟩,[]⟩)
/- An account that is turned in place: boxes, ah apart by blocks; texts and au, which nobody turns, by the type of their cells. -/
def Any:Nat->Prop:=λ_=>True
/-- Blocks of a type stay. -/
def aY (w w':World) (t:TypeId):Prop:=∀k,Ty w k t->w'.heap[k]?=w.heap[k]?
theorem aY.refl (w:World) (t:TypeId):aY w w t:=λ_ _=>rfl
theorem adb {w w':World} {t:TypeId} {k:Nat} (h:aY w w' t) (hk:Ty w k t):Ty w' k t:=by
 obtain⟨cs,fz,e⟩:=hk;exact⟨cs,fz,(h k ⟨cs,fz,e⟩).trans e⟩
theorem aY.trans {w w' w'':World} {t:TypeId} (h:aY w w' t) (h':aY w' w'' t):aY w w'' t:=λk hk=>(h' k (adb h hk)).trans (h k hk)
theorem kK {w:World} {k:Nat} {t:TypeId} (h:Ty w k t):k < w.heap.size:=by
 obtain⟨cs,fz,e⟩:=h;exact lt_of_heap e
theorem fT {w w':World} {t:TypeId} (h:Below w.heap.size w w'):aY w w' t:=λk hk=>h.block k (kK hk)
theorem gJ {w:World} {t e:TypeId} {g i:Nat} {x:Value} (ht:Ty w g e) (hne:t≠e):aY w (w.setCell ⟨g,i,none⟩ x) t:=by
 intro k ⟨cs,fz,hk⟩;exact Below.heap_setCell _ _ _ _ (show k≠g from λe2=>by subst e2;exact dX hk ht hne)
/-- GJ whose texts lie in blocks of bytes, any. -/
def tF (w:World) (c:List Value) (m:aL) (_:Nat->Prop):Prop:=rQ w c m Any
abbrev jq:=Ow 77 4 tF
theorem vB {w w':World} {c:List Value} {m:aL} {S S':Nat->Prop} (h:tF w c m S) (ht:aY w w' 5):tF w' c m S' :=
 let ⟨u,h0,h1,r⟩:=h;⟨u,h0,lM h1 ht,r⟩
theorem zo {w w':World} {S:Nat->Prop} {v:Value} {l:List aL} (h:jq w S v l) (hm:∀k,S k->k < w.heap.size->w'.heap[k]?=w.heap[k]?) (ht:aY w w' 5):jq w' S v l:=by
 rcases h with h | ⟨g,cap,cur,cs,fs,hv,hh,h1,h2,h3,h4,h5,h6,h7⟩
 ·exact .inl h
 ·exact .inr ⟨g,cap,cur,cs,fs,hv,(hm g h4 (lt_of_heap hh)).trans hh,h1,h2,h3,h4,λi x hx=>⟨vB (h5 i x hx).1 ht,(h5 i x hx).2⟩,h6,h7⟩
theorem jq.v {w:World} {S:Nat->Prop} {v:Value} {l:List aL} (h:jq w S v l):jE w v l:=Ow.rd (λ_ _ _ _ h=>rQ.rd h) h
/-- akq that are read, in a block of au that nobody has closed: a slice from its middle may be. -/
def iR (w:World) (S:Nat->Prop) (v:Value) (l:List bE):Prop:=jF w v l/\∀a n c,v=.slice (some a) n c->S a.block/\∃cur,w.heap[a.block]?=some (.cells cur 115 (0,0))/\a.spot=none/\a.off+c * 2<=cur.size
theorem UR {w:World} {S:Nat->Prop} {v:Value} {l:List bE} (h:lI w S v l):iR w S v l:=by
 refine⟨Ow.rd (λ_ _ _ _ h=>h) h,λa n c hv=>?_⟩;rcases h with⟨h,-⟩ | ⟨g,cap,cur,cs,fs,hv',hh,-,-,hs,hS,-⟩
 ·rw[hv] at h;cases h
 ·rw[hv] at hv'
  simp only[Value.slice.injEq,Option.some.injEq] at hv';obtain⟨rfl,-,rfl⟩:=hv';exact⟨hS,cur,hh,rfl,by simp only;omega⟩
theorem iR.mono {w:World} {S S':Nat->Prop} {v:Value} {l:List bE} (h:iR w S v l) (hS:∀k,S k->S' k):iR w S' v l:=⟨h.1,λa n c e=>⟨hS _ (h.2 a n c e).1,(h.2 a n c e).2⟩⟩
theorem MU {w:World} {S:Nat->Prop} {v:Value} {l:List bE} (h:iR w S v l):iR w (λk=>S k/\k < w.heap.size) v l:=⟨h.1,λa n c e=>let ⟨h1,cur,hh,r⟩:=h.2 a n c e;⟨⟨h1,lt_of_heap hh⟩,cur,hh,r⟩⟩
theorem xu {w w':World} {S:Nat->Prop} {v:Value} {l:List bE} (h:iR w S v l) (ht:aY w w' 115):iR w' S v l:=by
 obtain⟨⟨a,cap,cs,hv,h1,h2,h3,h4,h5⟩,hty⟩:=h;refine⟨⟨a,cap,cs,hv,h1,h2,h3,h4,λhp=>?_⟩,λa n c e=>let ⟨h1,cur,hh,r⟩:=hty a n c e;⟨h1,cur,(ht _ ⟨_,_,hh⟩).trans hh,r⟩⟩;obtain⟨b,off,ha,hb,hc⟩:=h5 hp;obtain⟨-,cells,hh,-⟩:=hty ⟨b,off,none⟩ l.length cap (by rw[hv,ha]);have hh':=(ht b ⟨_,_,hh⟩).trans hh;refine⟨b,off,ha,lt_of_heap hh',λi j u hi hu=>?_⟩;have:=hc i j u hi hu;rw[cell_of_row w b _ cells _ (0,0) hh] at this;rw[cell_of_row w' b _ cells _ (0,0) hh'];exact this
/-- A box whose ah are the UU own. -/
def iE (w:World) (c:List Value) (b:aB) (S:Nat->Prop):Prop :=
 ∃u0 u1 u2,c=[u0,.int .i64 b.valid,.int .i64 b.next,.int .i64 b.seq,u1,u2,.int .i64 b.lost]/\RO w Any u0 b.name/\jq w S u1 b.ah/\iR w S u2 b.au/\av b.valid/\av b.next/\av b.seq/\av b.lost
abbrev iT:=Ow 70 7 iE
theorem MV {w w':World} {c:List Value} {b:aB} {S:Nat->Prop} (h:iE w c b S) (hm:∀k,S k->k < w.heap.size->w'.heap[k]?=w.heap[k]?) (ht:aY w w' 5) (hg:aY w w' 115):iE w' c b S :=
 let ⟨u0,u1,u2,h0,h1,h2,h3,r⟩:=h;⟨u0,u1,u2,h0,lM h1 ht,zo h2 hm ht,xu h3 hg,r⟩
theorem iE.rd {w:World} {c:List Value} {b:aB} {S:Nat->Prop} (h:iE w c b S):CU w c b :=
 let ⟨u0,u1,u2,h0,h1,h2,h3,r⟩:=h;⟨u0,u1,u2,h0,h1.bs,h2.v,h3.1,r⟩
theorem zq {w w':World} {S:Nat->Prop} {v:Value} {l:List aB} (h:iT w S v l) (hm:∀k,S k->k < w.heap.size->w'.heap[k]?=w.heap[k]?) (ht:aY w w' 5) (hg:aY w w' 115):iT w' S v l:=by
 rcases h with h | ⟨g,cap,cur,cs,fs,hv,hh,h1,h2,h3,h4,h5,h6,h7⟩
 ·exact .inl h
 ·refine .inr ⟨g,cap,cur,cs,fs,hv,(hm g h4 (lt_of_heap hh)).trans hh,h1,h2,h3,h4,λi x hx=>⟨?_,(h5 i x hx).2⟩,h6,h7⟩
  have hi:i < l.length:=(gs1 hx).1;exact MV (h5 i x hx).1 (λk hk hlt=>hm k (h6 i k hi hk).1 hlt) ht hg
theorem iT.v {w:World} {S:Nat->Prop} {v:Value} {l:List aB} (h:iT w S v l):lH w v l:=Ow.rd (λ_ _ _ _ h=>iE.rd h) h
/-- One box behind a pointer: cells from o on in the block g; its akr block lies in S. -/
def aG (w:World) (S:Nat->Prop) (g o:Nat) (b:aB):Prop :=
 ∃cur c,w.heap[g]?=some (.cells cur 70 (0,0))/\iE w c b S/\∀j u,c[j]?=some u->cur[o+j]?=some u
/-- What a call turns that is given one box: that MW seven cells, and blocks in S; nothing else that is old. -/
def Turns (w w':World) (S:Nat->Prop) (g o:Nat):Prop :=
 w.heap.size<=w'.heap.size/\(∀k,k < w.heap.size->k≠g->¬S k->w'.heap[k]?=w.heap[k]?)/\aY w w' 5/\aY w w' 115 /\
  (∀cur,w.heap[g]?=some (.cells cur 70 (0,0))->∃cur',w'.heap[g]?=some (.cells cur' 70 (0,0))/\cur'.size=cur.size/\∀i,(i < o\/o+7<=i)->cur'[i]?=cur[i]?)/\w'.os=w.os/\w'.tape=w.tape/\w'.output=w.output
/-- The i-th box out of the list, behind its pointer; the blocks of its ah are none of the others'. -/
theorem iT.at {w:World} {S:Nat->Prop} {v:Value} {l:List aB} (h:iT w S v l) {i:Nat} {b:aB} (hb:l[i]?=some b) :
  ∃g cap S1,v=.slice (some ⟨g,0,none⟩) l.length cap/\S g/\aG w S1 g (i * 7) b/\(∀k,S1 k->S k/\k≠g) /\
   ∀(w':World) (b':aB) (nT:Nat->Prop),Turns w w' S1 g (i * 7)->aG w' nT g (i * 7) b'->(∀k,nT k->S1 k\/w.heap.size<=k)->iT w' (λk=>S k\/w.heap.size<=k) v (l.set i b'):=by
 rcases h with⟨_,h⟩ | ⟨g,cap,cur,cs,fs,hv,hh,h1,h2,h3,h4,h5,h6,h7⟩
 ·subst h;simp at hb
 have hi:i < l.length:=(gs1 hb).1;refine⟨g,cap,λk=>fs i k,hv,h4,⟨cur,cs i,hh,(h5 i b hb).1,(h5 i b hb).2.2⟩,λk hk=>h6 i k hi hk,λw' b' nT ht hp hs0=>?_⟩;have hs:∀k,nT k->(fs i k\/w.heap.size<=k)/\k≠g:=λk h=>⟨hs0 k h,λe=>by subst e;exact(hs0 _ h).elim (λh'=>(h6 i _ hi h').2 rfl) λh'=>by have:=lt_of_heap hh;omega⟩;obtain⟨t0,t1,t2,t3,t4,-⟩:=ht;obtain⟨cur',hh',hsz',hout⟩:=t4 cur hh;obtain⟨aks,c,e2,hq,hc⟩:=hp;rw[hh'] at e2;cases e2
 -- akt of the others,held to blocks that were there
 refine .inr ⟨g,cap,cur',λj=>if j=i then c else cs j,λj=>if j=i then nT else λk=>fs j k/\k < w.heap.size,by rw[List.length_set];exact hv,hh',by rw[List.length_set];exact h1,h2,hsz'.trans h3,.inl h4,λj x hx=>?_,λj k hj hk=>?_,λj m k hj hm hne hk=>?_⟩
 ·by_cases e:j=i
  ·subst e
   rw[List.getElem?_set_self hi] at hx;cases hx
   simp only[if_pos];exact⟨hq,by obtain⟨u0,u1,u2,rfl,_⟩:=hq;rfl,hc⟩
  ·rw[List.getElem?_set_ne (Ne.symm e)] at hx
   simp only[if_neg e];have hj:j < l.length:=(gs1 hx).1;obtain⟨q0,q1,q2⟩:=h5 j x hx;refine⟨?_,q1,λm u hu=>?_⟩
   ·obtain⟨u0,u1,u2,e0,e1,em,eg,er⟩:=q0
    refine⟨u0,u1,u2,e0,lM e1 t2,?_,xu (MU eg) t3,er⟩;have hk:jq w' (fs j) u1 x.ah:=zo em (λk hk hlt=>t1 k hlt (h6 j k hj hk).2 (λhk2=>h7 j i k hj hi e hk hk2)) t2;rcases em with⟨n1,n2⟩ | ⟨g',cap',cur',cs',fs',m0,m1,m2,m3,m4,m5,m6,m7⟩
    ·exact .inl ⟨n1,n2⟩
    ·exact .inr ⟨g',cap',cur',cs',λ_ _=>False,m0,(t1 g' (lt_of_heap m1) (h6 j g' hj m5).2 (λhk2=>h7 j i g' hj hi e m5 hk2)).trans m1,m2,m3,m4,⟨m5,lt_of_heap m1⟩,λp y hy=>⟨vB (m6 p y hy).1 t2,(m6 p y hy).2⟩,λ_ _ _ hF=>hF.elim,λ_ _ _ _ _ _ hF=>hF.elim⟩
   ·have aku:m < 7:=by
     have:=(gs1 hu).1;omega
    rw[hout (j * 7+m) (by rcases Nat.lt_or_gt_of_ne e with e | e <;> omega)];exact q2 m u hu
 ·rw[List.length_set] at hj
  by_cases e:j=i
  ·simp only[if_pos e] at hk
   obtain⟨hk1,hk2⟩:=hs k hk;exact⟨hk1.elim (λh=>.inl (h6 i k hi h).1) .inr,hk2⟩
  ·simp only[if_neg e] at hk
   exact⟨.inl (h6 j k hj hk.1).1,(h6 j k hj hk.1).2⟩
 ·rw[List.length_set] at hj hm
  by_cases e:j=i
  ·have e2:m≠i:=λe2=>hne (e.trans e2.symm)
   simp only[if_pos e,if_neg e2] at hk ⊢;intro hk2;rcases(hs k hk).1 with h | h
   ·exact h7 m i k hm hi e2 hk2.1 h
   ·exact absurd hk2.2 (by omega)
  ·simp only[if_neg e] at hk
   by_cases e2:m=i
   ·simp only[if_pos e2]
    intro hk2;rcases(hs k hk2).1 with h | h
    ·exact h7 j i k hj hi e hk.1 h
    ·exact absurd hk.2 (by omega)
   ·simp only[if_neg e2]
    exact λhk2=>h7 j m k hj hm hne hk.1 hk2.1
/- A box behind a pointer: what it reads, what a call that turns it leaves. -/
section
variable {w w' w'' : World} {S S' S1 : Nat -> Prop} {g o : Nat} {b : aB}
theorem Turns.refl (w:World) (S:Nat->Prop) (g o:Nat):Turns w w S g o:=⟨Nat.le_refl _,λ_ _ _ _=>rfl,aY.refl _ _,aY.refl _ _,λcur h=>⟨cur,h,rfl,λ_ _=>rfl⟩,rfl,rfl,rfl⟩
/-- One call behind the other; what is new behind the first may be turned by the second. -/
theorem Turns.trans (h:Turns w w' S g o) (h':Turns w' w'' S' g o) (hS:∀k,S' k->S k\/w.heap.size<=k):Turns w w'' S g o:=by
 refine⟨Nat.le_trans h.1 h'.1,λk hk hg hs=>?_,h.2.2.1.trans h'.2.2.1,h.2.2.2.1.trans h'.2.2.2.1,λcur hc=>?_,h'.2.2.2.2.2.1.trans h.2.2.2.2.2.1,h'.2.2.2.2.2.2.1.trans h.2.2.2.2.2.2.1,h'.2.2.2.2.2.2.2.trans h.2.2.2.2.2.2.2⟩
 ·exact(h'.2.1 k (Nat.lt_of_lt_of_le hk h.1) hg (λh2=>(hS k h2).elim hs (λh3=>by omega))).trans (h.2.1 k hk hg hs)
 ·obtain⟨c1,e1,z1,o1⟩:=h.2.2.2.2.1 cur hc
  obtain⟨c2,e2,z2,o2⟩:=h'.2.2.2.2.1 c1 e1;exact⟨c2,e2,z2.trans z1,λi hi=>(o2 i hi).trans (o1 i hi)⟩
theorem oH (h:Below w.heap.size w w'):Turns w w' S g o :=
 ⟨h.size,λk hk _ _=>h.block k hk,fT h,fT h,λcur hc=>⟨cur,(h.block g (lt_of_heap hc)).trans hc,rfl,λ_ _=>rfl⟩,h.os,h.tape,h.output⟩
/-- A field of the box is written. -/
theorem ade {i:Nat} {x:Value} (ht:Ty w g 70) (hi:o<=i) (hi2:i < o+7):Turns w (w.setCell ⟨g,i,none⟩ x) S g o:=by
 refine⟨by rw[dW];exact Nat.le_refl _,λk _ hg _=>Below.heap_setCell _ _ _ _ hg,gJ ht (by decide),gJ ht (by decide),λcur hc=>⟨_,aD hc,by rw[Array.size_setIfInBounds],λj hj=>?_⟩,rfl,rfl,rfl⟩;rw[Array.getElem?_setIfInBounds_ne (by omega)]
/-- A field of a jC is written, in a block of ah. -/
theorem MZ {m i:Nat} {x:Value} (ht:Ty w m 77) (hm:S m\/w.heap.size<=m):Turns w (w.setCell ⟨m,i,none⟩ x) S g o:=by
 have hlt:=kK ht;refine⟨by rw[dW];exact Nat.le_refl _,λk _ _ hs=>Below.heap_setCell _ _ _ _ (show k≠m from λe=>hm.elim (λh=>hs (e ▸ h)) (λh=>by omega)),gJ ht (by decide),gJ ht (by decide),λcur hc=>⟨cur,?_,rfl,λ_ _=>rfl⟩,rfl,rfl,rfl⟩;exact eB hc (λe=>by subst e;exact dX hc ht (by decide))
theorem aG.ty (h:aG w S g o b):Ty w g 70:=let ⟨_,_,h,_⟩:=h;⟨_,_,h⟩
/-- Its seven cells. -/
theorem aG.cells (h:aG w S g o b):∃u0 u1 u2,RO w Any u0 b.name/\jq w S u1 b.ah/\iR w S u2 b.au/\(av b.valid/\av b.next/\av b.seq/\av b.lost) /\
  w.cell? ⟨g,o,none⟩=some u0/\w.cell? ⟨g,o+1,none⟩=some (.int .i64 b.valid)/\w.cell? ⟨g,o+2,none⟩=some (.int .i64 b.next)/\w.cell? ⟨g,o+3,none⟩=some (.int .i64 b.seq) /\
  w.cell? ⟨g,o+4,none⟩=some u1/\w.cell? ⟨g,o+5,none⟩=some u2/\w.cell? ⟨g,o+6,none⟩=some (.int .i64 b.lost):=by
 obtain⟨cur,c,hh,⟨u0,u1,u2,rfl,h1,h2,h3,hi⟩,hc⟩:=h;have hw:=λj=>cell_of_row w g j cur _ (0,0) hh;exact⟨u0,u1,u2,h1,h2,h3,hi,(hw _).trans (hc 0 _ rfl),(hw _).trans (hc 1 _ rfl),(hw _).trans (hc 2 _ rfl),(hw _).trans (hc 3 _ rfl),(hw _).trans (hc 4 _ rfl),(hw _).trans (hc 5 _ rfl),(hw _).trans (hc 6 _ rfl)⟩
/-- None of its block is frozen. -/
theorem aG.open (h:aG w S g o b) (i:Nat):w.frozen? ⟨g,i,none⟩=false:=by
 obtain⟨cur,c,hh,_⟩:=h;simp[World.frozen?,hh]
/-- A box stays while another call turns nothing of it. -/
theorem aG.qL (h:aG w S g o b) (hg:w'.heap[g]?=w.heap[g]?) (hm:∀k,S k->k < w.heap.size->w'.heap[k]?=w.heap[k]?) (ht:aY w w' 5) (hq:aY w w' 115):aG w' S g o b :=
 let ⟨cur,c,hh,h1,h2⟩:=h;⟨cur,c,hg.trans hh,MV h1 hm ht hq,h2⟩
theorem aG.below (h:aG w S g o b) (hb:Below w.heap.size w w'):aG w' S g o b :=
 h.qL (let ⟨_,_,hh,_⟩:=h;hb.block g (lt_of_heap hh)) (λk _ hk=>hb.block k hk) (fT hb) (fT hb)
/-- As a value. -/
theorem aG.v (h:aG w S g o b):∃u0 u1 u2,bT w (.agg #[u0,.int .i64 b.valid,.int .i64 b.next,.int .i64 b.seq,u1,u2,.int .i64 b.lost]) b/\w.cell? ⟨g,o,none⟩=some u0/\w.cell? ⟨g,o+4,none⟩=some u1/\w.cell? ⟨g,o+5,none⟩=some u2:=by
 obtain⟨u0,u1,u2,h1,h2,h3,hi,c0,-,-,-,c4,c5,-⟩:=h.cells;exact⟨u0,u1,u2,⟨u0,u1,u2,rfl,h1.bs,h2.v,h3.1,hi⟩,c0,c4,c5⟩
/-- The MW number is written. -/
theorem aG.seq {n:Int} (h:aG w S g o b) (hS:¬S g) (hn:av n) (ho:∀cur t,w.heap[g]?=some (.cells cur t (0,0))->o+7<=cur.size):aG (w.setCell ⟨g,o+3,none⟩ (.int .i64 n)) S g o ⟨b.name,b.valid,b.next,n,b.ah,b.au,b.lost⟩:=by
 have hty:=h.ty;obtain⟨cur,c,hh,⟨u0,u1,u2,rfl,h1,h2,h3,i0,i1,i2,i3⟩,hc⟩:=h;have hsz:=ho cur _ hh;refine⟨_,_,aD hh,⟨u0,u1,u2,rfl,lM h1 (gJ hty (by decide)),zo h2 (λk hk _=>Below.heap_setCell _ _ _ _ (show k≠g from λe=>hS (e ▸ hk))) (gJ hty (by decide)),xu h3 (gJ hty (by decide)),i0,i1,hn,i3⟩,λj u hj=>?_⟩
 by_cases e:j=3
 ·subst e
  cases hj
  rw[Array.getElem?_setIfInBounds_self_of_lt (by omega)]
 ·rw[Array.getElem?_setIfInBounds_ne (by omega)]
  refine hc j u ?_
  match j,hj with
  | 0,hj=>exact hj
  | 1,hj=>exact hj
  | 2,hj=>exact hj
  | 3,_=>exact absurd rfl e
  | 4,hj=>exact hj
  | 5,hj=>exact hj
  | 6,hj=>exact hj
  | j+7,hj=>simp at hj
end
/- An account behind a pointer: what it reads, what keeps it; a box out of it and back; its boxes put anew. -/
theorem jc {w w':World} {S:Nat->Prop} {v:Value} {l:List Int} (h:gQ w S v l) (hm:∀k,S k->k < w.heap.size->Ty w k 3->w'.heap[k]?=w.heap[k]?):gQ w' S v l:=by
 rcases h with h | ⟨g,cap,cur,cs,fs,hv,hh,h1,h2,h3,h4,h5,h6,h7⟩
 ·exact .inl h
 ·exact .inr ⟨g,cap,cur,cs,fs,hv,(hm g h4 (lt_of_heap hh) ⟨_,_,hh⟩).trans hh,h1,h2,h3,h4,h5,h6,h7⟩
theorem Ju {w w':World} {S:Nat->Prop} {xs:List Value} {l:List aB} (h:EL 7 iE w l S xs) (hm:∀k,S k->k < w.heap.size->w'.heap[k]?=w.heap[k]?) (ht:aY w w' 5) (hg:aY w w' 115):EL 7 iE w' l S xs :=
 h.keep λ_ _ _ hF he=>MV he (λk hk hlt=>hm k (hF k hk) hlt) ht hg
/-- akv in a new row. -/
theorem UW {w:World} {S:Nat->Prop} {B:Nat} {v:Value} {xs:List Value} {l:List aB} (h:w.ownsRow B 70 7 v l.length xs) (he:EL 7 iE w l S xs) (hS:∀k,S k->k < B):iT w (λk=>S k\/B<=k) v l:=by
 obtain⟨-,⟨rfl,hn⟩ | ⟨g,cap,cur,rfl,hB,hh,h1,h2,h3,h4⟩⟩:=h
 ·exact .inl ⟨rfl,List.length_eq_zero_iff.1 hn⟩
 ·rw[← h4] at he
  exact Ow.mono (he.ow hh h1 h2 h3 λe=>by have:=hS g e;omega) λk h=>h.elim .inl λe=>.inr (by omega)
/-- The account behind a pointer: its block is ga; the boxes and their ah lie in S, what it has seen does not. -/
def aJ (w:World) (S:Nat->Prop) (ga:Nat) (a:aT):Prop :=
 ¬S ga/\∃u0 u1,w.heap[ga]?=some (.cells #[.int .i64 a.valid,u0,u1] 39 (0,0))/\iT w S u0 a.boxes/\gQ w (λk=>¬S k/\k < w.heap.size) u1 a.seen/\av a.valid
section
variable {w w' : World} {S : Nat -> Prop} {ga : Nat} {a : aT}
theorem aJ.lt (h:aJ w S ga a):ga < w.heap.size:=let ⟨_,_,_,h,_⟩:=h;lt_of_heap h
theorem aJ.ty (h:aJ w S ga a):Ty w ga 39:=let ⟨_,_,_,h,_⟩:=h;⟨_,_,h⟩
theorem aJ.below (h:aJ w S ga a) (hb:Below w.heap.size w w'):aJ w' S ga a :=
 let ⟨hs,u0,u1,h0,h1,h2,r⟩:=h;⟨hs,u0,u1,(hb.block ga (lt_of_heap h0)).trans h0,zq h1 (λk _ hk=>hb.block k hk) (fT hb) (fT hb),Ow.mono (jc h2 λk _ hk _=>hb.block k hk) λk h=>⟨h.1,Nat.lt_of_lt_of_le h.2 hb.size⟩,r⟩
/-- Its three cells, and the account as a value. -/
theorem aJ.cells (h:aJ w S ga a):∃u0 u1,w.cell? ⟨ga,0,none⟩=some (.int .i64 a.valid)/\w.cell? ⟨ga,1,none⟩=some u0/\w.cell? ⟨ga,2,none⟩=some u1/\iT w S u0 a.boxes/\mF w (.agg #[.int .i64 a.valid,u0,u1]) a:=by
 obtain⟨-,u0,u1,h0,h1,h2,r⟩:=h;obtain⟨c0,c1,c2⟩:=fU h0;exact⟨u0,u1,c0,c1,c2,h1,u0,u1,rfl,h1.v,Ow.rd (λ_ _ _ _ h=>h) h2,r⟩
theorem aJ.open (h:aJ w S ga a) (i:Nat):w.frozen? ⟨ga,i,none⟩=false:=let ⟨_,_,_,h,_⟩:=h;frozen_of_row w ga i _ _ h
/-- Its number is written. -/
theorem aJ.Jv (h:aJ w S ga a) {n:Int} (hn:av n):aJ (w.setCell ⟨ga,0,none⟩ (.int .i64 n)) S ga ⟨n,a.boxes,a.seen⟩:=by
 have ht:=h.ty;obtain⟨hs,u0,u1,h0,h1,h2,r⟩:=h;have hk:∀k,k≠ga->(w.setCell ⟨ga,0,none⟩ (.int .i64 n)).heap[k]?=w.heap[k]?:=λk h=>Below.heap_setCell _ _ _ _ h;refine⟨hs,u0,u1,aD (i:=0) h0,zq h1 (λk h _=>hk k λe=>hs (e ▸ h)) (gJ ht (by decide)) (gJ ht (by decide)),Ow.mono (jc h2 λk _ _ hT=>gJ ht (by decide) k hT) λk h=>⟨h.1,by simpa [World.setCell] using h.2⟩,hn⟩
/-- A box out of it, and behind a call that turns that box alone back into it. -/
theorem aJ.at (h:aJ w S ga a) {i:Nat} {b:aB} (hb:a.boxes[i]?=some b) :
  ∃g cap S1,w.cell? ⟨ga,1,none⟩=some (.slice (some ⟨g,0,none⟩) a.boxes.length cap)/\S g/\aG w S1 g (i * 7) b/\(∀k,S1 k->S k/\k≠g) /\
   ∀(w':World) (b':aB) (nT:Nat->Prop),Turns w w' S1 g (i * 7)->aG w' nT g (i * 7) b'->(∀k,nT k->S1 k\/w.heap.size<=k)->aJ w' (λk=>S k\/w.heap.size<=k) ga (eY a i b'):=by
 have hlt:=h.lt;obtain⟨hs,u0,u1,h0,h1,h2,r⟩:=h;obtain⟨-,c1,-⟩:=fU h0;obtain⟨g,cap,S1,rfl,hg,hp,hS1,hback⟩:=h1.at hb;refine⟨g,cap,S1,c1,hg,hp,hS1,λw' b' nT ht hp' hS'=>⟨λh=>h.elim hs λh=>by omega,_,u1,?_,hback w' b' nT ht hp' hS',?_,r⟩⟩
 ·exact(ht.2.1 ga hlt (λe=>hs (e ▸ hg)) λh=>hs (hS1 _ h).1).trans h0
 ·refine Ow.mono (jc h2 λk hk hkl _=>ht.2.1 k hkl (λe=>hk.1 (e ▸ hg)) λh=>hk.1 (hS1 _ h).1) λk h=>⟨λh'=>h'.elim h.1 λh'=>by have:=h.2;omega,Nat.lt_of_lt_of_le h.2 ht.1⟩
end
/- A jC of a box behind a pointer: its four cells, its text. -/
/-- A text by the type of its block: read wherever the bytes stay. -/
theorem RO.stay {w:World} {u:Value} {tx:List Int} (h:RO w Any u tx):∀w':World,w.heap.size<=w'.heap.size->aY w w' 5->Bs w' u tx:=λ_ _ ht=>(lM h ht).bs
theorem aG.M0 {w:World} {S:Nat->Prop} {g o i:Nat} {b:aB} {m:aL} (h:aG w S g o b) (hm:b.ah[i]?=some m) :
  ∃mb cap u,w.cell? ⟨g,o+4,none⟩=some (.slice (some ⟨mb,0,none⟩) b.ah.length cap)/\b.ah.length<=cap/\mb < w.heap.size/\w.cell? ⟨mb,i * 4,none⟩=some (.int .i64 m.uid)/\w.cell? ⟨mb,i * 4+1,none⟩=some (.int .i64 m.flags)/\w.cell? ⟨mb,i * 4+2,none⟩=some (.int .i64 m.seq)/\w.cell? ⟨mb,i * 4+3,none⟩=some u /\
   RO w Any u m.text/\av m.uid/\av m.flags/\av m.seq:=by
 obtain⟨cur,c,hh,⟨u0,u1,u2,e,h1,h2,h3,r⟩,hc⟩:=h;rcases h2 with⟨_,h⟩ | ⟨mb,cap,mc,cs,fs,hv,hhm,b1,b2,b3,b4,b5,b6,b7⟩
 ·rw[h] at hm;simp at hm
 obtain⟨⟨u,ec,hro,i0,i1,i2⟩,hl,hcs⟩:=b5 i m hm;have hcell:∀j x,(cs i)[j]?=some x->w.cell? ⟨mb,i * 4+j,none⟩=some x:=λj x hx=>by
  rw[cell_of_row w mb _ mc _ (0,0) hhm];exact hcs j x hx
 refine⟨mb,cap,u,?_,b1,lt_of_heap hhm,hcell 0 _ (by rw[ec];rfl),hcell 1 _ (by rw[ec];rfl),hcell 2 _ (by rw[ec];rfl),hcell 3 _ (by rw[ec];rfl),hro,i0,i1,i2⟩;rw[cell_of_row w g _ cur _ (0,0) hh,← hv];exact hc 4 u1 (by rw[e];rfl)
/- An account behind a pointer: what a call that is given it may turn; its blocks, cut to those that are there. -/
/-- What a call turns that is given an account: its block (not what it has seen), and blocks in S; nothing else that is old. -/
def aI (w w':World) (S:Nat->Prop) (ga:Nat):Prop :=
 w.heap.size<=w'.heap.size/\(∀k,k < w.heap.size->k≠ga->¬S k->w'.heap[k]?=w.heap[k]?)/\aY w w' 5/\aY w w' 115/\w'.os=w.os/\w'.tape=w.tape/\w'.output=w.output/\(ga < w.heap.size->¬S ga->w'.cell? ⟨ga,2,none⟩=w.cell? ⟨ga,2,none⟩)
section
variable {w w' w'' : World} {S S' S1 : Nat -> Prop} {ga g o : Nat} {a : aT}
theorem aI.refl (w:World) (S:Nat->Prop) (ga:Nat):aI w w S ga:=⟨Nat.le_refl _,λ_ _ _ _=>rfl,aY.refl _ _,aY.refl _ _,rfl,rfl,rfl,λ_ _=>rfl⟩
theorem aI.trans (h:aI w w' S ga) (h':aI w' w'' S' ga) (hS:∀k,S' k->S k\/w.heap.size<=k):aI w w'' S ga :=
 ⟨Nat.le_trans h.1 h'.1,λk hk hg hs=>(h'.2.1 k (Nat.lt_of_lt_of_le hk h.1) hg (λh2=>(hS k h2).elim hs (λh3=>by omega))).trans (h.2.1 k hk hg hs),h.2.2.1.trans h'.2.2.1,h.2.2.2.1.trans h'.2.2.2.1,h'.2.2.2.2.1.trans h.2.2.2.2.1,h'.2.2.2.2.2.1.trans h.2.2.2.2.2.1,h'.2.2.2.2.2.2.1.trans h.2.2.2.2.2.2.1,λh1 h2=>(h'.2.2.2.2.2.2.2 (Nat.lt_of_lt_of_le h1 h.1) (λh3=>(hS ga h3).elim h2 (λh4=>by omega))).trans (h.2.2.2.2.2.2.2 h1 h2)⟩
theorem aI.below (h:Below w.heap.size w w'):aI w w' S ga:=⟨h.size,λk hk _ _=>h.block k hk,fT h,fT h,h.os,h.tape,h.output,λh1 _=>h.cell (p:=⟨ga,2,none⟩) h1⟩
theorem aI.box (h:Turns w w' S1 g o) (hg:S g) (hS:∀k,S1 k->S k):aI w w' S ga :=
 ⟨h.1,λk hk _ hs=>h.2.1 k hk (λe=>hs (e ▸ hg)) (λh=>hs (hS k h)),h.2.2.1,h.2.2.2.1,h.2.2.2.2.2.1,h.2.2.2.2.2.2.1,h.2.2.2.2.2.2.2,λh1 h2=>by unfold World.cell?;rw[h.2.1 ga h1 (λe=>h2 (e ▸ hg)) (λh=>h2 (hS ga h))]⟩
theorem aI.set {i:Nat} {x:Value} (h:aJ w S' ga a) (hi:i≠2:=by decide):aI w (w.setCell ⟨ga,i,none⟩ x) S ga :=
 ⟨by rw[dW];exact Nat.le_refl _,λk _ hg _=>Below.heap_setCell _ _ _ _ hg,gJ h.ty (by decide),gJ h.ty (by decide),rfl,rfl,rfl,λ_ _=>by
  obtain⟨-,u0,u1,hh,-⟩:=h;rw[cell_of_row _ _ _ _ _ (0,0) (aD (i:=i) (v:=x) hh),cell_of_row _ _ _ _ _ (0,0) hh,Array.getElem?_setIfInBounds_ne hi]⟩
theorem aI.wide (h:aI w w' S ga) (hS:∀k,S k->S' k):aI w w' S' ga:=⟨h.1,λk h1 h2 h3=>h.2.1 k h1 h2 (λh4=>h3 (hS k h4)),h.2.2.1,h.2.2.2.1,h.2.2.2.2.1,h.2.2.2.2.2.1,h.2.2.2.2.2.2.1,λh1 h2=>h.2.2.2.2.2.2.2 h1 λh3=>h2 (hS ga h3)⟩
/-- Where its blocks are all new, what was there stays. -/
theorem aI.fresh {N:Nat} (h:aI w w' S ga) (hN:N<=w.heap.size) (hga:N<=ga) (hS:∀k,S k->N<=k):Below N w w' :=
 ⟨h.2.2.2.2.1,h.2.2.2.2.2.1,h.2.2.2.2.2.2.1,h.1,λk hk=>h.2.1 k (by omega) (by omega) (λh=>by have:=hS k h;omega)⟩
theorem iT.cut {v:Value} {l:List aB} (h:iT w S v l):iT w (λk=>S k/\k < w.heap.size) v l:=by
 rcases h with h | ⟨g,cap,cur,cs,fs,hv,hh,h1,h2,h3,h4,h5,h6,h7⟩
 ·exact .inl h
 ·refine .inr ⟨g,cap,cur,cs,λi k=>fs i k/\k < w.heap.size,hv,hh,h1,h2,h3,⟨h4,lt_of_heap hh⟩,λi x hx=>⟨?_,(h5 i x hx).2⟩,λi k hi hk=>⟨⟨(h6 i k hi hk.1).1,hk.2⟩,(h6 i k hi hk.1).2⟩,λi j k hi hj hne hk hk'=>h7 i j k hi hj hne hk.1 hk'.1⟩
  obtain⟨u0,u1,u2,e,e1,e2,e3,r⟩:=(h5 i x hx).1;refine⟨u0,u1,u2,e,e1,?_,MU e3,r⟩;rcases e2 with h | ⟨m,cap,cu,cs,fs,hv,hm,k1,k2,k3,k4,k5,k6,k7⟩
  ·exact .inl h
  ·exact .inr ⟨m,cap,cu,cs,λ_ _=>False,hv,hm,k1,k2,k3,⟨k4,lt_of_heap hm⟩,k5,by simp,by simp⟩
theorem aJ.cut (h:aJ w S ga a):aJ w (λk=>S k/\k < w.heap.size) ga a :=
 let ⟨hs,u0,u1,h0,h1,h2,r⟩:=h;⟨λh=>hs h.1,u0,u1,h0,iT.cut h1,Ow.mono h2 λk h=>⟨λh'=>h.1 h'.1,h.2⟩,r⟩
/-- It stays where a call turns none of its blocks. -/
theorem aJ.qL (h:aJ w S ga a) (hsz:w.heap.size<=w'.heap.size) (hg:w'.heap[ga]?=w.heap[ga]?) (hm:∀k,S k->k < w.heap.size->w'.heap[k]?=w.heap[k]?) (ht:aY w w' 5) (hq:aY w w' 115) (hn:aY w w' 3):aJ w' S ga a :=
 let ⟨hs,u0,u1,h0,h1,h2,r⟩:=h;⟨hs,u0,u1,hg.trans h0,zq h1 hm ht hq,Ow.mono (jc h2 λk _ _ hT=>hn k hT) λk h=>⟨h.1,Nat.lt_of_lt_of_le h.2 hsz⟩,r⟩
end
/- A box behind a pointer: its fields are written, one by one. -/
section
variable {w w' : World} {S S' : Nat -> Prop} {g o : Nat} {b b' : aB}
theorem aG.fit (h:aG w S g o b):∀cur t,w.heap[g]?=some (.cells cur t (0,0))->o+7<=cur.size:=by
 obtain⟨cur,c,hh,⟨u0,u1,u2,rfl,-⟩,hc⟩:=h;intro cur' t h';rw[hh] at h';cases h'
 have:=(Array.getElem?_eq_some_iff.1 (hc 6 _ rfl)).1;omega
theorem aG.lt (h:aG w S g o b):g < w.heap.size:=kK h.ty
/-- A field is written: what the box says with it. -/
theorem aG.put (h:aG w S g o b) (j:Nat) (hj:j < 7) (x:Value) (hq:∀c,iE w c b S->c.length=7->iE (w.setCell ⟨g,o+j,none⟩ x) (c.set j x) b' S'):aG (w.setCell ⟨g,o+j,none⟩ x) S' g o b':=by
 have hf:=h.fit;obtain⟨cur,c,hh,hb,hc⟩:=h;have hsz:=hf cur _ hh;have hl:c.length=7:=by obtain⟨u0,u1,u2,rfl,-⟩:=hb;rfl
 refine⟨_,_,aD hh,hq c hb hl,λk u hk=>?_⟩
 by_cases e:k=j
 ·subst e
  rw[List.getElem?_set_self (by omega)] at hk;cases hk
  rw[Array.getElem?_setIfInBounds_self_of_lt (by omega)]
 ·rw[List.getElem?_set_ne (Ne.symm e)] at hk
  rw[Array.getElem?_setIfInBounds_ne (by omega)];exact hc k u hk
theorem Cc {x:Value} {j:Nat} {u:Value} {l:List Int} (ht:Ty w g 70) (h:RO w Any u l):RO (w.setCell ⟨g,j,none⟩ x) Any u l:=lM h (gJ ht (by decide))
theorem Ce {x:Value} {j:Nat} {u:Value} {l:List aL} (ht:Ty w g 70) (h:jq w S u l):jq (w.setCell ⟨g,j,none⟩ x) S u l:=by
 rcases h with h | ⟨m,cap,cur,cs,fs,hv,hh,r⟩
 ·exact .inl h
 ·have hne:m≠g:=λe=>by subst e;exact dX hh ht (by decide)
  obtain⟨h1,h2,h3,h4,h5,h6,h7⟩:=r;exact .inr ⟨m,cap,cur,cs,fs,hv,(Below.heap_setCell _ _ _ _ (show m≠g from hne)).trans hh,h1,h2,h3,h4,λi y hy=>⟨vB (h5 i y hy).1 (gJ ht (by decide)),(h5 i y hy).2⟩,h6,h7⟩
theorem Cg {x:Value} {j:Nat} {u:Value} {l:List bE} (ht:Ty w g 70) (h:iR w S u l):iR (w.setCell ⟨g,j,none⟩ x) S u l:=xu h (gJ ht (by decide))
theorem aG.UY (h:aG w S g o b) (n:Int) (hn:av n):aG (w.setCell ⟨g,o+2,none⟩ (.int .i64 n)) S g o ⟨b.name,b.valid,n,b.seq,b.ah,b.au,b.lost⟩ :=
 h.put 2 (by omega) _ λc ⟨u0,u1,u2,e,h1,h2,h3,i0,i1,i2,i3⟩ _=>⟨u0,u1,u2,by rw[e];rfl,Cc h.ty h1,Ce h.ty h2,Cg h.ty h3,i0,hn,i2,i3⟩
theorem aG.ET (h:aG w S g o b) (n:Int) (hn:av n):aG (w.setCell ⟨g,o+3,none⟩ (.int .i64 n)) S g o ⟨b.name,b.valid,b.next,n,b.ah,b.au,b.lost⟩ :=
 h.put 3 (by omega) _ λc ⟨u0,u1,u2,e,h1,h2,h3,i0,i1,i2,i3⟩ _=>⟨u0,u1,u2,by rw[e];rfl,Cc h.ty h1,Ce h.ty h2,Cg h.ty h3,i0,i1,hn,i3⟩
theorem aG.UZ (h:aG w S g o b) {u:Value} {ms:List aL} (hm:jq w S' u ms) (hS:∀k,S k->S' k):aG (w.setCell ⟨g,o+4,none⟩ u) S' g o ⟨b.name,b.valid,b.next,b.seq,ms,b.au,b.lost⟩ :=
 h.put 4 (by omega) _ λc ⟨u0,u1,u2,e,h1,h2,h3,r⟩ _=>⟨u0,u,u2,by rw[e];rfl,Cc h.ty h1,Ce h.ty hm,(Cg h.ty h3).mono hS,r⟩
theorem aG.M4 (h:aG w S g o b) {u:Value} {gs:List bE} (hm:iR w S u gs):aG (w.setCell ⟨g,o+5,none⟩ u) S g o ⟨b.name,b.valid,b.next,b.seq,b.ah,gs,b.lost⟩ :=
 h.put 5 (by omega) _ λc ⟨u0,u1,u2,e,h1,h2,h3,r⟩ _=>⟨u0,u1,u,by rw[e];rfl,Cc h.ty h1,Ce h.ty h2,Cg h.ty hm,r⟩
theorem aG.U0 (h:aG w S g o b) (n:Int) (hn:av n):aG (w.setCell ⟨g,o+6,none⟩ (.int .i64 n)) S g o ⟨b.name,b.valid,b.next,b.seq,b.ah,b.au,n⟩ :=
 h.put 6 (by omega) _ λc ⟨u0,u1,u2,e,h1,h2,h3,i0,i1,i2,i3⟩ _=>⟨u0,u1,u2,by rw[e];rfl,Cc h.ty h1,Ce h.ty h2,Cg h.ty h3,i0,i1,i2,hn⟩
theorem aG.mono (h:aG w S g o b) (hS:∀k,S k->S' k):aG w S' g o b :=
 let ⟨cur,c,hh,⟨u0,u1,u2,e,h1,h2,h3,r⟩,hc⟩:=h;⟨cur,c,hh,⟨u0,u1,u2,e,h1,h2.mono hS,h3.mono hS,r⟩,hc⟩
theorem mR {j:Nat} {x:Value} (h:aG w S g o b) (hj:j < 7):Turns w (w.setCell ⟨g,o+j,none⟩ x) S' g o:=ade h.ty (by omega) (by omega)
end
/- A list of ah that is copied and grows by one: as it is read, and as it is then the MW own. -/
/-- GJ as they lay in w. -/
def M5 (w:World) (_:World) (c:List Value) (m:aL):Prop:=tF w c m Any
theorem jq.at {w x:World} {S:Nat->Prop} {v:Value} {l:List aL} (h:jq w S v l) (hb:Below w.heap.size w x):Rd 4 (M5 w) x v l:=by
 rcases h with⟨rfl,rfl⟩ | ⟨g,cap,cur,cs,fs,hv,hh,h1,h2,h3,h4,h5,h6,h7⟩
 ·exact Rd.nil x
 ·refine⟨some ⟨g,0,none⟩,cap,cs,hv,h1,h2,(λh=>by cases h),λi m hm=>⟨(h5 i m hm).1,(h5 i m hm).2.1⟩,λhp=>⟨g,0,rfl,Nat.lt_of_lt_of_le (lt_of_heap hh) hb.size,λi j u hi hu=>?_⟩⟩
  have hh':x.heap[g]?=some (.cells cur _ (0,0)):=(hb.block g (lt_of_heap hh)).trans hh;rw[Nat.zero_add,cell_of_row x g _ cur _ (0,0) hh'];exact(h5 i l[i] (bK hi)).2.2 j u hu
theorem EU {w:World}:∀(x:World) (c:List Value) (m:aL),M5 w x c m->∀y ∈ c,y.oneCell'=true:=by
 rintro x c m ⟨u,rfl,h,-⟩ y hy;obtain⟨a,n,cp,rfl⟩:=h.bs.aP;simp only[List.mem_cons,List.not_mem_nil,or_false] at hy;rcases hy with rfl | rfl | rfl | rfl <;> rfl
theorem U1 {w:World} {B n:Nat} {v:Value} {l:List aL} {xs:List Value} {S:Nat->Prop} (h:w.ownsRow B 77 4 v n xs) (hn:l.length=n)
  (hx:∀i m,l[i]?=some m->∃c,c.length=4/\tF w c m Any/\∀j y,c[j]?=some y->xs[i * 4+j]?=some y) (hS:∀g,v.ownBlock=some g->S g):jq w S v l:=by
 subst hn;rcases h.2 with⟨hn,hl⟩ | ⟨g,cap,cur,hv,hg,hh,h1,h2,h3,h4⟩
 ·exact .inl ⟨hn,List.eq_nil_of_length_eq_zero hl⟩
 ·have hpick:∀i,∃c,i < l.length->∀m,l[i]?=some m->c.length=4/\tF w c m Any/\∀j y,c[j]?=some y->xs[i * 4+j]?=some y:=by
   intro i
   by_cases hi:i < l.length
   ·obtain⟨c,hc⟩:=hx i l[i] (bK hi)
    exact⟨c,λ_ m hm=>by rw[bK hi] at hm;cases hm;exact hc⟩
   ·exact⟨[],λh=>absurd h hi⟩
  obtain⟨cs,hcs⟩:=Classical.axiomOfChoice hpick;refine .inr ⟨g,cap,cur,cs,λ_ _=>False,hv,hh,h1,h2,h3,hS g (by rw[hv];rfl),λi m hm=>?_,by simp,by simp⟩;obtain⟨q1,q2,q3⟩:=hcs i (gs1 hm).1 m hm;refine⟨q2,q1,λj y hy=>?_⟩;have:=q3 j y hy;rw[← h4,List.getElem?_take] at this
  split at this
  ·simpa using this
  ·cases this
section
variable {P : Program} {w : World} {e t : TypeId} {sz bytes B n : Nat} {v : Value} {xs : List Value}
/-- One element more put behind a row of the call's own, in a region that draws. -/
theorem Ch {o:Oper} {a:Act} {K:Act->World->Prop} {Q:Exit->Act->World->Prop} (d:Nat) (hd:o.dst=some d) (s y:Operand)
  (ho:o.op=.call { callee:=.builtin .append,args:=#[s,y],argTypes:=#[t,t] }) (h:w.ownsRow B e sz v n xs) {i:TypeInfo} {z:Value} (ht:P.underlying t=some (.slice e)) (hi:P.info? e=some i) (hz:i.zero=some z) (hsize:i.size=sz) (hby:i.bytes=bytes) (hzs:z.cells.size=sz) (hsz:0 < sz)
  (hs:a.eval s=v) (c:List Value) (hc:c.length=sz) (ad:Addr) (cc:Nat) (hy:a.eval y=.slice (some ad) 1 cc) (hcell:∀j u,c[j]?=some u->w.cell? (ad.add j)=some u) (h1:∀u ∈ c,u.oneCell'=true) (hl:n+1<=maxLen) (hb:(n+1) * bytes<=140737488355328) (hB:B<=w.heap.size)
  (k:∀v' w',w'.ownsRow B e sz v' (n+1) (xs ++ c)->w.grownBy w' v.ownBlock->(v'.ownBlock=v.ownBlock\/v'.ownBlock=some w.heap.size)->K (a.put (some d) v') w'):o.wp P a w K Q:=by
 obtain⟨v',w',hr,h2,h3,h4,h5⟩:=run_append_own_at (P:=P) w B t o.type e i z sz bytes ht hi hz hsize hby hzs hsz v n xs h ad 1 cc c (by omega) hcell h1 hl hb hB;unfold Oper.wp execOp;simp only[ho,resolve,invoke,builtin,Sem.run_bind,Sem.run_pure,Result.andThen_ok,List.map_toArray,List.map_cons,List.map_nil,hs,hy,hr];have:=k v' w' h2 h3 h5;rw[← hd] at this;exact this
end
/- A whole list put behind a row of the call's own; parts of a list. -/
section
variable {α : Type} {P : Program} {w : World} {e t : TypeId} {sz bytes B n : Nat} {RE : World -> List Value -> α -> Prop} {v u : Value} {m : List α} {xs : List Value}
theorem adf (h:w.ownsRow B e sz v n xs) (hu:Rd sz RE w u m) (hone:∀c x,RE w c x->∀y ∈ c,y.oneCell'=true) (ty:TypeId) {i:TypeInfo} {z:Value} (ht:P.underlying t=some (.slice e)) (hi:P.info? e=some i) (hz:i.zero=some z) (hsize:i.size=sz) (hby:i.bytes=bytes) (hzs:z.cells.size=sz) (hsz:0 < sz)
  (hl:n+m.length<=maxLen) (hb:(n+m.length) * bytes<=140737488355328) (hB:B<=w.heap.size) :
  ∃v' w' ys,(Builtin.append_ #[t,t] ty #[v,u]).run P w=.ok v' w'/\w'.ownsRow B e sz v' (n+m.length) (xs ++ ys)/\ys.length=m.length * sz/\(∀i x,m[i]?=some x->∃c,c.length=sz/\RE w c x/\∀j y,c[j]?=some y->ys[i * sz+j]?=some y)/\w.grownBy w' v.ownBlock/\(v'.ownBlock=v.ownBlock\/v'.ownBlock=some w.heap.size):=by
 obtain⟨a,cap,cs,rfl,h1,h2,h3,h4,h5⟩:=hu;cases a with
 | none =>
  have hc:=h3 rfl;have hm:m=[]:=List.eq_nil_of_length_eq_zero (by omega);subst hm;subst hc;exact⟨v,w,[],run_append_owned_none (P:=P) (w:=w) B t ty e i sz ht hi v n xs h,by simpa using h,by simp,by simp,World.grownBy.refl _ _,.inl rfl⟩
 | some ad =>
  have hlen:∀i,i < m.length->(cs i).length=sz:=λi hi=>(h4 i m[i] (bK hi)).2;have hfl:=GU m.length hlen;have hnews:∀k y,((List.range m.length).flatMap cs)[k]?=some y->w.cell? (ad.add k)=some y:=by
   intro k y hk;have hk2:k < m.length * sz:=by have:=(gs1 hk).1;omega
   have hd:k=k / sz * sz+k % sz:=by have:=Nat.div_add_mod k sz;rw[Nat.mul_comm];omega
   have hi1:k / sz < m.length:=Nat.div_lt_of_lt_mul (by rw[Nat.mul_comm];exact hk2);have hj1:k % sz < sz:=Nat.mod_lt _ hsz;have hk3:=hk;rw[hd,Df m.length hlen _ _ hi1 hj1] at hk3;obtain⟨b,off,hab,-,hcell⟩:=h5 (Nat.lt_of_le_of_lt (Nat.zero_le _) hi1);cases hab
   have:=hcell _ _ _ hi1 hk3;rw[Addr.add_lit];rw[Nat.add_assoc,← hd] at this;exact this
  have KY:∀y ∈ (List.range m.length).flatMap cs,y.oneCell'=true:=by
   intro y hy;obtain⟨i,hi',hy⟩:=List.mem_flatMap.1 hy;have hil:i < m.length:=by simpa using hi'
   exact hone _ _ (h4 i m[i] (bK hil)).1 y hy
  obtain⟨v',w',hr,k2,k3,k4,k5⟩:=run_append_own_at (P:=P) w B t ty e i z sz bytes ht hi hz hsize hby hzs hsz v n xs h ad m.length cap ((List.range m.length).flatMap cs) hfl hnews KY hl hb hB;refine⟨v',w',(List.range m.length).flatMap cs,hr,k2,hfl,λi x hx=>?_,k3,k5⟩;have hil:i < m.length:=(gs1 hx).1;refine⟨cs i,hlen i hil,(h4 i x hx).1,λj y hy=>?_⟩;have hj:j < sz:=by have:=(gs1 hy).1;have:=hlen i hil;omega
  rw[Df m.length hlen i j hil hj];exact hy
theorem U3 {o:Oper} {a:Act} {K:Act->World->Prop} {Q:Exit->Act->World->Prop} (d:Nat) (hd:o.dst=some d) (s y:Operand)
  (ho:o.op=.call { callee:=.builtin .append,args:=#[s,y],argTypes:=#[t,t] }) (h:w.ownsRow B e sz v n xs) (hu:Rd sz RE w u m) (hone:∀c x,RE w c x->∀y ∈ c,y.oneCell'=true) {i:TypeInfo} {z:Value} (ht:P.underlying t=some (.slice e)) (hi:P.info? e=some i) (hz:i.zero=some z) (hsize:i.size=sz) (hby:i.bytes=bytes) (hzs:z.cells.size=sz) (hsz:0 < sz)
  (hs:a.eval s=v) (hy:a.eval y=u) (hl:n+m.length<=maxLen) (hb:(n+m.length) * bytes<=140737488355328) (hB:B<=w.heap.size)
  (k:∀v' w' ys,w'.ownsRow B e sz v' (n+m.length) (xs ++ ys)->ys.length=m.length * sz->(∀i x,m[i]?=some x->∃c,c.length=sz/\RE w c x/\∀j y,c[j]?=some y->ys[i * sz+j]?=some y)->w.grownBy w' v.ownBlock->(v'.ownBlock=v.ownBlock\/v'.ownBlock=some w.heap.size)->K (a.put (some d) v') w'):o.wp P a w K Q:=by
 obtain⟨v',w',ys,hr,h2,h3,h4,h5,h6⟩:=adf (P:=P) (t:=t) h hu hone o.type ht hi hz hsize hby hzs hsz hl hb hB;unfold Oper.wp execOp;simp only[ho,resolve,invoke,builtin,Sem.run_bind,Sem.run_pure,Result.andThen_ok,List.map_toArray,List.map_cons,List.map_nil,hs,hy,hr];have:=k v' w' ys h2 h3 h4 h5 h6;rw[← hd] at this;exact this
/-- The first ones, the last ones of a list that is read. -/
theorem Rd.take {ad:Option Addr} {c k:Nat} (h:Rd sz RE w (.slice ad m.length c) m) (hk:k<=m.length):Rd sz RE w (.slice ad k c) (m.take k):=by
 obtain⟨a,cap,cs,hv,h1,h2,h3,h4,h5⟩:=h;cases hv
 have hl:(m.take k).length=k:=by simp;omega
 refine⟨ad,c,cs,by rw[hl],by omega,h2,h3,λi x hx=>h4 i x ?_,λhp=>?_⟩
 ·rw[List.getElem?_take] at hx
  split at hx
  ·exact hx
  ·cases hx
 ·rw[hl] at hp
  obtain⟨b,off,ha,hb,hc⟩:=h5 (by omega);exact⟨b,off,ha,hb,λi j u hi hu=>hc i j u (by omega) hu⟩
theorem Rd.drop {b off c k:Nat} (h:Rd sz RE w (.slice (some ⟨b,off,none⟩) m.length c) m) (hk:k<=m.length):Rd sz RE w (.slice (some ⟨b,off+k * sz,none⟩) (m.length - k) (c - k)) (m.drop k):=by
 obtain⟨a,cap,cs,hv,h1,h2,h3,h4,h5⟩:=h;cases hv
 have hl:(m.drop k).length=m.length - k:=by simp
 refine⟨some ⟨b,off+k * sz,none⟩,c - k,λi=>cs (k+i),by rw[hl],by omega,by omega,(λh=>by cases h),λi x hx=>h4 (k+i) x (by rw[List.getElem?_drop] at hx;exact hx),λhp=>?_⟩;rw[hl] at hp;obtain⟨b',off',ha,hb,hc⟩:=h5 (by omega);cases ha
 refine⟨b,off+k * sz,rfl,hb,λi j u hi hu=>?_⟩;have:=hc (k+i) j u (by omega) hu;rw[Nat.add_mul,← Nat.add_assoc] at this;exact this
end
/- Cells put behind a row of the call's own, as they are. -/
/-- A slice's cells, as they are. -/
def tH (w:World) (u:Value) (m sz:Nat) (news:List Value):Prop :=
 (u=.slice none 0 0/\m=0/\news=[])\/∃g off cap,u=.slice (some ⟨g,off,none⟩) m cap/\news.length=m * sz/\∀j y,news[j]?=some y->w.cell? ⟨g,off+j,none⟩=some y
section
variable {P : Program} {w : World} {e t : TypeId} {sz bytes B n m : Nat} {v u : Value} {xs news : List Value}
theorem U4 (h:w.ownsRow B e sz v n xs) (hu:tH w u m sz news) (hone:∀y ∈ news,y.oneCell'=true) (ty:TypeId) {i:TypeInfo} {z:Value} (ht:P.underlying t=some (.slice e)) (hi:P.info? e=some i) (hz:i.zero=some z) (hsize:i.size=sz) (hby:i.bytes=bytes) (hzs:z.cells.size=sz) (hsz:0 < sz)
  (hl:n+m<=maxLen) (hb:(n+m) * bytes<=140737488355328) (hB:B<=w.heap.size) :
  ∃v' w',(Builtin.append_ #[t,t] ty #[v,u]).run P w=.ok v' w'/\w'.ownsRow B e sz v' (n+m) (xs ++ news)/\w.grownBy w' v.ownBlock/\(v'.ownBlock=v.ownBlock\/v'.ownBlock=some w.heap.size):=by
 rcases hu with⟨rfl,rfl,rfl⟩ | ⟨g,off,cap,rfl,hn,hc⟩
 ·exact⟨v,w,run_append_owned_none (P:=P) (w:=w) B t ty e i sz ht hi v n xs h,by simpa using h,World.grownBy.refl _ _,.inl rfl⟩
 ·obtain⟨v',w',hr,k2,k3,k4,k5⟩:=run_append_own_at (P:=P) w B t ty e i z sz bytes ht hi hz hsize hby hzs hsz v n xs h ⟨g,off,none⟩ m cap news hn (λj y hy=>by rw[Addr.add_lit];exact hc j y hy) hone hl hb hB
  exact⟨v',w',hr,k2,k3,k5⟩
theorem Jw {o:Oper} {a:Act} {K:Act->World->Prop} {Q:Exit->Act->World->Prop} (d:Nat) (hd:o.dst=some d) (s y:Operand)
  (ho:o.op=.call { callee:=.builtin .append,args:=#[s,y],argTypes:=#[t,t] }) (h:w.ownsRow B e sz v n xs) (hu:tH w u m sz news) (hone:∀y ∈ news,y.oneCell'=true) {i:TypeInfo} {z:Value} (ht:P.underlying t=some (.slice e)) (hi:P.info? e=some i) (hz:i.zero=some z) (hsize:i.size=sz) (hby:i.bytes=bytes) (hzs:z.cells.size=sz) (hsz:0 < sz)
  (hs:a.eval s=v) (hy:a.eval y=u) (hl:n+m<=maxLen) (hb:(n+m) * bytes<=140737488355328) (hB:B<=w.heap.size)
  (k:∀v' w',w'.ownsRow B e sz v' (n+m) (xs ++ news)->w.grownBy w' v.ownBlock->(v'.ownBlock=v.ownBlock\/v'.ownBlock=some w.heap.size)->K (a.put (some d) v') w'):o.wp P a w K Q:=by
 obtain⟨v',w',hr,h2,h3,h5⟩:=U4 (P:=P) (t:=t) h hu hone o.type ht hi hz hsize hby hzs hsz hl hb hB;unfold Oper.wp execOp;simp only[ho,resolve,invoke,builtin,Sem.run_bind,Sem.run_pure,Result.andThen_ok,List.map_toArray,List.map_cons,List.map_nil,hs,hy,hr];have:=k v' w' h2 h3 h5;rw[← hd] at this;exact this
theorem M6 {ops:Array Oper} {rest:List Oper} {o:Oper} {a:Act} {Q:Exit->Act->World->Prop} (hgd:o.guard=none) (s y:Operand)
  (ho:o.op=.call { callee:=.builtin .append,args:=#[s,y],argTypes:=#[t,t] }) (h:w.ownsRow B e sz v n xs) (hu:tH w u m sz news) (hone:∀y ∈ news,y.oneCell'=true) {i:TypeInfo} {z:Value} (ht:P.underlying t=some (.slice e)) (hi:P.info? e=some i) (hz:i.zero=some z) (hsize:i.size=sz) (hby:i.bytes=bytes) (hzs:z.cells.size=sz) (hsz:0 < sz)
  (hs:a.eval s=v) (hy:a.eval y=u) (hl:n+m<=maxLen) (hb:(n+m) * bytes<=140737488355328) (hB:B<=w.heap.size)
  (k:∀v' w',w'.ownsRow B e sz v' (n+m) (xs ++ news)->w.grownBy w' v.ownBlock->(v'.ownBlock=v.ownBlock\/v'.ownBlock=some w.heap.size)->wpList P ops Q rest (a.put o.dst v') w'):wpList P ops Q (o :: rest) a w:=by
 refine wpList_plain hgd λK hK=>?_;obtain⟨v',w',hr,h2,h3,h5⟩:=U4 (P:=P) (t:=t) h hu hone o.type ht hi hz hsize hby hzs hsz hl hb hB;unfold Oper.wp execOp;simp only[ho,resolve,invoke,builtin,Sem.run_bind,Sem.run_pure,Result.andThen_ok,List.map_toArray,List.map_cons,List.map_nil,hs,hy,hr];exact hK _ _ (k v' w' h2 h3 h5)
end
/- How many went of a box behind a pointer; the oldest cut off. -/
/-- How many au a box behind a pointer holds. -/
def zu (w:World) (g o:Nat):Nat:=match w.cell? ⟨g,o+5,none⟩ with | some (.slice _ n _)=>n | _=>0
theorem adg {w:World} {S:Nat->Prop} {l:List bE} {b off c:Nat} (h:iR w S (.slice (some ⟨b,off,none⟩) l.length c) l) (hl:1 < l.length):iR w S (.slice (some ⟨b,off+1 * 2,none⟩) (l.length - 1) (c - 1)) (l.drop 1):=by
 refine⟨h.1.drop (by omega),λa n c' e=>?_⟩;obtain⟨hS,cur,hh,-,hs⟩:=h.2 ⟨b,off,none⟩ l.length c rfl;obtain⟨a0,cap,cs,hv,hle,-⟩:=h.1;simp only[Value.slice.injEq,true_and] at hv;obtain⟨-,rfl⟩:=hv;cases e
 exact⟨hS,cur,hh,rfl,by simp only at hs ⊢;omega⟩
end Go.Proofs.YtfabngnaejjcmaaGreatDoor
