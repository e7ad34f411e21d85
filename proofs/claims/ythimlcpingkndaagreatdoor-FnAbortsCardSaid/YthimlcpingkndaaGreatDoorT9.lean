/- The proof's texts, part 9. -/
import Derived.Test.YthimlcpingkndaaGreatDoorT8
namespace Go.Proofs.YthimlcpingkndaaGreatDoor
open Go.RowKit
set_option linter.unusedVariables false
set_option linter.unusedSimpArgs false
/- A region that draws its order: whatever it draws, the objects are as in the list's order. -/
theorem rV (p:Nat->Prop):∀m,(∀q,q < m->¬p q)\/∃q,q < m/\p q/\∀q',q < q'->q' < m->¬p q'
 | 0=>.inl λq h=>absurd h (Nat.not_lt_zero _)
 | m+1=>by
  by_cases h:p m
  ·exact .inr ⟨m,by omega,h,λq' h1 h2=>absurd h2 (by omega)⟩
  ·rcases rV p m with h1 | ⟨q,h1,h2,h3⟩
   ·refine .inl λq hq=>?_
    by_cases e:q=m
    ·subst e;exact h
    ·exact h1 q (by omega)
   ·refine .inr ⟨q,by omega,h2,λq' h4 h5=>?_⟩
    by_cases e:q'=m
    ·subst e;exact h
    ·exact h3 q' h4 (by omega)
/-- One run, operation by operation, with what it looked at and wrote. -/
structure Run (m:Nat) (S:Nat->Ob) (Nn:Nat->Nat) (Rl Wl:Nat->Lg):Prop where
 le:∀k,k < m->Nn k<=Nn (k+1)
 eX:∀k,k < m->∀i o,(Wl k).has i o->i < Nn (k+1)
 old:∀k,k < m->∀i o,i < Nn k->¬(Wl k).has i o->(S (k+1)).get i o=(S k).get i o
 new:∀k,k < m->∀i o,Nn (k+1)<=i->(S (k+1)).get i o=(S k).get i o
def Touch (Nn:Nat->Nat) (Wl:Nat->Lg) (k i o:Nat):Prop:=(Wl k).has i o\/(Nn k<=i/\i < Nn (k+1))
/-- t: what stands where those in L are done. -/
def Ag (m:Nat) (S:Nat->Ob) (Nn:Nat->Nat) (Wl:Nat->Lg) (L:Nat->Bool) (t:Ob):Prop:=∀i o,
 (∀k,k < m->L k=true->Touch Nn Wl k i o->(∀k',k < k'->k' < m->L k'=true->¬Touch Nn Wl k' i o)->t.get i o=(S (k+1)).get i o) /\
 ((∀k,k < m->L k=true->¬Touch Nn Wl k i o)->t.get i o=(S 0).get i o)
section
variable {m : Nat} {S : Nat -> Ob} {Nn : Nat -> Nat} {Rl Wl : Nat -> Lg} {L : Nat -> Bool} {t : Ob}
theorem Run.mono (H:Run m S Nn Rl Wl) {j k:Nat} (hj:j<=k) (hk:k<=m):Nn j<=Nn k:=by
 induction k with
 | zero=>rw[Nat.le_zero.1 hj];exact Nat.le_refl _
 | succ k ih =>
  by_cases e:j=k+1
  ·rw[e];exact Nat.le_refl _
  ·exact Nat.le_trans (ih (by omega) (by omega)) (H.le k (by omega))
theorem Run.same (H:Run m S Nn Rl Wl) {i o j k:Nat} (hj:j<=k) (hk:k<=m) (h:∀q,j<=q->q < k->¬Touch Nn Wl q i o):(S k).get i o=(S j).get i o:=by
 induction k with
 | zero=>rw[Nat.le_zero.1 hj]
 | succ k ih =>
  by_cases e:j=k+1
  ·rw[e]
  ·have hn:=h k (by omega) (by omega)
   have h1:(S (k+1)).get i o=(S k).get i o:=by
    by_cases h2:i < Nn k
    ·exact H.old k (by omega) i o h2 λhw=>hn (.inl hw)
    ·exact H.new k (by omega) i o (Nat.le_of_not_lt λh3=>hn (.inr ⟨by omega,h3⟩))
   rw[h1];exact ih (by omega) (by omega) λq h1 h2=>h q h1 (by omega)
/-- Two that neither waits for the other. -/
def nD (Nn:Nat->Nat) (Rl Wl:Nat->Lg) (a b:Nat):Prop:=((Wl a).apart (Rl b)=true/\(Wl a).apart (Wl b)=true)/\(Wl b).apart (Rl a)=true/\(Nn a=Nn (a+1)\/((Rl b).outs (Nn a) (Nn (a+1))=true/\(Wl b).outs (Nn a) (Nn (a+1))=true))
theorem Ag.look (H:Run m S Nn Rl Wl) {k:Nat} (hk:k < m) (hL:L k=false) (hA:Ag m S Nn Wl L t) (hup:∀q,k < q->q < m->L q=true->nD Nn Rl Wl k q) (hdn:∀q,q < k->L q=false->nD Nn Rl Wl q k) :
  (∀i o,Nn k<=i->i < Nn (k+1)->t.get i o=(S k).get i o)/\∀i o,(Rl k).has i o->i < Nn k->t.get i o=(S k).get i o:=by
 have fin:∀i o,(∀q,k < q->q < m->L q=true->¬Touch Nn Wl q i o)->(∀q,q < k->L q=false->¬Touch Nn Wl q i o)->t.get i o=(S k).get i o:=by
  intro i o h1 h2;rcases rV (λq=>L q=true/\Touch Nn Wl q i o) m with h3 | ⟨q,h3,⟨h4,h5⟩,h6⟩
  ·rw[(hA i o).2 λq hq hl ht=>h3 q hq ⟨hl,ht⟩]
   refine(H.same (Nat.zero_le _) (by omega) λq _ hq ht=>?_).symm;cases hl:L q with
   | true=>exact h3 q (by omega) ⟨hl,ht⟩
   | false=>exact h2 q hq hl ht
  ·have hqk:q < k:=by
    rcases Nat.lt_trichotomy q k with h | h | h
    ·exact h
    ·subst h;rw[hL] at h4;cases h4
    ·exact absurd h5 (h1 q h h3 h4)
   rw[(hA i o).1 q h3 h4 h5 λq' a b c d=>h6 q' a b ⟨c,d⟩];refine(H.same (by omega) (by omega) λq' ha hb ht=>?_).symm;cases hl:L q' with
   | true=>exact h6 q' (by omega) (by omega) ⟨hl,ht⟩
   | false=>exact h2 q' hb hl ht
 refine⟨λi o h1 h2=>fin i o (λq hq hm hl ht=>?_) (λq hq hl ht=>?_),λi o hr hi=>fin i o (λq hq hm hl ht=>?_) (λq hq hl ht=>?_)⟩
 ·obtain⟨-,-,f3⟩:=hup q hq hm hl
  have:=H.mono (j:=k+1) (k:=q) (by omega) (by omega);rcases ht with ht | ht
  ·rcases f3 with f3 | f3
   ·omega
   ·exact Lg.nC f3.2 ht ⟨h1,h2⟩
  ·omega
 ·have:=H.mono (j:=q+1) (k:=k) (by omega) (by omega)
  rcases ht with ht | ht
  ·have:=H.eX q (by omega) i o ht;omega
  ·omega
 ·obtain⟨-,f2,-⟩:=hup q hq hm hl
  have:=H.mono (j:=k) (k:=q) (by omega) (by omega);rcases ht with ht | ht
  ·exact Lg.nA f2 ht hr
  ·omega
 ·obtain⟨f1,-,f3⟩:=hdn q hq hl
  rcases ht with ht | ht
  ·exact Lg.nA f1.1 ht hr
  ·rcases f3 with f3 | f3
   ·omega
   ·exact Lg.nC f3.1 hr ht
theorem Ag.step (H:Run m S Nn Rl Wl) {k:Nat} (hk:k < m) (hL:L k=false) (hA:Ag m S Nn Wl L t) (hup:∀q,k < q->q < m->L q=true->nD Nn Rl Wl k q) {t':Ob}
  (h1:∀i o,Nn k<=i->i < Nn (k+1)->t'.get i o=(S (k+1)).get i o) (h2:∀i o,(Wl k).has i o->t'.get i o=(S (k+1)).get i o) (h3:∀i o,(i < Nn k\/Nn (k+1)<=i)->¬(Wl k).has i o->t'.get i o=t.get i o):Ag m S Nn Wl (iq L k) t':=by
 have stay:∀i o,¬Touch Nn Wl k i o->t'.get i o=t.get i o:=λi o hn=>by
  refine h3 i o ?_ λhw=>hn (.inl hw);rcases Nat.lt_or_ge i (Nn k) with h | h
  ·exact .inl h
  ·exact .inr (Nat.le_of_not_lt λh'=>hn (.inr ⟨h,h'⟩))
 have here:∀i o,Touch Nn Wl k i o->t'.get i o=(S (k+1)).get i o:=λi o ht=>ht.elim (h2 i o) λh=>h1 i o h.1 h.2;intro i o;refine⟨λq hq hl ht hlast=>?_,λhno=>?_⟩
 ·by_cases e:q=k
  ·subst e;exact here i o ht
  ·rw[eT e] at hl
   have hnk:¬Touch Nn Wl k i o:=by
    rcases Nat.lt_or_ge k q with hkq | hkq
    ·intro hkt
     obtain⟨f1,f2,f3⟩:=hup q hkq hq hl;have:=H.mono (j:=k+1) (k:=q) (by omega) (by omega);rcases hkt with a | a <;> rcases ht with b | b
     ·exact Lg.nA f1.2 a b
     ·have:=H.eX k hk i o a;omega
     ·rcases f3 with f3 | f3
      ·omega
      ·exact Lg.nC f3.2 b a
     ·omega
    ·exact hlast k (by omega) hk fF
   rw[stay i o hnk];exact(hA i o).1 q hq hl ht λq' a b c d=>hlast q' a b (by
          by_cases e':q'=k
          ·subst e';exact fF
          ·rw[eT e'];exact c) d
 ·rw[stay i o (hno k hk fF)]
  exact(hA i o).2 λq hq hl=>hno q hq (by
        by_cases e':q=k
        ·subst e';exact fF
        ·rw[eT e'];exact hl)
theorem Ag.all (H:Run m S Nn Rl Wl) (hA:Ag m S Nn Wl (λ_=>true) t) (i o:Nat):t.get i o=(S m).get i o:=by
 rcases rV (λq=>Touch Nn Wl q i o) m with h3 | ⟨q,h3,h5,h6⟩
 ·rw[(hA i o).2 λq hq _=>h3 q hq]
  exact(H.same (Nat.zero_le _) (Nat.le_refl _) λq _ hq=>h3 q hq).symm
 ·rw[(hA i o).1 q h3 rfl h5 λq' a b _=>h6 q' a b]
  exact(H.same (by omega) (Nat.le_refl _) λq' a b=>h6 q' (by omega) b).symm
end
section
variable {P : Program} {w0 : World}
theorem Rel.congr {φ:Ph} {s t:Ob} {w:World} (h:Rel P w0 φ s w) (ht:∀i o,t.get i o=s.get i o):Rel P w0 φ t w:=by
 refine⟨h.base,λi t' e k op hi=>?_,λi es c hi=>h.map i es c (ht i 0 ▸ hi),λi m a l k hi=>h.it i m a l k (ht i 0 ▸ hi),λi k hi=>h.sp i k (ht i 0 ▸ hi),λi v hv=>h.head i v (ht i 0 ▸ hv),λi p hp=>h.dom i p (ht i p ▸ hp),λi j b x y h1 h2=>h.inj i j b x y (ht i 0 ▸ h1) (ht j 0 ▸ h2)⟩;obtain⟨b,x,C,fz,R⟩:=h.row i t' e k op (ht i 0 ▸ hi);exact⟨b,x,C,fz,R.mP (Ph.le_refl _) rfl λp=>ht i p⟩
theorem Rel.drew {φ:Ph} {s:Ob} {w:World} (h:Rel P w0 φ s w):Rel P w0 φ s w.drew :=
 ⟨h.base.drew,λi t e k op hi=>let ⟨b,x,C,fz,R⟩:=h.row i t e k op hi;⟨b,x,C,fz,R.mP (Ph.le_refl _) rfl λ_=>rfl⟩,h.map,h.it,h.sp,h.head,h.dom,h.inj⟩
/-- The slots. -/
theorem wF (a:Act) (d t:Nat) (x:Value):(dJ a d x).tmps[t]?=if t=d/\t < a.tmps.size then some x else a.tmps[t]?:=by
 unfold dJ;simp only[List.getElem?_toArray];rw[List.getElem?_set]
 by_cases h:d=t
 ·subst h
  by_cases h2:d < a.tmps.size
  ·simp[h2]
  ·simp[h2,Array.getElem?_eq_none (Nat.le_of_not_lt h2)]
 ·simp[h,show ¬t=d from λe=>h e.symm]
theorem wG (a:Act) (d:Nat) (x:Value):(dJ a d x).tmps.size=a.tmps.size:=by simp[dJ]
theorem kR {L:Nat->Bool} {V:Nat->Value}:∀(ds:List (Option Nat)) (k:Nat) (a:Act),(bK ds k L V a).tmps.size=a.tmps.size/\(bK ds k L V a).defers=a.defers/\∀t:Nat,(∀j:Nat,ds[j]?≠some (some t))->(bK ds k L V a).tmps[t]?=a.tmps[t]?
 | [],k,a=>⟨rfl,rfl,λ_ _=>rfl⟩
 | none :: ds,k,a=>by
  obtain⟨h1,h2,h3⟩:=kR (L:=L) (V:=V) ds (k+1) a;exact⟨h1,h2,λt ht=>h3 t λj hj=>ht (j+1) (by simpa using hj)⟩
 | some d :: ds,k,a=>by
  obtain⟨h1,h2,h3⟩:=kR (L:=L) (V:=V) ds (k+1) (dJ a d (cond (L k) (V k) (dR a d)));refine⟨h1.trans (wG _ _ _),h2,λt ht=>?_⟩;show(bK ds (k+1) L V _).tmps[t]?=_;rw[h3 t λj hj=>ht (j+1) (by simpa using hj),wF,if_neg λh=>ht 0 (by simp[h.1])]
theorem rW {L:Nat->Bool} {V:Nat->Value}:∀(ds:List (Option Nat)) (k:Nat) (a:Act) (j d:Nat),ds[j]?=some (some d)->fH (ds.filterMap id)=true->d < a.tmps.size->(bK ds k L V a).tmps[d]?=some (cond (L (k+j)) (V (k+j)) (dR a d))
 | [],k,a,j,d,h,_,_=>by simp at h
 | none :: ds,k,a,0,d,h,_,_=>by simp at h
 | none :: ds,k,a,j+1,d,h,hd,hs=>by
  unfold bK;rw[rW ds (k+1) a j d (by simpa using h) (by simpa using hd) hs,show k+1+j=k+(j+1) by omega]
 | some d0 :: ds,k,a,j,d,h,hd,hs=>by
  simp only[List.filterMap_cons,id,fH,Bool.and_eq_true,Bool.not_eq_true',List.contains_eq_mem,decide_eq_false_iff_not] at hd;cases j with
  | zero =>
   simp only[List.getElem?_cons_zero,Option.some.injEq] at h;subst h;unfold bK;rw[(kR ds (k+1) _).2.2 d0 λj hj=>hd.1 (List.mem_filterMap.2 ⟨some d0,List.mem_of_getElem? hj,rfl⟩),wF,if_pos ⟨rfl,hs⟩];rfl
  | succ j =>
   have h':ds[j]?=some (some d):=by simpa using h
   have hne:d≠d0:=λe=>hd.1 (List.mem_filterMap.2 ⟨some d,List.mem_of_getElem? h',by simp[e]⟩);unfold bK;rw[rW ds (k+1) _ j d h' hd.2 (by rw[wG];exact hs),show k+1+j=k+(j+1) by omega]
   congr 2
   rw[← kU,sO a (λe=>hne e.symm)]
theorem Ai {a:Act} {d:Nat} (h:d < a.tmps.size):a.tmps[d]?=some (dR a d):=by
 unfold dR;rw[List.headD_eq_head?_getD,List.head?_drop,nM (by simpa using h)];simp[h]
end
/- The machine's region, whatever order it draws. -/
section
variable {P : Program} {w0 : World}
theorem rX:∀ {l:List (Option Nat)} {i d:Nat},(l.filterMap id)[i]?=some d->∃j:Nat,l[j]?=some (some d)
 | [],i,d,h=>by simp at h
 | none :: l,i,d,h=>by obtain⟨j,hj⟩:=rX (l:=l) (by simpa using h);exact⟨j+1,by simpa using hj⟩
 | some d0 :: l,0,d,h=>⟨0,by simpa using h⟩
 | some d0 :: l,i+1,d,h=>by obtain⟨j,hj⟩:=rX (l:=l) (by simpa using h);exact⟨j+1,by simpa using hj⟩
theorem rY:∀ {l:List (Option Nat)},(∀(i j d:Nat),l[i]?=some (some d)->l[j]?=some (some d)->i=j)->fH (l.filterMap id)=true
 | [],_=>rfl
 | none :: l,h=>by
  simp only[List.filterMap_cons,id];exact rY λi j d hi hj=>by have:=h (i+1) (j+1) d (by simpa using hi) (by simpa using hj);omega
 | some d0 :: l,h=>by
  simp only[List.filterMap_cons,id,fH,Bool.and_eq_true,Bool.not_eq_true',List.contains_eq_mem,decide_eq_false_iff_not];refine⟨λhm=>?_,rY λi j d hi hj=>by have:=h (i+1) (j+1) d (by simpa using hi) (by simpa using hj);omega⟩;obtain⟨i,hi⟩:=List.getElem?_of_mem hm;obtain⟨j,hj⟩:=rX hi;have:=h 0 (j+1) d0 rfl (by simpa using hj);omega
/-- What the guard says, from the one slot that it looks at. -/
theorem Aj {φ:Ph} {s s':Ob} {n n':Nat} {r l1:Lg} {N:Nat} {ops:Array Oper} {E:Env} {a:Act} {o:Oper} {b:Bool} (h:∀j q d u,o.guard=some (j,q)->(ops[j]?).bind (·.dst)=some d->d < N->T.get E d=some u->∃V,u.den φ=some V/\a.tmps[d]?=some V) (e:gL N ops.toList E o s n=.ok b s' n' r l1):s'=s/\n'=n/\Region.wanted o (yielded ops a.tmps)=b:=by
 unfold gL at e;unfold Region.wanted;cases hg:o.guard with
 | none=>rw[hg] at e;obtain⟨rfl,rfl,rfl⟩:=aj (show(pure true:M _) _ _=_ from e);exact⟨rfl,rfl,rfl⟩
 | some jb =>
  obtain⟨j,bb⟩:=jb;rw[hg] at e;obtain⟨d,s1,n1,r1,m1,r2,m2,e1,e2,rfl,rfl⟩:=ah (show(M.opt 113 (((ops.toList.drop j).head?).bind (·.dst)) >>= _) _ _=_ from e);obtain⟨hd,rfl,rfl⟩:=aF e1;obtain⟨hb,e3⟩:=bC e2;have hdd:(ops[j]?).bind (·.dst)=some d:=by rw[← hd];simp
  cases hv:T.get E d with
  | none=>rw[hv] at e3;cases e3
  | some u =>
   obtain⟨U,h1,h2⟩:=h j bb d u hg hdd (dQ hb) hv;rw[hv] at e3;dsimp only;cases u with
   | sc x =>
    cases x with
    | bool c =>
     obtain⟨rfl,rfl,rfl⟩:=aj (show(pure _:M _) _ _=_ from e3);cases bF h1
     refine⟨rfl,rfl,?_⟩;simp only[yielded,hdd,Option.bind_some,h2];cases c <;> cases bb <;> rfl
    | _=>cases e3
   | bG l =>
    cases l with
    | nil =>
     obtain⟨rfl,rfl,rfl⟩:=aj (show(pure _:M _) _ _=_ from e3);simp only[AV.den,ak] at h1;cases h1;refine⟨rfl,rfl,?_⟩;simp only[yielded,hdd,Option.bind_some,h2];cases bb <;> rfl
    | cons _ _=>cases e3
   | _=>cases e3
theorem Ak {E:Env} {d t:Nat} {u v:AV} (h:T.get (E.set (some d) u) t=some v) (ht:t=d):v=u/\u≠.bad:=by
 rw[kQ,if_pos ht] at h;cases u <;> cases h <;> exact⟨rfl,by simp⟩
theorem Al {call:Nat->List AV->M AV} (hfc:∀f a,Fr (call f a)) (hc:gu P w0 call) (hmx:P.follows .mixedOrders=true) {N rid:Nat} {ops:Array Oper} {dt cl:T Nat} {Q:Exit->Act->World->Prop} {E E':Env} {a:Act} {φ:Ph} {s s':Ob} {w:World} {n n':Nat} {r l1:Lg}
  (hdt:iF N ops.toList 0 .e=some dt) (hcl:kr ops.toList 0 .e=some cl) (e:mG P call N ops.toList dt cl ops.toList 0 [] E s n=.ok E' s' n' r l1) (h:Rel P w0 φ s w) (hE:bV φ N E a) (hf:Free φ n n')
  (hQ:∀ψ a' w',Rel P w0 ψ s' w'->Ext φ ψ n n'->φ.le ψ->bV ψ N E' a'->Q .normal a' w'):Code.wp P (.region rid ops true) Q a w:=by
 obtain⟨S,Nn,Rl,Wl,Vv,En,⟨a1,a2,a3⟩,⟨b1,b2,b3⟩,htr⟩:=wC ops.toList 0 [] E E' s s' n n' r l1 rfl e;simp only[Nat.zero_add,Array.length_toList] at b1 b2 b3 htr;generalize hm:ops.size=m at b1 b2 b3 htr;obtain⟨-,rZ⟩:=wE ops.toList 0 .e cl hcl (λj q hq=>by rw[T.iG] at hq;cases hq);simp only[Nat.zero_add] at rZ;obtain⟨-,hds,hdt'⟩:=rU ops.toList 0 .e dt hdt;simp only[Nat.zero_add] at hds hdt';have nE:∀(d i:Nat),T.get dt d=some i->∃o:Oper,ops.toList[i]?=some o/\o.dst=some d:=λd i hi=>by
  rcases hdt' d i hi with h1 | ⟨j,o,rfl,h2,h3⟩
  ·rw[T.iG] at h1;cases h1
  ·exact⟨o,h2,h3⟩
 have tr:∀k,k < m->∃o q,Tr P call N ops.toList dt cl S Nn Rl Wl Vv En k o q/\∀i,i < k->Apart q (Rl k) (Wl k) ⟨i,Nn i,Nn (i+1),Rl i,Wl i⟩:=λk hk=>by
  obtain⟨o,q,h1,-,h3⟩:=htr k (Nat.zero_le _) hk;exact⟨o,q,h1,λi hi=>h3 i (Nat.zero_le _) hi⟩
 have fr:∀k,k < m->∃v,uH v (S k) (Nn k) (Vv k) (S (k+1)) (Nn (k+1)) (Rl k) (Wl k):=λk hk=>by
  obtain⟨o,q,h1,-⟩:=tr k hk;exact⟨_,mU P hfc (qW N dt cl k q (En k)) (qY _ _ _ _ _) o _ _ _ _ _ _ _ h1.run⟩
 have H:Run m S Nn Rl Wl:=⟨λk hk=>(fr k hk).elim λ_ f=>f.le,λk hk=>(fr k hk).elim λ_ f=>f.eX,λk hk=>(fr k hk).elim λ_ f=>f.old,λk hk=>(fr k hk).elim λ_ f=>f.new⟩;have hN0:Nn 0<=Nn m:=H.mono (Nat.zero_le _) (Nat.le_refl _);have wH:∀(i:Nat) (o:Oper) (d:Nat),ops.toList[i]?=some o->o.dst=some d->d < N:=λi o d h1 h2=>(hds i o d h1 h2).2;have diff:fH ((ops.toList.map (·.dst)).filterMap id)=true:=rY λi j d hi hj=>by
  simp only[List.getElem?_map,Option.map_eq_some_iff] at hi hj;obtain⟨o,h1,h2⟩:=hi;obtain⟨o',h3,h4⟩:=hj;have:=(hds i o d h1 h2).1;rw[(hds j o' d h3 h4).1] at this;exact(Option.some.inj this).symm
 have hT:qh ops (ops.toList.map (·.dst)) (ops.toList.map dh):=⟨by
  simp only[nO,Bool.and_eq_true,beq_self_eq_true,true_and,diff,List.length_map,List.all_eq_true,List.mem_range];intro i hi;obtain⟨o,ho⟩:∃o,ops[i]?=some o:=⟨_,Array.getElem?_eq_getElem hi⟩;have ho':ops.toList[i]?=some o:=by simpa using ho
  obtain⟨q,-,h2,-⟩:=rZ i o ho';simp only[ho,List.getElem?_map,ho',Option.map_some,Bool.and_eq_true,List.all_eq_true,Nat.blt_eq,List.contains_iff_mem];exact⟨λj hj=>h2 j hj,λj hj=>hj⟩⟩
 -- the slots in the list's order
 have sj:∀k,k<=m->∀t,T.get dt t=none->T.get (En k) t=T.get E t:=by
  intro k
  induction k with
  | zero=>intro _ t _;rw[a3]
  | succ k ih =>
   intro hk t ht;obtain⟨o,q,h1,-⟩:=tr k (by omega);rw[h1.env];cases hd:o.dst with
   | none=>exact ih (by omega) t ht
   | some d =>
    rw[kQ,if_neg (λe=>by subst e;rw[(hds k o t h1.op hd).1] at ht;cases ht)];exact ih (by omega) t ht
 have su:∀k,k<=m->∀t i,T.get dt t=some i->(k<=i->T.get (En k) t=T.get E t)/\(i < k->∀v,T.get (En k) t=some v->v=Vv i/\Vv i≠.bad):=by
  intro k
  induction k with
  | zero=>intro _ t i _;exact⟨λ_=>by rw[a3],λh=>absurd h (Nat.not_lt_zero _)⟩
  | succ k ih =>
   intro hk t i hi;obtain⟨o,q,h1,-⟩:=tr k (by omega);obtain⟨h2,h3⟩:=ih (by omega) t i hi;rw[h1.env];cases hd:o.dst with
   | none =>
    refine⟨λh4=>h2 (by omega),λh4=>?_⟩
    by_cases e:i=k
    ·subst e
     obtain⟨o',h5,h6⟩:=nE t i hi;rw[h1.op] at h5;cases h5;rw[hd] at h6;cases h6
    ·exact h3 (by omega)
   | some d =>
    have hdk:=(hds k o d h1.op hd).1
    by_cases e:t=d
    ·subst e
     rw[hi] at hdk;cases hdk;refine⟨λh4=>absurd h4 (by omega),λ_ v hv=>?_⟩;exact Ak hv rfl
    ·refine⟨λh4=>?_,λh4 v hv=>?_⟩
     ·rw[kQ,if_neg e];exact h2 (by omega)
     ·rw[kQ,if_neg e] at hv
      by_cases e2:i=k
      ·subst e2
       obtain⟨o',h5,h6⟩:=nE t i hi;rw[h1.op] at h5;cases h5;rw[hd] at h6;cases h6;exact absurd rfl e
      ·exact h3 (by omega) v hv
 -- what is known where those in L are done
 let A:(Nat->Bool)->(Nat->Value)->Act:=λL V=>bK (ops.toList.map (·.dst)) 0 L V a
 let F:(Nat->Bool)->(Nat->Value)->World->Prop:=λL V w'=>∃ψ t,Rel P w0 ψ t w'/\φ.le ψ/\(∀i,(∀k,k < m->L k=true->¬(Nn k<=i/\i < Nn (k+1)))->ψ i=φ i)/\Ag m S Nn Wl L t/\∀k,k < m->L k=true->Vv k=.bad\/(Vv k).den ψ=some (V k)
 have wI:∀L V t,T.get dt t=none->(A L V).tmps[t]?=a.tmps[t]?:=λL V t ht=>(kR (L:=L) (V:=V) _ 0 a).2.2 t λj hj=>by
  simp only[List.getElem?_map,Option.map_eq_some_iff] at hj;obtain⟨o,h1,h2⟩:=hj;rw[(hds j o t h1 h2).1] at ht;cases ht
 have wJ:∀L V t i,T.get dt t=some i->(A L V).tmps[t]?=some (cond (L i) (V i) (dR a t))/\a.tmps[t]?=some (dR a t)/\i < m:=λL V t i hi=>by
  obtain⟨o,h1,h2⟩:=nE t i hi;have hlt:t < a.tmps.size:=by rw[hE.size];exact wH i o t h1 h2
  have hi2:=(gs1 h1).1;refine⟨?_,Ai hlt,by rw[← hm];simpa using hi2⟩;have:=rW (L:=L) (V:=V) (ops.toList.map (·.dst)) 0 a i t (by simp[h1,h2]) diff hlt
  rwa [Nat.zero_add] at this
 have sw:∀ {ψ:Ph},φ.le ψ->∀t v,t < N->T.get E t=some v->∃V,v.den ψ=some V/\a.tmps[t]?=some V:=λhl t v ht hv=>by
  obtain⟨V,h1,h2⟩:=hE.val t v ht hv;exact⟨V,AV.fO hl v h1,h2⟩
 have nG:∀L,kV (ops.toList.map dh) L->∀(i:Nat) (o:Oper) (q x:Nat),ops.toList[i]?=some o->T.get cl i=some q->bX q x=true->fG L (dh o)->L x=true/\x < i:=λL hC=>Ah rZ hC;refine xq (F:=F) (A:=A) hT hmx ?_ ?_ ?_ (λ_ _=>rfl)
 ·-- the steps
  have steps:∀(r:List (List Nat)) (k:Nat),(ops.toList.map dh).drop k=r->kW P ops Q F A (ops.toList.map dh) k r:=by
   intro r
   induction r with
   | nil=>intro k _;trivial
   | cons wi r ih =>
    intro k hk;refine⟨?_,ih (k+1) (by rw[← List.drop_drop,hk];rfl)⟩;intro L V w' hF hL kX hC o ho K hK;have ho':ops.toList[k]?=some o:=by simpa using ho
    have hkm:k < m:=by rw[← hm];exact(Array.getElem?_eq_some_iff.1 ho).1
    have hwi:wi=dh o:=by
     have:(ops.toList.map dh)[k]?=some wi:=by rw[← List.head?_drop,hk];rfl
     rw[List.getElem?_map,ho'] at this;exact(Option.some.inj this).symm
    subst hwi;obtain⟨ψ,t,q1,q2,q3,q4,q5⟩:=hF;obtain⟨o2,q,T1,T2⟩:=tr k hkm;have:=T1.op;rw[ho'] at this;cases this;have hup:∀j,k < j->j < m->L j=true->nD Nn Rl Wl k j:=λj h1 h2 h3=>by
     obtain⟨oj,qj,J1,J2⟩:=tr j h2;rcases J2 k h1 with h4 | h4
     ·have Am:fG L (dh oj):=hC j _ (by rw[List.getElem?_map,J1.op];rfl) h3
      have:=(nG L hC j oj qj k J1.op J1.wt h4 Am).1;rw[hL] at this;cases this
     ·exact h4
    have hdn:∀j,j < k->L j=false->nD Nn Rl Wl j k:=λj h1 h3=>by
     rcases T2 j h1 with h4 | h4
     ·have:=(nG L hC k o q j ho' T1.wt h4 kX).1
      rw[h3] at this;cases this
     ·exact h4
    obtain⟨Ao,Ap⟩:=q4.look H hkm hL hup hdn;have F1:=mU P hfc (qW N dt cl k q (En k)) (qY N ops.toList q (En k) o) o _ _ _ _ _ _ _ T1.run;obtain⟨t',z1,z2,z3,z4⟩:=F1.run t Ao Ap
    -- the slots that it may look at
    have look:∀x u,x < N->(∀i,T.get dt x=some i->bX q i=true\/∃qi,T.get cl i=some qi/\bX qi k=true)->T.get (En k) x=some u->∃U,u.den ψ=some U/\(A L V).tmps[x]?=some U:=by
     intro x u hx hi hu;cases hd:T.get dt x with
     | none =>
      rw[wI L V x hd];rw[sj k (by omega) x hd] at hu;exact sw q2 x u hx hu
     | some i =>
      obtain⟨s1,s2,s3⟩:=wJ L V x i hd;rcases hi i hd with h4 | ⟨qi,h4,h5⟩
      ·obtain⟨fu,hik⟩:=nG L hC k o q i ho' T1.wt h4 kX
       obtain⟨rfl,hnb⟩:=(su k (by omega) x i hd).2 hik u hu;rw[s1,fu];exact⟨V i,(q5 i (by omega) fu).resolve_left hnb,rfl⟩
      ·obtain⟨oi,hoi,-⟩:=nE x i hd
       have hki:k < i/\L i=false:=by
        cases fu:L i with
        | true =>
         have:=(nG L hC i oi qi k hoi h4 h5 (hC i _ (by rw[List.getElem?_map,hoi];rfl) fu)).1;rw[hL] at this;cases this
        | false =>
         -- k lies ahead of i
         have:k < i:=by
          have Aq:kV (ops.toList.map dh) (λ_=>true):=λ_ wi _ _=>iw.2 λ_ _=>rfl;exact(nG (λ_=>true) Aq i oi qi k hoi h4 h5 (iw.2 λ_ _=>rfl)).2
         exact⟨this,rfl⟩
       rw[(su k (by omega) x i hd).1 (by omega)] at hu;obtain⟨U,u1,u2⟩:=sw q2 x u hx hu;rw[s2] at u2;cases u2;rw[s1,hki.2];exact⟨_,u1,rfl⟩
    have hρ:gq ψ (ku N dt cl k q (En k)) (A L V).eval:=by
     intro x u s1 n1 s2 n2 r2 l2 e1;have fin:∀y,(∀i,T.get dt y=some i->bX q i=true\/∃qi,T.get cl i=some qi/\bX qi k=true)->env N (En k) (.tmp y) s1 n1=.ok u s2 n2 r2 l2->s2=s1/\n2=n1/\u.den ψ=some ((A L V).eval (.tmp y)):=λy hy e2=>by
      obtain⟨hb,e3⟩:=bC e2;obtain⟨h1,h2,h3⟩:=aF e3;obtain⟨U,k1,k2⟩:=look y u (dQ hb) hy h1;exact⟨h2,h3,by simp[Act.eval,Array.getD_eq_getD_getElem?,k2,k1]⟩
     cases x with
     | tmp y =>
      unfold ku at e1;dsimp only at e1;cases hd:T.get dt y with
      | none=>rw[hd] at e1;exact fin y (λi hi=>by rw[hd] at hi;cases hi) e1
      | some i =>
       rw[hd] at e1;obtain⟨hb,e2⟩:=bC (show cond _ _ (M.no 131) _ _=_ from e1);refine fin y (λi' hi'=>?_) e2;rw[hd] at hi';cases hi';simp only[Bool.or_eq_true] at hb;rcases hb with hb | hb
       ·exact .inl hb
       ·cases hq:T.get cl i with
        | none=>rw[hq] at hb;cases hb
        | some qi=>rw[hq] at hb;exact .inr ⟨qi,rfl,hb⟩
     | const c =>
      obtain⟨h1,h2,h3⟩:=aF (show M.opt 111 (iA c) _ _=_ from e1);exact⟨h2,h3,kK h1⟩
     | global g=>cases e1
     | func f=>obtain⟨rfl,rfl,rfl⟩:=aj (show(pure _:M _) _ _=_ from e1);exact⟨rfl,rfl,rfl⟩
    have hg:∀b s1 n1 r1 m1,kC N ops.toList q (En k) o t (Nn k)=.ok b s1 n1 r1 m1->s1=t/\n1=Nn k/\Region.wanted o (yielded ops (A L V).tmps)=b:=by
     intro b s1 n1 r1 m1 e1;unfold kC at e1;cases hgd:o.guard with
     | none =>
      rw[hgd] at e1;obtain⟨rfl,rfl,rfl⟩:=aj (show(pure true:M _) _ _=_ from e1);exact⟨rfl,rfl,by unfold Region.wanted;rw[hgd]⟩
     | some jb =>
      obtain⟨j,bb⟩:=jb;rw[hgd] at e1;obtain⟨hb,e2⟩:=bC (show cond (bX q j) _ (M.no 132) _ _=_ from e1);refine Aj (φ:=ψ) (λj' q' d u h1 h2 h3 h4=>?_) e2;rw[hgd] at h1;cases h1;refine look d u h3 (λi hi=>.inl ?_) h4;cases hoj:ops[j]? with
      | none=>rw[hoj] at h2;cases h2
      | some oj =>
       rw[hoj] at h2;have:=(hds j oj d (by simpa using hoj) h2).1;rw[hi] at this;cases this;exact hb
    have hfree:Free ψ (Nn k) (Nn (k+1)):=λi h1 h2=>by
     have e1:ψ i=φ i:=q3 i λj hj eU hr=>by
      have hne:j≠k:=λe=>by subst e;rw[hL] at eU;cases eU
      rcases Nat.lt_or_ge j k with hjk | hjk
      ·have:=H.mono (j:=j+1) (k:=k) (by omega) (by omega);omega
      ·have:=H.mono (j:=k+1) (k:=j) (by omega) (by omega);omega
     rw[e1];have l1:=H.mono (j:=0) (k:=k) (by omega) (by omega);have l2:=H.mono (j:=k+1) (k:=m) (by omega) (Nat.le_refl _);exact hf i (by omega) (by omega)
    refine wu (Q:=Q) (K:=K) (ops:=ops) hc q1 hρ hg z1 hfree λχ V' w'' p1 p2 p3 p4=>hK.out V' w'' ⟨χ,t',p1,Ph.le_trans q2 p3,λi hi=>?_,q4.step H hkm hL hup z2 z3 z4,λj hj eU=>?_⟩
    ·have hk':=hi k hkm fF
     rw[p2.out i (by omega)];exact q3 i λj hj eU=>hi j hj (by
      by_cases e:j=k
      ·subst e;exact fF
      ·rw[eT e];exact eU)
    ·by_cases e:j=k
     ·subst e;rw[sN];exact p4
     ·rw[eT e] at eU
      rw[nN e];exact(q5 j hj eU).imp id (AV.fO p3 _)
  exact steps _ 0 rfl
 ·intro V
  refine⟨φ,s,h.drew,Ph.le_refl _,λ_ _=>rfl,λi o=>⟨λk hk hL=>?_,λ_=>by rw[a1]⟩,λk hk hL=>?_⟩
  ·have:=Nat.le_of_ble_eq_true hL;simp at this;omega
  ·have:=Nat.le_of_ble_eq_true hL;simp at this;omega
 ·intro V w' hF
  obtain⟨ψ,t,q1,q2,q3,q4,q5⟩:=hF;refine hQ ψ _ w' (q1.congr λi o=>?_) ⟨?_,λi hi=>q3 i λk hk _ hr=>?_⟩ q2 ⟨?_,λx v hx hv=>?_,?_⟩
  ·rw[← b1];exact(q4.all H i o).symm
  ·rw[← a2,← b2];exact hN0
  ·have l1:=H.mono (j:=0) (k:=k) (by omega) (by omega)
   have l2:=H.mono (j:=k+1) (k:=m) (by omega) (Nat.le_refl _);rw[a2] at l1;rw[b2] at l2;omega
  ·exact((kR (L:=λ_=>true) (V:=V) _ 0 a).1).trans hE.size
  ·rw[← b3] at hv
   cases hd:T.get dt x with
   | none =>
    rw[wI _ V x hd];rw[sj m (Nat.le_refl _) x hd] at hv;exact sw q2 x v hx hv
   | some i =>
    obtain⟨s1,-,s3⟩:=wJ (λ_=>true) V x i hd;obtain⟨rfl,hnb⟩:=(su m (Nat.le_refl _) x i hd).2 s3 v hv;rw[s1];exact⟨V i,(q5 i s3 rfl).resolve_left hnb,rfl⟩
  ·have e1:marksOf E' N=marksOf E N:=by
    unfold marksOf;rw[← b3];cases hd:T.get dt N with
    | none=>rw[sj m (Nat.le_refl _) N hd]
    | some i=>obtain⟨o,h1,h2⟩:=nE N i hd;have:=wH i o N h1 h2;omega
   rw[e1,(kR (L:=λ_=>true) (V:=V) _ 0 a).2.1];exact hE.marks.le q2
end
end Go.Proofs.YthimlcpingkndaaGreatDoor
