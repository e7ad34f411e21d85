/- The proof's texts, part 15. -/
import Derived.Test.YtfabngnaejjcmaaGreatDoorTe
namespace Go.Proofs.YtfabngnaejjcmaaGreatDoor
set_option linter.unusedVariables false
/- What the executor does hangs on what it looked at alone. -/
section
variable {α : Type}
theorem T.BF (k:Nat):T.get (.e:T α) k=none:=rfl
theorem T.Iu (l r:T α) (v:Option α) (k:Nat):T.get (.n l v r) k=cd (Nat.beq k 0) v (cd (Nat.beq (Nat.mod k 2) 1) (T.get l (Nat.div k 2)) (T.get r (Nat.pred (Nat.div k 2)))):=rfl
theorem T.aaU (f k:Nat) (x:Option α):T.one (f+1) k x=cd (Nat.beq k 0) (.n .e x .e) (cd (Nat.beq (Nat.mod k 2) 1) (.n (T.one f (Nat.div k 2) x) none .e) (.n .e none (T.one f (Nat.pred (Nat.div k 2)) x))):=rfl
theorem T.aaV (l r:T α) (v:Option α) (k:Nat) (x:Option α):T.put (.n l v r) k x=cd (Nat.beq k 0) (.n l x r) (cd (Nat.beq (Nat.mod k 2) 1) (.n (T.put l (Nat.div k 2) x) v r) (.n l v (T.put r (Nat.pred (Nat.div k 2)) x))):=rfl
theorem LQ (k:Nat):Nat.beq k 0=decide (k=0):=by cases k <;> rfl
theorem LU (k:Nat):Nat.beq (Nat.mod k 2) 1=decide (k % 2=1):=by
 have h2:k % 2=0\/k % 2=1:=by omega
 change Nat.beq (k % 2) 1=_
 rcases h2 with h2 | h2 <;> rw[h2] <;> rfl
/-- Both: what stands at j behind a store at k. -/
theorem T.step {l r l' r':T α} {u x:Option α} {k j:Nat} (hl:k % 2=1->T.get l' (j / 2)=if j / 2=k / 2 then x else T.get l (j / 2)) (hr:¬k % 2=1->k≠0->T.get r' (Nat.pred (j / 2))=if Nat.pred (j / 2)=Nat.pred (k / 2) then x else T.get r (Nat.pred (j / 2))) :
  T.get (cd (Nat.beq k 0) (.n l x r) (cd (Nat.beq (Nat.mod k 2) 1) (.n l' u r) (.n l u r'))) j=if j=k then x else T.get (.n l u r) j:=by
 have e2:∀k:Nat,Nat.div k 2=k / 2:=λ_=>rfl
 by_cases k0:k=0
 ·subst k0
  simp only[LQ,decide_true,wF,T.Iu,LU,e2]
  by_cases j0:j=0
  ·subst j0;simp
  ·simp[j0]
 ·by_cases k1:k % 2=1
  ·simp only[LQ,k0,decide_false,uH,LU,k1,decide_true,wF,T.Iu,e2]
   by_cases j0:j=0
   ·subst j0;simp[show ¬0=k from λh=>k0 h.symm]
   ·by_cases j1:j % 2=1
    ·simp only[j0,decide_false,uH,j1,decide_true,wF]
     rw[hl k1]
     by_cases e:j=k
     ·subst e;simp
     ·rw[if_neg e,if_neg (by omega)]
    ·simp only[j0,decide_false,uH,j1,if_neg (show ¬j=k by omega)]
  ·simp only[LQ,k0,decide_false,uH,LU,k1,T.Iu,e2]
   by_cases j0:j=0
   ·subst j0;simp[show ¬0=k from λh=>k0 h.symm]
   ·by_cases j1:j % 2=1
    ·simp only[j0,decide_false,uH,j1,decide_true,wF,if_neg (show ¬j=k by omega)]
    ·simp only[j0,decide_false,uH,j1]
     rw[hr k1 k0]
     by_cases e:j=k
     ·subst e;simp
     ·rw[if_neg e,if_neg (by simp only[Nat.pred_eq_sub_one];omega)]
theorem T.aaW:∀(f k:Nat) (x:Option α) (j:Nat),k+1 < 2 ^ f->T.get (T.one f k x) j=if j=k then x else none:=by
 intro f
 induction f with
 | zero=>intro k x j h;simp at h
 | succ f ih =>
  intro k x j h;have hp:2 ^ (f+1)=2 * 2 ^ f:=by rw[Nat.pow_succ];omega
  have he:∀j,T.get (.n .e none .e:T α) j=none:=λj=>by
   rw[T.Iu,T.BF,T.BF];cases Nat.beq j 0 <;> cases Nat.beq (Nat.mod j 2) 1 <;> rfl
  rw[T.aaU];have:=T.step (l:=.e) (r:=.e) (l':=T.one f (Nat.div k 2) x) (r':=T.one f (Nat.pred (Nat.div k 2)) x) (u:=none) (x:=x) (k:=k) (j:=j) (λh1=>ih (k / 2) x (j / 2) (by omega)) (λh1 h0=>ih (Nat.pred (k / 2)) x _ (by simp only[Nat.pred_eq_sub_one];omega));rw[this,he]
theorem T.get_put:∀(t:T α) (k:Nat) (x:Option α) (j:Nat),T.get (T.put t k x) j=if j=k then x else T.get t j:=by
 intro t
 induction t with
 | e=>intro k x j;exact T.aaW (k+1) k x j Nat.lt_two_pow_self
 | n l v r hl hr =>
  intro k x j;rw[T.aaV];exact T.step (λh1=>hl (k / 2) x (j / 2)) (λh1 h0=>hr (Nat.pred (k / 2)) x _)
end
theorem aaX (k:Nat):fZ [] k=none:=rfl
theorem SX (x:Option O) (l:Ol):fZ (x :: l) 0=x:=rfl
theorem wP (x:Option O) (l:Ol) (k:Nat):fZ (x :: l) (k+1)=fZ l k:=rfl
theorem SY (v:Option O):∀(k j:Nat),fZ (Lx v k) j=if j=k then v else none
 | 0,0=>rfl
 | 0,j+1=>by rw[if_neg (by omega)];rfl
 | k+1,0=>by rw[if_neg (by omega)];rfl
 | k+1,j+1=>by
  show fZ (Lx v k) j=_;rw[SY v k j]
  by_cases h:j=k
  ·rw[if_pos h,if_pos (by omega)]
  ·rw[if_neg h,if_neg (by omega)]
theorem S9 (v:Option O):∀(l:Ol) (k j:Nat),fZ (LA l v k) j=if j=k then v else fZ l j
 | [],k,j=>SY v k j
 | x :: l,0,0=>rfl
 | x :: l,0,j+1=>by rw[if_neg (by omega)];rfl
 | x :: l,k+1,0=>by rw[if_neg (by omega)];rfl
 | x :: l,k+1,j+1=>by
  show fZ (LA l v k) j=_;rw[S9 v l k j]
  by_cases h:j=k
  ·rw[if_pos h,if_pos (by omega)]
  ·rw[if_neg h,if_neg (by omega)];rfl
theorem Iw:∀(l:Ol) (k j:Nat),fZ (AA l k) j=fZ l (k+j)
 | [],k,j=>rfl
 | x :: l,0,j=>by rw[Nat.zero_add];rfl
 | x :: l,k+1,j=>by
  show fZ (AA l k) j=_;rw[Iw l k j,show k+1+j=(k+j)+1 by omega];rfl
theorem Ob.LV (s:Ob) (i:Nat) (l:Ol) (j:Nat):Ob.at (T.put s i (some l)) j=if j=i then l else s.at j:=by
 unfold Ob.at;rw[T.get_put]
 by_cases e:j=i
 ·rw[if_pos e,if_pos e]
 ·rw[if_neg e,if_neg e]
theorem Ob.LW {s:Ob} {i o j p:Nat} {v:Option O}:(Ob.put s i o v).get j p=if j=i/\p=o then v else s.get j p:=by
 unfold Ob.put Ob.get;rw[Ob.LV]
 by_cases e:j=i
 ·subst e
  rw[if_pos rfl,S9]
  by_cases e':p=o
  ·simp[e']
  ·rw[if_neg e',if_neg (by simp[e'])]
 ·rw[if_neg e,if_neg (by simp[e])]
theorem Ob.get_put {s:Ob} {i o j p:Nat} {v:Option O} (hi:i < 16000000) (ho:o < 16000000):(Ob.put s i o v).get j p=if j=i/\p=o then v else s.get j p:=Ob.LW
def Lg.has:Lg->Nat->Nat->Prop
 | .e,_,_=>False
 | .p i o,j,q=>j=i/\q=o
 | .rg i o k,j,q=>j=i/\o<=q/\q < o+k
 | .ob i,j,q=>j=i
 | .a x y,j,q=>x.has j q\/y.has j q
theorem Lg.wQ {x y:Lg} {i o:Nat}:(x.app y).has i o↔x.has i o\/y.has i o:=by
 cases x <;> cases y <;> simp[Lg.app,Lg.has]
theorem Lg.wR {n:Nat}:∀ {x:Lg} {i o:Nat},(x.cut n).has i o↔x.has i o/\i < n
 | .e,i,o=>by simp[Lg.cut,Lg.has]
 | .p j q,i,o=>by
  unfold Lg.cut
  by_cases h:j < n
  ·rw[show Nat.blt j n=true by simpa [Nat.blt_eq] using h]
   simp only[wF,Lg.has];exact⟨λe=>⟨e,by omega⟩,λe=>e.1⟩
  ·rw[show Nat.blt j n=false by rw[Bool.eq_false_iff];simpa [Nat.blt_eq] using h]
   simp only[uH,Lg.has,false_iff,not_and];intro e;omega
 | .rg j q k,i,o=>by
  unfold Lg.cut
  by_cases h:j < n
  ·rw[show Nat.blt j n=true by simpa [Nat.blt_eq] using h]
   simp only[wF,Lg.has];exact⟨λe=>⟨e,by omega⟩,λe=>e.1⟩
  ·rw[show Nat.blt j n=false by rw[Bool.eq_false_iff];simpa [Nat.blt_eq] using h]
   simp only[uH,Lg.has,false_iff,not_and];intro e;omega
 | .ob j,i,o=>by
  unfold Lg.cut
  by_cases h:j < n
  ·rw[show Nat.blt j n=true by simpa [Nat.blt_eq] using h]
   simp only[wF,Lg.has];exact⟨λe=>⟨e,by omega⟩,λe=>e.1⟩
  ·rw[show Nat.blt j n=false by rw[Bool.eq_false_iff];simpa [Nat.blt_eq] using h]
   simp only[uH,Lg.has,false_iff,not_and];intro e;omega
 | .a x y,i,o=>by
  unfold Lg.cut;rw[Lg.wQ,Lg.wR,Lg.wR];simp only[Lg.has]
  constructor
  ·rintro(⟨h,h'⟩ | ⟨h,h'⟩)
   ·exact⟨.inl h,h'⟩
   ·exact⟨.inr h,h'⟩
  ·rintro⟨h | h,h'⟩
   ·exact .inl ⟨h,h'⟩
   ·exact .inr ⟨h,h'⟩
/-- What m does hangs on what it looked at. -/
structure Tc {α:Type} (m:M α) (s:Ob) (n:Nat) (a:α) (s':Ob) (n':Nat) (r w:Lg):Prop where
 le:n<=n'
 Ez:∀i o,r.has i o->i < n'
 qG:∀i o,w.has i o->i < n'
 old:∀i o,i < n->¬w.has i o->s'.get i o=s.get i o
 new:∀i o,n'<=i->s'.get i o=s.get i o
 run:∀t:Ob,(∀i o,n<=i->i < n'->t.get i o=s.get i o)->(∀i o,r.has i o->i < n->t.get i o=s.get i o) ->
  ∃t',m t n=.ok a t' n' r w/\(∀i o,n<=i->i < n'->t'.get i o=s'.get i o)/\(∀i o,w.has i o->t'.get i o=s'.get i o)/\∀i o,(i < n\/n'<=i)->¬w.has i o->t'.get i o=t.get i o
def aC {α:Type} (m:M α):Prop:=∀s n a s' n' r w,m s n=.ok a s' n' r w->Tc m s n a s' n' r w
theorem LX {α:Type} (a:α):aC (M.pure a):=by
 intro s n b s' n' r w h;cases h
 exact⟨Nat.le_refl _,λ_ _ h=>h.elim,λ_ _ h=>h.elim,λ_ _ _ _=>rfl,λ_ _ _=>rfl,λt _ _=>⟨t,rfl,λi _ h1 h2=>absurd h1 (by omega),λ_ _ h=>h.elim,λ_ _ _ _=>rfl⟩⟩
theorem aM {α:Type} (e:Nat):aC (M.no e:M α):=λs n a s' n' r w h=>by cases h
theorem bB {α:Type} (e:Nat) (o:Option α):aC (M.opt e o):=by
 cases o
 ·exact aM e
 ·exact LX _
theorem bind_ok {α β:Type} {m:M α} {f:α->M β} {s s':Ob} {n n':Nat} {b:β} {r w:Lg} (h:M.bind m f s n=.ok b s' n' r w) :
  ∃a s1 n1 r1 w1 r2 w2,m s n=.ok a s1 n1 r1 w1/\f a s1 n1=.ok b s' n' r2 w2/\r=r1.app r2/\w=w1.app w2:=by
 unfold M.bind at h;cases hm:m s n with
 | no e=>rw[hm] at h;cases h
 | ok a s1 n1 r1 w1 =>
  rw[hm] at h;dsimp only at h;cases hf:f a s1 n1 with
  | no e=>rw[hf] at h;cases h
  | ok b' s2 n2 r2 w2 =>
   rw[hf] at h;cases h
   exact⟨a,s1,n1,r1,w1,r2,w2,rfl,hf,rfl,rfl⟩
theorem dF {α β:Type} {m:M α} {f:α->M β} (hm:aC m) (hf:∀a,aC (f a)):aC (M.bind m f):=by
 intro s n b s' n' r w h;obtain⟨a,s1,n1,r1,w1,r2,w2,e1,e2,rfl,rfl⟩:=bind_ok h;have F1:=hm _ _ _ _ _ _ _ e1;have F2:=hf a _ _ _ _ _ _ _ e2;have l1:=F1.le;have l2:=F2.le;refine⟨by omega,λi o h=>?_,λi o h=>?_,λi o hi h=>?_,λi o hi=>?_,λt ht hr=>?_⟩
 ·rcases Lg.wQ.1 h with h | h
  ·have:=F1.Ez i o h;omega
  ·exact F2.Ez i o h
 ·rcases Lg.wQ.1 h with h | h
  ·have:=F1.qG i o h;omega
  ·exact F2.qG i o h
 ·rw[Lg.wQ,not_or] at h
  rw[F2.old i o (by omega) h.2,F1.old i o hi h.1]
 ·rw[F2.new i o hi,F1.new i o (by omega)]
 ·obtain⟨t1,q1,q2,q3,q4⟩:=F1.run t (λi o h1 h2=>ht i o h1 (by omega)) (λi o h1 h2=>hr i o (Lg.wQ.2 (.inl h1)) h2)
  have aaY:=F1.qG;obtain⟨t2,p1,p2,p3,p4⟩:=F2.run t1 (λi o h1 h2=>by
    rw[q4 i o (.inr h1) (λhw=>by have:=aaY i o hw;omega),ht i o (by omega) h2,F1.new i o h1]) (λi o h1 h2=>by
    by_cases hn:n<=i
    ·exact q2 i o hn h2
    ·by_cases hw:w1.has i o
     ·exact q3 i o hw
     ·rw[q4 i o (.inl (by omega)) hw,hr i o (Lg.wQ.2 (.inr h1)) (by omega),F1.old i o (by omega) hw])
  refine⟨t2,?_,λi o h1 h2=>?_,λi o h=>?_,λi o h1 h=>?_⟩
  ·unfold M.bind
   rw[q1];dsimp only;rw[p1]
  ·by_cases hn:n1<=i
   ·exact p2 i o hn h2
   ·by_cases hw:w2.has i o
    ·exact p3 i o hw
    ·rw[p4 i o (.inl (by omega)) hw,F2.old i o (by omega) hw]
     exact q2 i o h1 (by omega)
  ·by_cases hw:w2.has i o
   ·exact p3 i o hw
   ·have h1:=(Lg.wQ.1 h).resolve_right hw
    have h2:=F1.qG i o h1;rw[p4 i o (.inl h2) hw,F2.old i o h2 hw];exact q3 i o h1
  ·rw[Lg.wQ,not_or] at h
   rw[p4 i o (by omega) h.2];exact q4 i o (by omega) h.1
theorem bR (i o:Nat):aC (M.get i o):=by
 intro s n b s' n' r w h;unfold M.get at h;cases hg:Ob.get s i o with
 | none=>rw[hg] at h;cases h
 | some v =>
  rw[hg] at h;dsimp only at h;cases hb:Nat.blt i n with
  | false=>rw[hb] at h;cases h
  | true =>
   rw[hb] at h;cases h
   have hlt:i < n:=by simpa [Nat.blt_eq] using hb
   refine⟨Nat.le_refl _,λj q h=>by simp only[Lg.has] at h;omega,λ_ _ h=>h.elim,λ_ _ _ _=>rfl,λ_ _ _=>rfl,λt _ hr=>⟨t,?_,λi _ h1 h2=>absurd h1 (by omega),λ_ _ h=>h.elim,λ_ _ _ _=>rfl⟩⟩;unfold M.get;rw[hr i o ⟨rfl,rfl⟩ hlt,hg];dsimp only;rw[hb];rfl
theorem bS (i o:Nat) (v:Option O):aC (M.put i o v):=by
 intro s n b s' n' r w h;unfold M.put at h;cases hb:and (Nat.blt i n) (and (Nat.blt i 16000000) (Nat.blt o 16000000)) with
 | false=>rw[hb] at h;cases h
 | true =>
  rw[hb] at h;cases h
  have hlt:i < n/\i < 16000000/\o < 16000000:=by simpa [Nat.blt_eq,Bool.and_eq_true] using hb
  have gp:∀(t:Ob) j q,(Ob.put t i o v).get j q=if j=i/\q=o then v else t.get j q:=λt j q=>Ob.get_put hlt.2.1 hlt.2.2
  refine⟨Nat.le_refl _,λ_ _ h=>h.elim,λj q h=>by simp only[Lg.has] at h;omega,λj q _ h=>by rw[gp];exact if_neg h,λj q h=>by rw[gp,if_neg (by omega)],λt _ hr=>⟨Ob.put t i o v,?_,λj _ h1 h2=>absurd h1 (by omega),λj q h=>by rw[gp,gp,if_pos (show j=i/\q=o from h),if_pos (show j=i/\q=o from h)],λj q _ h=>by rw[gp];exact if_neg h⟩⟩;unfold M.put;rw[hb];rfl
theorem cZ (i o k:Nat):aC (uK i o k):=by
 intro s n a s' n' r w h;unfold uK at h;cases hc:takeC (AA (s.at i) (Nat.succ o)) k with
 | none=>rw[hc] at h;cases h
 | some l =>
  rw[hc] at h;dsimp only at h;cases hb:Nat.blt i n with
  | false=>rw[hb] at h;cases h
  | true =>
   rw[hb] at h;cases h
   have hlt:i < n:=by simpa [Nat.blt_eq] using hb
   refine⟨Nat.le_refl _,λj q h=>by simp only[Lg.has] at h;omega,λ_ _ h=>h.elim,λ_ _ _ _=>rfl,λ_ _ _=>rfl,λt _ hr=>⟨t,?_,λi _ h1 h2=>absurd h1 (by omega),λ_ _ h=>h.elim,λ_ _ _ _=>rfl⟩⟩;have key:∀(k:Nat) (l l':Ol) (x:List AV),(∀j,j < k->fZ l' j=fZ l j)->takeC l k=some x->takeC l' k=some x:=by
    intro k
    induction k with
    | zero=>intro l l' x _ h;cases l <;> cases l' <;> exact h
    | succ k ih =>
     intro l l' x hj h;cases l with
     | nil=>cases h
     | cons y l =>
      cases l' with
      | nil =>
       have:=hj 0 (by omega);have hy:y=none:=this.symm;subst hy;cases h
      | cons y' l' =>
       have h0:y'=y:=hj 0 (by omega);subst h0;have h':(match qX y' with | some v=>Ib v (takeC l k) | none=>none)=some x:=h;show(match qX y' with | some v=>Ib v (takeC l' k) | none=>none)=some x;cases hy:qX y' with
       | none=>rw[hy] at h';cases h'
       | some v =>
        rw[hy] at h';dsimp only at h' ⊢;cases ht:takeC l k with
        | none=>rw[ht] at h';cases h'
        | some z=>rw[ih l l' z (λj hj'=>hj (j+1) (by omega)) ht,← ht];exact h'
   unfold uK;rw[key k _ (AA (t.at i) (Nat.succ o)) _ (λj hj=>by
    rw[Iw,Iw];exact hr i (Nat.succ o+j) ⟨rfl,by omega,by omega⟩ hlt) hc]
   dsimp only;rw[hb];rfl
theorem LY:∀(vs:List AV) (l l1:Ol),uL vs l=some l1->(∀v ∈ vs,v.one=true)/\(∀j,j < vs.length->∃u,fZ l j=some (.c u))/\∀j,fZ l1 j=if j < vs.length then (vs[j]?).map O.c else fZ l j
 | [],l,l1,h=>by simp only[uL] at h;cases h;exact⟨by simp,λj hj=>absurd hj (by simp),λj=>by simp⟩
 | v :: vs,[],l1,h=>by cases h
 | v :: vs,x :: l,l1,h=>by
  simp only[uL] at h;cases h1:v.one with
  | false=>rw[h1] at h;cases h
  | true =>
   rw[h1] at h;cases hx:qX x with
   | none=>rw[hx] at h;cases h
   | some u =>
    rw[hx] at h;cases hr:uL vs l with
    | none=>rw[hr] at h;cases h
    | some l2 =>
     rw[hr] at h;have h':some (some (O.c v) :: l2)=some l1:=h;cases h'
     obtain⟨k1,k2,k3⟩:=LY vs l l2 hr;have hxu:x=some (.c u):=by
      unfold qX at hx
      split at hx <;> cases hx
      rfl
     refine⟨λw hw=>(List.mem_cons.1 hw).elim (λe=>e ▸ h1) (k1 w),λj hj=>?_,λj=>?_⟩
     ·cases j with
      | zero=>exact⟨u,hxu⟩
      | succ j=>exact k2 j (by simpa using hj)
     ·cases j with
      | zero=>simp[SX]
      | succ j =>
       rw[wP,k3 j];simp only[List.length_cons,List.getElem?_cons_succ,wP,Nat.add_lt_add_iff_right]
theorem Iy (vs:List AV):∀(l:Ol) (o:Nat) (l1:Ol),wJ vs l o=some l1->(∀v ∈ vs,v.one=true)/\(∀j,j < vs.length->∃u,fZ l (o+j)=some (.c u))/\∀j,fZ l1 j=if o<=j/\j < o+vs.length then (vs[j - o]?).map O.c else fZ l j
 | [],0,l1,h=>by
  obtain⟨k1,k2,k3⟩:=LY vs [] l1 h;exact⟨k1,λj hj=>by rw[Nat.zero_add];exact k2 j hj,λj=>by rw[k3];simp⟩
 | [],o+1,l1,h=>by cases h
 | x :: l,0,l1,h=>by
  obtain⟨k1,k2,k3⟩:=LY vs (x :: l) l1 h;exact⟨k1,λj hj=>by rw[Nat.zero_add];exact k2 j hj,λj=>by rw[k3];simp⟩
 | x :: l,o+1,l1,h=>by
  have h':DC x (wJ vs l o)=some l1:=h;cases hr:wJ vs l o with
  | none=>rw[hr] at h';cases h'
  | some l2 =>
   rw[hr] at h';have h2:some (x :: l2)=some l1:=h';cases h2
   obtain⟨k1,k2,k3⟩:=Iy vs l o l2 hr;refine⟨k1,λj hj=>by rw[show o+1+j=(o+j)+1 by omega,wP];exact k2 j hj,λj=>?_⟩;cases j with
   | zero=>rw[if_neg (by omega)];rfl
   | succ j =>
    rw[wP,k3 j,wP]
    by_cases hh:o<=j/\j < o+vs.length
    ·rw[if_pos hh,if_pos (by omega),show j+1 - (o+1)=j - o by omega]
    ·rw[if_neg hh,if_neg (by omega)]
theorem aaZ (vs:List AV) (h0:vs≠[]) (h1:∀v ∈ vs,v.one=true):∀(l:Ol) (o:Nat),(∀j,j < vs.length->∃u,fZ l (o+j)=some (.c u))->∃l1,wJ vs l o=some l1:=by
 have c:∀(vs:List AV) (l:Ol),(∀v ∈ vs,v.one=true)->(∀j,j < vs.length->∃u,fZ l j=some (.c u))->∃l1,uL vs l=some l1:=by
  intro vs
  induction vs with
  | nil=>intro l _ _;exact⟨l,rfl⟩
  | cons v vs ih =>
   intro l h1 h;obtain⟨u,hu⟩:=h 0 (by simp);cases l with
   | nil=>cases hu
   | cons x l =>
    have hx:x=some (.c u):=hu;subst hx;obtain⟨l1,hl⟩:=ih l (λw hw=>h1 w (by simp[hw])) (λj hj=>h (j+1) (by simpa using hj));exact⟨some (.c v) :: l1,by simp only[uL,h1 v (by simp),qX,hl];rfl⟩
 intro l
 induction l with
 | nil =>
  intro o h;cases o with
  | zero=>exact c vs [] h1 λj hj=>by have:=h j hj;rwa [Nat.zero_add] at this
  | succ o =>
   cases vs with
   | nil=>exact absurd rfl h0
   | cons v vs=>obtain⟨u,hu⟩:=h 0 (by simp);cases hu
 | cons x l ih =>
  intro o h;cases o with
  | zero=>exact c vs (x :: l) h1 λj hj=>by have:=h j hj;rwa [Nat.zero_add] at this
  | succ o =>
   obtain⟨l1,hl⟩:=ih o (λj hj=>by have:=h j hj;rwa [show o+1+j=(o+j)+1 by omega,wP] at this);exact⟨x :: l1,by show DC x (wJ vs l o)=_;rw[hl];rfl⟩
theorem Td {i o:Nat} {vs:List AV} {s s':Ob} {n n':Nat} {a:Unit} {r w:Lg} (e:yK i o vs s n=.ok a s' n' r w):∃l,wJ vs (s.at i) (Nat.succ o)=some l/\i < n/\i < 16000000/\s'=T.put s i (some l)/\n'=n/\r=.rg i (Nat.succ o) vs.length/\w=.rg i (Nat.succ o) vs.length:=by
 unfold yK at e;cases hl:wJ vs (s.at i) (Nat.succ o) with
 | none=>rw[hl] at e;cases e
 | some l =>
  rw[hl] at e;dsimp only at e;cases hb:and (Nat.blt i n) (Nat.blt i 16000000) with
  | false=>rw[hb] at e;cases e
  | true =>
   rw[hb] at e;cases e
   have hlt:i < n/\i < 16000000:=by simpa [Nat.blt_eq,Bool.and_eq_true] using hb
   exact⟨l,rfl,hlt.1,hlt.2,rfl,rfl,rfl,rfl⟩
theorem uS (t:Ob) (i:Nat) (l:Ol) (j q:Nat):Ob.get (T.put t i (some l)) j q=if j=i then fZ l q else t.get j q:=by
 unfold Ob.get;rw[Ob.LV];split <;> rfl
theorem dG (i o:Nat) (vs:List AV):aC (AJ i o vs):=by
 cases vs with
 | nil=>exact LX ()
 | cons v vs =>
 intro s n a s' n' r w e;obtain⟨l,hl,h1,h2,rfl,rfl,rfl,rfl⟩:=Td (show yK i o (v :: vs) s n=_ from e);obtain⟨k1,k2,k3⟩:=Iy _ _ _ _ hl;refine⟨Nat.le_refl _,λj q h=>by simp only[Lg.has] at h;omega,λj q h=>by simp only[Lg.has] at h;omega,λj q _ h=>?_,λj q h=>by rw[uS,if_neg (by omega)],λt _ hr=>?_⟩
 ·rw[uS]
  by_cases e1:j=i
  ·subst e1
   rw[if_pos rfl,k3,if_neg (λh'=>h ⟨rfl,h'⟩)];rfl
  ·rw[if_neg e1]
 ·have hrd:∀q,Nat.succ o<=q->q < Nat.succ o+(v :: vs).length->fZ (t.at i) q=fZ (s.at i) q:=λq a b=>hr i q ⟨rfl,a,b⟩ h1
  obtain⟨l',hl'⟩:=aaZ (v :: vs) (by simp) k1 (t.at i) (Nat.succ o) λj hj=>by
   obtain⟨u,hu⟩:=k2 j hj;exact⟨u,by rw[hrd _ (by omega) (by omega)];exact hu⟩
  obtain⟨-,-,j3⟩:=Iy _ _ _ _ hl';refine⟨T.put t i (some l'),?_,λj _ h1 h2=>absurd h1 (by omega),λj q h=>?_,λj q _ h=>?_⟩
  ·show yK i o (v :: vs) t n'=_
   unfold yK;rw[hl'];dsimp only;rw[show(and (Nat.blt i n') (Nat.blt i 16000000))=true by simp[Nat.blt_eq,h1,h2]];rfl
  ·obtain⟨rfl,a,b⟩:=h
   rw[uS,uS,if_pos rfl,if_pos rfl,j3,k3,if_pos ⟨a,b⟩,if_pos ⟨a,b⟩]
  ·rw[uS]
   by_cases e1:j=i
   ·subst e1
    rw[if_pos rfl,j3,if_neg (λh'=>h ⟨rfl,h'⟩)];rfl
   ·rw[if_neg e1]
theorem Te:∀(vs:List AV) (l:Ol),wK vs=some l->(∀v ∈ vs,v.one=true)/\∀j,fZ l j=(vs[j]?).map O.c
 | [],l,h=>by simp only[wK] at h;cases h;exact⟨by simp,λj=>by simp[aaX]⟩
 | v :: vs,l,h=>by
  simp only[wK] at h;cases h1:v.one with
  | false=>rw[h1] at h;cases h
  | true =>
   rw[h1] at h;cases hr:wK vs with
   | none=>rw[hr] at h;cases h
   | some l2 =>
    rw[hr] at h;have h':some (some (O.c v) :: l2)=some l:=h;cases h'
    obtain⟨k1,k2⟩:=Te vs l2 hr;refine⟨λw hw=>(List.mem_cons.1 hw).elim (λe=>e ▸ h1) (k1 w),λj=>?_⟩;cases j with
    | zero=>simp[SX]
    | succ j=>rw[wP,k2 j];simp
theorem Tf {i:Nat} {h:O} {vs:List AV} {s s':Ob} {n n':Nat} {a:Unit} {r w:Lg} (e:DK i h vs s n=.ok a s' n' r w):∃l,wK vs=some l/\i < n/\i < 16000000/\s'=T.put s i (some (some h :: l))/\n'=n/\r=.e/\w=.ob i:=by
 unfold DK at e;cases hl:wK vs with
 | none=>rw[hl] at e;cases e
 | some l =>
  rw[hl] at e;dsimp only at e;cases hb:and (Nat.blt i n) (Nat.blt i 16000000) with
  | false=>rw[hb] at e;cases e
  | true =>
   rw[hb] at e;cases e
   have hlt:i < n/\i < 16000000:=by simpa [Nat.blt_eq,Bool.and_eq_true] using hb
   exact⟨l,rfl,hlt.1,hlt.2,rfl,rfl,rfl,rfl⟩
theorem aa0 (i:Nat) (h:O) (vs:List AV):aC (DK i h vs):=by
 intro s n a s' n' r w e;obtain⟨l,hl,h1,h2,rfl,rfl,rfl,rfl⟩:=Tf e;have gp:∀(t:Ob) j q,Ob.get (T.put t i (some (some h :: l))) j q=if j=i then fZ (some h :: l) q else t.get j q:=λt j q=>by
  unfold Ob.get;rw[Ob.LV];split <;> rfl
 refine⟨Nat.le_refl _,λ_ _ h=>h.elim,λj q h=>by simp only[Lg.has] at h;omega,λj q _ h=>by rw[gp];exact if_neg h,λj q h=>by rw[gp,if_neg (by omega)],λt _ hr=>⟨T.put t i (some (some h :: l)),?_,λj _ h1 h2=>absurd h1 (by omega),λj q h=>by rw[gp,gp,if_pos (show j=i from h),if_pos (show j=i from h)],λj q _ h=>by rw[gp];exact if_neg h⟩⟩;unfold DK;rw[hl];dsimp only;rw[show(and (Nat.blt i n') (Nat.blt i 16000000))=true by simp[Nat.blt_eq,h1,h2]];rfl
theorem bY:aC M.fresh:=by
 intro s n b s' n' r w h;cases h
 exact⟨Nat.le_succ _,λ_ _ h=>h.elim,λ_ _ h=>h.elim,λ_ _ _ _=>rfl,λ_ _ _=>rfl,λt h1 _=>⟨t,rfl,h1,λ_ _ h=>h.elim,λ_ _ _ _=>rfl⟩⟩
theorem Iz {α:Type} {e:Nat} {m:M α} (h:aC m):aC (M.tag e m):=by
 have key:∀s n a s' n' r w,M.tag e m s n=.ok a s' n' r w↔m s n=.ok a s' n' r w:=by
  intro s n a s' n' r w;unfold M.tag;cases m s n <;> simp
 intro s n a s' n' r w hh;have F:=h _ _ _ _ _ _ _ ((key _ _ _ _ _ _ _).1 hh);exact⟨F.le,F.Ez,F.qG,F.old,F.new,λt h1 h2=>let ⟨t',q⟩:=F.run t h1 h2;⟨t',(key _ _ _ _ _ _ _).2 q.1,q.2⟩⟩
theorem aa1 {α:Type} {m:M α} (h:aC m):aC (M.own m):=by
 intro s n a s' n' r w hh;unfold M.own at hh;cases hm:m s n with
 | no e=>rw[hm] at hh;cases hh
 | ok a1 s1 n1 r1 w1 =>
  rw[hm] at hh;cases hh
  have F:=h _ _ _ _ _ _ _ hm;have l1:=F.le;refine⟨F.le,λi o h=>F.Ez i o (Lg.wR.1 h).1,λi o h=>F.qG i o (Lg.wR.1 h).1,λi o h1 h2=>F.old i o h1 λh3=>h2 (Lg.wR.2 ⟨h3,h1⟩),F.new,λt h1 h2=>?_⟩;obtain⟨t',q1,q2,q3,q4⟩:=F.run t h1 λi o h3 h4=>h2 i o (Lg.wR.2 ⟨h3,h4⟩) h4;refine⟨t',?_,q2,λi o h3=>q3 i o (Lg.wR.1 h3).1,λi o h3 h4=>q4 i o h3 λh5=>?_⟩
  ·unfold M.own
   rw[q1]
  ·rcases h3 with h3 | h3
   ·exact h4 (Lg.wR.2 ⟨h5,h3⟩)
   ·have:=F.qG i o h5;omega
theorem aV {α:Type} {b:Bool} {x y:M α} (hx:aC x) (hy:aC y):aC (cd b x y):=by cases b <;> assumption
end Go.Proofs.YtfabngnaejjcmaaGreatDoor
