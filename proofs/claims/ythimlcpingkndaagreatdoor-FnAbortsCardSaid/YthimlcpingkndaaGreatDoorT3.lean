/- The proof's texts, part 3. -/
import Derived.Test.YthimlcpingkndaaGreatDoorT2
namespace Go.Proofs.YthimlcpingkndaaGreatDoor
set_option linter.unusedVariables false
/- What the executor does hangs on what it looked at alone. -/
section
variable {α : Type}
theorem T.iG (k:Nat):T.get (.e:T α) k=none:=rfl
theorem T.ou (l r:T α) (v:Option α) (k:Nat):T.get (.n l v r) k=cond (Nat.beq k 0) v (cond (Nat.beq (Nat.mod k 2) 1) (T.get l (Nat.div k 2)) (T.get r (Nat.pred (Nat.div k 2)))):=rfl
theorem T.xE (f k:Nat) (x:Option α):T.one (f+1) k x=cond (Nat.beq k 0) (.n .e x .e) (cond (Nat.beq (Nat.mod k 2) 1) (.n (T.one f (Nat.div k 2) x) none .e) (.n .e none (T.one f (Nat.pred (Nat.div k 2)) x))):=rfl
theorem T.xG (l r:T α) (v:Option α) (k:Nat) (x:Option α):T.put (.n l v r) k x=cond (Nat.beq k 0) (.n l x r) (cond (Nat.beq (Nat.mod k 2) 1) (.n (T.put l (Nat.div k 2) x) v r) (.n l v (T.put r (Nat.pred (Nat.div k 2)) x))):=rfl
theorem qE (k:Nat):Nat.beq k 0=decide (k=0):=by cases k <;> rfl
theorem qF (k:Nat):Nat.beq (Nat.mod k 2) 1=decide (k % 2=1):=by
 have h2:k % 2=0\/k % 2=1:=by omega
 change Nat.beq (k % 2) 1=_
 rcases h2 with h2 | h2 <;> rw[h2] <;> rfl
/-- Both: what stands at j behind a store at k. -/
theorem T.step {l r l' r':T α} {u x:Option α} {k j:Nat} (hl:k % 2=1->T.get l' (j / 2)=if j / 2=k / 2 then x else T.get l (j / 2)) (hr:¬k % 2=1->k≠0->T.get r' (Nat.pred (j / 2))=if Nat.pred (j / 2)=Nat.pred (k / 2) then x else T.get r (Nat.pred (j / 2))) :
  T.get (cond (Nat.beq k 0) (.n l x r) (cond (Nat.beq (Nat.mod k 2) 1) (.n l' u r) (.n l u r'))) j=if j=k then x else T.get (.n l u r) j:=by
 have e2:∀k:Nat,Nat.div k 2=k / 2:=λ_=>rfl
 by_cases k0:k=0
 ·subst k0
  simp only[qE,decide_true,cond_true,T.ou,qF,e2]
  by_cases j0:j=0
  ·subst j0;simp
  ·simp[j0]
 ·by_cases k1:k % 2=1
  ·simp only[qE,k0,decide_false,cond_false,qF,k1,decide_true,cond_true,T.ou,e2]
   by_cases j0:j=0
   ·subst j0;simp[show ¬0=k from λh=>k0 h.symm]
   ·by_cases j1:j % 2=1
    ·simp only[j0,decide_false,cond_false,j1,decide_true,cond_true]
     rw[hl k1]
     by_cases e:j=k
     ·subst e;simp
     ·rw[if_neg e,if_neg (by omega)]
    ·simp only[j0,decide_false,cond_false,j1,if_neg (show ¬j=k by omega)]
  ·simp only[qE,k0,decide_false,cond_false,qF,k1,T.ou,e2]
   by_cases j0:j=0
   ·subst j0;simp[show ¬0=k from λh=>k0 h.symm]
   ·by_cases j1:j % 2=1
    ·simp only[j0,decide_false,cond_false,j1,decide_true,cond_true,if_neg (show ¬j=k by omega)]
    ·simp only[j0,decide_false,cond_false,j1]
     rw[hr k1 k0]
     by_cases e:j=k
     ·subst e;simp
     ·rw[if_neg e,if_neg (by simp only[Nat.pred_eq_sub_one];omega)]
theorem T.xH:∀(f k:Nat) (x:Option α) (j:Nat),k+1 < 2 ^ f->T.get (T.one f k x) j=if j=k then x else none:=by
 intro f
 induction f with
 | zero=>intro k x j h;simp at h
 | succ f ih =>
  intro k x j h;have hp:2 ^ (f+1)=2 * 2 ^ f:=by rw[Nat.pow_succ];omega
  have he:∀j,T.get (.n .e none .e:T α) j=none:=λj=>by
   rw[T.ou,T.iG,T.iG];cases Nat.beq j 0 <;> cases Nat.beq (Nat.mod j 2) 1 <;> rfl
  rw[T.xE];have:=T.step (l:=.e) (r:=.e) (l':=T.one f (Nat.div k 2) x) (r':=T.one f (Nat.pred (Nat.div k 2)) x) (u:=none) (x:=x) (k:=k) (j:=j) (λh1=>ih (k / 2) x (j / 2) (by omega)) (λh1 h0=>ih (Nat.pred (k / 2)) x _ (by simp only[Nat.pred_eq_sub_one];omega));rw[this,he]
theorem T.get_put:∀(t:T α) (k:Nat) (x:Option α) (j:Nat),T.get (T.put t k x) j=if j=k then x else T.get t j:=by
 intro t
 induction t with
 | e=>intro k x j;exact T.xH (k+1) k x j Nat.lt_two_pow_self
 | n l v r hl hr =>
  intro k x j;rw[T.xG];exact T.step (λh1=>hl (k / 2) x (j / 2)) (λh1 h0=>hr (Nat.pred (k / 2)) x _)
end
theorem xI (k:Nat):bP [] k=none:=rfl
theorem uE (x:Option O) (l:Ol):bP (x :: l) 0=x:=rfl
theorem iH (x:Option O) (l:Ol) (k:Nat):bP (x :: l) (k+1)=bP l k:=rfl
theorem uF (v:Option O):∀(k j:Nat),bP (qo v k) j=if j=k then v else none
 | 0,0=>rfl
 | 0,j+1=>by rw[if_neg (by omega)];rfl
 | k+1,0=>by rw[if_neg (by omega)];rfl
 | k+1,j+1=>by
  show bP (qo v k) j=_;rw[uF v k j]
  by_cases h:j=k
  ·rw[if_pos h,if_pos (by omega)]
  ·rw[if_neg h,if_neg (by omega)]
theorem uG (v:Option O):∀(l:Ol) (k j:Nat),bP (qp l v k) j=if j=k then v else bP l j
 | [],k,j=>uF v k j
 | x :: l,0,0=>rfl
 | x :: l,0,j+1=>by rw[if_neg (by omega)];rfl
 | x :: l,k+1,0=>by rw[if_neg (by omega)];rfl
 | x :: l,k+1,j+1=>by
  show bP (qp l v k) j=_;rw[uG v l k j]
  by_cases h:j=k
  ·rw[if_pos h,if_pos (by omega)]
  ·rw[if_neg h,if_neg (by omega)];rfl
theorem ow:∀(l:Ol) (k j:Nat),bP (jA l k) j=bP l (k+j)
 | [],k,j=>rfl
 | x :: l,0,j=>by rw[Nat.zero_add];rfl
 | x :: l,k+1,j=>by
  show bP (jA l k) j=_;rw[ow l k j,show k+1+j=(k+j)+1 by omega];rfl
theorem Ob.qG (s:Ob) (i:Nat) (l:Ol) (j:Nat):Ob.at (T.put s i (some l)) j=if j=i then l else s.at j:=by
 unfold Ob.at;rw[T.get_put]
 by_cases e:j=i
 ·rw[if_pos e,if_pos e]
 ·rw[if_neg e,if_neg e]
theorem Ob.qH {s:Ob} {i o j p:Nat} {v:Option O}:(Ob.put s i o v).get j p=if j=i/\p=o then v else s.get j p:=by
 unfold Ob.put Ob.get;rw[Ob.qG]
 by_cases e:j=i
 ·subst e
  rw[if_pos rfl,uG]
  by_cases e':p=o
  ·simp[e']
  ·rw[if_neg e',if_neg (by simp[e'])]
 ·rw[if_neg e,if_neg (by simp[e])]
theorem Ob.get_put {s:Ob} {i o j p:Nat} {v:Option O} (hi:i < 16000000) (ho:o < 16000000):(Ob.put s i o v).get j p=if j=i/\p=o then v else s.get j p:=Ob.qH
def Lg.has:Lg->Nat->Nat->Prop
 | .e,_,_=>False
 | .p i o,j,q=>j=i/\q=o
 | .rg i o k,j,q=>j=i/\o<=q/\q < o+k
 | .ob i,j,q=>j=i
 | .a x y,j,q=>x.has j q\/y.has j q
theorem Lg.iI {x y:Lg} {i o:Nat}:(x.app y).has i o↔x.has i o\/y.has i o:=by
 cases x <;> cases y <;> simp[Lg.app,Lg.has]
theorem Lg.iJ {n:Nat}:∀ {x:Lg} {i o:Nat},(x.cut n).has i o↔x.has i o/\i < n
 | .e,i,o=>by simp[Lg.cut,Lg.has]
 | .p j q,i,o=>by
  unfold Lg.cut
  by_cases h:j < n
  ·rw[show Nat.blt j n=true by simpa [Nat.blt_eq] using h]
   simp only[cond_true,Lg.has];exact⟨λe=>⟨e,by omega⟩,λe=>e.1⟩
  ·rw[show Nat.blt j n=false by rw[Bool.eq_false_iff];simpa [Nat.blt_eq] using h]
   simp only[cond_false,Lg.has,false_iff,not_and];intro e;omega
 | .rg j q k,i,o=>by
  unfold Lg.cut
  by_cases h:j < n
  ·rw[show Nat.blt j n=true by simpa [Nat.blt_eq] using h]
   simp only[cond_true,Lg.has];exact⟨λe=>⟨e,by omega⟩,λe=>e.1⟩
  ·rw[show Nat.blt j n=false by rw[Bool.eq_false_iff];simpa [Nat.blt_eq] using h]
   simp only[cond_false,Lg.has,false_iff,not_and];intro e;omega
 | .ob j,i,o=>by
  unfold Lg.cut
  by_cases h:j < n
  ·rw[show Nat.blt j n=true by simpa [Nat.blt_eq] using h]
   simp only[cond_true,Lg.has];exact⟨λe=>⟨e,by omega⟩,λe=>e.1⟩
  ·rw[show Nat.blt j n=false by rw[Bool.eq_false_iff];simpa [Nat.blt_eq] using h]
   simp only[cond_false,Lg.has,false_iff,not_and];intro e;omega
 | .a x y,i,o=>by
  unfold Lg.cut;rw[Lg.iI,Lg.iJ,Lg.iJ];simp only[Lg.has]
  constructor
  ·rintro(⟨h,h'⟩ | ⟨h,h'⟩)
   ·exact⟨.inl h,h'⟩
   ·exact⟨.inr h,h'⟩
  ·rintro⟨h | h,h'⟩
   ·exact .inl ⟨h,h'⟩
   ·exact .inr ⟨h,h'⟩
/-- What m does hangs on what it looked at. -/
structure uH {α:Type} (m:M α) (s:Ob) (n:Nat) (a:α) (s':Ob) (n':Nat) (r w:Lg):Prop where
 le:n<=n'
 mK:∀i o,r.has i o->i < n'
 eX:∀i o,w.has i o->i < n'
 old:∀i o,i < n->¬w.has i o->s'.get i o=s.get i o
 new:∀i o,n'<=i->s'.get i o=s.get i o
 run:∀t:Ob,(∀i o,n<=i->i < n'->t.get i o=s.get i o)->(∀i o,r.has i o->i < n->t.get i o=s.get i o) ->
  ∃t',m t n=.ok a t' n' r w/\(∀i o,n<=i->i < n'->t'.get i o=s'.get i o)/\(∀i o,w.has i o->t'.get i o=s'.get i o)/\∀i o,(i < n\/n'<=i)->¬w.has i o->t'.get i o=t.get i o
def Fr {α:Type} (m:M α):Prop:=∀s n a s' n' r w,m s n=.ok a s' n' r w->uH m s n a s' n' r w
theorem qI {α:Type} (a:α):Fr (M.pure a):=by
 intro s n b s' n' r w h;cases h
 exact⟨Nat.le_refl _,λ_ _ h=>h.elim,λ_ _ h=>h.elim,λ_ _ _ _=>rfl,λ_ _ _=>rfl,λt _ _=>⟨t,rfl,λi _ h1 h2=>absurd h1 (by omega),λ_ _ h=>h.elim,λ_ _ _ _=>rfl⟩⟩
theorem au {α:Type} (e:Nat):Fr (M.no e:M α):=λs n a s' n' r w h=>by cases h
theorem ay {α:Type} (e:Nat) (o:Option α):Fr (M.opt e o):=by
 cases o
 ·exact au e
 ·exact qI _
theorem bind_ok {α β:Type} {m:M α} {f:α->M β} {s s':Ob} {n n':Nat} {b:β} {r w:Lg} (h:M.bind m f s n=.ok b s' n' r w) :
  ∃a s1 n1 r1 w1 r2 w2,m s n=.ok a s1 n1 r1 w1/\f a s1 n1=.ok b s' n' r2 w2/\r=r1.app r2/\w=w1.app w2:=by
 unfold M.bind at h;cases hm:m s n with
 | no e=>rw[hm] at h;cases h
 | ok a s1 n1 r1 w1 =>
  rw[hm] at h;dsimp only at h;cases hf:f a s1 n1 with
  | no e=>rw[hf] at h;cases h
  | ok b' s2 n2 r2 w2 =>
   rw[hf] at h;cases h
   exact⟨a,s1,n1,r1,w1,r2,w2,rfl,hf,rfl,rfl⟩
theorem aS {α β:Type} {m:M α} {f:α->M β} (hm:Fr m) (hf:∀a,Fr (f a)):Fr (M.bind m f):=by
 intro s n b s' n' r w h;obtain⟨a,s1,n1,r1,w1,r2,w2,e1,e2,rfl,rfl⟩:=bind_ok h;have F1:=hm _ _ _ _ _ _ _ e1;have F2:=hf a _ _ _ _ _ _ _ e2;have l1:=F1.le;have l2:=F2.le;refine⟨by omega,λi o h=>?_,λi o h=>?_,λi o hi h=>?_,λi o hi=>?_,λt ht hr=>?_⟩
 ·rcases Lg.iI.1 h with h | h
  ·have:=F1.mK i o h;omega
  ·exact F2.mK i o h
 ·rcases Lg.iI.1 h with h | h
  ·have:=F1.eX i o h;omega
  ·exact F2.eX i o h
 ·rw[Lg.iI,not_or] at h
  rw[F2.old i o (by omega) h.2,F1.old i o hi h.1]
 ·rw[F2.new i o hi,F1.new i o (by omega)]
 ·obtain⟨t1,q1,q2,q3,q4⟩:=F1.run t (λi o h1 h2=>ht i o h1 (by omega)) (λi o h1 h2=>hr i o (Lg.iI.2 (.inl h1)) h2)
  have xJ:=F1.eX;obtain⟨t2,p1,p2,p3,p4⟩:=F2.run t1 (λi o h1 h2=>by
    rw[q4 i o (.inr h1) (λhw=>by have:=xJ i o hw;omega),ht i o (by omega) h2,F1.new i o h1]) (λi o h1 h2=>by
    by_cases hn:n<=i
    ·exact q2 i o hn h2
    ·by_cases hw:w1.has i o
     ·exact q3 i o hw
     ·rw[q4 i o (.inl (by omega)) hw,hr i o (Lg.iI.2 (.inr h1)) (by omega),F1.old i o (by omega) hw])
  refine⟨t2,?_,λi o h1 h2=>?_,λi o h=>?_,λi o h1 h=>?_⟩
  ·unfold M.bind
   rw[q1];dsimp only;rw[p1]
  ·by_cases hn:n1<=i
   ·exact p2 i o hn h2
   ·by_cases hw:w2.has i o
    ·exact p3 i o hw
    ·rw[p4 i o (.inl (by omega)) hw,F2.old i o (by omega) hw]
     exact q2 i o h1 (by omega)
  ·by_cases hw:w2.has i o
   ·exact p3 i o hw
   ·have h1:=(Lg.iI.1 h).resolve_right hw
    have h2:=F1.eX i o h1;rw[p4 i o (.inl h2) hw,F2.old i o h2 hw];exact q3 i o h1
  ·rw[Lg.iI,not_or] at h
   rw[p4 i o (by omega) h.2];exact q4 i o (by omega) h.1
theorem aA (i o:Nat):Fr (M.get i o):=by
 intro s n b s' n' r w h;unfold M.get at h;cases hg:Ob.get s i o with
 | none=>rw[hg] at h;cases h
 | some v =>
  rw[hg] at h;dsimp only at h;cases hb:Nat.blt i n with
  | false=>rw[hb] at h;cases h
  | true =>
   rw[hb] at h;cases h
   have hlt:i < n:=by simpa [Nat.blt_eq] using hb
   refine⟨Nat.le_refl _,λj q h=>by simp only[Lg.has] at h;omega,λ_ _ h=>h.elim,λ_ _ _ _=>rfl,λ_ _ _=>rfl,λt _ hr=>⟨t,?_,λi _ h1 h2=>absurd h1 (by omega),λ_ _ h=>h.elim,λ_ _ _ _=>rfl⟩⟩;unfold M.get;rw[hr i o ⟨rfl,rfl⟩ hlt,hg];dsimp only;rw[hb];rfl
theorem aB (i o:Nat) (v:Option O):Fr (M.put i o v):=by
 intro s n b s' n' r w h;unfold M.put at h;cases hb:and (Nat.blt i n) (and (Nat.blt i 16000000) (Nat.blt o 16000000)) with
 | false=>rw[hb] at h;cases h
 | true =>
  rw[hb] at h;cases h
  have hlt:i < n/\i < 16000000/\o < 16000000:=by simpa [Nat.blt_eq,Bool.and_eq_true] using hb
  have gp:∀(t:Ob) j q,(Ob.put t i o v).get j q=if j=i/\q=o then v else t.get j q:=λt j q=>Ob.get_put hlt.2.1 hlt.2.2
  refine⟨Nat.le_refl _,λ_ _ h=>h.elim,λj q h=>by simp only[Lg.has] at h;omega,λj q _ h=>by rw[gp];exact if_neg h,λj q h=>by rw[gp,if_neg (by omega)],λt _ hr=>⟨Ob.put t i o v,?_,λj _ h1 h2=>absurd h1 (by omega),λj q h=>by rw[gp,gp,if_pos (show j=i/\q=o from h),if_pos (show j=i/\q=o from h)],λj q _ h=>by rw[gp];exact if_neg h⟩⟩;unfold M.put;rw[hb];rfl
theorem aL (i o k:Nat):Fr (gG i o k):=by
 intro s n a s' n' r w h;unfold gG at h;cases hc:takeC (jA (s.at i) (Nat.succ o)) k with
 | none=>rw[hc] at h;cases h
 | some l =>
  rw[hc] at h;dsimp only at h;cases hb:Nat.blt i n with
  | false=>rw[hb] at h;cases h
  | true =>
   rw[hb] at h;cases h
   have hlt:i < n:=by simpa [Nat.blt_eq] using hb
   refine⟨Nat.le_refl _,λj q h=>by simp only[Lg.has] at h;omega,λ_ _ h=>h.elim,λ_ _ _ _=>rfl,λ_ _ _=>rfl,λt _ hr=>⟨t,?_,λi _ h1 h2=>absurd h1 (by omega),λ_ _ h=>h.elim,λ_ _ _ _=>rfl⟩⟩;have key:∀(k:Nat) (l l':Ol) (x:List AV),(∀j,j < k->bP l' j=bP l j)->takeC l k=some x->takeC l' k=some x:=by
    intro k
    induction k with
    | zero=>intro l l' x _ h;cases l <;> cases l' <;> exact h
    | succ k ih =>
     intro l l' x hj h;cases l with
     | nil=>cases h
     | cons y l =>
      cases l' with
      | nil =>
       have:=hj 0 (by omega);have hy:y=none:=this.symm;subst hy;cases h
      | cons y' l' =>
       have h0:y'=y:=hj 0 (by omega);subst h0;have h':(match fB y' with | some v=>nR v (takeC l k) | none=>none)=some x:=h;show(match fB y' with | some v=>nR v (takeC l' k) | none=>none)=some x;cases hy:fB y' with
       | none=>rw[hy] at h';cases h'
       | some v =>
        rw[hy] at h';dsimp only at h' ⊢;cases ht:takeC l k with
        | none=>rw[ht] at h';cases h'
        | some z=>rw[ih l l' z (λj hj'=>hj (j+1) (by omega)) ht,← ht];exact h'
   unfold gG;rw[key k _ (jA (t.at i) (Nat.succ o)) _ (λj hj=>by
    rw[ow,ow];exact hr i (Nat.succ o+j) ⟨rfl,by omega,by omega⟩ hlt) hc]
   dsimp only;rw[hb];rfl
theorem qJ:∀(vs:List AV) (l l1:Ol),gH vs l=some l1->(∀v ∈ vs,v.one=true)/\(∀j,j < vs.length->∃u,bP l j=some (.c u))/\∀j,bP l1 j=if j < vs.length then (vs[j]?).map O.c else bP l j
 | [],l,l1,h=>by simp only[gH] at h;cases h;exact⟨by simp,λj hj=>absurd hj (by simp),λj=>by simp⟩
 | v :: vs,[],l1,h=>by cases h
 | v :: vs,x :: l,l1,h=>by
  simp only[gH] at h;cases h1:v.one with
  | false=>rw[h1] at h;cases h
  | true =>
   rw[h1] at h;cases hx:fB x with
   | none=>rw[hx] at h;cases h
   | some u =>
    rw[hx] at h;cases hr:gH vs l with
    | none=>rw[hr] at h;cases h
    | some l2 =>
     rw[hr] at h;have h':some (some (O.c v) :: l2)=some l1:=h;cases h'
     obtain⟨k1,k2,k3⟩:=qJ vs l l2 hr;have hxu:x=some (.c u):=by
      unfold fB at hx
      split at hx <;> cases hx
      rfl
     refine⟨λw hw=>(List.mem_cons.1 hw).elim (λe=>e ▸ h1) (k1 w),λj hj=>?_,λj=>?_⟩
     ·cases j with
      | zero=>exact⟨u,hxu⟩
      | succ j=>exact k2 j (by simpa using hj)
     ·cases j with
      | zero=>simp[uE]
      | succ j =>
       rw[iH,k3 j];simp only[List.length_cons,List.getElem?_cons_succ,iH,Nat.add_lt_add_iff_right]
theorem oz (vs:List AV):∀(l:Ol) (o:Nat) (l1:Ol),iB vs l o=some l1->(∀v ∈ vs,v.one=true)/\(∀j,j < vs.length->∃u,bP l (o+j)=some (.c u))/\∀j,bP l1 j=if o<=j/\j < o+vs.length then (vs[j - o]?).map O.c else bP l j
 | [],0,l1,h=>by
  obtain⟨k1,k2,k3⟩:=qJ vs [] l1 h;exact⟨k1,λj hj=>by rw[Nat.zero_add];exact k2 j hj,λj=>by rw[k3];simp⟩
 | [],o+1,l1,h=>by cases h
 | x :: l,0,l1,h=>by
  obtain⟨k1,k2,k3⟩:=qJ vs (x :: l) l1 h;exact⟨k1,λj hj=>by rw[Nat.zero_add];exact k2 j hj,λj=>by rw[k3];simp⟩
 | x :: l,o+1,l1,h=>by
  have h':kY x (iB vs l o)=some l1:=h;cases hr:iB vs l o with
  | none=>rw[hr] at h';cases h'
  | some l2 =>
   rw[hr] at h';have h2:some (x :: l2)=some l1:=h';cases h2
   obtain⟨k1,k2,k3⟩:=oz vs l o l2 hr;refine⟨k1,λj hj=>by rw[show o+1+j=(o+j)+1 by omega,iH];exact k2 j hj,λj=>?_⟩;cases j with
   | zero=>rw[if_neg (by omega)];rfl
   | succ j =>
    rw[iH,k3 j,iH]
    by_cases hh:o<=j/\j < o+vs.length
    ·rw[if_pos hh,if_pos (by omega),show j+1 - (o+1)=j - o by omega]
    ·rw[if_neg hh,if_neg (by omega)]
theorem xK (vs:List AV) (h0:vs≠[]) (h1:∀v ∈ vs,v.one=true):∀(l:Ol) (o:Nat),(∀j,j < vs.length->∃u,bP l (o+j)=some (.c u))->∃l1,iB vs l o=some l1:=by
 have c:∀(vs:List AV) (l:Ol),(∀v ∈ vs,v.one=true)->(∀j,j < vs.length->∃u,bP l j=some (.c u))->∃l1,gH vs l=some l1:=by
  intro vs
  induction vs with
  | nil=>intro l _ _;exact⟨l,rfl⟩
  | cons v vs ih =>
   intro l h1 h;obtain⟨u,hu⟩:=h 0 (by simp);cases l with
   | nil=>cases hu
   | cons x l =>
    have hx:x=some (.c u):=hu;subst hx;obtain⟨l1,hl⟩:=ih l (λw hw=>h1 w (by simp[hw])) (λj hj=>h (j+1) (by simpa using hj));exact⟨some (.c v) :: l1,by simp only[gH,h1 v (by simp),fB,hl];rfl⟩
 intro l
 induction l with
 | nil =>
  intro o h;cases o with
  | zero=>exact c vs [] h1 λj hj=>by have:=h j hj;rwa [Nat.zero_add] at this
  | succ o =>
   cases vs with
   | nil=>exact absurd rfl h0
   | cons v vs=>obtain⟨u,hu⟩:=h 0 (by simp);cases hu
 | cons x l ih =>
  intro o h;cases o with
  | zero=>exact c vs (x :: l) h1 λj hj=>by have:=h j hj;rwa [Nat.zero_add] at this
  | succ o =>
   obtain⟨l1,hl⟩:=ih o (λj hj=>by have:=h j hj;rwa [show o+1+j=(o+j)+1 by omega,iH] at this);exact⟨x :: l1,by show kY x (iB vs l o)=_;rw[hl];rfl⟩
theorem uI {i o:Nat} {vs:List AV} {s s':Ob} {n n':Nat} {a:Unit} {r w:Lg} (e:iR i o vs s n=.ok a s' n' r w):∃l,iB vs (s.at i) (Nat.succ o)=some l/\i < n/\i < 16000000/\s'=T.put s i (some l)/\n'=n/\r=.rg i (Nat.succ o) vs.length/\w=.rg i (Nat.succ o) vs.length:=by
 unfold iR at e;cases hl:iB vs (s.at i) (Nat.succ o) with
 | none=>rw[hl] at e;cases e
 | some l =>
  rw[hl] at e;dsimp only at e;cases hb:and (Nat.blt i n) (Nat.blt i 16000000) with
  | false=>rw[hb] at e;cases e
  | true =>
   rw[hb] at e;cases e
   have hlt:i < n/\i < 16000000:=by simpa [Nat.blt_eq,Bool.and_eq_true] using hb
   exact⟨l,rfl,hlt.1,hlt.2,rfl,rfl,rfl,rfl⟩
theorem gP (t:Ob) (i:Nat) (l:Ol) (j q:Nat):Ob.get (T.put t i (some l)) j q=if j=i then bP l q else t.get j q:=by
 unfold Ob.get;rw[Ob.qG];split <;> rfl
theorem aT (i o:Nat) (vs:List AV):Fr (jB i o vs):=by
 cases vs with
 | nil=>exact qI ()
 | cons v vs =>
 intro s n a s' n' r w e;obtain⟨l,hl,h1,h2,rfl,rfl,rfl,rfl⟩:=uI (show iR i o (v :: vs) s n=_ from e);obtain⟨k1,k2,k3⟩:=oz _ _ _ _ hl;refine⟨Nat.le_refl _,λj q h=>by simp only[Lg.has] at h;omega,λj q h=>by simp only[Lg.has] at h;omega,λj q _ h=>?_,λj q h=>by rw[gP,if_neg (by omega)],λt _ hr=>?_⟩
 ·rw[gP]
  by_cases e1:j=i
  ·subst e1
   rw[if_pos rfl,k3,if_neg (λh'=>h ⟨rfl,h'⟩)];rfl
  ·rw[if_neg e1]
 ·have hrd:∀q,Nat.succ o<=q->q < Nat.succ o+(v :: vs).length->bP (t.at i) q=bP (s.at i) q:=λq a b=>hr i q ⟨rfl,a,b⟩ h1
  obtain⟨l',hl'⟩:=xK (v :: vs) (by simp) k1 (t.at i) (Nat.succ o) λj hj=>by
   obtain⟨u,hu⟩:=k2 j hj;exact⟨u,by rw[hrd _ (by omega) (by omega)];exact hu⟩
  obtain⟨-,-,j3⟩:=oz _ _ _ _ hl';refine⟨T.put t i (some l'),?_,λj _ h1 h2=>absurd h1 (by omega),λj q h=>?_,λj q _ h=>?_⟩
  ·show iR i o (v :: vs) t n'=_
   unfold iR;rw[hl'];dsimp only;rw[show(and (Nat.blt i n') (Nat.blt i 16000000))=true by simp[Nat.blt_eq,h1,h2]];rfl
  ·obtain⟨rfl,a,b⟩:=h
   rw[gP,gP,if_pos rfl,if_pos rfl,j3,k3,if_pos ⟨a,b⟩,if_pos ⟨a,b⟩]
  ·rw[gP]
   by_cases e1:j=i
   ·subst e1
    rw[if_pos rfl,j3,if_neg (λh'=>h ⟨rfl,h'⟩)];rfl
   ·rw[if_neg e1]
theorem uJ:∀(vs:List AV) (l:Ol),laid vs=some l->(∀v ∈ vs,v.one=true)/\∀j,bP l j=(vs[j]?).map O.c
 | [],l,h=>by simp only[laid] at h;cases h;exact⟨by simp,λj=>by simp[xI]⟩
 | v :: vs,l,h=>by
  simp only[laid] at h;cases h1:v.one with
  | false=>rw[h1] at h;cases h
  | true =>
   rw[h1] at h;cases hr:laid vs with
   | none=>rw[hr] at h;cases h
   | some l2 =>
    rw[hr] at h;have h':some (some (O.c v) :: l2)=some l:=h;cases h'
    obtain⟨k1,k2⟩:=uJ vs l2 hr;refine⟨λw hw=>(List.mem_cons.1 hw).elim (λe=>e ▸ h1) (k1 w),λj=>?_⟩;cases j with
    | zero=>simp[uE]
    | succ j=>rw[iH,k2 j];simp
theorem uK {i:Nat} {h:O} {vs:List AV} {s s':Ob} {n n':Nat} {a:Unit} {r w:Lg} (e:lq i h vs s n=.ok a s' n' r w):∃l,laid vs=some l/\i < n/\i < 16000000/\s'=T.put s i (some (some h :: l))/\n'=n/\r=.e/\w=.ob i:=by
 unfold lq at e;cases hl:laid vs with
 | none=>rw[hl] at e;cases e
 | some l =>
  rw[hl] at e;dsimp only at e;cases hb:and (Nat.blt i n) (Nat.blt i 16000000) with
  | false=>rw[hb] at e;cases e
  | true =>
   rw[hb] at e;cases e
   have hlt:i < n/\i < 16000000:=by simpa [Nat.blt_eq,Bool.and_eq_true] using hb
   exact⟨l,rfl,hlt.1,hlt.2,rfl,rfl,rfl,rfl⟩
theorem xL (i:Nat) (h:O) (vs:List AV):Fr (lq i h vs):=by
 intro s n a s' n' r w e;obtain⟨l,hl,h1,h2,rfl,rfl,rfl,rfl⟩:=uK e;have gp:∀(t:Ob) j q,Ob.get (T.put t i (some (some h :: l))) j q=if j=i then bP (some h :: l) q else t.get j q:=λt j q=>by
  unfold Ob.get;rw[Ob.qG];split <;> rfl
 refine⟨Nat.le_refl _,λ_ _ h=>h.elim,λj q h=>by simp only[Lg.has] at h;omega,λj q _ h=>by rw[gp];exact if_neg h,λj q h=>by rw[gp,if_neg (by omega)],λt _ hr=>⟨T.put t i (some (some h :: l)),?_,λj _ h1 h2=>absurd h1 (by omega),λj q h=>by rw[gp,gp,if_pos (show j=i from h),if_pos (show j=i from h)],λj q _ h=>by rw[gp];exact if_neg h⟩⟩;unfold lq;rw[hl];dsimp only;rw[show(and (Nat.blt i n') (Nat.blt i 16000000))=true by simp[Nat.blt_eq,h1,h2]];rfl
theorem aG:Fr M.fresh:=by
 intro s n b s' n' r w h;cases h
 exact⟨Nat.le_succ _,λ_ _ h=>h.elim,λ_ _ h=>h.elim,λ_ _ _ _=>rfl,λ_ _ _=>rfl,λt h1 _=>⟨t,rfl,h1,λ_ _ h=>h.elim,λ_ _ _ _=>rfl⟩⟩
theorem oC {α:Type} {e:Nat} {m:M α} (h:Fr m):Fr (M.tag e m):=by
 have key:∀s n a s' n' r w,M.tag e m s n=.ok a s' n' r w↔m s n=.ok a s' n' r w:=by
  intro s n a s' n' r w;unfold M.tag;cases m s n <;> simp
 intro s n a s' n' r w hh;have F:=h _ _ _ _ _ _ _ ((key _ _ _ _ _ _ _).1 hh);exact⟨F.le,F.mK,F.eX,F.old,F.new,λt h1 h2=>let ⟨t',q⟩:=F.run t h1 h2;⟨t',(key _ _ _ _ _ _ _).2 q.1,q.2⟩⟩
theorem xM {α:Type} {m:M α} (h:Fr m):Fr (M.own m):=by
 intro s n a s' n' r w hh;unfold M.own at hh;cases hm:m s n with
 | no e=>rw[hm] at hh;cases hh
 | ok a1 s1 n1 r1 w1 =>
  rw[hm] at hh;cases hh
  have F:=h _ _ _ _ _ _ _ hm;have l1:=F.le;refine⟨F.le,λi o h=>F.mK i o (Lg.iJ.1 h).1,λi o h=>F.eX i o (Lg.iJ.1 h).1,λi o h1 h2=>F.old i o h1 λh3=>h2 (Lg.iJ.2 ⟨h3,h1⟩),F.new,λt h1 h2=>?_⟩;obtain⟨t',q1,q2,q3,q4⟩:=F.run t h1 λi o h3 h4=>h2 i o (Lg.iJ.2 ⟨h3,h4⟩) h4;refine⟨t',?_,q2,λi o h3=>q3 i o (Lg.iJ.1 h3).1,λi o h3 h4=>q4 i o h3 λh5=>?_⟩
  ·unfold M.own
   rw[q1]
  ·rcases h3 with h3 | h3
   ·exact h4 (Lg.iJ.2 ⟨h5,h3⟩)
   ·have:=F.eX i o h5;omega
theorem av {α:Type} {b:Bool} {x y:M α} (hx:Fr x) (hy:Fr y):Fr (cond b x y):=by cases b <;> assumption
end Go.Proofs.YthimlcpingkndaaGreatDoor
