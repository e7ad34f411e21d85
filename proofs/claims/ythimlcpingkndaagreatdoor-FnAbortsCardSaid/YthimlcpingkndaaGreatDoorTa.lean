/- The proof's texts, part 10. -/
import Derived.Scope
import Derived.RangeFuncLeaves
import Derived.Test.YthimlcpingkndaaGreatDoorT9
namespace Go.Proofs.YthimlcpingkndaaGreatDoor
open Go.RowKit
set_option linter.unusedVariables false
set_option linter.unusedSimpArgs false
/- Code and calls: what the executor answers holds of the machine's own run. -/
section
variable {P : Program} {w0 : World}
def kS:Ex->Exit
 | .bA=>.normal
 | .ext i=>.exit i
 | .ret=>.ret
/-- An object that is not looked at again: its block may turn. -/
theorem wK {φ:Ph} {s:Ob} {w:World} {i b x:Nat} {o:Obj} (h:Rel P w0 φ s w) (hp:φ i=some (b,x)) (hg:s.get i 0≠none) (hi:i < 16000000):Rel P w0 φ (s.put i 0 none) { w with heap:=w.heap.setIfInBounds b o }:=by
 have hB:=(h.there hg hp).2;have gp:∀j q,(s.put i 0 none).get j q=if j=i/\q=0 then none else s.get j q:=λj q=>Ob.get_put hi (by omega)
 have g0:(s.put i 0 none).get i 0=none:=by rw[gp,if_pos ⟨rfl,rfl⟩]
 have hW:∀k,k≠b->(w.heap.setIfInBounds b o)[k]?=w.heap[k]?:=λk hk=>by simp[Array.getElem?_setIfInBounds,show ¬b=k from λe=>hk e.symm]
 exact h.but (j:=i) (b:=b) (Ph.le_refl _) ⟨h.base.os,h.base.tape,h.base.output,by have:=h.base.size;simpa using this,λk hk=>(hW k (by omega)).trans (h.base.block k hk)⟩ (λk hk _=>hW k hk) (λi' p hne=>by rw[gp,if_neg (by omega)]) (λ_ _=>rfl)
  (λi' y hne ha hb=>hne (h.inj i' i b y x ha hg hb hp)) (λv' hv'=>by rw[g0] at hv';cases hv') (λp _=>by rw[hp];simp) (λc y hc _=>absurd g0 hc) (λt' e' k' op' hg'=>by rw[g0] at hg';cases hg') (λes c hg'=>by rw[g0] at hg';cases hg') (λm a l c hg'=>by rw[g0] at hg';cases hg')
theorem wL {c:Code} {f:Env->M (Ex × Env)} (sD:∀E,Fr (f E)) {N:Nat} {Q:Exit->Act->World->Prop}
  (hb:∀E ex E' a φ s s' w n n' r l1 (Q:Exit->Act->World->Prop),f E s n=.ok (ex,E') s' n' r l1->Rel P w0 φ s w->bV φ N E a->Free φ n n'->(∀ψ a' w',Rel P w0 ψ s' w'->Ext φ ψ n n'->φ.le ψ->bV ψ N E' a'->Q (kS ex) a' w')->c.wp P Q a w) :
  ∀(k:Nat) (E:Env) (ex:Ex) (E':Env) (a:Act) (φ:Ph) (s s':Ob) (w:World) (n n':Nat) (r l1:Lg),mH f k E s n=.ok (ex,E') s' n' r l1->Rel P w0 φ s w->bV φ N E a->Free φ n n' ->
   (∀ψ a' w',Rel P w0 ψ s' w'->Ext φ ψ n n'->φ.le ψ->bV ψ N E' a'->ex≠.bA->Q (kS ex) a' w') ->
   ∀(b:Frame) (kk:List Item) (cs:List Frame),∃e a' w',Q e a' w'/\Arrives P (lone (b.at a (.code c :: .inLoop c :: kk)) cs w) b kk cs e a' w'
 | 0,E,ex,E',a,φ,s,s',w,n,n',r,l1,e,_,_,_,_,_,_,_=>by cases e
 | k+1,E,ex,E',a,φ,s,s',w,n,n',r,l1,e,h,hE,hf,hQ,b,kk,cs=>by
  obtain⟨x,s1,n1,r1,m1,r2,m2,e1,e2,rfl,rfl⟩:=ah (show(f E >>= _) _ _=_ from e);obtain⟨nH,E1⟩:=x;have rP:=(sD E _ _ _ _ _ _ _ e1).le;cases nH with
  | bA =>
   have e2':mH f k E1 s1 n1=.ok (ex,E') s' n' r2 m2:=e2;have iP:=(ru sD k E1 _ _ _ _ _ _ _ e2').le;obtain⟨ee,a1,w1,q1,q2⟩:=hb E .bA E1 a φ s s1 w n n1 r1 m1 (λee a' w'=>ee=.normal/\∃ψ,Rel P w0 ψ s1 w'/\Ext φ ψ n n1/\φ.le ψ/\bV ψ N E1 a') e1 h hE (λi h1 h2=>hf i h1 (by omega)) (λψ a' w' h1 h2 h3 h4=>⟨rfl,ψ,h1,h2,h3,h4⟩) b (.inLoop c :: kk) cs;obtain⟨rfl,ψ,k1,k2,k3,k4⟩:=q1
   obtain⟨e3,a3,w3,p1,p2⟩:=wL sD hb k E1 ex E' a1 ψ s1 s' w1 n1 n' r2 m2 e2' k1 k4 (λi h1 h2=>by rw[k2.out i (by omega)];exact hf i (by omega) h2) (λχ a' w' j1 j2 j3 j4 j5=>hQ χ a' w' j1 (k2.trans j2) (Ph.le_trans k3 j3) j4 j5) b kk cs;exact⟨e3,a3,w3,p1,.of_steps (Steps.trans q2 (.one step_inLoop)) p2⟩
  | ext i =>
   obtain⟨h1,rfl,rfl⟩:=aj (show(pure (Ex.ext i,E1):M _) _ _=_ from e2);cases h1
   obtain⟨ee,a1,w1,q1,q2⟩:=hb E (.ext i) E' a φ s s' w n n' r1 m1 (λee a' w'=>ee=.exit i/\Q ee a' w') e1 h hE hf (λψ a' w' h1 h2 h3 h4=>⟨rfl,hQ ψ a' w' h1 h2 h3 h4 (by simp)⟩) b (.inLoop c :: kk) cs;obtain⟨rfl,q1⟩:=q1;exact⟨_,a1,w1,q1,.pass (x:=.inLoop c) rfl (λ_ _=>.inl (by simp)) q2⟩
  | ret =>
   obtain⟨h1,rfl,rfl⟩:=aj (show(pure (Ex.ret,E1):M _) _ _=_ from e2);cases h1
   obtain⟨ee,a1,w1,q1,q2⟩:=hb E .ret E' a φ s s' w n n' r1 m1 (λee a' w'=>ee=.ret/\Q ee a' w') e1 h hE hf (λψ a' w' h1 h2 h3 h4=>⟨rfl,hQ ψ a' w' h1 h2 h3 h4 (by simp)⟩) b (.inLoop c :: kk) cs;obtain⟨rfl,q1⟩:=q1;exact⟨_,a1,w1,q1,.pass (x:=.inLoop c) rfl (λ_ _=>.inl (by simp)) q2⟩
theorem Ar {φ:Ph} {j b x:Nat} (h:φ j=some (b,x)):(AV.iy j).den φ=some (.func (.yield b) #[] #[]):=by simp[AV.den,h]
theorem Au {w:World} {b:Nat} {r:Loop} (h:w.heap[b]?=some (.loop r)) (h1:r.state=.ready) (h2:r.pending=none):(Instr.endLoop b).run P w=.ok none { w with heap:=w.heap.setIfInBounds b (.loop { r with state:=.exhausted }) }:=by
 have hg:(getObj b).run P w=.ok (.loop r) w:=by simp[getObj,Sem.run,h]
 have hs:∀o,(setObj b o).run P w=.ok () { w with heap:=w.heap.setIfInBounds b o }:=λo=>by simp[setObj,Sem.run,h]
 simp[Instr.endLoop,Instr.getLoop,hg,h1,hs,h2]
theorem Av {call:Nat->List AV->M AV} (hc:gu P w0 call) (hfc:∀f a,Fr (call f a)) {N:Nat} {g:Operand} {ps:Array Nat} {nI body:Code} {E E':Env} {ex:Ex} {a:Act} {φ:Ph} {s s':Ob} {w:World} {n n':Nat} {r l1:Lg} {Q:Exit->Act->World->Prop}
  (e:xc P call N (.rangeFunc g ps nI body) E s n=.ok (ex,E') s' n' r l1) (h:Rel P w0 φ s w) (hE:bV φ N E a) (hf:Free φ n n') (hQ:∀ψ a' w',Rel P w0 ψ s' w'->Ext φ ψ n n'->φ.le ψ->bV ψ N E' a'->Q (kS ex) a' w'):Code.wp P (.rangeFunc g ps nI body) Q a w:=by
 obtain⟨i,s1,n1,r1,m1,r2,m2,e1,e2,rfl,rfl⟩:=ah (show(M.fresh >>= _) _ _=_ from e);obtain⟨rfl,rfl,rfl⟩:=pR e1;obtain⟨u,s2,n2,r3,m3,r4,m4,e3,e4,rfl,rfl⟩:=ah e2;obtain⟨rfl,_,rfl,jq,_⟩:=fQ e3;obtain⟨j,s3,n3,r5,m5,r6,m6,e5,e6,rfl,rfl⟩:=ah e4;obtain⟨rfl,rfl,rfl⟩:=pR e5;obtain⟨u2,s4,n4,r7,m7,r8,m8,e7,e8,rfl,rfl⟩:=ah e6;obtain⟨rfl,_,rfl,wM,_⟩:=fQ e7;obtain⟨fv,s5,n5,r9,m9,dX,m10,e9,e10,rfl,rfl⟩:=ah e8;obtain⟨rfl,rfl,Aw⟩:=(nu hE) _ _ _ _ _ _ _ _ e9;obtain⟨v,s6,n6,ng,m11,ni,m12,e11,e12,rfl,rfl⟩:=ah e10;obtain⟨o,s7,n7,pJ,m13,pK,m14,e13,e14,rfl,rfl⟩:=ah e12;obtain⟨hg,_,rfl,rfl⟩:=kH e13
 have ho:o=.sp true:=by
  cases o with
  | sp k=>cases k with
   | true=>rfl
   | false=>cases e14
  | _=>cases e14
 subst ho;obtain⟨u3,s8,n8,pU,m15,r16,m16,e16,e17,rfl,rfl⟩:=ah (show(M.put (i+1) 0 none >>= λ_=>(pure (Ex.bA,E.mark N i):M _)) _ _=_ from e14);obtain⟨rfl,_,rfl,_,_⟩:=fQ e16;obtain⟨hex,rfl,rfl⟩:=aj e17;cases hex
 unfold kg at e11
 split at e11
 ·rename_i ff x c
  have CO:=(hfc _ _ _ _ _ _ _ _ _ e11).le;have wN:φ i=none:=hf i (Nat.le_refl _) (by omega);have Ay:φ (i+1)=none:=hf (i+1) (by omega) (by omega);have R1:=pQ (P:=P) (w0:=w0) (O1:=.sp false) (o:=.deferred (some [])) h wN jq (by simp) (by simp) (by simp) (by simp) (λk hk=>by cases hk;exact⟨λ_=>rfl,λh=>by cases h⟩);have wO:dH φ i w.heap.size 0 (i+1)=none:=by rw[fT (by omega)];exact Ay
  refine wpIn_wide (n:=1) |>.1 (wpIn_rangeFunc λfn _=>?_)
  let jw:Loop:={ state:=.ready,pending:=none,fn:=fn,tmps:=a.tmps,params:=ps,assign:=nI,body:=body,defers:=w.heap.size }
  have R2:=pQ (P:=P) (w0:=w0) (O1:=.sp true) (o:=.loop jw) R1 wO wM (by simp) (by simp) (by simp) (by simp) (λk hk=>by cases hk;exact⟨λh=>(by cases h),λ_=>⟨jw,rfl,rfl,rfl⟩⟩);have hsz:(w.alloc (.deferred (some []))).heap.size=w.heap.size+1:=by simp
  rw[hsz] at R2;have iP:φ.le (dH (dH φ i w.heap.size 0) (i+1) (w.heap.size+1) 0):=Ph.le_trans (dW wN) (dW wO);have hj:dH (dH φ i w.heap.size 0) (i+1) (w.heap.size+1) 0 (i+1)=some (w.heap.size+1,0):=dM;have hi:dH (dH φ i w.heap.size 0) (i+1) (w.heap.size+1) 0 i=some (w.heap.size,0):=by rw[fT (by omega)];exact dM
  obtain⟨X,C,hX,hC,hV⟩:=wh Aw;have hargs:=iL (iL (jf iP x hX) (dO (Ar hj) (show ak _ []=some [] from rfl))) (jf iP c hC);obtain⟨k1,k2⟩:=hc ff _ _ _ _ _ _ _ _ _ _ _ R2 hargs e11 (λq h1 h2=>by
   rw[fT (by omega),fT (by omega)];exact hf q (by omega) h2)
  refine⟨w.heap.size+1,[{ target:=.collected w.heap.size,args:=#[] }],(w.alloc (.deferred (some []))).alloc (.loop jw),{ target:=.fn (.func ff) C.toArray,args:=X.toArray ++ #[.func (.yield (w.heap.size+1)) #[] #[]] },(w.alloc (.deferred (some []))).alloc (.loop jw),ff,X.toArray ++ #[.func (.yield (w.heap.size+1)) #[] #[]] ++ C.toArray,(w.alloc (.deferred (some []))).alloc (.loop jw),?_,?_,λ_ _=>trivial,?_,(λh=>by cases h),?_⟩
  ·show(Instr.enterLoop fn a.tmps ps nI body none).run P w=.ok _ ((w.alloc (.deferred (some []))).alloc (.loop jw))
   simp[Instr.enterLoop,jw,hsz]
  ·simp only[resolve,rangeCall,hV,Deferred.ofValue]
   simp[Act.eval]
  ·show(invoke (.fn (.func ff) C.toArray) _).run P _=_
   simp only[invoke];exact qb k1
  ·refine callsIn_wide.2 (Calls.mono (R:=λe w'=>∃V ψ,e=.returned V/\Rel P w0 ψ _ w'/\Ext _ ψ (i+1+1) _/\Ph.le _ ψ/\v.den ψ=some V) (by simpa using k2) ?_)
   rintro e' w' ⟨V,ψ,rfl,j1,j2,j3,j4⟩;have wP:=j3 _ _ hj;have Az:=j3 _ _ hi;obtain⟨b,y,ob,h1,h2,h3,h4⟩:=j1.sp _ _ hg;rw[wP] at h1;cases h1;obtain⟨rr,rfl,hr1,hr2⟩:=h4.2 rfl;refine⟨none,_,Au h3 hr1 hr2,?_⟩;refine hQ ψ _ _ (wK j1 wP (by rw[hg];simp) wM) ⟨by omega,λq hq=>?_⟩ (Ph.le_trans iP j3) ⟨hE.size,λt v ht hv=>?_,?_⟩
   ·rw[j2.out q (by omega),fT (by omega),fT (by omega)]
   ·unfold Env.mark at hv
    rw[T.get_put,if_neg (by omega)] at hv;obtain⟨V',v1,v2⟩:=hE.val t v ht hv;exact⟨V',AV.fO (Ph.le_trans iP j3) v v1,v2⟩
   ·have:marksOf (E.mark N i) N=.ptr i 0 :: marksOf E N:=by
     unfold marksOf Env.mark;rw[T.get_put,if_pos rfl];rfl
    rw[this];exact⟨⟨_,_,Az,rfl⟩,hE.marks.le (Ph.le_trans iP j3)⟩
 ·cases e11
/-- Code. -/
theorem nJ {call:Nat->List AV->M AV} (hfc:∀f a,Fr (call f a)) (hc:gu P w0 call) (hmx:P.follows .mixedOrders=true) {N:Nat}:∀(c:Code) (E:Env) (ex:Ex) (E':Env) (a:Act) (φ:Ph) (s s':Ob) (w:World) (n n':Nat) (r l1:Lg) (Q:Exit->Act->World->Prop),xc P call N c E s n=.ok (ex,E') s' n' r l1->Rel P w0 φ s w->bV φ N E a->Free φ n n' ->
  (∀ψ a' w',Rel P w0 ψ s' w'->Ext φ ψ n n'->φ.le ψ->bV ψ N E' a'->Q (kS ex) a' w')->c.wp P Q a w:=by
 intro c
 induction c with
 | skip =>
  intro E ex E' a φ s s' w n n' r l1 Q e h hE hf hQ;obtain⟨h1,rfl,rfl⟩:=aj (show(pure (Ex.bA,E):M _) _ _=_ from e);cases h1;exact wp_skip (hQ φ a w h (.refl _ _) (Ph.le_refl _) hE)
 | label l =>
  intro E ex E' a φ s s' w n n' r l1 Q e h hE hf hQ;obtain⟨h1,rfl,rfl⟩:=aj (show(pure (Ex.bA,E):M _) _ _=_ from e);cases h1;exact wp_label (hQ φ a w h (.refl _ _) (Ph.le_refl _) hE)
 | exit id =>
  intro E ex E' a φ s s' w n n' r l1 Q e h hE hf hQ;obtain⟨h1,rfl,rfl⟩:=aj (show(pure (Ex.ext id,E):M _) _ _=_ from e);cases h1;exact wp_exit (hQ φ a w h (.refl _ _) (Ph.le_refl _) hE)
 | ret =>
  intro E ex E' a φ s s' w n n' r l1 Q e h hE hf hQ;obtain⟨h1,rfl,rfl⟩:=aj (show(pure (Ex.ret,E):M _) _ _=_ from e);cases h1;exact wp_ret (hQ φ a w h (.refl _ _) (Ph.le_refl _) hE)
 | region id ops dr =>
  intro E ex E' a φ s s' w n n' r l1 Q e h hE hf hQ;have e1:=qd (show M.tag _ _ _ _=_ from e);cases dr with
  | true =>
   obtain⟨dt,s1,n1,r1,m1,r2,m2,e2,e3,rfl,rfl⟩:=ah (show(M.opt 135 (iF N ops.toList 0 .e) >>= _) _ _=_ from e1);obtain⟨hdt,rfl,rfl⟩:=aF e2;obtain⟨cl,s2,n2,r3,m3,r4,m4,e4,e5,rfl,rfl⟩:=ah e3;obtain⟨hcl,rfl,rfl⟩:=aF e4;obtain⟨E1,s3,n3,r5,m5,r6,m6,e6,e7,rfl,rfl⟩:=ah e5;obtain⟨h1,rfl,rfl⟩:=aj e7;cases h1;exact Al hfc hc hmx hdt hcl e6 h hE hf hQ
  | false =>
   obtain⟨E1,s3,n3,r5,m5,r6,m6,e6,e7,rfl,rfl⟩:=ah (show(mF P call N ops.toList ops.toList E >>= _) _ _=_ from e1);obtain⟨h1,rfl,rfl⟩:=aj e7;cases h1;refine wp_region ?_;have:=rO (Q:=Q) hfc hc ops.toList 0 E E' a φ s s' w n n' _ _ rfl e6 h hE hf hQ
   rwa [Array.length_toList,← List.range_eq_range'] at this
 | seq x y nK ihy =>
  intro E ex E' a φ s s' w n n' r l1 Q e h hE hf hQ;obtain⟨z,s1,n1,r1,m1,r2,m2,e1,e2,rfl,rfl⟩:=ah (show(xc P call N x E >>= _) _ _=_ from e);obtain⟨nH,E1⟩:=z;have rP:=(mV P hfc N x E _ _ _ _ _ _ _ e1).le;refine wp_seq ?_;cases nH with
  | bA =>
   have e2':xc P call N y E1 s1 n1=.ok (ex,E') s' n' r2 m2:=e2;have iP:=(mV P hfc N y E1 _ _ _ _ _ _ _ e2').le;refine nK E .bA E1 a φ s s1 w n n1 r1 m1 _ e1 h hE (λi h1 h2=>hf i h1 (by omega)) λψ a' w' k1 k2 k3 k4=>?_;exact ihy E1 ex E' a' ψ s1 s' w' n1 n' r2 m2 Q e2' k1 k4 (λi h1 h2=>by rw[k2.out i (by omega)];exact hf i (by omega) h2) λχ a'' w'' j1 j2 j3 j4=>hQ χ a'' w'' j1 (k2.trans j2) (Ph.le_trans k3 j3) j4
  | ext i =>
   obtain⟨h1,rfl,rfl⟩:=aj (show(pure (Ex.ext i,E1):M _) _ _=_ from e2);cases h1;exact nK E (.ext i) E' a φ s s' w n n' r1 m1 _ e1 h hE hf λψ a' w' k1 k2 k3 k4=>hQ ψ a' w' k1 k2 k3 k4
  | ret =>
   obtain⟨h1,rfl,rfl⟩:=aj (show(pure (Ex.ret,E1):M _) _ _=_ from e2);cases h1;exact nK E .ret E' a φ s s' w n n' r1 m1 _ e1 h hE hf λψ a' w' k1 k2 k3 k4=>hQ ψ a' w' k1 k2 k3 k4
 | cond c x y nK ihy =>
  intro E ex E' a φ s s' w n n' r l1 Q e h hE hf hQ;obtain⟨v,s1,n1,r1,m1,r2,m2,e1,e2,rfl,rfl⟩:=ah (show(env N E c >>= _) _ _=_ from e);obtain⟨rfl,rfl,hv⟩:=(nu hE) _ _ _ _ _ _ _ _ e1
  split at e2
  ·have:=bF hv
   exact wp_cond_true this (nK E ex E' a φ _ s' w _ n' r2 m2 Q e2 h hE hf hQ)
  ·have:=bF hv
   exact wp_cond_false this (ihy E ex E' a φ _ s' w _ n' r2 m2 Q e2 h hE hf hQ)
  ·cases e2
 | block id x ih =>
  intro E ex E' a φ s s' w n n' r l1 Q e h hE hf hQ;obtain⟨z,s1,n1,r1,m1,r2,m2,e1,e2,rfl,rfl⟩:=ah (show(xc P call N x E >>= _) _ _=_ from e);obtain⟨nH,E1⟩:=z;refine wp_block ?_;cases nH with
  | bA =>
   obtain⟨h1,rfl,rfl⟩:=aj (show(pure (Ex.bA,E1):M _) _ _=_ from e2);cases h1;exact ih E .bA E' a φ s s' w n n' r1 m1 _ e1 h hE hf λψ a' w' k1 k2 k3 k4=>hQ ψ a' w' k1 k2 k3 k4
  | ret =>
   obtain⟨h1,rfl,rfl⟩:=aj (show(pure (Ex.ret,E1):M _) _ _=_ from e2);cases h1;exact ih E .ret E' a φ s s' w n n' r1 m1 _ e1 h hE hf λψ a' w' k1 k2 k3 k4=>hQ ψ a' w' k1 k2 k3 k4
  | ext j =>
   cases hj:Nat.beq j id with
   | true =>
    have e3:cond (Nat.beq j id) (pure (Ex.bA,E1)) (pure (Ex.ext j,E1):M _) s1 n1=.ok (ex,E') s' n' r2 m2:=e2;rw[hj] at e3;obtain⟨h1,rfl,rfl⟩:=aj (show(pure (Ex.bA,E1):M _) _ _=_ from e3);cases h1;refine ih E (.ext j) E' a φ s s' w n n' r1 m1 _ e1 h hE hf λψ a' w' k1 k2 k3 k4=>?_;simp only[kS,Exit.inBlock,Nat.eq_of_beq_eq_true hj,if_true];exact hQ ψ a' w' k1 k2 k3 k4
   | false =>
    have e3:cond (Nat.beq j id) (pure (Ex.bA,E1)) (pure (Ex.ext j,E1):M _) s1 n1=.ok (ex,E') s' n' r2 m2:=e2;rw[hj] at e3;obtain⟨h1,rfl,rfl⟩:=aj (show(pure (Ex.ext j,E1):M _) _ _=_ from e3);cases h1;refine ih E (.ext j) E' a φ s s' w n n' r1 m1 _ e1 h hE hf λψ a' w' k1 k2 k3 k4=>?_;have hne:¬j=id:=λh=>by rw[h,Nat.beq_refl] at hj;cases hj
    simp only[kS,Exit.inBlock,hne,if_false];exact hQ ψ a' w' k1 k2 k3 k4
 | loop x ih =>
  intro E ex E' a φ s s' w n n' r l1 Q e h hE hf hQ b kk cs;have hne:ex≠.bA->_:=λ_=>trivial;obtain⟨e1,a1,w1,q1,q2⟩:=wL (P:=P) (w0:=w0) (N:=N) (Q:=Q) (c:=x) (mV P hfc N x) ih 4000 E ex E' a φ s s' w n n' r l1 e h hE hf (λψ a' w' k1 k2 k3 k4 _=>hQ ψ a' w' k1 k2 k3 k4) b kk cs;exact⟨e1,a1,w1,q1,.of_steps (.one step_loop) q2⟩
 | scope x ih =>
  intro E ex E' a φ s s' w n n' r l1 Q e h hE hf hQ;refine wp_scope_straight (ih E ex E' a φ s s' w n n' r l1 _ e h hE hf λψ a' w' k1 k2 k3 k4=>?_);cases ex <;> exact hQ ψ a' w' k1 k2 k3 k4
 | rangeFunc g ps nI body _ _ =>
  intro E ex E' a φ s s' w n n' r l1 Q e h hE hf hQ;exact Av hc hfc e h hE hf hQ
 | goto l=>intro E ex E' a φ s s' w n n' r l1 Q e;cases e
 | refuse y=>intro E ex E' a φ s s' w n n' r l1 Q e;cases e
/-- The results. -/
def nL (tmps:Array Value):ResultVar->Sem Value
 | .tmp t=>pure (tmps.getD t undef)
 | .cell c t=>do loadVar t (← asAddr (tmps.getD c undef))
theorem AA (fn:Func) (tmps:Array Value):results fn tmps=(do let vs ← fn.results.mapM (nL tmps);pure (if h:vs.size=1 then vs[0] else .tuple vs)):=by
 unfold results
 congr 2
theorem sF {N:Nat} {E:Env} {a:Act} {φ:Ph} {w:World} (hE:bV φ N E a):∀ {l:List ResultVar} {vs:List AV} {s s':Ob} {n n':Nat} {r l1:Lg},Rel P w0 φ s w->kD P N E l s n=.ok vs s' n' r l1 ->
  s'=s/\n'=n/\∃VS,ak φ vs=some VS/\(l.mapM (nL a.tmps)).run P w=.ok VS w
 | [],vs,s,s',n,n',r,l1,h,e=>by
  obtain⟨rfl,rfl,rfl⟩:=aj (show(pure []:M _) _ _=_ from e);exact⟨rfl,rfl,[],rfl,by simp⟩
 | .tmp t :: l,vs,s,s',n,n',r,l1,h,e=>by
  obtain⟨v,s1,n1,r1,m1,r2,m2,e1,e2,rfl,rfl⟩:=ah (show(env N E (.tmp t) >>= _) _ _=_ from e);obtain⟨rfl,rfl,hv⟩:=(nu hE) _ _ _ _ _ _ _ _ e1;obtain⟨y,s2,n2,r3,m3,r4,m4,e3,e4,rfl,rfl⟩:=ah e2;obtain⟨rfl,rfl,VS,h1,h2⟩:=sF hE h e3;obtain⟨rfl,rfl,rfl⟩:=aj e4;refine⟨rfl,rfl,_,dO hv h1,?_⟩;simp only[List.mapM_cons,nL,Sem.run_bind,Sem.run_pure,Result.andThen_ok,h2,Act.eval]
 | .cell c t :: l,vs,s,s',n,n',r,l1,h,e=>by
  obtain⟨v0,s0,n0,r0,m0,nk,vT,e0,eP,rfl,rfl⟩:=ah (show(env N E (.tmp c) >>= _) _ _=_ from e);obtain⟨rfl,rfl,hv0⟩:=(nu hE) _ _ _ _ _ _ _ _ e0;obtain⟨v,s1,n1,r1,m1,r2,m2,e1,e2,rfl,rfl⟩:=ah eP;obtain⟨p,s3,n3,r5,m5,r6,m6,e5,e6,rfl,rfl⟩:=ah (show(iC v0 >>= λp=>lC P t p.1 p.2) _ _=_ from e1);obtain⟨rfl,rfl,rfl⟩:=kM e5;obtain⟨b,x,hp,hV⟩:=eH hv0;obtain⟨rfl,rfl,V,hv,hl⟩:=vH h hp e6;obtain⟨y,s2,n2,r3,m3,r4,m4,e3,e4,rfl,rfl⟩:=ah e2;obtain⟨rfl,rfl,VS,h1,h2⟩:=sF hE h e3;obtain⟨rfl,rfl,rfl⟩:=aj e4;refine⟨rfl,rfl,_,dO hv h1,?_⟩;have hV':a.tmps.getD c undef=.pointer (some ⟨b,p.2,none⟩):=hV
  simp only[List.mapM_cons,nL,Sem.run_bind,hV',asAddr,Sem.run_pure,Result.andThen_ok,hl,h2]
theorem sG:∀(l:List AV) (E:Env) (k t:Nat),T.get (jc E k l) t=if k<=t/\t < k+l.length then l[t - k]? else T.get E t
 | [],E,k,t=>by rw[if_neg (λh=>by simp at h;omega)];rfl
 | v :: l,E,k,t=>by
  show T.get (jc (T.put E k (some v)) (Nat.succ k) l) t=_;rw[sG l,T.get_put];simp only[List.length_cons]
  by_cases h:k+1<=t/\t < k+1+l.length
  ·rw[if_pos h,if_pos (by omega),show t - k=(t - (k+1))+1 by omega,List.getElem?_cons_succ]
  ·rw[if_neg h]
   by_cases e:t=k
   ·subst e;rw[if_pos rfl,if_pos (by omega),Nat.sub_self];rfl
   ·rw[if_neg e,if_neg (by omega)]
theorem AB {α:Type} {m:M α} {x:α} {s s':Ob} {n n':Nat} {r l1:Lg} (h:M.own m s n=.ok x s' n' r l1):∃r' l',m s n=.ok x s' n' r' l':=by
 unfold M.own at h;cases hm:m s n with
 | no e=>rw[hm] at h;cases h
 | ok a s1 n1 r1 w1=>rw[hm] at h;cases h;exact⟨r1,w1,rfl⟩
theorem AJ {w:World} {b:Nat} (h:w.heap[b]?=some (.deferred (some []))):(Instr.takeDeferred b).run P w=.ok [] { w with heap:=w.heap.setIfInBounds b (.deferred none) }:=by
 have hg:(getObj b).run P w=.ok (.deferred (some [])) w:=by simp[getObj,Sem.run,h]
 have hs:∀o,(setObj b o).run P w=.ok () { w with heap:=w.heap.setIfInBounds b o }:=λo=>by simp[setObj,Sem.run,h]
 simp[Instr.takeDeferred,hg,hs]
/-- The way out. -/
theorem AL {fn:Func} {E:Env} {a:Act} {φ:Ph} (hE:bV φ fn.ntmps E a) {v:AV} {n n':Nat} {s':Ob} {r1 r2 m1 m2:Lg} {R:Ending->World->Prop} (hR:∀V w',Rel P w0 φ s' w'->v.den φ=some V->R (.returned V) w') :
  ∀(l:List AV) (ds:List Deferred) (s s1:Ob) (w:World) (n1:Nat) (u:Unit),jr φ l ds->Rel P w0 φ s w->leave l s n=.ok u s1 n1 r1 m1->oq P E fn s1 n1=.ok v s' n' r2 m2->n'=n/\LeavesInM Fence.wide 0 P fn a.tmps R ds .returning w:=by
 intro l
 induction l generalizing r1 m1 with
 | nil =>
  intro ds s s1 w n1 u hm h e1 e2;obtain⟨-,rfl,rfl⟩:=aj (show(pure ():M _) _ _=_ from e1);cases ds with
  | cons d ds=>exact hm.elim
  | nil =>
   obtain⟨vs,s2,n2,r3,m3,r4,m4,e3,e4,rfl,rfl⟩:=ah (show(kD P fn.ntmps E fn.results.toList >>= _) _ _=_ from e2);obtain⟨rfl,rfl,VS,h1,h2⟩:=sF hE h e3;have hr:∀V,(∃q,VS=q/\V=(if h:q.toArray.size=1 then q.toArray[0] else .tuple q.toArray))->(results fn a.tmps).run P w=.ok V w:=by
    rintro V ⟨q,rfl,rfl⟩;rw[AA,Sem.run_bind,Array.mapM_eq_mapM_toList];rw[show(List.toArray <$> fn.results.toList.mapM (nL a.tmps)).run P w=.ok VS.toArray w by rw[← bind_pure_comp,Sem.run_bind,h2];simp];simp only[Result.andThen_ok,Sem.run_pure]
   match vs,h1,e4 with
   | [],h1,e4 =>
    obtain⟨rfl,rfl,rfl⟩:=aj (show(pure (AV.bG []):M _) _ _=_ from e4);simp only[ak] at h1;cases h1;exact⟨rfl,_,hr _ ⟨_,rfl,rfl⟩,hR _ _ h (by simp[AV.den,ak])⟩
   | [x],h1,e4 =>
    obtain⟨rfl,rfl,rfl⟩:=aj (show(pure x:M _) _ _=_ from e4);obtain⟨V,L,hV,hL,rfl⟩:=dx h1;simp only[ak] at hL;cases hL;exact⟨rfl,_,hr _ ⟨_,rfl,rfl⟩,hR _ _ h (by simpa using hV)⟩
   | x :: y :: l',h1,e4 =>
    obtain⟨rfl,rfl,rfl⟩:=aj (show(pure (AV.bG (x :: y :: l')):M _) _ _=_ from e4);obtain⟨V,L,hV,hL,rfl⟩:=dx h1;obtain⟨V2,L2,hV2,hL2,rfl⟩:=dx hL;exact⟨rfl,_,hr _ ⟨_,rfl,rfl⟩,hR _ _ h (by simp[AV.den,h1])⟩
 | cons v0 l ih =>
  intro ds s s1 w n1 u hm h e1 e2;cases v0 with
  | ptr i o =>
   cases ds with
   | nil=>exact hm.elim
   | cons d ds =>
    obtain⟨⟨b,x,hp,rfl⟩,hm'⟩:=hm;obtain⟨q,s2,n2,r3,m3,r4,m4,e3,e4,rfl,rfl⟩:=ah (show(M.get i 0 >>= _) _ _=_ from e1);obtain⟨hg,hi,rfl,rfl⟩:=kH e3;have hq:q=.sp false:=by
     cases q with
     | sp k=>cases k with
      | false=>rfl
      | true=>cases e4
     | _=>cases e4
    subst hq;obtain⟨u2,s3,n3,r5,m5,r6,m6,e5,e6,rfl,rfl⟩:=ah (show(M.put i 0 none >>= λ_=>leave l) _ _=_ from e4);obtain⟨rfl,_,rfl,jq,_⟩:=fQ e5;obtain⟨b',y,ob,h1,h2,h3,h4⟩:=h.sp _ _ hg;rw[hp] at h1;cases h1;have AO:=h4.1 rfl;subst AO;obtain⟨k1,k2⟩:=ih ds _ s1 { w with heap:=w.heap.setIfInBounds b (.deferred none) } n1 u hm' (wK h hp (by rw[hg];simp) jq) e6 e2;exact⟨k1,by simp,.inl ⟨b,_,rfl,AJ h3,k2⟩⟩
  | _=>cases e1
/-- Calls. -/
theorem sH (hmx:P.follows .mixedOrders=true):∀d,gu P w0 (mJ P d)
 | 0=>λf l L φ s w n v s' n' r m h hl e hf=>by cases e
 | d+1=>λf l L φ s w n v s' n' r m h hl e hf=>by
  obtain⟨r',m',e0⟩:=AB (show M.own _ s n=_ from e);have e1:=qd e0;obtain⟨fn,s1,n1,r1,m1,r2,m2,e2,e3,rfl,rfl⟩:=ah (show(M.opt 123 P.funcs[f]? >>= _) _ _=_ from e1);obtain⟨hfn,rfl,rfl⟩:=aF e2;obtain⟨c,s2,n2,r3,m3,r4,m4,e4,e5,rfl,rfl⟩:=ah e3;obtain⟨hb,rfl,rfl⟩:=aF e4
  cases hk : or (fn.name == "runtime.NumGoroutine") (not (Nat.ble l.length fn.ntmps)) with
  | true=>rw[hk] at e5;cases e5
  | false =>
   rw[hk] at e5;simp only[Bool.or_eq_false_iff,Bool.not_eq_false'] at hk;have hle:=Nat.le_of_ble_eq_true hk.2;obtain⟨z,s3,n3,r5,m5,r6,m6,e6,e7,rfl,rfl⟩:=ah (show(xc P (mJ P d) fn.ntmps c (jc .e 0 l) >>= _) _ _=_ from e5);obtain⟨ex,E⟩:=z;have rP:=(mV P (mW P d) fn.ntmps c _ _ _ _ _ _ _ _ e6).le;have e8:ex≠.ext 0->True:=λ_=>trivial;refine⟨⟨fn,hfn,by rw[hb];rfl,hk.1⟩,?_⟩;have hL:=dV hl;have hE:bV φ fn.ntmps (jc .e 0 l) { tmps:=L.toArray ++ Array.replicate (fn.ntmps - L.toArray.size) undef,defers:=[] }:=by
    refine⟨by simp;omega,λt u ht hu=>?_,?_⟩
    ·rw[sG] at hu
     by_cases hin:0<=t/\t < 0+l.length
     ·rw[if_pos hin] at hu
      obtain⟨V,h1,h2⟩:=mO hl t u (by simpa using hu);refine⟨V,h1,?_⟩;simp only;rw[Array.getElem?_append_left (by simp;omega)];simpa using h2
     ·rw[if_neg hin,T.iG] at hu;cases hu
    ·have:marksOf (jc .e 0 l) fn.ntmps=[]:=by
      unfold marksOf;rw[sG,if_neg (by omega),T.iG]
     rw[this];trivial
   refine callsIn_wide (n:=0) |>.1 (callsIn_of_wp_marks hfn hb trivial (wpIn_wide.2 ?_) rfl)
   have fin:∀(wQ wR:Lg),mI P E fn s3 n3=.ok v s' n' wQ wR->∀(ψ:Ph) (a':Act) (w':World),Rel P w0 ψ s3 w'->Ext φ ψ n2 n3->φ.le ψ->bV ψ fn.ntmps E a'->LeavesInM Fence.wide 0 P fn a'.tmps (λe w'=>∃V ψ,e=.returned V/\Rel P w0 ψ s' w'/\Ext φ ψ n2 n'/\φ.le ψ/\v.den ψ=some V) a'.defers .returning w':=by
    intro wQ wR e9 ψ a' w' k1 k2 k3 k4;obtain⟨u,s4,n4,r7,m7,r8,m8,e10,e11,rfl,rfl⟩:=ah (show(leave (marksOf E fn.ntmps) >>= λ_=>oq P E fn) _ _=_ from e9);have hxe:=λR hR=>AL (P:=P) (w0:=w0) (R:=R) k4 (v:=v) (s':=s') (n:=n3) (n':=n') hR (marksOf E fn.ntmps) a'.defers s3 s4 w' n4 u k4.marks k1 e10 e11;have hn:n'=n3:=(hxe (λ_ _=>True) λ_ _ _ _=>trivial).1;subst hn;exact(hxe _ λV w'' j1 j2=>⟨V,ψ,rfl,j1,k2,k3,j2⟩).2
   cases ex with
   | ext i=>cases e7
   | bA =>
    have hle2:=(oW P E fn _ _ _ _ _ _ _ (show mI P E fn s3 n3=.ok v s' n' r6 m6 from e7)).le;exact nJ (mW P d) (sH hmx d) hmx c _ _ _ _ φ _ _ _ _ _ _ _ _ e6 h hE (λi h1 h2=>hf i h1 (by omega)) λψ a' w' k1 k2 k3 k4=>fin _ _ e7 ψ a' w' k1 k2 k3 k4
   | ret =>
    have hle2:=(oW P E fn _ _ _ _ _ _ _ (show mI P E fn s3 n3=.ok v s' n' r6 m6 from e7)).le;exact nJ (mW P d) (sH hmx d) hmx c _ _ _ _ φ _ _ _ _ _ _ _ _ e6 h hE (λi h1 h2=>hf i h1 (by omega)) λψ a' w' k1 k2 k3 k4=>fin _ _ e7 ψ a' w' k1 k2 k3 k4
end
/- FnAborts: its three scripts, as the executor runs them. -/
section
variable {P : Program} {w0 : World}
theorem AP (w0:World):Rel P w0 (λ_=>none) .e w0:=by
 have h:∀i p,Ob.get .e i p=none:=λi p=>rfl;exact⟨.refl _ _,(λi t e n op hi=>by rw[h] at hi;cases hi),(λi es c hi=>by rw[h] at hi;cases hi),(λi m a l k hi=>by rw[h] at hi;cases hi),(λi k hi=>by rw[h] at hi;cases hi),(λi v hv=>by rw[h] at hv;cases hv),λi p hp=>absurd (h i p) hp,λi j b x y hi=>absurd (h i 0) hi⟩
/-- Where nothing that was there turns. -/
theorem Rel.under {φ:Ph} {s:Ob} {w w':World} (h:Rel P w0 φ s w) (hb:Below w.heap.size w w'):Rel P w0 φ s w':=by
 have lt:∀ {b:Nat} {o:Obj},w.heap[b]?=some o->w'.heap[b]?=some o:=fun {b o} hh=>(hb.block b (by
  rcases Nat.lt_or_ge b w.heap.size with h | h
  ·exact h
  ·rw[Array.getElem?_eq_none h] at hh;cases hh)).trans hh
 refine⟨h.base.trans (hb.mono h.base.size),λi t e k op hi=>?_,λi es c hi=>?_,λi m a l k hi=>?_,λi k hi=>?_,h.head,h.dom,h.inj⟩
 ·obtain⟨b,x,C,fz,R⟩:=h.row i t e k op hi
  exact⟨b,x,C,fz,R.ph,R.le,lt R.heap,R.size,R.shut,R.fz,R.sz,R.cell⟩
 ·obtain⟨b,x,ES,h1,h2,h3,h4⟩:=h.map i es c hi;exact⟨b,x,ES,h1,h2,lt h3,h4⟩
 ·obtain⟨b,x,m',y,h1,h2,h3,h4⟩:=h.it i m a l k hi;exact⟨b,x,m',y,h1,h2,h3,lt h4⟩
 ·obtain⟨b,x,o,h1,h2,h3,h4⟩:=h.sp i k hi;exact⟨b,x,o,h1,h2,lt h3,h4⟩
end
def gY:Code->Code
 | .seq a _=>a
 | c=>c
def gZ:Code->Code
 | .seq _ b=>b
 | c=>c
def opsOf:Code->Array Oper
 | .region _ ops _=>ops
 | _=>#[]
noncomputable def fq:Code:=(Tryz.f3.body).getD .skip
noncomputable def tailA:Code:=gZ (gZ (gZ fq))
noncomputable def fE:Array Oper:=opsOf (gY (gZ (gZ fq)))
noncomputable def ig:Nat->List AV->M AV:=mJ Tryz.prog 100
/-- The script, by the number that the code gives; v: what came in. -/
noncomputable def sI (v:Value):Rs (Ex × Env):=xc Tryz.prog ig 65 (.seq (gY fq) (gY (gZ fq))) (T.put .e 0 (some (.sc v))) .e 0
noncomputable def AQ (E:Env) (k:Nat) (u:AV):Env:=(((E.set (some 9) u).set (some 10) .bad).set (some 11) .bad).set (some 12) (.sc (.int .i64 k))
noncomputable def sJ (k:Nat) (E:Env) (u:AV) (s:Ob) (n:Nat):Rs Env:=mF Tryz.prog ig 65 fE.toList (fE.toList.drop 4) (AQ E k u) s n
noncomputable def sK:Rs (Ex × Env)->Bool
 | .ok (.ret,E) _ _ _ _=>(match T.get E 2 with | some (.sc (.bool true))=>true | _=>false) && (match T.get E 65 with | none=>true | _=>false)
 | _=>false
/-- It ends with true; what came in still lies in its slot. -/
noncomputable def kT (v:Value) (k:Nat):Option AV:=match sI v with
 | .ok (.bA,E) s n _ _=>(match T.get E 3 with
  | some u=>(match sJ k E u s n with
   | .ok E2 s2 n2 _ _=>cond (sK (xc Tryz.prog ig 65 tailA E2 s2 n2)) (T.get E 0) none
   | .no _=>none)
  | none=>none)
 | _=>none
end Go.Proofs.YthimlcpingkndaaGreatDoor
