/- The proof's texts, part 46. -/
import Derived.Deep.Light
import Derived.Scope
import Derived.RangeFuncLeaves
import Derived.Test.YtfabngnaejjcmaaGreatDoorTG
namespace Go.Proofs.YtfabngnaejjcmaaGreatDoor
open Go.RowKit
set_option linter.unusedVariables false
set_option linter.unusedSimpArgs false
/- What wE of package spec does of kind 9. -/
/- Code and calls: what the executor answers holds of the machine's own run. -/
section
variable {P : Program} {w0 : World}
def CK:Ex->Exit
 | .gu=>.normal
 | .ext i=>.exit i
 | .ret=>.ret
/-- An object that is not looked at again: its block may turn. -/
theorem YM {φ:Ph} {s:Ob} {w:World} {i b x:Nat} {o:Obj} (h:Rel P w0 φ s w) (hp:φ i=some (b,x)) (hg:s.get i 0≠none) (hi:i < 16000000):Rel P w0 φ (s.put i 0 none) { w with heap:=w.heap.setIfInBounds b o }:=by
 have hB:=(h.there hg hp).2;have gp:∀j q,(s.put i 0 none).get j q=if j=i/\q=0 then none else s.get j q:=λj q=>Ob.get_put hi (by omega)
 have g0:(s.put i 0 none).get i 0=none:=by rw[gp,if_pos ⟨rfl,rfl⟩]
 have hW:∀k,k≠b->(w.heap.setIfInBounds b o)[k]?=w.heap[k]?:=λk hk=>by simp[Array.getElem?_setIfInBounds,show ¬b=k from λe=>hk e.symm]
 exact h.but (j:=i) (b:=b) (Ph.le_refl _) ⟨h.base.os,h.base.tape,h.base.output,by have:=h.base.size;simpa using this,λk hk=>(hW k (by omega)).trans (h.base.block k hk)⟩ (λk hk _=>hW k hk) (λi' p hne=>by rw[gp,if_neg (by omega)]) (λ_ _=>rfl)
  (λi' y hne ha hb=>hne (h.inj i' i b y x ha hg hb hp)) (λv' hv'=>by rw[g0] at hv';cases hv') (λp _=>by rw[hp];simp) (λc y hc _=>absurd g0 hc) (λt' e' k' op' hg'=>by rw[g0] at hg';cases hg') (λes c hg'=>by rw[g0] at hg';cases hg') (λm a l c hg'=>by rw[g0] at hg';cases hg')
theorem YN {c:Code} {f:Env->M (Ex × Env)} (Qd:∀E,aC (f E)) {N:Nat} {Q:Exit->Act->World->Prop}
  (hb:∀E ex E' a φ s s' w n n' r l1 (Q:Exit->Act->World->Prop),f E s n=.ok (ex,E') s' n' r l1->Rel P w0 φ s w->iG φ N E a->Free φ n n'->(∀ψ a' w',Rel P w0 ψ s' w'->Ext φ ψ n n'->φ.le ψ->iG ψ N E' a'->Q (CK ex) a' w')->c.wp P Q a w) :
  ∀(k:Nat) (E:Env) (ex:Ex) (E':Env) (a:Act) (φ:Ph) (s s':Ob) (w:World) (n n':Nat) (r l1:Lg),Ev f k E s n=.ok (ex,E') s' n' r l1->Rel P w0 φ s w->iG φ N E a->Free φ n n' ->
   (∀ψ a' w',Rel P w0 ψ s' w'->Ext φ ψ n n'->φ.le ψ->iG ψ N E' a'->ex≠.gu->Q (CK ex) a' w') ->
   ∀(b:Frame) (kk:List Item) (cs:List Frame),∃e a' w',Q e a' w'/\Arrives P (lone (b.at a (.code c :: .inLoop c :: kk)) cs w) b kk cs e a' w'
 | 0,E,ex,E',a,φ,s,s',w,n,n',r,l1,e,_,_,_,_,_,_,_=>by cases e
 | k+1,E,ex,E',a,φ,s,s',w,n,n',r,l1,e,h,hE,hf,hQ,b,kk,cs=>by
  obtain⟨x,s1,n1,r1,m1,r2,m2,e1,e2,rfl,rfl⟩:=ak (show(f E >>= _) _ _=_ from e);obtain⟨Gs,E1⟩:=x;have PK:=(Qd E _ _ _ _ _ _ _ e1).le;cases Gs with
  | gu =>
   have e2':Ev f k E1 s1 n1=.ok (ex,E') s' n' r2 m2:=e2;have xV:=(Ml Qd k E1 _ _ _ _ _ _ _ e2').le;obtain⟨ee,a1,w1,q1,q2⟩:=hb E .gu E1 a φ s s1 w n n1 r1 m1 (λee a' w'=>ee=.normal/\∃ψ,Rel P w0 ψ s1 w'/\Ext φ ψ n n1/\φ.le ψ/\iG ψ N E1 a') e1 h hE (λi h1 h2=>hf i h1 (by omega)) (λψ a' w' h1 h2 h3 h4=>⟨rfl,ψ,h1,h2,h3,h4⟩) b (.inLoop c :: kk) cs;obtain⟨rfl,ψ,k1,k2,k3,k4⟩:=q1
   obtain⟨e3,a3,w3,p1,p2⟩:=YN Qd hb k E1 ex E' a1 ψ s1 s' w1 n1 n' r2 m2 e2' k1 k4 (λi h1 h2=>by rw[k2.out i (by omega)];exact hf i (by omega) h2) (λχ a' w' j1 j2 j3 j4 j5=>hQ χ a' w' j1 (k2.trans j2) (Ph.le_trans k3 j3) j4 j5) b kk cs;exact⟨e3,a3,w3,p1,.of_steps (Steps.trans q2 (.one step_inLoop)) p2⟩
  | ext i =>
   obtain⟨h1,rfl,rfl⟩:=aF (show(pure (Ex.ext i,E1):M _) _ _=_ from e2);cases h1
   obtain⟨ee,a1,w1,q1,q2⟩:=hb E (.ext i) E' a φ s s' w n n' r1 m1 (λee a' w'=>ee=.exit i/\Q ee a' w') e1 h hE hf (λψ a' w' h1 h2 h3 h4=>⟨rfl,hQ ψ a' w' h1 h2 h3 h4 (by simp)⟩) b (.inLoop c :: kk) cs;obtain⟨rfl,q1⟩:=q1;exact⟨_,a1,w1,q1,.pass (x:=.inLoop c) rfl (λ_ _=>.inl (by simp)) q2⟩
  | ret =>
   obtain⟨h1,rfl,rfl⟩:=aF (show(pure (Ex.ret,E1):M _) _ _=_ from e2);cases h1
   obtain⟨ee,a1,w1,q1,q2⟩:=hb E .ret E' a φ s s' w n n' r1 m1 (λee a' w'=>ee=.ret/\Q ee a' w') e1 h hE hf (λψ a' w' h1 h2 h3 h4=>⟨rfl,hQ ψ a' w' h1 h2 h3 h4 (by simp)⟩) b (.inLoop c :: kk) cs;obtain⟨rfl,q1⟩:=q1;exact⟨_,a1,w1,q1,.pass (x:=.inLoop c) rfl (λ_ _=>.inl (by simp)) q2⟩
theorem ah1 {φ:Ph} {j b x:Nat} (h:φ j=some (b,x)):(AV.wG j).den φ=some (.func (.yield b) #[] #[]):=by simp[AV.den,h]
theorem ah2 {w:World} {b:Nat} {r:Loop} (h:w.heap[b]?=some (.loop r)) (h1:r.state=.ready) (h2:r.pending=none):(Instr.endLoop b).run P w=.ok none { w with heap:=w.heap.setIfInBounds b (.loop { r with state:=.exhausted }) }:=by
 have hg:(getObj b).run P w=.ok (.loop r) w:=by simp[getObj,Sem.run,h]
 have hs:∀o,(setObj b o).run P w=.ok () { w with heap:=w.heap.setIfInBounds b o }:=λo=>by simp[setObj,Sem.run,h]
 simp[Instr.endLoop,Instr.getLoop,hg,h1,hs,h2]
theorem ah3 {call:Nat->List AV->M AV} (hc:vo P w0 call) (hfc:∀f a,aC (call f a)) {N:Nat} {g:Operand} {ps:Array Nat} {Gt body:Code} {E E':Env} {ex:Ex} {a:Act} {φ:Ph} {s s':Ob} {w:World} {n n':Nat} {r l1:Lg} {Q:Exit->Act->World->Prop}
  (e:xc P call N (.rangeFunc g ps Gt body) E s n=.ok (ex,E') s' n' r l1) (h:Rel P w0 φ s w) (hE:iG φ N E a) (hf:Free φ n n') (hQ:∀ψ a' w',Rel P w0 ψ s' w'->Ext φ ψ n n'->φ.le ψ->iG ψ N E' a'->Q (CK ex) a' w'):Code.wp P (.rangeFunc g ps Gt body) Q a w:=by
 obtain⟨i,s1,n1,r1,m1,r2,m2,e1,e2,rfl,rfl⟩:=ak (show(M.fresh >>= _) _ _=_ from e);obtain⟨rfl,rfl,rfl⟩:=Jg e1;obtain⟨u,s2,n2,r3,m3,r4,m4,e3,e4,rfl,rfl⟩:=ak e2;obtain⟨rfl,_,rfl,zm,_⟩:=sP e3;obtain⟨j,s3,n3,r5,m5,r6,m6,e5,e6,rfl,rfl⟩:=ak e4;obtain⟨rfl,rfl,rfl⟩:=Jg e5;obtain⟨u2,s4,n4,r7,m7,r8,m8,e7,e8,rfl,rfl⟩:=ak e6;obtain⟨rfl,_,rfl,YO,_⟩:=sP e7;obtain⟨fv,s5,n5,r9,m9,lg,m10,e9,e10,rfl,rfl⟩:=ak e8;obtain⟨rfl,rfl,hfv⟩:=(Gf hE) _ _ _ _ _ _ _ _ e9;obtain⟨v,s6,n6,zf,m11,zh,m12,e11,e12,rfl,rfl⟩:=ak e10;obtain⟨o,s7,n7,BQ,m13,Jd,m14,e13,e14,rfl,rfl⟩:=ak e12;obtain⟨hg,_,rfl,rfl⟩:=BJ e13
 have ho:o=.sp true:=by
  cases o with
  | sp k=>cases k with
   | true=>rfl
   | false=>cases e14
  | _=>cases e14
 subst ho;obtain⟨u3,s8,n8,Jj,m15,r16,m16,e16,e17,rfl,rfl⟩:=ak (show(M.put (i+1) 0 none >>= λ_=>(pure (Ex.gu,E.mark N i):M _)) _ _=_ from e14);obtain⟨rfl,_,rfl,_,_⟩:=sP e16;obtain⟨hex,rfl,rfl⟩:=aF e17;cases hex
 unfold Bt at e11
 split at e11
 ·rename_i ff x c
  have alU:=(hfc _ _ _ _ _ _ _ _ _ e11).le;have YP:φ i=none:=hf i (Nat.le_refl _) (by omega);have hφj:φ (i+1)=none:=hf (i+1) (by omega) (by omega);have R1:=Jf (P:=P) (w0:=w0) (O1:=.sp false) (o:=.deferred (some [])) h YP zm (by simp) (by simp) (by simp) (by simp) (λk hk=>by cases hk;exact⟨λ_=>rfl,λh=>by cases h⟩);have YQ:kH φ i w.heap.size 0 (i+1)=none:=by rw[sQ (by omega)];exact hφj
  refine wpIn_wide (n:=1) |>.1 (wpIn_rangeFunc λfn _=>?_)
  let zU:Loop:={ state:=.ready,pending:=none,fn:=fn,tmps:=a.tmps,params:=ps,assign:=Gt,body:=body,defers:=w.heap.size }
  have R2:=Jf (P:=P) (w0:=w0) (O1:=.sp true) (o:=.loop zU) R1 YQ YO (by simp) (by simp) (by simp) (by simp) (λk hk=>by cases hk;exact⟨λh=>(by cases h),λ_=>⟨zU,rfl,rfl,rfl⟩⟩);have hsz:(w.alloc (.deferred (some []))).heap.size=w.heap.size+1:=by simp
  rw[hsz] at R2;have xV:φ.le (kH (kH φ i w.heap.size 0) (i+1) (w.heap.size+1) 0):=Ph.le_trans (nJ YP) (nJ YQ);have hj:kH (kH φ i w.heap.size 0) (i+1) (w.heap.size+1) 0 (i+1)=some (w.heap.size+1,0):=kW;have hi:kH (kH φ i w.heap.size 0) (i+1) (w.heap.size+1) 0 i=some (w.heap.size,0):=by rw[sQ (by omega)];exact kW
  obtain⟨X,C,hX,hC,hV⟩:=Us hfv;have hargs:=wT (wT (yV xV x hX) (lV (ah1 hj) (show aH _ []=some [] from rfl))) (yV xV c hC);obtain⟨k1,k2⟩:=hc ff _ _ _ _ _ _ _ _ _ _ _ R2 hargs e11 (λq h1 h2=>by
   rw[sQ (by omega),sQ (by omega)];exact hf q (by omega) h2)
  refine⟨w.heap.size+1,[{ target:=.collected w.heap.size,args:=#[] }],(w.alloc (.deferred (some []))).alloc (.loop zU),{ target:=.fn (.func ff) C.toArray,args:=X.toArray ++ #[.func (.yield (w.heap.size+1)) #[] #[]] },(w.alloc (.deferred (some []))).alloc (.loop zU),ff,X.toArray ++ #[.func (.yield (w.heap.size+1)) #[] #[]] ++ C.toArray,(w.alloc (.deferred (some []))).alloc (.loop zU),?_,?_,λ_ _=>trivial,?_,(λh=>by cases h),?_⟩
  ·show(Instr.enterLoop fn a.tmps ps Gt body none).run P w=.ok _ ((w.alloc (.deferred (some []))).alloc (.loop zU))
   simp[Instr.enterLoop,zU,hsz]
  ·simp only[resolve,rangeCall,hV,Deferred.ofValue]
   simp[Act.eval]
  ·show(invoke (.fn (.func ff) C.toArray) _).run P _=_
   simp only[invoke];exact MK k1
  ·refine callsIn_wide.2 (Calls.mono (R:=λe w'=>∃V ψ,e=.returned V/\Rel P w0 ψ _ w'/\Ext _ ψ (i+1+1) _/\Ph.le _ ψ/\v.den ψ=some V) (by simpa using k2) ?_)
   rintro e' w' ⟨V,ψ,rfl,j1,j2,j3,j4⟩;have YR:=j3 _ _ hj;have hψi:=j3 _ _ hi;obtain⟨b,y,ob,h1,h2,h3,h4⟩:=j1.sp _ _ hg;rw[YR] at h1;cases h1;obtain⟨rr,rfl,hr1,hr2⟩:=h4.2 rfl;refine⟨none,_,ah2 h3 hr1 hr2,?_⟩;refine hQ ψ _ _ (YM j1 YR (by rw[hg];simp) YO) ⟨by omega,λq hq=>?_⟩ (Ph.le_trans xV j3) ⟨hE.size,λt v ht hv=>?_,?_⟩
   ·rw[j2.out q (by omega),sQ (by omega),sQ (by omega)]
   ·unfold Env.mark at hv
    rw[T.get_put,if_neg (by omega)] at hv;obtain⟨V',v1,v2⟩:=hE.val t v ht hv;exact⟨V',AV.sN (Ph.le_trans xV j3) v v1,v2⟩
   ·have:marksOf (E.mark N i) N=.ptr i 0 :: marksOf E N:=by
     unfold marksOf Env.mark;rw[T.get_put,if_pos rfl];rfl
    rw[this];exact⟨⟨_,_,hψi,rfl⟩,hE.marks.le (Ph.le_trans xV j3)⟩
 ·cases e11
/-- Code. -/
theorem YS {call:Nat->List AV->M AV} (hfc:∀f a,aC (call f a)) (hc:vo P w0 call) (hmx:P.follows .mixedOrders=true) {N:Nat}:∀(c:Code) (E:Env) (ex:Ex) (E':Env) (a:Act) (φ:Ph) (s s':Ob) (w:World) (n n':Nat) (r l1:Lg) (Q:Exit->Act->World->Prop),xc P call N c E s n=.ok (ex,E') s' n' r l1->Rel P w0 φ s w->iG φ N E a->Free φ n n' ->
  (∀ψ a' w',Rel P w0 ψ s' w'->Ext φ ψ n n'->φ.le ψ->iG ψ N E' a'->Q (CK ex) a' w')->c.wp P Q a w:=by
 intro c
 induction c with
 | skip =>
  intro E ex E' a φ s s' w n n' r l1 Q e h hE hf hQ;obtain⟨h1,rfl,rfl⟩:=aF (show(pure (Ex.gu,E):M _) _ _=_ from e);cases h1;exact wp_skip (hQ φ a w h (.refl _ _) (Ph.le_refl _) hE)
 | label l =>
  intro E ex E' a φ s s' w n n' r l1 Q e h hE hf hQ;obtain⟨h1,rfl,rfl⟩:=aF (show(pure (Ex.gu,E):M _) _ _=_ from e);cases h1;exact wp_label (hQ φ a w h (.refl _ _) (Ph.le_refl _) hE)
 | exit id =>
  intro E ex E' a φ s s' w n n' r l1 Q e h hE hf hQ;obtain⟨h1,rfl,rfl⟩:=aF (show(pure (Ex.ext id,E):M _) _ _=_ from e);cases h1;exact wp_exit (hQ φ a w h (.refl _ _) (Ph.le_refl _) hE)
 | ret =>
  intro E ex E' a φ s s' w n n' r l1 Q e h hE hf hQ;obtain⟨h1,rfl,rfl⟩:=aF (show(pure (Ex.ret,E):M _) _ _=_ from e);cases h1;exact wp_ret (hQ φ a w h (.refl _ _) (Ph.le_refl _) hE)
 | region id ops dr =>
  intro E ex E' a φ s s' w n n' r l1 Q e h hE hf hQ;have e1:=Kk (show M.tag _ _ _ _=_ from e);cases dr with
  | true =>
   obtain⟨dt,s1,n1,r1,m1,r2,m2,e2,e3,rfl,rfl⟩:=ak (show(M.opt 135 (wO N ops.toList 0 .e) >>= _) _ _=_ from e1);obtain⟨hdt,rfl,rfl⟩:=bW e2;obtain⟨cl,s2,n2,r3,m3,r4,m4,e4,e5,rfl,rfl⟩:=ak e3;obtain⟨hcl,rfl,rfl⟩:=bW e4;obtain⟨E1,s3,n3,r5,m5,r6,m6,e6,e7,rfl,rfl⟩:=ak e5;obtain⟨h1,rfl,rfl⟩:=aF e7;cases h1;exact aha hfc hc hmx hdt hcl e6 h hE hf hQ
  | false =>
   obtain⟨E1,s3,n3,r5,m5,r6,m6,e6,e7,rfl,rfl⟩:=ak (show(Iq P call N ops.toList ops.toList E >>= _) _ _=_ from e1);obtain⟨h1,rfl,rfl⟩:=aF e7;cases h1;refine wp_region ?_;have:=Ye (Q:=Q) hfc hc ops.toList 0 E E' a φ s s' w n n' _ _ rfl e6 h hE hf hQ
   rwa [Array.length_toList,← List.range_eq_range'] at this
 | seq x y Gu ihy =>
  intro E ex E' a φ s s' w n n' r l1 Q e h hE hf hQ;obtain⟨z,s1,n1,r1,m1,r2,m2,e1,e2,rfl,rfl⟩:=ak (show(xc P call N x E >>= _) _ _=_ from e);obtain⟨Gs,E1⟩:=z;have PK:=(EH P hfc N x E _ _ _ _ _ _ _ e1).le;refine wp_seq ?_;cases Gs with
  | gu =>
   have e2':xc P call N y E1 s1 n1=.ok (ex,E') s' n' r2 m2:=e2;have xV:=(EH P hfc N y E1 _ _ _ _ _ _ _ e2').le;refine Gu E .gu E1 a φ s s1 w n n1 r1 m1 _ e1 h hE (λi h1 h2=>hf i h1 (by omega)) λψ a' w' k1 k2 k3 k4=>?_;exact ihy E1 ex E' a' ψ s1 s' w' n1 n' r2 m2 Q e2' k1 k4 (λi h1 h2=>by rw[k2.out i (by omega)];exact hf i (by omega) h2) λχ a'' w'' j1 j2 j3 j4=>hQ χ a'' w'' j1 (k2.trans j2) (Ph.le_trans k3 j3) j4
  | ext i =>
   obtain⟨h1,rfl,rfl⟩:=aF (show(pure (Ex.ext i,E1):M _) _ _=_ from e2);cases h1;exact Gu E (.ext i) E' a φ s s' w n n' r1 m1 _ e1 h hE hf λψ a' w' k1 k2 k3 k4=>hQ ψ a' w' k1 k2 k3 k4
  | ret =>
   obtain⟨h1,rfl,rfl⟩:=aF (show(pure (Ex.ret,E1):M _) _ _=_ from e2);cases h1;exact Gu E .ret E' a φ s s' w n n' r1 m1 _ e1 h hE hf λψ a' w' k1 k2 k3 k4=>hQ ψ a' w' k1 k2 k3 k4
 | cond c x y Gu ihy =>
  intro E ex E' a φ s s' w n n' r l1 Q e h hE hf hQ;obtain⟨v,s1,n1,r1,m1,r2,m2,e1,e2,rfl,rfl⟩:=ak (show(env N E c >>= _) _ _=_ from e);obtain⟨rfl,rfl,hv⟩:=(Gf hE) _ _ _ _ _ _ _ _ e1
  split at e2
  ·have:=fE hv
   exact wp_cond_true this (Gu E ex E' a φ _ s' w _ n' r2 m2 Q e2 h hE hf hQ)
  ·have:=fE hv
   exact wp_cond_false this (ihy E ex E' a φ _ s' w _ n' r2 m2 Q e2 h hE hf hQ)
  ·cases e2
 | block id x ih =>
  intro E ex E' a φ s s' w n n' r l1 Q e h hE hf hQ;obtain⟨z,s1,n1,r1,m1,r2,m2,e1,e2,rfl,rfl⟩:=ak (show(xc P call N x E >>= _) _ _=_ from e);obtain⟨Gs,E1⟩:=z;refine wp_block ?_;cases Gs with
  | gu =>
   obtain⟨h1,rfl,rfl⟩:=aF (show(pure (Ex.gu,E1):M _) _ _=_ from e2);cases h1;exact ih E .gu E' a φ s s' w n n' r1 m1 _ e1 h hE hf λψ a' w' k1 k2 k3 k4=>hQ ψ a' w' k1 k2 k3 k4
  | ret =>
   obtain⟨h1,rfl,rfl⟩:=aF (show(pure (Ex.ret,E1):M _) _ _=_ from e2);cases h1;exact ih E .ret E' a φ s s' w n n' r1 m1 _ e1 h hE hf λψ a' w' k1 k2 k3 k4=>hQ ψ a' w' k1 k2 k3 k4
  | ext j =>
   cases hj:Nat.beq j id with
   | true =>
    have e3:cd (Nat.beq j id) (pure (Ex.gu,E1)) (pure (Ex.ext j,E1):M _) s1 n1=.ok (ex,E') s' n' r2 m2:=e2;rw[hj] at e3;obtain⟨h1,rfl,rfl⟩:=aF (show(pure (Ex.gu,E1):M _) _ _=_ from e3);cases h1;refine ih E (.ext j) E' a φ s s' w n n' r1 m1 _ e1 h hE hf λψ a' w' k1 k2 k3 k4=>?_;simp only[CK,Exit.inBlock,Nat.eq_of_beq_eq_true hj,if_true];exact hQ ψ a' w' k1 k2 k3 k4
   | false =>
    have e3:cd (Nat.beq j id) (pure (Ex.gu,E1)) (pure (Ex.ext j,E1):M _) s1 n1=.ok (ex,E') s' n' r2 m2:=e2;rw[hj] at e3;obtain⟨h1,rfl,rfl⟩:=aF (show(pure (Ex.ext j,E1):M _) _ _=_ from e3);cases h1;refine ih E (.ext j) E' a φ s s' w n n' r1 m1 _ e1 h hE hf λψ a' w' k1 k2 k3 k4=>?_;have hne:¬j=id:=λh=>by rw[h,Nat.beq_refl] at hj;cases hj
    simp only[CK,Exit.inBlock,hne,if_false];exact hQ ψ a' w' k1 k2 k3 k4
 | loop x ih =>
  intro E ex E' a φ s s' w n n' r l1 Q e h hE hf hQ b kk cs;have hne:ex≠.gu->_:=λ_=>trivial;obtain⟨e1,a1,w1,q1,q2⟩:=YN (P:=P) (w0:=w0) (N:=N) (Q:=Q) (c:=x) (EH P hfc N x) ih 4000 E ex E' a φ s s' w n n' r l1 e h hE hf (λψ a' w' k1 k2 k3 k4 _=>hQ ψ a' w' k1 k2 k3 k4) b kk cs;exact⟨e1,a1,w1,q1,.of_steps (.one step_loop) q2⟩
 | scope x ih =>
  intro E ex E' a φ s s' w n n' r l1 Q e h hE hf hQ;refine wp_scope_straight (ih E ex E' a φ s s' w n n' r l1 _ e h hE hf λψ a' w' k1 k2 k3 k4=>?_);cases ex <;> exact hQ ψ a' w' k1 k2 k3 k4
 | rangeFunc g ps Gt body _ _ =>
  intro E ex E' a φ s s' w n n' r l1 Q e h hE hf hQ;exact ah3 hc hfc e h hE hf hQ
 | goto l=>intro E ex E' a φ s s' w n n' r l1 Q e;cases e
 | refuse y=>intro E ex E' a φ s s' w n n' r l1 Q e;cases e
/-- The results. -/
def Gv (tmps:Array Value):ResultVar->Sem Value
 | .tmp t=>pure (tmps.getD t undef)
 | .cell c t=>do loadVar t (← asAddr (tmps.getD c undef))
theorem ah7 (fn:Func) (tmps:Array Value):results fn tmps=(do let vs ← fn.results.mapM (Gv tmps);pure (if h:vs.size=1 then vs[0] else .tuple vs)):=by
 unfold results
 congr 2
theorem Qe {N:Nat} {E:Env} {a:Act} {φ:Ph} {w:World} (hE:iG φ N E a):∀ {l:List ResultVar} {vs:List AV} {s s':Ob} {n n':Nat} {r l1:Lg},Rel P w0 φ s w->BD P N E l s n=.ok vs s' n' r l1 ->
  s'=s/\n'=n/\∃VS,aH φ vs=some VS/\(l.mapM (Gv a.tmps)).run P w=.ok VS w
 | [],vs,s,s',n,n',r,l1,h,e=>by
  obtain⟨rfl,rfl,rfl⟩:=aF (show(pure []:M _) _ _=_ from e);exact⟨rfl,rfl,[],rfl,by simp⟩
 | .tmp t :: l,vs,s,s',n,n',r,l1,h,e=>by
  obtain⟨v,s1,n1,r1,m1,r2,m2,e1,e2,rfl,rfl⟩:=ak (show(env N E (.tmp t) >>= _) _ _=_ from e);obtain⟨rfl,rfl,hv⟩:=(Gf hE) _ _ _ _ _ _ _ _ e1;obtain⟨y,s2,n2,r3,m3,r4,m4,e3,e4,rfl,rfl⟩:=ak e2;obtain⟨rfl,rfl,VS,h1,h2⟩:=Qe hE h e3;obtain⟨rfl,rfl,rfl⟩:=aF e4;refine⟨rfl,rfl,_,lV hv h1,?_⟩;simp only[List.mapM_cons,Gv,Sem.run_bind,Sem.run_pure,Result.andThen_ok,h2,Act.eval]
 | .cell c t :: l,vs,s,s',n,n',r,l1,h,e=>by
  obtain⟨v0,s0,n0,r0,m0,MC,Ug,e0,uZ,rfl,rfl⟩:=ak (show(env N E (.tmp c) >>= _) _ _=_ from e);obtain⟨rfl,rfl,hv0⟩:=(Gf hE) _ _ _ _ _ _ _ _ e0;obtain⟨v,s1,n1,r1,m1,r2,m2,e1,e2,rfl,rfl⟩:=ak uZ;obtain⟨p,s3,n3,r5,m5,r6,m6,e5,e6,rfl,rfl⟩:=ak (show(wL v0 >>= λp=>DL P t p.1 p.2) _ _=_ from e1);obtain⟨rfl,rfl,rfl⟩:=BO e5;obtain⟨b,x,hp,hV⟩:=pK hv0;obtain⟨rfl,rfl,V,hv,hl⟩:=TR h hp e6;obtain⟨y,s2,n2,r3,m3,r4,m4,e3,e4,rfl,rfl⟩:=ak e2;obtain⟨rfl,rfl,VS,h1,h2⟩:=Qe hE h e3;obtain⟨rfl,rfl,rfl⟩:=aF e4;refine⟨rfl,rfl,_,lV hv h1,?_⟩;have hV':a.tmps.getD c undef=.pointer (some ⟨b,p.2,none⟩):=hV
  simp only[List.mapM_cons,Gv,Sem.run_bind,hV',asAddr,Sem.run_pure,Result.andThen_ok,hl,h2]
theorem Qf:∀(l:List AV) (E:Env) (k t:Nat),T.get (yS E k l) t=if k<=t/\t < k+l.length then l[t - k]? else T.get E t
 | [],E,k,t=>by rw[if_neg (λh=>by simp at h;omega)];rfl
 | v :: l,E,k,t=>by
  show T.get (yS (T.put E k (some v)) (Nat.succ k) l) t=_;rw[Qf l,T.get_put];simp only[List.length_cons]
  by_cases h:k+1<=t/\t < k+1+l.length
  ·rw[if_pos h,if_pos (by omega),show t - k=(t - (k+1))+1 by omega,List.getElem?_cons_succ]
  ·rw[if_neg h]
   by_cases e:t=k
   ·subst e;rw[if_pos rfl,if_pos (by omega),Nat.sub_self];rfl
   ·rw[if_neg e,if_neg (by omega)]
theorem ah8 {α:Type} {m:M α} {x:α} {s s':Ob} {n n':Nat} {r l1:Lg} (h:M.own m s n=.ok x s' n' r l1):∃r' l',m s n=.ok x s' n' r' l':=by
 unfold M.own at h;cases hm:m s n with
 | no e=>rw[hm] at h;cases h
 | ok a s1 n1 r1 w1=>rw[hm] at h;cases h;exact⟨r1,w1,rfl⟩
theorem ah9 {w:World} {b:Nat} (h:w.heap[b]?=some (.deferred (some []))):(Instr.takeDeferred b).run P w=.ok [] { w with heap:=w.heap.setIfInBounds b (.deferred none) }:=by
 have hg:(getObj b).run P w=.ok (.deferred (some [])) w:=by simp[getObj,Sem.run,h]
 have hs:∀o,(setObj b o).run P w=.ok () { w with heap:=w.heap.setIfInBounds b o }:=λo=>by simp[setObj,Sem.run,h]
 simp[Instr.takeDeferred,hg,hs]
/-- The way out. -/
theorem aia {fn:Func} {E:Env} {a:Act} {φ:Ph} (hE:iG φ fn.ntmps E a) {v:AV} {n n':Nat} {s':Ob} {r1 r2 m1 m2:Lg} {R:Ending->World->Prop} (hR:∀V w',Rel P w0 φ s' w'->v.den φ=some V->R (.returned V) w') :
  ∀(l:List AV) (ds:List Deferred) (s s1:Ob) (w:World) (n1:Nat) (u:Unit),zS φ l ds->Rel P w0 φ s w->leave l s n=.ok u s1 n1 r1 m1->Ir P E fn s1 n1=.ok v s' n' r2 m2->n'=n/\LeavesInM Fence.wide 0 P fn a.tmps R ds .returning w:=by
 intro l
 induction l generalizing r1 m1 with
 | nil =>
  intro ds s s1 w n1 u hm h e1 e2;obtain⟨-,rfl,rfl⟩:=aF (show(pure ():M _) _ _=_ from e1);cases ds with
  | cons d ds=>exact hm.elim
  | nil =>
   obtain⟨vs,s2,n2,r3,m3,r4,m4,e3,e4,rfl,rfl⟩:=ak (show(BD P fn.ntmps E fn.results.toList >>= _) _ _=_ from e2);obtain⟨rfl,rfl,VS,h1,h2⟩:=Qe hE h e3;have hr:∀V,(∃q,VS=q/\V=(if h:q.toArray.size=1 then q.toArray[0] else .tuple q.toArray))->(results fn a.tmps).run P w=.ok V w:=by
    rintro V ⟨q,rfl,rfl⟩;rw[ah7,Sem.run_bind,Array.mapM_eq_mapM_toList];rw[show(List.toArray <$> fn.results.toList.mapM (Gv a.tmps)).run P w=.ok VS.toArray w by rw[← bind_pure_comp,Sem.run_bind,h2];simp];simp only[Result.andThen_ok,Sem.run_pure]
   match vs,h1,e4 with
   | [],h1,e4 =>
    obtain⟨rfl,rfl,rfl⟩:=aF (show(pure (AV.fC []):M _) _ _=_ from e4);simp only[aH] at h1;cases h1;exact⟨rfl,_,hr _ ⟨_,rfl,rfl⟩,hR _ _ h (by simp[AV.den,aH])⟩
   | [x],h1,e4 =>
    obtain⟨rfl,rfl,rfl⟩:=aF (show(pure x:M _) _ _=_ from e4);obtain⟨V,L,hV,hL,rfl⟩:=jk h1;simp only[aH] at hL;cases hL;exact⟨rfl,_,hr _ ⟨_,rfl,rfl⟩,hR _ _ h (by simpa using hV)⟩
   | x :: y :: l',h1,e4 =>
    obtain⟨rfl,rfl,rfl⟩:=aF (show(pure (AV.fC (x :: y :: l')):M _) _ _=_ from e4);obtain⟨V,L,hV,hL,rfl⟩:=jk h1;obtain⟨V2,L2,hV2,hL2,rfl⟩:=jk hL;exact⟨rfl,_,hr _ ⟨_,rfl,rfl⟩,hR _ _ h (by simp[AV.den,h1])⟩
 | cons v0 l ih =>
  intro ds s s1 w n1 u hm h e1 e2;cases v0 with
  | ptr i o =>
   cases ds with
   | nil=>exact hm.elim
   | cons d ds =>
    obtain⟨⟨b,x,hp,rfl⟩,hm'⟩:=hm;obtain⟨q,s2,n2,r3,m3,r4,m4,e3,e4,rfl,rfl⟩:=ak (show(M.get i 0 >>= _) _ _=_ from e1);obtain⟨hg,hi,rfl,rfl⟩:=BJ e3;have hq:q=.sp false:=by
     cases q with
     | sp k=>cases k with
      | false=>rfl
      | true=>cases e4
     | _=>cases e4
    subst hq;obtain⟨u2,s3,n3,r5,m5,r6,m6,e5,e6,rfl,rfl⟩:=ak (show(M.put i 0 none >>= λ_=>leave l) _ _=_ from e4);obtain⟨rfl,_,rfl,zm,_⟩:=sP e5;obtain⟨b',y,ob,h1,h2,h3,h4⟩:=h.sp _ _ hg;rw[hp] at h1;cases h1;have hob:=h4.1 rfl;subst hob;obtain⟨k1,k2⟩:=ih ds _ s1 { w with heap:=w.heap.setIfInBounds b (.deferred none) } n1 u hm' (YM h hp (by rw[hg];simp) zm) e6 e2;exact⟨k1,by simp,.inl ⟨b,_,rfl,ah9 h3,k2⟩⟩
  | _=>cases e1
/-- Calls. -/
theorem Qg (hmx:P.follows .mixedOrders=true):∀d,vo P w0 (Ey P d)
 | 0=>λf l L φ s w n v s' n' r m h hl e hf=>by cases e
 | d+1=>λf l L φ s w n v s' n' r m h hl e hf=>by
  obtain⟨r',m',e0⟩:=ah8 (show M.own _ s n=_ from e);have e1:=Kk e0;obtain⟨fn,s1,n1,r1,m1,r2,m2,e2,e3,rfl,rfl⟩:=ak (show(M.opt 123 P.funcs[f]? >>= _) _ _=_ from e1);obtain⟨hfn,rfl,rfl⟩:=bW e2;obtain⟨c,s2,n2,r3,m3,r4,m4,e4,e5,rfl,rfl⟩:=ak e3;obtain⟨hb,rfl,rfl⟩:=bW e4
  cases hk : or (fn.name == "runtime.NumGoroutine") (not (Nat.ble l.length fn.ntmps)) with
  | true=>rw[hk] at e5;cases e5
  | false =>
   rw[hk] at e5;simp only[Bool.or_eq_false_iff,Bool.not_eq_false'] at hk;have hle:=Nat.le_of_ble_eq_true hk.2;obtain⟨z,s3,n3,r5,m5,r6,m6,e6,e7,rfl,rfl⟩:=ak (show(xc P (Ey P d) fn.ntmps c (yS .e 0 l) >>= _) _ _=_ from e5);obtain⟨ex,E⟩:=z;have PK:=(EH P (I5 P d) fn.ntmps c _ _ _ _ _ _ _ _ e6).le;have e8:ex≠.ext 0->True:=λ_=>trivial;refine⟨⟨fn,hfn,by rw[hb];rfl,hk.1⟩,?_⟩;have hL:=nI hl;have hE:iG φ fn.ntmps (yS .e 0 l) { tmps:=L.toArray ++ Array.replicate (fn.ntmps - L.toArray.size) undef,defers:=[] }:=by
    refine⟨by simp;omega,λt u ht hu=>?_,?_⟩
    ·rw[Qf] at hu
     by_cases hin:0<=t/\t < 0+l.length
     ·rw[if_pos hin] at hu
      obtain⟨V,h1,h2⟩:=EB hl t u (by simpa using hu);refine⟨V,h1,?_⟩;simp only;rw[Array.getElem?_append_left (by simp;omega)];simpa using h2
     ·rw[if_neg hin,T.BF] at hu;cases hu
    ·have:marksOf (yS .e 0 l) fn.ntmps=[]:=by
      unfold marksOf;rw[Qf,if_neg (by omega),T.BF]
     rw[this];trivial
   refine callsIn_wide (n:=0) |>.1 (callsIn_of_wp_marks hfn hb trivial (wpIn_wide.2 ?_) rfl)
   have fin:∀(YT YU:Lg),Ew P E fn s3 n3=.ok v s' n' YT YU->∀(ψ:Ph) (a':Act) (w':World),Rel P w0 ψ s3 w'->Ext φ ψ n2 n3->φ.le ψ->iG ψ fn.ntmps E a'->LeavesInM Fence.wide 0 P fn a'.tmps (λe w'=>∃V ψ,e=.returned V/\Rel P w0 ψ s' w'/\Ext φ ψ n2 n'/\φ.le ψ/\v.den ψ=some V) a'.defers .returning w':=by
    intro YT YU e9 ψ a' w' k1 k2 k3 k4;obtain⟨u,s4,n4,r7,m7,r8,m8,e10,e11,rfl,rfl⟩:=ak (show(leave (marksOf E fn.ntmps) >>= λ_=>Ir P E fn) _ _=_ from e9);have hxe:=λR hR=>aia (P:=P) (w0:=w0) (R:=R) k4 (v:=v) (s':=s') (n:=n3) (n':=n') hR (marksOf E fn.ntmps) a'.defers s3 s4 w' n4 u k4.marks k1 e10 e11;have hn:n'=n3:=(hxe (λ_ _=>True) λ_ _ _ _=>trivial).1;subst hn;exact(hxe _ λV w'' j1 j2=>⟨V,ψ,rfl,j1,k2,k3,j2⟩).2
   cases ex with
   | ext i=>cases e7
   | gu =>
    have hle2:=(I4 P E fn _ _ _ _ _ _ _ (show Ew P E fn s3 n3=.ok v s' n' r6 m6 from e7)).le;exact YS (I5 P d) (Qg hmx d) hmx c _ _ _ _ φ _ _ _ _ _ _ _ _ e6 h hE (λi h1 h2=>hf i h1 (by omega)) λψ a' w' k1 k2 k3 k4=>fin _ _ e7 ψ a' w' k1 k2 k3 k4
   | ret =>
    have hle2:=(I4 P E fn _ _ _ _ _ _ _ (show Ew P E fn s3 n3=.ok v s' n' r6 m6 from e7)).le;exact YS (I5 P d) (Qg hmx d) hmx c _ _ _ _ φ _ _ _ _ _ _ _ _ e6 h hE (λi h1 h2=>hf i h1 (by omega)) λψ a' w' k1 k2 k3 k4=>fin _ _ e7 ψ a' w' k1 k2 k3 k4
end
end Go.Proofs.YtfabngnaejjcmaaGreatDoor
