/- The proof's texts, part 8. -/
import Derived.Test.YthimlcpingkndaaGreatDoorT7
namespace Go.Proofs.YthimlcpingkndaaGreatDoor
open Go.RowKit
set_option linter.unusedVariables false
set_option linter.unusedSimpArgs false
/- The next of a map of one at most. -/
section
variable {P : Program} {w0 : World} {φ : Ph} {s s' : Ob} {w : World} {n n' : Nat} {r l1 : Lg} {v : AV}
theorem zU {i b x m m' y since since' last last':Nat} {seen seen':List Nat} (h:Rel P w0 φ s w) (hg:s.get i 0=some (.it m since seen last)) (hp:φ i=some (b,x)) (hm:φ m=some (m',y)) (hi:i < 16000000) :
  (setObj b (.mapIter (some m') since' seen'.toArray last')).run P w=.ok () { w with heap:=w.heap.setIfInBounds b (.mapIter (some m') since' seen'.toArray last') }/\Rel P w0 φ (s.put i 0 (some (.it m since' seen' last'))) { w with heap:=w.heap.setIfInBounds b (.mapIter (some m') since' seen'.toArray last') }:=by
 obtain⟨b',y',m2,y2,h1,h2,h3,h4⟩:=h.it _ _ _ _ _ hg;rw[hp] at h1;cases h1;have hlt:b < w.heap.size:=(Array.getElem?_eq_some_iff.1 h4).1;refine⟨by simp[setObj,Sem.run,h4],?_⟩;have gp:∀j q,(s.put i 0 (some (.it m since' seen' last'))).get j q=if j=i/\q=0 then some (.it m since' seen' last') else s.get j q:=λj q=>Ob.get_put hi (by omega)
 have g0:(s.put i 0 (some (.it m since' seen' last'))).get i 0=some (.it m since' seen' last'):=by rw[gp,if_pos ⟨rfl,rfl⟩]
 have hW:∀(o:Obj) k,k≠b->(w.heap.setIfInBounds b o)[k]?=w.heap[k]?:=λo k hk=>by simp[Array.getElem?_setIfInBounds,show ¬b=k from λe=>hk e.symm]
 refine h.but (j:=i) (b:=b) (Ph.le_refl _) ⟨h.base.os,h.base.tape,h.base.output,by have:=h.base.size;simpa using this,λk hk=>(hW _ k (by omega)).trans (h.base.block k hk)⟩ (λk hk _=>hW _ k hk) (λi' p hne=>by rw[gp,if_neg (by omega)]) (λ_ _=>rfl)
  (λi' y hne ha hb=>hne (h.inj i' i b y x ha (by rw[hg];simp) hb hp)) (λv' hv'=>by rw[g0] at hv';cases hv') (λp _=>by rw[hp];simp) (λc y _ hc=>by rw[hp] at hc;cases hc;rfl)
  (λt' e' k' op' hg'=>by rw[g0] at hg';cases hg') (λes2 c2 hg'=>by rw[g0] at hg';cases hg') (λm3 a l c hg'=>?_)
 rw[g0] at hg';cases hg';exact⟨b,x,m',y,hp,h2,hm,by simp[hlt]⟩
theorem zV {ty:Nat} {x:AV} {X:Value} (h:Rel P w0 φ s w) (hx:x.den φ=some X) (e:mg x s n=.ok v s' n' r l1):n'=n/\∃V w',v.den φ=some V/\(Instr.next X false ty).run P w=.ok V w'/\Rel P w0 φ s' w':=by
 unfold mg at e;obtain⟨p,s1,n1,r1,m1,r2,m2,e1,e2,rfl,rfl⟩:=ah e;obtain⟨rfl,rfl,rfl⟩:=kM e1;obtain⟨hp0,e3⟩:=bC e2;have p0:=Nat.eq_of_beq_eq_true hp0;obtain⟨t,s2,n2,r3,m3,r4,m4,e4,e5,rfl,rfl⟩:=ah e3;obtain⟨hg,rfl,rfl⟩:=vU e4;obtain⟨q,s3,n3,r5,m5,r6,m6,e6,e7,rfl,rfl⟩:=ah e5;obtain⟨hg2,rfl,rfl⟩:=jg e6;obtain⟨b,z,hp,rfl⟩:=eH hx;obtain⟨b',x',m',y',k1,k2,k3,k4⟩:=h.it _ _ _ _ _ hg;rw[hp] at k1;cases k1;obtain⟨b2,x2,ES,j1,j2,j3,hE⟩:=h.map _ _ _ hg2;rw[k3] at j1;cases j1;rw[p0];have pW:(getObj b).run P w=.ok (.mapIter (some m') t.2.1 t.2.2.1.toArray t.2.2.2) w:=by simp[getObj,Sem.run,k4]
 have pX:=fV (P:=P) j3;obtain⟨es,cl⟩:=q;dsimp only at hg2 hE j3 pX e7
 match es,hg2,hE,e7 with
 | [],hg2,hE,e7 =>
  obtain⟨rfl,rfl,rfl⟩:=aj (show(pure _:M _) _ _=_ from e7);simp only[bg,Option.some.injEq] at hE;have rH:ES = #[]:=by apply Array.ext';simp[← hE]
  subst rH;refine⟨rfl,.tuple #[.bool false],w,by simp[AV.den,ak],?_,h⟩;simp[Instr.next,pW,pX,Question.forced]
 | [(k,u,bb)],hg2,hE,e7 =>
  obtain⟨K,V,L,a1,a2,a3,a4⟩:=fP hE;simp only[bg,Option.some.injEq] at a3;subst a3;have rH:ES = #[{ key:=K,val:=V,born:=bb }]:=by apply Array.ext';simp[a4]
  subst rH
  change (cond (List.elem bb t.2.2.1) _ _:M AV) _ _=_ at e7
  cases hel:List.elem bb t.2.2.1 with
  | true =>
   rw[hel] at e7;obtain⟨hb,e8⟩:=bC (show cond (Nat.blt bb t.2.2.2) _ (M.no 93) _ _=_ from e7);obtain⟨rfl,rfl,rfl⟩:=aj e8;have hlt:=dQ hb;have hmem:bb ∈ t.2.2.1:=by simpa using hel
   refine⟨rfl,.tuple #[.bool false],w,by simp[AV.den,ak],?_,h⟩;simp[Instr.next,pW,pX,Question.forced,hmem,show ¬t.2.2.2<=bb by omega]
  | false =>
   rw[hel] at e7;obtain⟨hb,e8⟩:=bC (show cond (and (Nat.blt bb t.2.1) (List.isEmpty t.2.2.1)) _ (M.no 93) _ _=_ from e7);simp only[Bool.and_eq_true] at hb;have hlt:=dQ hb.1;have hnil:t.2.2.1=[]:=by simpa using hb.2
   obtain⟨z1,s4,n4,r7,m7,r8,m8,e9,e10,rfl,rfl⟩:=ah e8;obtain⟨rfl,_,rfl,hi,_⟩:=fQ e9;obtain⟨rfl,rfl,rfl⟩:=aj e10;obtain⟨g1,g2⟩:=zU (since':=t.2.1) (seen':=[bb]) (last':=cl) h hg hp k3 hi;refine⟨rfl,.tuple #[.bool true,K,V],_,by simp only[AV.den,ak,a1,a2],?_,g2⟩;rw[hnil] at pW;have g1':(setObj b (.mapIter (some m') t.2.1 #[bb] cl)).run P w=_:=g1;simp[Instr.next,pW,pX,Question.forced,hlt,show ¬t.2.1<=bb by omega,g1']
 | _ :: _ :: _,_,_,e7=>cases e7
end
/- An operation, as the machine does it. -/
section
variable {P : Program} {w0 : World} {φ : Ph} {s s' : Ob} {w : World} {n n' : Nat} {r l1 : Lg} {v : AV}
/-- What the operands say. -/
def gq (φ:Ph) (ρ:Operand->M AV) (ρ':Operand->Value):Prop:=∀x v s n s' n' r l,ρ x s n=.ok v s' n' r l->s'=s/\n'=n/\v.den φ=some (ρ' x)
theorem gq.at {ρ:Operand->M AV} {ρ':Operand->Value} (h:gq φ ρ ρ') {x:Operand} (e:ρ x s n=.ok v s' n' r l1):s'=s/\n'=n/\v.den φ=some (ρ' x):=h x v s n s' n' r l1 e
theorem kP {ρ:Operand->M AV} {ρ':Operand->Value} (h:gq φ ρ ρ'):∀ {xs:List Operand} {l:List AV} {s s':Ob} {n n':Nat} {r l1:Lg},dS ρ xs s n=.ok l s' n' r l1->s'=s/\n'=n/\ak φ l=some (xs.map ρ')
 | [],l,s,s',n,n',r,l1,e=>by obtain⟨rfl,rfl,rfl⟩:=aj (show(pure []:M _) _ _=_ from e);exact⟨rfl,rfl,rfl⟩
 | x :: xs,l,s,s',n,n',r,l1,e=>by
  obtain⟨v,s1,n1,r1,m1,r2,m2,e1,e2,rfl,rfl⟩:=ah (show(ρ x >>= _) _ _=_ from e);obtain⟨rfl,rfl,hv⟩:=h.at e1;obtain⟨l',s2,n2,r3,m3,r4,m4,e3,e4,rfl,rfl⟩:=ah e2;obtain⟨rfl,rfl,hl⟩:=kP h e3;obtain⟨rfl,rfl,rfl⟩:=aj e4;exact⟨rfl,rfl,dO hv hl⟩
theorem rJ {ρ:Operand->M AV} {ρ':Operand->Value} (h:gq φ ρ ρ'):∀ {ps:List (Nat × Operand)} {l:List (Nat × AV)} {s s':Ob} {n n':Nat} {r l1:Lg},jH ρ ps s n=.ok l s' n' r l1->s'=s/\n'=n/\mZ φ l (ps.map λx=>(x.1,ρ' x.2))
 | [],l,s,s',n,n',r,l1,e=>by obtain⟨rfl,rfl,rfl⟩:=aj (show(pure []:M _) _ _=_ from e);exact⟨rfl,rfl,trivial⟩
 | x :: xs,l,s,s',n,n',r,l1,e=>by
  obtain⟨v,s1,n1,r1,m1,r2,m2,e1,e2,rfl,rfl⟩:=ah (show((do let v ← ρ x.2;pure (x.1,v):M _) >>= _) _ _=_ from e);obtain⟨u,s3,n3,r5,m5,r6,m6,e5,e6,rfl,rfl⟩:=ah e1;obtain⟨rfl,rfl,hv⟩:=h.at e5;obtain⟨rfl,rfl,rfl⟩:=aj e6;obtain⟨l',s2,n2,r3,m3,r4,m4,e3,e4,rfl,rfl⟩:=ah e2;obtain⟨rfl,rfl,hl⟩:=rJ h (ps:=xs) e3;obtain⟨rfl,rfl,rfl⟩:=aj e4;exact⟨rfl,rfl,rfl,hv,hl⟩
theorem pY {ρ:Operand->M AV} {ρ':Operand->Value} (h:gq φ ρ ρ') {x:Option Operand} {y:Option AV} (e:fK ρ x s n=.ok y s' n' r l1):s'=s/\n'=n/\(∀u,y=some u->∃U,x.map ρ'=some U/\u.den φ=some U)/\(y=none->x.map ρ'=none):=by
 cases x with
 | none=>obtain⟨rfl,rfl,rfl⟩:=aj (show(pure none:M _) _ _=_ from e);exact⟨rfl,rfl,by simp,by simp⟩
 | some x =>
  obtain⟨u,s1,n1,r1,m1,r2,m2,e1,e2,rfl,rfl⟩:=ah (show(ρ x >>= _) _ _=_ from e);obtain⟨rfl,rfl,hv⟩:=h.at e1;obtain⟨rfl,rfl,rfl⟩:=aj e2;exact⟨rfl,rfl,λu hu=>by cases hu;exact⟨_,rfl,hv⟩,by simp⟩
/-- A call, as the machine does it. -/
def gu (P:Program) (w0:World) (call:Nat->List AV->M AV):Prop:=∀f l L φ s w n v s' n' r m,Rel P w0 φ s w->ak φ l=some L->call f l s n=.ok v s' n' r m->Free φ n n' ->
 (∃ fn, P.funcs[f]? = some fn ∧ fn.body.isSome = true ∧ (fn.name == "runtime.NumGoroutine") = false) ∧ Calls P f L.toArray w fun e w' => ∃ V ψ, e = .returned V ∧ Rel P w0 ψ s' w' ∧ Ext φ ψ n n' ∧ φ.le ψ ∧ v.den ψ = some V
theorem qb {f : Nat} {A : Array Value} (h : ∃ fn, P.funcs[f]? = some fn ∧ fn.body.isSome = true ∧ (fn.name == "runtime.NumGoroutine") = false) : (callFunc f A).run P w = .ok (.enter f A) w := by
 obtain⟨fn,h1,h2,h3⟩:=h;cases hb:fn.body with
 | none=>rw[hb] at h2;cases h2
 | some c =>
  have h3' : ¬ fn.name = "runtime.NumGoroutine" := by simpa using h3
  simp[callFunc,h1,h3',hb]
/-- What is asked behind an operation. -/
def Post (P:Program) (w0:World) (φ:Ph) (s':Ob) (n n':Nat) (v:AV) (o:Oper) (a:Act) (K:Act->World->Prop):Prop :=
 ∀ψ V w',Rel P w0 ψ s' w'->Ext φ ψ n n'->φ.le ψ->(v=.bad\/v.den ψ=some V)->K (a.put o.dst V) w'
section
variable {o : Oper} {a : Act} {K : Act -> World -> Prop} {Q : Exit -> Act -> World -> Prop}
theorem gy {S:Sem Value} (h:Made P w0 φ s' w n n' v S) (hS:execOp a.eval o=(do pure (.value (← S)))) (hK:Post P w0 φ s' n n' v o a K):Oper.wp P o a w K Q:=by
 obtain⟨ψ,V,w',h1,h2,h3,h4,h5⟩:=h;unfold Oper.wp;rw[hS,Sem.run_bind,h1,Result.andThen_ok,Sem.run_pure,Oper.upon_value];exact hK ψ V w' h2 h3 h4 (.inr h5)
theorem dz {S:Sem Value} (h:Rel P w0 φ s w) (k:s'=s/\n'=n/\∃V,v.den φ=some V/\S.run P w=.ok V w) (hS:execOp a.eval o=(do pure (.value (← S)))) (hK:Post P w0 φ s' n n' v o a K):Oper.wp P o a w K Q :=
 gy (jl h k) hS hK
theorem rM {S:Sem Unit} (h:Turns P w0 φ s' w n n' v S) (hS:execOp a.eval o=(do S;pure .skip)) (hK:Post P w0 φ s' n n' v o a K):Oper.wp P o a w K Q:=by
 obtain⟨rfl,rfl,w',h1,h2⟩:=h;unfold Oper.wp;rw[hS,Sem.run_bind,h1,Result.andThen_ok,Sem.run_pure,Oper.upon_skip];exact hK φ _ w' h2 (.refl _ _) (Ph.le_refl _) (.inr rfl)
theorem qc {S:Sem Value} (h:n'=n/\∃V w',v.den φ=some V/\S.run P w=.ok V w'/\Rel P w0 φ s' w') (hS:execOp a.eval o=(do pure (.value (← S)))) (hK:Post P w0 φ s' n n' v o a K):Oper.wp P o a w K Q:=by
 obtain⟨rfl,V,w',h1,h2,h3⟩:=h;exact gy ⟨φ,V,w',h2,h3,.refl _ _,Ph.le_refl _,h1⟩ hS hK
theorem vZ {call : Nat → List AV → M AV} (hc : gu P w0 call) {f : Nat} {l : List AV} {L : List Value} (h : Rel P w0 φ s w) (hl : ak φ l = some L) (e : call f l s n = .ok v s' n' r l1) (hf : Free φ n n') (hS : (∃ fn, P.funcs[f]? = some fn ∧ fn.body.isSome = true ∧ (fn.name == "runtime.NumGoroutine") = false) → (execOp a.eval o).run P w = .ok (.enter f L.toArray) w) (hK : Post P w0 φ s' n n' v o a K) : Oper.wp P o a w K Q := by
 obtain⟨h1,h2⟩:=hc f l L φ s w n v s' n' r l1 h hl e hf;unfold Oper.wp;rw[hS h1,Oper.upon_enter];refine h2.mono ?_;rintro e' w' ⟨V,ψ,rfl,k1,k2,k3,k4⟩;exact hK ψ V w' k1 k2 k3 (.inr k4)
end
theorem wh {f:Fn} {l c:List AV} {V:Value} (h:(AV.fn f l c).den φ=some V):∃L C,ak φ l=some L/\ak φ c=some C/\V=.func f L.toArray C.toArray:=by
 simp only[AV.den] at h;cases h1:ak φ l with
 | none=>rw[h1] at h;cases h
 | some L =>
  cases h2:ak φ c with
  | none=>rw[h1,h2] at h;cases h
  | some C=>rw[h1,h2] at h;cases h;exact⟨L,C,rfl,rfl,rfl⟩
theorem zW {t:Nat} {i:TypeInfo} {m:Method} {f:Nat} {b:Bool} {d:TypeDesc} {V:Value} {name:String} (h1:P.info? t=some i) (h2:i.methods.find? (·.name == name)=some m) (hd:P.underlying t=some d) (hf:m.func=some (f,b)) (hp:m.path.toList=[]) (hb:b=fC P t) (k:Nat) :
  (method (k+1) t V name).run P w=.ok (f,V) w:=by
 rw[method];simp only[Sem.run_bind,typeInfo,run_program,Result.andThen_ok,h1,Sem.run_pure,h2,hp,follow,hf];subst hb;cases d <;> simp[receiverAt,underlying,hd,fC,Place.get]
theorem zX {call:Nat->List AV->M AV} (hc:gu P w0 call) {ρ:Operand->M AV} {a:Act} {c:Call} {dst:Option Nat} {ty:Nat} {ps:String} {af:Array Edge} {gd:Option (Nat × Bool)} {K:Act->World->Prop} {Q:Exit->Act->World->Prop} (h:Rel P w0 φ s w) (hr:gq φ ρ a.eval) (e:om P ρ call c s n=.ok v s' n' r l1) (hf:Free φ n n') (hK:Post P w0 φ s' n n' v ⟨dst,.call c,ty,ps,af,gd⟩ a K):Oper.wp P ⟨dst,.call c,ty,ps,af,gd⟩ a w K Q:=by
 obtain⟨callee,args,ats⟩:=c;have ha:(args.map a.eval)=(args.toList.map a.eval).toArray:=by rw[← List.map_toArray,Array.toArray_toList]
 cases callee with
 | builtin b =>
  obtain⟨l,s1,n1,r1,m1,r2,m2,e1,e2,rfl,rfl⟩:=ah (show(dS ρ args.toList >>= _) _ _=_ from e);obtain⟨rfl,rfl,hl⟩:=kP hr e1;generalize args.toList.map a.eval=L at hl ha;cases b <;> first | (cases e2;done) | skip
  case append =>
   match l,hl,e2 with
   | [x,y],hl,e2 =>
    obtain⟨X,L',hx,hl',rfl⟩:=dx hl;obtain⟨Y,L2,hy,hl2,rfl⟩:=dx hl';simp only[ak] at hl2;cases hl2;exact gy (zL (ty:=ty) h hx hy e2 hf) (by simp only[execOp,resolve,ha];rfl) hK
   | [],_,e2=>cases e2
   | [_],_,e2=>cases e2
   | _ :: _ :: _ :: _,_,e2=>cases e2
  case len =>
   match l,hl,e2 with
   | [x],hl,e2 =>
    obtain⟨X,L',hx,hl',rfl⟩:=dx hl;simp only[ak] at hl';cases hl';exact dz h (zJ (ty:=ty) h hx e2) (by simp only[execOp,resolve,ha];rfl) hK
   | [],_,e2=>cases e2
   | _ :: _ :: _,_,e2=>cases e2
  case copy =>
   match l,hl,e2 with
   | [x,y],hl,e2 =>
    obtain⟨X,L',hx,hl',rfl⟩:=dx hl;obtain⟨Y,L2,hy,hl2,rfl⟩:=dx hl';simp only[ak] at hl2;cases hl2;exact qc (zT (ty:=ty) h hx hy e2) (by simp only[execOp,resolve,ha];rfl) hK
   | [],_,e2=>cases e2
   | [_],_,e2=>cases e2
   | _ :: _ :: _ :: _,_,e2=>cases e2
  case clear =>
   match l,hl,e2 with
   | [x],hl,e2 =>
    obtain⟨X,L',hx,hl',rfl⟩:=dx hl;simp only[ak] at hl';cases hl';obtain⟨k1,k2,w',k3,k4⟩:=zS (ty:=ty) h hx e2;exact qc ⟨k1,.tuple #[],w',by rw[k2];rfl,k3,k4⟩ (by simp only[execOp,resolve,ha];rfl) hK
   | [],_,e2=>cases e2
   | _ :: _ :: _,_,e2=>cases e2
  case delete =>
   match l,hl,e2 with
   | [x,y],hl,e2 =>
    obtain⟨X,L',hx,hl',rfl⟩:=dx hl;obtain⟨Y,L2,hy,hl2,rfl⟩:=dx hl';simp only[ak] at hl2;cases hl2;obtain⟨k1,k2,w',k3,k4⟩:=zl ty h hy hx e2;exact qc ⟨k1,.tuple #[],w',by rw[k2];rfl,k3,k4⟩ (by simp only[execOp,resolve,ha];rfl) hK
   | [],_,e2=>cases e2
   | [_],_,e2=>cases e2
   | _ :: _ :: _ :: _,_,e2=>cases e2
  case max=>exact dz h (vV (b:=true) (ts:=ats) (ty:=ty) hl e2) (by simp only[execOp,resolve,ha];rfl) hK
  case min=>exact dz h (vV (b:=false) (ts:=ats) (ty:=ty) hl e2) (by simp only[execOp,resolve,ha];rfl) hK
 | value f =>
  obtain⟨l,s1,n1,r1,m1,r2,m2,e1,e2,rfl,rfl⟩:=ah (show(dS ρ args.toList >>= _) _ _=_ from e);obtain⟨rfl,rfl,hl⟩:=kP hr e1;obtain⟨u,s2,n2,r3,m3,r4,m4,e3,e4,rfl,rfl⟩:=ah e2;obtain⟨rfl,rfl,hu⟩:=hr.at e3;unfold kg at e4
  split at e4
  ·rename_i g x c
   obtain⟨X,C,hx,hcc,hV⟩:=wh hu;refine vZ hc h (iL (iL hx hl) hcc) e4 hf (λhg=>?_) hK;simp only[execOp,resolve,hV,Deferred.ofValue,Sem.run_bind,Sem.run_pure,Result.andThen_ok,invoke,ha];rw[qb hg];simp
  ·cases e4
 | invoke f name =>
  obtain⟨l,s1,n1,r1,m1,r2,m2,e1,e2,rfl,rfl⟩:=ah (show(dS ρ args.toList >>= _) _ _=_ from e);obtain⟨rfl,rfl,hl⟩:=kP hr e1;obtain⟨u,s2,n2,r3,m3,r4,m4,e3,e4,rfl,rfl⟩:=ah e2;obtain⟨rfl,rfl,hu⟩:=hr.at e3;unfold og at e4
  split at e4
  ·rename_i t y
   obtain⟨Y,hY,hV⟩:=ji hu;obtain⟨i,s3,n3,r5,m5,r6,m6,e5,e6,rfl,rfl⟩:=ah e4;obtain⟨h1,rfl,rfl⟩:=aF e5;obtain⟨m,s4,n4,r7,m7,r8,m8,e7,e8,rfl,rfl⟩:=ah e6;obtain⟨h2,rfl,rfl⟩:=aF e7;obtain⟨d,s5,n5,r9,m9,dX,m10,e9,e10,rfl,rfl⟩:=ah e8;obtain⟨rfl,rfl,hd⟩:=cK e9;cases hfn:m.func with
   | none=>rw[hfn] at e10;cases e10
   | some fb =>
   obtain⟨g,b⟩:=fb;cases hp:m.path.toList with
   | cons x l=>rw[hfn,hp] at e10;cases e10
   | nil =>
   rw[hfn,hp] at e10;cases hx:Bool.xor b (fC P t) with
   | true =>
    have e11:(cond (Bool.xor b (fC P t)) (M.no 104) (call g (y :: l)):M AV) _ _=_:=e10;rw[hx] at e11;cases e11
   | false =>
    have e11:(cond (Bool.xor b (fC P t)) (M.no 104) (call g (y :: l)):M AV) _ _=_:=e10;rw[hx] at e11;have hb:b=fC P t:=by revert hx;cases b <;> cases fC P t <;> simp
    refine vZ hc h (dO hY hl) e11 hf (λhg=>?_) hK;have hk:P.types.size+Made.depth=(P.types.size+Made.depth - 1)+1:=by simp[Made.depth]
    simp only[execOp,resolve,hV,Sem.run_bind,Sem.run_pure,Result.andThen_ok,invoke,ha];simp only[List.append_toArray,List.cons_append,List.nil_append,List.getElem?_toArray,List.getElem?_cons_zero,callMethod,Sem.run_bind,run_program,Result.andThen_ok];rw[hk,zW h1 h2 hd hfn hp hb];simp only[Result.andThen_ok];rw[qb hg];simp;exact List.take_of_length_le (by simp)
  ·cases e4
theorem zY {t:Nat} {lo:Option AV} {Lo:Option Value} {hi mx x:AV} {Hi Mx X:Value} (hlo:∀y,lo=some y->∃Y,Lo=some Y/\y.den φ=some Y) (hln:lo=none->Lo=none) (hhi:hi.den φ=some Hi) (hmx:mx.den φ=some Mx)
  (hx:x.den φ=some X) (e:jV P t lo hi mx x s n=.ok v s' n' r l1):s'=s/\n'=n/\v=.bad/\∃V,(Instr.sliceAt t X Lo (some Hi) (some Mx)).run P w=.ok V w:=by
 unfold jV at e
 split at e
 ·rename_i i o k c
  obtain⟨b,y,hp,rfl⟩:=eO hx;obtain⟨el,s1,n1,r1,m1,r2,m2,e1,e2,rfl,rfl⟩:=ah e;obtain⟨rfl,rfl,h1⟩:=eG e1;obtain⟨sz,s2,n2,r3,m3,r4,m4,e3,e4,rfl,rfl⟩:=ah e2;obtain⟨rfl,rfl,hsz⟩:=dI e3;obtain⟨CJ,s3,n3,r5,m5,r6,m6,e5,e6,rfl,rfl⟩:=ah e4;obtain⟨rfl,rfl,wm,rfl⟩:=pq hmx e5;obtain⟨mm,s4,n4,r7,m7,r8,m8,e7,e8,rfl,rfl⟩:=ah e6;obtain⟨rfl,rfl,rfl,hm⟩:=rC e7;obtain⟨h1',s5,n5,r9,m9,dX,m10,e9,e10,rfl,rfl⟩:=ah e8;obtain⟨rfl,rfl,wo,rfl⟩:=pq hhi e9;obtain⟨hh,s6,n6,ng,m11,ni,m12,e11,e12,rfl,rfl⟩:=ah e10;obtain⟨rfl,rfl,rfl,hhm⟩:=rC e11;obtain⟨ll,s7,n7,pJ,m13,pK,m14,e13,e14,rfl,rfl⟩:=ah e12
  obtain⟨rfl,rfl,hl⟩:=gX hlo hln e13;obtain⟨rfl,rfl,rfl⟩:=aj e14;refine⟨rfl,rfl,rfl,?_⟩;have hb:(Instr.sliceBounds true k (c+y) Lo (some (.int wo hh)) (some (.int wm mm))).run P w=.ok (ll,hh,mm) w:=by
   have sb:∀ {kd:IntKind} {i y:Nat} {code:BoundsCode},i<=y->(Instr.sliceBound (.int kd i) y code).run P w=.ok i w:=fun {kd i y code} hle=>by
    simp only[Instr.sliceBound,asIntOf,Sem.run_bind,Sem.run_pure,Result.andThen_ok];rw[if_pos ⟨by omega,by omega⟩];simp
   have b1:=λcode=>sb (kd:=wm) (code:=code) (show mm<=c+y by omega);have b2:=λcode=>sb (kd:=wo) (code:=code) hhm;rcases hl with⟨rfl,rfl⟩ | ⟨kl,rfl,h2⟩
   ·simp[Instr.sliceBounds,b1,b2]
   ·have b3:=λcode=>sb (kd:=kl) (code:=code) h2
    simp[Instr.sliceBounds,b1,b2,b3]
  exact⟨_,by simp[Instr.sliceAt,underlying,h1,Instr.slice,hb,run_sizeOf hsz];rfl⟩
 ·cases e
/-- Every operation. -/
theorem zZ {call:Nat->List AV->M AV} (hc:gu P w0 call) {ρ:Operand->M AV} {a:Act} {o:Oper} {K:Act->World->Prop} {Q:Exit->Act->World->Prop} (h:Rel P w0 φ s w) (hr:gq φ ρ a.eval) (e:mE P call ρ o.op s n=.ok v s' n' r l1) (hf:Free φ n n') (hK:Post P w0 φ s' n n' v o a K):Oper.wp P o a w K Q:=by
 obtain⟨dst,op,ty,ps,af,gd⟩:=o;cases op <;> first | (cases e;done) | skip
 case move x=>exact dz (S:=pure (a.eval x)) h (by obtain⟨h1,h2,h3⟩:=hr.at (show ρ x s n=_ from e);exact⟨h1,h2,_,h3,by simp⟩) (by simp[execOp]) hK
 case assign x=>exact dz (S:=pure (a.eval x)) h (by obtain⟨h1,h2,h3⟩:=hr.at (show ρ x s n=_ from e);exact⟨h1,h2,_,h3,by simp⟩) (by simp[execOp]) hK
 case pick c x y =>
  obtain⟨u,s1,n1,r1,m1,r2,m2,e1,e2,rfl,rfl⟩:=ah (show(ρ c >>= λu=>lM (ρ x) (ρ y) u) _ _=_ from e);obtain⟨rfl,rfl,hu⟩:=hr.at e1;unfold lM at e2
  split at e2
  ·have hcv:=bF hu
   obtain⟨rfl,rfl,h3⟩:=hr.at e2;exact dz (S:=pure (a.eval x)) h ⟨rfl,rfl,_,h3,by simp⟩ (by simp[execOp,hcv,asBool]) hK
  ·have hcv:=bF hu
   obtain⟨rfl,rfl,h3⟩:=hr.at e2;exact dz (S:=pure (a.eval y)) h ⟨rfl,rfl,_,h3,by simp⟩ (by simp[execOp,hcv,asBool]) hK
  ·cases e2
 case alloc t=>exact gy (zm h e hf) rfl hK
 case box t x =>
  obtain⟨u,s1,n1,r1,m1,r2,m2,e1,e2,rfl,rfl⟩:=ah (show(ρ x >>= λu=>iW P t u.cells) _ _=_ from e);obtain⟨rfl,rfl,hu⟩:=hr.at e1;exact gy (vO h (qU hu) e2 hf) rfl hK
 case build t pp =>
  obtain⟨u,s1,n1,r1,m1,r2,m2,e1,e2,rfl,rfl⟩:=ah (show(jH ρ pp.toList >>= λu=>jI P t u) _ _=_ from e);obtain⟨rfl,rfl,hu⟩:=rJ hr e1;refine dz h (zu (w:=w) hu e2) ?_ hK;rw[← Array.toList_map,Array.toArray_toList];rfl
 case buildSlice t len pp =>
  obtain⟨u,s1,n1,r1,m1,r2,m2,e1,e2,rfl,rfl⟩:=ah (show(jH ρ pp.toList >>= λu=>jJ P t len u) _ _=_ from e);obtain⟨rfl,rfl,hu⟩:=rJ hr e1;refine gy (zx h hu e2 hf) ?_ hK;rw[← Array.toList_map,Array.toArray_toList];rfl
 case load t x =>
  obtain⟨u,s1,n1,r1,m1,r2,m2,e1,e2,rfl,rfl⟩:=ah (show(ρ x >>= λu=>iX P t u) _ _=_ from e);obtain⟨rfl,rfl,hu⟩:=hr.at e1;exact dz h (yC h hu e2) rfl hK
 case store t x y =>
  obtain⟨u,s1,n1,r1,m1,r2,m2,e1,e2,rfl,rfl⟩:=ah (show(ρ x >>= λu=>ρ y >>= λz=>jK P t u z) _ _=_ from e);obtain⟨rfl,rfl,hu⟩:=hr.at e1;obtain⟨z,s2,n2,r3,m3,r4,m4,e3,e4,rfl,rfl⟩:=ah e2;obtain⟨rfl,rfl,hz⟩:=hr.at e3;exact rM (zn h hu hz e4) rfl hK
 case nilCheck x =>
  obtain⟨u,s1,n1,r1,m1,r2,m2,e1,e2,rfl,rfl⟩:=ah (show(ρ x >>= λu=>lS P u) _ _=_ from e);obtain⟨rfl,rfl,hu⟩:=hr.at e1;obtain⟨rfl,rfl,hv,hx⟩:=yP (w:=w) (ρ:=a.eval) (x:=x) (o:=⟨dst,.nilCheck x,ty,ps,af,gd⟩) rfl rfl hu e2;unfold Oper.wp;rw[hx,Oper.upon_value];exact hK φ _ w h (.refl _ _) (Ph.le_refl _) (.inr hv)
 case binOp Aa t x y q =>
  obtain⟨u,s1,n1,r1,m1,r2,m2,e1,e2,rfl,rfl⟩:=ah (show(ρ x >>= λu=>ρ y >>= λz=>jO P Aa t x y u z) _ _=_ from e);obtain⟨rfl,rfl,hu⟩:=hr.at e1;obtain⟨z,s2,n2,r3,m3,r4,m4,e3,e4,rfl,rfl⟩:=ah e2;obtain⟨rfl,rfl,hz⟩:=hr.at e3;exact dz h (yL (w:=w) hu hz e4) rfl hK
 case unOp Ab q x =>
  obtain⟨u,s1,n1,r1,m1,r2,m2,e1,e2,rfl,rfl⟩:=ah (show(ρ x >>= λu=>jP P Ab u) _ _=_ from e);obtain⟨rfl,rfl,hu⟩:=hr.at e1;exact dz h (yM (w:=w) hu e2) rfl hK
 case convert src dt x =>
  obtain⟨u,s1,n1,r1,m1,r2,m2,e1,e2,rfl,rfl⟩:=ah (show(ρ x >>= λu=>jQ P src dt u) _ _=_ from e);obtain⟨rfl,rfl,hu⟩:=hr.at e1;exact gy (zD h hu e2 hf) rfl hK
 case makeInterface t x =>
  obtain⟨u,s1,n1,r1,m1,r2,m2,e1,e2,rfl,rfl⟩:=ah (show(ρ x >>= λu=>jR P t u) _ _=_ from e);obtain⟨rfl,rfl,hu⟩:=hr.at e1;exact dz h (yN (w:=w) hu e2) rfl hK
 case makeFunc f x c =>
  obtain⟨u,s1,n1,r1,m1,r2,m2,e1,e2,rfl,rfl⟩:=ah (show(dS ρ x.toList >>= λu=>dS ρ c.toList >>= λz=>(pure (.fn f u z):M AV)) _ _=_ from e);obtain⟨rfl,rfl,hu⟩:=kP hr e1;obtain⟨z,s2,n2,r3,m3,r4,m4,e3,e4,rfl,rfl⟩:=ah e2;obtain⟨rfl,rfl,hz⟩:=kP hr e3;obtain⟨rfl,rfl,rfl⟩:=aj e4;exact dz (S:=Instr.makeFunc f (x.map a.eval) (c.map a.eval)) h ⟨rfl,rfl,.func f (x.map a.eval) (c.map a.eval),by
   have t1:∀y:Array Operand,(y.toList.map a.eval).toArray=y.map a.eval:=λy=>by rw[← List.map_toArray,Array.toArray_toList]
   simp only[AV.den,hu,hz,t1],by simp[Instr.makeFunc]⟩ rfl hK
 case makeMap t x =>
  obtain⟨u,s1,n1,r1,m1,r2,m2,e1,e2,rfl,rfl⟩:=ah (show(fK ρ x >>= λu=>jS P t u) _ _=_ from e);obtain⟨rfl,rfl,hu,hn⟩:=pY hr e1;exact gy (zA h hu hn e2 hf) rfl hK
 case makeSlice t x y =>
  obtain⟨u,s1,n1,r1,m1,r2,m2,e1,e2,rfl,rfl⟩:=ah (show(ρ x >>= λu=>ρ y >>= λz=>jT P t u z) _ _=_ from e);obtain⟨rfl,rfl,hu⟩:=hr.at e1;obtain⟨z,s2,n2,r3,m3,r4,m4,e3,e4,rfl,rfl⟩:=ah e2;obtain⟨rfl,rfl,hz⟩:=hr.at e3;exact gy (zy h hu hz e4 hf) rfl hK
 case slice t x lo hi mx =>
  cases mx with
  | none =>
   obtain⟨l,s1,n1,r1,m1,r2,m2,e1,e2,rfl,rfl⟩:=ah (show(fK ρ lo >>= λl=>fK ρ hi >>= λh=>ρ x >>= λu=>jU P t l h u) _ _=_ from e);obtain⟨rfl,rfl,hl,hln⟩:=pY hr e1;obtain⟨hh,s2,n2,r3,m3,r4,m4,e3,e4,rfl,rfl⟩:=ah e2;obtain⟨rfl,rfl,hhi,hhn⟩:=pY hr e3;obtain⟨u,s3,n3,r5,m5,r6,m6,e5,e6,rfl,rfl⟩:=ah e4;obtain⟨rfl,rfl,hu⟩:=hr.at e5;exact dz h (yS hl hln hhi hhn h hu e6) rfl hK
  | some mx =>
   cases hi with
   | none=>cases e
   | some hi =>
   obtain⟨l,s1,n1,r1,m1,r2,m2,e1,e2,rfl,rfl⟩:=ah (show(fK ρ lo >>= λl=>ρ hi >>= λh=>ρ mx >>= λm=>ρ x >>= λu=>jV P t l h m u) _ _=_ from e);obtain⟨rfl,rfl,hl,hln⟩:=pY hr e1;obtain⟨hh,s2,n2,r3,m3,r4,m4,e3,e4,rfl,rfl⟩:=ah e2;obtain⟨rfl,rfl,hhi⟩:=hr.at e3;obtain⟨mm,s3,n3,r5,m5,r6,m6,e5,e6,rfl,rfl⟩:=ah e4;obtain⟨rfl,rfl,hmx⟩:=hr.at e5;obtain⟨u,s4,n4,r7,m7,r8,m8,e7,e8,rfl,rfl⟩:=ah e6;obtain⟨rfl,rfl,hu⟩:=hr.at e7;obtain⟨rfl,rfl,rfl,V,hV⟩:=zY (w:=w) hl hln hhi hmx hu e8;unfold Oper.wp
   rw[show execOp a.eval ⟨dst,.slice t x lo (some hi) (some mx),ty,ps,af,gd⟩=(do pure (.value (← Instr.sliceAt t (a.eval x) (lo.map a.eval) (some (a.eval hi)) (some (a.eval mx))))) from rfl,Sem.run_bind,hV,Result.andThen_ok,Sem.run_pure,Oper.upon_value];exact hK φ _ w h (.refl _ _) (Ph.le_refl _) (.inl rfl)
 case fieldAddr t x f =>
  obtain⟨u,s1,n1,r1,m1,r2,m2,e1,e2,rfl,rfl⟩:=ah (show(ρ x >>= λu=>jW P t f u) _ _=_ from e);obtain⟨rfl,rfl,hu⟩:=hr.at e1;exact dz h (yE (w:=w) hu e2) rfl hK
 case field t x f =>
  obtain⟨u,s1,n1,r1,m1,r2,m2,e1,e2,rfl,rfl⟩:=ah (show(ρ x >>= λu=>lV P t f u) _ _=_ from e);obtain⟨rfl,rfl,hu⟩:=hr.at e1;exact dz h (yD (w:=w) hu e2) rfl hK
 case indexAddr t x ix =>
  obtain⟨z,s2,n2,r3,m3,r4,m4,e3,e4,rfl,rfl⟩:=ah (show(ρ ix >>= λz=>ρ x >>= λu=>lW P t z u) _ _=_ from e);obtain⟨rfl,rfl,hz⟩:=hr.at e3;obtain⟨u,s1,n1,r1,m1,r2,m2,e1,e2,rfl,rfl⟩:=ah e4;obtain⟨rfl,rfl,hu⟩:=hr.at e1;exact dz h (yF (w:=w) hu hz e2) rfl hK
 case index t x ix =>
  obtain⟨z,s2,n2,r3,m3,r4,m4,e3,e4,rfl,rfl⟩:=ah (show(ρ ix >>= λz=>ρ x >>= λu=>jX P t z u) _ _=_ from e);obtain⟨rfl,rfl,hz⟩:=hr.at e3;obtain⟨u,s1,n1,r1,m1,r2,m2,e1,e2,rfl,rfl⟩:=ah e4;obtain⟨rfl,rfl,hu⟩:=hr.at e1;exact dz h (yG (w:=w) hu hz e2) rfl hK
 case lookup t x ix ok =>
  obtain⟨z,s2,n2,r3,m3,r4,m4,e3,e4,rfl,rfl⟩:=ah (show(ρ ix >>= λz=>ρ x >>= λu=>jY P t z ok u) _ _=_ from e);obtain⟨rfl,rfl,hz⟩:=hr.at e3;obtain⟨u,s1,n1,r1,m1,r2,m2,e1,e2,rfl,rfl⟩:=ah e4;obtain⟨rfl,rfl,hu⟩:=hr.at e1;exact dz h (zf h hz hu e2) rfl hK
 case mapUpdate t m k x =>
  obtain⟨z,s2,n2,r3,m3,r4,m4,e3,e4,rfl,rfl⟩:=ah (show(ρ k >>= λz=>ρ x >>= λy=>ρ m >>= λu=>jZ P t z y u) _ _=_ from e);obtain⟨rfl,rfl,hz⟩:=hr.at e3;obtain⟨y,s3,n3,r5,m5,r6,m6,e5,e6,rfl,rfl⟩:=ah e4;obtain⟨rfl,rfl,hy⟩:=hr.at e5;obtain⟨u,s1,n1,r1,m1,r2,m2,e1,e2,rfl,rfl⟩:=ah e6;obtain⟨rfl,rfl,hu⟩:=hr.at e1;exact rM (vN h hz hu hy e2) rfl hK
 case insert t m k x =>
  obtain⟨z,s2,n2,r3,m3,r4,m4,e3,e4,rfl,rfl⟩:=ah (show(ρ k >>= λz=>ρ x >>= λy=>ρ m >>= λu=>jZ P t z y u) _ _=_ from e);obtain⟨rfl,rfl,hz⟩:=hr.at e3;obtain⟨y,s3,n3,r5,m5,r6,m6,e5,e6,rfl,rfl⟩:=ah e4;obtain⟨rfl,rfl,hy⟩:=hr.at e5;obtain⟨u,s1,n1,r1,m1,r2,m2,e1,e2,rfl,rfl⟩:=ah e6;obtain⟨rfl,rfl,hu⟩:=hr.at e1;exact rM (vN h hz hu hy e2) rfl hK
 case range t x =>
  obtain⟨u,s1,n1,r1,m1,r2,m2,e1,e2,rfl,rfl⟩:=ah (show(ρ x >>= λu=>lY P t u) _ _=_ from e);obtain⟨rfl,rfl,hu⟩:=hr.at e1;exact gy (zF h hu e2 hf) rfl hK
 case next x b =>
  cases b with
  | true=>cases e
  | false =>
  obtain⟨u,s1,n1,r1,m1,r2,m2,e1,e2,rfl,rfl⟩:=ah (show(ρ x >>= λu=>mg u) _ _=_ from e);obtain⟨rfl,rfl,hu⟩:=hr.at e1;exact qc (zV (ty:=ty) h hu e2) rfl hK
 case entry x =>
  obtain⟨u,s1,n1,r1,m1,r2,m2,e1,e2,rfl,rfl⟩:=ah (show(ρ x >>= λu=>mh u) _ _=_ from e);obtain⟨rfl,rfl,hu⟩:=hr.at e1;exact dz h (zG h hu e2) rfl hK
 case typeAssert x t0 t ok =>
  obtain⟨u,s1,n1,r1,m1,r2,m2,e1,e2,rfl,rfl⟩:=ah (show(ρ x >>= λu=>mq P t ok u) _ _=_ from e);obtain⟨rfl,rfl,hu⟩:=hr.at e1;exact dz h (zH (w:=w) (t0:=t0) hu e2) rfl hK
 case extract x k =>
  obtain⟨u,s1,n1,r1,m1,r2,m2,e1,e2,rfl,rfl⟩:=ah (show(ρ x >>= λu=>mD k u) _ _=_ from e);obtain⟨rfl,rfl,hu⟩:=hr.at e1;exact dz h (yH (w:=w) hu e2) rfl hK
 case call c=>exact zX hc h hr e hf hK
end
/- A list of operations. -/
section
variable {P : Program} {w0 : World} {φ : Ph} {s s' : Ob} {w : World} {n n' : Nat} {r l1 : Lg} {v : AV}
noncomputable def marksOf (E:Env) (N:Nat):List AV:=match T.get E N with | some (.agg l)=>l | _=>[]
def jr (φ:Ph):List AV->List Deferred->Prop
 | [],[]=>True
 | .ptr i _ :: l,d :: ds=>(∃b x,φ i=some (b,x)/\d = { target:=.collected b,args:=#[] })/\jr φ l ds
 | _,_=>False
theorem jr.le {φ ψ:Ph} (h:φ.le ψ):∀ {l:List AV} {ds:List Deferred},jr φ l ds->jr ψ l ds
 | [],[],_=>trivial
 | v :: l,d :: ds,hm=>by
  cases v with
  | ptr i o=>obtain⟨⟨b,x,h1,h2⟩,h3⟩:=hm;exact⟨⟨b,x,h i _ h1,h2⟩,jr.le h h3⟩
  | _=>exact hm.elim
 | [],_ :: _,hm=>hm.elim
 | v :: l,[],hm=>by cases v <;> exact hm.elim
/-- What the slots say. -/
structure bV (φ:Ph) (N:Nat) (E:Env) (a:Act):Prop where
 size:a.tmps.size=N
 val:∀t v,t < N->T.get E t=some v->∃V,v.den φ=some V/\a.tmps[t]?=some V
 marks:jr φ (marksOf E N) a.defers
theorem bV.le {φ ψ:Ph} {N:Nat} {E:Env} {a:Act} (h:bV φ N E a) (hl:φ.le ψ):bV ψ N E a :=
 ⟨h.size,λt v ht hv=>let ⟨V,h1,h2⟩:=h.val t v ht hv;⟨V,AV.fO hl v h1,h2⟩,h.marks.le hl⟩
theorem nu {N:Nat} {E:Env} {a:Act} (h:bV φ N E a):gq φ (env N E) a.eval:=by
 intro x v s n s' n' r l e;cases x with
 | tmp t =>
  obtain⟨hb,e1⟩:=bC e;obtain⟨h1,h2,h3⟩:=aF e1;obtain⟨V,k1,k2⟩:=h.val t v (dQ hb) h1;exact⟨h2,h3,by simp[Act.eval,Array.getD_eq_getD_getElem?,k2,k1]⟩
 | const u =>
  obtain⟨h1,h2,h3⟩:=aF e;exact⟨h2,h3,kK h1⟩
 | global g=>cases e
 | func f=>obtain⟨rfl,rfl,rfl⟩:=aj e;exact⟨rfl,rfl,rfl⟩
theorem kQ {E:Env} {d t:Nat} {u:AV}:T.get (E.set (some d) u) t=if t=d then (match u with | .bad=>none | u=>some u) else T.get E t:=by
 unfold Env.set;cases u <;> exact T.get_put _ _ _ _
theorem bV.set {N:Nat} {E:Env} {a:Act} {o:Option Nat} {V:Value} (h:bV φ N E a) (ho:uD N o=true) (hv:v=.bad\/v.den φ=some V):bV φ N (E.set o v) (a.put o V):=by
 cases o with
 | none=>exact h
 | some d =>
  have hd:d < N:=dQ ho;refine⟨by simp[Act.put,h.size],λt u ht hu=>?_,?_⟩
  ·rw[kQ] at hu
   by_cases e:t=d
   ·subst e
    rw[if_pos rfl] at hu;have hlt:t < a.tmps.size:=by rw[h.size];exact hd
    rcases hv with rfl | hv
    ·cases hu
    ·have:u=v:=by cases v <;> cases hu <;> rfl
     subst this;exact⟨V,hv,by simp[Act.put,hlt]⟩
   ·rw[if_neg e] at hu
    obtain⟨U,h1,h2⟩:=h.val t u ht hu;exact⟨U,h1,by simp only[Act.put];rw[Array.getElem?_setIfInBounds_ne (λh=>e h.symm)];exact h2⟩
  ·have:marksOf (E.set (some d) v) N=marksOf E N:=by
    unfold marksOf;rw[kQ,if_neg (by omega)]
   rw[this];exact h.marks
theorem Ac {N:Nat} {ops:Array Oper} {E:Env} {a:Act} {o:Oper} {b:Bool} (h:bV φ N E a) (e:gL N ops.toList E o s n=.ok b s' n' r l1):s'=s/\n'=n/\Region.wanted o (yielded ops a.tmps)=b:=by
 unfold gL at e;unfold Region.wanted;cases hg:o.guard with
 | none=>rw[hg] at e;obtain⟨rfl,rfl,rfl⟩:=aj (show(pure true:M _) _ _=_ from e);exact⟨rfl,rfl,rfl⟩
 | some jb =>
  obtain⟨j,bb⟩:=jb;rw[hg] at e;obtain⟨d,s1,n1,r1,m1,r2,m2,e1,e2,rfl,rfl⟩:=ah (show(M.opt 113 (((ops.toList.drop j).head?).bind (·.dst)) >>= _) _ _=_ from e);obtain⟨hd,rfl,rfl⟩:=aF e1;obtain⟨hb,e3⟩:=bC e2;have hdd:(ops[j]?).bind (·.dst)=some d:=by rw[← hd];simp
  cases hv:T.get E d with
  | none=>rw[hv] at e3;cases e3
  | some u =>
   obtain⟨U,h1,h2⟩:=h.val d u (dQ hb) hv;rw[hv] at e3;dsimp only;cases u with
   | sc x =>
    cases x with
    | bool c =>
     obtain⟨rfl,rfl,rfl⟩:=aj (show(pure _:M _) _ _=_ from e3);cases bF h1
     refine⟨rfl,rfl,?_⟩;simp only[yielded,hdd,Option.bind_some,h2];cases c <;> cases bb <;> rfl
    | _=>cases e3
   | bG l =>
    cases l with
    | nil =>
     obtain⟨rfl,rfl,rfl⟩:=aj (show(pure _:M _) _ _=_ from e3);simp only[AV.den,ak] at h1;cases h1;refine⟨rfl,rfl,?_⟩;simp only[yielded,hdd,Option.bind_some,h2];cases bb <;> rfl
    | cons _ _=>cases e3
   | _=>cases e3
theorem qd {α:Type} {e:Nat} {m:M α} {a:α} (h:M.tag e m s n=.ok a s' n' r l1):m s n=.ok a s' n' r l1:=by
 unfold M.tag at h;cases hm:m s n <;> rw[hm] at h <;> first | exact h | cases h
/-- One operation with its guard. -/
theorem wu {call:Nat->List AV->M AV} (hc:gu P w0 call) {ρ:Operand->M AV} {g:M Bool} {ops:Array Oper} {a:Act} {o:Oper} {K:Act->World->Prop} {Q:Exit->Act->World->Prop} (h:Rel P w0 φ s w) (hr:gq φ ρ a.eval)
  (hg:∀b s1 n1 r1 m1,g s n=.ok b s1 n1 r1 m1->s1=s/\n1=n/\Region.wanted o (yielded ops a.tmps)=b) (e:ko P call ρ g o s n=.ok v s' n' r l1) (hf:Free φ n n') (hK:Post P w0 φ s' n n' v o a K) :
  if Region.wanted o (yielded ops a.tmps)=true then Oper.wp P o a w K Q else K (a.put o.dst undef) w:=by
 obtain⟨b,s1,n1,r1,m1,r2,m2,e1,e2,rfl,rfl⟩:=ah (show(g >>= λb=>cond b (mE P call ρ o.op) (pure (.bG []))) _ _=_ from e);obtain⟨rfl,rfl,hb⟩:=hg _ _ _ _ _ e1;rw[hb];cases b with
 | true=>exact zZ hc h hr e2 hf hK
 | false =>
  obtain⟨rfl,rfl,rfl⟩:=aj (show(pure _:M _) _ _=_ from e2);exact hK φ undef w h (.refl _ _) (Ph.le_refl _) (.inr rfl)
/-- A region in the list's order. -/
theorem rO {call:Nat->List AV->M AV} (hfc:∀f a,Fr (call f a)) (hc:gu P w0 call) {N:Nat} {ops:Array Oper} {Q:Exit->Act->World->Prop}:∀(l:List Oper) (k:Nat) (E E':Env) (a:Act) (φ:Ph) (s s':Ob) (w:World) (n n':Nat) (r l1:Lg),ops.toList.drop k=l ->
  mF P call N ops.toList l E s n=.ok E' s' n' r l1->Rel P w0 φ s w->bV φ N E a->Free φ n n' ->
  (∀ψ a' w',Rel P w0 ψ s' w'->Ext φ ψ n n'->φ.le ψ->bV ψ N E' a'->Q .normal a' w')->wpOps P ops Q (List.range' k l.length) a w
 | [],k,E,E',a,φ,s,s',w,n,n',r,l1,hl,e,h,hE,hf,hQ=>by
  obtain⟨rfl,rfl,rfl⟩:=aj (show(pure E:M _) _ _=_ from e);exact hQ φ a w h (.refl _ _) (Ph.le_refl _) hE
 | o :: l,k,E,E',a,φ,s,s',w,n,n',r,l1,hl,e,h,hE,hf,hQ=>by
  obtain⟨v,s1,n1,r1,m1,r2,m2,e1,e2,rfl,rfl⟩:=ah (show(M.tag _ (ko P call (env N E) (gL N ops.toList E o) o) >>= _) _ _=_ from e);have pV:=qd e1;obtain⟨hd,e3⟩:=bC e2;have ho:ops[k]?=some o:=by
   rw[← Array.getElem?_toList,← List.head?_drop,hl];rfl
  have hl':ops.toList.drop (k+1)=l:=by rw[← List.drop_drop,hl];rfl
  have rP:=(mU P hfc (gV N E) (qX _ _ _ _) o _ _ _ _ _ _ _ pV).le;have iP:=(qZ P hfc N ops.toList l _ _ _ _ _ _ _ _ e3).le;simp only[List.length_cons,List.range'_succ,wpOps,ho];have key:=wu (Q:=Q) (K:=wpOps P ops Q (List.range' (k+1) l.length)) (ops:=ops) hc h (nu hE) (λb s2 n2 r2 m2 hg=>Ac hE hg) pV (λi h1 h2=>hf i h1 (by omega)) (λψ V w' k1 k2 k3 k4=>?_)
  ·split
   ·rename_i hw;rw[if_pos hw] at key;exact .inl key
   ·rename_i hw;rw[if_neg hw] at key;exact key
  ·exact rO hfc hc l (k+1) _ E' _ ψ s1 s' w' n1 n' r2 m2 hl' e3 k1 ((hE.le k3).set hd k4) (λi h1 h2=>by rw[k2.out i (by omega)];exact hf i (by omega) h2)
    λχ a' w'' j1 j2 j3 j4=>hQ χ a' w'' j1 (k2.trans j2) (Ph.le_trans k3 j3) j4
end
/- A region that draws its order. -/
theorem ny (m i:Nat):bX m i=m.testBit i:=by
 unfold bX Nat.testBit;show Nat.beq ((m >>> i) &&& 1) 1=((1 &&& (m >>> i)) != 0);rw[Nat.and_comm 1];have:(m >>> i) &&& 1=(m >>> i) % 2:=Nat.and_one_is_mod _;rw[this];rcases Nat.mod_two_eq_zero_or_one (m >>> i) with h | h <;> rw[h] <;> rfl
theorem Ad (i:Nat):bX 0 i=false:=by rw[ny];simp
theorem wz (a b i:Nat):bX (Nat.lor a b) i=(bX a i || bX b i):=by rw[ny,ny,ny];exact Nat.testBit_or a b i
theorem Ae (j i:Nat):bX (Nat.shiftLeft 1 j) i=decide (j=i):=by
 rw[ny,show Nat.shiftLeft 1 j=2 ^ j by show 1 <<< j=_;rw[Nat.one_shiftLeft],Nat.testBit_two_pow]
theorem Lg.rQ {i o:Nat}:∀ {x:Lg},x.has i o->x.mem i o=true
 | .e,h=>h.elim
 | .p j q,h=>by obtain⟨rfl,rfl⟩:=h;simp[Lg.mem]
 | .rg j q k,h=>by obtain⟨rfl,h1,h2⟩:=h;simp[Lg.mem,Nat.blt_eq,h1,h2]
 | .ob j,h=>by cases (show i=j from h);simp[Lg.mem]
 | .a x y,h=>by
  rcases h with h | h
  ·simp[Lg.mem,Lg.rQ h]
  ·simp[Lg.mem,Lg.rQ h]
theorem Lg.rR {i o k q:Nat} (h1:o<=q) (h2:q < o+k):∀ {x:Lg},x.has i q->x.gM i o k=true
 | .e,h=>h.elim
 | .p j q',h=>by obtain⟨rfl,rfl⟩:=h;simp[Lg.gM,Nat.blt_eq,h1,h2]
 | .rg j q' m,h=>by
  obtain⟨rfl,h3,h4⟩:=h;have h5:q' < o+k:=by omega
  have h6:o < q'+m:=by omega
  simp[Lg.gM,Nat.blt_eq,h5,h6]
 | .ob j,h=>by cases (show i=j from h);simp[Lg.gM]
 | .a x y,h=>by
  rcases h with h | h
  ·simp[Lg.gM,Lg.rR h1 h2 h]
  ·simp[Lg.gM,Lg.rR h1 h2 h]
theorem Lg.rT {i o:Nat}:∀ {x:Lg},x.has i o->x.gN i=true
 | .e,h=>h.elim
 | .p j q,h=>by obtain⟨rfl,rfl⟩:=h;simp[Lg.gN]
 | .rg j q k,h=>by obtain⟨rfl,h1,h2⟩:=h;simp[Lg.gN]
 | .ob j,h=>by cases (show i=j from h);simp[Lg.gN]
 | .a x y,h=>by
  rcases h with h | h
  ·simp[Lg.gN,Lg.rT h]
  ·simp[Lg.gN,Lg.rT h]
theorem Lg.nA {i o:Nat}:∀ {x y:Lg},x.apart y=true->x.has i o->¬y.has i o
 | .e,y,_,h=>h.elim
 | .p j q,y,ha,h=>by
  obtain⟨rfl,rfl⟩:=h;intro h2;simp[Lg.apart,Lg.rQ h2] at ha
 | .rg j q k,y,ha,h=>by
  obtain⟨rfl,h3,h4⟩:=h;intro h2;simp[Lg.apart,Lg.rR h3 h4 h2] at ha
 | .ob j,y,ha,h=>by
  cases (show i=j from h)
  intro h2;simp[Lg.apart,Lg.rT h2] at ha
 | .a x x',y,ha,h=>by
  simp only[Lg.apart,Bool.and_eq_true] at ha;rcases h with h | h
  ·exact Lg.nA ha.1 h
  ·exact Lg.nA ha.2 h
theorem Lg.nC {lo hi i o:Nat}:∀ {x:Lg},x.outs lo hi=true->x.has i o->¬(lo<=i/\i < hi)
 | .e,_,h=>h.elim
 | .p j q,ho,h=>by
  obtain⟨rfl,rfl⟩:=h;simp only[Lg.outs,Bool.or_eq_true] at ho;rcases ho with ho | ho
  ·have:=dQ ho;omega
  ·have:=Nat.le_of_ble_eq_true ho;omega
 | .rg j q k,ho,h=>by
  obtain⟨rfl,-,-⟩:=h;simp only[Lg.outs,Bool.or_eq_true] at ho;rcases ho with ho | ho
  ·have:=dQ ho;omega
  ·have:=Nat.le_of_ble_eq_true ho;omega
 | .ob j,ho,h=>by
  cases (show i=j from h)
  simp only[Lg.outs,Bool.or_eq_true] at ho;rcases ho with ho | ho
  ·have:=dQ ho;omega
  ·have:=Nat.le_of_ble_eq_true ho;omega
 | .a x y,ho,h=>by
  simp only[Lg.outs,Bool.and_eq_true] at ho;rcases h with h | h
  ·exact Lg.nC ho.1 h
  ·exact Lg.nC ho.2 h
/-- What stands apart from an operation that is done. -/
def Apart (m:Nat) (r w:Lg) (x:Dn):Prop:=bX m x.k=true\/((x.w.apart r=true/\x.w.apart w=true)/\w.apart x.r=true/\(x.lo=x.hi\/(r.outs x.lo x.hi=true/\w.outs x.lo x.hi=true)))
theorem wB {m:Nat} {r w:Lg}:∀ {D:List Dn},indep m r w D=true->∀x ∈ D,Apart m r w x
 | [],_,x,hx=>by simp at hx
 | y :: D,h,x,hx=>by
  simp only[indep,Bool.and_eq_true,Bool.or_eq_true] at h;rcases List.mem_cons.1 hx with rfl | hx
  ·rcases h.1 with h1 | h1
   ·exact .inl h1
   ·exact .inr ⟨h1.1,h1.2.1,h1.2.2.imp Nat.eq_of_beq_eq_true id⟩
  ·exact wB h.2 x hx
section
variable {P : Program} {w0 : World}
theorem Af {α:Type} {m:M α} {x:α × Lg × Lg × Nat × Nat} {s s':Ob} {n n':Nat} {r l1:Lg} (h:M.log m s n=.ok x s' n' r l1):m s n=.ok x.1 s' n' x.2.1 x.2.2.1/\x.2.2.2.1=n/\x.2.2.2.2=n':=by
 unfold M.log at h;cases hm:m s n with
 | no e=>rw[hm] at h;cases h
 | ok a s1 n1 r1 w1=>rw[hm] at h;cases h;exact⟨rfl,rfl,rfl⟩
/-- The run in the list's order, operation by operation. -/
structure Tr (P:Program) (call:Nat->List AV->M AV) (N:Nat) (ops:List Oper) (dt cl:T Nat) (S:Nat->Ob) (Nn:Nat->Nat) (Rl Wl:Nat->Lg) (Vv:Nat->AV) (En:Nat->Env) (k:Nat) (o:Oper) (m:Nat):Prop where
 op:ops[k]?=some o
 wt:T.get cl k=some m
 run:ko P call (ku N dt cl k m (En k)) (kC N ops m (En k) o) o (S k) (Nn k)=.ok (Vv k) (S (k+1)) (Nn (k+1)) (Rl k) (Wl k)
 env:En (k+1)=(En k).set o.dst (Vv k)
theorem wC {call:Nat->List AV->M AV} {N:Nat} {ops:List Oper} {dt cl:T Nat}:∀(l:List Oper) (k:Nat) (D:List Dn) (E E':Env) (s s':Ob) (n n':Nat) (r w:Lg),ops.drop k=l->mG P call N ops dt cl l k D E s n=.ok E' s' n' r w ->
  ∃(S:Nat->Ob) (Nn:Nat->Nat) (Rl Wl:Nat->Lg) (Vv:Nat->AV) (En:Nat->Env),(S k=s/\Nn k=n/\En k=E)/\(S (k+l.length)=s'/\Nn (k+l.length)=n'/\En (k+l.length)=E') /\
   ∀j,k<=j->j < k+l.length->∃o m,Tr P call N ops dt cl S Nn Rl Wl Vv En j o m/\(∀x ∈ D,Apart m (Rl j) (Wl j) x)/\∀i,k<=i->i < j->Apart m (Rl j) (Wl j) ⟨i,Nn i,Nn (i+1),Rl i,Wl i⟩
 | [],k,D,E,E',s,s',n,n',r,w,hl,e=>by
  obtain⟨rfl,rfl,rfl⟩:=aj (show(pure E:M _) _ _=_ from e);exact⟨λ_=>s',λ_=>n',λ_=>.e,λ_=>.e,λ_=>.bad,λ_=>E',⟨rfl,rfl,rfl⟩,⟨rfl,rfl,rfl⟩,λj h1 h2=>absurd h2 (by simp;omega)⟩
 | o :: l,k,D,E,E',s,s',n,n',r,w,hl,e=>by
  obtain⟨m,s0,n0,r0,w0',nk,CK,e0,eP,rfl,rfl⟩:=ah (show(M.opt 133 (T.get cl k) >>= _) _ _=_ from e);obtain⟨hm,rfl,rfl⟩:=aF e0;obtain⟨x,s1,n1,r1,m1,r2,m2,e1,e2,rfl,rfl⟩:=ah eP;obtain⟨h1,h2,h3⟩:=Af e1;have h1':=qd h1;obtain⟨hi,e3⟩:=bC e2;rw[h2,h3] at e3;have hl':ops.drop (k+1)=l:=by rw[← List.drop_drop,hl];rfl
  have ho:ops[k]?=some o:=by rw[← List.head?_drop,hl];rfl
  obtain⟨S,Nn,Rl,Wl,Vv,En,⟨a1,a2,a3⟩,⟨b1,b2,b3⟩,hh⟩:=wC l (k+1) _ _ E' s1 s' n1 n' _ _ hl' e3;have hd:=wB hi;refine⟨λj=>if j=k then s0 else S j,λj=>if j=k then n0 else Nn j,λj=>if j=k then x.2.1 else Rl j,λj=>if j=k then x.2.2.1 else Wl j,λj=>if j=k then x.1 else Vv j,λj=>if j=k then E else En j,by simp,?_,?_⟩
  ·have e1:k+(l.length+1)=k+1+l.length:=by omega
   simp only[List.length_cons,e1,show ¬k+1+l.length=k by omega,if_false];exact⟨b1,b2,b3⟩
  ·intro j hj1 hj2
   simp only[List.length_cons] at hj2
   by_cases hjk:j=k
   ·subst hjk
    refine⟨o,m,⟨ho,hm,?_,?_⟩,?_,λi h4 h5=>absurd h5 (by omega)⟩
    ·simp only[if_true,show ¬j+1=j by omega,if_false,a1,a2];exact h1'
    ·simp only[if_true,show ¬j+1=j by omega,if_false,a3]
    ·simp only[if_true];exact hd
   ·obtain⟨o',m',ht,hD,hI⟩:=hh j (by omega) (by omega)
    refine⟨o',m',⟨ht.op,ht.wt,?_,?_⟩,?_,?_⟩
    ·simp only[hjk,show ¬j+1=k by omega,if_false];exact ht.run
    ·simp only[hjk,show ¬j+1=k by omega,if_false];exact ht.env
    ·simp only[hjk,if_false];exact λy hy=>hD y (by simp[hy])
    ·intro i h4 h5
     simp only[hjk,if_false]
     by_cases hik:i=k
     ·subst hik
      simp only[if_true,show ¬i+1=i by omega,if_false,a2];exact hD _ (by simp)
     ·simp only[hik,show ¬i+1=k by omega,if_false]
      exact hI i (by omega) h5
/-- What an operation waits for. -/
theorem wD {cl:T Nat}:∀ {l:List Nat} {m:Nat},iZ cl l=some m->(∀j ∈ l,∃q,T.get cl j=some q)/\∀i,bX m i=true->i ∈ l\/∃j q,j ∈ l/\T.get cl j=some q/\bX q i=true
 | [],m,h=>by simp only[iZ] at h;cases h;exact⟨by simp,λi hi=>by rw[Ad] at hi;cases hi⟩
 | j :: l,m,h=>by
  simp only[iZ] at h;cases hj:T.get cl j with
  | none=>rw[hj] at h;cases h
  | some q =>
   cases hl:iZ cl l with
   | none=>rw[hj,hl] at h;cases h
   | some k =>
    rw[hj,hl] at h;cases h;obtain⟨h1,h2⟩:=wD hl;refine⟨λi hi=>?_,λi hi=>?_⟩
    ·rcases List.mem_cons.1 hi with rfl | hi
     ·exact⟨q,hj⟩
     ·exact h1 i hi
    ·rw[wz,wz,Ae] at hi
     simp only[Bool.or_eq_true,decide_eq_true_eq] at hi;rcases hi with(hi | rfl) | hi
     ·exact .inr ⟨j,q,by simp,hj,hi⟩
     ·exact .inl (by simp)
     ·rcases h2 i hi with h3 | ⟨j',q',h3,h4,h5⟩
      ·exact .inl (by simp[h3])
      ·exact .inr ⟨j',q',by simp[h3],h4,h5⟩
theorem wE:∀(l:List Oper) (k:Nat) (jv cl:T Nat),kr l k jv=some cl->(∀j q,T.get jv j=some q->j < k) ->
  (∀j,j < k->T.get cl j=T.get jv j)/\∀i o,l[i]?=some o->∃m,T.get cl (k+i)=some m/\(∀j ∈ dh o,j < k+i)/\∀x,bX m x=true->x ∈ dh o\/∃j q,j ∈ dh o/\T.get cl j=some q/\bX q x=true
 | [],k,jv,cl,h,h0=>by simp only[kr] at h;cases h;exact⟨λ_ _=>rfl,by simp⟩
 | o :: l,k,jv,cl,h,h0=>by
  simp only[kr] at h;cases hm:iZ jv (dh o) with
  | none=>rw[hm] at h;cases h
  | some m =>
   rw[hm] at h;obtain⟨h1,h2⟩:=wE l (k+1) _ cl h (λj q hj=>by
    rw[T.get_put] at hj
    by_cases e:j=k
    ·omega
    ·rw[if_neg e] at hj;have:=h0 j q hj;omega)
   obtain⟨h3,h4⟩:=wD hm;have hlt:∀j ∈ dh o,j < k:=λj hj=>by obtain⟨q,hq⟩:=h3 j hj;exact h0 j q hq
   have same:∀j,j < k->T.get cl j=T.get jv j:=λj hj=>by rw[h1 j (by omega),T.get_put,if_neg (by omega)]
   refine⟨same,λi o' hi=>?_⟩;cases i with
   | zero =>
    simp only[List.getElem?_cons_zero,Option.some.injEq] at hi;subst hi;refine⟨m,by rw[Nat.add_zero,h1 k (by omega),T.get_put,if_pos rfl],hlt,λx hx=>?_⟩;rcases h4 x hx with h5 | ⟨j,q,h5,h6,h7⟩
    ·exact .inl h5
    ·exact .inr ⟨j,q,h5,by rw[same j (hlt j h5)];exact h6,h7⟩
   | succ i =>
    rw[show k+(i+1)=k+1+i by omega];exact h2 i o' (by simpa using hi)
theorem rU {N:Nat}:∀(l:List Oper) (k:Nat) (t0 dt:T Nat),iF N l k t0=some dt ->
  (∀d i,T.get t0 d=some i->T.get dt d=some i)/\(∀i o d,l[i]?=some o->o.dst=some d->T.get dt d=some (k+i)/\d < N)/\∀d i,T.get dt d=some i->T.get t0 d=some i\/∃j o,i=k+j/\l[j]?=some o/\o.dst=some d
 | [],k,t0,dt,h=>by simp only[iF] at h;cases h;exact⟨λ_ _ h=>h,by simp,λ_ _ h=>.inl h⟩
 | o :: l,k,t0,dt,h=>by
  simp only[iF] at h;cases ho:o.dst with
  | none =>
   rw[ho] at h;obtain⟨h1,h2,h3⟩:=rU l (k+1) t0 dt h;refine⟨h1,λi o' d hi hd=>?_,λd i hi=>?_⟩
   ·cases i with
    | zero=>simp only[List.getElem?_cons_zero,Option.some.injEq] at hi;subst hi;rw[ho] at hd;cases hd
    | succ i=>rw[show k+(i+1)=k+1+i by omega];exact h2 i o' d (by simpa using hi) hd
   ·rcases h3 d i hi with h4 | ⟨j,o',rfl,h5,h6⟩
    ·exact .inl h4
    ·exact .inr ⟨j+1,o',by omega,by simpa using h5,h6⟩
  | some d0 =>
   rw[ho] at h;dsimp only at h;cases hg:T.get t0 d0 with
   | some _=>rw[hg] at h;cases h
   | none =>
    rw[hg] at h;dsimp only at h;cases hb:Nat.blt d0 N with
    | false=>rw[hb] at h;cases h
    | true =>
     rw[hb] at h;obtain⟨h1,h2,h3⟩:=rU l (k+1) _ dt h;refine⟨λd i hi=>h1 d i ?_,λi o' d hi hd=>?_,λd i hi=>?_⟩
     ·rw[T.get_put,if_neg (λe=>by subst e;rw[hg] at hi;cases hi)];exact hi
     ·cases i with
      | zero =>
       simp only[List.getElem?_cons_zero,Option.some.injEq] at hi;subst hi;rw[ho] at hd;cases hd;exact⟨h1 _ _ (by rw[T.get_put,if_pos rfl];rfl),dQ hb⟩
      | succ i=>rw[show k+(i+1)=k+1+i by omega];exact h2 i o' d (by simpa using hi) hd
     ·rcases h3 d i hi with h4 | ⟨j,o',rfl,h5,h6⟩
      ·rw[T.get_put] at h4
       by_cases e:d=d0
       ·subst e;rw[if_pos rfl] at h4;cases h4;exact .inr ⟨0,o,rfl,rfl,ho⟩
       ·rw[if_neg e] at h4;exact .inl h4
      ·exact .inr ⟨j+1,o',by omega,by simpa using h5,h6⟩
/-- What is waited for is done. -/
theorem Ah {ops:List Oper} {cl:T Nat} {L:Nat->Bool} (hcl:∀i o,ops[i]?=some o->∃m,T.get cl i=some m/\(∀j ∈ dh o,j < i)/\∀x,bX m x=true->x ∈ dh o\/∃j q,j ∈ dh o/\T.get cl j=some q/\bX q x=true) (hC:kV (ops.map dh) L) :
  ∀(i:Nat) (o:Oper) (m x:Nat),ops[i]?=some o->T.get cl i=some m->bX m x=true->fG L (dh o)->L x=true/\x < i:=by
 intro i
 induction i using Nat.strongRecOn with
 | _ i ih =>
  intro o m x ho hm hx hA;obtain⟨m',h1,h2,h3⟩:=hcl i o ho;rw[hm] at h1;cases h1;rcases h3 x hx with h4 | ⟨j,q,h4,h5,h6⟩
  ·exact⟨iw.1 hA x h4,h2 x h4⟩
  ·have hj:=h2 j h4
   have eU:=iw.1 hA j h4;have hi:=(gs1 ho).1;obtain⟨oj,hoj⟩:∃oj,ops[j]?=some oj:=⟨_,nM (by omega)⟩;obtain⟨k1,k2⟩:=ih j hj oj q x hoj h5 h6 (hC j _ (by simp[hoj]) eU);exact⟨k1,by omega⟩
end
end Go.Proofs.YthimlcpingkndaaGreatDoor
