/- The proof's texts, part 14. -/
import Derived.Test.YthimlcpingkndaaGreatDoorTb
import Derived.Test.YthimlcpingkndaaGreatDoorTc
import Derived.Test.YthimlcpingkndaaGreatDoorTd
namespace Go.Proofs.YthimlcpingkndaaGreatDoor
open Go.RowKit
set_option linter.unusedVariables false
set_option linter.unusedSimpArgs false
/- FnAborts answers true. -/
theorem AY:Tryz.f3.body=some fq:=rfl
theorem AZ:fq=.seq (gY fq) (.seq (gY (gZ fq)) (.seq (.region 2 fE false) tailA)):=rfl
theorem A8:∃o:Oper,fE[0]?=some o/\o.op=.move (.tmp 3)/\o.dst=some 9/\o.guard=none:=⟨_,rfl,rfl,rfl,rfl⟩
theorem A9:∃o:Oper,fE[1]?=some o/\o.op=.move (.tmp 0)/\o.dst=some 10/\o.guard=none:=⟨_,rfl,rfl,rfl,rfl⟩
theorem Ba:∃o:Oper,fE[2]?=some o/\o.op=.call { callee:=.value (.func 6),args:=#[.tmp 10,.const (.int .i64 0)],argTypes:=#[22,3] }/\o.dst=some 11/\o.guard=none:=⟨_,rfl,rfl,rfl,rfl⟩
theorem Bb:∃o:Oper,fE[3]?=some o/\o.op=.binOp .rem 3 (.tmp 11) (.const (.int .i64 3)) 3/\o.dst=some 12/\o.guard=none:=⟨_,rfl,rfl,rfl,rfl⟩
theorem Bc:fE.size=(fE.toList.drop 4).length+4:=rfl
theorem qg {P:Program} {ops:Array Oper} {i:Nat} {o:Oper} {rest:List Nat} {a:Act} {w:World} {Q:Exit->Act->World->Prop} (ho:ops[i]?=some o) (hg:o.guard=none) (h:o.wp P a w (wpOps P ops Q rest) Q):wpOps P ops Q (i :: rest) a w:=by
 simp only[wpOps,ho];rw[if_pos (by simp[Region.wanted,hg])];exact .inl h
section
variable {P : Program} {o : Oper} {a : Act} {w : World} {K : Act -> World -> Prop} {Q : Exit -> Act -> World -> Prop}
theorem wS {x:Operand} {d:Nat} {V:Value} (ho:o.op=.move x) (hd:o.dst=some d) (hx:a.eval x=V) (h:K (a.put (some d) V) w):Oper.wp P o a w K Q:=by
 obtain⟨dst,op,ty,ps,af,gd⟩:=o;cases ho;cases hd;subst hx
 unfold Oper.wp;rw[show execOp a.eval ⟨some d,.move x,ty,ps,af,gd⟩=(do pure (.value (← (pure (a.eval x):Sem Value)))) from by simp[execOp],Sem.run_bind,Sem.run_pure,Result.andThen_ok,Sem.run_pure,Oper.upon_value];exact h
theorem Bd {f d : Nat} {args : Array Operand} {ts : Array Nat} {A : Array Value} (ho : o.op = .call { callee := .value (.func f), args := args, argTypes := ts }) (hd : o.dst = some d) (hA : args.map a.eval = A) (hf : ∃ fn, P.funcs[f]? = some fn ∧ fn.body.isSome = true ∧ (fn.name == "runtime.NumGoroutine") = false)
  (h:Calls P f A w λe w'=>∃V,e=.returned V/\K (a.put (some d) V) w'):Oper.wp P o a w K Q:=by
 obtain⟨dst,op,ty,ps,af,gd⟩:=o;cases ho;cases hd;subst hA
 unfold Oper.wp;rw[show(execOp a.eval ⟨some d,.call { callee:=.value (.func f),args:=args,argTypes:=ts },ty,ps,af,gd⟩).run P w=.ok (.enter f (args.map a.eval)) w from by
  simp only[execOp,resolve,Act.eval,Deferred.ofValue,Sem.run_bind,Sem.run_pure,Result.andThen_ok,invoke];rw[qb (by simpa using hf)];simp,Oper.upon_enter]
 refine h.mono ?_;rintro e' w' ⟨V,rfl,k⟩;exact k
theorem Bf {t t2:Nat} {x y:Operand} {d:Nat} {z:Int} (ho:o.op=.binOp .rem t x y t2) (hd:o.dst=some d) (hx:a.eval x=.int .i64 z) (hy:a.eval y=.int .i64 3) (h:K (a.put (some d) (.int .i64 (z.tmod 3))) w):Oper.wp P o a w K Q:=by
 obtain⟨dst,op,ty,ps,af,gd⟩:=o;cases ho;cases hd
 unfold Oper.wp;rw[show execOp a.eval ⟨some d,.binOp .rem t x y t2,ty,ps,af,gd⟩=(do pure (.value (← (do eqGuard .rem t x y (a.eval x) (a.eval y);binOp .rem t (a.eval x) (a.eval y):Sem Value)))) from rfl,hx,hy,Sem.run_bind,
  show(do eqGuard .rem t x y (.int .i64 z) (.int .i64 3);binOp .rem t (.int .i64 z) (.int .i64 3):Sem Value).run P w=.ok (.int .i64 (z.tmod 3)) w from by
   rw[Sem.run_bind,show(eqGuard .rem t x y (.int .i64 z) (.int .i64 3)).run P w=.ok () w from rfl,Result.andThen_ok];simp[binOp,Op.intDiv],Result.andThen_ok,Sem.run_pure,Oper.upon_value]
 exact h
end
theorem wT {v:Value} {k:Nat} (h:kT v k=some (.sc v)):∃E1 s1 n1 r1 l1 u E2 s2 n2 r2 l2 E3 s3 n3 r3 l3,sI v=.ok (.bA,E1) s1 n1 r1 l1/\T.get E1 3=some u/\T.get E1 0=some (.sc v)/\sJ k E1 u s1 n1=.ok E2 s2 n2 r2 l2/\xc Tryz.prog ig 65 tailA E2 s2 n2=.ok (.ret,E3) s3 n3 r3 l3/\T.get E3 2=some (.sc (.bool true))/\T.get E3 65=none:=by
 unfold kT at h;cases h1:sI v with
 | no e=>rw[h1] at h;cases h
 | ok x s1 n1 r1 l1 =>
  obtain⟨ex,E1⟩:=x;rw[h1] at h;cases ex with
  | bA =>
   dsimp only at h;cases h2:T.get E1 3 with
   | none=>rw[h2] at h;cases h
   | some u =>
    rw[h2] at h;dsimp only at h;cases h3:sJ k E1 u s1 n1 with
    | no e=>rw[h3] at h;cases h
    | ok E2 s2 n2 r2 l2 =>
     rw[h3] at h;dsimp only at h;cases h4:xc Tryz.prog ig 65 tailA E2 s2 n2 with
     | no e=>rw[h4] at h;cases h
     | ok y s3 n3 r3 l3 =>
      obtain⟨Bg,E3⟩:=y;rw[h4] at h;cases Bg with
      | ret =>
       cases hq:sK (.ok (.ret,E3) s3 n3 r3 l3) with
       | false=>rw[hq] at h;cases h
       | true =>
       rw[hq] at h;unfold sK at hq;dsimp only at hq;simp only[Bool.and_eq_true] at hq;obtain⟨h5,h6⟩:=hq;refine⟨E1,s1,n1,r1,l1,u,E2,s2,n2,r2,l2,E3,s3,n3,r3,l3,rfl,h2,h,h3,h4,?_,?_⟩
       ·split at h5
        ·assumption
        ·cases h5
       ·split at h6
        ·assumption
        ·cases h6
      | bA=>cases h
      | ext i=>cases h
  | ext i=>cases h
  | ret=>cases h
theorem fnAborts_walk (v:Value) (M:List Int) (w:World) (hv:Bs w v M) :
  Calls Tryz.prog 3 #[v] w λe w'=>e=.returned (.bool true)/\Below w.heap.size w w':=by
 have hmx:Tryz.prog.follows .mixedOrders=true:=by kernel_rfl
 have hc:gu Tryz.prog w ig:=sH hmx 100;have hfc:∀f a,Fr (ig f a):=mW Tryz.prog 100;have HG:∀k,k < 3->kT v k=some (.sc v):=λk hk=>by
  rcases(show k=0\/k=1\/k=2 by omega) with rfl | rfl | rfl
  ·exact AR v
  ·exact AU v
  ·exact AX v
 obtain⟨E1,s1,n1,r1,l1,u,-,-,-,-,-,-,-,-,-,-,hr1,hu,hv1,-⟩:=wT (HG 0 (by omega));obtain⟨x0,s0,n0,r0,l0,nk,Bh,e0,eP,-,-⟩:=ah (show(xc Tryz.prog ig 65 (gY fq) (T.put .e 0 (some (.sc v))) >>= _) .e 0=_ from hr1);obtain⟨wU,E0⟩:=x0;have Bj:wU=.bA:=by
  cases wU with
  | bA=>rfl
  | ext i=>cases eP
  | ret=>cases eP
 subst Bj;have e1:xc Tryz.prog ig 65 (gY (gZ fq)) E0 s0 n0=.ok (.bA,E1) s1 n1 nk Bh:=eP;refine calls_of_wp Tryz.func3 AY ?_;rw[AZ];have hE0:bV (λ_=>none) 65 (T.put .e 0 (some (.sc v))) { tmps:=#[v] ++ Array.replicate (Tryz.f3.ntmps - #[v].size) undef,defers:=[] }:=by
  rw[Tryz.ntmps3];refine⟨by simp,λt x ht hx=>?_,?_⟩
  ·rw[T.get_put] at hx
   by_cases h:t=0
   ·subst h;rw[if_pos rfl] at hx;cases hx;exact⟨v,rfl,by simp⟩
   ·rw[if_neg h,T.iG] at hx;cases hx
  ·have:marksOf (T.put .e 0 (some (.sc v))) 65=[]:=by unfold marksOf;rw[T.get_put,if_neg (by omega),T.iG]
   rw[this];trivial
 refine wp_seq (nJ hfc hc hmx (gY fq) _ _ _ _ _ _ _ _ _ _ _ _ _ e0 (AP w) hE0 (λ_ _ _=>rfl) λφ0 a0 w0' q1 q2 q3 q4=>?_);refine wp_seq (nJ hfc hc hmx (gY (gZ fq)) _ _ _ _ _ _ _ _ _ _ _ _ _ e1 q1 q4 (λi h1 h2=>q2.out i (.inr h1)) λφ1 a1 w1 p1 p2 p3 p4=>?_);refine wp_seq (wp_region ?_);rw[Bc,List.range_eq_range'];obtain⟨o0,h00,h01,h02,Bl⟩:=A8;obtain⟨o1,h10,h11,h12,Bn⟩:=A9;obtain⟨o2,h20,h21,h22,h23⟩:=Ba;obtain⟨o3,Bo,h31,h32,Bp⟩:=Bb;show wpOps _ _ _ (0 :: 1 :: 2 :: 3 :: List.range' 4 (fE.toList.drop 4).length) a1 w1;obtain⟨U,hU,Bq⟩:=p4.val 3 u (by omega) hu
 obtain⟨V0,hV0,Br⟩:=p4.val 0 _ (by omega) hv1;cases bF hV0
 have wV:=p4.size;refine qg h00 Bl (wS h01 h02 (V:=U) (by simp[Act.eval,Array.getD_eq_getD_getElem?,Bq]) ?_);refine qg h10 Bn (wS h11 h12 (V:=v) (by simp[Act.eval,Act.put,Array.getD_eq_getD_getElem?,Br]) ?_);have hv':Bs w1 v M:=hv.below p1.base;refine qg h20 h23 (Bd h21 h22 (A:=#[v,.int .i64 0]) (by simp[Act.eval,Act.put,Array.getD_eq_getD_getElem?,wV]) ⟨Tryz.f6,Tryz.func6,rfl,rfl⟩ ((xC v M 0 w1 hv' (by omega) (by omega)).mono ?_));rintro e w2 ⟨x,rfl,hx0,hx1,bel⟩;refine⟨_,rfl,?_⟩;refine qg Bo Bp (Bf h31 h32 (z:=x) (by simp[Act.eval,Act.put,Array.getD_eq_getD_getElem?,wV]) rfl ?_)
 rw[Int.tmod_eq_emod_of_nonneg hx0];obtain⟨k,hk,hk3⟩:∃k:Nat,x % 3=k/\k < 3:=⟨(x % 3).toNat,by omega,by omega⟩;rw[hk];obtain⟨CP,s1',n1',r1',CQ,u',E2,s2,n2,r2,l2,E3,s3,n3,r3,l3,hr1',hu2,-,hr2,hr3,hb,hm⟩:=wT (HG k hk3);rw[hr1] at hr1';cases hr1'
 rw[hu] at hu2;cases hu2
 have hE:=(((p4.set (o:=some 9) (V:=U) rfl (.inr hU)).set (o:=some 10) (v:=.bad) (V:=v) rfl (.inl rfl)).set (o:=some 11) (v:=.bad) (V:=.int .i64 x) rfl (.inl rfl)).set (o:=some 12) (v:=.sc (.int .i64 k)) (V:=.int .i64 k) rfl (.inr (by simp[AV.den]));have fr:∀i,n1<=i->φ1 i=none:=λi hi=>(p2.out i (.inr hi)).trans (q2.out i (.inr (Nat.le_trans p2.le hi)));refine rO hfc hc (fE.toList.drop 4) 4 _ _ _ _ s1 _ _ n1 _ _ _ rfl hr2 (p1.under bel) hE (λi h1 h2=>fr i h1) λφ2 a2 w3 t1 t2 t3 t4=>?_
 refine nJ hfc hc hmx tailA _ _ _ _ _ _ _ _ _ _ _ _ _ hr3 t1 t4 (λi h1 h2=>(t2.out i (.inr h1)).trans (fr i (Nat.le_trans t2.le h1))) λφ3 a3 w4 y1 y2 y3 y4=>?_;obtain⟨V2,hV2,Bt⟩:=y4.val 2 _ (by omega) hb;cases bF hV2
 have hd:a3.defers=[]:=by
  have:=y4.marks;rw[show marksOf E3 65=[] from by unfold marksOf;rw[hm]] at this
  revert this
  cases a3.defers with
  | nil=>intro _;rfl
  | cons x l=>intro h;exact h.elim
 refine bodyPost_ret (v:=.bool true) ?_ hd ⟨rfl,y1.base⟩;simp only[results,Tryz.results3];simp[go_sem,Array.getD_eq_getD_getElem?,Bt]
end Go.Proofs.YthimlcpingkndaaGreatDoor
