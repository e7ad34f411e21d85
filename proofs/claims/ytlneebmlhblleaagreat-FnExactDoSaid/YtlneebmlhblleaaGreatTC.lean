/- The proof's texts, part 38. -/
import Derived.Test.YtlneebmlhblleaaGreatTB
import Derived.Laws.Rows
namespace Go.Proofs.YtlneebmlhblleaaGreat
open Go.RowKit
set_option linter.unusedVariables false
set_option linter.unusedSimpArgs false
set_option maxHeartbeats 40000000
set_option maxRecDepth 100000
/- What Qh of package spec does: every command, in one contract. -/
theorem afH (ga:Nat) (a:aJ) (c:iC) (S:Nat→Prop) (v:Value) (w:World) (hp:aU w S ga a) (hc:tX w v c) (hcl:c.bx.length≤2000000∧c.tx.length≤2000000) (hsz:∀ x ∈ a.boxes,bA x≤900000) (hbl:a.boxes.length≤2000000) :
  Calls Tryz.prog 24 #[.pointer (some ⟨ga,0,none⟩),v] w (jr w S ga (dz a c)):=by
 obtain ⟨u0,u1,u2,rfl,h0,h1,h2,ik,hi⟩:=hc
 obtain ⟨x0,n0,m0,rfl⟩:=h0.bs.aG
 obtain ⟨x1,n1,m1,rfl⟩:=h1.bs.aG
 obtain ⟨x2,n2,m2,rfl⟩:=h2.bs.aG
 obtain ⟨k,bx,tt,uid,mode,fl,si,tx⟩:=c
 simp only at h0 h1 h2 ik hi hcl ⊢
 exact afy ga a S k uid mode fl si bx tt tx x0 x1 x2 n0 n1 n2 m0 m1 m2 w hp h0 h1 h2 hi hcl hsz hbl _ rfl
/- BR that draw their order and are guarded: one walk for all ways: what a guarded operation yields stands under its guard's Bool. -/
theorem jX {p:Prop} (h:p):Hid p:=h
/-- These cells stand one behind the other. -/
def mJ (w:World) (p o:Nat):List Value→Prop
 | []=>True
 | v :: l=>w.cell? ⟨p,o,none⟩=some v∧mJ w p (o+1) l
theorem EG {w:World} {p:Nat} {l:List Value} {t:TypeId} {fz:Nat × Nat} (h:w.heap[p]?=some (.cells l.toArray t fz)):mJ w p 0 l:=by
 suffices H:∀ (l':List Value) (o:Nat),(∀ i,l'[i]?=l[o+i]?)→mJ w p o l' from H l 0 (fun i=>by simp)
 intro l'
 induction l' with
 | nil=>intro _ _;trivial
 | cons v l' ih =>
  intro o ho
  have h0:=ho 0
  refine ⟨?_,ih (o+1) fun i=>?_⟩
  ·simp only [List.getElem?_cons_zero,Nat.add_zero] at h0
   exact cell_of_row w p o l.toArray _ _ h |>.trans (by simp [← h0])
  ·have:=ho (i+1);rw [List.getElem?_cons_succ] at this;rw [this];congr 1;omega
section
variable {P : Program} {ops : Array Oper} {Q : Exit → Act → World → Prop} {S : World → Prop} {n : Nat} {cs : List Nat} {a a' : Act} {w : World} {i i' j d : Nat} {oi : Oper} {v : Value} {c : Bool}
theorem EH (T:Tab ops n cs) (hi:ops[i]?=some oi) (hd:oi.dst=some d) (hy:YieldsIf P ops S oi v a) (hS:S w) (hQ:∀ c a w,Q (.panic c) (a.put (some d) v) w→Q (.panic c) a w)
  (h:jP P ops Q S n (i+1) (eP a d v) w):jP P ops Q S n i a w:=by
 obtain ⟨h1,h2,h3,h4,h5⟩:=BU T
 have hlt:i < n:=by have:=(Array.getElem?_eq_some_iff.1 hi).1;omega
 rw [← wF] at h
 unfold jP at h ⊢
 rw [show n - i=(n - (i+1))+1 by omega]
 rw [← PY hlt] at h
 exact wpAnyH_take hi h2 (h3 i hlt).1 (h3 i hlt).2 (by rw [hd];exact hQ) hy hS (by rw [hd];exact h)
/-- The next operation bears no guard. -/
theorem zC (T:Tab ops n cs) (hS:S w) (h:jP P ops Q S n i' a' w)
  (hi:ops[i]?=some oi:=by rfl)
  (hd:oi.dst=some d:=by rfl)
  (hg:oi.guard=none:=by rfl)
  (hy:∀ w,S w→(execOp a.eval oi).run P w=.ok (.value v) w:=by (intro w s;(try simp only [mJ,Nat.reduceAdd,and_true] at s);go_simp <;> with_reducible rfl))
  (ha:eP a d v=a':=by (conv=>lhs;dsimp only [eP,List.toList_toArray,sF,sG]))
  (hn:i+1=i':=by (conv=>lhs;simp only [Nat.reduceAdd]))
  (hQ:∀ c a w,Q (.panic c) (a.put (some d) v) w→Q (.panic c) a w:=by exact fun _ _ _ h=>h):jP P ops Q S n i a w :=
 EH T hi hd (.inl ⟨by unfold Region.wanted;rw [hg],hy⟩) hS hQ (by rw [ha,hn];exact h)
/-- The next operation is carried out where c is false. -/
theorem AQ (T:Tab ops n cs) (hS:S w) (h:jP P ops Q S n i' a' w)
  (hi:ops[i]?=some oi:=by rfl)
  (hd:oi.dst=some d:=by rfl)
  (hg:oi.guard=some (j,false):=by rfl)
  (hj:yielded ops a.tmps j=some c:=by rfl)
  (hy:c=false→∀ w,S w→(execOp a.eval oi).run P w=.ok (.value v) w:=by (intro hc w s;(try simp only [mJ,Nat.reduceAdd,and_true] at s);(try simp only [hc,cond_false]);go_simp <;> with_reducible rfl))
  (ha:eP a d (cond c undef v)=a':=by (conv=>lhs;dsimp only [eP,List.toList_toArray,sF,sG]))
  (hn:i+1=i':=by (conv=>lhs;simp only [Nat.reduceAdd]))
  (hQ:∀ c' a w,Q (.panic c') (a.put (some d) (cond c undef v)) w→Q (.panic c') a w:=by exact fun _ _ _ h=>h):jP P ops Q S n i a w:=by
 refine EH T hi hd ?_ hS hQ (by rw [ha,hn];exact h)
 cases hc:c with
 | false=>exact .inl ⟨by unfold Region.wanted;rw [hg];simp only [hj,hc];rfl,fun w s=>hy hc w s⟩
 | true=>exact .inr ⟨by unfold Region.wanted;rw [hg];simp only [hj,hc];rfl,rfl⟩
/-- The guard stands itself under c, and is true there. -/
theorem Ob (T:Tab ops n cs) (hS:S w) (h:jP P ops Q S n i' a' w)
  (hi:ops[i]?=some oi:=by rfl)
  (hd:oi.dst=some d:=by rfl)
  (hg:oi.guard=some (j,true):=by rfl)
  (hj:((ops[j]?).bind (·.dst)).bind (a.tmps[·]?)=some (cond c undef (.bool true)):=by rfl)
  (hy:c=false→∀ w,S w→(execOp a.eval oi).run P w=.ok (.value v) w:=by (intro hc w s;(try simp only [mJ,Nat.reduceAdd,and_true] at s);(try simp only [hc,cond_false]);go_simp <;> with_reducible rfl))
  (ha:eP a d (cond c undef v)=a':=by (conv=>lhs;dsimp only [eP,List.toList_toArray,sF,sG]))
  (hn:i+1=i':=by (conv=>lhs;simp only [Nat.reduceAdd]))
  (hQ:∀ c' a w,Q (.panic c') (a.put (some d) (cond c undef v)) w→Q (.panic c') a w:=by exact fun _ _ _ h=>h):jP P ops Q S n i a w:=by
 refine EH T hi hd ?_ hS hQ (by rw [ha,hn];exact h)
 cases hc:c with
 | false=>exact .inl ⟨by unfold Region.wanted yielded;rw [hg];simp only [hj,hc];rfl,fun w s=>hy hc w s⟩
 | true=>exact .inr ⟨by unfold Region.wanted yielded;rw [hg];simp only [hj,hc];rfl,rfl⟩
/-- The guard stands itself under c, and is false there: the operation is passed by. -/
theorem Oc (T:Tab ops n cs) (hS:S w) (h:jP P ops Q S n i' a' w)
  (hi:ops[i]?=some oi:=by rfl)
  (hd:oi.dst=some d:=by rfl)
  (hg:oi.guard=some (j,true):=by rfl)
  (hj:((ops[j]?).bind (·.dst)).bind (a.tmps[·]?)=some (cond c undef (.bool false)):=by rfl)
  (ha:eP a d undef=a':=by (conv=>lhs;dsimp only [eP,List.toList_toArray,sF,sG]))
  (hn:i+1=i':=by (conv=>lhs;simp only [Nat.reduceAdd]))
  (hQ:∀ c' a w,Q (.panic c') (a.put (some d) undef) w→Q (.panic c') a w:=by exact fun _ _ _ h=>h):jP P ops Q S n i a w:=by
 refine EH T hi hd (.inr ⟨?_,rfl⟩) hS hQ (by rw [ha,hn];exact h)
 unfold Region.wanted yielded;rw [hg];simp only [hj];cases c <;> rfl
/-- '||': both sides are joined. -/
theorem AR {x z:Operand} {X:Bool} {A:Bool→Act} (T:Tab ops n cs) (hS:S w) (h:∀ C,Hid (C=(c || X))→jP P ops Q S n i' (A C) w)
  (hi:ops[i]?=some oi:=by rfl)
  (hd:oi.dst=some d:=by rfl)
  (hg:oi.guard=none:=by rfl)
  (ho:oi.op=.pick x (.const (.bool true)) z:=by rfl)
  (hx:a.eval x=.bool c:=by rfl)
  (hz:a.eval z=cond c undef (.bool X):=by rfl)
  (ha:∀ C,eP a d (.bool C)=A C:=by (intro C;conv=>lhs;dsimp only [eP,List.toList_toArray,sF,sG]))
  (hn:i+1=i':=by (conv=>lhs;simp only [Nat.reduceAdd]))
  (hQ:∀ v c' a w,Q (.panic c') (a.put (some d) v) w→Q (.panic c') a w:=by exact fun _ _ _ _ h=>h):jP P ops Q S n i a w:=by
 refine EH (v:=.bool (c || X)) T hi hd (.inl ⟨by unfold Region.wanted;rw [hg],fun w s=>?_⟩) hS (hQ _) (by rw [ha,hn];exact h _ rfl)
 unfold execOp
 rw [ho]
 simp only [hx,hz,show a.eval (.const (.bool true))=.bool true from rfl]
 cases c <;> rfl
/-- A call, under c or not: what is told of its answer and of the world behind it is all that is kept. -/
theorem Iq {R:Value→World→Prop} {A:Value→Act} (T:Tab ops n cs) (hm:i ∈ cs)
  (hc:∀ K':Act→World→Prop,Shut (∀ v w',R v w'→K' (A v) w')→if Region.wanted oi (yielded ops a.tmps)=true then Oper.wp P oi a w K' Q else K' (a.put oi.dst undef) w)
  (hS:∀ v w',R v w'→S w')
  (h:∀ v w',R v w'→S w'→jP P ops Q S n i' (A v) w')
  (hi:ops[i]?=some oi:=by rfl)
  (hd:oi.dst=some d:=by rfl)
  (ha:∀ v,eP a d v=A v:=by (intro v;conv=>lhs;dsimp only [eP,List.toList_toArray,sF,sG]))
  (hn:i+1=i':=by (conv=>lhs;simp only [Nat.reduceAdd])):jP P ops Q S n i a w:=by
 obtain ⟨h1,h2,h3,h4,h5⟩:=BU T
 have hlt:=(h5 i hm).1
 exact YH i T hm (AllReadyH.cons hi (fun K' hK=>hc K' fun v w' hR=>hK.out _ _ (hS v w' hR) fun _=>YI hlt rfl rfl (by rw [hn];exact h v w' hR (hS v w' hR))) AllReadyH.nil)
end
/- What ajx of package spec does. -/
theorem rR (v:Value) (l:List Int) (w:World) (hv:Bs w v l) :
  Calls Tryz.prog 49 #[v] w fun e w'=>e=.returned (.bool (bZ l))∧w'=w:=by
 obtain ⟨ho,a,cap,rfl,hlc,hcm,hnil,hcells⟩:=hv
 unfold maxLen at hcm
 by_cases h0:1≤l.length
 ·by_cases h1:l.length≤6
  ·have HN:Hid (bZ l=allIn 97 122 l):=by simp [Hid,bZ,h0,h1]
   obtain ⟨b,off,rfl,hlb,hc⟩:=hcells (by omega)
   go_enter Tryz.func49,Tryz.ntmps49
   go_wp2
   go_loop [3] (fun i=>∃ k:Nat,k≤l.length∧i=.int .i64 k∧Hid (∀ j,j < k→97≤l.getD j 0∧l.getD j 0≤122)) (fun i=>l.length - (intOf i).toNat)
   case atStart=>exact ⟨0,Nat.zero_le _,rfl,fun j hj=>absurd hj (Nat.not_lt_zero _)⟩
   case round =>
    obtain ⟨k,hk,rfl,hA⟩:=hrel
    by_cases hlt:k < l.length
    ·have hx:=hc k hlt
     have hbx:=IL ho k
     have HY:Hid (l.getD k 0=l.getD k 0):=rfl
     generalize hy:l.getD k 0=x at hx hbx HY
     have HX:Hid (l.getD k 0=x):=hy
     clear hy HY hc
     by_cases c1:97≤x
     ·by_cases c2:x≤122
      ·go_wp2
       go_round
       case rel =>
        refine ⟨k+1,by omega,by go_num,(show Hid _ from fun j hj=>?_)⟩
        by_cases e:j=k
        ·subst e;rw [HX.out];exact ⟨c1,c2⟩
        ·exact hA.out j (by omega)
       case measure=>simp [intOf];omega
      ·go_wp2
       go_ret
       exact ⟨aR (a:=false) (by rw [HN.out,FN k hlt (by rw [HX.out];omega)]),rfl⟩
     ·go_wp2
      go_ret
      exact ⟨aR (a:=false) (by rw [HN.out,FN k hlt (by rw [HX.out];omega)]),rfl⟩
    ·obtain rfl:k=l.length:=by omega
     go_wp2
     go_ret
     exact ⟨aR (a:=true) (by rw [HN.out,Pk hA.out]),rfl⟩
  ·have HN:Hid (bZ l=false):=by simp [Hid,bZ,h1]
   go_enter Tryz.func49,Tryz.ntmps49
   go_wp2
   go_ret
   exact ⟨aR (a:=false) HN.out,rfl⟩
 ·have HN:Hid (bZ l=false):=by simp [Hid,bZ,h0]
  go_enter Tryz.func49,Tryz.ntmps49
  go_wp2
  go_ret
  exact ⟨aR (a:=false) HN.out,rfl⟩
/- What ajy of package spec does. -/
theorem qN (v:Value) (l:List Int) (w:World) (hv:Bs w v l) :
  Calls Tryz.prog 52 #[v] w fun e w'=>e=.returned (.bool (fD l))∧w'=w:=by
 obtain ⟨ho,a,cap,rfl,hlc,hcm,hnil,hcells⟩:=hv
 unfold maxLen at hcm
 by_cases h0:l.length≤30
 ·by_cases h1:True
  ·have HN:Hid (fD l=allIn 32 126 l):=by simp [Hid,fD,h0]
   clear h1
   go_enter Tryz.func52,Tryz.ntmps52
   go_wp2
   go_loop [3] (fun i=>∃ k:Nat,k≤l.length∧i=.int .i64 k∧Hid (∀ j,j < k→32≤l.getD j 0∧l.getD j 0≤126)) (fun i=>l.length - (intOf i).toNat)
   case atStart=>exact ⟨0,Nat.zero_le _,rfl,fun j hj=>absurd hj (Nat.not_lt_zero _)⟩
   case round =>
    obtain ⟨k,hk,rfl,hA⟩:=hrel
    by_cases hlt:k < l.length
    ·obtain ⟨b,off,rfl,hlb,hc⟩:=hcells (by omega)
     have hx:=hc k hlt
     have hbx:=IL ho k
     have HY:Hid (l.getD k 0=l.getD k 0):=rfl
     generalize hy:l.getD k 0=x at hx hbx HY
     have HX:Hid (l.getD k 0=x):=hy
     clear hy HY hc hcells
     by_cases c1:32≤x
     ·by_cases c2:x≤126
      ·go_wp2
       go_round
       case rel =>
        refine ⟨k+1,by omega,by go_num,(show Hid _ from fun j hj=>?_)⟩
        by_cases e:j=k
        ·subst e;rw [HX.out];exact ⟨c1,c2⟩
        ·exact hA.out j (by omega)
       case measure=>simp [intOf];omega
      ·go_wp2
       go_ret
       exact ⟨aR (a:=false) (by rw [HN.out,FN k hlt (by rw [HX.out];omega)]),rfl⟩
     ·go_wp2
      go_ret
      exact ⟨aR (a:=false) (by rw [HN.out,FN k hlt (by rw [HX.out];omega)]),rfl⟩
    ·obtain rfl:k=l.length:=by omega
     go_wp2
     go_ret
     exact ⟨aR (a:=true) (by rw [HN.out,Pk hA.out]),rfl⟩
  ·exact absurd trivial h1
 ·have HN:Hid (fD l=false):=by simp [Hid,fD,h0]
  go_enter Tryz.func52,Tryz.ntmps52
  go_wp2
  go_ret
  exact ⟨aR (a:=false) HN.out,rfl⟩
/- What ajz of package spec does of every box. -/
theorem afI:(Tryz.f48.body.bind (bQ 7)).all (fun o=>table o 54 [51])=true:=by kernel_rfl
theorem afJ:(Tryz.f48.body.bind (bQ 13)).all (fun o=>table o 61 [14,59])=true:=by kernel_rfl
theorem afK {x:aD} {mv:Int} (h:(List.range x.ah.length).all (nT x)=false):gV x mv=false:=by simp [gV,qg,h]
theorem afL {x:aD} {mv:Int} (h:(List.range x.au.length).all (mh x)=false):gV x mv=false:=by simp [gV,oK,h]
theorem afM {k:Nat} {q pu uid next flags seq bs:Int} {T:Bool} (hq:0≤q) (h0:¬ 0 < k→q=0) (h1:0 < k→pu=q) :
  (aS uid (q+1) (next - 1) && (aS flags 0 31 && (aS seq 1 bs && T))) = !(((((((decide (uid < 1) || decide (next≤uid)) || (decide (0 < k) && decide (uid≤pu))) || decide (flags < 0)) || decide (31 < flags)) || decide (seq < 1)) || decide (bs < seq)) || !T):=by
 rw [Bool.eq_iff_iff]
 by_cases hk:0 < k
 ·have:=h1 hk
  cases T <;> simp [aS,hk] <;> omega
 ·have:=h0 hk
  cases T <;> simp [aS,hk] <;> omega
theorem afN {k:Nat} {ms uid next seq ps bs lost:Int} {M G:Bool} (h1:1≤ms) (h2:lost≤ms) (h0:¬ 0 < k→ms≤1∨ms≤lost) (h3:0 < k→ps=ms) :
  (aS uid 1 (next - 1) && (aS seq ms bs && (!M && !G))) = !(((((((decide (uid < 1) || decide (next≤uid)) || M) || decide (seq < 1)) || decide (bs < seq)) || (decide (0 < k) && decide (seq < ps))) || decide (seq < lost)) || G):=by
 rw [Bool.eq_iff_iff]
 by_cases hk:0 < k
 ·have:=h3 hk
  cases M <;> cases G <;> simp [aS,hk] <;> omega
 ·have:=h0 hk
  cases M <;> cases G <;> simp [aS,hk] <;> omega
theorem afO (v:Value) (x:aD) (mv:Int) (w:World) (hv:bK w v x) (hX1:bZ x.name=true) (q0:1≤x.valid) (q1:x.valid≤mv) (q2:1≤x.next) (q3:x.next≤1000000) (q4:0≤x.seq) (q5:x.seq≤1000000) (q6:(x.ah.length:Int)≤12) (q7:(x.au.length:Int)≤40) (q8:0≤x.lost) (q9:x.lost≤x.seq) :
  Calls Tryz.prog 48 #[v,.int .i64 mv] w fun e w'=>e=.returned (.bool (gV x mv))∧Below w.heap.size w w':=by
 have HV:Hid (∀ wi,Below w.heap.size w wi→bK wi v x):=fun wi h=>hv.below h
 have Ir:Hid (bZ x.name=true):=hX1
 obtain ⟨u0,u1,u2,rfl,g0,g1,g2,i0,i1,i2,i3⟩:=hv
 have H0:Hid (∀ wi,Below w.heap.size w wi→Bs wi u0 x.name∧bY wi u1 x.ah∧bO wi u2 x.au):=fun wi h=>⟨g0.below h,g1.below eU h,g2.below dY h⟩
 obtain ⟨a0,n0,c0,rfl⟩:=g0.aG
 obtain ⟨a1,c1,rfl,m0,m1⟩:=g1.form
 obtain ⟨a2,c2,rfl,m2,m3⟩:=g2.form
 clear g0 g1 g2
 have HX:Hid (∀ o,Below w.heap.size w (w.alloc o)):=fun o=>bn _ o
 have HK:=jX (aV w (.cells #[.slice a0 n0 c0,.int .i64 x.valid,.int .i64 x.next,.int .i64 x.seq,.slice a1 x.ah.length c1,.slice a2 x.au.length c2,.int .i64 x.lost] 37))
 have hn:=fun o=>rR _ x.name _ (H0.out _ (HX.out o)).1
 rw [hX1] at hn
 have z0:decide (x.valid < 1)=false:=by simpa using q0
 have z1:decide (mv < x.valid)=false:=by simpa using q1
 have z2:decide (x.next < 1)=false:=by simpa using q2
 have z3:decide (1000000 < x.next)=false:=by simpa using q3
 have z4:decide (x.seq < 0)=false:=by simpa using q4
 have z5:decide (1000000 < x.seq)=false:=by simpa using q5
 have z6:decide (12 < (x.ah.length:Int))=false:=by simpa using q6
 have z7:decide (40 < (x.au.length:Int))=false:=by simpa using q7
 have z8:decide (x.lost < 0)=false:=by simpa using q8
 have z9:decide (x.seq < x.lost)=false:=by simpa using q9
 go_enter Tryz.func48,Tryz.ntmps48
 go_wp2_with fail
 refine (hn _).mono ?_
 rintro e w' ⟨rfl,rfl⟩
 clear hn hX1
 go_wp2
 clear z0 z1 z2 z3 z4 z5 z6 z7 z8 z9
 go_loopw [5,6] (fun i _ wr=>∃ k:Nat,k≤x.ah.length∧i=.int .i64 k∧Hid (∀ j,j < k→nT x j=true)∧Hid (wr.heap[w.heap.size]?=some (.cells #[.slice a0 n0 c0,.int .i64 x.valid,.int .i64 x.next,.int .i64 x.seq,.slice a1 x.ah.length c1,.slice a2 x.au.length c2,.int .i64 x.lost] 37))∧Hid (Below w.heap.size w wr)) (fun i _ _=>x.ah.length - (intOf i).toNat)
 case atStart=>exact ⟨0,Nat.zero_le _,rfl,(fun j hj=>absurd hj (Nat.not_lt_zero _)),HK,HX.out _⟩
 case round =>
  obtain ⟨k,hk,rfl,hA,hK,hB⟩:=hrel
  by_cases hlt:k < x.ah.length
  ·obtain ⟨m,hm⟩:∃ m,x.ah[k]?=some m:=⟨x.ah[k],aK hlt⟩
   obtain ⟨b,off,cap',u,hv',hlb,d0,d1,d2,d3,hu,j0,j1,j2⟩:=bY.cell (H0.out wr hB.out).2.1 k m hm
   simp only [Value.slice.injEq,true_and] at hv'
   obtain ⟨rfl,rfl⟩:=hv'
   obtain ⟨ua,un,uc,rfl⟩:=hu.aG
   obtain ⟨j,hj⟩:∃ j,j=k - 1:=⟨_,rfl⟩
   obtain ⟨m',hm'⟩:∃ m',x.ah[j]?=some m':=⟨x.ah[j]'(by omega),aK (by omega)⟩
   obtain ⟨b2,off2,cap2,u2,hv2,gB,t0,-⟩:=bY.cell (H0.out wr hB.out).2.1 j m' hm'
   simp only [Value.slice.injEq,true_and,Option.some.injEq,Addr.mk.injEq,and_true] at hv2
   obtain ⟨⟨rfl,rfl⟩,rfl⟩:=hv2
   have HE:Hid (nT x k = !(((((((decide (m.uid < 1) || decide (x.next≤m.uid)) || (decide (0 < k) && decide (m.uid≤m'.uid))) || decide (m.flags < 0)) || decide (31 < m.flags)) || decide (m.seq < 1)) || decide (x.seq < m.seq)) || !fD m.text)):=by
    unfold Hid nT
    simp only [hm]
    refine afM (Pn q3 hk hA.out).1 (fun h=>?_) (fun h=>?_)
    ·rw [show k=0 by omega];rfl
    ·rw [show k=j+1 by omega];simp [mg,hm']
   generalize m'.uid=pu at t0 HE
   clear hm'
   obtain ⟨uid,flags,seq,text⟩:=m
   simp only at d0 d1 d2 d3 hu j0 j1 j2 HE
   have hB1:=(hB.out).alloc hB.out.size (.cells #[.int .i64 uid,.int .i64 flags,.int .i64 seq,.slice ua un uc] 124)
   have hA1:=(Below.refl wr.heap.size wr).alloc (Nat.le_refl _) (.cells #[.int .i64 uid,.int .i64 flags,.int .i64 seq,.slice ua un uc] 124)
   have tL:=jX (aV wr (.cells #[.int .i64 uid,.int .i64 flags,.int .i64 seq,.slice ua un uc] 124))
   have gU:=jX (ay hA1 hK.out)
   have AU:=jX ((hA1.cell gB).trans t0)
   have HB1:=jX hB1
   have HU:=jX (hu.below hA1)
   obtain ⟨e0,e1,e2,e3,e4,e5,e6⟩:=bF hK.out
   have hlA:=lt_of_heap hK.out
   clear hu hA1 hB1 t0
   go_upto_region 7 with fail
   clear e0 e1 e2 e3 e4 e5 e6 hlA d0 d1 d2 d3
   generalize wr.alloc (.cells #[.int .i64 uid,.int .i64 flags,.int .i64 seq,.slice ua un uc] 124)=W at tL gU AU HB1 HU ⊢
   have DR:Below W.heap.size W W.drew:=bd _ _
   have HT:=jX (qN (.slice ua un uc) text W.drew (Bs.below HU.out DR))
   generalize fD text=XT at HE HT
   have hjl:(j:Int) < (x.ah.length:Int):=by omega
   have hj0:(0:Int)≤(j:Int):=by omega
   rcases (show (decide (0 < k)=true∧IntKind.i64.wrap ((k:Int) - 1)=(j:Int))∨decide (0 < k)=false by
    by_cases h:0 < k
    ·exact .inl ⟨by simpa using h,by rw [IntWalk.i64_in _ (by omega)];omega⟩
    ·exact .inr (by simpa using h)) with ⟨hd,hw1⟩ | hd
   all_goals
    simp only [hd,Bool.true_and,Bool.false_and] at HE
    clear hj
    refine JB (S:=fun w'=>mJ w' wr.heap.size 0 [.int .i64 uid,.int .i64 flags,.int .i64 seq,.slice ua un uc]∧mJ w' w.heap.size 0 [.slice a0 n0 c0,.int .i64 x.valid,.int .i64 x.next,.int .i64 x.seq,.slice (some ⟨b,off,none⟩) x.ah.length c1,.slice a2 x.au.length c2,.int .i64 x.lost]∧w'.cell? ⟨b,off+j * 4,none⟩=some (.int .i64 pu)) (JA (by kernel_rfl) afI) (by kernel_rfl) ⟨EG (ay DR tL.out),EG (ay DR gU.out),AU.out⟩ (fun aj aks=>?_)
    repeat (first | refine AR aj aks (fun C hC=>?_) | refine zC aj aks ?_ | refine AQ aj aks ?_ | refine Ob aj aks ?_ | refine Oc aj aks ?_)
    refine Iq (R:=fun v w'=>v=cond C undef (.bool XT)∧w'=W.drew) aj (by decide) (fun K' hK=>?_) (fun v w' h=>h.2 ▸ aks) ?_
    ·cases C
     ·go_simp
      refine HT.out.mono ?_
      rintro e w2 ⟨rfl,rfl⟩
      exact hK.out _ _ ⟨rfl,rfl⟩
     ·go_simp
      exact hK.out _ _ ⟨rfl,rfl⟩
    rintro v w2 ⟨rfl,rfl⟩ aks
    repeat (first | refine AR aj aks (fun C hC=>?_) | refine zC aj aks ?_ | refine AQ aj aks ?_)
    refine JC aj ?_
    have EI:Hid (nT x k = !C):=by
     have h:=HE.out
     simp only [Hid] at *
     subst_vars
     exact h
    have HB2:=jX (Below.step HB1.out DR)
    have dw:=jX (ay DR gU.out)
    clear hC HT HE tL gU AU HU HB1 aks DR
    cases C
    ·go_wp2
     go_roundw
     case rel =>
      refine ⟨k+1,by omega,by go_num,(show Hid _ from fun i hi=>?_),dw,HB2⟩
      by_cases e:i=k
      ·subst e;exact EI.out
      ·exact hA.out i (by omega)
     case measure=>simp [intOf];omega
    ·go_wp2
     go_ret
     exact ⟨aR (afK (iq k hlt EI.out)),HB2.out⟩
  ·obtain rfl:k=x.ah.length:=by omega
   obtain ⟨e0,e1,e2,e3,e4,e5,e6⟩:=bF hK.out
   go_wp2
   clear hlt e0 e1 e2 e3 e4 e5 e6
   have vY:Hid (∀ j,j < x.ah.length→nT x j=true):=hA.out
   clear hA
   go_loopw [7,8] (fun i _ wr=>∃ k:Nat,k≤x.au.length∧i=.int .i64 k∧Hid (∀ j,j < k→mh x j=true)∧Hid (wr.heap[w.heap.size]?=some (.cells #[.slice a0 n0 c0,.int .i64 x.valid,.int .i64 x.next,.int .i64 x.seq,.slice a1 x.ah.length c1,.slice a2 x.au.length c2,.int .i64 x.lost] 37))∧Hid (Below w.heap.size w wr)) (fun i _ _=>x.au.length - (intOf i).toNat)
   case atStart=>exact ⟨0,Nat.zero_le _,rfl,(fun j hj=>absurd hj (Nat.not_lt_zero _)),hK,hB⟩
   case round =>
    clear hK hB
    obtain ⟨k,hk,rfl,hA,hK,hB⟩:=hrel
    by_cases hlt:k < x.au.length
    ·obtain ⟨m,hm⟩:∃ m,x.au[k]?=some m:=⟨x.au[k],aK hlt⟩
     obtain ⟨b,off,cap',hv',hlb,d0,d1,j0,j1⟩:=bO.cell (H0.out wr hB.out).2.2 k m hm
     simp only [Value.slice.injEq,true_and] at hv'
     obtain ⟨rfl,rfl⟩:=hv'
     obtain ⟨j,hj⟩:∃ j,j=k - 1:=⟨_,rfl⟩
     obtain ⟨m',hm'⟩:∃ m',x.au[j]?=some m':=⟨x.au[j]'(by omega),aK (by omega)⟩
     obtain ⟨b2,off2,cap2,hv2,gB,-,t0,-⟩:=bO.cell (H0.out wr hB.out).2.2 j m' hm'
     simp only [Value.slice.injEq,true_and,Option.some.injEq,Addr.mk.injEq,and_true] at hv2
     obtain ⟨⟨rfl,rfl⟩,rfl⟩:=hv2
     have HE:Hid (mh x k = !(((((((decide (m.uid < 1) || decide (x.next≤m.uid)) || decide (0≤bB (fun o=>decide (o.uid=m.uid)) x.ah)) || decide (m.seq < 1)) || decide (x.seq < m.seq)) || (decide (0 < k) && decide (m.seq < m'.seq))) || decide (m.seq < x.lost)) || ((x.au.take k).any fun o=>decide (o.uid=m.uid)))):=by
      have h:=Po hk hA.out
      unfold Hid mh
      simp only [hm]
      rw [Bu]
      refine afN h.1 h.2 (fun h=>?_) (fun h=>?_)
      ·rw [show k=0 by omega];simp only [minS];omega
      ·rw [show k=j+1 by omega];simp [minS,hm']
     generalize m'.seq=ps at t0 HE
     clear hm'
     obtain ⟨uid,seq⟩:=m
     simp only at d0 d1 j0 j1 HE
     have hkc:k≤c2:=by omega
     have hB1:=(hB.out).alloc hB.out.size (.cells #[.int .i64 uid,.int .i64 seq] 126)
     have hA1:=(Below.refl wr.heap.size wr).alloc (Nat.le_refl _) (.cells #[.int .i64 uid,.int .i64 seq] 126)
     have tL:=jX (aV wr (.cells #[.int .i64 uid,.int .i64 seq] 126))
     have gU:=jX (ay hA1 hK.out)
     have HA1:=jX hA1
     have HB1:=jX hB1
     have AU:Hid (wr.cell? ⟨b,off+j * 2+1,none⟩=some (.int .i64 ps)):=t0
     have Dh:Hid (∀ wi,Below wr.heap.size wr wi→Calls Tryz.prog 62 #[.agg #[.slice a0 n0 c0,.int .i64 x.valid,.int .i64 x.next,.int .i64 x.seq,.slice a1 x.ah.length c1,.slice (some ⟨b,off,none⟩) x.au.length c2,.int .i64 x.lost],.int .i64 uid] wi fun e w'=>e=.returned (.int .i64 (bB (fun m=>decide (m.uid=uid)) x.ah))∧Below wi.heap.size wi w'):=fun wi h=>sI _ x uid wi (HV.out _ (Below.step hB.out h))
     have Od:Hid (∀ wi,Below wr.heap.size wr wi→Calls Tryz.prog 96 #[.slice (some ⟨b,off,none⟩) k c2,.int .i64 uid] wi fun e w'=>e=.returned (.bool ((x.au.take k).any fun o=>decide (o.uid=uid)))∧w'=wi):=fun wi h=>Y4 _ (x.au.take k) uid wi (((H0.out _ (Below.step hB.out h)).2.2).GI k hk)
     generalize bB (fun m=>decide (m.uid=uid)) x.ah=fi at Dh HE
     generalize ((x.au.take k).any fun o=>decide (o.uid=uid))=XG at HE Od
     obtain ⟨e0,e1,e2,e3,e4,e5,e6⟩:=bF hK.out
     have hlA:=lt_of_heap hK.out
     clear hA1 hB1 t0
     go_upto_region 13 with fail
     clear e0 e1 e2 e3 e4 e5 e6 hlA d0 d1
     generalize wr.alloc (.cells #[.int .i64 uid,.int .i64 seq] 126)=W at tL gU HA1 HB1 ⊢
     have Oe:Hid (∀ w',Below W.heap.size W w'→mJ w' wr.heap.size 0 [.int .i64 uid,.int .i64 seq]∧mJ w' w.heap.size 0 [.slice a0 n0 c0,.int .i64 x.valid,.int .i64 x.next,.int .i64 x.seq,.slice a1 x.ah.length c1,.slice (some ⟨b,off,none⟩) x.au.length c2,.int .i64 x.lost]∧w'.cell? ⟨b,off+j * 2+1,none⟩=some (.int .i64 ps)):=fun w' h=>⟨EG (ay h tL.out),EG (ay h gU.out),((Below.step HA1.out h).cell gB).trans AU.out⟩
     have HDR:Hid (Below W.heap.size W W.drew):=bd _ _
     have hjl:(j:Int) < (x.au.length:Int):=by omega
     have hj0:(0:Int)≤(j:Int):=by omega
     rcases (show (decide (0 < k)=true∧IntKind.i64.wrap ((k:Int) - 1)=(j:Int))∨decide (0 < k)=false by
      by_cases h:0 < k
      ·exact .inl ⟨by simpa using h,by rw [IntWalk.i64_in _ (by omega)];omega⟩
      ·exact .inr (by simpa using h)) with ⟨hd,hw1⟩ | hd
     all_goals
      simp only [hd,Bool.true_and,Bool.false_and] at HE
      clear hj
      refine JB (S:=fun w'=>mJ w' wr.heap.size 0 [.int .i64 uid,.int .i64 seq]∧mJ w' w.heap.size 0 [.slice a0 n0 c0,.int .i64 x.valid,.int .i64 x.next,.int .i64 x.seq,.slice a1 x.ah.length c1,.slice (some ⟨b,off,none⟩) x.au.length c2,.int .i64 x.lost]∧w'.cell? ⟨b,off+j * 2+1,none⟩=some (.int .i64 ps)) (JA (by kernel_rfl) afJ) (by kernel_rfl) (Oe.out _ HDR.out) (fun aj aks=>?_)
      repeat (first | refine AR aj aks (fun C hC=>?_) | refine zC aj aks ?_ | refine AQ aj aks ?_)
      refine Iq (R:=fun v w'=>v=cond C undef (.int .i64 fi)∧Below W.heap.size W w') aj (by decide) (fun K' hK=>?_) (fun v w' h=>Oe.out _ h.2) ?_
      ·cases C
       ·go_simp
        refine (Dh.out _ (Below.step HA1.out HDR.out)).mono ?_
        rintro e w2 ⟨rfl,B⟩
        exact hK.out _ _ ⟨rfl,Below.step HDR.out B⟩
       ·go_simp
        exact hK.out _ _ ⟨rfl,HDR.out⟩
      rintro v w2 ⟨rfl,B⟩ aks
      have HB2:=jX B
      clear B
      repeat (first | refine AR aj aks (fun C hC=>?_) | refine zC aj aks ?_ | refine AQ aj aks ?_ | refine Ob aj aks ?_ | refine Oc aj aks ?_)
      refine Iq (R:=fun v w'=>v=cond C undef (.bool XG)∧w'=w2) aj (by decide) (fun K' hK=>?_) (fun v w' h=>h.2 ▸ aks) ?_
      ·cases C
       ·go_simp
        refine (Od.out _ (Below.step HA1.out HB2.out)).mono ?_
        rintro e w2 ⟨rfl,rfl⟩
        exact hK.out _ _ ⟨rfl,rfl⟩
       ·go_simp
        exact hK.out _ _ ⟨rfl,rfl⟩
      rintro v w3 ⟨rfl,rfl⟩ aks
      repeat (first | refine AR aj aks (fun C hC=>?_) | refine zC aj aks ?_ | refine AQ aj aks ?_)
      refine JC aj ?_
      have EI:Hid (mh x k = !C):=by
       have h:=HE.out
       simp only [Hid] at *
       subst_vars
       exact h
      have HB3:=jX (Below.step HB1.out HB2.out)
      have dw:=jX (ay HB2.out gU.out)
      clear hC HE tL gU AU HB1 aks HDR Oe Dh Od HA1 HB2
      cases C
      ·go_wp2
       go_roundw
       case rel =>
        refine ⟨k+1,by omega,by go_num,(show Hid _ from fun i hi=>?_),dw,HB3⟩
        by_cases e:i=k
        ·subst e;exact EI.out
        ·exact hA.out i (by omega)
       case measure=>simp [intOf];omega
      ·go_wp2
       go_ret
       exact ⟨aR (afL (iq k hlt EI.out)),HB3.out⟩
    ·obtain rfl:k=x.au.length:=by omega
     obtain ⟨e0,e1,e2,e3,e4,e5,e6⟩:=bF hK.out
     go_wp2
     go_ret
     refine ⟨aR ?_,hB.out⟩
     have z1:=uE vY.out
     have z2:=uE hA.out
     simp [gV,qg,oK,aS,z1,z2,Ir.out,q0,q1,q2,q3,q4,q5,q8,q9]
     omega
theorem afP {x:aD} {mv:Int} (h:¬ (1≤x.valid∧x.valid≤mv∧1≤x.next∧x.next≤1000000∧0≤x.seq∧x.seq≤1000000∧(x.ah.length:Int)≤12∧(x.au.length:Int)≤40∧0≤x.lost∧x.lost≤x.seq)):gV x mv=false:=by
 rw [Bool.eq_false_iff]
 intro e
 simp only [gV,qg,oK,aS,Bool.and_eq_true,decide_eq_true_eq] at e
 obtain ⟨-,⟨e1,e2⟩,⟨e3,e4⟩,⟨e5,e6⟩,⟨e7,e8⟩,⟨e9,-⟩,e10,-⟩:=e
 exact h ⟨e1,e2,e3,e4,e5,e6,by omega,by omega,e7,e8⟩
theorem afQ (v:Value) (x:aD) (mv:Int) (w:World) (hv:bK w v x) :
  Calls Tryz.prog 48 #[v,.int .i64 mv] w fun e w'=>e=.returned (.bool (gV x mv))∧Below w.heap.size w w':=by
 cases hX:bZ x.name with
 | true =>
  by_cases hC:1≤x.valid∧x.valid≤mv∧1≤x.next∧x.next≤1000000∧0≤x.seq∧x.seq≤1000000∧(x.ah.length:Int)≤12∧(x.au.length:Int)≤40∧0≤x.lost∧x.lost≤x.seq
  ·obtain ⟨q0,q1,q2,q3,q4,q5,q6,q7,q8,q9⟩:=hC
   exact afO v x mv w hv hX q0 q1 q2 q3 q4 q5 q6 q7 q8 q9
  ·obtain ⟨u0,u1,u2,rfl,g0,g1,g2,-⟩:=hv
   have HX:Hid (∀ o,Below w.heap.size w (w.alloc o)):=fun o=>bn _ o
   have hn:∀ o,Calls Tryz.prog 49 #[u0] (w.alloc o) fun e w'=>e=.returned (.bool true)∧w'=w.alloc o:=fun o=>by
    have h:=rR _ x.name _ (g0.below (HX.out o))
    rwa [hX] at h
   obtain ⟨a0,n0,c0,rfl⟩:=g0.aG
   obtain ⟨a1,c1,rfl,m0,m1⟩:=g1.form
   obtain ⟨a2,c2,rfl,m2,m3⟩:=g2.form
   clear g0 g1 g2 hX
   have HC:Hid (¬ (1≤x.valid∧x.valid≤mv∧1≤x.next∧x.next≤1000000∧0≤x.seq∧x.seq≤1000000∧(x.ah.length:Int)≤12∧(x.au.length:Int)≤40∧0≤x.lost∧x.lost≤x.seq)):=hC
   clear hC
   go_enter Tryz.func48,Tryz.ntmps48
   go_wp2_with fail
   refine (hn _).mono ?_
   rintro e w' ⟨rfl,rfl⟩
   clear hn
   go_wp2
   all_goals first
    | (go_ret;exact ⟨aR (afP HC.out),HX.out _⟩)
    | exact (HC.out ⟨by omega,by omega,by omega,by omega,by omega,by omega,by omega,by omega,by omega,by omega⟩).elim
 | false =>
  have HZ:Hid (gV x mv=false):=by simp [Hid,gV,hX]
  obtain ⟨u0,u1,u2,rfl,g0,g1,g2,-⟩:=hv
  have HX:Hid (∀ o,Below w.heap.size w (w.alloc o)):=fun o=>bn _ o
  have hn:∀ o,Calls Tryz.prog 49 #[u0] (w.alloc o) fun e w'=>e=.returned (.bool false)∧w'=w.alloc o:=fun o=>by
   have h:=rR _ x.name _ (g0.below (HX.out o))
   rwa [hX] at h
  obtain ⟨a0,n0,c0,rfl⟩:=g0.aG
  obtain ⟨a1,c1,rfl,m0,m1⟩:=g1.form
  obtain ⟨a2,c2,rfl,m2,m3⟩:=g2.form
  clear g0 g1 g2 hX
  go_enter Tryz.func48,Tryz.ntmps48
  go_wp2_with fail
  refine (hn _).mono ?_
  rintro e w' ⟨rfl,rfl⟩
  clear hn
  go_wp2
  go_ret
  exact ⟨aR HZ.out,HX.out _⟩
/- What Tk of package spec do. -/
theorem afR:(Tryz.f21.body.bind (bQ 6)).all (fun o=>table o 31 [7])=true:=by kernel_rfl
theorem Og {q n:Int} (hq:0≤q) (h:n < 1∨1000000 < n∨n≤q):aS n (q+1) 1000000=false:=by
 rw [Bool.eq_false_iff]
 intro e
 simp only [aS,Bool.and_eq_true,decide_eq_true_eq] at e
 omega
theorem Ws {q n:Int} (h0:q < n) (h1:n≤1000000):aS n (q+1) 1000000=true:=by
 simp only [aS,Bool.and_eq_true,decide_eq_true_eq]
 omega
theorem afS (l:List Int):(strOfNums l).toList=dN l:=by
 rw [ByteArray.toList_eq]
 rfl
theorem afT (v:Value) (x:aJ) (w:World) (hv:dM w v x) (q0:0≤x.valid) (q1:x.valid≤1000000) (q2:(x.boxes.length:Int)≤4) (q3:(x.seen.length:Int)≤60) :
  Calls Tryz.prog 21 #[v] w fun e w'=>e=.returned (.bool (jg x))∧Below w.heap.size w w':=by
 have ED:Hid ((List.range x.boxes.length).all (qh x)=false→jg x=false):=fun h=>by simp [jg,h]
 have Oh:Hid ((List.range x.seen.length).all (seenAt x.seen)=false→jg x=false):=fun h=>by simp [jg,qd,h]
 obtain ⟨u0,u1,rfl,g0,g1,i0⟩:=hv
 have H0:Hid (∀ wi,Below w.heap.size w wi→cK wi u0 x.boxes∧dS wi u1 x.seen):=fun wi h=>⟨g0.below lq h,g1.below nP h⟩
 obtain ⟨a0,c0,rfl,m0,m1⟩:=g0.form
 obtain ⟨a1,c1,rfl,m2,m3⟩:=g1.form
 clear g0 g1
 have HK:Hid ((w.alloc (.cells #[.int .i64 x.valid,.slice a0 x.boxes.length c0,.slice a1 x.seen.length c1] 33)).heap[w.heap.size]?=some (.cells #[.int .i64 x.valid,.slice a0 x.boxes.length c0,.slice a1 x.seen.length c1] 33)):=aV w _
 have HX:Hid (Below w.heap.size w (w.alloc (.cells #[.int .i64 x.valid,.slice a0 x.boxes.length c0,.slice a1 x.seen.length c1] 33))):=bn _ _
 go_enter Tryz.func21,Tryz.ntmps21
 go_wp2
 go_loopw [3,4] (fun i _ wr=>∃ k:Nat,k≤x.boxes.length∧i=.int .i64 k∧Hid (∀ j,j < k→qh x j=true)∧Hid (wr.heap[w.heap.size]?=some (.cells #[.int .i64 x.valid,.slice a0 x.boxes.length c0,.slice a1 x.seen.length c1] 33))∧Hid (Below w.heap.size w wr)) (fun i _ _=>x.boxes.length - (intOf i).toNat)
 case atStart=>exact ⟨0,Nat.zero_le _,rfl,(fun j hj=>absurd hj (Nat.not_lt_zero _)),HK,HX⟩
 case round =>
  obtain ⟨k,hk,rfl,hA,hK,hB⟩:=hrel
  obtain ⟨e0,e1,e2⟩:=bD hK.out
  have hlA:=lt_of_heap hK.out
  by_cases hlt:k < x.boxes.length
  ·obtain ⟨m,hm⟩:∃ m,x.boxes[k]?=some m:=⟨x.boxes[k],aK hlt⟩
   obtain ⟨b,off,cap',u0,u1,u2,hv',hlb,d0,d1,d2,d3,d4,d5,d6,hu0,hu1,hu2,j0,j1,j2,j3⟩:=cK.cell (H0.out wr hB.out).1 k m hm
   simp only [Value.slice.injEq,true_and] at hv'
   obtain ⟨rfl,rfl⟩:=hv'
   obtain ⟨ua,un,uc,rfl⟩:=hu0.aG
   obtain ⟨va,vc,rfl,-⟩:=hu1.form
   obtain ⟨wa,wc,rfl,-⟩:=hu2.form
   have gW:Hid (∀ wi,Below wr.heap.size wr wi→bK wi (.agg #[.slice ua un uc,.int .i64 m.valid,.int .i64 m.next,.int .i64 m.seq,.slice va m.ah.length vc,.slice wa m.au.length wc,.int .i64 m.lost]) m):=fun wi h=>⟨_,_,_,rfl,hu0.below h,hu1.below eU h,hu2.below dY h,j0,j1,j2,j3⟩
   have HU0:Hid (Bs wr (.slice ua un uc) m.name):=hu0
   clear hu0 hu1 hu2
   have HE:Hid (qh x k=(gV m x.valid && (oL x.boxes m k && !((x.boxes.take k).any fun o=>decide (o.valid=m.valid))))):=by simp [Hid,qh,hm]
   have HM:Hid (x.boxes[k]?=some m):=hm
   clear hm
   have gI:=fun wi (h:bK wi (.agg #[.slice ua un uc,.int .i64 m.valid,.int .i64 m.next,.int .i64 m.seq,.slice va m.ah.length vc,.slice wa m.au.length wc,.int .i64 m.lost]) m)=>afQ _ m x.valid wi h
   generalize gV m x.valid=X1 at HE gI
   have DR:Below wr.heap.size wr wr.drew:=bd _ _
   have KU:(k:Int) < (x.boxes.length:Int):=by omega
   obtain ⟨j,hj⟩:∃ j,j=k - 1:=⟨_,rfl⟩
   obtain ⟨m',hm'⟩:∃ m',x.boxes[j]?=some m':=⟨x.boxes[j]'(by omega),aK (by omega)⟩
   obtain ⟨b2,off2,cap2,p0,p1,p2,hv2,gB,t0,-,-,-,-,-,-,hp0,-⟩:=cK.cell (H0.out wr hB.out).1 j m' hm'
   simp only [Value.slice.injEq,true_and,Option.some.injEq,Addr.mk.injEq,and_true] at hv2
   obtain ⟨⟨rfl,rfl⟩,rfl⟩:=hv2
   obtain ⟨pa,pn,pc,rfl⟩:=hp0.aG
   have uY:Hid (oL x.boxes m k=(!decide (0 < k) || dH m'.name m.name)):=by
    by_cases h:0 < k
    ·rw [show k=j+1 by omega];simp [Hid,oL,nameAt,hm']
    ·rw [show k=0 by omega];rfl
   have HS:Hid (∀ w',Below wr.heap.size wr w'→mJ w' w.heap.size 0 [.int .i64 x.valid,.slice (some ⟨b,off,none⟩) x.boxes.length c0,.slice a1 x.seen.length c1]∧mJ w' b (off+k * 7) [.slice ua un uc,.int .i64 m.valid,.int .i64 m.next,.int .i64 m.seq,.slice va m.ah.length vc,.slice wa m.au.length wc,.int .i64 m.lost]∧w'.cell? ⟨b,off+j * 7,none⟩=some (.slice pa pn pc)∧(convert 26 9 (.slice pa pn pc)).run Tryz.prog w'=.ok (.string (strOfNums m'.name)) w'∧(convert 26 9 (.slice ua un uc)).run Tryz.prog w'=.ok (.string (strOfNums m.name)) w'):=fun w' h =>
    ⟨EG (ay h hK.out),⟨(h.cell (p:=⟨b,_,none⟩) hlb).trans d0,(h.cell (p:=⟨b,_,none⟩) hlb).trans d1,(h.cell (p:=⟨b,_,none⟩) hlb).trans d2,(h.cell (p:=⟨b,_,none⟩) hlb).trans d3,(h.cell (p:=⟨b,_,none⟩) hlb).trans d4,(h.cell (p:=⟨b,_,none⟩) hlb).trans d5,(h.cell (p:=⟨b,_,none⟩) hlb).trans d6,trivial⟩,(h.cell (p:=⟨b,_,none⟩) gB).trans t0,wm (hp0.below h),wm (HU0.out.below h)⟩
   have Iu:Op.bytesLess (strOfNums m'.name).toList (strOfNums m.name).toList=dH m'.name m.name:=by simp only [dH,afS]
   have Eb:=jX Iu
   have HDR:=jX DR
   have Wt:=jX (gI _ (gW.out _ DR))
   have hjl:(j:Int) < (x.boxes.length:Int):=by omega
   have hj0:(0:Int)≤(j:Int):=by omega
   clear hm' t0 hp0 Iu DR gI
   go_upto_region 6 with fail
   clear d0 d1 d2 d3 d4 d5 d6 e0 e1 e2 hlA
   go_cut [63] (fun s wx=>∃ C:Bool,s=.bool C∧Hid ((!C)=(X1 && oL x.boxes m k))∧Hid (Below wr.heap.size wr wx))
   case first =>
    have Iu:=Eb.out
    generalize dH m'.name m.name=L at Iu uY
    rcases (show (decide (0 < k)=true∧IntKind.i64.wrap ((k:Int) - 1)=(j:Int))∨decide (0 < k)=false by
     by_cases h:0 < k
     ·exact .inl ⟨by simpa using h,by rw [IntWalk.i64_in _ (by omega)];omega⟩
     ·exact .inr (by simpa using h)) with ⟨hd,hw1⟩ | hd
    all_goals
     clear hj
     refine JB (S:=fun w'=>mJ w' w.heap.size 0 [.int .i64 x.valid,.slice (some ⟨b,off,none⟩) x.boxes.length c0,.slice a1 x.seen.length c1]∧mJ w' b (off+k * 7) [.slice ua un uc,.int .i64 m.valid,.int .i64 m.next,.int .i64 m.seq,.slice va m.ah.length vc,.slice wa m.au.length wc,.int .i64 m.lost]∧w'.cell? ⟨b,off+j * 7,none⟩=some (.slice pa pn pc)∧(convert 26 9 (.slice pa pn pc)).run Tryz.prog w'=.ok (.string (strOfNums m'.name)) w'∧(convert 26 9 (.slice ua un uc)).run Tryz.prog w'=.ok (.string (strOfNums m.name)) w') (JA (by kernel_rfl) afR) (by kernel_rfl) (HS.out _ HDR.out) (fun aj aks=>?_)
     repeat (first | refine zC aj aks ?_)
     refine Iq (R:=fun v w'=>v=.bool X1∧Below wr.heap.size wr w') aj (by decide) (fun K' hK=>?_) (fun v w' h=>HS.out _ h.2) ?_
     ·go_simp
      refine Wt.out.mono ?_
      rintro e w2 ⟨rfl,B⟩
      exact hK.out _ _ ⟨rfl,Below.step HDR.out B⟩
     rintro v w1 ⟨rfl,B⟩ aks
     have HB2:=jX B
     clear B
     repeat (first | refine AR aj aks (fun C hC=>?_) | refine zC aj aks ?_ | refine AQ aj aks ?_ | refine Ob aj aks ?_ | refine Oc aj aks ?_)
     refine JC aj ?_
     clear aks
     go_wp2
     go_meet
     case rel=>exact ⟨C,rfl,by have hA:=uY.out;simp only [Hid] at hC ⊢;rw [hC,hA];simp [hd],HB2⟩
   case rest =>
    obtain ⟨C,rfl,HC,HW⟩:=hcut
    rename World=>w1
    have HB1:Hid (Below w.heap.size w w1):=Below.step hB.out HW.out
    cases C
    ·have hX:X1=true∧oL x.boxes m k=true:=by simpa using HC.out.symm
     rw [hX.1,hX.2] at HE
     have jK:Hid (w1.heap[w.heap.size]?=some (.cells #[.int .i64 x.valid,.slice (some ⟨b,off,none⟩) x.boxes.length c0,.slice a1 x.seen.length c1] 33)):=ay HW.out hK.out
     have HD1:Hid (∀ w',Below w1.heap.size w1 w'→∀ p y,x.boxes[p]?=some y→w'.cell? ⟨b,off+p * 7+1,none⟩=some (.int .i64 y.valid)):=by
      intro w' h p y hy
      obtain ⟨b3,ajA,ajB,z0,z1,z2,hv3,-,-,t1,-⟩:=cK.cell (H0.out w' (Below.step HB1.out h)).1 p y hy
      simp only [Value.slice.injEq,true_and,Option.some.injEq,Addr.mk.injEq,and_true] at hv3
      obtain ⟨⟨rfl,rfl⟩,rfl⟩:=hv3
      exact t1
     clear hK hB HC HW hX uY HS Eb HDR Wt gW
     go_wp2
     go_loopw [4] (fun i wr=>∃ q:Nat,q≤k∧i=.int .i64 q∧Hid (∀ p y,p < q→x.boxes[p]?=some y→y.valid≠m.valid)∧Hid (Below w1.heap.size w1 wr)) (fun i _=>k - (intOf i).toNat)
     case atStart=>exact ⟨0,Nat.zero_le _,rfl,(fun p y hp=>absurd hp (Nat.not_lt_zero _)),Below.refl _ _⟩
     case round =>
      rename_i wr0 _
      obtain ⟨q,hq,rfl,hV,hB2⟩:=hrel
      have hK2:=ay hB2.out jK.out
      obtain ⟨e0,e1,e2⟩:=bD hK2
      have hlA:=lt_of_heap hK2
      clear hK2
      by_cases hql:q < k
      ·obtain ⟨y,hy⟩:∃ y,x.boxes[q]?=some y:=⟨x.boxes[q]'(by omega),aK (by omega)⟩
       have r0:=HD1.out _ hB2.out q y hy
       have r1:=HD1.out _ hB2.out k m HM.out
       have HY:Hid (x.boxes[q]?=some y):=hy
       clear hy
       have hqL:(q:Int) < (x.boxes.length:Int):=by omega
       have KU:(k:Int) < (x.boxes.length:Int):=by omega
       by_cases he:y.valid=m.valid
       ·have he':(y.valid == m.valid)=true:=by simpa using he
        have wT:Hid (y.valid=m.valid):=he
        clear he
        go_wp2
        go_quiet (fail)
        go_wp2
        go_ret
        exact ⟨aR (ED.out (iq k hlt (HE.out.trans (by rw [List.any_eq_true.2 ⟨y,List.mem_of_getElem? (l:=x.boxes.take k) (by rw [List.getElem?_take,if_pos hql];exact HY.out),by simpa using wT.out⟩];simp)))),below_drewN _ (Below.step HB1.out hB2.out)⟩
       ·have he':(y.valid == m.valid)=false:=by simpa using he
        have wT:Hid (y.valid≠m.valid):=he
        clear he
        go_wp2
        go_quiet (fail)
        go_wp2
        go_roundw
        case rel =>
         refine ⟨q+1,by omega,by go_num,(show Hid _ from fun p z hp hz=>?_),below_drewN _ hB2.out⟩
         by_cases e:p=q
         ·subst e;rw [HY.out] at hz;cases hz;exact wT.out
         ·exact hV.out p z (by omega) hz
        case measure=>simp [intOf];omega
      ·obtain rfl:q=k:=by omega
       go_wp2
       go_roundw
       case rel =>
        refine ⟨q+1,by omega,by go_num,(show Hid _ from fun i hi=>?_),ay hB2.out jK.out,Below.step HB1.out hB2.out⟩
        by_cases e:i=q
        ·subst e
         refine HE.out.trans ?_
         have z:((x.boxes.take i).any fun o=>decide (o.valid=m.valid))=false:=by
          rw [List.any_eq_false]
          intro o ho
          obtain ⟨p,hp,rfl⟩:=List.getElem_of_mem ho
          have hp':p < i:=by simp at hp;omega
          have:=hV.out p (x.boxes[p]'(by omega)) hp' (aK (by omega))
          simpa using this
         rw [z]
         simp
        ·exact hA.out i (by omega)
       case measure=>simp [intOf];omega
    ·have hX:(X1 && oL x.boxes m k)=false:=HC.out.symm
     go_wp2
     go_ret
     exact ⟨aR (ED.out (iq k hlt (HE.out.trans (by rw [← Bool.and_assoc,hX];rfl)))),HB1.out⟩
  ·obtain rfl:k=x.boxes.length:=by omega
   have HBA:Hid (∀ j,j < x.boxes.length→qh x j=true):=hA.out
   clear hlt hA
   go_wp2
   clear e0 e1 e2
   go_loopw [5] (fun i wr=>∃ k:Nat,k≤x.seen.length∧i=.int .i64 k∧Hid (∀ j,j < k→seenAt x.seen j=true)∧Hid (wr.heap[w.heap.size]?=some (.cells #[.int .i64 x.valid,.slice a0 x.boxes.length c0,.slice a1 x.seen.length c1] 33))∧Hid (Below w.heap.size w wr)) (fun i _=>x.seen.length - (intOf i).toNat)
   case atStart=>exact ⟨0,Nat.zero_le _,rfl,(fun j hj=>absurd hj (Nat.not_lt_zero _)),hK,hB⟩
   case round =>
    clear hK hB
    obtain ⟨k,hk,rfl,hA,hK,hB⟩:=hrel
    obtain ⟨e0,e1,e2⟩:=bD hK.out
    have hlA:=lt_of_heap hK.out
    by_cases hlt:k < x.seen.length
    ·obtain ⟨n,hn⟩:∃ n,x.seen[k]?=some n:=⟨x.seen[k],aK hlt⟩
     obtain ⟨b,off,cap',hv',hlb,d0,i0⟩:=dS.cell (H0.out wr hB.out).2 k n hn
     simp only [Value.slice.injEq,true_and] at hv'
     obtain ⟨rfl,rfl⟩:=hv'
     have hp:=Pm hk hA.out
     have HE:Hid (seenAt x.seen k=aS n (nS x.seen k+1) 1000000):=by show seenAt x.seen k=_;unfold seenAt;rw [show x.seen.getD k 0=n by simp [List.getD,hn]]
     generalize hQ:nS x.seen k=q at hp HE
     have HQ:Hid (nS x.seen k=q):=hQ
     clear hQ hn
     have KU:(k:Int) < (x.seen.length:Int):=by omega
     by_cases h1:n < 1
     ·have afX:decide (n < 1)=true:=decide_eq_true h1
      go_wp2
      go_quiet (fail)
      go_wp2
      go_ret
      exact ⟨aR (Oh.out (iq k hlt (HE.out.trans (Og hp.1 (.inl h1))))),below_drewN _ hB.out⟩
     have afX:decide (n < 1)=false:=decide_eq_false h1
     by_cases h2:1000000 < n
     ·have afY:decide (1000000 < n)=true:=decide_eq_true h2
      go_wp2
      go_quiet (fail)
      go_wp2
      go_ret
      exact ⟨aR (Oh.out (iq k hlt (HE.out.trans (Og hp.1 (.inr (.inl h2)))))),below_drewN _ hB.out⟩
     have afY:decide (1000000 < n)=false:=decide_eq_false h2
     by_cases hkz:(0:Int) < (k:Int)
     ·obtain ⟨j,hj⟩:∃ j,k=j+1:=⟨k - 1,by omega⟩
      have hjl:(j:Int) < (x.seen.length:Int):=by omega
      have hj0:(0:Int)≤(j:Int):=by omega
      have hw1:IntKind.i64.wrap ((k:Int) - 1)=(j:Int):=by rw [IntWalk.i64_in _ (by omega)];omega
      have hkN:0 < k:=by omega
      have hd:decide (0 < k)=true:=by simpa using hkN
      have HJ:Hid (k=j+1):=hj
      clear hj
      obtain ⟨n',hn'⟩:∃ n',x.seen[j]?=some n':=⟨x.seen[j]'(by have:=HJ.out;omega),aK (by have:=HJ.out;omega)⟩
      obtain ⟨b2,off2,cap2,hv2,gB,t0,-⟩:=dS.cell (H0.out wr hB.out).2 j n' hn'
      simp only [Value.slice.injEq,true_and,Option.some.injEq,Addr.mk.injEq,and_true] at hv2
      obtain ⟨⟨rfl,rfl⟩,rfl⟩:=hv2
      have Iw:Hid (n'=q):=by rw [← HQ.out,HJ.out];simp [Hid,nS,List.getD,hn']
      clear hn'
      by_cases h3:n≤n'
      ·have afZ:decide (n≤n')=true:=decide_eq_true h3
       go_wp2
       go_quiet (fail)
       go_wp2
       go_ret
       exact ⟨aR (Oh.out (iq k hlt (HE.out.trans (Og hp.1 (.inr (.inr (by have:=Iw.out;omega))))))),below_drewN _ hB.out⟩
      have afZ:decide (n≤n')=false:=decide_eq_false h3
      go_wp2
      go_quiet (fail)
      go_wp2
      go_roundw
      case rel =>
       refine ⟨k+1,by omega,by go_num,(show Hid _ from fun i hi=>?_),hK.out,below_drewN _ hB.out⟩
       by_cases e:i=k
       ·subst e;exact HE.out.trans (Ws (by have:=Iw.out;omega) (by omega))
       ·exact hA.out i (by omega)
      case measure=>simp [intOf];omega
     ·have hkN:¬ 0 < k:=by omega
      have hd:decide (0 < k)=false:=by simpa using hkN
      have Iw:Hid (q=0):=by
       rw [← HQ.out]
       have:k=0:=by omega
       rw [this];rfl
      go_wp2
      go_quiet (fail)
      go_wp2
      go_roundw
      case rel =>
       refine ⟨k+1,by omega,by go_num,(show Hid _ from fun i hi=>?_),hK.out,below_drewN _ hB.out⟩
       by_cases e:i=k
       ·subst e;exact HE.out.trans (Ws (by have:=Iw.out;omega) (by omega))
       ·exact hA.out i (by omega)
      case measure=>simp [intOf];omega
    ·obtain rfl:k=x.seen.length:=by omega
     go_wp2
     go_ret
     refine ⟨aR ?_,hB.out⟩
     have z1:=uE HBA.out
     have z2:=uE hA.out
     simp [jg,qd,aS,z1,z2,q0,q1]
     omega
/- What Tk of package spec does of every account. -/
theorem af0 {x:aJ} (h:¬ (0≤x.valid∧x.valid≤1000000∧(x.boxes.length:Int)≤4∧(x.seen.length:Int)≤60)):jg x=false:=by
 rw [Bool.eq_false_iff]
 intro e
 simp only [jg,qd,aS,Bool.and_eq_true,decide_eq_true_eq] at e
 exact h ⟨e.1.1,e.1.2,by have:=e.2.1;omega,by have:=e.2.2.1.1;omega⟩
theorem af2 (v:Value) (x:aJ) (w:World) (hv:dM w v x) :
  Calls Tryz.prog 21 #[v] w fun e w'=>e=.returned (.bool (jg x))∧Below w.heap.size w w':=by
 by_cases hC:0≤x.valid∧x.valid≤1000000∧(x.boxes.length:Int)≤4∧(x.seen.length:Int)≤60
 ·exact afT v x w hv hC.1 hC.2.1 hC.2.2.1 hC.2.2.2
 ·obtain ⟨u0,u1,rfl,g0,g1,-⟩:=hv
  obtain ⟨a0,c0,rfl,m0,m1⟩:=g0.form
  obtain ⟨a1,c1,rfl,m2,m3⟩:=g1.form
  clear g0 g1
  have HX:Hid (∀ o,Below w.heap.size w (w.alloc o)):=fun o=>bn _ o
  have HC:Hid (¬ (0≤x.valid∧x.valid≤1000000∧(x.boxes.length:Int)≤4∧(x.seen.length:Int)≤60)):=hC
  clear hC
  go_enter Tryz.func21,Tryz.ntmps21
  go_wp2
  all_goals first
   | (go_ret;exact ⟨aR (af0 HC.out),HX.out _⟩)
   | exact (HC.out ⟨by omega,by omega,by omega,by omega⟩).elim
/- What ajE and ajF of package spec do. -/
theorem zD (k:Int) (w:World) :
  Calls Tryz.prog 50 #[.int .i64 k] w fun e w'=>e=.returned (.tuple #[.bool (toB k),.bool (Bv k),.bool (Bw k),.bool (BA k),.bool (BD k)])∧w'=w:=by
 go_enter Tryz.func50,Tryz.ntmps50
 go_wp2
 all_goals exact bodyPost_ret (v:=.tuple #[.bool (toB k),.bool (Bv k),.bool (Bw k),.bool (BA k),.bool (BD k)]) (by simp [results,Tryz.results50,go_sem,toB,Bv,Bw,BA,BD, *] <;> (simp only [beq_iff_eq,beq_eq_false_iff_ne,ne_eq] at *;omega)) rfl ⟨rfl,rfl⟩
theorem rT (n:Int) (w:World) :
  Calls Tryz.prog 51 #[.int .i64 n] w fun e w'=>e=.returned (.bool (aS n 0 1000000))∧w'=w:=by
 go_enter Tryz.func51,Tryz.ntmps51
 go_wp2
 all_goals (go_ret;exact ⟨by simp [aS, *] <;> omega,rfl⟩)
end Go.Proofs.YtlneebmlhblleaaGreat
