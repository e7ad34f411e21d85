/- The proof's texts, part 14. -/
import Derived.Test.YtfabngnaejjcmaaGreatDoorT5
namespace Go.Proofs.YtfabngnaejjcmaaGreatDoor
set_option linter.unusedVariables false
/- A region that draws its order: one walk an operation, whatever else is done by then, in place of one walk an order. -/
/-- i is done, too. -/
def iy (L:Nat->Bool) (i:Nat):Nat->Bool:=λj=>cond (Nat.beq j i) true (L j)
def jf (V:Nat->Value) (i:Nat) (v:Value):Nat->Value:=λj=>cond (Nat.beq j i) v (V j)
def nE (a:Act) (d:Nat):Value:=(a.tmps.toList.drop d).headD undef
/-- The slots of those that are done are filled. -/
def fK:List (Option Nat)->Nat->(Nat->Bool)->(Nat->Value)->Act->Act
 | [],_,_,_,a=>a
 | none :: ds,k,L,V,a=>fK ds (k+1) L V a
 | some d :: ds,k,L,V,a=>fK ds (k+1) L V (iI a d (cond (L k) (V k) (nE a d)))
theorem qE {L:Nat->Bool} {i j:Nat} (h:j≠i):iy L i j=L j:=by
 unfold iy;rw[show Nat.beq j i=false from Bool.eq_false_iff.2 λe=>h (Nat.eq_of_beq_eq_true e)];rfl
theorem sG {L:Nat->Bool} {i:Nat}:iy L i i=true:=by unfold iy;rw[Nat.beq_refl];rfl
theorem H8 {V:Nat->Value} {i j:Nat} {v:Value} (h:j≠i):jf V i v j=V j:=by
 unfold jf;rw[show Nat.beq j i=false from Bool.eq_false_iff.2 λe=>h (Nat.eq_of_beq_eq_true e)];rfl
theorem R4 {V:Nat->Value} {i:Nat} {v:Value}:jf V i v i=v:=by unfold jf;rw[Nat.beq_refl];rfl
def pz (L:Nat->Bool):List Nat->Prop
 | []=>True
 | i :: l=>L i=true/\pz L l
theorem uF {L:Nat->Bool} {l:List Nat}:pz L l↔∀i ∈ l,L i=true:=by
 induction l with
 | nil=>simp[pz]
 | cons i l ih=>simp[pz,ih]
def jg (o:Oper):List Nat:=(o.after.toList.filter (Region.binds .any)).map (·.on)
def sH:List Nat->Bool
 | []=>true
 | d :: l=>!l.contains d && sH l
def Az (ops:Array Oper) (ds:List (Option Nat)) (ws:List (List Nat)):Bool :=
 (ops.toList.map (·.dst) == ds) && (sH (ds.filterMap id) && ((ws.length == ds.length) && (List.range ops.size).all λi=>match ops[i]?,ws[i]? with
  | some o,some l=>(jg o).all (λj=>Nat.blt j i) && l.all (jg o).contains
  | _,_=>false))
structure H9 (ops:Array Oper) (ds:List (Option Nat)) (ws:List (List Nat)):Prop where
 out:Az ops ds ws=true
theorem aaO {ops:Array Oper} {ds:List (Option Nat)} {ws:List (List Nat)} {c:Option Code} {id:Nat} (h:c.bind (eO id)=some ops) (T:(c.bind (eO id)).all (λo=>Az o ds ws)=true):H9 ops ds ws:=by
 rw[h] at T;exact⟨by simpa using T⟩
theorem aaP (a:Act) (d:Nat) (x v:Value):(iI a d x).put (some d) v=iI a d v:=by
 rw[yx];simp[iI,List.set_set]
theorem aaQ (a:Act) {d e:Nat} (h:d≠e) (x v:Value):(iI a e x).put (some d) v=iI (a.put (some d) v) e x:=by
 rw[yx,yx];simp[iI,List.set_comm _ _ h.symm]
theorem R5 (a:Act) {d e:Nat} (h:d≠e) (v:Value):nE (a.put (some d) v) e=nE a e:=by
 rw[yx];simp[nE,iI,List.headD_eq_head?_getD,List.head?_drop,List.getElem?_set_ne h]
theorem Ia {L L':Nat->Bool} {V V':Nat->Value}:∀(ds:List (Option Nat)) (k:Nat) (a:Act),(∀j,k<=j->L j=L' j/\V j=V' j)->fK ds k L V a=fK ds k L' V' a
 | [],_,_,_=>rfl
 | none :: ds,k,a,h=>by unfold fK;exact Ia ds _ a λj hj=>h j (by omega)
 | some d :: ds,k,a,h=>by unfold fK;rw[(h k (Nat.le_refl _)).1,(h k (Nat.le_refl _)).2];exact Ia ds (k+1) _ λj hj=>h j (by omega)
theorem Ls {L:Nat->Bool} {V:Nat->Value} {d:Nat} {v:Value}:∀(ds:List (Option Nat)) (k:Nat) (a:Act),¬d ∈ ds.filterMap id->(fK ds k L V a).put (some d) v=fK ds k L V (a.put (some d) v)
 | [],_,_,_=>rfl
 | none :: ds,k,a,h=>by unfold fK;exact Ls ds (k+1) a (by simpa using h)
 | some e :: ds,k,a,h=>by
  have h':d≠e/\¬d ∈ ds.filterMap id:=by simpa [not_or] using h
  unfold fK;rw[Ls ds (k+1) _ h'.2,aaQ a h'.1,R5 a h'.1]
theorem Lu {L:Nat->Bool} {V:Nat->Value} {v:Value} {o:Option Nat} {i:Nat}:∀(ds:List (Option Nat)) (k:Nat) (a:Act) (j:Nat),i=k+j->ds[j]?=some o->sH (ds.filterMap id)=true->(fK ds k L V a).put o v=fK ds k (iy L i) (jf V i v) a
 | [],_,_,_,_,h,_=>by simp at h
 | none :: ds,k,a,0,e,h,_=>by
  simp only[List.getElem?_cons_zero,Option.some.injEq] at h;subst h e;unfold fK;exact Ia ds _ a λj hj=>⟨(qE (by omega)).symm,(H8 (by omega)).symm⟩
 | some d :: ds,k,a,0,e,h,hd=>by
  simp only[List.getElem?_cons_zero,Option.some.injEq] at h;subst h e;simp only[List.filterMap_cons,id,sH,Bool.and_eq_true,Bool.not_eq_true',List.contains_eq_mem,decide_eq_false_iff_not] at hd;unfold fK;rw[Ls ds _ _ hd.1,aaP,sG,R4,cond_true];exact Ia ds _ _ λj hj=>⟨(qE (by omega)).symm,(H8 (by omega)).symm⟩
 | none :: ds,k,a,j+1,e,h,hd=>by
  unfold fK;exact Lu (i:=i) ds (k+1) a j (by omega) (by simpa using h) (by simpa using hd)
 | some d :: ds,k,a,j+1,e,h,hd=>by
  simp only[List.filterMap_cons,id,sH,Bool.and_eq_true] at hd;unfold fK;rw[Lu (i:=i) ds (k+1) _ j (by omega) (by simpa using h) hd.2,qE (show k≠i by omega),H8 (show k≠i by omega)]
section
variable {P : Program} {ops : Array Oper} {Q : Exit -> Act -> World -> Prop} {F : (Nat -> Bool) -> (Nat -> Value) -> World -> Prop} {A : (Nat -> Bool) -> (Nat -> Value) -> Act} {ds : List (Option Nat)} {ws : List (List Nat)} {a : Act} {w : World}
/-- Those that a done one waits for are done. -/
def yJ (ws:List (List Nat)) (L:Nat->Bool):Prop:=∀i wi,ws[i]?=some wi->L i=true->pz L wi
/-- Operation i, whatever else is done by then. -/
def Lv (P:Program) (ops:Array Oper) (Q:Exit->Act->World->Prop) (F:(Nat->Bool)->(Nat->Value)->World->Prop) (A:(Nat->Bool)->(Nat->Value)->Act) (ws:List (List Nat)) (i:Nat) (wi:List Nat):Prop :=
 ∀L V w,F L V w->L i=false->pz L wi->yJ ws L->∀o,ops[i]?=some o->∀K:Act->World->Prop,Shut (∀v w',F (iy L i) (jf V i v) w'->K ((A L V).put o.dst v) w') ->
  if Region.wanted o (yielded ops (A L V).tmps)=true then Oper.wp P o (A L V) w K Q else K ((A L V).put o.dst undef) w
def Dy (P:Program) (ops:Array Oper) (Q:Exit->Act->World->Prop) (F:(Nat->Bool)->(Nat->Value)->World->Prop) (A:(Nat->Bool)->(Nat->Value)->Act) (ws:List (List Nat)):Nat->List (List Nat)->Prop
 | _,[]=>True
 | k,wi :: r=>Lv P ops Q F A ws k wi/\Dy P ops Q F A ws (k+1) r
theorem R6:∀(r:List (List Nat)) (k j:Nat) (wi:List Nat),Dy P ops Q F A ws k r->r[j]?=some wi->Lv P ops Q F A ws (k+j) wi
 | [],_,_,_,_,h=>by simp at h
 | _ :: _,_,0,_,H,h=>by simp only[List.getElem?_cons_zero,Option.some.injEq] at h;subst h;exact H.1
 | _ :: r,k,j+1,wi,H,h=>by have:=R6 r (k+1) j wi H.2 (by simpa using h);rwa [show k+(j+1)=k+1+j by omega]
def uG (L:Nat->Bool):Nat->Nat
 | 0=>0
 | k+1=>uG L k+cond (L k) 0 1
theorem R7 {L:Nat->Bool}:∀ {n:Nat},uG L n=0->∀i,i < n->L i=true
 | 0,_,_,h=>absurd h (Nat.not_lt_zero _)
 | n+1,h,i,hi=>by
  unfold uG at h
  by_cases e:i=n
  ·subst e;cases hL:L i
   ·rw[hL] at h;simp at h
   ·rfl
  ·exact R7 (n:=n) (by omega) i (by omega)
theorem R8 {L:Nat->Bool} {i:Nat} (h:L i=false):∀n,uG (iy L i) n+(if i < n then 1 else 0)=uG L n
 | 0=>rfl
 | n+1=>by
  have:=R8 h n;unfold uG
  by_cases e:i=n
  ·subst e;simp[sG,h] at this ⊢;exact this
  ·rw[qE (show n≠i from λe'=>e e'.symm)]
   by_cases hi:i < n
   ·rw[if_pos hi] at this;rw[if_pos (by omega)];omega
   ·rw[if_neg hi] at this;rw[if_neg (by omega)];omega
theorem aaR (T:H9 ops ds ws) (ha:∀L V,fK ds 0 L V a=A L V) (hs:Dy P ops Q F A ws 0 ws)
  (he:∀V w,F (λ_=>true) V w->Q .normal (A (λ_=>true) V) w) :
  ∀(fuel:Nat) (listed:Array Bool) (L:Nat->Bool) (V:Nat->Value) (w:World),listed.size=ops.size->(∀i,L i=listed.getD i true)->yJ ws L->uG L ops.size<=fuel->F L V w->wpAnyH P .any ops Q (λ_=>True) fuel listed (A L V) w:=by
 have T':=T.out;simp only[Az,Bool.and_eq_true,beq_iff_eq,List.all_eq_true,List.mem_range] at T';obtain⟨t1,t2,t3,t4⟩:=T';have hn:ops.size=ds.length:=by rw[← t1];simp
 have tw:∀i o,ops[i]?=some o->∃wi,ws[i]?=some wi/\(∀e ∈ o.after,Region.binds .any e=true->e.on < i)/\∀j ∈ wi,∃e ∈ o.after,Region.binds .any e=true/\e.on=j:=by
  intro i o ho;have hlt:=(Array.getElem?_eq_some_iff.1 ho).1;have h4:=t4 i hlt;rw[ho] at h4;obtain⟨wi,hw⟩:∃wi,ws[i]?=some wi:=⟨_,bK (by omega)⟩;rw[hw] at h4;simp only[Bool.and_eq_true,List.all_eq_true,Nat.blt_eq,List.contains_iff_mem] at h4;refine⟨wi,hw,λe he hb=>h4.1 _ ?_,λj hj=>?_⟩
  ·exact List.mem_map.2 ⟨e,List.mem_filter.2 ⟨by simpa using he,hb⟩,rfl⟩
  ·obtain⟨e,he,rfl⟩:=List.mem_map.1 (h4.2 j hj)
   obtain⟨he,hb⟩:=List.mem_filter.1 he;exact⟨e,by simpa using he,hb,rfl⟩
 have R9:∀(listed:Array Bool) (L:Nat->Bool) (V:Nat->Value) (w:World),listed.size=ops.size->(∀i,L i=listed.getD i true)->Region.ready .any ops listed=[]->F L V w->Q .normal (A L V) w:=by
  intro listed L V w hsz hL hr hF;have hall:∀i,L i=true:=by
   intro i
   induction i using Nat.strongRecOn with
   | _ i ih =>
    cases qW:L i
    ·exfalso
     have hi:i < ops.size:=by
      rcases Nat.lt_or_ge i ops.size with h | h
      ·exact h
      ·rw[hL i] at qW;simp[Array.getD,show ¬i < listed.size by omega] at qW
     obtain⟨o,ho⟩:∃o,ops[i]?=some o:=⟨_,Array.getElem?_eq_getElem hi⟩;obtain⟨wi,hw,hlt,-⟩:=tw i o ho;have:i ∈ Region.ready .any ops listed:=mem_ready.2 ⟨by rw[← hL i];exact qW,o,ho,λe hem hb=>by
      have h1:=ih e.on (hlt e hem hb);rw[hL] at h1;have h2:e.on < listed.size:=by have:=hlt e hem hb;omega
      simpa [Array.getD,h2] using h1⟩
     rw[hr] at this;cases this
    ·rfl
  rw[show L=λ_=>true from funext hall] at hF ⊢;exact he V w hF
 intro fuel
 induction fuel with
 | zero =>
  intro listed L V w hsz hL hC hc hF;have hall:=R7 (Nat.le_zero.1 hc);have hr:Region.ready .any ops listed=[]:=List.eq_nil_iff_forall_not_mem.2 λj hj=>by
   obtain⟨h1,o,ho,-⟩:=mem_ready.1 hj;rw[← hL j,hall j (Array.getElem?_eq_some_iff.1 ho).1] at h1;cases h1
  exact⟨hr,R9 listed L V w hsz hL hr hF⟩
 | succ fuel ih =>
  intro listed L V w hsz hL hC hc hF;refine⟨λhr=>R9 listed L V w hsz hL hr hF,λi hi=>?_⟩;obtain⟨h1,o,ho,hall⟩:=mem_ready.1 hi;have hlt:=(Array.getElem?_eq_some_iff.1 ho).1;obtain⟨wi,hw,aaS,hwi⟩:=tw i o ho;have qW:L i=false:=by rw[hL i];exact h1
  have Dz:pz L wi:=uF.2 λj hj=>by
   obtain⟨e,hem,hb,rfl⟩:=hwi j hj;have h2:=hall e hem hb;have h3:=aaS e hem hb;rw[hL];have h4:e.on < listed.size:=by omega
   simpa [Array.getD,h4] using h2
  have st:=R6 ws 0 i wi hs hw;rw[Nat.zero_add] at st;refine wpOp_step ho λK hK=>st L V w hF qW Dz hC o ho K (λv w' hF'=>hK _ _ ⟨trivial,?_⟩);have hd:ds[i]?=some o.dst:=by rw[← t1];simp[ho]
  rw[← ha L V,Lu (i:=i) ds 0 a i (by omega) hd t2,ha];refine ih _ _ _ w' (by simpa using hsz) (λj=>?_) ?_ ?_ hF'
  ·by_cases e:j=i
   ·subst e;rw[sG];simp[Array.getD,show j < listed.size by omega]
   ·rw[qE e,hL j,getD_set_ne true (λh=>e h.symm)]
  ·intro j wj hj qF
   refine uF.2 λx hx=>?_
   by_cases e:x=i
   ·subst e;exact sG
   ·rw[qE e]
    by_cases e':j=i
    ·subst e';rw[hw] at hj;cases hj;exact uF.1 Dz x hx
    ·rw[qE e'] at qF;exact uF.1 (hC j wj hj qF) x hx
  ·have:=R8 qW ops.size
   rw[if_pos hlt] at this;omega
/-- The beginning: nothing is done. -/
theorem Sc {rid:Nat} (T:H9 ops ds ws) (hm:P.follows .mixedOrders=true) (hs:Dy P ops Q F A ws 0 ws)
  (h0:∀V,F (λi=>Nat.ble ds.length i) V w.drew)
  (he:∀V w,F (λ_=>true) V w->Q .normal (A (λ_=>true) V) w)
  (ha:∀L V,fK ds 0 L V a=A L V:=by(intro L V;conv=>lhs;dsimp only[fK,iI,nE,List.toList_toArray,K4,K5,List.drop_zero,List.drop_succ_cons,List.headD_cons])):Code.wp P (.region rid ops true) Q a w:=by
 have T':=T.out;simp only[Az,Bool.and_eq_true,beq_iff_eq] at T';have hn:ops.size=ds.length:=by rw[← T'.1];simp
 have hw:ws.length=ds.length:=T'.2.2.1;refine wp_region_held_drew (S:=λ_=>True) hm trivial λ_=>?_;have hL:∀i,Nat.ble ds.length i=(Array.replicate ops.size false).getD i true:=by
  intro i
  by_cases h:i < ops.size
  ·rw[show Nat.ble ds.length i=false by rw[Bool.eq_false_iff];intro h';have:=Nat.le_of_ble_eq_true h';omega];simp[Array.getD,h]
  ·rw[show Nat.ble ds.length i=true from Nat.ble_eq_true_of_le (by omega)];simp[Array.getD,h]
 have e:A (λi=>Nat.ble ds.length i) (λi=>nE a (((ds[i]?).bind id).getD 0))=a:=by
  rw[← ha];have:∀(l:List (Option Nat)) (k:Nat) (L:Nat->Bool) (V:Nat->Value),(∀j,k<=j->j < k+l.length->L j=false)->fK l k L V a=a:=by
   intro l
   induction l with
   | nil=>intro k L V _;rfl
   | cons o l ih =>
    intro k L V h;cases o with
    | none=>unfold fK;exact ih (k+1) L V λj h1 h2=>h j (by omega) (by simp;omega)
    | some d =>
     unfold fK;rw[h k (Nat.le_refl _) (by simp),cond_false,show iI a d (nE a d)=a by
      unfold iI nE;rw[List.headD_eq_head?_getD,List.head?_drop];rcases Nat.lt_or_ge d a.tmps.toList.length with hd | hd
      ·rw[bK hd,Option.getD_some,List.set_getElem_self]
      ·rw[List.set_eq_of_length_le hd]]
     exact ih (k+1) L V λj h1 h2=>h j (by omega) (by simp;omega)
  exact this ds 0 _ _ λj _ h2=>by rw[Bool.eq_false_iff];intro h';have:=Nat.le_of_ble_eq_true h';omega
 have:=aaR T ha hs he ops.size (Array.replicate ops.size false) (λi=>Nat.ble ds.length i) (λi=>nE a (((ds[i]?).bind id).getD 0)) w.drew (by simp) hL (λi wi h1 h2=>by
  have h3:=Nat.le_of_ble_eq_true h2;have h4:=(gs1 h1).1;omega) (by
  have:∀(L:Nat->Bool) n,uG L n<=n:=by
   intro L n
   induction n with
   | zero=>exact Nat.le_refl _
   | succ n ih=>unfold uG;cases L n <;> simp <;> omega
  exact this _ _) (h0 _)
 rwa [e] at this
/-- An operation, its state written out. -/
theorem oD {i:Nat} {wi:List Nat} {oi:Oper}
  (h:∀L V w,F L V w->L i=false->pz L wi->yJ ws L->∃(a:Act) (B:Value->Act),A L V=a/\(∀v,a.put oi.dst v=B v)/\∀K:Act->World->Prop,Shut (∀v w',F (iy L i) (jf V i v) w'->K (B v) w') ->
   if Region.wanted oi (yielded ops a.tmps)=true then Oper.wp P oi a w K Q else K (a.put oi.dst undef) w)
  (hi:ops[i]?=some oi:=by rfl):Lv P ops Q F A ws i wi:=by
 intro L V w hF hL hw hC o ho K hK;rw[hi] at ho;cases ho;obtain⟨a,B,rfl,hB,H⟩:=h L V w hF hL hw hC;exact H K λv w' hF'=>by rw[← hB v];exact hK.out v w' hF'
end
/- An executor over values whose addresses are names: what it answers holds of the machine's own run (aj2). -/
noncomputable section
/-- A choice, in one step. -/
def cd {α:Type} (c:Bool) (a b:α):α:=Bool.rec b a c
@[simp] theorem wF {α:Type} (a b:α):cd true a b=a:=rfl
@[simp] theorem uH {α:Type} (a b:α):cd false a b=b:=rfl
/-- Values; an address is the name of an object and a place in it. 'sc': a value of the machine's own. -/
inductive AV where
 | sc (v:Value)
 | ptr (i o:Nat)
 | sl (i o n c:Nat)
 | mp (i:Nat)
 | fn (f:Fn) (a c:List AV)
 | kE (t:Nat) (v:AV)
 | agg (l:List AV)
 | fC (l:List AV)
 | wG (i:Nat)
 | emp (i o d:Nat)
 | bad
/-- Tables by numbers. -/
inductive T (α:Type) where
 | e:T α
 | n (l:T α) (v:Option α) (r:T α):T α
def T.get {α:Type} (t:T α):Nat->Option α:=T.rec (λ_=>none) (λ_ v _ gl gr k=>cd (Nat.beq k 0) v (cd (Nat.beq (Nat.mod k 2) 1) (gl (Nat.div k 2)) (gr (Nat.pred (Nat.div k 2))))) t
def T.one {α:Type} (f:Nat):Nat->Option α->T α:=Nat.rec (λ_ _=>.e) (λ_ ih k x=>cd (Nat.beq k 0) (.n .e x .e) (cd (Nat.beq (Nat.mod k 2) 1) (.n (ih (Nat.div k 2) x) none .e) (.n .e none (ih (Nat.pred (Nat.div k 2)) x)))) f
def T.put {α:Type} (t:T α):Nat->Option α->T α:=T.rec (λk x=>T.one (Nat.succ k) k x) (λl v r pl pr k x=>cd (Nat.beq k 0) (.n l x r) (cd (Nat.beq (Nat.mod k 2) 1) (.n (pl (Nat.div k 2) x) v r) (.n l v (pr (Nat.pred (Nat.div k 2)) x)))) t
/-- What stands at a point: a cell, or (at place 0) what the object is: a row of cells (its type, cells an element, how many are known, whether there may be more), a map, a walk over one. -/
inductive O where
 | c (v:AV)
 | row (t e n:Nat) (op:Bool)
 | map (es:List (AV × AV × Nat)) (clk:Nat)
 | it (m since:Nat) (seen:List Nat) (last:Nat)
 | sp (lp:Bool)
/-- An object: its points, one behind the other. -/
abbrev Ol:=List (Option O)
def fZ (l:Ol):Nat->Option O:=List.rec (λ_=>none) (λx _ ih k=>Nat.rec x (λk _=>ih k) k) l
def Lx (v:Option O) (k:Nat):Ol:=Nat.rec [v] (λ_ r=>none :: r) k
def LA (l:Ol) (v:Option O):Nat->Ol:=List.rec (λk=>Lx v k) (λx t ih k=>Nat.rec (v :: t) (λk _=>x :: ih k) k) l
def AA (l:Ol):Nat->Ol:=List.rec (λ_=>[]) (λx t ih k=>Nat.rec (x :: t) (λk _=>ih k) k) l
def qX (x:Option O):Option AV:=match x with
 | some (.c v)=>some v
 | _=>none
def Ib (v:AV):Option (List AV)->Option (List AV)
 | some r=>some (v :: r)
 | none=>none
/-- The first k, all of them cells. -/
def takeC (l:Ol):Nat->Option (List AV):=List.rec (λk=>Nat.rec (some []) (λ_ _=>none) k) (λx _ ih k=>Nat.rec (some []) (λk _=>match qX x with | some v=>Ib v (ih k) | none=>none) k) l
def DC (x:Option O):Option Ol->Option Ol
 | some r=>some (x :: r)
 | none=>none
abbrev Ob:=T Ol
def Ob.at (s:Ob) (i:Nat):Ol:=match T.get s i with | some l=>l | none=>[]
def Ob.get (s:Ob) (i o:Nat):Option O:=fZ (s.at i) o
def Ob.put (s:Ob) (i o:Nat) (v:Option O):Ob:=T.put s i (some (LA (s.at i) v o))
/-- aj4 that were looked at. -/
inductive Lg where
 | e
 | p (i o:Nat)
 | rg (i o k:Nat)
 | ob (i:Nat)
 | a (x y:Lg)
def Lg.app:Lg->Lg->Lg
 | .e,y=>y
 | x,.e=>x
 | x,y=>.a x y
inductive Rs (α:Type) where
 | ok (a:α) (s:Ob) (n:Nat) (r w:Lg)
 | no (e:List Nat)
def M (α:Type):Type:=Ob->Nat->Rs α
def M.pure {α:Type} (a:α):M α:=λs n=>.ok a s n .e .e
def M.bind {α β:Type} (m:M α) (f:α->M β):M β:=λs n=>Rs.rec (λa s n r w=>Rs.rec (λb s n r' w'=>.ok b s n (r.app r') (w.app w')) (λe=>.no e) (f a s n)) (λe=>.no e) (m s n)
instance:Monad M where
 pure:=M.pure
 bind:=M.bind
def M.no {α:Type} (e:Nat):M α:=λ_ _=>.no [e]
def M.tag {α:Type} (e:Nat) (m:M α):M α:=λs n=>match m s n with | .no l=>.no (e :: l) | r=>r
def M.opt {α:Type} (e:Nat) (o:Option α):M α:=Option.rec (M.no e) (λa=>M.pure a) o
def M.get (i o:Nat):M O:=λs n=>match Ob.get s i o with | some v=>cd (Nat.blt i n) (.ok v s n (.p i o) .e) (.no [i,o,3]) | none=>.no [i,o,1]
def M.put (i o:Nat) (v:Option O):M Unit:=λs n=>cd (and (Nat.blt i n) (and (Nat.blt i 16000000) (Nat.blt o 16000000))) (.ok () (Ob.put s i o v) n .e (.p i o)) (.no [i,o,2])
/-- Of what was looked at only what is not one's own. -/
def Lg.cut (n:Nat):Lg->Lg
 | .e=>.e
 | .p i o=>cd (Nat.blt i n) (.p i o) .e
 | .rg i o k=>cd (Nat.blt i n) (.rg i o k) .e
 | .ob i=>cd (Nat.blt i n) (.ob i) .e
 | .a x y=>Lg.app (x.cut n) (y.cut n)
def M.own {α:Type} (m:M α):M α:=λs n=>match m s n with
 | .ok a s n' r w=>.ok a s n' (r.cut n) (w.cut n)
 | .no e=>.no e
def M.fresh:M Nat:=λs n=>.ok n s (Nat.succ n) .e .e
/-- Values without an address. -/
def DI:Value->Option AV
 | .agg _ | .tuple _ | .iface .. | .func .. | .pointer (some _) | .slice (some _) _ _ | .map (some _) | .chan (some _)=>none
 | v=>some (.sc v)
def uI:List Value->Option (List AV)
 | []=>some []
 | v :: l=>match DI v,uI l with | some v,some l=>some (v :: l) | _,_=>none
def wH:Value->Option AV
 | .agg cs=>(uI cs.toList).map .agg
 | .tuple cs=>(uI cs.toList).map .fC
 | v=>DI v
def uJ:List AV->Option (List Value)
 | []=>some []
 | .sc v :: l=>match uJ l with | some l=>some (v :: l) | none=>none
 | _=>none
def AV.sv:AV->Option Value
 | .sc v=>some v
 | .agg l=>(uJ l).map λl=>.agg l.toArray
 | .kE t v=>v.sv.map (.iface t)
 | _=>none
/-- What one cell holds. -/
def AV.one:AV->Bool
 | .agg _=>false
 | .fC _=>false
 | .sc (.agg _)=>false
 | .sc (.tuple _)=>false
 | _=>true
def AV.cells:AV->List AV
 | .agg l=>l
 | .sc (.agg cs)=>cs.toList.map .sc
 | v=>[v]
/-- What a Sem answers that asks for the program alone. -/
def pr {α:Type} (P:Program):Sem α->Option α
 | .pure a=>some a
 | .program k=>pr P (k P)
 | _=>none
section
variable (P : Program)
def iA (t:Nat):M Nat:=M.opt 10 ((P.info? t).map (·.size))
def gY (t:Nat):M TypeDesc:=M.opt 11 (P.underlying t)
def DJ (t:Nat):M Bool:=do match ← gY P t with
 | .struct _ | .array _ _=>pure true
 | _=>pure false
def sI (t:Nat):M (List AV):=M.opt 12 ((P.info? t).bind λi=>i.zero.bind λv=>uI v.cells.toList)
/-- k cells, from place o on. -/
def uK (i o k:Nat):M (List AV):=λs n=>match takeC (AA (s.at i) (Nat.succ o)) k with
 | some l=>cd (Nat.blt i n) (.ok l s n (.rg i (Nat.succ o) k) .e) (.no [i,3])
 | none=>.no [i,o,k,13]
/-- Cells that lie there are aj5. -/
def uL:List AV->Ol->Option Ol
 | [],l=>some l
 | v :: vs,x :: l=>cd v.one (match qX x with | some _=>DC (some (.c v)) (uL vs l) | none=>none) none
 | _ :: _,[]=>none
def wJ (vs:List AV) (l:Ol):Nat->Option Ol:=List.rec (λk=>Nat.rec (uL vs []) (λ_ _=>none) k) (λx t ih k=>Nat.rec (uL vs (x :: t)) (λk _=>DC x (ih k)) k) l
def yK (i o:Nat) (vs:List AV):M Unit:=λs n=>match wJ vs (s.at i) (Nat.succ o) with
 | some l=>cd (and (Nat.blt i n) (Nat.blt i 16000000)) (.ok () (T.put s i (some l)) n (.rg i (Nat.succ o) vs.length) (.rg i (Nat.succ o) vs.length)) (.no [i,2])
 | none=>.no [i,o,14]
def AJ (i o:Nat):List AV->M Unit
 | []=>M.pure ()
 | v :: vs=>yK i o (v :: vs)
def wK:List AV->Option Ol
 | []=>some []
 | v :: vs=>cd v.one (DC (some (.c v)) (wK vs)) none
/-- A whole object. -/
def DK (i:Nat) (h:O) (vs:List AV):M Unit:=λs n=>match wK vs with
 | some l=>cd (and (Nat.blt i n) (Nat.blt i 16000000)) (.ok () (T.put s i (some (some h :: l))) n .e (.ob i)) (.no [i,2])
 | none=>.no [i,14]
def rowAt (i:Nat):M (Nat × Nat × Nat × Bool):=do match ← M.get i 0 with
 | .row t e n op=>pure (t,e,n,op)
 | _=>M.no 15
/-- A new row of cells. -/
def pE (t e:Nat) (l:List AV) (op:Bool):M Nat:=do
 let i ← M.fresh
 DK i (.row t e l.length op) l
 pure i
def DL (t i o:Nat):M AV:=do
 let _ ← rowAt i
 cd (← DJ P t) (do
  let l ← uK i o (← iA P t)
  pure (.agg l)) (do
  match ← M.get i (Nat.succ o) with
  | .c v=>pure v
  | _=>M.no 16)
def DN (t:Nat) (l:List AV) (o:Nat):M AV:=do
 cd (← DJ P t) (do
  let k ← iA P t
  pure (.agg ((l.drop o).take k))) (M.opt 17 (l.drop o).head?)
def wL:AV->M (Nat × Nat)
 | .ptr i o=>pure (i,o)
 | _=>M.no 18
def uM:AV->M Int
 | .sc (.int _ n)=>pure n
 | _=>M.no 19
def setAt (cs:List AV):Nat->List AV->List AV
 | _,[]=>cs
 | o,v :: l=>setAt (cs.set o v) (Nat.succ o) l
def yL (place:Nat->Option (Nat × Nat)):List AV->List (Nat × AV)->Option (List AV)
 | cells,[]=>some cells
 | cells,(i,v) :: rest=>match place i with
  | none=>none
  | some (off,size)=>cd (and (Nat.beq v.cells.length size) (Nat.ble (off+size) cells.length)) (yL place (setAt cells off v.cells) rest) none
def yM (z:List AV):Nat->List AV
 | 0=>[]
 | k+1=>z ++ yM z k
def DT (lo:Int) (n:Nat):M Nat:=match lo with
 | .ofNat k=>cd (Nat.ble k n) (pure k) (M.no 20)
 | _=>M.no 21
def bnd (d n:Nat):Option AV->M Nat
 | none=>pure d
 | some v=>do DT (← uM v) n
def wM:AV->M Nat
 | .sl _ _ n _=>pure n
 | .emp _ _ _=>pure 0
 | .sc (.slice none n _)=>pure n
 | .sc (.string s)=>pure s.size
 | _=>M.no 22
def wN (s:ByteArray):List AV:=s.data.toList.map λb=>.sc (.int .u8 b.toNat)
/-- The first n elements' cells. -/
def AL (e n:Nat):AV->M (List AV)
 | .sl i o _ _=>do
  let _ ← rowAt i
  uK i o (Nat.mul n e)
 | .emp _ _ _=>cd (Nat.beq n 0) (pure []) (M.no 23)
 | .sc (.slice none _ _)=>pure []
 | .sc (.string s)=>pure (wN s)
 | _=>M.no 23
def kU (t:Nat):M Nat:=do match ← gY P t with
 | .slice e=>pure e
 | _=>M.no 24
def pF (t:Nat):M (Nat × Nat):=do match ← gY P t with
 | .map k e=>pure (k,e)
 | _=>M.no 42
def pG (ts:List Nat):M Nat:=M.opt 141 ts.head?
def yN (t:Nat):M (Array Field):=do match ← gY P t with
 | .struct f=>pure f
 | _=>M.no 74
def Ic (k b:Nat):Bool:=Nat.ble (Nat.mul k (Nat.succ b)) 1000000000
def DU:List Nat->M Unit
 | []=>pure ()
 | t :: _=>do match ← gY P t with
  | .slice _=>pure ()
  | .string=>pure ()
  | _=>M.no 25
/-- A row in place of another that nobody looks at any more, or beside it. -/
def grow (el e i o n c m:Nat) (new:List AV):M AV:=do
 let r ← rowAt i
 let old ← uK i o (Nat.mul n e)
 cd r.2.2.2 (cd (and (Nat.beq o 0) (and (Nat.beq r.2.2.1 (Nat.mul c e)) (and (Nat.beq r.1 el) (Nat.beq e r.2.1)))) (do
  M.put i 0 none
  let j ← pE el e (old ++ new) true
  pure (.sl j 0 (n+m) (n+m))) (M.no 29)) (do
  let j ← pE el e (old ++ new) true
  pure (.sl j 0 (n+m) (n+m)))
/-- 'append': behind a row that may be greater than known nobody looks at the elder one any more. -/
def DW (ts:List Nat) (s x:AV):M AV:=do
 let el ← kU P (← pG ts)
 let e ← iA P el
 let jU ← M.opt 25 ((P.info? el).map (·.bytes))
 let _ ← DU P (ts.drop 1)
 let z ← sI P el
 let m ← wM x
 let new ← AL e m x
 cd (and (Nat.beq new.length (Nat.mul m e)) (Nat.beq z.length e)) (match s with
 | .sc (.slice none n c) =>
  cd (Nat.beq m 0) (cd (Nat.ble n c) (pure (.sc (.slice none n c))) (M.no 27)) (cd (and (Nat.beq c 0) (and (Nat.beq n 0) (Ic m jU))) (do
   let i ← pE el e new true
   pure (.sl i 0 m m)) (M.no 28))
 | .sl i o n c =>
  cd (Nat.ble (n+m) c) (do
   let _ ← rowAt i
   AJ i (o+n * e) new
   pure (.sl i o (n+m) c)) (cd (Ic (n+m) jU) (grow el e i o n c m new) (M.no 30))
 | _=>M.no 31) (M.no 26)
def AO (d:TypeDesc) (a b:AV):M Bool:=match a.sv with
 | some x=>(match b.sv with
  | some y=>M.opt 32 (Instr.sameNow d x y)
  | none=>M.no 33)
 | none=>M.no 33
def DX (d:TypeDesc) (k:AV):List (AV × AV × Nat)->Nat->M (Option (Nat × AV))
 | [],_=>pure none
 | (k',v,_) :: l,i=>do cd (← AO d k k') (pure (some (i,v))) (DX d k l (Nat.succ i))
/-- Keys that are made of parts. -/
def Ie (t:Nat) (k:Value):List (AV × AV × Nat)->Nat->M (Option (Nat × AV))
 | [],_=>pure none
 | (k',v,_) :: l,i=>do
  let u ← M.opt 47 k'.sv
  let q ← M.opt 32 (pr P (Op.equal t k u))
  cd q (cd (Instr.sameBits 10000 u k) (pure (some (i,v))) (M.no 33)) (Ie t k l (Nat.succ i))
def LC:TypeDesc->Bool
 | .int _=>true
 | .string=>true
 | .bool=>true
 | _=>false
def LD:TypeDesc->Bool
 | .struct _=>true
 | .array _ _=>true
 | _=>false
def AQ (b:Bool) (t:Nat) (k:AV) (es:List (AV × AV × Nat)):M (Option (Nat × AV)):=do
 let d ← gY P t
 cd (LC d) (DX d k es 0) (cd (LD d) (do
  let u ← M.opt 47 k.sv
  let _ ← M.opt 149 (pr P (Instr.checkKey b 10000 t u))
  Ie P t u es 0) (M.no 140))
def uN (i:Nat):M (List (AV × AV × Nat) × Nat):=do match ← M.get i 0 with
 | .map es c=>pure (es,c)
 | _=>M.no 34
def Ig:TypeDesc->AV->AV->Option Bool
 | .pointer _,.ptr _ _,.sc (.pointer none) | .pointer _,.sc (.pointer none),.ptr _ _=>some false
 | .slice _,.sl _ _ _ _,.sc (.slice none _ _) | .slice _,.sc (.slice none _ _),.sl _ _ _ _=>some false
 | .map _ _,.mp _,.sc (.map none) | .map _ _,.sc (.map none),.mp _=>some false
 | .func _ _ _,.fn _ _ _,.sc .nilFunc | .func _ _ _,.sc .nilFunc,.fn _ _ _=>some false
 | .interface _,.kE _ _,.sc .nilIface | .interface _,.sc .nilIface,.kE _ _=>some false
 | _,_,_=>none
def DY (ts:List Nat):AV->M AV
 | .sl _ _ n _=>do
  let _ ← kU P (← pG ts)
  pure (.sc (goInt n))
 | .emp _ _ _=>do
  let _ ← kU P (← pG ts)
  pure (.sc (goInt (0:Nat)))
 | .mp i=>do
  let _ ← pF P (← pG ts)
  let r ← uN i
  pure (.sc (goInt r.1.length))
 | x=>match x.sv with
  | some v=>M.opt 35 ((pr P (Builtin.len_ ts.toArray 0 #[v])).bind wH)
  | none=>do match ← gY P (← pG ts) with
   | .array n _=>pure (.sc (goInt n))
   | _=>M.no 36
def Ih (d:AV) (new:List AV):M Unit:=match d with
 | .sl i o _ _=>do
  let _ ← rowAt i
  AJ i o new
 | .emp _ _ _=>match new with
  | []=>pure ()
  | _=>M.no 39
 | .sc (.slice none _ _)=>pure ()
 | _=>M.no 39
def isStr:AV->Bool
 | .sc (.string _)=>true
 | _=>false
def Sd (e:Nat) (d x:AV) (n k:Nat):M AV:=cd (or (not (isStr x)) (Nat.beq k n)) (do
 let new ← AL e k x
 Ih d new
 pure (.sc (goInt k))) (M.no 38)
def Ii (ts:List Nat) (d x:AV):M AV:=do
 let el ← kU P (← pG ts)
 let e ← iA P el
 let m ← wM d
 let n ← wM x
 Sd e d x n (cd (Nat.ble n m) n m)
def DZ (ts:List Nat):AV->M AV
 | .sl i o n _=>do
  let el ← kU P (← pG ts)
  cd (Nat.beq n 0) (pure (.fC [])) (do
   let z ← sI P el
   let _ ← rowAt i
   AJ i o (yM z n)
   pure (.fC []))
 | .sc (.slice none _ _)=>do
  let _ ← kU P (← pG ts)
  pure (.fC [])
 | _=>M.no 41
def Ij (ts:List Nat) (k:AV):AV->M AV
 | .mp i=>do
  let kt ← pF P (← pG ts)
  let q ← uN i
  let r ← AQ P q.1.isEmpty kt.1 k q.1
  M.put i 0 (some (.map (match r with | some (j,_)=>q.1.eraseIdx j | none=>q.1) q.2))
  pure (.fC [])
 | _=>M.no 43
def AR (b:Bool) (xs:List AV):M AV:=match uJ xs with
 | some l=>M.opt 44 ((pr P (cd b (Builtin.max_ #[] 0 l.toArray) (Builtin.min_ #[] 0 l.toArray))).bind wH)
 | none=>M.no 45
def LG (b:Builtin) (ts:List Nat) (args:List AV):M AV:=match b with
 | .len=>(match args with | [x]=>DY P ts x | _=>M.no 46)
 | .append=>(match args with | [s,x]=>DW P ts s x | _=>M.no 46)
 | .copy=>(match args with | [s,x]=>Ii P ts s x | _=>M.no 46)
 | .clear=>(match args with | [x]=>DZ P ts x | _=>M.no 46)
 | .delete=>(match args with | [m,k]=>Ij P ts k m | _=>M.no 46)
 | .max=>AR P true args
 | .min=>AR P false args
 | _=>M.no 46
def nG {α β:Type} (f:α->M β):List α->M (List β)
 | []=>pure []
 | a :: l=>do
  let b ← f a
  let r ← nG f l
  pure (b :: r)
def AU (x:AV):M Value:=M.opt 47 x.sv
def iY (s:Sem Value):M AV:=M.opt 48 ((pr P s).bind wH)
def Ea (a b:M AV):AV->M AV
 | .sc (.bool true)=>a
 | .sc (.bool false)=>b
 | _=>M.no 50
def yO (t:Nat) (l:List AV):M AV:=do
 let i ← pE t (← iA P t) l false
 pure (.ptr i 0)
def AX (ρ:Operand->M AV) (ps:List (Nat × Operand)):M (List (Nat × AV)):=nG (λx=>do
 let v ← ρ x.2
 pure (x.1,v)) ps
def Eb (fs:List Field):M (List (Nat × Nat)):=nG (λf=>do
 let k ← iA P f.type
 pure (f.offset,k)) fs
def AY (t:Nat) (l:List (Nat × AV)):M AV:=do
 let z ← sI P t
 match ← gY P t with
 | .struct fs=>do
  let pl ← Eb P fs.toList
  let c ← M.opt 51 (yL (λi=>(pl.drop i).head?) z l)
  pure (.agg c)
 | .array _ el=>do
  let e ← iA P el
  let c ← M.opt 52 (yL (λi=>some (Nat.mul i e,e)) z l)
  pure (.agg c)
 | _=>M.no 53
def LH (el k e:Nat):M (List AV):=cd (Nat.beq (Nat.mul k e) 0) (pure []) (do
 let z ← sI P el
 cd (Nat.beq z.length e) (pure (yM z k)) (M.no 150))
def AZ (t len:Nat) (l:List (Nat × AV)):M AV:=do
 let el ← kU P t
 let e ← iA P el
 cd (Nat.ble (Nat.mul len e) (2 ^ 24)) (do
  let z ← LH P el len e
  let c ← M.opt 55 (yL (λi=>some (Nat.mul i e,e)) z l)
  let i ← pE el e c false
  pure (.sl i 0 len len)) (M.no 56)
def yP (t:Nat) (x:AV):M AV:=do
 let p ← wL x
 DL P t p.1 p.2
def A8 (t:Nat) (x v:AV):M AV:=do
 let p ← wL x
 let k ← iA P t
 cd (Nat.beq v.cells.length k) (do
  let _ ← rowAt p.1
  AJ p.1 p.2 v.cells
  pure (.fC [])) (M.no 57)
def qY (t:Nat):Bool:=match P.underlying t with
 | some (.pointer _)=>true
 | _=>false
def aaT:AV->Bool
 | .ptr _ _=>true
 | _=>false
def Ec:AV->M AV
 | .ptr i o=>pure (.ptr i o)
 | .fn (.func f) a c=>pure (.fn (.func f) a c)
 | .fn (.method name) [.kE t v] c=>do
  let i ← M.opt 102 (P.info? t)
  let m ← M.opt 103 (i.methods.find? (·.name == name))
  let _ ← gY P t
  match m.func,m.path.toList with
  | some (_,b),[]=>cd (or b (or (not (qY P t)) (aaT v))) (pure (.fn (.method name) [.kE t v] c)) (M.no 104)
  | _,_=>M.no 106
 | .kE t v=>pure (.kE t v)
 | _=>M.no 58
def A9 (op:BinOp) (t:Nat) (a b:AV):M AV:=do match Ig (← gY P t) a b with
 | none=>M.no 59
 | some r=>match op with
  | .eql=>pure (.sc (.bool r))
  | .neq=>pure (.sc (.bool (not r)))
  | _=>M.no 59
def uO (op:BinOp) (t:Nat) (x y:Operand) (a b:AV):M AV:=match a.sv with
 | some u=>(match b.sv with
  | some v=>iY P (do eqGuard op t x y u v;binOp op t u v)
  | none=>A9 P op t a b)
 | none=>A9 P op t a b
def Ba (k:IntKind):Nat:=IntKind.rec 0 1 2 3 4 5 6 7 k
def Ik (op:BinOp) (k:IntKind) (a b:Int) (z:M AV):M AV:=match op with
 | .add=>iY P (Op.intArith .add k a b)
 | .sub=>iY P (Op.intArith .sub k a b)
 | .mul=>iY P (Op.intArith .mul k a b)
 | .quo=>iY P (Op.intDiv .quo k a b)
 | .rem=>iY P (Op.intDiv .rem k a b)
 | .eql=>iY P (Op.intCmp .eql a b)
 | .neq=>iY P (Op.intCmp .neq a b)
 | .lss=>iY P (Op.intCmp .lss a b)
 | .leq=>iY P (Op.intCmp .leq a b)
 | .gtr=>iY P (Op.intCmp .gtr a b)
 | .geq=>iY P (Op.intCmp .geq a b)
 | _=>z
def Bb:List UInt8->List UInt8->Bool
 | [],[]=>true
 | a :: x,b :: y=>and (Nat.beq a.toNat b.toNat) (Bb x y)
 | _,_=>false
def LJ (op:BinOp) (a b:ByteArray):M AV:=match op with
 | .eql=>pure (.sc (.bool (Bb a.data.toList b.data.toList)))
 | .neq=>pure (.sc (.bool (not (Bb a.data.toList b.data.toList))))
 | _=>iY P (Op.stringOp op a b)
def Il (op:BinOp) (z:M AV) (u v:Value):M AV:=match u with
 | .int k a=>(match v with
  | .int k' b=>cd (Nat.beq (Ba k) (Ba k')) (Ik P op k a b z) z
  | _=>z)
 | .string a=>(match v with
  | .string b=>LJ P op a b
  | _=>z)
 | _=>z
def Bc (op:BinOp) (t:Nat) (x y:Operand) (a b:AV):M AV:=match a with
 | .sc u=>(match b with
  | .sc v=>Il P op (uO P op t x y a b) u v
  | _=>uO P op t x y a b)
 | _=>uO P op t x y a b
def Bd (op:UnOp) (x:AV):M AV:=do
 let u ← AU x
 iY P (Op.unary op u)
def strOf:List Value->ByteArray->Option ByteArray
 | [],s=>some s
 | .int .u8 n :: l,s=>strOf l (s.push (UInt8.ofNat n.toNat))
 | _,_=>none
def Ed (src dst i o n:Nat):M AV:=do
 match ← gY P (← kU P src) with
 | .int .u8=>(do
 match ← gY P dst with
 | .string=>do
  let _ ← rowAt i
  let l ← uK i o n
  let c ← M.opt 61 (uJ l)
  let b ← M.opt 60 (strOf c .empty)
  pure (.sc (.string b))
 | _=>M.no 62)
 | _=>M.no 62
def Ee (el:Nat) (s:ByteArray):M AV:=do match ← gY P el with
 | .int .u8=>do
  let i ← pE el 1 (wN s) true
  pure (.sl i 0 s.size s.size)
 | _=>M.no 63
def Bf (src dst:Nat):AV->M AV
 | .sl i o n _=>Ed P src dst i o n
 | x=>do
  let u ← AU x
  match u with
  | .int _ z=>(do
   let _ ← gY P src
   match ← gY P dst with
   | .int k=>iY P (Conv.intToInt k z)
   | _=>iY P (convert src dst u))
  | .string s=>(do match ← gY P dst with
   | .slice el=>(do match ← gY P src with
    | .string=>do cd (Nat.beq (← iA P el) 1) (Ee P el s) (M.no 63)
    | _=>M.no 63)
   | _=>iY P (convert src dst u))
  | _=>iY P (convert src dst u)
def Bg (t:Nat) (x:AV):M AV:=do match ← gY P t with
 | .interface _=>M.no 64
 | _=>pure (.kE t x)
def Bh (t:Nat) (r:Option AV):M AV:=do
 (match r with
  | none=>pure ()
  | some h=>do
   let _ ← pF P t
   let _ ← uM h
   pure ())
 let i ← M.fresh
 M.put i 0 (some (.map [] 0))
 pure (.mp i)
def sJ:AV->M Nat
 | .sc (.int _ (.ofNat k))=>pure k
 | _=>M.no 80
def Bj (t:Nat) (l c:AV):M AV:=do
 let el ← kU P t
 let e ← iA P el
 let jU ← M.opt 67 ((P.info? el).map (·.bytes))
 let l ← sJ l
 let c ← sJ c
 cd (and (Nat.ble l c) (and (Nat.ble c 1000000) (Nat.ble (Nat.mul jU c) (2 ^ 40)))) (do
  let z ← sI P el
  cd (Nat.beq z.length e) (do
   let i ← pE el e (yM z c) false
   pure (.sl i 0 l c)) (M.no 150)) (M.no 68)
def Bl (t:Nat) (lo hi:Option AV) (x:AV):M AV:=match x with
 | .sl i o n c=>do
  let el ← kU P t
  let e ← iA P el
  let h ← bnd n c hi
  let l ← bnd 0 h lo
  cd (or (Nat.blt l c) (Nat.beq l 0)) (pure (.sl i (o+l * e) (h - l) (c - l))) (cd (and (Nat.beq l c) (Nat.beq h l)) (pure (.emp i o (l * e))) (M.no 71))
 | .sc (.slice none n c)=>do
  let _ ← iA P (← kU P t)
  let h ← bnd n c hi
  let l ← bnd 0 h lo
  pure (.sc (.slice none (h - l) (c - l)))
 | .sc (.string s)=>do match ← gY P t with
  | .string=>do
   let h ← bnd s.size s.size hi
   let l ← bnd 0 h lo
   pure (.sc (.string (s.extract l h)))
  | _=>M.no 70
 | .ptr i o=>do match ← gY P t with
  | .array k el=>do
   let e ← iA P el
   let h ← bnd k k hi
   let l ← bnd 0 h lo
   let r ← rowAt i
   cd (and (not r.2.2.2) (Nat.blt l k)) (pure (.sl i (o+l * e) (h - l) (k - l))) (M.no 72)
  | _=>M.no 73
 | _=>M.no 73
/-- A cut with three places: that it goes through is all that is kept. -/
def Bn (t:Nat) (lo:Option AV) (hi mx x:AV):M AV:=match x with
 | .sl _ _ _ c=>do
  let _ ← iA P (← kU P t)
  let m ← DT (← uM mx) c
  let h ← DT (← uM hi) m
  let _ ← bnd 0 h lo
  pure .bad
 | _=>M.no 144
def Bo (t f:Nat) (x:AV):M AV:=do
 let fs ← yN P t
 let fl ← M.opt 75 fs[f]?
 let p ← wL x
 let k ← iA P fl.type
 cd (Nat.beq k 0) (M.no 76) (pure (.ptr p.1 (p.2+fl.offset)))
def Ef (t f:Nat):AV->M AV
 | .agg l=>do
  let fs ← yN P t
  let fl ← M.opt 78 fs[f]?
  DN P fl.type l fl.offset
 | _=>M.no 79
def Eh (t:Nat) (ix:AV):AV->M AV
 | .sl i o n _=>do
  let el ← kU P t
  let k ← sJ ix
  let e ← iA P el
  cd (Nat.blt k n) (pure (.ptr i (o+k * e))) (M.no 81)
 | .ptr i o=>do
  let k ← sJ ix
  match ← gY P t with
  | .array n el=>do
   let e ← iA P el
   cd (Nat.blt k n) (pure (.ptr i (o+k * e))) (M.no 82)
  | _=>M.no 83
 | _=>M.no 83
def Bp (t:Nat) (ix:AV):AV->M AV
 | .agg l=>do
  let k ← sJ ix
  match ← gY P t with
  | .array n el=>do
   let e ← iA P el
   cd (Nat.blt k n) (DN P el l (Nat.mul k e)) (M.no 85)
  | _=>M.no 84
 | x=>do
  let u ← AU x
  let v ← AU ix
  iY P (Instr.index t u v)
def zeroV (t:Nat):M AV:=M.opt 86 ((P.info? t).bind λi=>i.zero.bind wH)
def yQ (ok:Bool) (v:AV) (b:Bool):AV:=cd ok (.fC [v,.sc (.bool b)]) v
def Ei:AV->M (List (AV × AV × Nat))
 | .mp i=>do
  let r ← uN i
  pure r.1
 | .sc (.map none)=>pure []
 | _=>M.no 87
def Bq (t:Nat) (k:AV) (ok:Bool) (x:AV):M AV:=do
 let kt ← pF P t
 let es ← Ei x
 let r ← AQ P es.isEmpty kt.1 k es
 match r with
 | some (_,v)=>pure (yQ ok v true)
 | none=>do
  let z ← zeroV P kt.2
  pure (yQ ok z false)
def Br (t:Nat) (k v:AV):AV->M AV
 | .mp i=>do
  let kt ← pF P t
  let r ← uN i
  let f ← AQ P false kt.1 k r.1
  M.put i 0 (some (match f with | some (j,_)=>.map (r.1.modify j λe=>(k,v,e.2.2)) r.2 | none=>.map (r.1 ++ [(k,v,r.2)]) (Nat.succ r.2)))
  pure (.fC [])
 | _=>M.no 89
def Ej (t:Nat):AV->M AV
 | .mp m=>do
  let _ ← pF P t
  let r ← uN m
  let i ← M.fresh
  M.put i 0 (some (.it m r.2 [] r.2))
  pure (.ptr i 0)
 | _=>M.no 91
def El (i:Nat):M (Nat × Nat × List Nat × Nat):=do match ← M.get i 0 with
 | .it m a b c=>pure (m,a,b,c)
 | _=>M.no 92
def LK (i:Nat) (t:Nat × Nat × List Nat × Nat) (c:Nat):List (AV × AV × Nat)->M AV
 | []=>pure (.fC [.sc (.bool false)])
 | [(
  k,v,b)]=>cd (List.elem b t.2.2.1) (cd (Nat.blt b t.2.2.2) (pure (.fC [.sc (.bool false)])) (M.no 93)) (cd (and (Nat.blt b t.2.1) (List.isEmpty t.2.2.1)) (do
  M.put i 0 (some (.it t.1 t.2.1 [b] c))
  pure (.fC [.sc (.bool true),k,v])) (M.no 93))
 | _=>M.no 94
def Em (x:AV):M AV:=do
 let p ← wL x
 cd (Nat.beq p.2 0) (do
  let t ← El p.1
  let r ← uN t.1
  LK p.1 t r.2 r.1) (M.no 148)
def Eo (x:AV):M AV:=do
 let p ← wL x
 let t ← El p.1
 let r ← uN t.1
 let b ← M.opt 145 t.2.2.1.getLast?
 let e ← M.opt 146 (r.1.find? λe=>Nat.beq e.2.2 b)
 cd (and (Nat.beq p.2 0) (Nat.beq r.2 t.2.2.2)) (pure (.fC [e.1,e.2.1])) (M.no 147)
def Ep (t:Nat) (ok:Bool):AV->M AV
 | .kE d v=>cd (Nat.beq d t) (pure (yQ ok v true)) (cd ok (do
  let z ← zeroV P t
  pure (yQ true z false)) (M.no 96))
 | .sc .nilIface=>cd ok (do
  let z ← zeroV P t
  pure (yQ true z false)) (M.no 97)
 | _=>M.no 98
def Er (t:Nat) (ok:Bool) (x:AV):M AV:=do
 match ← gY P t with
 | .interface _=>M.no 95
 | _=>Ep P t ok x
def Es (k:Nat):AV->M AV
 | .fC l=>M.opt 99 l[k]?
 | _=>M.no 100
def Bt (call:Nat->List AV->M AV) (args:List AV):AV->M AV
 | .fn (.func g) a c=>call g (a ++ args ++ c)
 | _=>M.no 101
def Im (call:Nat->List AV->M AV) (name:String) (args:List AV):AV->M AV
 | .kE t v=>do
  let i ← M.opt 102 (P.info? t)
  let m ← M.opt 103 (i.methods.find? (·.name == name))
  let _ ← gY P t
  match m.func,m.path.toList with
  | some (f,b),[]=>cd (Bool.xor b (qY P t)) (M.no 104) (call f (v :: args))
  | _,_=>M.no 106
 | _=>M.no 107
def sK (ρ:Operand->M AV):Option Operand->M (Option AV)
 | none=>pure none
 | some x=>do
  let v ← ρ x
  pure (some v)
section
variable (ρ : Operand -> M AV)
def Sg (c a b:Operand):M AV:=M.bind (ρ c) λv=>Ea (ρ a) (ρ b) v
def Io (t:Nat):M AV:=do yO P t (← sI P t)
def Si (t:Nat) (x:Operand):M AV:=do yO P t (← ρ x).cells
def Sj (t:Nat) (ps:Array (Nat × Operand)):M AV:=do AY P t (← AX ρ ps.toList)
def Sk (t n:Nat) (ps:Array (Nat × Operand)):M AV:=do AZ P t n (← AX ρ ps.toList)
def Sl (t:Nat) (x:Operand):M AV:=M.bind (ρ x) λv=>yP P t v
def Sm (t:Nat) (x y:Operand):M AV:=M.bind (ρ x) λu=>M.bind (ρ y) λv=>A8 P t u v
def Sn (x:Operand):M AV:=do Ec P (← ρ x)
def Sq (op:BinOp) (t:Nat) (x y:Operand):M AV:=M.bind (ρ x) λu=>M.bind (ρ y) λv=>Bc P op t x y u v
def Sr (op:UnOp) (x:Operand):M AV:=do Bd P op (← ρ x)
def Sv (a b:Nat) (x:Operand):M AV:=do Bf P a b (← ρ x)
def Sw (t:Nat) (x:Operand):M AV:=do Bg P t (← ρ x)
def Sy (f:Fn) (a c:Array Operand):M AV:=do
 let a ← nG ρ a.toList
 let c ← nG ρ c.toList
 pure (.fn f a c)
def Sz (t:Nat) (r:Option Operand):M AV:=do Bh P t (← sK ρ r)
def SA (t:Nat) (l c:Operand):M AV:=do Bj P t (← ρ l) (← ρ c)
def SB (t:Nat) (x:Operand) (lo hi:Option Operand):M AV:=do Bl P t (← sK ρ lo) (← sK ρ hi) (← ρ x)
def LM (t:Nat) (x:Operand) (lo:Option Operand):Option Operand->Option Operand->M AV
 | some hi,some mx=>do Bn P t (← sK ρ lo) (← ρ hi) (← ρ mx) (← ρ x)
 | _,_=>M.no 108
def SC (t:Nat) (x:Operand) (f:Nat):M AV:=M.bind (ρ x) λv=>Bo P t f v
def SE (t:Nat) (x:Operand) (f:Nat):M AV:=do Ef P t f (← ρ x)
def SF (t:Nat) (x ix:Operand):M AV:=M.bind (ρ ix) λu=>M.bind (ρ x) λv=>Eh P t u v
def SG (t:Nat) (x ix:Operand):M AV:=do Bp P t (← ρ ix) (← ρ x)
def SH (t:Nat) (x ix:Operand) (ok:Bool):M AV:=do Bq P t (← ρ ix) ok (← ρ x)
def LP (t:Nat) (m k v:Operand):M AV:=do Br P t (← ρ k) (← ρ v) (← ρ m)
def SI (t:Nat) (x:Operand):M AV:=do Ej P t (← ρ x)
def SK (x:Operand) (b:Bool):M AV:=cd b (M.no 108) (do Em (← ρ x))
def SL (x:Operand):M AV:=do Eo (← ρ x)
def SN (x:Operand) (t:Nat) (ok:Bool):M AV:=do Er P t ok (← ρ x)
def SQ (x:Operand) (k:Nat):M AV:=do Es k (← ρ x)
def Ip (call:Nat->List AV->M AV) (c:Call):M AV:=match c.callee with
 | .builtin b=>do LG P b c.argTypes.toList (← nG ρ c.args.toList)
 | .value f=>do Bt call (← nG ρ c.args.toList) (← ρ f)
 | .invoke r name=>do Im P call name (← nG ρ c.args.toList) (← ρ r)
end
abbrev XO:=Program->(Nat->List AV->M AV)->(Operand->M AV)->M AV
def SS (o:Op):XO:=Op.rec (motive:=λ_=>XO)
 (λx P call ρ=>ρ x)
 (λx P call ρ=>ρ x)
 (λc a b P call ρ=>Sg ρ c a b)
 (λt P call ρ=>Io P t)
 (λt x P call ρ=>Si P ρ t x)
 (λt ps P call ρ=>Sj P ρ t ps)
 (λt len ps P call ρ=>Sk P ρ t len ps)
 (λt m k v P call ρ=>LP P ρ t m k v)
 (λt x P call ρ=>Sl P ρ t x)
 (λt x y P call ρ=>Sm P ρ t x y)
 (λ_ P call ρ=>M.no 108)
 (λ_ P call ρ=>M.no 108)
 (λx P call ρ=>Sn P ρ x)
 (λop t x y _ P call ρ=>Sq P ρ op t x y)
 (λop _ x P call ρ=>Sr P ρ op x)
 (λsrc dst x P call ρ=>Sv P ρ src dst x)
 (λ_ _ P call ρ=>M.no 108)
 (λt x P call ρ=>Sw P ρ t x)
 (λf a c P call ρ=>Sy ρ f a c)
 (λt r P call ρ=>Sz P ρ t r)
 (λ_ _ P call ρ=>M.no 108)
 (λt l c P call ρ=>SA P ρ t l c)
 (λt x lo hi mx P call ρ=>cd mx.isSome (LM P ρ t x lo hi mx) (SB P ρ t x lo hi))
 (λt x f P call ρ=>SC P ρ t x f)
 (λt x f P call ρ=>SE P ρ t x f)
 (λt x ix P call ρ=>SF P ρ t x ix)
 (λt x ix P call ρ=>SG P ρ t x ix)
 (λt x ix ok P call ρ=>SH P ρ t x ix ok)
 (λt m k v P call ρ=>LP P ρ t m k v)
 (λ_ _ _ P call ρ=>M.no 108)
 (λ_ _ _ _ P call ρ=>M.no 108)
 (λt x P call ρ=>SI P ρ t x)
 (λx b P call ρ=>SK ρ x b)
 (λx P call ρ=>SL ρ x)
 (λx _ t ok P call ρ=>SN P ρ x t ok)
 (λx k P call ρ=>SQ ρ x k)
 (λc P call ρ=>Ip P ρ call c)
 (λ_ P call ρ=>M.no 108)
 (λ_ P call ρ=>M.no 108)
 (λ_ P call ρ=>M.no 108)
 (λ_ _ P call ρ=>M.no 108)
 (λ_ _ _ P call ρ=>M.no 108)
 (λ_ _ P call ρ=>M.no 108) o
def Et (call:Nat->List AV->M AV) (ρ:Operand->M AV) (o:Op):M AV:=SS o P call ρ
abbrev Env:=T AV
def env (N:Nat) (E:Env):Operand->M AV
 | .tmp t=>cd (Nat.blt t N) (M.opt 110 (T.get E t)) (M.no 110)
 | .const v=>M.opt 111 (wH v)
 | .global g=>M.no 112
 | .func f=>pure (.fn (.func f) [] [])
def Env.set (E:Env):Option Nat->AV->Env
 | none,_=>E
 | some d,.bad=>T.put E d none
 | some d,v=>T.put E d (some v)
/-- N: how many slots there are. -/
def SV (N:Nat):Option Nat->Bool
 | none=>true
 | some d=>Nat.blt d N
/-- The blocks of the calls that a range over a function puts off: they stand behind the slots. -/
def Env.mark (E:Env) (N i:Nat):Env:=T.put E N (some (.agg (.ptr i 0 :: match T.get E N with | some (.agg l)=>l | _=>[])))
def leave:List AV->M Unit
 | []=>pure ()
 | .ptr i _ :: l=>do match ← M.get i 0 with
  | .sp false=>do
   M.put i 0 none
   leave l
  | _=>M.no 142
 | _ :: _=>M.no 143
def uP (N:Nat) (ops:List Oper) (E:Env) (o:Oper):M Bool:=match o.guard with
 | none=>M.pure true
 | some (j,b)=>do
  let d ← M.opt 113 (((ops.drop j).head?).bind (·.dst))
  cd (Nat.blt d N) (match T.get E d with
   | some (.sc (.bool c))=>pure (cd c b (not b))
   | some (.fC [])=>pure false
   | _=>M.no 114) (M.no 114)
def Bu (call:Nat->List AV->M AV) (ρ:Operand->M AV) (g:M Bool) (o:Oper):M AV:=M.bind g λb=>cd b (Et P call ρ o.op) (M.pure (.fC []))
def Iq (call:Nat->List AV->M AV) (N:Nat) (ops:List Oper) (l:List Oper):Env->M Env:=List.rec (λE=>M.pure E) (λo r ih E=>M.bind (M.tag (1000+r.length) (Bu P call (env N E) (uP N ops E o) o)) λv=>cd (SV N o.dst) (ih (E.set o.dst v)) (M.no 109)) l
/-- A region that draws its order. -/
def iB (m i:Nat):Bool:=Nat.beq (Nat.land (Nat.shiftRight m i) 1) 1
def Lg.mem (i o:Nat):Lg->Bool
 | .e=>false
 | .p j q=>and (Nat.beq i j) (Nat.beq o q)
 | .rg j q k=>and (Nat.beq i j) (and (Nat.ble q o) (Nat.blt o (q+k)))
 | .ob j=>Nat.beq i j
 | .a x y=>or (x.mem i o) (y.mem i o)
/-- Some point from o on, k of them; some point of an object. -/
def Lg.uQ (i o k:Nat):Lg->Bool
 | .e=>false
 | .p j q=>and (Nat.beq i j) (and (Nat.ble o q) (Nat.blt q (o+k)))
 | .rg j q m=>and (Nat.beq i j) (and (Nat.blt q (o+k)) (Nat.blt o (q+m)))
 | .ob j=>Nat.beq i j
 | .a x y=>or (x.uQ i o k) (y.uQ i o k)
def Lg.uR (i:Nat):Lg->Bool
 | .e=>false
 | .p j _=>Nat.beq i j
 | .rg j _ _=>Nat.beq i j
 | .ob j=>Nat.beq i j
 | .a x y=>or (x.uR i) (y.uR i)
/-- No point in both. -/
def Lg.apart:Lg->Lg->Bool
 | .e,_=>true
 | .p i o,y=>not (y.mem i o)
 | .rg i o k,y=>not (y.uQ i o k)
 | .ob i,y=>not (y.uR i)
 | .a x x',y=>and (x.apart y) (x'.apart y)
/-- No point of an object from lo to hi. -/
def Lg.outs (lo hi:Nat):Lg->Bool
 | .e=>true
 | .p i _=>or (Nat.blt i lo) (Nat.ble hi i)
 | .rg i _ _=>or (Nat.blt i lo) (Nat.ble hi i)
 | .ob i=>or (Nat.blt i lo) (Nat.ble hi i)
 | .a x y=>and (x.outs lo hi) (y.outs lo hi)
/-- An operation that is done. -/
structure Dn where
 (k lo hi:Nat) (r w:Lg)
def indep (m:Nat) (r w:Lg):List Dn->Bool
 | []=>true
 | x :: l=>and (or (iB m x.k) (and (and (x.w.apart r) (x.w.apart w)) (and (w.apart x.r) (or (Nat.beq x.lo x.hi) (and (r.outs x.lo x.hi) (w.outs x.lo x.hi)))))) (indep m r w l)
def yR (cl:T Nat):List Nat->Option Nat
 | []=>some 0
 | j :: l=>match T.get cl j,yR cl l with
  | some m,some k=>some (Nat.lor (Nat.lor m (Nat.shiftLeft 1 j)) k)
  | _,_=>none
/-- What each operation waits for, as the bits of a number. -/
def Bv:List Oper->Nat->T Nat->Option (T Nat)
 | [],_,cl=>some cl
 | o :: l,k,cl=>match yR cl (jg o) with
  | some m=>Bv l (k+1) (T.put cl k (some m))
  | none=>none
def wO (N:Nat):List Oper->Nat->T Nat->Option (T Nat)
 | [],_,t=>some t
 | o :: l,k,t=>match o.dst with
  | none=>wO N l (k+1) t
  | some d=>match T.get t d with
   | some _=>none
   | none=>cd (Nat.blt d N) (wO N l (k+1) (T.put t d (some k))) none
def Bw (N:Nat) (dt cl:T Nat) (k m:Nat) (E:Env):Operand->M AV
 | .tmp t=>match T.get dt t with
  | some i=>cd (or (iB m i) (match T.get cl i with | some q=>iB q k | none=>false)) (env N E (.tmp t)) (M.no 131)
  | none=>env N E (.tmp t)
 | x=>env N E x
def BA (N:Nat) (ops:List Oper) (m:Nat) (E:Env) (o:Oper):M Bool:=match o.guard with
 | none=>pure true
 | some (j,_)=>cd (iB m j) (uP N ops E o) (M.no 132)
def M.log {α:Type} (m:M α):M (α × Lg × Lg × Nat × Nat):=λs n=>match m s n with
 | .no e=>.no e
 | .ok a s' n' r w=>.ok (a,r,w,n,n') s' n' r w
def Eu (call:Nat->List AV->M AV) (N:Nat) (ops:List Oper) (dt cl:T Nat):List Oper->Nat->List Dn->Env->M Env
 | [],_,_,E=>pure E
 | o :: l,k,D,E=>do
  let m ← M.opt 133 (T.get cl k)
  let x ← M.log (M.tag (1000+l.length) (Bu P call (Bw N dt cl k m E) (BA N ops m E o) o))
  cd (indep m x.2.1 x.2.2.1 D) (Eu call N ops dt cl l (k+1) (⟨k,x.2.2.2.1,x.2.2.2.2,x.2.1,x.2.2.1⟩ :: D) (E.set o.dst x.1)) (M.no 134)
inductive Ex where
 | gu
 | ext (i:Nat)
 | ret
def Ev (f:Env->M (Ex × Env)):Nat->Env->M (Ex × Env)
 | 0,_=>M.no 115
 | k+1,E=>do
  let (e,E) ← f E
  match e with
  | .gu=>Ev f k E
  | e=>pure (e,E)
def xc (call:Nat->List AV->M AV) (N:Nat):Code->Env->M (Ex × Env)
 | .skip,E=>pure (.gu,E)
 | .label _,E=>pure (.gu,E)
 | .region id ops dr,E=>M.tag (100000+id) (cd dr (do
  let dt ← M.opt 135 (wO N ops.toList 0 .e)
  let cl ← M.opt 136 (Bv ops.toList 0 .e)
  let E ← Eu P call N ops.toList dt cl ops.toList 0 [] E
  pure (.gu,E)) (do
  let E ← Iq P call N ops.toList ops.toList E
  pure (.gu,E)))
 | .seq a b,E=>do
  let (e,E) ← xc call N a E
  match e with
  | .gu=>xc call N b E
  | e=>pure (e,E)
 | .cond c a b,E=>do
  match ← env N E c with
  | .sc (.bool true)=>xc call N a E
  | .sc (.bool false)=>xc call N b E
  | _=>M.no 116
 | .block id b,E=>do
  let (e,E) ← xc call N b E
  match e with
  | .ext j=>cd (Nat.beq j id) (pure (.gu,E)) (pure (.ext j,E))
  | e=>pure (e,E)
 | .loop b,E=>Ev (xc call N b) 4000 E
 | .exit id,E=>pure (.ext id,E)
 | .ret,E=>pure (.ret,E)
 | .scope b,E=>xc call N b E
 | .rangeFunc g _ _ _,E=>do
  let i ← M.fresh
  M.put i 0 (some (.sp false))
  let j ← M.fresh
  M.put j 0 (some (.sp true))
  let f ← env N E g
  let _ ← Bt call [.wG j] f
  match ← M.get j 0 with
  | .sp true=>do
   M.put j 0 none
   pure (.gu,E.mark N i)
  | _=>M.no 117
 | .goto _,_=>M.no 118
 | .refuse _,_=>M.no 119
def BD (N:Nat) (E:Env):List ResultVar->M (List AV)
 | []=>pure []
 | .tmp t :: l=>do
  let v ← env N E (.tmp t)
  let r ← BD N E l
  pure (v :: r)
 | .cell a t :: l=>do
  let v ← yP P t (← env N E (.tmp a))
  let r ← BD N E l
  pure (v :: r)
def yS:Env->Nat->List AV->Env
 | E,_,[]=>E
 | E,k,v :: l=>yS (T.put E k (some v)) (Nat.succ k) l
def Ir (E:Env) (fn:Func):M AV:=do match ← BD P fn.ntmps E fn.results.toList with
 | [v]=>pure v
 | l=>pure (.fC l)
def Ew (E:Env) (fn:Func):M AV:=do
 let _ ← leave (match T.get E fn.ntmps with | some (.agg l)=>l | _=>[])
 Ir P E fn
def Ey:Nat->Nat->List AV->M AV
 | 0,_,_=>M.no 122
 | d+1,f,args=>M.own (M.tag (1000000+f) (do
  let fn ← M.opt 123 P.funcs[f]?
  let c ← M.opt 124 fn.body
  cd (or (fn.name == "runtime.NumGoroutine") (not (Nat.ble args.length fn.ntmps))) (M.no 126) (do
  let (e,E) ← xc P (Ey d) fn.ntmps c (yS .e 0 args)
  match e with
  | .ext _=>M.no 125
  | _=>Ew P E fn)))
end
end
end Go.Proofs.YtfabngnaejjcmaaGreatDoor
