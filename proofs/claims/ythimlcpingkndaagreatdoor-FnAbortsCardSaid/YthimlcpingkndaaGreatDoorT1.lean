/- The proof's texts, part 1. -/
import Derived.Test.YthimlcpingkndaaGreatDoorT0
import Derived.Deep.RegionHeld3
import Derived.WalkKit
import Derived.WalkSpells
import Derived.WalkLawsBesides
import Derived.Laws.AppendOwnNone
import Derived.Laws.CopyOwn
import Derived.Test.YthimlcpingkndaaGreatDoorRows
import Derived.Deep.QuietTactic
import Derived.BigQuiet
namespace Go.Proofs.YthimlcpingkndaaGreatDoor
open Go.RowKit
set_option linter.unusedVariables false
/- Cm that draw their order, walked in the text's order: what each operation asks of the others is reckoned once for a region, in a table. -/
/-- Slot d filled: what 'put' does, in a form that computes by itself. -/
def dJ (a:Act) (d:Nat) (v:Value):Act:={ a with tmps:=(a.tmps.toList.set d v).toArray }
theorem kU (a:Act) (d:Nat) (v:Value):a.put (some d) v=dJ a d v:=by
 unfold Act.put dJ;simp only
 congr 1
 exact Array.ext' (by simp)
section
variable {P : Program} {ops : Array Oper} {Q : Exit -> Act -> World -> Prop} {S : World -> Prop} {n : Nat} {cs : List Nat} {a : Act} {w : World}
end
theorem wW {α:Type} (x:α) (l:List α) (a:α):(x :: l).set 0 a=a :: l:=rfl
theorem wX {α:Type} (x:α) (l:List α) (i:Nat) (a:α):(x :: l).set (i+1) a=x :: l.set i a:=rfl
/- A region that draws its order: one walk an operation, whatever else is done by then, in place of one walk an order. -/
/-- i is done, too. -/
def iq (L:Nat->Bool) (i:Nat):Nat->Bool:=λj=>cond (Nat.beq j i) true (L j)
def jy (V:Nat->Value) (i:Nat) (v:Value):Nat->Value:=λj=>cond (Nat.beq j i) v (V j)
def dR (a:Act) (d:Nat):Value:=(a.tmps.toList.drop d).headD undef
/-- The slots of those that are done are filled. -/
def bK:List (Option Nat)->Nat->(Nat->Bool)->(Nat->Value)->Act->Act
 | [],_,_,_,a=>a
 | none :: ds,k,L,V,a=>bK ds (k+1) L V a
 | some d :: ds,k,L,V,a=>bK ds (k+1) L V (dJ a d (cond (L k) (V k) (dR a d)))
theorem eT {L:Nat->Bool} {i j:Nat} (h:j≠i):iq L i j=L j:=by
 unfold iq;rw[show Nat.beq j i=false from Bool.eq_false_iff.2 λe=>h (Nat.eq_of_beq_eq_true e)];rfl
theorem fF {L:Nat->Bool} {i:Nat}:iq L i i=true:=by unfold iq;rw[Nat.beq_refl];rfl
theorem nN {V:Nat->Value} {i j:Nat} {v:Value} (h:j≠i):jy V i v j=V j:=by
 unfold jy;rw[show Nat.beq j i=false from Bool.eq_false_iff.2 λe=>h (Nat.eq_of_beq_eq_true e)];rfl
theorem sN {V:Nat->Value} {i:Nat} {v:Value}:jy V i v i=v:=by unfold jy;rw[Nat.beq_refl];rfl
def fG (L:Nat->Bool):List Nat->Prop
 | []=>True
 | i :: l=>L i=true/\fG L l
theorem iw {L:Nat->Bool} {l:List Nat}:fG L l↔∀i ∈ l,L i=true:=by
 induction l with
 | nil=>simp[fG]
 | cons i l ih=>simp[fG,ih]
def dh (o:Oper):List Nat:=(o.after.toList.filter (Region.binds .any)).map (·.on)
def fH:List Nat->Bool
 | []=>true
 | d :: l=>!l.contains d && fH l
def nO (ops:Array Oper) (ds:List (Option Nat)) (ws:List (List Nat)):Bool :=
 (ops.toList.map (·.dst) == ds) && (fH (ds.filterMap id) && ((ws.length == ds.length) && (List.range ops.size).all λi=>match ops[i]?,ws[i]? with
  | some o,some l=>(dh o).all (λj=>Nat.blt j i) && l.all (dh o).contains
  | _,_=>false))
structure qh (ops:Array Oper) (ds:List (Option Nat)) (ws:List (List Nat)):Prop where
 out:nO ops ds ws=true
theorem wY (a:Act) (d:Nat) (x v:Value):(dJ a d x).put (some d) v=dJ a d v:=by
 rw[kU];simp[dJ,List.set_set]
theorem wZ (a:Act) {d e:Nat} (h:d≠e) (x v:Value):(dJ a e x).put (some d) v=dJ (a.put (some d) v) e x:=by
 rw[kU,kU];simp[dJ,List.set_comm _ _ h.symm]
theorem sO (a:Act) {d e:Nat} (h:d≠e) (v:Value):dR (a.put (some d) v) e=dR a e:=by
 rw[kU];simp[dR,dJ,List.headD_eq_head?_getD,List.head?_drop,List.getElem?_set_ne h]
theorem nP {L L':Nat->Bool} {V V':Nat->Value}:∀(ds:List (Option Nat)) (k:Nat) (a:Act),(∀j,k<=j->L j=L' j/\V j=V' j)->bK ds k L V a=bK ds k L' V' a
 | [],_,_,_=>rfl
 | none :: ds,k,a,h=>by unfold bK;exact nP ds _ a λj hj=>h j (by omega)
 | some d :: ds,k,a,h=>by unfold bK;rw[(h k (Nat.le_refl _)).1,(h k (Nat.le_refl _)).2];exact nP ds (k+1) _ λj hj=>h j (by omega)
theorem ql {L:Nat->Bool} {V:Nat->Value} {d:Nat} {v:Value}:∀(ds:List (Option Nat)) (k:Nat) (a:Act),¬d ∈ ds.filterMap id->(bK ds k L V a).put (some d) v=bK ds k L V (a.put (some d) v)
 | [],_,_,_=>rfl
 | none :: ds,k,a,h=>by unfold bK;exact ql ds (k+1) a (by simpa using h)
 | some e :: ds,k,a,h=>by
  have h':d≠e/\¬d ∈ ds.filterMap id:=by simpa [not_or] using h
  unfold bK;rw[ql ds (k+1) _ h'.2,wZ a h'.1,sO a h'.1]
theorem qm {L:Nat->Bool} {V:Nat->Value} {v:Value} {o:Option Nat} {i:Nat}:∀(ds:List (Option Nat)) (k:Nat) (a:Act) (j:Nat),i=k+j->ds[j]?=some o->fH (ds.filterMap id)=true->(bK ds k L V a).put o v=bK ds k (iq L i) (jy V i v) a
 | [],_,_,_,_,h,_=>by simp at h
 | none :: ds,k,a,0,e,h,_=>by
  simp only[List.getElem?_cons_zero,Option.some.injEq] at h;subst h e;unfold bK;exact nP ds _ a λj hj=>⟨(eT (by omega)).symm,(nN (by omega)).symm⟩
 | some d :: ds,k,a,0,e,h,hd=>by
  simp only[List.getElem?_cons_zero,Option.some.injEq] at h;subst h e;simp only[List.filterMap_cons,id,fH,Bool.and_eq_true,Bool.not_eq_true',List.contains_eq_mem,decide_eq_false_iff_not] at hd;unfold bK;rw[ql ds _ _ hd.1,wY,fF,sN,cond_true];exact nP ds _ _ λj hj=>⟨(eT (by omega)).symm,(nN (by omega)).symm⟩
 | none :: ds,k,a,j+1,e,h,hd=>by
  unfold bK;exact qm (i:=i) ds (k+1) a j (by omega) (by simpa using h) (by simpa using hd)
 | some d :: ds,k,a,j+1,e,h,hd=>by
  simp only[List.filterMap_cons,id,fH,Bool.and_eq_true] at hd;unfold bK;rw[qm (i:=i) ds (k+1) _ j (by omega) (by simpa using h) hd.2,eT (show k≠i by omega),nN (show k≠i by omega)]
section
variable {P : Program} {ops : Array Oper} {Q : Exit -> Act -> World -> Prop} {F : (Nat -> Bool) -> (Nat -> Value) -> World -> Prop} {A : (Nat -> Bool) -> (Nat -> Value) -> Act} {ds : List (Option Nat)} {ws : List (List Nat)} {a : Act} {w : World}
/-- Those that a done one waits for are done. -/
def kV (ws:List (List Nat)) (L:Nat->Bool):Prop:=∀i wi,ws[i]?=some wi->L i=true->fG L wi
/-- Operation i, whatever else is done by then. -/
def sP (P:Program) (ops:Array Oper) (Q:Exit->Act->World->Prop) (F:(Nat->Bool)->(Nat->Value)->World->Prop) (A:(Nat->Bool)->(Nat->Value)->Act) (ws:List (List Nat)) (i:Nat) (wi:List Nat):Prop :=
 ∀L V w,F L V w->L i=false->fG L wi->kV ws L->∀o,ops[i]?=some o->∀K:Act->World->Prop,Shut (∀v w',F (iq L i) (jy V i v) w'->K ((A L V).put o.dst v) w') ->
  if Region.wanted o (yielded ops (A L V).tmps)=true then Oper.wp P o (A L V) w K Q else K ((A L V).put o.dst undef) w
def kW (P:Program) (ops:Array Oper) (Q:Exit->Act->World->Prop) (F:(Nat->Bool)->(Nat->Value)->World->Prop) (A:(Nat->Bool)->(Nat->Value)->Act) (ws:List (List Nat)):Nat->List (List Nat)->Prop
 | _,[]=>True
 | k,wi :: r=>sP P ops Q F A ws k wi/\kW P ops Q F A ws (k+1) r
theorem sQ:∀(r:List (List Nat)) (k j:Nat) (wi:List Nat),kW P ops Q F A ws k r->r[j]?=some wi->sP P ops Q F A ws (k+j) wi
 | [],_,_,_,_,h=>by simp at h
 | _ :: _,_,0,_,H,h=>by simp only[List.getElem?_cons_zero,Option.some.injEq] at h;subst h;exact H.1
 | _ :: r,k,j+1,wi,H,h=>by have:=sQ r (k+1) j wi H.2 (by simpa using h);rwa [show k+(j+1)=k+1+j by omega]
def gB (L:Nat->Bool):Nat->Nat
 | 0=>0
 | k+1=>gB L k+cond (L k) 0 1
theorem sS {L:Nat->Bool}:∀ {n:Nat},gB L n=0->∀i,i < n->L i=true
 | 0,_,_,h=>absurd h (Nat.not_lt_zero _)
 | n+1,h,i,hi=>by
  unfold gB at h
  by_cases e:i=n
  ·subst e;cases hL:L i
   ·rw[hL] at h;simp at h
   ·rfl
  ·exact sS (n:=n) (by omega) i (by omega)
theorem sU {L:Nat->Bool} {i:Nat} (h:L i=false):∀n,gB (iq L i) n+(if i < n then 1 else 0)=gB L n
 | 0=>rfl
 | n+1=>by
  have:=sU h n;unfold gB
  by_cases e:i=n
  ·subst e;simp[fF,h] at this ⊢;exact this
  ·rw[eT (show n≠i from λe'=>e e'.symm)]
   by_cases hi:i < n
   ·rw[if_pos hi] at this;rw[if_pos (by omega)];omega
   ·rw[if_neg hi] at this;rw[if_neg (by omega)];omega
theorem xg (T:qh ops ds ws) (ha:∀L V,bK ds 0 L V a=A L V) (hs:kW P ops Q F A ws 0 ws)
  (he:∀V w,F (λ_=>true) V w->Q .normal (A (λ_=>true) V) w) :
  ∀(fuel:Nat) (listed:Array Bool) (L:Nat->Bool) (V:Nat->Value) (w:World),listed.size=ops.size->(∀i,L i=listed.getD i true)->kV ws L->gB L ops.size<=fuel->F L V w->wpAnyH P .any ops Q (λ_=>True) fuel listed (A L V) w:=by
 have T':=T.out;simp only[nO,Bool.and_eq_true,beq_iff_eq,List.all_eq_true,List.mem_range] at T';obtain⟨t1,t2,t3,t4⟩:=T';have hn:ops.size=ds.length:=by rw[← t1];simp
 have tw:∀i o,ops[i]?=some o->∃wi,ws[i]?=some wi/\(∀e ∈ o.after,Region.binds .any e=true->e.on < i)/\∀j ∈ wi,∃e ∈ o.after,Region.binds .any e=true/\e.on=j:=by
  intro i o ho;have hlt:=(Array.getElem?_eq_some_iff.1 ho).1;have h4:=t4 i hlt;rw[ho] at h4;obtain⟨wi,hw⟩:∃wi,ws[i]?=some wi:=⟨_,nM (by omega)⟩;rw[hw] at h4;simp only[Bool.and_eq_true,List.all_eq_true,Nat.blt_eq,List.contains_iff_mem] at h4;refine⟨wi,hw,λe he hb=>h4.1 _ ?_,λj hj=>?_⟩
  ·exact List.mem_map.2 ⟨e,List.mem_filter.2 ⟨by simpa using he,hb⟩,rfl⟩
  ·obtain⟨e,he,rfl⟩:=List.mem_map.1 (h4.2 j hj)
   obtain⟨he,hb⟩:=List.mem_filter.1 he;exact⟨e,by simpa using he,hb,rfl⟩
 have sV:∀(listed:Array Bool) (L:Nat->Bool) (V:Nat->Value) (w:World),listed.size=ops.size->(∀i,L i=listed.getD i true)->Region.ready .any ops listed=[]->F L V w->Q .normal (A L V) w:=by
  intro listed L V w hsz hL hr hF;have hall:∀i,L i=true:=by
   intro i
   induction i using Nat.strongRecOn with
   | _ i ih =>
    cases fu:L i
    ·exfalso
     have hi:i < ops.size:=by
      rcases Nat.lt_or_ge i ops.size with h | h
      ·exact h
      ·rw[hL i] at fu;simp[Array.getD,show ¬i < listed.size by omega] at fu
     obtain⟨o,ho⟩:∃o,ops[i]?=some o:=⟨_,Array.getElem?_eq_getElem hi⟩;obtain⟨wi,hw,hlt,-⟩:=tw i o ho;have:i ∈ Region.ready .any ops listed:=mem_ready.2 ⟨by rw[← hL i];exact fu,o,ho,λe hem hb=>by
      have h1:=ih e.on (hlt e hem hb);rw[hL] at h1;have h2:e.on < listed.size:=by have:=hlt e hem hb;omega
      simpa [Array.getD,h2] using h1⟩
     rw[hr] at this;cases this
    ·rfl
  rw[show L=λ_=>true from funext hall] at hF ⊢;exact he V w hF
 intro fuel
 induction fuel with
 | zero =>
  intro listed L V w hsz hL hC hc hF;have hall:=sS (Nat.le_zero.1 hc);have hr:Region.ready .any ops listed=[]:=List.eq_nil_iff_forall_not_mem.2 λj hj=>by
   obtain⟨h1,o,ho,-⟩:=mem_ready.1 hj;rw[← hL j,hall j (Array.getElem?_eq_some_iff.1 ho).1] at h1;cases h1
  exact⟨hr,sV listed L V w hsz hL hr hF⟩
 | succ fuel ih =>
  intro listed L V w hsz hL hC hc hF;refine⟨λhr=>sV listed L V w hsz hL hr hF,λi hi=>?_⟩;obtain⟨h1,o,ho,hall⟩:=mem_ready.1 hi;have hlt:=(Array.getElem?_eq_some_iff.1 ho).1;obtain⟨wi,hw,xk,hwi⟩:=tw i o ho;have fu:L i=false:=by rw[hL i];exact h1
  have kX:fG L wi:=iw.2 λj hj=>by
   obtain⟨e,hem,hb,rfl⟩:=hwi j hj;have h2:=hall e hem hb;have h3:=xk e hem hb;rw[hL];have h4:e.on < listed.size:=by omega
   simpa [Array.getD,h4] using h2
  have st:=sQ ws 0 i wi hs hw;rw[Nat.zero_add] at st;refine wpOp_step ho λK hK=>st L V w hF fu kX hC o ho K (λv w' hF'=>hK _ _ ⟨trivial,?_⟩);have hd:ds[i]?=some o.dst:=by rw[← t1];simp[ho]
  rw[← ha L V,qm (i:=i) ds 0 a i (by omega) hd t2,ha];refine ih _ _ _ w' (by simpa using hsz) (λj=>?_) ?_ ?_ hF'
  ·by_cases e:j=i
   ·subst e;rw[fF];simp[Array.getD,show j < listed.size by omega]
   ·rw[eT e,hL j,getD_set_ne true (λh=>e h.symm)]
  ·intro j wj hj eU
   refine iw.2 λx hx=>?_
   by_cases e:x=i
   ·subst e;exact fF
   ·rw[eT e]
    by_cases e':j=i
    ·subst e';rw[hw] at hj;cases hj;exact iw.1 kX x hx
    ·rw[eT e'] at eU;exact iw.1 (hC j wj hj eU) x hx
  ·have:=sU fu ops.size
   rw[if_pos hlt] at this;omega
/-- The beginning: nothing is done. -/
theorem xq {rid:Nat} (T:qh ops ds ws) (hm:P.follows .mixedOrders=true) (hs:kW P ops Q F A ws 0 ws)
  (h0:∀V,F (λi=>Nat.ble ds.length i) V w.drew)
  (he:∀V w,F (λ_=>true) V w->Q .normal (A (λ_=>true) V) w)
  (ha:∀L V,bK ds 0 L V a=A L V:=by(intro L V;conv=>lhs;dsimp only[bK,dJ,dR,List.toList_toArray,wW,wX,List.drop_zero,List.drop_succ_cons,List.headD_cons])):Code.wp P (.region rid ops true) Q a w:=by
 have T':=T.out;simp only[nO,Bool.and_eq_true,beq_iff_eq] at T';have hn:ops.size=ds.length:=by rw[← T'.1];simp
 have hw:ws.length=ds.length:=T'.2.2.1;refine wp_region_held_drew (S:=λ_=>True) hm trivial λ_=>?_;have hL:∀i,Nat.ble ds.length i=(Array.replicate ops.size false).getD i true:=by
  intro i
  by_cases h:i < ops.size
  ·rw[show Nat.ble ds.length i=false by rw[Bool.eq_false_iff];intro h';have:=Nat.le_of_ble_eq_true h';omega];simp[Array.getD,h]
  ·rw[show Nat.ble ds.length i=true from Nat.ble_eq_true_of_le (by omega)];simp[Array.getD,h]
 have e:A (λi=>Nat.ble ds.length i) (λi=>dR a (((ds[i]?).bind id).getD 0))=a:=by
  rw[← ha];have:∀(l:List (Option Nat)) (k:Nat) (L:Nat->Bool) (V:Nat->Value),(∀j,k<=j->j < k+l.length->L j=false)->bK l k L V a=a:=by
   intro l
   induction l with
   | nil=>intro k L V _;rfl
   | cons o l ih =>
    intro k L V h;cases o with
    | none=>unfold bK;exact ih (k+1) L V λj h1 h2=>h j (by omega) (by simp;omega)
    | some d =>
     unfold bK;rw[h k (Nat.le_refl _) (by simp),cond_false,show dJ a d (dR a d)=a by
      unfold dJ dR;rw[List.headD_eq_head?_getD,List.head?_drop];rcases Nat.lt_or_ge d a.tmps.toList.length with hd | hd
      ·rw[nM hd,Option.getD_some,List.set_getElem_self]
      ·rw[List.set_eq_of_length_le hd]]
     exact ih (k+1) L V λj h1 h2=>h j (by omega) (by simp;omega)
  exact this ds 0 _ _ λj _ h2=>by rw[Bool.eq_false_iff];intro h';have:=Nat.le_of_ble_eq_true h';omega
 have:=xg T ha hs he ops.size (Array.replicate ops.size false) (λi=>Nat.ble ds.length i) (λi=>dR a (((ds[i]?).bind id).getD 0)) w.drew (by simp) hL (λi wi h1 h2=>by
  have h3:=Nat.le_of_ble_eq_true h2;have h4:=(gs1 h1).1;omega) (by
  have:∀(L:Nat->Bool) n,gB L n<=n:=by
   intro L n
   induction n with
   | zero=>exact Nat.le_refl _
   | succ n ih=>unfold gB;cases L n <;> simp <;> omega
  exact this _ _) (h0 _)
 rwa [e] at this
end
/- Plain facts on bytes in memory: what a slice reads as, what a call owns; no program is named here. -/
/-- Every number of the list is a byte. -/
def Oct (l:List Int):Prop:=∀x ∈ l,0<=x/\x<=255
/-- The cells of a list of bytes. -/
def vals (l:List Int):List Value:=l.map (Value.int .u8)
theorem xu (l:List Int):(vals l).length=l.length:=by simp[vals]
theorem xw (l:List Int) (i:Nat) (h:i < l.length):(vals l)[i]?=some (.int .u8 (l.getD i 0)):=by
 simp[vals,h]
theorem sW:Oct []:=by intro x hx;simp at hx
/-- The slice value v reads in the world w as the bytes l. -/
def Bs (w:World) (v:Value) (l:List Int):Prop :=
 Oct l/\∃a cap,v=.slice a l.length cap/\l.length<=cap/\cap<=maxLen/\(a=none->cap=0) /\
  (0 < l.length->∃b off,a=some ⟨b,off,none⟩/\b < w.heap.size/\∀i,i < l.length->w.cell? ⟨b,off+i,none⟩=some (.int .u8 (l.getD i 0)))
/-- The slice value v is nil, or it lies at the head of block g, whose first cells are the bytes l; nobody else need be asked ahead of a store there. -/
def Own (w:World) (g:Nat) (v:Value) (l:List Int):Prop :=
 Oct l/\((v=.slice none 0 0/\l=[]) \/
  ∃cap cur,v=.slice (some ⟨g,0,none⟩) l.length cap/\w.heap[g]?=some (.cells cur 5 (0,0))/\l.length<=cap/\cap<=maxLen/\cur.size=cap/\cur.toList.take l.length=vals l)
theorem Own.row {w:World} {g:Nat} {v:Value} {l:List Int} (h:Own w g v l):w.ownsRow g 5 1 v l.length (vals l):=by
 refine⟨by simp[xu],?_⟩;rcases h.2 with⟨hv,hl⟩ | ⟨cap,cur,hv,hh,h1,h2,h3,h4⟩
 ·exact .inl ⟨hv,by simp[hl]⟩
 ·exact .inr ⟨g,cap,cur,hv,Nat.le_refl _,hh,h1,h2,by simpa using h3,by simpa using h4⟩
theorem lt_of_heap {w:World} {g:Nat} {o:Obj} (h:w.heap[g]?=some o):g < w.heap.size:=(Array.getElem?_eq_some_iff.1 h).1
theorem Own.bs {w:World} {g:Nat} {v:Value} {l:List Int} (h:Own w g v l):Bs w v l:=by
 refine⟨h.1,?_⟩;rcases h.2 with⟨hv,hl⟩ | ⟨cap,cur,hv,hh,h1,h2,h3,h4⟩
 ·subst hl
  exact⟨none,0,by simpa using hv,by simp,by simp,λ_=>rfl,λh=>by simp at h⟩
 ·refine⟨_,cap,hv,h1,h2,(λh=>by cases h),λhp=>⟨g,0,rfl,lt_of_heap hh,λi hi=>?_⟩⟩
  rw[Nat.zero_add,cell_of_row w g i cur 5 (0,0) hh];have e:=xw l i hi;rw[← h4,List.getElem?_take,if_pos hi] at e;simpa using e
/-- What is kept while nothing below the heap's size turns. -/
theorem Bs.below {w w':World} {v:Value} {l:List Int} (h:Bs w v l) (hb:Below w.heap.size w w'):Bs w' v l:=by
 obtain⟨ho,a,cap,hv,h1,h2,h3,h4⟩:=h;refine⟨ho,a,cap,hv,h1,h2,h3,λhp=>?_⟩;obtain⟨b,off,ha,hlt,hc⟩:=h4 hp;exact⟨b,off,ha,Nat.lt_of_lt_of_le hlt hb.size,λi hi=>(hb.cell (p:=⟨b,off+i,none⟩) hlt).trans (hc i hi)⟩
theorem Own.below {w w':World} {g:Nat} {v:Value} {l:List Int} (h:Own w g v l) (hb:Below w.heap.size w w'):Own w' g v l:=by
 refine⟨h.1,?_⟩;rcases h.2 with hn | ⟨cap,cur,hv,hh,r⟩
 ·exact .inl hn
 ·exact .inr ⟨cap,cur,hv,(hb.block g (lt_of_heap hh)).trans hh,r⟩
/-- What is kept while other blocks are written. -/
theorem Own.kept {w w':World} {g k:Nat} {v:Value} {l:List Int} (h:Own w g v l) (hk:w.grownBy w' (some k)) (hne:g≠k):Own w' g v l:=by
 refine⟨h.1,?_⟩;rcases h.2 with hn | ⟨cap,cur,hv,hh,r⟩
 ·exact .inl hn
 ·exact .inr ⟨cap,cur,hv,(hk.block g (lt_of_heap hh) (by simpa using hne)).trans hh,r⟩
theorem Own.grow {w w':World} {g:Nat} {v:Value} {l:List Int} (h:Own w g v l) (hk:w.grownBy w' none):Own w' g v l:=by
 refine⟨h.1,?_⟩;rcases h.2 with hn | ⟨cap,cur,hv,hh,r⟩
 ·exact .inl hn
 ·exact .inr ⟨cap,cur,hv,(hk.block g (lt_of_heap hh) (by simp)).trans hh,r⟩
theorem grownBy_setCell {w wr:World} {g j:Nat} {u:Value} (h:w.grownBy wr (some g)):w.grownBy (wr.setCell ⟨g,j,none⟩ u) (some g) :=
 ⟨h.os,h.tape,h.output,by have:=h.size;simpa [World.setCell] using this,λk hk hne=>(Below.heap_setCell wr ⟨g,j,none⟩ u k (by simpa using hne)).trans (h.block k hk hne)⟩
/-- Out of the kit's word on a row that the call owns. -/
theorem xA {w:World} {B n:Nat} {v:Value} {l:List Int} (ho:Oct l) (hn:n=l.length) (h:w.ownsRow B 5 1 v n (vals l)):∃g,B<=g/\Own w g v l:=by
 subst hn;rcases h.2 with⟨hv,hl⟩ | ⟨g,cap,cur,hv,hB,hh,h1,h2,h3,h4⟩
 ·exact⟨B,Nat.le_refl _,ho,.inl ⟨hv,List.eq_nil_of_length_eq_zero hl⟩⟩
 ·exact⟨g,hB,ho,.inr ⟨cap,cur,hv,hh,h1,h2,by simpa using h3,by simpa using h4⟩⟩
/-- The bytes of a number: seven bits a byte, the lowest first; f more bytes may follow. -/
def enc:Nat->Int->List Int
 | 0,n=>[n]
 | f+1,n=>if 127 < n then (n % 128+128) :: enc f (n / 128) else [n]
/- append of bytes to a row of the call's own, as one law for the walk: what is appended may be nil. -/
/-- The value v is nil or lies at the head of a block from B on, whose first cells are the bytes l. -/
def fA (w:World) (B:Nat) (v:Value) (l:List Int):Prop:=∃g,B<=g/\Own w g v l
theorem fA.bs {w:World} {B:Nat} {v:Value} {l:List Int} (h:fA w B v l):Bs w v l:=let ⟨_,_,h⟩:=h;h.bs
theorem fA.row {w:World} {B:Nat} {v:Value} {l:List Int} (h:fA w B v l):w.ownsRow B 5 1 v l.length (vals l):=by
 obtain⟨g,hB,h⟩:=h;have h':=h.row;refine⟨h'.1,?_⟩;rcases h'.2 with h' | ⟨g',cap,cur,hv,hg,r⟩
 ·exact .inl h'
 ·exact .inr ⟨g',cap,cur,hv,Nat.le_trans hB hg,r⟩
theorem fA.alloc {w:World} {B:Nat} {v:Value} {l:List Int} (h:fA w B v l) (o:Obj):fA (w.alloc o) B v l :=
 let ⟨g,hB,h⟩:=h;⟨g,hB,h.grow (World.grownBy_alloc w o none)⟩
theorem fA.below {w w':World} {B:Nat} {v:Value} {l:List Int} (h:fA w B v l) (hb:Below w.heap.size w w'):fA w' B v l :=
 let ⟨g,hB,h⟩:=h;⟨g,hB,h.below hb⟩
theorem Bs.alloc {w:World} {v:Value} {l:List Int} (h:Bs w v l) (o:Obj):Bs (w.alloc o) v l :=
 h.below (bn _ o)
/- What Cn answers, on lists. -/
/- copy of bytes into a row of the call's own, as one law for the walk: what is copied may be nil. -/
/- Rows of bytes that lie in blocks from B on and below T: so that two of them are seen to be apart. -/
/-- The value v is nil, or lies at the head of a block from B on and below T; its bytes are l. -/
def Row (w:World) (B T:Nat) (v:Value) (l:List Int):Prop :=
 Oct l/\w.ownsRow B 5 1 v l.length (vals l)/\∀g,v.ownBlock=some g->g < T
theorem Row.own {w:World} {B T:Nat} {v:Value} {l:List Int} (h:Row w B T v l):fA w B v l:=xA h.1 rfl h.2.1
theorem Row.bs {w:World} {B T:Nat} {v:Value} {l:List Int} (h:Row w B T v l):Bs w v l:=h.own.bs
theorem Row.wide {w:World} {B T B' T':Nat} {v:Value} {l:List Int} (h:Row w B T v l) (hB:B'<=B) (hT:T<=T'):Row w B' T' v l:=by
 refine⟨h.1,⟨h.2.1.1,?_⟩,λg hg=>Nat.lt_of_lt_of_le (h.2.2 g hg) hT⟩;rcases h.2.1.2 with hn | ⟨g,cap,cur,hv,hg,r⟩
 ·exact .inl hn
 ·exact .inr ⟨g,cap,cur,hv,Nat.le_trans hB hg,r⟩
theorem Row.below {w w':World} {B T:Nat} {v:Value} {l:List Int} (h:Row w B T v l) (hb:Below w.heap.size w w'):Row w' B T v l :=
 ⟨h.1,(h.own.below hb).row,h.2.2⟩
/-- Another row was written. -/
theorem Row.kept {w w':World} {B T B' T':Nat} {v u:Value} {l m:List Int} (h:Row w B T v l) (hu:Row w B' T' u m) (hg:w.grownBy w' u.ownBlock) (hd:T<=B'\/T'<=B):Row w' B T v l:=by
 refine⟨h.1,h.2.1.kept hg ?_,h.2.2⟩;cases hv:v.ownBlock with
 | none=>exact .inl rfl
 | some g =>
  refine .inr λe=>?_;have h1:=(h.2.1.lt g hv).1;have h2:=h.2.2 g hv;have h3:=(hu.2.1.lt g e.symm).1;have h4:=hu.2.2 g e.symm;omega
theorem Row.nil (w:World) (B T:Nat):Row w B T (.slice none 0 0) []:=⟨sW,World.ownsRow_nil _ _ _ _,λg hg=>by simp[Value.ownBlock] at hg⟩
/-- What lies below the row's blocks has not turned. -/
theorem Row.wrote {w0 w w':World} {B T:Nat} {u:Value} {m:List Int} (hu:Row w B T u m) (hg:w.grownBy w' u.ownBlock) (hb:Below w0.heap.size w0 w) (hB:w0.heap.size<=B):Below w0.heap.size w0 w' :=
 hb.grown hg hb.size (λk hk=>Nat.le_trans hB (hu.2.1.lt k hk).1)
/-- A row stays while another block is written. -/
theorem Row.drawn {w w':World} {g B T:Nat} {v:Value} {l:List Int} (h:Row w B T v l) (hw:w.grownBy w' (some g)) (hd:g < B\/T<=g):Row w' B T v l:=by
 refine⟨h.1,h.2.1.kept hw ?_,h.2.2⟩;cases hv:v.ownBlock with
 | none=>exact .inl rfl
 | some k =>
  refine .inr λe=>?_;have h1:=(h.2.1.lt k hv).1;have h2:=h.2.2 k hv;simp only[Option.some.injEq] at e;omega
/-- A row stays while a cell of another block is written. -/
theorem Row.set {w:World} {g i B T:Nat} {v x:Value} {l:List Int} (h:Row w B T v l) (hd:g < B\/T<=g):Row (w.setCell ⟨g,i,none⟩ x) B T v l :=
 h.drawn (grownBy_setCell (World.grownBy.refl _ _)) hd
theorem Below.step {w w1 w2:World} (h:Below w.heap.size w w1) (h':Below w1.heap.size w1 w2):Below w.heap.size w w2:=h.trans (h'.mono h.size)
/- Closed facts on the program's types that the walks use. -/
/- Logs in memory: what a log reads as; a log of the call's own; what is written within a range of blocks. -/
/-- Old blocks outside the range from B on and below T are as they were. -/
structure Within (B T:Nat) (w w':World):Prop where
 os:w'.os=w.os
 tape:w'.tape=w.tape
 output:w'.output=w.output
 size:w.heap.size<=w'.heap.size
 block:∀k,k < w.heap.size->¬(B<=k/\k < T)->w'.heap[k]?=w.heap[k]?
theorem Within.refl (B T:Nat) (w:World):Within B T w w:=⟨rfl,rfl,rfl,Nat.le_refl _,λ_ _ _=>rfl⟩
theorem Within.trans {B T:Nat} {a b c:World} (h:Within B T a b) (k:Within B T b c):Within B T a c :=
 ⟨k.os.trans h.os,k.tape.trans h.tape,k.output.trans h.output,Nat.le_trans h.size k.size,λi hi hn=>(k.block i (Nat.lt_of_lt_of_le hi h.size) hn).trans (h.block i hi hn)⟩
theorem Within.wide {B T B' T':Nat} {a b:World} (h:Within B T a b) (hB:B'<=B) (hT:T<=T'):Within B' T' a b :=
 ⟨h.os,h.tape,h.output,h.size,λi hi hn=>h.block i hi (λhc=>hn ⟨by omega,by omega⟩)⟩
theorem Within.below {B T:Nat} {w0 w w':World} (h:Within B T w w') (hb:Below w0.heap.size w0 w) (hB:w0.heap.size<=B):Below w0.heap.size w0 w' :=
 ⟨h.os.trans hb.os,h.tape.trans hb.tape,h.output.trans hb.output,Nat.le_trans hb.size h.size,λk hk=>(h.block k (Nat.lt_of_lt_of_le hk hb.size) (by omega)).trans (hb.block k hk)⟩
theorem Bs.form {w:World} {v:Value} {l:List Int} (h:Bs w v l):∃a cap,v=.slice a l.length cap:=by obtain⟨_,a,cap,h,_⟩:=h;exact⟨a,cap,h⟩
theorem Bs.cap {w:World} {a:Option Addr} {n cap:Nat} {l:List Int} (h:Bs w (.slice a n cap) l):l.length<=cap/\cap<=9223372036854775807:=by
 obtain⟨_,a',cap',hv,h1,h2,_⟩:=h;simp only[Value.slice.injEq] at hv;obtain⟨-,-,rfl⟩:=hv;exact⟨h1,h2⟩
/-- The value v reads as the log of the bytes a and b. -/
def nQ (w:World) (v:Value) (a b:List Int):Prop:=∃u0 u1,v=.agg #[u0,u1]/\Bs w u0 a/\Bs w u1 b
/-- A log of the call's own: its two slices lie in blocks from B on and below T, apart from each other. -/
def dZ (w:World) (B T:Nat) (v:Value) (a b:List Int):Prop :=
 ∃u0 u1 B0 T0 B1 T1,v=.agg #[u0,u1]/\Row w B0 T0 u0 a/\Row w B1 T1 u1 b/\B<=B0/\T0<=T/\B<=B1/\T1<=T/\(T0<=B1\/T1<=B0)
theorem nQ.below {w w':World} {v:Value} {a b:List Int} (h:nQ w v a b) (hb:Below w.heap.size w w'):nQ w' v a b :=
 let ⟨u0,u1,hv,h0,h1⟩:=h;⟨u0,u1,hv,h0.below hb,h1.below hb⟩
theorem dZ.v {w:World} {B T:Nat} {v:Value} {a b:List Int} (h:dZ w B T v a b):nQ w v a b :=
 let ⟨u0,u1,_,_,_,_,hv,h0,h1,_⟩:=h;⟨u0,u1,hv,h0.bs,h1.bs⟩
theorem dZ.below {w w':World} {B T:Nat} {v:Value} {a b:List Int} (h:dZ w B T v a b) (hb:Below w.heap.size w w'):dZ w' B T v a b :=
 let ⟨u0,u1,B0,T0,B1,T1,hv,h0,h1,r⟩:=h;⟨u0,u1,B0,T0,B1,T1,hv,h0.below hb,h1.below hb,r⟩
theorem dZ.wide {w:World} {B T B' T':Nat} {v:Value} {a b:List Int} (h:dZ w B T v a b) (hB:B'<=B) (hT:T<=T'):dZ w B' T' v a b :=
 let ⟨u0,u1,B0,T0,B1,T1,hv,h0,h1,r0,r1,r2,r3,r4⟩:=h;⟨u0,u1,B0,T0,B1,T1,hv,h0,h1,by omega,by omega,by omega,by omega,r4⟩
theorem dZ.set {w:World} {g i B T:Nat} {v x:Value} {a b:List Int} (h:dZ w B T v a b) (hd:g < B\/T<=g):dZ (w.setCell ⟨g,i,none⟩ x) B T v a b :=
 let ⟨u0,u1,B0,T0,B1,T1,hv,h0,h1,r0,r1,r2,r3,r4⟩:=h
 ⟨u0,u1,B0,T0,B1,T1,hv,h0.set (by omega),h1.set (by omega),r0,r1,r2,r3,r4⟩
theorem dZ.zero (w:World) (B T:Nat) (h:B<=T):dZ w B T (.agg #[.slice none 0 0,.slice none 0 0]) [] [] :=
 ⟨_,_,B,B,B,T,rfl,Row.nil _ _ _,Row.nil _ _ _,Nat.le_refl _,h,Nat.le_refl _,Nat.le_refl _,.inl (Nat.le_refl _)⟩
end Go.Proofs.YthimlcpingkndaaGreatDoor
