/- The proof's texts, part 17. -/
import Derived.Test.YtlneebmlhblleaaGreatTg
namespace Go.Proofs.YtlneebmlhblleaaGreat
open Go.RowKit
set_option linter.unusedVariables false
set_option linter.unusedSimpArgs false
set_option maxHeartbeats 4000000
set_option maxRecDepth 100000
/- BR walked in phases: a load of many cells is taken. -/
theorem pq {P:Program} {ops:Array Oper} {Q:Exit→Act→World→Prop} {S:World→Prop} {n f q:Nat} {ord cs qs:List Nat} {a a':Act} {w:World} (p i d:Nat) {oi:Oper} (ty:TypeId) (x:Operand) (b o:Nat) (vs:List Value) {dd:TypeDesc} (T:mY ops n ord cs qs f) (hS:S w)
  (hc:∀ w,S w→w.rangeAt b o vs) (hu:P.underlying ty=some dd) (h:dV P ops Q S n ord q (p+1) a' w)
  (hi:ops[i]?=some oi:=by rfl) (ho:oi.op=.load ty x:=by rfl) (hx:a.eval x=.pointer (some ⟨b,o,none⟩):=by rfl) (hd:dd.isRow=true:=by rfl) (hz:(P.info? ty).map (·.size)=some vs.length:=by kernel_rfl)
  (hp:(ord.take q)[p]?=some i:=by rfl) (hcs:¬ p ∈ cs:=by decide) (hq:q ∈ qs:=by decide)
  (hg:(oi.dst == some d && Region.wanted oi (yielded ops a.tmps))=true:=by kernel_rfl)
  (ha:eP a d (.agg vs.toArray)=a':=by (conv=>lhs;dsimp only [eP,List.toList_toArray,sF,sG]))
  (hQ:∀ c a w,Q (.panic c) (a.put (some d) (.agg vs.toArray)) w→Q (.panic c) a w:=by exact fun _ _ _ h=>h):dV P ops Q S n ord q p a w:=by
 obtain ⟨h1,h2,h3,h4,h5,h6⟩:=yB T.o
 have hp':ord[p]?=some i:=by
  rw [List.getElem?_take] at hp
  split at hp
  ·exact hp
  ·cases hp
 have hlt:p < n:=by have:=(gs1 hp').1;omega
 simp only [Bool.and_eq_true,beq_iff_eq] at hg
 rw [← ha,← wF] at h
 unfold dV at h ⊢
 rw [show n - p=(n - (p+1))+1 by omega]
 rw [← BX hp'] at h
 exact wpAnyS_first hi (List.mem_of_getElem? hp) (T.parts hq) (Region.noSelect_spec h3) (by rw [hg.1];exact hQ) _ _ _ _ (T.closed (by omega)) (Region.free_spec hi (h4 p i hp' hcs).1) (by simpa using (h4 p i hp' hcs).2) (yieldsIf_load_mid hg.2 ty x ho b o hx vs dd hc hu hd hz) hS (by rw [hg.1];exact h)
/- BR walked in phases: where several operations may come next, each one goes on in an order of its own. -/
theorem ZA {A A':List Nat} (h:(A.all (fun x=>A'.contains x) && A'.all (fun x=>A.contains x))=true) (L:Array Bool):left A L=left A' L:=by
 simp only [Bool.and_eq_true,List.all_eq_true,List.contains_iff_mem] at h
 unfold left
 rw [Bool.eq_iff_iff]
 simp only [List.any_eq_true]
 exact ⟨fun ⟨x,hx,e⟩=>⟨x,h.1 x hx,e⟩,fun ⟨x,hx,e⟩=>⟨x,h.2 x hx,e⟩⟩
section
variable {P : Program} {md : Region.Mode} {ops : Array Oper} {Q : Exit → Act → World → Prop} {S : World → Prop}
theorem QK {A A':List Nat} (hA:∀ L,left A L=left A' L):∀ (n:Nat) (L:Array Bool) (a:Act) (w:World),wpAnyS P md ops Q S A n L a w→wpAnyS P md ops Q S A' n L a w
 | 0,_,_,_,h=>h
 | n+1,L,a,w,h=>by
  refine ⟨fun hl=>h.1 (by rw [hA];exact hl),fun hl=>?_⟩
  have h2:=h.2 (by rw [hA];exact hl)
  exact ⟨h2.1,fun i hi=>wpOp_mono (fun a' w' q=>⟨q.1,QK hA n _ a' w' q.2⟩) (h2.2 i hi)⟩
end
section
variable {P : Program} {ops : Array Oper} {Q : Exit → Act → World → Prop} {S : World → Prop} {n f : Nat} {ord cs qs : List Nat} {a : Act} {w : World}
/-- What is owed of those that may come next. -/
def jG (P:Program) (ops:Array Oper) (Q:Exit→Act→World→Prop) (S:World→Prop) (n:Nat) (ord:List Nat) (q p:Nat) (a:Act) (w:World) (rs:List Nat):Prop :=
 ∀ i ∈ rs,wpOp P ops Q i (fun a' w'=>S w'∧wpAnyS P .any ops Q S (ord.take q) (n - (p+1)) ((dP n (ord.take p)).setIfInBounds i true) a' w') a w
theorem jG.nil {q p:Nat}:jG P ops Q S n ord q p a w []:=fun _ h=>by cases h
theorem jG.cons {q p i:Nat} {rs:List Nat} {oi:Oper} (Gi:List Nat) (hi:ops[i]?=some oi) (hd:(dP n (ord.take p)).setIfInBounds i true=dP n (Gi.take (p+1)))
  (hA:((Gi.take q).all (fun x=>(ord.take q).contains x) && (ord.take q).all (fun x=>(Gi.take q).contains x))=true)
  (h:∀ K:Act→World→Prop,Shut (∀ a w,S w→(S w→dV P ops Q S n Gi q (p+1) a w)→K a w)→if Region.wanted oi (yielded ops a.tmps)=true then Oper.wp P oi a w K Q else K (a.put oi.dst undef) w)
  (hs:jG P ops Q S n ord q p a w rs):jG P ops Q S n ord q p a w (i :: rs):=by
 intro j hj
 rcases List.mem_cons.1 hj with rfl | hj
 ·refine wpOp_step hi (fun K hK=>h K (fun a w hS hW=>hK a w ⟨hS,?_⟩))
  have:=hW hS
  unfold dV at this
  rw [hd]
  exact QK (ZA hA) _ _ _ _ this
 ·exact hs j hj
/-- The table of an order some of whose places (bs) have several that may come next. -/
def qW (ops:Array Oper) (n:Nat) (ord cs bs qs:List Nat) (f:Nat):Bool :=
 (ops.size == n) && ((ord.length == n) && (Region.noSelect ops && ((List.range n).all (fun p=>match ord[p]? with
  | some i=>cs.contains p || (bs.contains p || (Region.free .any ops (dP n (ord.take p)) i && (Region.ready .any ops (dP n (ord.take p))).contains i))
  | none=>false) && ((Region.ready .any ops (dP n (ord.take n))).isEmpty && (cs.all (fun p=>match ord[p]? with
  | some i=>Nat.blt p n && (Region.ready .any ops (dP n (ord.take p)) == [i])
  | none=>false) && ((List.range (n+1)).all (fun p=>(List.range n).all fun k=>!((dP n (ord.take p)).getD k false) || (waits .any ops k).all fun i=>(dP n (ord.take p)).getD i false) &&
  qs.all fun q=>(List.range n).all fun j=>(ord.take q).contains j || (ord.take q).all fun i=>(Ca .any ops j f).contains i))))))
structure nD (ops:Array Oper) (n:Nat) (ord cs bs qs:List Nat) (f:Nat):Prop where
 out:qW ops n ord cs bs qs f=true
variable {bs : List Nat}
theorem uR {c:Option Code} {id:Nat} (h:c.bind (bQ id)=some ops) (T:(c.bind (bQ id)).all (fun o=>qW o n ord cs bs qs f)=true):nD ops n ord cs bs qs f:=by
 rw [h] at T;exact ⟨by simpa using T⟩
theorem nD.all (T':nD ops n ord cs bs qs f):ops.size=n∧ord.length=n∧Region.noSelect ops=true∧(∀ p i,ord[p]?=some i→¬ p ∈ cs→¬ p ∈ bs→Region.free .any ops (dP n (ord.take p)) i=true∧(Region.ready .any ops (dP n (ord.take p))).contains i=true)∧Region.ready .any ops (dP n (ord.take n))=[] ∧
  (∀ p i,p ∈ cs→ord[p]?=some i→p < n∧Region.ready .any ops (dP n (ord.take p))=[i])∧(∀ p,p≤n→wG .any ops (dP n (ord.take p)))∧∀ q,q ∈ qs→Parts .any ops (ord.take q):=by
 have T:=T'.out
 simp only [qW,Bool.and_eq_true,beq_iff_eq,List.all_eq_true,List.mem_range,List.isEmpty_iff] at T
 obtain ⟨h1,h2,h3,h4,h5,h6,h7,h8⟩:=T
 refine ⟨h1,h2,h3,fun p i hp hc hb=>?_,h5,fun p i hc hp=>?_,fun p hp k i hk hi=>?_,fun q hq j hj hn i hi=>?_⟩
 ·have hlt:p < n:=by have:=(gs1 hp).1;omega
  have:=h4 p hlt
  rw [hp] at this
  simp only [Bool.or_eq_true,Bool.and_eq_true,List.contains_iff_mem] at this
  rcases this with h | h | h
  ·exact absurd h hc
  ·exact absurd h hb
  ·exact ⟨h.1,by simpa using h.2⟩
 ·have:=h6 p hc
  rw [hp] at this
  simp only [Bool.and_eq_true,beq_iff_eq,Nat.blt_eq] at this
  exact this
 ·have hkn:k < n:=by
   by_cases hkn:k < n
   ·exact hkn
   ·unfold waits at hi
    rw [Array.getElem?_eq_none (by omega)] at hi
    cases hi
  have:=h7 p (by omega) k hkn
  rw [hk] at this
  simp only [Bool.not_true,Bool.false_or,List.all_eq_true] at this
  exact this i hi
 ·obtain ⟨o,ho⟩:=hj
  have hjn:j < n:=by rw [← h1];exact (Array.getElem?_eq_some_iff.1 ho).1
  have:=h8 q hq j hjn
  simp only [Bool.or_eq_true,List.contains_iff_mem,List.all_eq_true] at this
  rcases this with h | h
  ·exact absurd h hn
  ·exact FZ f i (h i hi)
theorem ZB {id:Nat} (q:Nat) (T:nD ops n ord cs bs qs f) (hm:P.follows .mixedOrders=true) (hS:S w.drew) (h:nD ops n ord cs bs qs f→S w.drew→dV P ops Q S n ord q 0 a w.drew):Code.wp P (.region id ops true) Q a w:=by
 refine wp_region_any hm ?_
 have h1:=T.all.1
 have:=Cb _ _ _ _ (h T hS)
 subst h1
 exact this
/-- The beginning, with the tables of three orders. -/
theorem Ka {id:Nat} {QM cs2 QN QO QS QT:List Nat} (q:Nat) (T:nD ops n ord cs bs qs f) (T2:nD ops n QM cs2 QN qs f) (T3:nD ops n QO QS QT qs f) (hm:P.follows .mixedOrders=true) (hS:S w.drew)
 (h:nD ops n ord cs bs qs f→nD ops n QM cs2 QN qs f→nD ops n QO QS QT qs f→S w.drew→dV P ops Q S n ord q 0 a w.drew):Code.wp P (.region id ops true) Q a w:=ZB q T hm hS fun T=>h T T2 T3
theorem ZC (p i d:Nat) {q:Nat} {oi:Oper} (v:Value) (T:nD ops n ord cs bs qs f) (hy:∀ w,S w→(execOp a.eval oi).run P w=.ok (.value v) w) (hS:S w) (h:dV P ops Q S n ord q (p+1) (eP a d v) w)
  (hp:(ord.take q)[p]?=some i) (hc:¬ p ∈ cs) (hb:¬ p ∈ bs) (hq:q ∈ qs) (hi:ops[i]?=some oi)
  (hg:(oi.dst == some d && Region.wanted oi (yielded ops a.tmps))=true) (hQ:∀ c a w,Q (.panic c) (a.put (some d) v) w→Q (.panic c) a w):dV P ops Q S n ord q p a w:=by
 obtain ⟨h1,h2,h3,h4,h5,h6,h7,h8⟩:=T.all
 have hp':ord[p]?=some i:=by
  rw [List.getElem?_take] at hp
  split at hp
  ·exact hp
  ·cases hp
 have hlt:p < n:=by have:=(gs1 hp').1;omega
 simp only [Bool.and_eq_true,beq_iff_eq] at hg
 rw [← wF] at h
 unfold dV at h ⊢
 rw [show n - p=(n - (p+1))+1 by omega]
 rw [← BX hp'] at h
 exact wpAnyS_first hi (List.mem_of_getElem? hp) (h8 q hq) (Region.noSelect_spec h3) (by rw [hg.1];exact hQ) _ _ _ _ (h7 p (by omega)) (Region.free_spec hi (h4 p i hp' hc hb).1) (by simpa using (h4 p i hp' hc hb).2) (Or.inl ⟨hg.2,hy⟩) hS (by rw [hg.1];exact h)
theorem fU (p i:Nat) {q:Nat} {oi:Oper} (T:nD ops n ord cs bs qs f) (hc:p ∈ cs) (hp:(ord.take q)[p]?=some i) (hi:ops[i]?=some oi)
  (h:∀ K:Act→World→Prop,Shut (∀ a w,S w→(S w→dV P ops Q S n ord q (p+1) a w)→K a w)→if Region.wanted oi (yielded ops a.tmps)=true then Oper.wp P oi a w K Q else K (a.put oi.dst undef) w):dV P ops Q S n ord q p a w:=by
 obtain ⟨h1,h2,h3,h4,h5,h6,h7,h8⟩:=T.all
 have hp':ord[p]?=some i:=by
  rw [List.getElem?_take] at hp
  split at hp
  ·exact hp
  ·cases hp
 have hlt:=(h6 p i hc hp').1
 have hr:=(h6 p i hc hp').2
 have hun:(dP n (ord.take p)).getD i true=false:=(mem_ready.1 (show i ∈ Region.ready .any ops (dP n (ord.take p)) by rw [hr];simp)).1
 have hl:left (ord.take q) (dP n (ord.take p))=true:=BZ (List.mem_of_getElem? hp) hun
 unfold dV
 rw [show n - p=(n - (p+1))+1 by omega]
 refine ⟨fun h=>absurd hl (by rw [h];simp),fun _=>⟨fun h=>absurd hr (by rw [h];simp),fun j hj=>?_⟩⟩
 rw [hr] at hj
 obtain rfl:j=i:=by simpa using hj
 exact wpOp_step hi (fun K hK=>h K (fun a w hS hW=>hK a w ⟨hS,by rw [BX hp'];exact hW hS⟩))
/-- Several may come next. -/
theorem Cu (p:Nat) {q:Nat} (rs:List Nat) (hr:Region.ready .any ops (dP n (ord.take p))=rs) (hl:left (ord.take q) (dP n (ord.take p))=true) (hp:p < n) (hne:rs≠[])
  (h:jG P ops Q S n ord q p a w rs):dV P ops Q S n ord q p a w:=by
 unfold dV
 rw [show n - p=(n - (p+1))+1 by omega]
 refine ⟨fun hl'=>?_,fun _=>⟨fun h'=>absurd (hr.symm.trans h') hne,fun i hi=>h i (by rw [← hr];exact hi)⟩⟩
 rw [hl] at hl'
 cases hl'
theorem Ab {S':World→Prop} (q q':Nat) (hl:left (ord.take q) (dP n (ord.take q))=false) (hS:S' w) (h:S' w→dV P ops Q S' n ord q' q a w):dV P ops Q S n ord q q a w:=by
 have h:=Cb _ _ _ _ (h hS)
 unfold dV
 revert h
 generalize n - q=m
 intro h
 cases m with
 | zero=>exact h
 | succ m=>exact ⟨fun _=>h,fun hh=>absurd hh (by rw [hl];simp)⟩
theorem wP {q:Nat} (T:nD ops n ord cs bs qs f) (h:Q .normal a w):dV P ops Q S n ord q n a w:=by
 unfold dV
 rw [Nat.sub_self]
 exact ⟨T.all.2.2.2.2.1,h⟩
end
theorem dK {P:Program} {ops:Array Oper} {Q:Exit→Act→World→Prop} {S:World→Prop} {n f q:Nat} {ord cs bs qs:List Nat} {a a':Act} {w:World} (p i d:Nat) {oi:Oper} {v:Value} (T:nD ops n ord cs bs qs f) (hS:S w) (h:dV P ops Q S n ord q (p+1) a' w)
  (hp:(ord.take q)[p]?=some i:=by rfl) (hc:¬ p ∈ cs:=by decide) (hb:¬ p ∈ bs:=by decide) (hq:q ∈ qs:=by decide)
  (hi:ops[i]?=some oi:=by rfl)
  (hg:(oi.dst == some d && Region.wanted oi (yielded ops a.tmps))=true:=by kernel_rfl)
  (hy:∀ w,S w→(execOp a.eval oi).run P w=.ok (.value v) w:=by (intro w s;(try dsimp only at s);go_simp <;> with_reducible rfl))
  (ha:eP a d v=a':=by (conv=>lhs;dsimp only [eP,List.toList_toArray,sF,sG]))
  (hQ:∀ c a w,Q (.panic c) (a.put (some d) v) w→Q (.panic c) a w:=by exact fun _ _ _ h=>h):dV P ops Q S n ord q p a w :=
 ZC p i d v T hy hS (by rw [ha];exact h) hp hc hb hq hi hg hQ
/- A list of ah that is copied and grows by one: as it is read, and as it is then the rV own. -/
/-- Fj as they lay in w. -/
def Kc (w:World) (_:World) (c:List Value) (m:aF):Prop:=sK w c m Any
theorem ji.at {w x:World} {S:Nat→Prop} {v:Value} {l:List aF} (h:ji w S v l) (hb:Below w.heap.size w x):Rd 4 (Kc w) x v l:=by
 rcases h with ⟨rfl,rfl⟩ | ⟨g,cap,cur,cs,fs,hv,hh,h1,h2,h3,h4,h5,h6,h7⟩
 ·exact Rd.nil x
 ·refine ⟨some ⟨g,0,none⟩,cap,cs,hv,h1,h2,(fun h=>by cases h),fun i m hm=>⟨(h5 i m hm).1,(h5 i m hm).2.1⟩,fun hp=>⟨g,0,rfl,Nat.lt_of_lt_of_le (lt_of_heap hh) hb.size,fun i j u hi hu=>?_⟩⟩
  have hh':x.heap[g]?=some (.cells cur _ (0,0)):=(hb.block g (lt_of_heap hh)).trans hh
  rw [Nat.zero_add,cell_of_row x g _ cur _ (0,0) hh']
  exact (h5 i l[i] (aK hi)).2.2 j u hu
theorem Cv {w:World}:∀ (x:World) (c:List Value) (m:aF),Kc w x c m→∀ y ∈ c,y.oneCell'=true:=by
 rintro x c m ⟨u,rfl,h,-⟩ y hy
 obtain ⟨a,n,cp,rfl⟩:=h.bs.aG
 simp only [List.mem_cons,List.not_mem_nil,or_false] at hy
 rcases hy with rfl | rfl | rfl | rfl <;> rfl
theorem QU {w:World} {B n:Nat} {v:Value} {l:List aF} {xs:List Value} {S:Nat→Prop} (h:w.ownsRow B 124 4 v n xs) (hn:l.length=n)
  (hx:∀ i m,l[i]?=some m→∃ c,c.length=4∧sK w c m Any∧∀ j y,c[j]?=some y→xs[i * 4+j]?=some y) (hS:∀ g,v.ownBlock=some g→S g):ji w S v l:=by
 subst hn
 rcases h.2 with ⟨hn,hl⟩ | ⟨g,cap,cur,hv,hg,hh,h1,h2,h3,h4⟩
 ·exact .inl ⟨hn,List.eq_nil_of_length_eq_zero hl⟩
 ·have hpick:∀ i,∃ c,i < l.length→∀ m,l[i]?=some m→c.length=4∧sK w c m Any∧∀ j y,c[j]?=some y→xs[i * 4+j]?=some y:=by
   intro i
   by_cases hi:i < l.length
   ·obtain ⟨c,hc⟩:=hx i l[i] (aK hi)
    exact ⟨c,fun _ m hm=>by rw [aK hi] at hm;cases hm;exact hc⟩
   ·exact ⟨[],fun h=>absurd h hi⟩
  obtain ⟨cs,hcs⟩:=Classical.axiomOfChoice hpick
  refine .inr ⟨g,cap,cur,cs,fun _ _=>False,hv,hh,h1,h2,h3,hS g (by rw [hv];rfl),fun i m hm=>?_,by simp,by simp⟩
  obtain ⟨q1,q2,q3⟩:=hcs i (gs1 hm).1 m hm
  refine ⟨q2,q1,fun j y hy=>?_⟩
  have:=q3 j y hy
  rw [← h4,List.getElem?_take] at this
  split at this
  ·simpa using this
  ·cases this
section
variable {P : Program} {w : World} {e t : TypeId} {sz bytes B n : Nat} {v : Value} {xs : List Value}
/-- One element more put behind a row of the call's own, in a region that draws. -/
theorem Ac {o:Oper} {a:Act} {K:Act→World→Prop} {Q:Exit→Act→World→Prop} (d:Nat) (hd:o.dst=some d) (s y:Operand)
  (ho:o.op=.call { callee:=.builtin .append,args:=#[s,y],argTypes:=#[t,t] }) (h:w.ownsRow B e sz v n xs) {i:TypeInfo} {z:Value} (ht:P.underlying t=some (.slice e)) (hi:P.info? e=some i) (hz:i.zero=some z) (hsize:i.size=sz) (hby:i.bytes=bytes) (hzs:z.cells.size=sz) (hsz:0 < sz)
  (hs:a.eval s=v) (c:List Value) (hc:c.length=sz) (ad:Addr) (cc:Nat) (hy:a.eval y=.slice (some ad) 1 cc) (hcell:∀ j u,c[j]?=some u→w.cell? (ad.add j)=some u) (h1:∀ u ∈ c,u.oneCell'=true) (hl:n+1≤maxLen) (hb:(n+1) * bytes≤140737488355328) (hB:B≤w.heap.size)
  (k:∀ v' w',w'.ownsRow B e sz v' (n+1) (xs ++ c)→w.grownBy w' v.ownBlock→(v'.ownBlock=v.ownBlock∨v'.ownBlock=some w.heap.size)→K (a.put (some d) v') w'):o.wp P a w K Q:=by
 obtain ⟨v',w',hr,h2,h3,h4,h5⟩:=run_append_own_at (P:=P) w B t o.type e i z sz bytes ht hi hz hsize hby hzs hsz v n xs h ad 1 cc c (by omega) hcell h1 hl hb hB
 unfold Oper.wp execOp
 simp only [ho,resolve,invoke,builtin,Sem.run_bind,Sem.run_pure,Result.andThen_ok,List.map_toArray,List.map_cons,List.map_nil,hs,hy,hr]
 have:=k v' w' h2 h3 h5
 rw [← hd] at this
 exact this
end
/- A whole list put behind a row of the call's own; parts of a list. -/
section
variable {α : Type} {P : Program} {w : World} {e t : TypeId} {sz bytes B n : Nat} {RE : World → List Value → α → Prop} {v u : Value} {m : List α} {xs : List Value}
theorem ZE (h:w.ownsRow B e sz v n xs) (hu:Rd sz RE w u m) (hone:∀ c x,RE w c x→∀ y ∈ c,y.oneCell'=true) (ty:TypeId) {i:TypeInfo} {z:Value} (ht:P.underlying t=some (.slice e)) (hi:P.info? e=some i) (hz:i.zero=some z) (hsize:i.size=sz) (hby:i.bytes=bytes) (hzs:z.cells.size=sz) (hsz:0 < sz)
  (hl:n+m.length≤maxLen) (hb:(n+m.length) * bytes≤140737488355328) (hB:B≤w.heap.size) :
  ∃ v' w' ys,(Builtin.append_ #[t,t] ty #[v,u]).run P w=.ok v' w'∧w'.ownsRow B e sz v' (n+m.length) (xs ++ ys)∧ys.length=m.length * sz∧(∀ i x,m[i]?=some x→∃ c,c.length=sz∧RE w c x∧∀ j y,c[j]?=some y→ys[i * sz+j]?=some y)∧w.grownBy w' v.ownBlock∧(v'.ownBlock=v.ownBlock∨v'.ownBlock=some w.heap.size):=by
 obtain ⟨a,cap,cs,rfl,h1,h2,h3,h4,h5⟩:=hu
 cases a with
 | none =>
  have hc:=h3 rfl
  have hm:m=[]:=List.eq_nil_of_length_eq_zero (by omega)
  subst hm
  subst hc
  exact ⟨v,w,[],run_append_owned_none (P:=P) (w:=w) B t ty e i sz ht hi v n xs h,by simpa using h,by simp,by simp,World.grownBy.refl _ _,.inl rfl⟩
 | some ad =>
  have hlen:∀ i,i < m.length→(cs i).length=sz:=fun i hi=>(h4 i m[i] (aK hi)).2
  have hfl:=FT m.length hlen
  have hnews:∀ k y,((List.range m.length).flatMap cs)[k]?=some y→w.cell? (ad.add k)=some y:=by
   intro k y hk
   have hk2:k < m.length * sz:=by have:=(gs1 hk).1;omega
   have hd:k=k / sz * sz+k % sz:=by have:=Nat.div_add_mod k sz;rw [Nat.mul_comm];omega
   have hi1:k / sz < m.length:=Nat.div_lt_of_lt_mul (by rw [Nat.mul_comm];exact hk2)
   have hj1:k % sz < sz:=Nat.mod_lt _ hsz
   have hk3:=hk
   rw [hd,BF m.length hlen _ _ hi1 hj1] at hk3
   obtain ⟨b,off,hab,-,hcell⟩:=h5 (Nat.lt_of_le_of_lt (Nat.zero_le _) hi1)
   cases hab
   have:=hcell _ _ _ hi1 hk3
   rw [Addr.add_lit]
   rw [Nat.add_assoc,← hd] at this
   exact this
  have Jh:∀ y ∈ (List.range m.length).flatMap cs,y.oneCell'=true:=by
   intro y hy
   obtain ⟨i,hi',hy⟩:=List.mem_flatMap.1 hy
   have hil:i < m.length:=by simpa using hi'
   exact hone _ _ (h4 i m[i] (aK hil)).1 y hy
  obtain ⟨v',w',hr,k2,k3,k4,k5⟩:=run_append_own_at (P:=P) w B t ty e i z sz bytes ht hi hz hsize hby hzs hsz v n xs h ad m.length cap ((List.range m.length).flatMap cs) hfl hnews Jh hl hb hB
  refine ⟨v',w',(List.range m.length).flatMap cs,hr,k2,hfl,fun i x hx=>?_,k3,k5⟩
  have hil:i < m.length:=(gs1 hx).1
  refine ⟨cs i,hlen i hil,(h4 i x hx).1,fun j y hy=>?_⟩
  have hj:j < sz:=by have:=(gs1 hy).1;have:=hlen i hil;omega
  rw [BF m.length hlen i j hil hj]
  exact hy
theorem QV {o:Oper} {a:Act} {K:Act→World→Prop} {Q:Exit→Act→World→Prop} (d:Nat) (hd:o.dst=some d) (s y:Operand)
  (ho:o.op=.call { callee:=.builtin .append,args:=#[s,y],argTypes:=#[t,t] }) (h:w.ownsRow B e sz v n xs) (hu:Rd sz RE w u m) (hone:∀ c x,RE w c x→∀ y ∈ c,y.oneCell'=true) {i:TypeInfo} {z:Value} (ht:P.underlying t=some (.slice e)) (hi:P.info? e=some i) (hz:i.zero=some z) (hsize:i.size=sz) (hby:i.bytes=bytes) (hzs:z.cells.size=sz) (hsz:0 < sz)
  (hs:a.eval s=v) (hy:a.eval y=u) (hl:n+m.length≤maxLen) (hb:(n+m.length) * bytes≤140737488355328) (hB:B≤w.heap.size)
  (k:∀ v' w' ys,w'.ownsRow B e sz v' (n+m.length) (xs ++ ys)→ys.length=m.length * sz→(∀ i x,m[i]?=some x→∃ c,c.length=sz∧RE w c x∧∀ j y,c[j]?=some y→ys[i * sz+j]?=some y)→w.grownBy w' v.ownBlock→(v'.ownBlock=v.ownBlock∨v'.ownBlock=some w.heap.size)→K (a.put (some d) v') w'):o.wp P a w K Q:=by
 obtain ⟨v',w',ys,hr,h2,h3,h4,h5,h6⟩:=ZE (P:=P) (t:=t) h hu hone o.type ht hi hz hsize hby hzs hsz hl hb hB
 unfold Oper.wp execOp
 simp only [ho,resolve,invoke,builtin,Sem.run_bind,Sem.run_pure,Result.andThen_ok,List.map_toArray,List.map_cons,List.map_nil,hs,hy,hr]
 have:=k v' w' ys h2 h3 h4 h5 h6
 rw [← hd] at this
 exact this
/-- The first ones, the last ones of a list that is read. -/
theorem Rd.take {ad:Option Addr} {c k:Nat} (h:Rd sz RE w (.slice ad m.length c) m) (hk:k≤m.length):Rd sz RE w (.slice ad k c) (m.take k):=by
 obtain ⟨a,cap,cs,hv,h1,h2,h3,h4,h5⟩:=h
 cases hv
 have hl:(m.take k).length=k:=by simp;omega
 refine ⟨ad,c,cs,by rw [hl],by omega,h2,h3,fun i x hx=>h4 i x ?_,fun hp=>?_⟩
 ·rw [List.getElem?_take] at hx
  split at hx
  ·exact hx
  ·cases hx
 ·rw [hl] at hp
  obtain ⟨b,off,ha,hb,hc⟩:=h5 (by omega)
  exact ⟨b,off,ha,hb,fun i j u hi hu=>hc i j u (by omega) hu⟩
theorem Rd.drop {b off c k:Nat} (h:Rd sz RE w (.slice (some ⟨b,off,none⟩) m.length c) m) (hk:k≤m.length):Rd sz RE w (.slice (some ⟨b,off+k * sz,none⟩) (m.length - k) (c - k)) (m.drop k):=by
 obtain ⟨a,cap,cs,hv,h1,h2,h3,h4,h5⟩:=h
 cases hv
 have hl:(m.drop k).length=m.length - k:=by simp
 refine ⟨some ⟨b,off+k * sz,none⟩,c - k,fun i=>cs (k+i),by rw [hl],by omega,by omega,(fun h=>by cases h),fun i x hx=>h4 (k+i) x (by rw [List.getElem?_drop] at hx;exact hx),fun hp=>?_⟩
 rw [hl] at hp
 obtain ⟨b',off',ha,hb,hc⟩:=h5 (by omega)
 cases ha
 refine ⟨b,off+k * sz,rfl,hb,fun i j u hi hu=>?_⟩
 have:=hc (k+i) j u (by omega) hu
 rw [Nat.add_mul,← Nat.add_assoc] at this
 exact this
end
/- How many went of a box behind a pointer; the oldest cut off. -/
/-- How many au a box behind a pointer holds. -/
def pE (w:World) (g o:Nat):Nat:=match w.cell? ⟨g,o+5,none⟩ with | some (.slice _ n _)=>n | _=>0
theorem QW {w:World} {S:Nat→Prop} {l:List bf} {b off c:Nat} (h:fP w S (.slice (some ⟨b,off,none⟩) l.length c) l) (hl:1 < l.length):fP w S (.slice (some ⟨b,off+1 * 2,none⟩) (l.length - 1) (c - 1)) (l.drop 1):=by
 refine ⟨h.1.drop (by omega),fun a n c' e=>?_⟩
 obtain ⟨hS,cur,hh,-,hs⟩:=h.2 ⟨b,off,none⟩ l.length c rfl
 obtain ⟨a0,cap,cs,hv,hle,-⟩:=h.1
 simp only [Value.slice.injEq,true_and] at hv
 obtain ⟨-,rfl⟩:=hv
 cases e
 exact ⟨hS,cur,hh,rfl,by simp only at hs ⊢;omega⟩
/- A fQ goes out of a box of a gH. -/
theorem QX {w w':World} {o:Oper} {a:Act} {K:Act→World→Prop} {Q:Exit→Act→World→Prop} (m x:Operand) (hd:o.dst=none) (ho:o.op=.call { callee:=.builtin .delete,args:=#[m,x],argTypes:=#[106,135] }) {m' x':Value} (h1:a.eval m=m') (h2:a.eval x=x') (hr:(Builtin.delete_ #[106,135] o.type #[m',x']).run Tryz.prog w=.ok (.tuple #[]) w') (k:K a w'):o.wp Tryz.prog a w K Q:=by
 unfold Oper.wp execOp
 simp only [ho,resolve,invoke,builtin,Sem.run_bind,Sem.run_pure,Result.andThen_ok,List.map_toArray,List.map_cons,List.map_nil,h1,h2,hr]
 show K (a.put o.dst _) _
 rw [hd]
 exact k
theorem ZF:(Tryz.f120.body.bind (bQ 1)).all (fun o=>dQ o 6 [0,1,2,3,4,5] [5] [5,6] 8)=true:=by kernel_rfl
theorem ZG:(Tryz.f120.body.bind (bQ 2)).all (fun o=>dQ o 17 [0,1,2,3,4,5,6,7,8,9,10,11,12,13,14,15,16] [12,13,16] [14,17] 8)=true:=by kernel_rfl
theorem ZH {w:World} {g i j:Nat} {v:Value} (h:i≠j):(w.setCell ⟨g,i,none⟩ v).cell? ⟨g,j,none⟩=w.cell? ⟨g,j,none⟩:=by
 refine World.cell?_setCell_other _ _ _ _ ?_
 intro e
 exact h (by cases e;rfl)
/-- Where the loop stands that cuts the oldest off. -/
def Cut (wt w wr:World) (S:Nat→Prop) (gd g n i gb:Nat) (a:aJ) (b:aD) (ms:List aF) (gs:List bf) (u0 u1:Value) (E:aX):Prop :=
 ∃ S' lost l,aW wt wr S' gd g n (aL a i ⟨b.name,b.valid,b.next,b.seq,ms,l,lost⟩) u0 u1 E∧(∀ k,S' k→S k∨w.heap.size≤k)∧iU w wr S gd g∧dX lost l=dX b.lost gs∧l.length≤1001
theorem QY (wt w:World) (S:Nat→Prop) (gd g n i j gb cap:Nat) (a:aJ) (b:aD) (m:aF) (u0 u1:Value) (E:aX) (h:aW wt w S gd g n a u0 u1 E) (hb:a.boxes[i]?=some b) (hu:u0=.slice (some ⟨gb,0,none⟩) a.boxes.length cap) (hm:b.ah[j]?=some m) (hgl:b.au.length≤1000) :
  Calls Tryz.prog 120 #[.pointer (some ⟨gd,0,none⟩),.pointer (some ⟨gb,i * 7,none⟩),.agg #[.int .i64 b.valid,.int .i64 m.uid]] w fun e w'=>e=.returned (.tuple #[])∧∃ S',aW wt w' S' gd g n (aL a i (bG b j)) u0 u1 (kJ E b.valid m.uid)∧(∀ k,S' k→S k∨w.heap.size≤k)∧iU w w' S gd g:=by
 have hil:=(gs1 hb).1
 have A1:Below w.heap.size w ((w.alloc (.cells #[.int .i64 b.valid,.int .i64 m.uid] 135)).drew):=(bn _ _).drew
 have hk1:((w.alloc (.cells #[.int .i64 b.valid,.int .i64 m.uid] 135)).drew).heap[w.heap.size]?=some (.cells #[.int .i64 b.valid,.int .i64 m.uid] 135 (0,0)):=aV w _
 have h1:=h.below A1
 obtain ⟨_,_,_,_,_,-,-,-,-,-,-,-,-,-,-,i0,-,i2,-⟩:=h.read hb
 have hE:=h.ents b (List.mem_of_getElem? hb)
 have im:aB m.uid:=hE.i64 m (List.mem_of_getElem? hm)
 have HI:Hid (aB m.uid∧aB b.seq):=⟨im,i2⟩
 have dA:Hid (((w.alloc (.cells #[.int .i64 b.valid,.int .i64 m.uid] 135)).drew).cell? ⟨gd,2,none⟩=some (.map (some g))∧((w.alloc (.cells #[.int .i64 b.valid,.int .i64 m.uid] 135)).drew).rangeAt w.heap.size 0 [.int .i64 b.valid,.int .i64 m.uid]):=⟨(cell_of_row _ gd 2 _ _ (0,0) h1.cells).trans rfl,fC hk1⟩
 obtain ⟨w3,hrun,hM,hG⟩:=h1.map.drop i0 im 0
 have sV:=ak hrun
 have bM:=lt_of_heap h1.cells
 have HD:=ak (h1.mapped hb hG hM (ms:=b.ah.take j ++ b.ah.drop (j+1)) (hE.del hm) (fun v ms hne he=>he.Qm hne) (fun e he=>h1.high e (List.mem_filter.1 he).1))
 have HT:=ak (Gf (fT A1 (S:=S) (gd:=gd) (g:=g)) hG)
 have HK:=ak (p8 hG hk1 (h1.off hk1 (by decide) (by decide)).2.1)
 have HSL:Hid (∀ k,S k→k < w.heap.size):=fun k hk=>(h.low k hk).2.1
 have QZ:Hid (bG b j=⟨b.name,b.valid,b.next,b.seq,b.ah.take j ++ b.ah.drop (j+1),(dX b.lost (b.au ++ [⟨m.uid,b.seq⟩])).2,(dX b.lost (b.au ++ [⟨m.uid,b.seq⟩])).1⟩):=by show _=_;unfold bG;rw [hm]
 have hw0:=h.base.size
 have hs3:w.heap.size < w3.heap.size:=by have:=hG.size;simp at this;omega
 clear h h1 hE im i0 i2 hrun hM hG A1 hk1 hm
 go_enter Tryz.func120,Tryz.ntmps120
 go_upto_region 1 with fail
 refine eF 5 (S:=fun w'=>w'.cell? ⟨gd,2,none⟩=some (.map (some g))∧w'.rangeAt w.heap.size 0 [.int .i64 b.valid,.int .i64 m.uid]) (eB (by kernel_rfl) ZF) (by kernel_rfl) dA.out (fun aj aks=>?_)
 refine tks 0 0 6 aj aks ?_
 refine tks 1 1 7 aj aks ?_
 refine tks 2 2 8 aj aks ?_
 refine tks 3 3 9 aj aks ?_
 refine pq 4 4 10 135 (.tmp 5) w.heap.size 0 [.int .i64 b.valid,.int .i64 m.uid] aj aks (fun w h=>h.2) pW ?_
 refine gL (S':=fun w'=>True) 5 6 aj (by decide) trivial (fun aks=>?_)
 refine cls 5 5 aj (by decide) rfl rfl (fun K hK=>?_)
 refine QX _ _ rfl rfl rfl rfl sV.out ?_
 refine hK.out _ _ trivial (fun aks=>?_)
 clear hK K
 refine eG aj ?_
 go_upto_region 2 with fail
 clear sV dA bM
 generalize hE1:kJ E b.valid m.uid=E1 at HD
 have yI:Hid (kJ E b.valid m.uid=E1):=hE1
 clear hE1
 generalize b.ah.take j ++ b.ah.drop (j+1)=ms at HD QZ
 have hb1:(aL a i ⟨b.name,b.valid,b.next,b.seq,ms,b.au,b.lost⟩).boxes[i]?=some ⟨b.name,b.valid,b.next,b.seq,ms,b.au,b.lost⟩:=List.getElem?_set_self hil
 have hu1:u0=.slice (some ⟨gb,0,none⟩) (aL a i ⟨b.name,b.valid,b.next,b.seq,ms,b.au,b.lost⟩).boxes.length cap:=by rw [hu];simp [aL]
 have A4:Below w3.heap.size w3 ((w3.alloc (.cells #[.int .i64 m.uid,.int .i64 b.seq] 126)).drew):=(bn _ _).drew
 have D3:Below w3.heap.size w3 w3.drew:=bd _ _
 obtain ⟨fF,cap',v0,v5,f,e1,-,-,hlb,hgs,fz,⟨-,-,-,c3,-,c5,-⟩,-,q5,hf,-⟩:=HD.out.read hb1
 rw [hu1] at e1
 simp only [Value.slice.injEq,Option.some.injEq,Addr.mk.injEq,and_true,true_and] at e1
 obtain ⟨rfl,rfl⟩:=e1
 simp only at c3 c5 q5
 obtain ⟨va,vc,rfl,-⟩:=q5.1.form
 have HS2:Hid (w3.drew.cell? ⟨gb,i * 7+5,none⟩=some (.slice va b.au.length vc)∧w3.drew.cell? ⟨gb,i * 7+3,none⟩=some (.int .i64 b.seq)∧w3.drew.cell? ⟨w.heap.size,1,none⟩=some (.int .i64 m.uid)):=⟨(D3.cell (p:=⟨gb,_,none⟩) hlb).trans c5,(D3.cell (p:=⟨gb,_,none⟩) hlb).trans c3,(cell_of_row _ _ 1 _ _ (0,0) (ay D3 HK.out)).trans rfl⟩
 have yJ:Hid (((w3.alloc (.cells #[.int .i64 m.uid,.int .i64 b.seq] 126)).drew).cell? ⟨gb,i * 7+5,none⟩=some (.slice va b.au.length vc)∧((w3.alloc (.cells #[.int .i64 m.uid,.int .i64 b.seq] 126)).drew).cell? ⟨gb,i * 7+3,none⟩=some (.int .i64 b.seq)∧((w3.alloc (.cells #[.int .i64 m.uid,.int .i64 b.seq] 126)).drew).cell? ⟨w.heap.size,1,none⟩=some (.int .i64 m.uid)):=⟨(A4.cell (p:=⟨gb,_,none⟩) hlb).trans c5,(A4.cell (p:=⟨gb,_,none⟩) hlb).trans c3,(cell_of_row _ _ 1 _ _ (0,0) (ay A4 HK.out)).trans rfl⟩
 have qX:Hid (∀ k u,[Value.int .i64 m.uid,Value.int .i64 b.seq][k]?=some u→((w3.alloc (.cells #[.int .i64 m.uid,.int .i64 b.seq] 126)).drew).cell? ((⟨w3.heap.size,0,none⟩:Addr).add k)=some u):=fun k u hk=>by
  rw [Addr.add_lit,cell_of_row _ w3.heap.size (0+k) #[.int .i64 m.uid,.int .i64 b.seq] 126 (0,0) (show ((w3.alloc (.cells #[.int .i64 m.uid,.int .i64 b.seq] 126)).drew).heap[w3.heap.size]?=_ from aV w3 _)]
  simpa using hk
 have HD4:=ak (HD.out.below A4)
 have fV:=ak (HT.out.trans (fT A4) (S':=S) (fun k hk=>.inl hk))
 have jT:=ak (ay A4 HK.out)
 have HB1:=ak hb1
 clear HD HT HK A4 D3 c3 c5 q5 hf hb1 hgs fz
 obtain ⟨fF,cap',v0,v5,f,e1,-,-,Cw,hgs,fz,⟨-,-,-,-,-,c5,-⟩,-,q5,hf,-⟩:=HD4.out.read HB1.out
 have gM:u0=_:=e1
 rw [hu1] at gM
 simp only [Value.slice.injEq,Option.some.injEq,Addr.mk.injEq,and_true,true_and] at gM
 obtain ⟨rfl,-⟩:=gM
 rw [yJ.out.1] at c5
 obtain rfl:=Option.some.inj c5
 have Cx:=ak q5
 have Gj:=ak hf
 have H5:Hid (∀ V w5,zZ ((w3.alloc (.cells #[.int .i64 m.uid,.int .i64 b.seq] 126)).drew) w5 (.slice va b.au.length vc) V b.au m.uid b.seq→(w5.cell? ⟨gb,i * 7+5,none⟩=some (.slice va b.au.length vc)∧w5.cell? ⟨gb,i * 7+3,none⟩=some (.int .i64 b.seq)∧w5.cell? ⟨w.heap.size,1,none⟩=some (.int .i64 m.uid))∧(∃ oa on oc,V=.slice oa on oc)∧(∀ k,w5.frozen? ⟨gb,k,none⟩=false)∧gb < w5.heap.size∧Cut wt w (w5.setCell ⟨gb,i * 7+5,none⟩ V) S gd g n i gb a b ms (b.au ++ [⟨m.uid,b.seq⟩]) u0 u1 E1):=fun V w5 hG=>by
  obtain ⟨f',g1,g2,-,g4⟩:=Qu hG HI.out.1 HI.out.2 Cx.out
  obtain ⟨g5,g6⟩:=Zn hG Cx.out (B:=wt.heap.size) (fun k hk=>(HD4.out.low k (Gj.out k hk).1).1) HD4.out.base HD4.out.base.size
  obtain ⟨S5,d1,d2⟩:=HD4.out.au HB1.out hu1 (v:=V) yJ.out.1 (fun f h=>Qu hG HI.out.1 HI.out.2 h) g6 g5
  obtain ⟨gx,cx,ZI,-,-,ex,-,-,hhx,-,Cy,-⟩:=HD4.out.box HB1.out
  rw [hu1] at ex
  simp only [Value.slice.injEq,Option.some.injEq,Addr.mk.injEq,and_true,true_and] at ex
  obtain ⟨rfl,-⟩:=ex
  have kb:=(g4 gb Cw fun hh=>(Gj.out gb hh.1).2 rfl).trans hhx
  have kk:=(g4 w.heap.size (lt_of_heap jT.out) fun hh=>by obtain ⟨-,h2⟩:=hh;exact kN jT.out h2 (by decide)).trans jT.out
  have cc:∀ k,w5.cell? ⟨gb,k,none⟩=((w3.alloc (.cells #[.int .i64 m.uid,.int .i64 b.seq] 126)).drew).cell? ⟨gb,k,none⟩:=fun k=>(cell_of_row _ gb k _ _ (0,0) kb).trans (cell_of_row _ gb k _ _ (0,0) hhx).symm
  refine ⟨⟨(cc _).trans yJ.out.1,(cc _).trans yJ.out.2.1,(cell_of_row _ _ 1 _ _ (0,0) kk).trans rfl⟩,?_,fun k=>frozen_of_row _ gb k _ _ kb,lt_of_heap kb,S5,b.lost,b.au ++ [⟨m.uid,b.seq⟩],?_,fun k hk=>(d2 k hk).elim .inl fun h=>.inr (by have:=fV.out.1;omega),?_,rfl,by simp;omega⟩
  ·obtain ⟨a',c',e',-⟩:=g1.1.form
   exact ⟨_,_,_,e'⟩
  ·simp only [aL,List.set_set] at d1
   exact d1
  ·refine ⟨by rw [aZ];exact Nat.le_trans fV.out.1 g6,fun k h1 h2 h3 h4=>(Below.heap_setCell _ _ _ _ fun e=>?_).trans ((g4 k (Nat.lt_of_lt_of_le h1 fV.out.1) fun hh=>h4 (Gj.out k hh.1).1).trans (fV.out.2.1 k h1 h2 h3 h4)),?_⟩
   ·exact h4 ((show k=gb from e) ▸ Cy)
   ·obtain ⟨o1,o2,o3⟩:=fV.out.2.2
    rcases hG with ⟨q,off,mm,c,-,-,-,-,rfl⟩ | ⟨hb5,-⟩
    ·exact ⟨o1,o2,o3⟩
    ·exact ⟨hb5.os.trans o1,hb5.tape.trans o2,hb5.output.trans o3⟩
 clear q5 hf e1 c5 fz hgs hlb HSL
 refine eF 14 (S:=fun w'=>w'.cell? ⟨gb,i * 7+5,none⟩=some (.slice va b.au.length vc)∧w'.cell? ⟨gb,i * 7+3,none⟩=some (.int .i64 b.seq)∧w'.cell? ⟨w.heap.size,1,none⟩=some (.int .i64 m.uid)) (eB (by kernel_rfl) ZG) (by kernel_rfl) HS2.out (fun aj aks=>?_)
 refine tks 0 0 11 aj aks ?_
 refine tks 1 1 12 aj aks ?_
 refine tks 2 2 13 aj aks ?_
 refine tks 3 3 14 aj aks ?_
 refine tks 4 4 15 aj aks ?_
 refine tks 5 5 16 aj aks ?_
 refine tks 6 6 17 aj aks ?_
 refine tks 7 7 18 aj aks ?_
 refine tks 8 8 19 aj aks ?_
 refine tks 9 9 20 aj aks ?_
 refine tks 10 10 21 aj aks ?_
 refine tks 11 11 22 aj aks ?_
 refine cls 12 12 aj (by decide) rfl rfl (fun K hK=>?_)
 go_simp
 refine hK.out _ _ yJ.out (fun aks=>?_)
 clear hK K HS2
 generalize (w3.alloc (.cells #[.int .i64 m.uid,.int .i64 b.seq] 126)).drew=w4 at HD4 fV yJ qX jT Cx H5 Cw aks ⊢
 refine cls 13 13 aj (by decide) rfl rfl (fun K hK=>?_)
 refine dO (by kernel_rfl) (Zj 24 rfl (.tmp 15) (.tmp 23) rfl Cx.out (by omega) rfl ⟨w3.heap.size,0,none⟩ 1 rfl (x0:=m.uid) (x1:=b.seq) qX.out HI.out.1 HI.out.2 ?_)
 intro V w5 hG
 have HP:=ak hG
 refine hK.out _ _ (H5.out V w5 hG).1 (fun aks=>?_)
 clear hK K hG
 obtain ⟨⟨oa,on,oc,hV⟩,ZJ,hl5,c5⟩:=(H5.out V w5 HP.out).2
 subst hV
 refine gL (S':=fun w'=>True) 14 17 aj (by decide) trivial (fun aks=>?_)
 refine tks 14 14 25 aj aks ?_
 refine tks 15 15 26 aj aks ?_
 refine cls 16 16 aj (by decide) rfl rfl (fun K hK=>?_)
 go_simp
 refine hK.out _ _ trivial (fun aks=>?_)
 clear hK K
 refine eG aj ?_
 go_wp2
 have Ke:=ak (H5.out _ _ HP.out).2.2.2.2
 clear H5 HP Cx Gj HD4 fV yJ qX jT HB1 ZJ hl5 c5 Cw
 generalize w5.setCell ⟨gb,i * 7+5,none⟩ (.slice oa on oc)=w6 at Ke ⊢
 go_loopw [] (fun wr=>Hid (Cut wt w wr S gd g n i gb a b ms (b.au ++ [⟨m.uid,b.seq⟩]) u0 u1 E1)) (fun wr=>pE wr gb (i * 7))
 case atStart=>exact Ke.out
 case round =>
  obtain ⟨S',lost,l,hD,hS',hT,htr,hll⟩:=hrel.out
  clear Ke hrel
  have HD:=ak hD
  have HT:=ak hT
  have hbl:(aL a i ⟨b.name,b.valid,b.next,b.seq,ms,l,lost⟩).boxes[i]?=some ⟨b.name,b.valid,b.next,b.seq,ms,l,lost⟩:=List.getElem?_set_self hil
  have Kg:u0=.slice (some ⟨gb,0,none⟩) (aL a i ⟨b.name,b.valid,b.next,b.seq,ms,l,lost⟩).boxes.length cap:=by rw [hu];simp [aL]
  obtain ⟨fF,cap',v0,v5,f,e1,-,-,hlb,hgs,fz,⟨-,-,-,-,-,c5,c6⟩,-,q5,hf,-⟩:=hD.read hbl
  rw [Kg] at e1
  simp only [Value.slice.injEq,Option.some.injEq,Addr.mk.injEq,and_true,true_and] at e1
  obtain ⟨rfl,rfl⟩:=e1
  simp only at c5 c6 q5
  obtain ⟨va,vc,rfl,-⟩:=q5.1.form
  have yK:Hid (pE wr gb (i * 7)=l.length):=by show pE _ _ _=_;unfold pE;rw [c5]
  have Q0:=ak hbl
  have Cz:=ak htr
  have pF:Hid (∀ k,S' k→S k∨w.heap.size≤k):=hS'
  clear hD hT htr hbl hS'
  by_cases hlt:40 < l.length
  ·obtain ⟨x,hx⟩:∃ x,l[0]?=some x:=⟨l[0],aK (by omega)⟩
   obtain ⟨q,off,cp,hv',hlq,-,y1,-,j1⟩:=bO.cell q5.1 0 x hx
   simp only [Value.slice.injEq,true_and] at hv'
   obtain ⟨rfl,rfl⟩:=hv'
   simp only [Nat.zero_mul,Nat.add_zero] at y1
   have hlt':(40:Int) < l.length:=by omega
   have hne:gb≠q:=fun e=>by
    obtain ⟨h1,-⟩:=q5.2 ⟨q,off,none⟩ _ _ rfl
    exact (hf q h1).2 e.symm
   have hD1:=HD.out.J3 Q0.out Kg j1
   have hT1:=yE (v:=.int .i64 x.seq) (j:=i * 7+6) HD.out Kg (by simpa [aL] using hil) pF.out HT.out
   have hb1:(aL (aL a i ⟨b.name,b.valid,b.next,b.seq,ms,l,lost⟩) i ⟨b.name,b.valid,b.next,b.seq,ms,l,x.seq⟩).boxes[i]?=some ⟨b.name,b.valid,b.next,b.seq,ms,l,x.seq⟩:=List.getElem?_set_self (by simpa [aL] using hil)
   have Gl:u0=.slice (some ⟨gb,0,none⟩) (aL (aL a i ⟨b.name,b.valid,b.next,b.seq,ms,l,lost⟩) i ⟨b.name,b.valid,b.next,b.seq,ms,l,x.seq⟩).boxes.length cap:=by rw [hu];simp [aL]
   have hcx:(wr.setCell ⟨gb,i * 7+6,none⟩ (.int .i64 x.seq)).cell? ⟨gb,i * 7+5,none⟩=some (.slice (some ⟨q,off,none⟩) l.length vc):=by rw [ZH (by omega)];exact c5
   obtain ⟨S2,hD2,hS2⟩:=hD1.au hb1 Gl (w':=wr.setCell ⟨gb,i * 7+6,none⟩ (.int .i64 x.seq)) (v:=.slice (some ⟨q,off+1 * 2,none⟩) (l.length - 1) (vc - 1)) (gs:=l.drop 1) hcx (fun f h=>⟨f,QW h (by omega),fun k hk=>.inl hk,fun k hk=>hk,fun k _ _=>rfl⟩) (Nat.le_refl _) hD1.base
   have Ad:=yE (v:=.slice (some ⟨q,off+1 * 2,none⟩) (l.length - 1) (vc - 1)) (j:=i * 7+5) hD1 Gl (by simpa [aL] using hil) pF.out hT1
   have HN:Hid (Cut wt w ((wr.setCell ⟨gb,i * 7+6,none⟩ (.int .i64 x.seq)).setCell ⟨gb,i * 7+5,none⟩ (.slice (some ⟨q,off+1 * 2,none⟩) (l.length - 1) (vc - 1))) S gd g n i gb a b ms (b.au ++ [⟨m.uid,b.seq⟩]) u0 u1 E1∧pE ((wr.setCell ⟨gb,i * 7+6,none⟩ (.int .i64 x.seq)).setCell ⟨gb,i * 7+5,none⟩ (.slice (some ⟨q,off+1 * 2,none⟩) (l.length - 1) (vc - 1))) gb (i * 7)=l.length - 1):=by
    refine ⟨⟨S2,x.seq,l.drop 1,?_,fun k hk=>(hS2 k hk).elim (pF.out k) fun h=>.inr (by rw [aZ] at h;have:=HT.out.1;omega),Ad,?_,by simp;omega⟩,?_⟩
    ·simp only [aL,List.set_set] at hD2
     exact hD2
    ·rw [← Cz.out]
     exact (Qj (i:=0) hx (by omega)).symm
    ·unfold pE
     obtain ⟨gx,cx,ZI,-,-,ex,-,-,hhx,hsx,-⟩:=hD1.box hb1
     rw [Gl] at ex
     simp only [Value.slice.injEq,Option.some.injEq,Addr.mk.injEq,and_true,true_and] at ex
     obtain ⟨rfl,-⟩:=ex
     rw [cell_of_row _ gb _ _ _ (0,0) (aP hhx),Array.getElem?_setIfInBounds_self_of_lt (by omega)]
   have ZK:l.length≤vc∧vc≤maxLen:=by obtain ⟨_,_,_,e,k1,k2,-⟩:=q5.1;cases e;exact ⟨k1,k2⟩
   have ah3:1≤vc:=by omega
   have ah4:¬ vc=1:=by omega
   have hl1:1≤l.length:=by omega
   clear hD1 hD2 hT1 Ad hb1 Gl hS2 hcx q5 HD HT Q0 Cz pF hx hf ZK
   go_wp2
   go_roundw
   case rel=>exact HN.out.1
   case measure=>rw [HN.out.2,yK.out];omega
  ·have hlt':¬ (40:Int) < l.length:=by omega
   go_wp2
   go_end0
   refine ⟨rfl,S',?_,pF.out,HT.out⟩
   have:=Cz.out
   rw [Qi (by omega)] at this
   rw [QZ.out,← this,yI.out,← hu]
   exact HD.out
/- What slices.IndexFunc and slices.ContainsFunc of boxes do. -/
open Go.RowKit Go.Shelf
theorem Kh (g:Nat) (lb:Array Value) (p:aD→Bool) (v:Value) (l:List aD) (w:World) (hv:cK w v l) (eg:∀ args w,(callFunc g args).run Tryz.prog w=.ok (.enter g args) w)
  (hp:∀ wi x u,Below w.heap.size w wi→bK wi u x→Calls Tryz.prog g (#[u] ++ lb) wi fun e w'=>e=.returned (.bool (p x))∧Below wi.heap.size wi w') :
  Calls Tryz.prog 105 #[v,.func (.func g) #[] lb] w fun e w'=>e=.returned (.int .i64 (bB p l))∧Below w.heap.size w w':=by
 have HV:Hid (∀ wi,Below w.heap.size w wi→cK wi v l):=fun wi h=>hv.below lq h
 have HP:Hid (∀ wi x u,Below w.heap.size w wi→bK wi u x→Calls Tryz.prog g (#[u] ++ lb) wi fun e w'=>e=.returned (.bool (p x))∧Below wi.heap.size wi w'):=hp
 obtain ⟨a,cap,rfl,hlc,hcm⟩:=hv.form
 clear hv hp
 go_enter Tryz.func105,Tryz.ntmps105
 go_wp2
 go_loopw [5,8] (fun _ i wr=>∃ k:Nat,k≤l.length∧i=.int .i64 k∧Hid (∀ j x,j < k→l[j]?=some x→p x=false)∧Hid (Below w.heap.size w wr)) (fun _ i _=>l.length - (intOf i).toNat)
 case atStart=>exact ⟨0,Nat.zero_le _,rfl,(fun j x hj=>absurd hj (Nat.not_lt_zero _)),Below.refl _ _⟩
 case round =>
  obtain ⟨k,hk,rfl,hA,hB⟩:=hrel
  by_cases hlt:k < l.length
  ·obtain ⟨x,hx⟩:∃ x,l[k]?=some x:=⟨l[k],aK hlt⟩
   obtain ⟨b,off,cap',u0,u1,u2,hv',hlb,d0,d1,d2,d3,d4,d5,d6,hu0,hu1,hu2,i0,i1,i2,i3⟩:=cK.cell (HV.out wr hB.out) k x hx
   simp only [Value.slice.injEq,true_and] at hv'
   obtain ⟨rfl,rfl⟩:=hv'
   obtain ⟨ua,un,uc,rfl⟩:=hu0.aG
   obtain ⟨va,vc,rfl,-⟩:=hu1.form
   obtain ⟨wa,wc,rfl,-⟩:=hu2.form
   have hcall:=HP.out wr x (.agg #[.slice ua un uc,.int .i64 x.valid,.int .i64 x.next,.int .i64 x.seq,.slice va x.ah.length vc,.slice wa x.au.length wc,.int .i64 x.lost]) hB.out ⟨_,_,_,rfl,hu0,hu1,hu2,i0,i1,i2,i3⟩
   have HX:Hid (l[k]?=some x):=hx
   clear hx
   cases hq:p x with
   | true =>
    rw [hq] at hcall
    have HQ:Hid (p x=true):=hq
    clear hq
    go_wp2_with (go_at_fn g;refine hcall.mono ?_;rintro e w1 ⟨rfl,B⟩)
    go_ret
    exact ⟨lI (zV hlt HX.out HQ.out hA.out).symm,Below.step hB.out B⟩
   | false =>
    rw [hq] at hcall
    have HQ:Hid (p x=false):=hq
    clear hq
    go_wp2_with (go_at_fn g;refine hcall.mono ?_;rintro e w1 ⟨rfl,B⟩)
    have HB2:Hid (Below w.heap.size w w1):=Below.step hB.out B
    clear B hB
    go_roundw
    case rel =>
     refine ⟨k+1,by omega,by go_num,(show Hid _ from fun j y hj hy=>?_),HB2⟩
     by_cases e:j=k
     ·subst e;rw [HX.out] at hy;cases hy;exact HQ.out
     ·exact hA.out j y (by omega) hy
    case measure=>simp [intOf];omega
  ·obtain rfl:k=l.length:=by omega
   go_wp2
   go_ret
   exact ⟨lI (zW hA.out).symm,hB.out⟩
theorem ZL (g:Nat) (lb:Array Value) (p:aD→Bool) (v:Value) (l:List aD) (w:World) (hv:cK w v l) (eg:∀ args w,(callFunc g args).run Tryz.prog w=.ok (.enter g args) w)
  (hp:∀ wi x u,Below w.heap.size w wi→bK wi u x→Calls Tryz.prog g (#[u] ++ lb) wi fun e w'=>e=.returned (.bool (p x))∧Below wi.heap.size wi w') :
  Calls Tryz.prog 68 #[v,.func (.func g) #[] lb] w fun e w'=>e=.returned (.bool (l.any p))∧Below w.heap.size w w':=by
 have hi:=Kh g lb p v l w hv eg hp
 have HF:Hid (l.any p=decide (0≤bB p l)):=Bu p l
 generalize bB p l=i at hi HF
 obtain ⟨a,cap,rfl,-⟩:=hv.form
 clear hp hv
 go_enter Tryz.func68,Tryz.ntmps68
 go_wp2_with (go_at_call 105;refine hi.mono ?_;rintro e w1 ⟨rfl,B⟩)
 go_ret
 exact ⟨aR HF.out,B⟩
/- find of package o9 gH, ah5, Qf. -/
/-- A box at the gH, without its ah. -/
def wQ (b:aD):aD:=⟨b.name,b.valid,b.next,b.seq,[],b.au,b.lost⟩
theorem ZM {w:World} {c:List Value} {b:aD} {f:Nat→Prop} (h:qA w c b f):vU w c (wQ b) :=
 let ⟨u0,u2,e,h1,h2,r⟩:=h;⟨u0,.slice none 0 0,u2,e,h1.bs,Rd.nil _,h2.1,r⟩
theorem oV.v {w:World} {S:Nat→Prop} {v:Value} {l:List aD} (h:oV w S v l):cK w v (l.map wQ):=by
 obtain ⟨a,cap,cs,hv,h1,h2,h3,h4,h5⟩:=Ow.rd (RE:=fun w c b=>vU w c (wQ b)) (fun w c b f h=>ZM h) h
 refine ⟨a,cap,cs,by rw [List.length_map];exact hv,by rw [List.length_map];exact h1,h2,h3,fun i x hx=>?_,by rw [List.length_map];exact h5⟩
 rw [List.getElem?_map] at hx
 cases hy:l[i]? with
 | none=>rw [hy] at hx;cases hx
 | some y =>
  rw [hy] at hx
  cases hx
  exact h4 i y hy
theorem ZN (u nv:Value) (x:aD) (nm:List Int) (bg:Nat) (w:World) (hu:bK w u x) (hn:Bs w nv nm) (hk:w.cell? ⟨bg,0,none⟩=some nv) (hl:bg < w.heap.size) :
  Calls Tryz.prog 110 #[u,.pointer (some ⟨bg,0,none⟩)] w fun e w'=>e=.returned (.bool (decide (x.name=nm)))∧Below w.heap.size w w':=by
 obtain ⟨u0,u1,u2,rfl,g0,g1,g2,-⟩:=hu
 obtain ⟨a0,n0,c0,rfl⟩:=g0.aG
 obtain ⟨a1,c1,rfl,-⟩:=g1.form
 obtain ⟨a2,c2,rfl,-⟩:=g2.form
 obtain ⟨an,nn,cn,rfl⟩:=hn.aG
 have B:=(Below.refl w.heap.size w).alloc (Nat.le_refl _) (.cells #[.slice a0 n0 c0,.int .i64 x.valid,.int .i64 x.next,.int .i64 x.seq,.slice a1 x.ah.length c1,.slice a2 x.au.length c2,.int .i64 x.lost] 37)
 have HC:=ak (Yg _ _ _ _ _ (g0.below B) (hn.below B))
 have HB:=ak B
 clear g0 g1 g2 hn B
 go_enter Tryz.func110,Tryz.ntmps110
 go_wp2_with (go_at_call 111;refine HC.out.mono ?_;rintro e w1 ⟨rfl,rfl⟩)
 go_ret
 exact ⟨rfl,HB.out⟩
theorem findIdx_map {l:List aD} {nm:List Int}:(l.map wQ).findIdx? (fun x=>decide (x.name=nm))=l.findIdx? (fun x=>decide (x.name=nm)):=by
 rw [List.findIdx?_map]
 rfl
theorem Ki (wt w:World) (S:Nat→Prop) (gd g n:Nat) (a:aJ) (u0 u1 nv:Value) (E:aX) (nm:List Int) (h:aW wt w S gd g n a u0 u1 E) (hn:Bs w nv nm) :
  Calls Tryz.prog 77 #[.pointer (some ⟨gd,0,none⟩),nv] w fun e w'=>∃ p,e=.returned (.pointer p)∧Below w.heap.size w w'∧((p=none∧a.boxes.findIdx? (fun x=>decide (x.name=nm))=none)∨∃ k b gb cap,p=some ⟨gb,k * 7,none⟩∧a.boxes.findIdx? (fun x=>decide (x.name=nm))=some k∧a.boxes[k]?=some b∧u0=.slice (some ⟨gb,0,none⟩) a.boxes.length cap):=by
 have A1:Below w.heap.size w (w.alloc (.cells #[nv] 26)):=bn _ _
 have hk:=aV w (.cells #[nv] 26)
 have h1:=h.below A1
 have d1:(w.alloc (.cells #[nv] 26)).cell? ⟨gd,1,none⟩=some u0:=(cell_of_row _ gd 1 _ _ (0,0) h1.cells).trans rfl
 have bM:=lt_of_heap h1.cells
 have HC:=ak (Kh 110 #[.pointer (some ⟨w.heap.size,0,none⟩)] (fun x=>decide (x.name=nm)) u0 _ _ h1.boxes.v (fun args w=>by kernel_rfl) (fun wi x u hb hu=>ZN u nv x nm w.heap.size wi hu (hn.below (Below.step A1 hb)) ((cell_of_row _ _ 0 _ _ (0,0) (ay hb hk)).trans rfl) (lt_of_heap (ay hb hk))))
 have HA:=ak A1
 have HD:=ak h1
 obtain ⟨na,nn,nc,rfl⟩:=hn.aG
 obtain ⟨va,vc,rfl,hm1,hm2⟩:∃ va vc,u0=.slice va a.boxes.length vc∧a.boxes.length≤vc∧vc≤maxLen:=by
  obtain ⟨x,y,e,k1,k2⟩:=h1.boxes.v.form
  rw [List.length_map] at e k1
  exact ⟨x,y,e,k1,k2⟩
 clear hn h h1 A1 hk
 go_enter Tryz.func77,Tryz.ntmps77
 go_wp2_with fail
 refine HC.out.mono ?_
 rintro e w1 ⟨rfl,B1⟩
 have HD1:=ak (HD.out.below B1)
 have HB1:=ak (Below.step HA.out B1)
 have d1':=(B1.cell (p:=⟨gd,1,none⟩) bM).trans d1
 have Q5:gd < w1.heap.size:=Nat.lt_of_lt_of_le bM B1.size
 clear HC HD HA d1 bM B1
 unfold bB
 rw [findIdx_map]
 cases hf:a.boxes.findIdx? (fun x=>decide (x.name=nm)) with
 | none =>
  have HF:=ak hf
  clear hf
  go_wp2
  go_ret
  exact ⟨none,rfl,HB1.out,.inl ⟨rfl,HF.out⟩⟩
 | some k =>
  have HF:=ak hf
  obtain ⟨hkl,-⟩:=List.findIdx?_eq_some_iff_getElem.1 hf
  obtain ⟨gb,cap,v0,v5,f,e1,-,-,-⟩:=HD1.out.read (aK hkl)
  simp only [Value.slice.injEq,true_and] at e1
  obtain ⟨rfl,rfl⟩:=e1
  have hki:¬ (k:Int) < 0:=by omega
  have ah6:(k:Int) < a.boxes.length:=by omega
  clear hf
  go_wp2
  go_ret
  exact ⟨some ⟨gb,k * 7,none⟩,by simp,HB1.out,.inr ⟨k,_,gb,vc,rfl,HF.out,aK hkl,rfl⟩⟩
theorem ZO (v:Value) (l:List bf) (q:Int) (w:World) (hv:bO w v l) (hl:l.length≤1000) :
  Calls Tryz.prog 123 #[v,.int .i64 q] w fun e w'=>∃ u,e=.returned u∧fB w' (In w.heap.size w'.heap.size) u (l.filter fun x=>decide (q < x.seq))∧Below w.heap.size w w':=by
 have HV:Hid (∀ wi,Below w.heap.size w wi→bO wi v l):=fun wi h=>hv.below dY h
 obtain ⟨a,cap,rfl,hlc,hcm⟩:=hv.form
 obtain ⟨z0,hi,hz0,hz1,hz2⟩:=info_parts yt
 clear hv
 go_enter Tryz.func123,Tryz.ntmps123
 go_wp2
 go_loopw [5,10] (fun lv i wr=>∃ (k:Nat) (va:Option Addr) (vn vc:Nat),k≤l.length∧i=.int .i64 k∧lv=.slice va vn vc∧Hid (Below w.heap.size w wr)∧w.heap.size≤wr.heap.size∧Hid (fB wr (In w.heap.size wr.heap.size) (.slice va vn vc) ((l.take k).filter fun x=>decide (q < x.seq)))) (fun _ i _=>l.length - (intOf i).toNat)
 case atStart=>exact ⟨0,none,0,0,Nat.zero_le _,rfl,rfl,Below.refl _ _,Nat.le_refl _,.inl ⟨rfl,by simp⟩⟩
 case round =>
  obtain ⟨k,va,vn,vc,hk,rfl,rfl,hB,hS,hO⟩:=hrel
  by_cases hlt:k < l.length
  ·obtain ⟨x,hx⟩:∃ x,l[k]?=some x:=⟨l[k],aK hlt⟩
   obtain ⟨b,off,cp,hv',hlb,e0,e1,j0,j1⟩:=bO.cell (HV.out wr hB.out) k x hx
   simp only [Value.slice.injEq,true_and] at hv'
   obtain ⟨rfl,rfl⟩:=hv'
   have hki:(k:Int) < l.length:=by omega
   have HX:=ak hx
   have AB:Below wr.heap.size wr (wr.alloc (.cells #[.int .i64 x.uid,.int .i64 x.seq] 126)):=bn _ _
   have eH:=ak AB
   have HJ:=ak (And.intro j0 j1)
   have Bl:Hid (((l.take k).filter fun x=>decide (q < x.seq)).length≤1000):=Nat.le_trans (List.length_filter_le _ _) (by simp;omega)
   clear hx AB j0 j1
   by_cases hq:q < x.seq
   ·have HQ:=ak hq
    have AP:Below wr.heap.size wr ((wr.alloc (.cells #[.int .i64 x.uid,.int .i64 x.seq] 126)).alloc (.cells #[.int .i64 x.uid,.int .i64 x.seq] 126)):=eH.out.alloc (by simp) _
    have nR:=ak (Ow.below jB hO.out AP)
    have Q6:=ak AP
    have hMs:=AP.size
    have hone:∀ u ∈ [Value.int .i64 x.uid,Value.int .i64 x.seq],u.oneCell'=true:=by simp [Value.oneCell']
    have hp1:((l.take k).filter fun x=>decide (q < x.seq)).length+1≤maxLen:=by have:=Bl.out;unfold maxLen;omega
    have hp2:(((l.take k).filter fun x=>decide (q < x.seq)).length+1) * 16≤140737488355328:=by have:=Bl.out;omega
    clear AP
    go_wp2_with (at_builtin;refine Bf rfl (.tmp 18) (.tmp 20) rfl jB (B:=w.heap.size) (M:=wr.heap.size) nR.out hMs hS Tryz.underlying35 hi hz0 hz1 hz2 rfl (by omega) rfl x [.int .i64 x.uid,.int .i64 x.seq] rfl ⟨rfl,HJ.out⟩ ⟨wr.heap.size+1,0,none⟩ 1 rfl (by have:=mO (wr.alloc (.cells #[.int .i64 x.uid,.int .i64 x.seq] 126)) #[.int .i64 x.uid,.int .i64 x.seq] 126;simpa using this) hone hp1 hp2 ?_)
    intro vZ w4 hO4 hG4 qb
    have lG:Hid (fB w4 (In w.heap.size w4.heap.size) vZ ((l.take (k+1)).filter fun x=>decide (q < x.seq))):=by
     rw [Pg HX.out (by simpa using HQ.out)]
     exact hO4
    obtain ⟨Bq,Br,Bt,rfl⟩:∃ a n c,vZ=.slice a n c:=by
     rcases hO4 with ⟨h,-⟩ | ⟨_,_,_,_,_,h,-⟩
     ·exact ⟨_,_,_,h⟩
     ·exact ⟨_,_,_,h⟩
    have hge:∀ j,(Value.slice va vn vc).ownBlock=some j→w.heap.size≤j:=fun j hj=>(qb j hj).1
    have lH:Hid (Below w.heap.size w w4):=rX (Below.step hB.out Q6.out) hG4 hge (Nat.le_refl _) (by omega)
    have hs4:w.heap.size≤w4.heap.size:=lH.out.size
    clear hO4 hG4 qb hge nR Q6 hMs hO hB e0 e1 hlb
    go_wp2
    go_roundw
    case rel=>exact ⟨k+1,Bq,Br,Bt,by omega,by simp,rfl,lH.out,hs4,lG.out⟩
    case measure=>simp [intOf];omega
   ·have wh:Hid (fB (wr.alloc (.cells #[.int .i64 x.uid,.int .i64 x.seq] 126)) (In w.heap.size (wr.alloc (.cells #[.int .i64 x.uid,.int .i64 x.seq] 126)).heap.size) (.slice va vn vc) ((l.take (k+1)).filter fun x=>decide (q < x.seq))):=by
     rw [Ph HX.out (by simpa using hq)]
     exact Ow.mono (Ow.below jB hO.out eH.out) fun b hb=>⟨hb.1,by have:=hb.2;simp;omega⟩
    go_wp2
    go_roundw
    case rel=>exact ⟨k+1,va,vn,vc,by omega,by simp,rfl,Below.step hB.out eH.out,by simp;omega,wh.out⟩
    case measure=>simp [intOf];omega
  ·obtain rfl:k=l.length:=by omega
   go_wp2
   go_ret
   refine ⟨_,rfl,?_,hB.out⟩
   have:=hO.out
   rw [List.take_length] at this
   exact this
end Go.Proofs.YtlneebmlhblleaaGreat
