/- The proof's texts, part 9. -/
import Derived.Test.YtlneebmlhblleaaGreatT7
namespace Go.Proofs.YtlneebmlhblleaaGreat
open Go.RowKit
set_option linter.unusedVariables false
set_option maxHeartbeats 1000000
set_option maxRecDepth 100000
/- What ahJ, ahK of package laws do. -/
theorem Jz:(Tryz.prog.info? 3).map (fun i=>(i.zero,i.size,i.bytes))=some (some (.int .i64 0),1,8):=by kernel_rfl
theorem YF (v:Value) (l:List Int) (w:World) (hv:dS w v l) (hll:l.length≤2000000) :
  Calls Tryz.prog 26 #[v] w fun e w'=>∃ u,e=.returned u∧vX w' w.heap.size w'.heap.size u l∧Below w.heap.size w w':=by
 have HV:Hid (∀ wi,Below w.heap.size w wi→dS wi v l):=fun wi h=>hv.below nP h
 obtain ⟨a,cap,rfl,hlc,hcm⟩:=hv.form
 clear hv
 obtain ⟨i0,hi,hz0,hz1,hz2⟩:=info_parts Jz
 go_enter Tryz.func26,Tryz.ntmps26
 go_wp2_with (at_make;refine wpList_make_full _ rfl _ _ 23 rfl w.heap.size 3 i0 (.int .i64 0) 1 Tryz.underlying23 hi hz0 hz1 _ _ _ _ l.length rfl rfl rfl rfl ?b1 ?b2 ?b3 ?_)
 case b1=>rw [hz2];omega
 case b2=>unfold maxLen;omega
 case b3=>exact Nat.le_refl _
 intro w1 hown hgrow
 have HB:Hid (Below w.heap.size w w1):=(Below.refl w.heap.size w).grown hgrow (Nat.le_refl _) (by simp)
 have HP:Hid (Part 3 1 xU w1 w.heap.size l.length 0 l):=by obtain ⟨cur,h1,h2⟩:=Fx hown;exact Part.start h1 h2
 clear hown hgrow hi hz0 hz1 hz2
 go_wp2
 go_loopw [4] (fun i wr=>∃ k:Nat,k≤l.length∧i=.int .i64 k∧Hid (Part 3 1 xU wr w.heap.size l.length k l)∧Hid (Below w.heap.size w wr)) (fun i _=>l.length - (intOf i).toNat)
 case atStart=>exact ⟨0,Nat.zero_le _,rfl,HP,HB⟩
 case round =>
  obtain ⟨k,hk,rfl,hP,hB⟩:=hrel
  by_cases hlt:k < l.length
  ·obtain ⟨x,hx⟩:∃ x,l[k]?=some x:=⟨l[k],aK hlt⟩
   obtain ⟨b,off,cap',hv',hlb,d0,i0⟩:=dS.cell (HV.out wr hB.out) k x hx
   simp only [Value.slice.injEq,true_and] at hv'
   obtain ⟨rfl,rfl⟩:=hv'
   have HS:Hid (Part 3 1 xU (put wr w.heap.size k [.int .i64 x]) w.heap.size l.length (k+1) l):=by
    have:=Part.step oH hP.out (Below.refl _ _) x hx hlt [.int .i64 x] rfl ⟨rfl,i0⟩
    rwa [Nat.mul_one] at this
   have hgl:=hP.out.lt
   obtain ⟨⟨q0,t0⟩,z0⟩:=hP.out.cell k (by omega)
   clear hP
   go_wp2
   go_roundw
   case rel=>exact ⟨k+1,by omega,by go_num,HS,Fh hB.out (Nat.le_refl _) k [.int .i64 x]⟩
   case measure=>simp [intOf];omega
  ·obtain rfl:k=l.length:=by omega
   go_wp2
   go_ret
   exact ⟨_,rfl,Part.done hP.out rfl (by unfold maxLen;omega) (Nat.le_refl _),hB.out⟩
theorem FY (v:Value) (x:aJ) (w:World) (hv:dM w v x) (h0:jf x.boxes≤2000000) (h1:x.seen.length≤2000000) :
  Calls Tryz.prog 7 #[v] w fun e w'=>∃ u,e=.returned u∧jY w' (In w.heap.size w'.heap.size) u x∧Below w.heap.size w w':=by
 obtain ⟨u0,u1,rfl,g0,g1,i0⟩:=hv
 obtain ⟨valid,boxes,seen⟩:=x
 simp only at g0 g1 i0 h0 h1
 have H0:Hid (∀ wi,Below w.heap.size w wi→cK wi u0 boxes∧dS wi u1 seen):=fun wi h=>⟨g0.below lq h,g1.below nP h⟩
 obtain ⟨a0,c0,rfl,-⟩:=g0.form
 obtain ⟨a1,c1,rfl,-⟩:=g1.form
 have HI:Hid (aB valid):=i0
 clear g0 g1 i0
 simp only
 go_enter Tryz.func7,Tryz.ntmps7
 go_wp2_with fail
 refine (Yn _ boxes _ (H0.out _ (uw w _ _ _)).1 h0).mono ?_
 rintro e w1 ⟨u0,rfl,R0,B⟩
 obtain ⟨x0,m0,y0,rfl⟩:=R0.aG
 have b3:=Fe w (.cells #[.int .i64 valid,.slice a0 boxes.length c0,.slice a1 seen.length c1] 25) (.cells #[.int .i64 0,.slice none 0 0,.slice none 0 0] 33) (.cells #[.int .i64 valid,.slice none 0 0,.slice none 0 0] 33)
 have kA:=ay B b3.1
 have kR:=ay B b3.2.1
 have kO:=ay B b3.2.2
 have s1:w.heap.size+3≤w1.heap.size:=by have:=B.size;simp at this;omega
 have X:=Below.step (uw w _ _ _) B
 replace R0:=R0.wide (B':=w.heap.size+3) (T':=w1.heap.size) (by simp) (Nat.le_refl _)
 clear b3 B
 obtain ⟨-,-,f2⟩:=bD kA
 obtain ⟨oz,ol⟩:=bR kO
 obtain ⟨o0,o1,o2⟩:=bD kO
 go_wp2_with fail
 clear f2 oz ol o0 o1 o2
 replace X:=X.setCell (p:=⟨w.heap.size+1+1,1,none⟩) (by simp;omega) (.slice x0 m0 y0)
 replace R0:=R0.set (g:=w.heap.size+1+1) (i:=1) (x:=.slice x0 m0 y0) (.inl (by omega))
 replace kA:=bP (i:=1) (v:=.slice x0 m0 y0) kA (show w.heap.size≠w.heap.size+1+1 by omega)
 replace kR:=bP (i:=1) (v:=.slice x0 m0 y0) kR (show w.heap.size+1≠w.heap.size+1+1 by omega)
 replace kO:(World.setCell _ _ _).heap[w.heap.size+1+1]?=some (Obj.cells #[.int .i64 valid,.slice x0 m0 y0,.slice none 0 0] 33):=aP (i:=1) (v:=.slice x0 m0 y0) kO
 refine (YF _ seen _ (H0.out _ X).2 h1).mono ?_
 rintro e w2 ⟨u1,rfl,R1,B⟩
 obtain ⟨x1,m1,y1,rfl⟩:=R1.aG
 simp only [aZ] at R1
 have s2:w1.heap.size≤w2.heap.size:=by have:=B.size;simpa only [aZ] using this
 replace X:=Below.step X B
 replace R0:=R0.below B
 replace kA:=ay B kA
 replace kR:=ay B kR
 replace kO:=ay B kO
 clear B
 obtain ⟨-,-,-⟩:=bD kA
 obtain ⟨oz,ol⟩:=bR kO
 obtain ⟨o0,o1,o2⟩:=bD kO
 obtain ⟨rz,rl⟩:=bR kR
 obtain ⟨r0,r1,r2⟩:=bD kR
 go_wp2
 refine bodyPost_ret (v:=.agg #[.int .i64 valid,.slice x0 m0 y0,.slice x1 m1 y1]) (by simp [results,Tryz.results7,go_sem,r0,r1,r2]) rfl ⟨_,rfl,?_,?_⟩
 ·simp only [aZ]
  exact ⟨_,_,In (w.heap.size+3) w1.heap.size,In w1.heap.size w2.heap.size,rfl,bE.ow (((((R0.set (g:=w.heap.size+1+1) (i:=2) (x:=.slice x1 m1 y1) (.inl (by omega))).set (g:=w.heap.size+1) (i:=0) (x:=.int .i64 valid) (.inl (by omega))).set (g:=w.heap.size+1) (i:=1) (x:=.slice x0 m0 y0) (.inl (by omega))).set (g:=w.heap.size+1) (i:=2) (x:=.slice x1 m1 y1) (.inl (by omega)))),bE.ow (((((R1.set (g:=w.heap.size+1+1) (i:=2) (x:=.slice x1 m1 y1) (.inl (by omega))).set (g:=w.heap.size+1) (i:=0) (x:=.int .i64 valid) (.inl (by omega))).set (g:=w.heap.size+1) (i:=1) (x:=.slice x0 m0 y0) (.inl (by omega))).set (g:=w.heap.size+1) (i:=2) (x:=.slice x1 m1 y1) (.inl (by omega)))),fun x h=>⟨⟨Nat.le_trans (by omega) h.1,Nat.lt_of_lt_of_le h.2 (by omega)⟩,fun h'=>Nat.not_le_of_lt h.2 h'.1⟩,fun x h=>⟨Nat.le_trans (by omega) h.1,h.2⟩,HI.out⟩
 ·exact ((((X.setCell (p:=⟨w.heap.size+1+1,2,none⟩) (by simp <;> omega) (.slice x1 m1 y1)).setCell (p:=⟨w.heap.size+1,0,none⟩) (by simp <;> omega) (.int .i64 valid)).setCell (p:=⟨w.heap.size+1,1,none⟩) (by simp <;> omega) (.slice x0 m0 y0)).setCell (p:=⟨w.heap.size+1,2,none⟩) (by simp <;> omega) (.slice x1 m1 y1))
/- BR that draw their order, walked in the text's order: what each operation asks of the others is reckoned once for a region, in a table. -/
/-- The operations of the region with this number. -/
def bQ (id:Nat):Code→Option (Array Oper)
 | .region i ops _=>if i == id then some ops else none
 | .seq a b=>(bQ id a).or (bQ id b)
 | .cond _ a b=>(bQ id a).or (bQ id b)
 | .block _ a=>bQ id a
 | .loop a=>bQ id a
 | _=>none
/-- The first i of n are listed. -/
def upto (n i:Nat):Array Bool:=(List.replicate i true ++ List.replicate (n - i) false).toArray
theorem YG (n:Nat):upto n 0=Array.replicate n false:=by simp [upto]
theorem PY {n i:Nat} (h:i < n):(upto n i).setIfInBounds i true=upto n (i+1):=by
 have e:n - i=(n - (i+1))+1:=by omega
 unfold upto
 rw [List.setIfInBounds_toArray]
 congr 1
 rw [List.set_append_right _ _ (by simp),List.length_replicate,Nat.sub_self,e,List.replicate_succ,List.set_cons_zero,List.replicate_succ',List.append_assoc]
 rfl
def PZ (ops:Array Oper) (n i:Nat):Bool:=Region.free .any ops (upto n i) i && (Region.ready .any ops (upto n i)).contains i
/-- cs: the operations that come up alone. -/
def table (ops:Array Oper) (n:Nat) (cs:List Nat):Bool:=(ops.size == n) && (Region.noSelect ops && ((List.range n).all (PZ ops n) && ((Region.ready .any ops (upto n n)).isEmpty && cs.all fun i=>(Nat.blt i n) && (Region.ready .any ops (upto n i) == [i]))))
/-- The table's word, in a wrapping that no walk looks into. -/
structure Tab (ops:Array Oper) (n:Nat) (cs:List Nat):Prop where
 out:table ops n cs=true
/-- What is left of the region when the first i operations are done. -/
def jP (P:Program) (ops:Array Oper) (Q:Exit→Act→World→Prop) (S:World→Prop) (n i:Nat) (a:Act) (w:World):Prop:=wpAnyH P .any ops Q S (n - i) (upto n i) a w
/-- Slot d filled: what 'put' does, in a form that computes by itself. -/
def eP (a:Act) (d:Nat) (v:Value):Act:={ a with tmps:=(a.tmps.toList.set d v).toArray }
theorem wF (a:Act) (d:Nat) (v:Value):a.put (some d) v=eP a d v:=by
 unfold Act.put eP
 simp only
 congr 1
 exact Array.ext' (by simp)
section
variable {P : Program} {ops : Array Oper} {Q : Exit → Act → World → Prop} {S : World → Prop} {n : Nat} {cs : List Nat} {a : Act} {w : World}
theorem JA {c:Option Code} {id:Nat} (h:c.bind (bQ id)=some ops) (T:(c.bind (bQ id)).all (fun o=>table o n cs)=true):Tab ops n cs:=by
 rw [h] at T;exact ⟨by simpa using T⟩
theorem BU (T':Tab ops n cs):ops.size=n∧Region.noSelect ops=true∧(∀ i,i < n→Region.free .any ops (upto n i) i=true∧(Region.ready .any ops (upto n i)).contains i=true)∧Region.ready .any ops (upto n n)=[]∧∀ i,i ∈ cs→i < n∧Region.ready .any ops (upto n i)=[i]:=by
 have T:=T'.out
 simp only [table,Bool.and_eq_true,beq_iff_eq,List.all_eq_true,List.mem_range,PZ,List.isEmpty_iff,Nat.blt_eq] at T
 exact ⟨T.1,T.2.1,fun i hi=>T.2.2.1 i hi,T.2.2.2.1,fun i hi=>T.2.2.2.2 i hi⟩
theorem JB {id:Nat} (T:Tab ops n cs) (hm:P.follows .mixedOrders=true) (hS:S w.drew) (h:Tab ops n cs→S w.drew→jP P ops Q S n 0 a w.drew):Code.wp P (.region id ops true) Q a w:=by
 refine wp_region_held_drew (S:=S) hm hS fun hs=>?_
 obtain ⟨h1,-⟩:=BU T
 subst h1
 rw [← YG]
 exact h T hs
/-- Operation i is a call: it comes up alone. -/
theorem YH (i:Nat) (T:Tab ops n cs) (hi:i ∈ cs) (h:AllReadyH P .any ops Q S (n - (i+1)) (upto n i) a w [i]):jP P ops Q S n i a w:=by
 obtain ⟨h1,h2,h3,h4,h5⟩:=BU T
 have hlt:=(h5 i hi).1
 unfold jP
 rw [show n - i=(n - (i+1))+1 by omega]
 exact wpAnyH_ready (h5 i hi).2 (by simp) h
theorem YI {i f:Nat} {l:Array Bool} (hlt:i < n) (hf:f=n - (i+1)) (hl:l=(upto n i).setIfInBounds i true) (h:jP P ops Q S n (i+1) a w):wpAnyH P .any ops Q S f l a w:=by
 subst hf hl
 rw [PY hlt]
 exact h
theorem JC (T:Tab ops n cs) (h:Q .normal a w):jP P ops Q S n n a w:=by
 obtain ⟨h1,h2,h3,h4,h5⟩:=BU T
 exact wpAnyH_done h4 h _
end
theorem sF {α:Type} (x:α) (l:List α) (a:α):(x :: l).set 0 a=a :: l:=rfl
theorem sG {α:Type} (x:α) (l:List α) (i:Nat) (a:α):(x :: l).set (i+1) a=x :: l.set i a:=rfl
/- BR that draw their order, walked in a given order: what each operation asks of the others is reckoned once for a region, in a table. -/
/-- Which operations are done when the first p of the order are. -/
def dP (n:Nat) (l:List Nat):Array Bool:=l.foldl (fun a i=>a.setIfInBounds i true) (Array.replicate n false)
theorem BX {n p i:Nat} {ord:List Nat} (h:ord[p]?=some i):(dP n (ord.take p)).setIfInBounds i true=dP n (ord.take (p+1)):=by
 have hp:p < ord.length:=(gs1 h).1
 rw [List.take_succ_eq_append_getElem hp,(gs1 h).2]
 unfold dP
 rw [List.foldl_append]
 rfl
/-- cs: the places of those that come up alone. -/
def JD (ops:Array Oper) (n:Nat) (ord cs:List Nat):Bool :=
 (ops.size == n) && ((ord.length == n) && (Region.noSelect ops && ((List.range n).all (fun p=>match ord[p]? with
  | some i=>cs.contains p || (Region.free .any ops (dP n (ord.take p)) i && (Region.ready .any ops (dP n (ord.take p))).contains i)
  | none=>false) && ((Region.ready .any ops (dP n (ord.take n))).isEmpty && cs.all fun p=>match ord[p]? with
  | some i=>Nat.blt p n && (Region.ready .any ops (dP n (ord.take p)) == [i])
  | none=>false))))
/-- The table's word, in a wrapping that no walk looks into. -/
structure P5 (ops:Array Oper) (n:Nat) (ord cs:List Nat):Prop where
 out:JD ops n ord cs=true
section
variable {P : Program} {ops : Array Oper} {Q : Exit → Act → World → Prop} {S : World → Prop} {n : Nat} {ord cs : List Nat} {a : Act} {w : World}
theorem yB (T':P5 ops n ord cs):ops.size=n∧ord.length=n∧Region.noSelect ops=true∧(∀ p i,ord[p]?=some i→¬ p ∈ cs→Region.free .any ops (dP n (ord.take p)) i=true∧(Region.ready .any ops (dP n (ord.take p))).contains i=true)∧Region.ready .any ops (dP n (ord.take n))=[] ∧
  ∀ p i,p ∈ cs→ord[p]?=some i→p < n∧Region.ready .any ops (dP n (ord.take p))=[i]:=by
 have T:=T'.out
 simp only [JD,Bool.and_eq_true,beq_iff_eq,List.all_eq_true,List.mem_range,List.isEmpty_iff] at T
 obtain ⟨h1,h2,h3,h4,h5,h6⟩:=T
 refine ⟨h1,h2,h3,fun p i hp hc=>?_,h5,fun p i hc hp=>?_⟩
 ·have hlt:p < n:=by have:=(gs1 hp).1;omega
  have:=h4 p hlt
  rw [hp] at this
  simp only [Bool.or_eq_true,Bool.and_eq_true,List.contains_iff_mem] at this
  rcases this with h | h
  ·exact absurd h hc
  ·exact ⟨h.1,by simpa using h.2⟩
 ·have:=h6 p hc
  rw [hp] at this
  simp only [Bool.and_eq_true,beq_iff_eq,Nat.blt_eq] at this
  exact this
end
/- BR that draw their order, walked in phases: each phase has a condition on the world of its own; a phase is closed when all that comes behind it waits for it. -/
/-- Is one of the operations A still to come? -/
def left (A:List Nat) (L:Array Bool):Bool:=A.any fun i=>!(L.getD i true)
theorem BZ {A:List Nat} {L:Array Bool} {i:Nat} (h:i ∈ A) (h':L.getD i true=false):left A L=true:=by
 unfold left
 rw [List.any_eq_true]
 exact ⟨i,h,by rw [h'];rfl⟩
theorem YJ {A:List Nat} {L:Array Bool} (h:∀ i,i ∈ A→L.getD i false=true):left A L=false:=by
 unfold left
 rw [List.any_eq_false]
 intro i hi
 have:=h i hi
 by_cases hs:i < L.size
 ·simp [hs] at this ⊢;exact this
 ·simp [Array.getElem?_eq_none (Nat.le_of_not_lt hs)] at this
/-- What an operation waits for. -/
def waits (md:Region.Mode) (ops:Array Oper) (j:Nat):List Nat:=match ops[j]? with
 | some o=>(o.after.toList.filter (Region.binds md)).map (·.on)
 | none=>[]
inductive sH (md:Region.Mode) (ops:Array Oper):Nat→Nat→Prop
 | one {j i:Nat}:i ∈ waits md ops j→sH md ops j i
 | more {j k i:Nat}:k ∈ waits md ops j→sH md ops k i→sH md ops j i
theorem sH.then {md:Region.Mode} {ops:Array Oper} {j k i:Nat} (h:sH md ops j k) (hi:i ∈ waits md ops k):sH md ops j i:=by
 induction h with
 | one h=>exact .more h (.one hi)
 | more h _ ih=>exact .more h (ih hi)
def wG (md:Region.Mode) (ops:Array Oper) (L:Array Bool):Prop:=∀ k i,L.getD k false=true→i ∈ waits md ops k→L.getD i false=true
theorem YK {md:Region.Mode} {ops:Array Oper} {L:Array Bool} {k i:Nat} (hc:wG md ops L) (hk:L.getD k false=true) (h:sH md ops k i):L.getD i false=true:=by
 induction h with
 | one h=>exact hc _ _ hk h
 | more h _ ih=>exact ih (hc _ _ hk h)
theorem JE {md:Region.Mode} {ops:Array Oper} {L:Array Bool} {j i:Nat} (hj:j ∈ Region.ready md ops L) (h:i ∈ waits md ops j):L.getD i false=true:=by
 obtain ⟨-,o,ho,hall⟩:=mem_ready.1 hj
 unfold waits at h
 rw [ho] at h
 simp only [List.mem_map,List.mem_filter] at h
 obtain ⟨e,⟨he,hb⟩,rfl⟩:=h
 exact hall e (by simpa using he) hb
theorem YL {md:Region.Mode} {ops:Array Oper} {L:Array Bool} {j i:Nat} (hc:wG md ops L) (hj:j ∈ Region.ready md ops L) (h:sH md ops j i):L.getD i false=true:=by
 cases h with
 | one h=>exact JE hj h
 | more h h'=>exact YK hc (JE hj h) h'
theorem YM {md:Region.Mode} {ops:Array Oper} {L:Array Bool} {j:Nat} (hc:wG md ops L) (hj:j ∈ Region.ready md ops L):wG md ops (L.setIfInBounds j true):=by
 intro k i hk hi
 by_cases hjk:j=k
 ·subst hjk;exact getD_set_true (JE hj hi)
 ·rw [getD_set_ne false hjk] at hk
  exact getD_set_true (hc k i hk hi)
/-- The operations that come ahead of one, gathered. -/
def JF (l:List Nat) (i:Nat):List Nat:=if l.contains i then l else i :: l
theorem YN {xs l:List Nat} {i:Nat} (h:i ∈ xs.foldl JF l):i ∈ l∨i ∈ xs:=by
 induction xs generalizing l with
 | nil=>exact .inl h
 | cons x xs ih =>
  rcases ih h with h | h
  ·unfold JF at h
   split at h
   ·exact .inl h
   ·rcases List.mem_cons.1 h with rfl | h
    ·exact .inr (List.mem_cons_self ..)
    ·exact .inl h
  ·exact .inr (List.mem_cons_of_mem _ h)
def Ca (md:Region.Mode) (ops:Array Oper) (j:Nat):Nat→List Nat
 | 0=>waits md ops j
 | f+1=>((Ca md ops j f).flatMap (waits md ops)).foldl JF (Ca md ops j f)
theorem FZ {md:Region.Mode} {ops:Array Oper} {j:Nat}:∀ (f i:Nat),i ∈ Ca md ops j f→sH md ops j i
 | 0,i,h=>.one h
 | f+1,i,h=>by
  rcases YN h with h | h
  ·exact FZ f i h
  ·rw [List.mem_flatMap] at h
   obtain ⟨k,hk,hi⟩:=h
   exact (FZ f k hk).then hi
section
variable {P : Program} {md : Region.Mode} {ops : Array Oper} {Q : Exit → Act → World → Prop} {S : World → Prop} {A : List Nat}
/-- Whatever order is picked: while one of A is still to come S holds behind each operation; then the rest goes in whatever order. -/
def wpAnyS (P:Program) (md:Region.Mode) (ops:Array Oper) (Q:Exit→Act→World→Prop) (S:World→Prop) (A:List Nat):Nat→Array Bool→Act→World→Prop
 | 0,L,a,w=>Region.ready md ops L=[]∧Q .normal a w
 | n+1,L,a,w=>(left A L=false→wpAny P md ops Q (n+1) L a w)∧(left A L=true→(Region.ready md ops L=[]→Q .normal a w) ∧
  ∀ i ∈ Region.ready md ops L,wpOp P ops Q i (fun a' w'=>S w'∧wpAnyS P md ops Q S A n (L.setIfInBounds i true) a' w') a w)
theorem Cb:∀ (n:Nat) (L:Array Bool) (a:Act) (w:World),wpAnyS P md ops Q S A n L a w→wpAny P md ops Q n L a w
 | 0,_,_,_,h=>h
 | n+1,L,a,w,h=>by
  cases hl:left A L with
  | false=>exact h.1 hl
  | true=>exact ⟨(h.2 hl).1,fun i hi=>wpOp_mono (fun a' w' q=>Cb n _ a' w' q.2) ((h.2 hl).2 i hi)⟩
/-- All that is not of A waits for all of A. -/
def Parts (md:Region.Mode) (ops:Array Oper) (A:List Nat):Prop:=∀ j,(∃ o,ops[j]?=some o)→j ∉ A→∀ i,i ∈ A→sH md ops j i
theorem YO {L:Array Bool} {j:Nat} (hA:Parts md ops A) (hc:wG md ops L) (hj:j ∈ Region.ready md ops L) (hn:j ∉ A):left A L=false:=by
 obtain ⟨-,o,ho,-⟩:=mem_ready.1 hj
 exact YJ fun i hi=>YL hc hj (hA j ⟨o,ho⟩ hn i hi)
theorem wpAnyS_first {i:Nat} {oi:Oper} {v:Value} (hi:ops[i]?=some oi) (hR:i ∈ A) (hA:Parts md ops A) (hsel:∀ (j:Nat) (o:Oper) cs b,ops[j]?=some o→o.op≠.select cs b) (hQ:∀ c a w,Q (.panic c) (a.put oi.dst v) w→Q (.panic c) a w)
  (n:Nat):∀ (L:Array Bool) (a:Act) (w:World),wG md ops L →
   (∀ j oj,ops[j]?=some oj→j≠i→L.getD j true=false→(∀ e ∈ oj.after,Region.binds md e=true→e.on≠i)→oi.apart ops oj=true) →
   i ∈ Region.ready md ops L→YieldsIf P ops S oi v a→S w→wpAnyS P md ops Q S A n (L.setIfInBounds i true) (a.put oi.dst v) w→wpAnyS P md ops Q S A (n+1) L a w:=by
 induction n with
 | zero =>
  intro L a w hc _ hr hy hS H
  have hl:left A L=true:=BZ hR (mem_ready.1 hr).1
  refine ⟨fun h=>absurd hl (by rw [h];simp),fun _=>⟨fun h=>absurd hr (by rw [h];simp),fun j hj=>?_⟩⟩
  by_cases hji:j=i
  ·subst hji;exact hy.wpOp hi hS ⟨hS,H⟩
  ·exact absurd (ready_mono hj hji) (by rw [H.1];simp)
 | succ n ih =>
  intro L a w hc hfree hr hy hS H
  have hl:left A L=true:=BZ hR (mem_ready.1 hr).1
  refine ⟨fun h=>absurd hl (by rw [h];simp),fun _=>⟨fun h=>absurd hr (by rw [h];simp),fun j hj=>?_⟩⟩
  by_cases hji:j=i
  ·subst hji;exact hy.wpOp hi hS ⟨hS,H⟩
  obtain ⟨hjun,oj,hoj,hall⟩:=mem_ready.1 hj
  have YP:j ∈ A:=by
   by_cases h:j ∈ A
   ·exact h
   ·exact absurd hl (by rw [YO hA hc hj h];simp)
  have hil:=(mem_ready.1 hr).1
  have hnot:∀ e ∈ oj.after,Region.binds md e=true→e.on≠i:=by
   intro e he hb heq
   have q:=hall e he hb
   rw [heq] at q
   by_cases hs:i < L.size
   ·simp [hs] at hil q;rw [hil] at q;cases q
   ·simp [Array.getElem?_eq_none (Nat.le_of_not_lt hs)] at q
  have hl':left A (L.setIfInBounds i true)=true:=BZ YP (by rw [getD_set_ne true (Ne.symm hji)];exact hjun)
  have step:=wpOp_putIf hoj (hfree j oj hoj hji hjun hnot) (fun cs b=>hsel i oi cs b hi) (fun cs b=>hsel j oj cs b hoj) hQ hy ((H.2 hl').2 j (ready_mono hj hji))
  refine wpOp_mono (fun a' w' q=>?_) step
  obtain ⟨q1,q2,q3⟩:=q
  exact ⟨q2,ih (L.setIfInBounds j true) a' w' (YM hc hj) (fun k ok hk hki hun hno=>hfree k ok hk hki (by
    by_cases hjk:j=k
    ·subst hjk;exact hjun
    ·rwa [getD_set_ne true hjk] at hun) hno) (ready_mono hr (Ne.symm hji)) q1 q2 (by rw [Array.setIfInBounds_comm _ _ hji];exact q3)⟩
end
/-- The table of a region that is walked in phases: qs, how many operations of the order are done at the end of each; f, how far ahead it is looked. -/
def dQ (ops:Array Oper) (n:Nat) (ord cs qs:List Nat) (f:Nat):Bool :=
 JD ops n ord cs && ((List.range (n+1)).all (fun p=>(List.range n).all fun k=>!((dP n (ord.take p)).getD k false) || (waits .any ops k).all fun i=>(dP n (ord.take p)).getD i false) &&
  qs.all fun q=>(List.range n).all fun j=>(ord.take q).contains j || (ord.take q).all fun i=>(Ca .any ops j f).contains i)
structure mY (ops:Array Oper) (n:Nat) (ord cs qs:List Nat) (f:Nat):Prop where
 out:dQ ops n ord cs qs f=true
/-- What is left of the region when the first p operations of the order are done, in the phase that ends at q. -/
def dV (P:Program) (ops:Array Oper) (Q:Exit→Act→World→Prop) (S:World→Prop) (n:Nat) (ord:List Nat) (q p:Nat) (a:Act) (w:World):Prop:=wpAnyS P .any ops Q S (ord.take q) (n - p) (dP n (ord.take p)) a w
section
variable {P : Program} {ops : Array Oper} {Q : Exit → Act → World → Prop} {S : World → Prop} {n f : Nat} {ord cs qs : List Nat} {a : Act} {w : World}
theorem eB {c:Option Code} {id:Nat} (h:c.bind (bQ id)=some ops) (T:(c.bind (bQ id)).all (fun o=>dQ o n ord cs qs f)=true):mY ops n ord cs qs f:=by
 rw [h] at T;exact ⟨by simpa using T⟩
theorem mY.o (T:mY ops n ord cs qs f):P5 ops n ord cs:=by
 have:=T.out
 simp only [dQ,Bool.and_eq_true] at this
 exact ⟨this.1⟩
theorem mY.closed (T:mY ops n ord cs qs f) {p:Nat} (hp:p≤n):wG .any ops (dP n (ord.take p)):=by
 have h:=T.out
 simp only [dQ,Bool.and_eq_true,List.all_eq_true,List.mem_range] at h
 intro k i hk hi
 have hs:=(yB T.o).1
 have hkn:k < n:=by
  by_cases hkn:k < n
  ·exact hkn
  ·unfold waits at hi
   rw [Array.getElem?_eq_none (by omega)] at hi
   cases hi
 have:=h.2.1 p (by omega) k hkn
 rw [hk] at this
 simp only [Bool.not_true,Bool.false_or,List.all_eq_true] at this
 exact this i hi
theorem mY.parts (T:mY ops n ord cs qs f) {q:Nat} (hq:q ∈ qs):Parts .any ops (ord.take q):=by
 have h:=T.out
 simp only [dQ,Bool.and_eq_true,List.all_eq_true,List.mem_range] at h
 intro j hj hn i hi
 have hs:=(yB T.o).1
 obtain ⟨o,ho⟩:=hj
 have hjn:j < n:=by rw [← hs];exact (Array.getElem?_eq_some_iff.1 ho).1
 have:=h.2.2 q hq j hjn
 simp only [Bool.or_eq_true,List.contains_iff_mem,List.all_eq_true] at this
 rcases this with h | h
 ·exact absurd h hn
 ·exact FZ f i (h i hi)
theorem eF {id:Nat} (q:Nat) (T:mY ops n ord cs qs f) (hm:P.follows .mixedOrders=true) (hS:S w.drew) (h:mY ops n ord cs qs f→S w.drew→dV P ops Q S n ord q 0 a w.drew):Code.wp P (.region id ops true) Q a w:=by
 refine wp_region_any hm ?_
 have h1:=(yB T.o).1
 have:=Cb _ _ _ _ (h T hS)
 subst h1
 exact this
/-- The operation at place p is taken; it is wanted. -/
theorem YQ (p i d:Nat) {q:Nat} {oi:Oper} (v:Value) (T:mY ops n ord cs qs f) (hy:∀ w,S w→(execOp a.eval oi).run P w=.ok (.value v) w) (hS:S w) (h:dV P ops Q S n ord q (p+1) (eP a d v) w)
  (hp:(ord.take q)[p]?=some i) (hc:¬ p ∈ cs) (hq:q ∈ qs) (hi:ops[i]?=some oi)
  (hg:(oi.dst == some d && Region.wanted oi (yielded ops a.tmps))=true) (hQ:∀ c a w,Q (.panic c) (a.put (some d) v) w→Q (.panic c) a w):dV P ops Q S n ord q p a w:=by
 obtain ⟨h1,h2,h3,h4,h5,h6⟩:=yB T.o
 have hp':ord[p]?=some i:=by
  rw [List.getElem?_take] at hp
  split at hp
  ·exact hp
  ·cases hp
 have hlt:p < n:=by have:=(gs1 hp').1;omega
 simp only [Bool.and_eq_true,beq_iff_eq] at hg
 rw [← wF] at h
 unfold dV at h ⊢
 rw [show n - p=(n - (p+1))+1 by omega]
 rw [← BX hp'] at h
 exact wpAnyS_first hi (List.mem_of_getElem? hp) (T.parts hq) (Region.noSelect_spec h3) (by rw [hg.1];exact hQ) _ _ _ _ (T.closed (by omega)) (Region.free_spec hi (h4 p i hp' hc).1) (by simpa using (h4 p i hp' hc).2) (Or.inl ⟨hg.2,hy⟩) hS (by rw [hg.1];exact h)
/-- The operation at place p comes up alone. -/
theorem cls (p i:Nat) {q:Nat} {oi:Oper} (T:mY ops n ord cs qs f) (hc:p ∈ cs) (hp:(ord.take q)[p]?=some i) (hi:ops[i]?=some oi)
  (h:∀ K:Act→World→Prop,Shut (∀ a w,S w→(S w→dV P ops Q S n ord q (p+1) a w)→K a w)→if Region.wanted oi (yielded ops a.tmps)=true then Oper.wp P oi a w K Q else K (a.put oi.dst undef) w):dV P ops Q S n ord q p a w:=by
 obtain ⟨h1,h2,h3,h4,h5,h6⟩:=yB T.o
 have hp':ord[p]?=some i:=by
  rw [List.getElem?_take] at hp
  split at hp
  ·exact hp
  ·cases hp
 have hlt:=(h6 p i hc hp').1
 have hr:=(h6 p i hc hp').2
 have hun:(dP n (ord.take p)).getD i true=false:=(mem_ready.1 (show i ∈ Region.ready .any ops (dP n (ord.take p)) by rw [hr];simp)).1
 have hl:left (ord.take q) (dP n (ord.take p))=true:=BZ (List.mem_of_getElem? hp) hun
 unfold dV
 rw [show n - p=(n - (p+1))+1 by omega]
 refine ⟨fun h=>absurd hl (by rw [h];simp),fun _=>⟨fun h=>absurd hr (by rw [h];simp),fun j hj=>?_⟩⟩
 rw [hr] at hj
 obtain rfl:j=i:=by simpa using hj
 exact wpOp_step hi (fun K hK=>h K (fun a w hS hW=>hK a w ⟨hS,by rw [BX hp'];exact hW hS⟩))
/-- A phase is over, the next one begins. -/
theorem gL {S':World→Prop} (q q':Nat) (T:mY ops n ord cs qs f) (hl:left (ord.take q) (dP n (ord.take q))=false) (hS:S' w) (h:S' w→dV P ops Q S' n ord q' q a w):dV P ops Q S n ord q q a w:=by
 have h:=Cb _ _ _ _ (h hS)
 unfold dV
 revert h
 generalize n - q=m
 intro h
 cases m with
 | zero=>exact h
 | succ m=>exact ⟨fun _=>h,fun hh=>absurd hh (by rw [hl];simp)⟩
theorem eG {q:Nat} (T:mY ops n ord cs qs f) (h:Q .normal a w):dV P ops Q S n ord q n a w:=by
 obtain ⟨h1,h2,h3,h4,h5,h6⟩:=yB T.o
 unfold dV
 rw [Nat.sub_self]
 exact ⟨h5,h⟩
end
/-- 'ahL, what it yields and the state behind it found by themselves. -/
theorem tks {P:Program} {ops:Array Oper} {Q:Exit→Act→World→Prop} {S:World→Prop} {n f q:Nat} {ord cs qs:List Nat} {a a':Act} {w:World} (p i d:Nat) {oi:Oper} {v:Value} (T:mY ops n ord cs qs f) (hS:S w) (h:dV P ops Q S n ord q (p+1) a' w)
  (hp:(ord.take q)[p]?=some i:=by rfl) (hc:¬ p ∈ cs:=by decide) (hq:q ∈ qs:=by decide)
  (hi:ops[i]?=some oi:=by rfl)
  (hg:(oi.dst == some d && Region.wanted oi (yielded ops a.tmps))=true:=by kernel_rfl)
  (hy:∀ w,S w→(execOp a.eval oi).run P w=.ok (.value v) w:=by (intro w s;(try dsimp only at s);go_simp <;> with_reducible rfl))
  (ha:eP a d v=a':=by (conv=>lhs;dsimp only [eP,List.toList_toArray,sF,sG]))
  (hQ:∀ c a w,Q (.panic c) (a.put (some d) v) w→Q (.panic c) a w:=by exact fun _ _ _ h=>h):dV P ops Q S n ord q p a w :=
 YQ p i d v T hy hS (by rw [ha];exact h) hp hc hq hi hg hQ
end Go.Proofs.YtlneebmlhblleaaGreat
