/- The proof's texts, part 5. -/
import Derived.Test.YtmglhdkeidhafaaGreatT4
import Derived.Shelf.Abstract
namespace Go.Proofs.YtmglhdkeidhafaaGreat
open Go.RowKit
set_option linter.unusedVariables false
set_option linter.unusedSimpArgs false
set_option maxHeartbeats 4000000
set_option maxRecDepth 100000
/- A whole list put behind an empty one of the call's own: what comes back owns the copied cells. -/
theorem Ec {cs:Nat→List Value} {sz:Nat}:∀ (n:Nat),(∀ i,i < n→(cs i).length=sz)→((List.range n).flatMap cs).length=n * sz
 | 0,_=>by simp
 | n+1,h=>by
  rw [List.range_succ,List.flatMap_append,List.length_append,Ec n (fun i hi=>h i (by omega))]
  simp only [List.flatMap_cons,List.flatMap_nil,List.append_nil,h n (by omega),Nat.add_mul,Nat.one_mul]
theorem AL {cs:Nat→List Value} {sz:Nat}:∀ (n:Nat),(∀ i,i < n→(cs i).length=sz)→∀ i j,i < n→j < sz→((List.range n).flatMap cs)[i * sz+j]?=(cs i)[j]?
 | 0,_,_,_,h,_=>absurd h (Nat.not_lt_zero _)
 | n+1,h,i,j,hi,hj=>by
  have hl:=Ec n (cs:=cs) (sz:=sz) (fun i hi=>h i (by omega))
  rw [List.range_succ,List.flatMap_append]
  by_cases e:i=n
  ·subst e
   rw [List.getElem?_append_right (by omega),hl]
   simp only [List.flatMap_cons,List.flatMap_nil,List.append_nil]
   congr 1
   omega
  ·have hb:i * sz+j < n * sz:=by
    have:=Nat.mul_le_mul_right sz (show i+1≤n by omega)
    rw [Nat.add_mul,Nat.one_mul] at this
    omega
   rw [List.getElem?_append_left (by omega)]
   exact AL n (fun i hi=>h i (by omega)) i j (by omega) hj
section
variable {α : Type} {P : Program} {w : World} {e t : TypeId} {sz bytes B : Nat} {RE : World → List Value → α → Prop} {v u : Value} {m : List α}
theorem Na (h:w.ownsRow B e sz v 0 []) (hu:Rd sz RE w u m) (hone:∀ c x,RE w c x→∀ y ∈ c,y.oneCell'=true) (ty:TypeId) {i:TypeInfo} {z:Value} (ht:P.underlying t=some (.slice e)) (hi:P.info? e=some i) (hz:i.zero=some z) (hsize:i.size=sz) (hby:i.bytes=bytes) (hzs:z.cells.size=sz) (hsz:0 < sz)
  (hl:m.length≤maxLen) (hb:m.length * bytes≤140737488355328) (hB:B≤w.heap.size) :
  ∃ v' w' xs,(Builtin.append_ #[t,t] ty #[v,u]).run P w=.ok v' w'∧w'.ownsRow B e sz v' m.length xs∧(∀ i x,m[i]?=some x→∃ c,c.length=sz∧RE w c x∧∀ j y,c[j]?=some y→xs[i * sz+j]?=some y)∧w.grownBy w' v.ownBlock∧(v'.ownBlock=v.ownBlock∨v'.ownBlock=some w.heap.size):=by
 obtain ⟨a,cap,cs,rfl,h1,h2,h3,h4,h5⟩:=hu
 cases a with
 | none =>
  have hc:=h3 rfl
  have hm:m=[]:=List.eq_nil_of_length_eq_zero (by omega)
  subst hm
  subst hc
  exact ⟨v,w,[],run_append_owned_none (P:=P) (w:=w) B t ty e i sz ht hi v 0 [] h,h,by simp,World.grownBy.refl _ _,.inl rfl⟩
 | some ad =>
  have hlen:∀ i,i < m.length→(cs i).length=sz:=fun i hi=>(h4 i m[i] (aL hi)).2
  have hfl:=Ec m.length hlen
  have hnews:∀ k y,((List.range m.length).flatMap cs)[k]?=some y→w.cell? (ad.add k)=some y:=by
   intro k y hk
   have hk2:k < m.length * sz:=by have:=(gs1 hk).1;omega
   have hd:k=k / sz * sz+k % sz:=by have:=Nat.div_add_mod k sz;rw [Nat.mul_comm];omega
   have hi1:k / sz < m.length:=Nat.div_lt_of_lt_mul (by rw [Nat.mul_comm];exact hk2)
   have hj1:k % sz < sz:=Nat.mod_lt _ hsz
   have hk3:=hk
   rw [hd,AL m.length hlen _ _ hi1 hj1] at hk3
   obtain ⟨b,off,hab,-,hcell⟩:=h5 (Nat.lt_of_le_of_lt (Nat.zero_le _) hi1)
   cases hab
   have:=hcell _ _ _ hi1 hk3
   rw [Addr.add_lit]
   rw [Nat.add_assoc,← hd] at this
   exact this
  have Ho:∀ y ∈ (List.range m.length).flatMap cs,y.oneCell'=true:=by
   intro y hy
   obtain ⟨i,hi',hy⟩:=List.mem_flatMap.1 hy
   have hil:i < m.length:=by simpa using hi'
   exact hone _ _ (h4 i m[i] (aL hil)).1 y hy
  obtain ⟨v',w',hr,k2,k3,k4,k5⟩:=run_append_own_at (P:=P) w B t ty e i z sz bytes ht hi hz hsize hby hzs hsz v 0 [] h ad m.length cap ((List.range m.length).flatMap cs) hfl hnews Ho (by omega) (by simpa using hb) hB
  refine ⟨v',w',(List.range m.length).flatMap cs,hr,by simpa using k2,fun i x hx=>?_,k3,k5⟩
  have hil:i < m.length:=(gs1 hx).1
  refine ⟨cs i,hlen i hil,(h4 i x hx).1,fun j y hy=>?_⟩
  have hj:j < sz:=by have:=(gs1 hy).1;have:=hlen i hil;omega
  rw [AL m.length hlen i j hil hj]
  exact hy
/-- The operation in a region that draws. -/
theorem jX {o:Oper} {a:Act} {K:Act→World→Prop} {Q:Exit→Act→World→Prop} (d:Nat) (hd:o.dst=some d) (s y:Operand)
  (ho:o.op=.call { callee:=.builtin .append,args:=#[s,y],argTypes:=#[t,t] }) (h:w.ownsRow B e sz v 0 []) (hu:Rd sz RE w u m) (hone:∀ c x,RE w c x→∀ y ∈ c,y.oneCell'=true) {i:TypeInfo} {z:Value} (ht:P.underlying t=some (.slice e)) (hi:P.info? e=some i) (hz:i.zero=some z) (hsize:i.size=sz) (hby:i.bytes=bytes) (hzs:z.cells.size=sz) (hsz:0 < sz)
  (hs:a.eval s=v) (hy:a.eval y=u) (hl:m.length≤maxLen) (hb:m.length * bytes≤140737488355328) (hB:B≤w.heap.size)
  (k:∀ v' w' xs,w'.ownsRow B e sz v' m.length xs→(∀ i x,m[i]?=some x→∃ c,c.length=sz∧RE w c x∧∀ j y,c[j]?=some y→xs[i * sz+j]?=some y)→w.grownBy w' v.ownBlock→(v'.ownBlock=v.ownBlock∨v'.ownBlock=some w.heap.size)→K (a.put (some d) v') w'):o.wp P a w K Q:=by
 obtain ⟨v',w',xs,hr,h2,h3,h4,h5⟩:=Na (P:=P) (t:=t) h hu hone o.type ht hi hz hsize hby hzs hsz hl hb hB
 unfold Oper.wp execOp
 simp only [ho,resolve,invoke,builtin,Sem.run_bind,Sem.run_pure,Result.andThen_ok,List.map_toArray,List.map_cons,List.map_nil,hs,hy,hr]
 have:=k v' w' xs h2 h3 h4 h5
 rw [← hd] at this
 exact this
/-- The operation in a region that goes in the text's order. -/
theorem Nb {ops:Array Oper} {rest:List Oper} {o:Oper} {a:Act} {Q:Exit→Act→World→Prop} (hgd:o.guard=none) (s y:Operand)
  (ho:o.op=.call { callee:=.builtin .append,args:=#[s,y],argTypes:=#[t,t] }) (h:w.ownsRow B e sz v 0 []) (hu:Rd sz RE w u m) (hone:∀ c x,RE w c x→∀ y ∈ c,y.oneCell'=true) {i:TypeInfo} {z:Value} (ht:P.underlying t=some (.slice e)) (hi:P.info? e=some i) (hz:i.zero=some z) (hsize:i.size=sz) (hby:i.bytes=bytes) (hzs:z.cells.size=sz) (hsz:0 < sz)
  (hs:a.eval s=v) (hy:a.eval y=u) (hl:m.length≤maxLen) (hb:m.length * bytes≤140737488355328) (hB:B≤w.heap.size)
  (k:∀ v' w' xs,w'.ownsRow B e sz v' m.length xs→(∀ i x,m[i]?=some x→∃ c,c.length=sz∧RE w c x∧∀ j y,c[j]?=some y→xs[i * sz+j]?=some y)→w.grownBy w' v.ownBlock→(v'.ownBlock=v.ownBlock∨v'.ownBlock=some w.heap.size)→wpList P ops Q rest (a.put o.dst v') w'):wpList P ops Q (o :: rest) a w:=by
 refine wpList_plain hgd fun K hK=>?_
 obtain ⟨v',w',xs,hr,h2,h3,h4,h5⟩:=Na (P:=P) (t:=t) h hu hone o.type ht hi hz hsize hby hzs hsz hl hb hB
 unfold Oper.wp execOp
 simp only [ho,resolve,invoke,builtin,Sem.run_bind,Sem.run_pure,Result.andThen_ok,List.map_toArray,List.map_cons,List.map_nil,hs,hy,hr]
 exact hK _ _ (k v' w' xs h2 h3 h4 h5)
end
/-- An empty slice that is just made. -/
theorem kJ (w:World) (e:TypeId) (sz B:Nat) (hB:B≤w.heap.size):(w.alloc (.cells #[] e)).ownsRow B e sz (.slice (some ⟨w.heap.size,0,none⟩) 0 0) 0 [] :=
 ⟨by simp,.inr ⟨w.heap.size,0,#[],rfl,hB,aW w _,Nat.le_refl _,by simp [maxLen],by simp,by simp⟩⟩
/-- Bytes as a list of cells. -/
def Hq (_:World) (c:List Value) (x:Int):Prop:=c=[.int .u8 x]
theorem Bs.rF {w:World} {v:Value} {l:List Int} (h:Bs w v l):Rd 1 Hq w v l:=by
 obtain ⟨-,a,cap,hv,h1,h2,h3,h4⟩:=h
 refine ⟨a,cap,fun i=>[.int .u8 (l.getD i 0)],hv,h1,h2,h3,fun i x hx=>⟨?_,rfl⟩,fun hp=>?_⟩
 ·show [Value.int .u8 (l.getD i 0)]=_
  rw [List.getD_eq_getElem?_getD,hx]
  rfl
 ·obtain ⟨b,off,ha,hb,hc⟩:=h4 hp
  refine ⟨b,off,ha,hb,fun i j y hi hy=>?_⟩
  cases j with
  | zero =>
   simp at hy
   subst hy
   have h:=hc i hi
   rw [show off+i * 1+0=off+i by omega]
   exact h
  | succ j=>simp at hy
theorem one_byte:∀ (w:World) (c:List Value) (x:Int),Hq w c x→∀ y ∈ c,y.oneCell'=true:=by
 rintro w c x rfl y hy
 simp at hy
 subst hy
 rfl
theorem AO:∀ (w:World) (c:List Value) (x:bB),wW w c x→∀ y ∈ c,y.oneCell'=true:=by
 rintro w c x ⟨rfl,-⟩ y hy
 simp at hy
 rcases hy with rfl | rfl <;> rfl
/-- What comes back, as bytes of the call's own, as a list of those that went. -/
theorem rG {w w0:World} {B:Nat} {v:Value} {l:List Int} {xs:List Value} {S:Nat→Prop} (ho:Oct l) (h:w.ownsRow B 5 1 v l.length xs) (hx:∀ i x,l[i]?=some x→∃ c,c.length=1∧Hq w0 c x∧∀ j y,c[j]?=some y→xs[i * 1+j]?=some y) (hS:∀ g,v.ownBlock=some g→S g):RO w S v l:=by
 have e:xs=vals l:=by
  apply List.ext_getElem?
  intro i
  have hlen:=h.1
  by_cases hi:i < l.length
  ·obtain ⟨c,-,hc,hj⟩:=hx i l[i] (aL hi)
   have hc':c=[.int .u8 l[i]]:=hc
   subst hc'
   have:=hj 0 _ rfl
   simp only [Nat.mul_one,Nat.add_zero] at this
   rw [this]
   simp [vals,aL hi]
  ·rw [List.getElem?_eq_none (by omega),List.getElem?_eq_none (by simp [vals];omega)]
 subst e
 refine ⟨ho,⟨h.1,?_⟩,hS⟩
 rcases h.2 with hn | ⟨g,cap,cur,hv,hg,r⟩
 ·exact .inl hn
 ·exact .inr ⟨g,cap,cur,hv,Nat.zero_le _,r⟩
theorem Ed {w w0:World} {B:Nat} {v:Value} {l:List bB} {xs:List Value} {S:Nat→Prop} (h:w.ownsRow B 70 2 v l.length xs) (hx:∀ i x,l[i]?=some x→∃ c,c.length=2∧wW w0 c x∧∀ j y,c[j]?=some y→xs[i * 2+j]?=some y) (hS:∀ g,v.ownBlock=some g→S g):iY w S v l:=by
 rcases h.2 with ⟨hn,hl⟩ | ⟨g,cap,cur,hv,hg,hh,h1,h2,h3,h4⟩
 ·exact .inl ⟨hn,List.eq_nil_of_length_eq_zero hl⟩
 ·refine .inr ⟨g,cap,cur,fun i=>match l[i]? with | some x=>[.int .i64 x.uid,.int .i64 x.seq] | none=>[],fun _ _=>False,hv,hh,h1,h2,h3,hS g (by rw [hv];rfl),fun i x hi=>?_,by simp,by simp⟩
  obtain ⟨c,-,⟨hc,Hr⟩,hj⟩:=hx i x hi
  simp only [hi]
  refine ⟨⟨rfl,Hr⟩,rfl,fun j y hy=>?_⟩
  rw [← hc] at hy
  have:=hj j y hy
  rw [← h4,List.getElem?_take] at this
  split at this
  ·simpa using this
  ·cases this
/- Accounts read from bytes, on lists: as the specification reads (a place below 0 says that nothing is there), and as the program reads (none says so); both come to the same. -/
/-- What was read from p up to q stands there as the bytes y. -/
def Ee (l:List Int) (p q:Int) (y:List Int):Prop:=p≤q∧q≤l.length∧l.take q.toNat=l.take p.toNat ++ y
theorem Ee.trans {l:List Int} {p q r:Int} {y z:List Int} (h:Ee l p q y) (k:Ee l q r z):Ee l p r (y ++ z):=⟨by have:=h.1;have:=k.1;omega,k.2.1,by rw [k.2.2,h.2.2,List.append_assoc]⟩
theorem Nc (C:Nat):∀ (l:List aA),(∀ b,b ∈ l→bT b≤C)→DY l≤(C+1) * l.length
 | [],_=>by simp [DY]
 | x :: l,h=>by
  have h1:=h x (by simp)
  have h2:=Nc C l (fun m hm=>h m (by simp [hm]))
  simp only [DY,List.map_cons,List.sum_cons,List.length_cons,Nat.mul_add,Nat.mul_one] at h2 ⊢
  omega
/- A cursor that is written while all else stays: what lies elsewhere, and what is new. -/
section
variable {w w' w'' : World} {g b : Nat}
theorem tT {o:Obj} (h:w.grownBy w' (some g)) (hb:w.heap[b]?=some o) (hne:b≠g):w'.heap[b]?=some o:=(h.block b (lt_of_heap hb) fun e=>hne (by simpa using e)).trans hb
theorem Row.gr {B T:Nat} {v:Value} {l:List Int} (h:Row w B T v l) (hw:w.grownBy w' (some g)) (hd:g < B∨T≤g):Row w' B T v l:=h.drawn hw hd
variable {α : Type} {t : TypeId} {sz B T : Nat} {E : World → List Value → α → (Nat → Prop) → Prop} {v : Value} {l : List α}
theorem cZ.gr [Fr E] (h:cZ t sz E w B T v l) (hw:w.grownBy w' (some g)) (hd:g < B∨T≤g):cZ t sz E w' B T v l :=
 Ow.frame Fr.out h fun b hb hlt=>hw.block b hlt fun e=>by have:=hb.1;have:=hb.2;simp only [Option.some.injEq] at e;omega
theorem cZ.Nf [Fr E] {row:Option Nat} (h:cZ t sz E w B T v l) (hw:w.grownBy w' row) (hd:∀ j,row=some j→T≤j):cZ t sz E w' B T v l :=
 Ow.frame Fr.out h fun b hb hlt=>hw.block b hlt fun e=>by have:=hd b e.symm;have:=hb.2;omega
end
theorem Row.Nf {w w':World} {B T:Nat} {v:Value} {l:List Int} {row:Option Nat} (h:Row w B T v l) (hw:w.grownBy w' row) (hd:∀ j,row=some j→T≤j):Row w' B T v l:=by
 refine ⟨h.1,⟨h.2.1.1,?_⟩,h.2.2⟩
 rcases h.2.1.2 with hn | ⟨g,cap,cur,hv,hg,hh,r⟩
 ·exact .inl hn
 ·have hlt:g < T:=h.2.2 g (by rw [hv];rfl)
  exact .inr ⟨g,cap,cur,hv,hg,(hw.block g (lt_of_heap hh) fun e=>by have:=hd g e.symm;omega).trans hh,r⟩
/- What slices.IndexFunc and slices.ContainsFunc of ah and of what went do. -/
open Go.RowKit Go.Shelf
theorem yT {α:Type} {p:α→Bool} {l:List α} {k:Nat} {x:α} (hk:k < l.length) (hx:l[k]?=some x) (h:p x=true) (hA:∀ j x,j < k→l[j]?=some x→p x=false):bC p l=k:=by
 have:l.findIdx? p=some k:=by
  rw [List.findIdx?_eq_some_iff_getElem]
  refine ⟨hk,by rw [aL hk] at hx;cases hx;exact h,fun j hj=>?_⟩
  rw [hA j _ hj (aL (by omega))];simp
 simp [bC,this]
theorem yU {α:Type} {p:α→Bool} {l:List α} (hA:∀ j x,j < l.length→l[j]?=some x→p x=false):bC p l = -1:=by
 have:l.findIdx? p=none:=by
  rw [List.findIdx?_eq_none_iff]
  intro x hx
  obtain ⟨j,hj,rfl⟩:=List.getElem_of_mem hx
  exact hA j _ hj (aL hj)
 simp [bC,this]
def AQ (_:World) (v:Value) (x:bB):Prop:=v=.agg #[.int .i64 x.uid,.int .i64 x.seq]
theorem Vm (g:Nat) (lb:Array Value) (p:aC→Bool) (v:Value) (l:List aC) (w:World) (hv:eT w v l) (eg:∀ args w,(callFunc g args).run Tryz.prog w=.ok (.enter g args) w)
  (hp:∀ wi x u,Below w.heap.size w wi→iA wi u x→Calls Tryz.prog g (#[u] ++ lb) wi fun e w'=>e=.returned (.bool (p x))∧Below wi.heap.size wi w') :
  Calls Tryz.prog 103 #[v,.func (.func g) #[] lb] w fun e w'=>e=.returned (.int .i64 (bC p l))∧Below w.heap.size w w':=by
 have HV:Hid (∀ wi,Below w.heap.size w wi→eT wi v l):=fun wi h=>hv.below iG h
 have HP:Hid (∀ wi x u,Below w.heap.size w wi→iA wi u x→Calls Tryz.prog g (#[u] ++ lb) wi fun e w'=>e=.returned (.bool (p x))∧Below wi.heap.size wi w'):=hp
 obtain ⟨a,cap,rfl,hlc,hcm⟩:=hv.form
 clear hv hp
 go_enter Tryz.func103,Tryz.ntmps103
 go_wp2
 go_loopw [5,8] (fun _ i wr=>∃ k:Nat,k≤l.length∧i=.int .i64 k∧Hid (∀ j x,j < k→l[j]?=some x→p x=false)∧Hid (Below w.heap.size w wr)) (fun _ i _=>l.length - (intOf i).toNat)
 case atStart=>exact ⟨0,Nat.zero_le _,rfl,(fun j x hj=>absurd hj (Nat.not_lt_zero _)),Below.refl _ _⟩
 case round =>
  obtain ⟨k,hk,rfl,hA,hB⟩:=hrel
  by_cases hlt:k < l.length
  ·obtain ⟨x,hx⟩:∃ x,l[k]?=some x:=⟨l[k],aL hlt⟩
   obtain ⟨b,off,cap',u,hv',hlb,d0,d1,d2,d3,hu,i0,i1,i2⟩:=eT.cell (HV.out wr hB.out) k x hx
   simp only [Value.slice.injEq,true_and] at hv'
   obtain ⟨rfl,rfl⟩:=hv'
   obtain ⟨ua,un,uc,rfl⟩:=hu.aG
   have hcall:=HP.out wr x (.agg #[.int .i64 x.uid,.int .i64 x.flags,.int .i64 x.seq,.slice ua un uc]) hB.out ⟨_,rfl,hu,i0,i1,i2⟩
   have HX:Hid (l[k]?=some x):=hx
   clear hx
   cases hq:p x with
   | true =>
    rw [hq] at hcall
    have HQ:Hid (p x=true):=hq
    clear hq
    go_wp2_with (go_at_fn g;refine hcall.mono ?_;rintro e w1 ⟨rfl,B⟩)
    go_ret
    exact ⟨kG (yT hlt HX.out HQ.out hA.out).symm,Below.step hB.out B⟩
   | false =>
    rw [hq] at hcall
    have HQ:Hid (p x=false):=hq
    clear hq
    go_wp2_with (go_at_fn g;refine hcall.mono ?_;rintro e w1 ⟨rfl,B⟩)
    have HB2:Hid (Below w.heap.size w w1):=Below.step hB.out B
    clear B hB
    go_roundw
    case rel =>
     refine ⟨k+1,by omega,by go_num,(show Hid _ from fun j y hj hy=>?_),HB2⟩
     by_cases e:j=k
     ·subst e;rw [HX.out] at hy;cases hy;exact HQ.out
     ·exact hA.out j y (by omega) hy
    case measure=>simp [intOf];omega
  ·obtain rfl:k=l.length:=by omega
   go_wp2
   go_ret
   exact ⟨kG (yU hA.out).symm,hB.out⟩
theorem Ng (g:Nat) (lb:Array Value) (p:aC→Bool) (v:Value) (l:List aC) (w:World) (hv:eT w v l) (eg:∀ args w,(callFunc g args).run Tryz.prog w=.ok (.enter g args) w)
  (hp:∀ wi x u,Below w.heap.size w wi→iA wi u x→Calls Tryz.prog g (#[u] ++ lb) wi fun e w'=>e=.returned (.bool (p x))∧Below wi.heap.size wi w') :
  Calls Tryz.prog 82 #[v,.func (.func g) #[] lb] w fun e w'=>e=.returned (.bool (l.any p))∧Below w.heap.size w w':=by
 have hi:=Vm g lb p v l w hv eg hp
 have HF:Hid (l.any p=decide (0≤bC p l)):=yO p l
 generalize bC p l=i at hi HF
 obtain ⟨a,cap,rfl,-⟩:=hv.form
 clear hp hv
 go_enter Tryz.func82,Tryz.ntmps82
 go_wp2_with (go_at_call 103;refine hi.mono ?_;rintro e w1 ⟨rfl,B⟩)
 go_ret
 exact ⟨aP HF.out,B⟩
theorem Vn (g:Nat) (lb:Array Value) (p:bB→Bool) (v:Value) (l:List bB) (w:World) (hv:dD w v l) (eg:∀ args w,(callFunc g args).run Tryz.prog w=.ok (.enter g args) w)
  (hp:∀ wi x u,Below w.heap.size w wi→AQ wi u x→Calls Tryz.prog g (#[u] ++ lb) wi fun e w'=>e=.returned (.bool (p x))∧Below wi.heap.size wi w') :
  Calls Tryz.prog 104 #[v,.func (.func g) #[] lb] w fun e w'=>e=.returned (.int .i64 (bC p l))∧Below w.heap.size w w':=by
 have HV:Hid (∀ wi,Below w.heap.size w wi→dD wi v l):=fun wi h=>hv.below gU h
 have HP:Hid (∀ wi x u,Below w.heap.size w wi→AQ wi u x→Calls Tryz.prog g (#[u] ++ lb) wi fun e w'=>e=.returned (.bool (p x))∧Below wi.heap.size wi w'):=hp
 obtain ⟨a,cap,rfl,hlc,hcm⟩:=hv.form
 clear hv hp
 go_enter Tryz.func104,Tryz.ntmps104
 go_wp2
 go_loopw [5,8] (fun _ i wr=>∃ k:Nat,k≤l.length∧i=.int .i64 k∧Hid (∀ j x,j < k→l[j]?=some x→p x=false)∧Hid (Below w.heap.size w wr)) (fun _ i _=>l.length - (intOf i).toNat)
 case atStart=>exact ⟨0,Nat.zero_le _,rfl,(fun j x hj=>absurd hj (Nat.not_lt_zero _)),Below.refl _ _⟩
 case round =>
  obtain ⟨k,hk,rfl,hA,hB⟩:=hrel
  by_cases hlt:k < l.length
  ·obtain ⟨x,hx⟩:∃ x,l[k]?=some x:=⟨l[k],aL hlt⟩
   obtain ⟨b,off,cap',hv',hlb,d0,d1,i0,i1⟩:=dD.cell (HV.out wr hB.out) k x hx
   simp only [Value.slice.injEq,true_and] at hv'
   obtain ⟨rfl,rfl⟩:=hv'
   have hcall:=HP.out wr x (.agg #[.int .i64 x.uid,.int .i64 x.seq]) hB.out rfl
   have HX:Hid (l[k]?=some x):=hx
   clear hx
   cases hq:p x with
   | true =>
    rw [hq] at hcall
    have HQ:Hid (p x=true):=hq
    clear hq
    go_wp2_with (go_at_fn g;refine hcall.mono ?_;rintro e w1 ⟨rfl,B⟩)
    go_ret
    exact ⟨kG (yT hlt HX.out HQ.out hA.out).symm,Below.step hB.out B⟩
   | false =>
    rw [hq] at hcall
    have HQ:Hid (p x=false):=hq
    clear hq
    go_wp2_with (go_at_fn g;refine hcall.mono ?_;rintro e w1 ⟨rfl,B⟩)
    have HB2:Hid (Below w.heap.size w w1):=Below.step hB.out B
    clear B hB
    go_roundw
    case rel =>
     refine ⟨k+1,by omega,by go_num,(show Hid _ from fun j y hj hy=>?_),HB2⟩
     by_cases e:j=k
     ·subst e;rw [HX.out] at hy;cases hy;exact HQ.out
     ·exact hA.out j y (by omega) hy
    case measure=>simp [intOf];omega
  ·obtain rfl:k=l.length:=by omega
   go_wp2
   go_ret
   exact ⟨kG (yU hA.out).symm,hB.out⟩
theorem Nh (g:Nat) (lb:Array Value) (p:bB→Bool) (v:Value) (l:List bB) (w:World) (hv:dD w v l) (eg:∀ args w,(callFunc g args).run Tryz.prog w=.ok (.enter g args) w)
  (hp:∀ wi x u,Below w.heap.size w wi→AQ wi u x→Calls Tryz.prog g (#[u] ++ lb) wi fun e w'=>e=.returned (.bool (p x))∧Below wi.heap.size wi w') :
  Calls Tryz.prog 84 #[v,.func (.func g) #[] lb] w fun e w'=>e=.returned (.bool (l.any p))∧Below w.heap.size w w':=by
 have hi:=Vn g lb p v l w hv eg hp
 have HF:Hid (l.any p=decide (0≤bC p l)):=yO p l
 generalize bC p l=i at hi HF
 obtain ⟨a,cap,rfl,-⟩:=hv.form
 clear hp hv
 go_enter Tryz.func84,Tryz.ntmps84
 go_wp2_with (go_at_call 104;refine hi.mono ?_;rintro e w1 ⟨rfl,B⟩)
 go_ret
 exact ⟨aP HF.out,B⟩
/- What aeV and aeW of package spec do. -/
theorem rH (v:Value) (x:aA) (uid:Int) (w:World) (hv:bI w v x) :
  Calls Tryz.prog 51 #[v,.int .i64 uid] w fun e w'=>e=.returned (.int .i64 (bC (fun m=>decide (m.uid=uid)) x.ah))∧Below w.heap.size w w':=by
 obtain ⟨u0,u1,u2,rfl,g0,g1,g2,i0,i1,i2,i3⟩:=hv
 have H0:Hid (∀ wi,Below w.heap.size w wi→Bs wi u0 x.name∧eT wi u1 x.ah∧dD wi u2 x.au):=fun wi h=>⟨g0.below h,g1.below iG h,g2.below gU h⟩
 obtain ⟨a0,n0,c0,rfl⟩:=g0.aG
 obtain ⟨a1,c1,rfl,m0,m1⟩:=g1.form
 obtain ⟨a2,c2,rfl,m2,m3⟩:=g2.form
 clear g0 g1 g2
 have HX:Hid (Below w.heap.size w (w.alloc (.cells #[.slice a0 n0 c0,.int .i64 x.valid,.int .i64 x.next,.int .i64 x.seq,.slice a1 x.ah.length c1,.slice a2 x.au.length c2,.int .i64 x.lost] 34))):=bn _ _
 go_enter Tryz.func51,Tryz.ntmps51
 go_wp2
 go_loop [5] (fun i=>∃ k:Nat,k≤x.ah.length∧i=.int .i64 k∧Hid (∀ j m,j < k→x.ah[j]?=some m→decide (m.uid=uid)=false)) (fun i=>x.ah.length - (intOf i).toNat)
 case atStart=>exact ⟨0,Nat.zero_le _,rfl,fun j m hj=>absurd hj (Nat.not_lt_zero _)⟩
 case round =>
  obtain ⟨k,hk,rfl,hA⟩:=hrel
  by_cases hlt:k < x.ah.length
  ·obtain ⟨m,hm⟩:∃ m,x.ah[k]?=some m:=⟨x.ah[k],aL hlt⟩
   obtain ⟨b,off,cap',u,hv',hlb,d0,d1,d2,d3,hu,j0,j1,j2⟩:=eT.cell (H0.out _ HX.out).2.1 k m hm
   simp only [Value.slice.injEq,true_and] at hv'
   obtain ⟨rfl,rfl⟩:=hv'
   have HM:Hid (x.ah[k]?=some m):=hm
   clear hm hu d1 d2 d3
   by_cases he:m.uid=uid
   ·have he':(m.uid == uid)=true:=by simpa using he
    have HE:Hid (m.uid=uid):=he
    clear he
    go_wp2
    go_ret
    exact ⟨kG (yT hlt HM.out (by simpa using HE.out) hA.out).symm,HX.out⟩
   ·have he':(m.uid == uid)=false:=by simpa using he
    have HE:Hid (m.uid≠uid):=he
    clear he
    go_wp2
    go_round
    case rel =>
     refine ⟨k+1,by omega,by go_num,(show Hid _ from fun j y hj hy=>?_)⟩
     by_cases e:j=k
     ·subst e;rw [HM.out] at hy;cases hy;simpa using HE.out
     ·exact hA.out j y (by omega) hy
    case measure=>simp [intOf];omega
  ·obtain rfl:k=x.ah.length:=by omega
   go_wp2
   go_ret
   exact ⟨kG (yU hA.out).symm,HX.out⟩
theorem Vo (v:Value) (l:List bB) (uid:Int) (w:World) (hv:dD w v l) :
  Calls Tryz.prog 52 #[v,.int .i64 uid] w fun e w'=>e=.returned (.bool (l.any fun o=>decide (o.uid=uid)))∧w'=w:=by
 have HV:Hid (dD w v l):=hv
 obtain ⟨a,cap,rfl,hlc,hcm⟩:=hv.form
 clear hv
 go_enter Tryz.func52,Tryz.ntmps52
 go_wp2
 go_loop [5] (fun i=>∃ k:Nat,k≤l.length∧i=.int .i64 k∧Hid (∀ j m,j < k→l[j]?=some m→m.uid≠uid)) (fun i=>l.length - (intOf i).toNat)
 case atStart=>exact ⟨0,Nat.zero_le _,rfl,fun j m hj=>absurd hj (Nat.not_lt_zero _)⟩
 case round =>
  obtain ⟨k,hk,rfl,hA⟩:=hrel
  by_cases hlt:k < l.length
  ·obtain ⟨m,hm⟩:∃ m,l[k]?=some m:=⟨l[k],aL hlt⟩
   obtain ⟨b,off,cap',hv',hlb,d0,d1,j0,j1⟩:=dD.cell HV.out k m hm
   simp only [Value.slice.injEq,true_and] at hv'
   obtain ⟨rfl,rfl⟩:=hv'
   have HM:Hid (l[k]?=some m):=hm
   clear hm d1
   by_cases he:m.uid=uid
   ·have he':(m.uid == uid)=true:=by simpa using he
    have HE:Hid (m.uid=uid):=he
    clear he
    go_wp2
    go_ret
    exact ⟨aP (List.any_eq_true.2 ⟨m,List.mem_of_getElem? HM.out,by simpa using HE.out⟩),rfl⟩
   ·have he':(m.uid == uid)=false:=by simpa using he
    have HE:Hid (m.uid≠uid):=he
    clear he
    go_wp2
    go_round
    case rel =>
     refine ⟨k+1,by omega,by go_num,(show Hid _ from fun j y hj hy=>?_)⟩
     by_cases e:j=k
     ·subst e;rw [HM.out] at hy;cases hy;exact HE.out
     ·exact hA.out j y (by omega) hy
    case measure=>simp [intOf];omega
  ·obtain rfl:k=l.length:=by omega
   go_wp2
   go_ret
   refine ⟨aP (List.any_eq_false.2 fun m hm=>?_),rfl⟩
   obtain ⟨j,hj,rfl⟩:=List.getElem_of_mem hm
   simpa using hA.out j _ hj (aL hj)
/- One byte in a block of its own; flags, one behind the other. -/
end Go.Proofs.YtmglhdkeidhafaaGreat
