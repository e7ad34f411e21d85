/- The proof's texts, part 6. -/
import Derived.Lib.ItoaNum
import Derived.Test.YtlneebmlhblleaaGreatT5
namespace Go.Proofs.YtlneebmlhblleaaGreat
open Go.RowKit
set_option linter.unusedVariables false
/- A whole list put behind an empty one of the call's own: what comes back owns the copied cells. -/
theorem FT {cs:Nat→List Value} {sz:Nat}:∀ (n:Nat),(∀ i,i < n→(cs i).length=sz)→((List.range n).flatMap cs).length=n * sz
 | 0,_=>by simp
 | n+1,h=>by
  rw [List.range_succ,List.flatMap_append,List.length_append,FT n (fun i hi=>h i (by omega))]
  simp only [List.flatMap_cons,List.flatMap_nil,List.append_nil,h n (by omega),Nat.add_mul,Nat.one_mul]
theorem BF {cs:Nat→List Value} {sz:Nat}:∀ (n:Nat),(∀ i,i < n→(cs i).length=sz)→∀ i j,i < n→j < sz→((List.range n).flatMap cs)[i * sz+j]?=(cs i)[j]?
 | 0,_,_,_,h,_=>absurd h (Nat.not_lt_zero _)
 | n+1,h,i,j,hi,hj=>by
  have hl:=FT n (cs:=cs) (sz:=sz) (fun i hi=>h i (by omega))
  rw [List.range_succ,List.flatMap_append]
  by_cases e:i=n
  ·subst e
   rw [List.getElem?_append_right (by omega),hl]
   simp only [List.flatMap_cons,List.flatMap_nil,List.append_nil]
   congr 1
   omega
  ·have hb:i * sz+j < n * sz:=by
    have:=Nat.mul_le_mul_right sz (show i+1≤n by omega)
    rw [Nat.add_mul,Nat.one_mul] at this
    omega
   rw [List.getElem?_append_left (by omega)]
   exact BF n (fun i hi=>h i (by omega)) i j (by omega) hj
section
variable {α : Type} {P : Program} {w : World} {e t : TypeId} {sz bytes B : Nat} {RE : World → List Value → α → Prop} {v u : Value} {m : List α}
theorem Pq (h:w.ownsRow B e sz v 0 []) (hu:Rd sz RE w u m) (hone:∀ c x,RE w c x→∀ y ∈ c,y.oneCell'=true) (ty:TypeId) {i:TypeInfo} {z:Value} (ht:P.underlying t=some (.slice e)) (hi:P.info? e=some i) (hz:i.zero=some z) (hsize:i.size=sz) (hby:i.bytes=bytes) (hzs:z.cells.size=sz) (hsz:0 < sz)
  (hl:m.length≤maxLen) (hb:m.length * bytes≤140737488355328) (hB:B≤w.heap.size) :
  ∃ v' w' xs,(Builtin.append_ #[t,t] ty #[v,u]).run P w=.ok v' w'∧w'.ownsRow B e sz v' m.length xs∧(∀ i x,m[i]?=some x→∃ c,c.length=sz∧RE w c x∧∀ j y,c[j]?=some y→xs[i * sz+j]?=some y)∧w.grownBy w' v.ownBlock∧(v'.ownBlock=v.ownBlock∨v'.ownBlock=some w.heap.size):=by
 obtain ⟨a,cap,cs,rfl,h1,h2,h3,h4,h5⟩:=hu
 cases a with
 | none =>
  have hc:=h3 rfl
  have hm:m=[]:=List.eq_nil_of_length_eq_zero (by omega)
  subst hm
  subst hc
  exact ⟨v,w,[],run_append_owned_none (P:=P) (w:=w) B t ty e i sz ht hi v 0 [] h,h,by simp,World.grownBy.refl _ _,.inl rfl⟩
 | some ad =>
  have hlen:∀ i,i < m.length→(cs i).length=sz:=fun i hi=>(h4 i m[i] (aK hi)).2
  have hfl:=FT m.length hlen
  have hnews:∀ k y,((List.range m.length).flatMap cs)[k]?=some y→w.cell? (ad.add k)=some y:=by
   intro k y hk
   have hk2:k < m.length * sz:=by have:=(gs1 hk).1;omega
   have hd:k=k / sz * sz+k % sz:=by have:=Nat.div_add_mod k sz;rw [Nat.mul_comm];omega
   have hi1:k / sz < m.length:=Nat.div_lt_of_lt_mul (by rw [Nat.mul_comm];exact hk2)
   have hj1:k % sz < sz:=Nat.mod_lt _ hsz
   have hk3:=hk
   rw [hd,BF m.length hlen _ _ hi1 hj1] at hk3
   obtain ⟨b,off,hab,-,hcell⟩:=h5 (Nat.lt_of_le_of_lt (Nat.zero_le _) hi1)
   cases hab
   have:=hcell _ _ _ hi1 hk3
   rw [Addr.add_lit]
   rw [Nat.add_assoc,← hd] at this
   exact this
  have Jh:∀ y ∈ (List.range m.length).flatMap cs,y.oneCell'=true:=by
   intro y hy
   obtain ⟨i,hi',hy⟩:=List.mem_flatMap.1 hy
   have hil:i < m.length:=by simpa using hi'
   exact hone _ _ (h4 i m[i] (aK hil)).1 y hy
  obtain ⟨v',w',hr,k2,k3,k4,k5⟩:=run_append_own_at (P:=P) w B t ty e i z sz bytes ht hi hz hsize hby hzs hsz v 0 [] h ad m.length cap ((List.range m.length).flatMap cs) hfl hnews Jh (by omega) (by simpa using hb) hB
  refine ⟨v',w',(List.range m.length).flatMap cs,hr,by simpa using k2,fun i x hx=>?_,k3,k5⟩
  have hil:i < m.length:=(gs1 hx).1
  refine ⟨cs i,hlen i hil,(h4 i x hx).1,fun j y hy=>?_⟩
  have hj:j < sz:=by have:=(gs1 hy).1;have:=hlen i hil;omega
  rw [BF m.length hlen i j hil hj]
  exact hy
/-- The operation in a region that draws. -/
theorem j5 {o:Oper} {a:Act} {K:Act→World→Prop} {Q:Exit→Act→World→Prop} (d:Nat) (hd:o.dst=some d) (s y:Operand)
  (ho:o.op=.call { callee:=.builtin .append,args:=#[s,y],argTypes:=#[t,t] }) (h:w.ownsRow B e sz v 0 []) (hu:Rd sz RE w u m) (hone:∀ c x,RE w c x→∀ y ∈ c,y.oneCell'=true) {i:TypeInfo} {z:Value} (ht:P.underlying t=some (.slice e)) (hi:P.info? e=some i) (hz:i.zero=some z) (hsize:i.size=sz) (hby:i.bytes=bytes) (hzs:z.cells.size=sz) (hsz:0 < sz)
  (hs:a.eval s=v) (hy:a.eval y=u) (hl:m.length≤maxLen) (hb:m.length * bytes≤140737488355328) (hB:B≤w.heap.size)
  (k:∀ v' w' xs,w'.ownsRow B e sz v' m.length xs→(∀ i x,m[i]?=some x→∃ c,c.length=sz∧RE w c x∧∀ j y,c[j]?=some y→xs[i * sz+j]?=some y)→w.grownBy w' v.ownBlock→(v'.ownBlock=v.ownBlock∨v'.ownBlock=some w.heap.size)→K (a.put (some d) v') w'):o.wp P a w K Q:=by
 obtain ⟨v',w',xs,hr,h2,h3,h4,h5⟩:=Pq (P:=P) (t:=t) h hu hone o.type ht hi hz hsize hby hzs hsz hl hb hB
 unfold Oper.wp execOp
 simp only [ho,resolve,invoke,builtin,Sem.run_bind,Sem.run_pure,Result.andThen_ok,List.map_toArray,List.map_cons,List.map_nil,hs,hy,hr]
 have:=k v' w' xs h2 h3 h4 h5
 rw [← hd] at this
 exact this
/-- The operation in a region that goes in the text's order. -/
theorem Pt {ops:Array Oper} {rest:List Oper} {o:Oper} {a:Act} {Q:Exit→Act→World→Prop} (hgd:o.guard=none) (s y:Operand)
  (ho:o.op=.call { callee:=.builtin .append,args:=#[s,y],argTypes:=#[t,t] }) (h:w.ownsRow B e sz v 0 []) (hu:Rd sz RE w u m) (hone:∀ c x,RE w c x→∀ y ∈ c,y.oneCell'=true) {i:TypeInfo} {z:Value} (ht:P.underlying t=some (.slice e)) (hi:P.info? e=some i) (hz:i.zero=some z) (hsize:i.size=sz) (hby:i.bytes=bytes) (hzs:z.cells.size=sz) (hsz:0 < sz)
  (hs:a.eval s=v) (hy:a.eval y=u) (hl:m.length≤maxLen) (hb:m.length * bytes≤140737488355328) (hB:B≤w.heap.size)
  (k:∀ v' w' xs,w'.ownsRow B e sz v' m.length xs→(∀ i x,m[i]?=some x→∃ c,c.length=sz∧RE w c x∧∀ j y,c[j]?=some y→xs[i * sz+j]?=some y)→w.grownBy w' v.ownBlock→(v'.ownBlock=v.ownBlock∨v'.ownBlock=some w.heap.size)→wpList P ops Q rest (a.put o.dst v') w'):wpList P ops Q (o :: rest) a w:=by
 refine wpList_plain hgd fun K hK=>?_
 obtain ⟨v',w',xs,hr,h2,h3,h4,h5⟩:=Pq (P:=P) (t:=t) h hu hone o.type ht hi hz hsize hby hzs hsz hl hb hB
 unfold Oper.wp execOp
 simp only [ho,resolve,invoke,builtin,Sem.run_bind,Sem.run_pure,Result.andThen_ok,List.map_toArray,List.map_cons,List.map_nil,hs,hy,hr]
 exact hK _ _ (k v' w' xs h2 h3 h4 h5)
end
/-- An empty slice that is just made. -/
theorem kK (w:World) (e:TypeId) (sz B:Nat) (hB:B≤w.heap.size):(w.alloc (.cells #[] e)).ownsRow B e sz (.slice (some ⟨w.heap.size,0,none⟩) 0 0) 0 [] :=
 ⟨by simp,.inr ⟨w.heap.size,0,#[],rfl,hB,aV w _,Nat.le_refl _,by simp [maxLen],by simp,by simp⟩⟩
/-- Bytes as a list of cells. -/
def Ji (_:World) (c:List Value) (x:Int):Prop:=c=[.int .u8 x]
theorem Bs.rY {w:World} {v:Value} {l:List Int} (h:Bs w v l):Rd 1 Ji w v l:=by
 obtain ⟨-,a,cap,hv,h1,h2,h3,h4⟩:=h
 refine ⟨a,cap,fun i=>[.int .u8 (l.getD i 0)],hv,h1,h2,h3,fun i x hx=>⟨?_,rfl⟩,fun hp=>?_⟩
 ·show [Value.int .u8 (l.getD i 0)]=_
  rw [List.getD_eq_getElem?_getD,hx]
  rfl
 ·obtain ⟨b,off,ha,hb,hc⟩:=h4 hp
  refine ⟨b,off,ha,hb,fun i j y hi hy=>?_⟩
  cases j with
  | zero =>
   simp at hy
   subst hy
   have h:=hc i hi
   rw [show off+i * 1+0=off+i by omega]
   exact h
  | succ j=>simp at hy
theorem one_byte:∀ (w:World) (c:List Value) (x:Int),Ji w c x→∀ y ∈ c,y.oneCell'=true:=by
 rintro w c x rfl y hy
 simp at hy
 subst hy
 rfl
theorem BG:∀ (w:World) (c:List Value) (x:bf),xS w c x→∀ y ∈ c,y.oneCell'=true:=by
 rintro w c x ⟨rfl,-⟩ y hy
 simp at hy
 rcases hy with rfl | rfl <;> rfl
/-- What comes back, as bytes of the call's own, as a list of those that went. -/
theorem rZ {w w0:World} {B:Nat} {v:Value} {l:List Int} {xs:List Value} {S:Nat→Prop} (ho:Oct l) (h:w.ownsRow B 5 1 v l.length xs) (hx:∀ i x,l[i]?=some x→∃ c,c.length=1∧Ji w0 c x∧∀ j y,c[j]?=some y→xs[i * 1+j]?=some y) (hS:∀ g,v.ownBlock=some g→S g):RO w S v l:=by
 have e:xs=vals l:=by
  apply List.ext_getElem?
  intro i
  have hlen:=h.1
  by_cases hi:i < l.length
  ·obtain ⟨c,-,hc,hj⟩:=hx i l[i] (aK hi)
   have hc':c=[.int .u8 l[i]]:=hc
   subst hc'
   have:=hj 0 _ rfl
   simp only [Nat.mul_one,Nat.add_zero] at this
   rw [this]
   simp [vals,aK hi]
  ·rw [List.getElem?_eq_none (by omega),List.getElem?_eq_none (by simp [vals];omega)]
 subst e
 refine ⟨ho,⟨h.1,?_⟩,hS⟩
 rcases h.2 with hn | ⟨g,cap,cur,hv,hg,r⟩
 ·exact .inl hn
 ·exact .inr ⟨g,cap,cur,hv,Nat.zero_le _,r⟩
theorem FU {w w0:World} {B:Nat} {v:Value} {l:List bf} {xs:List Value} {S:Nat→Prop} (h:w.ownsRow B 126 2 v l.length xs) (hx:∀ i x,l[i]?=some x→∃ c,c.length=2∧xS w0 c x∧∀ j y,c[j]?=some y→xs[i * 2+j]?=some y) (hS:∀ g,v.ownBlock=some g→S g):fB w S v l:=by
 rcases h.2 with ⟨hn,hl⟩ | ⟨g,cap,cur,hv,hg,hh,h1,h2,h3,h4⟩
 ·exact .inl ⟨hn,List.eq_nil_of_length_eq_zero hl⟩
 ·refine .inr ⟨g,cap,cur,fun i=>match l[i]? with | some x=>[.int .i64 x.uid,.int .i64 x.seq] | none=>[],fun _ _=>False,hv,hh,h1,h2,h3,hS g (by rw [hv];rfl),fun i x hi=>?_,by simp,by simp⟩
  obtain ⟨c,-,⟨hc,Jj⟩,hj⟩:=hx i x hi
  simp only [hi]
  refine ⟨⟨rfl,Jj⟩,rfl,fun j y hy=>?_⟩
  rw [← hc] at hy
  have:=hj j y hy
  rw [← h4,List.getElem?_take] at this
  split at this
  ·simpa using this
  ·cases this
/- What ahy and ahz answer, on lists. -/
/- Numbers, flags and texts as lines have them, on lists. -/
/- Accounts as bytes, on lists. -/
/- There and back: numbers and texts come back from their bytes, and bytes that are read are just the bytes of what was read. -/
/- Accounts read from bytes, on lists: as the specification reads (a place below 0 says that nothing is there), and as the program reads (none says so); both come to the same. -/
/-- What was read from p up to q stands there as the bytes y. -/
def FV (l:List Int) (p q:Int) (y:List Int):Prop:=p≤q∧q≤l.length∧l.take q.toNat=l.take p.toNat ++ y
theorem FV.trans {l:List Int} {p q r:Int} {y z:List Int} (h:FV l p q y) (k:FV l q r z):FV l p r (y ++ z):=⟨by have:=h.1;have:=k.1;omega,k.2.1,by rw [k.2.2,h.2.2,List.append_assoc]⟩
end Go.Proofs.YtlneebmlhblleaaGreat
