/- The proof's texts, part 31. -/
import Derived.Test.YtnlhkgoppjejeaaDoorPart30
import Derived.Test.YtnlhkgoppjejeaaDoorPart20
import Derived.Test.YtnlhkgoppjejeaaDoorPart28
import Derived.Test.YtnlhkgoppjejeaaDoorPart29

/- A whole list put behind a row of the call's own; parts of a list. -/
namespace Go.Proofs.YtnlhkgoppjejeaaDoor
open Go.RowKit
set_option linter.unusedVariables false

section
variable {α : Type} {P : Program} {w : World} {e t : TypeId} {sz bytes B n : Nat} {RE : World → List Value → α → Prop} {v u : Value} {m : List α} {xs : List Value}
theorem run_catA (h:w.ownsRow B e sz v n xs) (hu:Rd sz RE w u m) (hone:∀ c x,RE w c x→∀ y ∈ c,y.oneCell'=true) (ty:TypeId) {i:TypeInfo} {z:Value} (ht:P.underlying t=some (.slice e)) (hi:P.info? e=some i) (hz:i.zero=some z) (hsize:i.size=sz) (hby:i.bytes=bytes) (hzs:z.cells.size=sz) (hsz:0 < sz)
  (hl:n+m.length≤maxLen) (hb:(n+m.length) * bytes≤140737488355328) (hB:B≤w.heap.size) :
  ∃ v' w' ys,(Builtin.append_ #[t,t] ty #[v,u]).run P w=.ok v' w'∧w'.ownsRow B e sz v' (n+m.length) (xs ++ ys)∧ys.length=m.length * sz∧(∀ i x,m[i]?=some x→∃ c,c.length=sz∧RE w c x∧∀ j y,c[j]?=some y→ys[i * sz+j]?=some y)∧w.grownBy w' v.ownBlock∧(v'.ownBlock=v.ownBlock∨v'.ownBlock=some w.heap.size):=by
 obtain ⟨a,cap,cs,rfl,h1,h2,h3,h4,h5⟩:=hu
 cases a with
 | none =>
  have hc:=h3 rfl
  have hm:m=[]:=List.eq_nil_of_length_eq_zero (by omega)
  subst hm
  subst hc
  exact ⟨v,w,[],run_append_owned_none (P:=P) (w:=w) B t ty e i sz ht hi v n xs h,by simpa using h,by simp,by simp,World.grownBy.refl _ _,.inl rfl⟩
 | some ad =>
  have hlen:∀ i,i < m.length→(cs i).length=sz:=fun i hi=>(h4 i m[i] (List.getElem?_eq_getElem hi)).2
  have hfl:=flatC_len m.length hlen
  have hnews:∀ k y,((List.range m.length).flatMap cs)[k]?=some y→w.cell? (ad.add k)=some y:=by
   intro k y hk
   have hk2:k < m.length * sz:=by have:=(List.getElem?_eq_some_iff.1 hk).1;omega
   have hd:k=k / sz * sz+k % sz:=by have:=Nat.div_add_mod k sz;rw [Nat.mul_comm];omega
   have hi1:k / sz < m.length:=Nat.div_lt_of_lt_mul (by rw [Nat.mul_comm];exact hk2)
   have hj1:k % sz < sz:=Nat.mod_lt _ hsz
   have hk3:=hk
   rw [hd,flatC_get m.length hlen _ _ hi1 hj1] at hk3
   obtain ⟨b,off,hab,-,hcell⟩:=h5 (Nat.lt_of_le_of_lt (Nat.zero_le _) hi1)
   cases hab
   have:=hcell _ _ _ hi1 hk3
   rw [Addr.add_lit]
   rw [Nat.add_assoc,← hd] at this
   exact this
  have hones:∀ y ∈ (List.range m.length).flatMap cs,y.oneCell'=true:=by
   intro y hy
   obtain ⟨i,hi',hy⟩:=List.mem_flatMap.1 hy
   have hil:i < m.length:=by simpa using hi'
   exact hone _ _ (h4 i m[i] (List.getElem?_eq_getElem hil)).1 y hy
  obtain ⟨v',w',hr,k2,k3,k4,k5⟩:=run_append_own_at (P:=P) w B t ty e i z sz bytes ht hi hz hsize hby hzs hsz v n xs h ad m.length cap ((List.range m.length).flatMap cs) hfl hnews hones hl hb hB
  refine ⟨v',w',(List.range m.length).flatMap cs,hr,k2,hfl,fun i x hx=>?_,k3,k5⟩
  have hil:i < m.length:=(List.getElem?_eq_some_iff.1 hx).1
  refine ⟨cs i,hlen i hil,(h4 i x hx).1,fun j y hy=>?_⟩
  have hj:j < sz:=by have:=(List.getElem?_eq_some_iff.1 hy).1;have:=hlen i hil;omega
  rw [flatC_get m.length hlen i j hil hj]
  exact hy
theorem wp_catA {o:Oper} {a:Act} {K:Act→World→Prop} {Q:Exit→Act→World→Prop} (d:Nat) (hd:o.dst=some d) (s y:Operand)
  (ho:o.op=.call { callee:=.builtin .append,args:=#[s,y],argTypes:=#[t,t] }) (h:w.ownsRow B e sz v n xs) (hu:Rd sz RE w u m) (hone:∀ c x,RE w c x→∀ y ∈ c,y.oneCell'=true) {i:TypeInfo} {z:Value} (ht:P.underlying t=some (.slice e)) (hi:P.info? e=some i) (hz:i.zero=some z) (hsize:i.size=sz) (hby:i.bytes=bytes) (hzs:z.cells.size=sz) (hsz:0 < sz)
  (hs:a.eval s=v) (hy:a.eval y=u) (hl:n+m.length≤maxLen) (hb:(n+m.length) * bytes≤140737488355328) (hB:B≤w.heap.size)
  (k:∀ v' w' ys,w'.ownsRow B e sz v' (n+m.length) (xs ++ ys)→ys.length=m.length * sz→(∀ i x,m[i]?=some x→∃ c,c.length=sz∧RE w c x∧∀ j y,c[j]?=some y→ys[i * sz+j]?=some y)→w.grownBy w' v.ownBlock→(v'.ownBlock=v.ownBlock∨v'.ownBlock=some w.heap.size)→K (a.put (some d) v') w'):o.wp P a w K Q:=by
 obtain ⟨v',w',ys,hr,h2,h3,h4,h5,h6⟩:=run_catA (P:=P) (t:=t) h hu hone o.type ht hi hz hsize hby hzs hsz hl hb hB
 unfold Oper.wp execOp
 simp only [ho,resolve,invoke,builtin,Sem.run_bind,Sem.run_pure,Result.andThen_ok,List.map_toArray,List.map_cons,List.map_nil,hs,hy,hr]
 have:=k v' w' ys h2 h3 h4 h5 h6
 rw [← hd] at this
 exact this
/-- The first ones, the last ones of a list that is read. -/
theorem Rd.take {ad:Option Addr} {c k:Nat} (h:Rd sz RE w (.slice ad m.length c) m) (hk:k≤m.length):Rd sz RE w (.slice ad k c) (m.take k):=by
 obtain ⟨a,cap,cs,hv,h1,h2,h3,h4,h5⟩:=h
 cases hv
 have hl:(m.take k).length=k:=by simp;omega
 refine ⟨ad,c,cs,by rw [hl],by omega,h2,h3,fun i x hx=>h4 i x ?_,fun hp=>?_⟩
 ·rw [List.getElem?_take] at hx
  split at hx
  ·exact hx
  ·cases hx
 ·rw [hl] at hp
  obtain ⟨b,off,ha,hb,hc⟩:=h5 (by omega)
  exact ⟨b,off,ha,hb,fun i j u hi hu=>hc i j u (by omega) hu⟩
theorem Rd.drop {b off c k:Nat} (h:Rd sz RE w (.slice (some ⟨b,off,none⟩) m.length c) m) (hk:k≤m.length):Rd sz RE w (.slice (some ⟨b,off+k * sz,none⟩) (m.length - k) (c - k)) (m.drop k):=by
 obtain ⟨a,cap,cs,hv,h1,h2,h3,h4,h5⟩:=h
 cases hv
 have hl:(m.drop k).length=m.length - k:=by simp
 refine ⟨some ⟨b,off+k * sz,none⟩,c - k,fun i=>cs (k+i),by rw [hl],by omega,by omega,(fun h=>by cases h),fun i x hx=>h4 (k+i) x (by rw [List.getElem?_drop] at hx;exact hx),fun hp=>?_⟩
 rw [hl] at hp
 obtain ⟨b',off',ha,hb,hc⟩:=h5 (by omega)
 cases ha
 refine ⟨b,off+k * sz,rfl,hb,fun i j u hi hu=>?_⟩
 have:=hc (k+i) j u (by omega) hu
 rw [Nat.add_mul,← Nat.add_assoc] at this
 exact this
end

end Go.Proofs.YtnlhkgoppjejeaaDoor

/- Cells put behind a row of the call's own, as they are. -/
namespace Go.Proofs.YtnlhkgoppjejeaaDoor
open Go.RowKit
set_option linter.unusedVariables false

/-- A slice's cells, as they are. -/
def SrcC (w:World) (u:Value) (m sz:Nat) (news:List Value):Prop :=
 (u=.slice none 0 0∧m=0∧news=[])∨∃ g off cap,u=.slice (some ⟨g,off,none⟩) m cap∧news.length=m * sz∧∀ j y,news[j]?=some y→w.cell? ⟨g,off+j,none⟩=some y
section
variable {P : Program} {w : World} {e t : TypeId} {sz bytes B n m : Nat} {v u : Value} {xs news : List Value}
theorem run_catC (h:w.ownsRow B e sz v n xs) (hu:SrcC w u m sz news) (hone:∀ y ∈ news,y.oneCell'=true) (ty:TypeId) {i:TypeInfo} {z:Value} (ht:P.underlying t=some (.slice e)) (hi:P.info? e=some i) (hz:i.zero=some z) (hsize:i.size=sz) (hby:i.bytes=bytes) (hzs:z.cells.size=sz) (hsz:0 < sz)
  (hl:n+m≤maxLen) (hb:(n+m) * bytes≤140737488355328) (hB:B≤w.heap.size) :
  ∃ v' w',(Builtin.append_ #[t,t] ty #[v,u]).run P w=.ok v' w'∧w'.ownsRow B e sz v' (n+m) (xs ++ news)∧w.grownBy w' v.ownBlock∧(v'.ownBlock=v.ownBlock∨v'.ownBlock=some w.heap.size):=by
 rcases hu with ⟨rfl,rfl,rfl⟩ | ⟨g,off,cap,rfl,hn,hc⟩
 ·exact ⟨v,w,run_append_owned_none (P:=P) (w:=w) B t ty e i sz ht hi v n xs h,by simpa using h,World.grownBy.refl _ _,.inl rfl⟩
 ·obtain ⟨v',w',hr,k2,k3,k4,k5⟩:=run_append_own_at (P:=P) w B t ty e i z sz bytes ht hi hz hsize hby hzs hsz v n xs h ⟨g,off,none⟩ m cap news hn (fun j y hy=>by rw [Addr.add_lit];exact hc j y hy) hone hl hb hB
  exact ⟨v',w',hr,k2,k3,k5⟩
theorem wp_catC {o:Oper} {a:Act} {K:Act→World→Prop} {Q:Exit→Act→World→Prop} (d:Nat) (hd:o.dst=some d) (s y:Operand)
  (ho:o.op=.call { callee:=.builtin .append,args:=#[s,y],argTypes:=#[t,t] }) (h:w.ownsRow B e sz v n xs) (hu:SrcC w u m sz news) (hone:∀ y ∈ news,y.oneCell'=true) {i:TypeInfo} {z:Value} (ht:P.underlying t=some (.slice e)) (hi:P.info? e=some i) (hz:i.zero=some z) (hsize:i.size=sz) (hby:i.bytes=bytes) (hzs:z.cells.size=sz) (hsz:0 < sz)
  (hs:a.eval s=v) (hy:a.eval y=u) (hl:n+m≤maxLen) (hb:(n+m) * bytes≤140737488355328) (hB:B≤w.heap.size)
  (k:∀ v' w',w'.ownsRow B e sz v' (n+m) (xs ++ news)→w.grownBy w' v.ownBlock→(v'.ownBlock=v.ownBlock∨v'.ownBlock=some w.heap.size)→K (a.put (some d) v') w'):o.wp P a w K Q:=by
 obtain ⟨v',w',hr,h2,h3,h5⟩:=run_catC (P:=P) (t:=t) h hu hone o.type ht hi hz hsize hby hzs hsz hl hb hB
 unfold Oper.wp execOp
 simp only [ho,resolve,invoke,builtin,Sem.run_bind,Sem.run_pure,Result.andThen_ok,List.map_toArray,List.map_cons,List.map_nil,hs,hy,hr]
 have:=k v' w' h2 h3 h5
 rw [← hd] at this
 exact this
theorem wpList_catC {ops:Array Oper} {rest:List Oper} {o:Oper} {a:Act} {Q:Exit→Act→World→Prop} (hgd:o.guard=none) (s y:Operand)
  (ho:o.op=.call { callee:=.builtin .append,args:=#[s,y],argTypes:=#[t,t] }) (h:w.ownsRow B e sz v n xs) (hu:SrcC w u m sz news) (hone:∀ y ∈ news,y.oneCell'=true) {i:TypeInfo} {z:Value} (ht:P.underlying t=some (.slice e)) (hi:P.info? e=some i) (hz:i.zero=some z) (hsize:i.size=sz) (hby:i.bytes=bytes) (hzs:z.cells.size=sz) (hsz:0 < sz)
  (hs:a.eval s=v) (hy:a.eval y=u) (hl:n+m≤maxLen) (hb:(n+m) * bytes≤140737488355328) (hB:B≤w.heap.size)
  (k:∀ v' w',w'.ownsRow B e sz v' (n+m) (xs ++ news)→w.grownBy w' v.ownBlock→(v'.ownBlock=v.ownBlock∨v'.ownBlock=some w.heap.size)→wpList P ops Q rest (a.put o.dst v') w'):wpList P ops Q (o :: rest) a w:=by
 refine wpList_plain hgd fun K hK=>?_
 obtain ⟨v',w',hr,h2,h3,h5⟩:=run_catC (P:=P) (t:=t) h hu hone o.type ht hi hz hsize hby hzs hsz hl hb hB
 unfold Oper.wp execOp
 simp only [ho,resolve,invoke,builtin,Sem.run_bind,Sem.run_pure,Result.andThen_ok,List.map_toArray,List.map_cons,List.map_nil,hs,hy,hr]
 exact hK _ _ (k v' w' h2 h3 h5)
end

end Go.Proofs.YtnlhkgoppjejeaaDoor

/- An account whose boxes are put anew. -/
namespace Go.Proofs.YtnlhkgoppjejeaaDoor
open Go.RowKit
set_option linter.unusedVariables false
set_option linter.unusedSimpArgs false

theorem AccP.putBoxes {w1 w:World} {S S':Nat→Prop} {ga:Nat} {a:AccD} {v:Value} {l:List BoxD} (h:AccP w1 S ga a) (hb:Below w1.heap.size w1 w) (hq:BoxesQ w S' v l) (hg:¬ S' ga) (hS:∀ k,S' k→S k∨w1.heap.size≤k) :
  AccP (w.setCell ⟨ga,1,none⟩ v) S' ga ⟨a.valid,l,a.seen⟩:=by
 have h':=h.below hb
 have ht:=h'.ty
 obtain ⟨_,u0',u1',hh,_,hi,_⟩:=h
 obtain ⟨hs,u0,u1,h0,h1,_,r⟩:=h'
 have hk:∀ k,k≠ga→(w.setCell ⟨ga,1,none⟩ v).heap[k]?=w.heap[k]?:=fun k h=>Below.heap_setCell _ _ _ _ h
 have he:=(hb.block ga (lt_of_heap hh)).trans hh
 rw [h0] at he
 simp only [Option.some.injEq,Obj.cells.injEq,Array.mk.injEq,List.cons.injEq,true_and,and_true] at he
 obtain ⟨rfl,rfl⟩:=he
 refine ⟨hg,v,u1,box_set (i:=1) h0,boxes_oth hq (fun k h _=>hk k fun e=>hg (e ▸ h)) (stay_set ht (by decide)) (stay_set ht (by decide)),?_,r⟩
 refine Ow.mono (intsp_oth (w:=w1) hi fun k hk1 hk2 hT=>?_) fun k h=>⟨fun h'=>(hS k h').elim h.1 fun h'=>by have:=h.2;omega,by have:=h.2;have:=hb.size;simpa [World.setCell] using Nat.lt_of_lt_of_le h.2 hb.size⟩
 have:k≠ga:=fun e=>by subst e;obtain ⟨cs,fz,hT⟩:=hT;exact ty_ne hT ⟨_,_,hh⟩ (by decide)
 exact (hk k this).trans (hb.block k hk2)

/-- A box of its own, without mails and gones. -/
theorem bare_el {w:World} {na:Option Addr} {nn nc:Nat} {nm:List Int} {v n:Int} (h:RO w Any (.slice na nn nc) nm) (hv:I64 v) (hn:I64 n):EL 7 BoxQE w [⟨nm,v,n,0,[],[],0⟩] (fun _=>False) [.slice na nn nc,.int .i64 v,.int .i64 n,.int .i64 0,.slice none 0 0,.slice none 0 0,.int .i64 0] :=
 EL.one rfl ⟨_,_,_,rfl,h,.inl ⟨rfl,rfl⟩,⟨Rd.nil _,fun _ _ _ e=>by cases e⟩,hv,hn,i64c0,i64c0⟩
theorem one_el {w:World}:∀ {l:List BoxD} {S:Nat→Prop} {xs:List Value},EL 7 BoxQE w l S xs→∀ y ∈ xs,y.oneCell'=true
 | [],_,_,h=>by rw [show _=[] from h];simp
 | x :: l,_,_,⟨c,ys,_,_,e,hc,⟨u0,u1,u2,ec,h0,h1,h2,_⟩,hl,_⟩=>by
  obtain ⟨a0,n0,c0,rfl⟩:=h0.bs.form3
  obtain ⟨a1,c1,rfl,-⟩:=h1.v.form
  obtain ⟨a2,c2,rfl,-⟩:=h2.1.form
  subst ec
  subst e
  intro y hy
  simp only [List.cons_append,List.nil_append,List.mem_cons,List.mem_append,List.not_mem_nil,or_false] at hy
  rcases hy with rfl | rfl | rfl | rfl | rfl | rfl | rfl | hy
  all_goals first | rfl | exact one_el hl y hy
/-- One box into the middle of a row. -/
theorem el_mid {w:World} {l:List BoxD} {b:BoxD} {S:Nat→Prop} {xs cb:List Value} (i:Nat) (h:EL 7 BoxQE w l S xs) (hb:EL 7 BoxQE w [b] (fun _=>False) cb):EL 7 BoxQE w (l.take i ++ b :: l.drop i) S (xs.take (i * 7) ++ cb ++ xs.drop (i * 7)):=by
 obtain ⟨S1,S2,e1,e2,d1,d2,d3⟩:=EL.split i h
 have:=(e1.app hb (fun _ _ h=>h)).app e2 (fun k h h'=>h.elim (fun h=>d3 k h h') (fun h=>h))
 rw [List.append_assoc] at this
 exact this.mono fun k h=>h.elim (fun h=>h.elim (d1 k) False.elim) (d2 k)
/-- One box out of a row. -/
theorem el_out {w:World} {l:List BoxD} {S:Nat→Prop} {xs:List Value} (i:Nat) (h:EL 7 BoxQE w l S xs):EL 7 BoxQE w (l.take i ++ l.drop (i+1)) S (xs.take (i * 7) ++ xs.drop ((i+1) * 7)):=by
 obtain ⟨S1,S2,e1,e2,d1,d2,d3⟩:=EL.split i h
 obtain ⟨T1,T2,f1,f2,c1,c2,c3⟩:=EL.split 1 e2
 have:=e1.app f2 (fun k h h'=>d3 k h (c2 k h'))
 rw [List.drop_drop,List.drop_drop] at this
 rw [show (i+1) * 7=i * 7+1 * 7 by omega]
 exact this.mono fun k h=>h.elim (d1 k) fun h=>d2 k (c2 k h)
theorem takeWhile_take {α:Type} (p:α→Bool):∀ (l:List α) (i:Nat),(∀ j x,j < i→l[j]?=some x→p x=true)→(∀ x,l[i]?=some x→p x=false)→i≤l.length→l.takeWhile p=l.take i∧l.dropWhile p=l.drop i
 | [],i,_,_,hi=>by simp at hi;subst hi;simp
 | x :: l,0,_,h,_=>by simp [h x rfl]
 | x :: l,i+1,h1,h2,hi=>by
  have hx:=h1 0 x (by omega) rfl
  obtain ⟨e1,e2⟩:=takeWhile_take p l i (fun j y hj hy=>h1 (j+1) y (by omega) (by simpa using hy)) (fun y hy=>h2 y (by simpa using hy)) (by simpa using hi)
  simp [hx,e1,e2]

section
variable {w : World} {g cap n k : Nat} {cur : Array Value}
theorem src_take (hh:w.heap[g]?=some (.cells cur 44 (0,0))) (hs:n * 7≤cur.size) (hk:k≤n) (c:Nat):SrcC w (.slice (some ⟨g,0,none⟩) k c) k 7 ((cur.toList.take (n * 7)).take (k * 7)):=by
 refine .inr ⟨g,0,c,rfl,?_,fun j y hy=>?_⟩
 ·rw [List.length_take,List.length_take,Array.length_toList];omega
 ·rw [List.getElem?_take] at hy
  split at hy
  ·rw [List.getElem?_take] at hy
   split at hy
   ·rw [cell_of_row w g _ cur _ (0,0) hh,Nat.zero_add];simpa using hy
   ·cases hy
  ·cases hy
theorem src_drop (hh:w.heap[g]?=some (.cells cur 44 (0,0))) (hs:n * 7≤cur.size) (hk:k≤n) (c:Nat):SrcC w (.slice (some ⟨g,k * 7,none⟩) (n - k) c) (n - k) 7 ((cur.toList.take (n * 7)).drop (k * 7)):=by
 refine .inr ⟨g,k * 7,c,rfl,?_,fun j y hy=>?_⟩
 ·rw [List.length_drop,List.length_take,Array.length_toList,Nat.sub_mul];omega
 ·rw [List.getElem?_drop,List.getElem?_take] at hy
  split at hy
  ·rw [cell_of_row w g _ cur _ (0,0) hh];simpa using hy
  ·cases hy
theorem src_end (w:World) (g n:Nat) (cur:Array Value) (c:Nat):SrcC w (.slice (some ⟨g,0,none⟩) 0 c) 0 7 ((cur.toList.take (n * 7)).drop (n * 7)):=by
 refine .inr ⟨g,0,c,rfl,?_,fun j y hy=>?_⟩
 ·rw [List.length_drop,List.length_take];omega
 ·rw [List.drop_of_length_le (by rw [List.length_take];omega)] at hy;cases hy
end
/-- The boxes with one more are the account's. -/
theorem create_end {wl w3:World} {S0:Nat→Prop} {ga k m:Nat} {A:AccD} {cells xs:List Value} {V:Value} {na:Option Addr} {nn nc:Nat} {nm:List Int} {v:Int} (hA:AccP wl S0 ga A) (hSl:∀ k,S0 k→k < wl.heap.size) (hb:Below wl.heap.size wl w3) (hel:EL 7 BoxQE wl A.boxes S0 cells) (hro:RO wl Any (.slice na nn nc) nm) (hv:I64 v)
  (hrow:w3.ownsRow wl.heap.size 44 7 V m xs) (hm:m=A.boxes.length+1) (hxs:xs=cells.take (k * 7) ++ [.slice na nn nc,.int .i64 v,.int .i64 1,.int .i64 0,.slice none 0 0,.slice none 0 0,.int .i64 0] ++ cells.drop (k * 7)) (hk:k≤A.boxes.length) :
  AccP (w3.setCell ⟨ga,1,none⟩ V) (fun j=>S0 j∨wl.heap.size≤j) ga ⟨A.valid,A.boxes.take k ++ ⟨nm,v,1,0,[],[],0⟩ :: A.boxes.drop k,A.seen⟩:=by
 have hl:(A.boxes.take k ++ (⟨nm,v,1,0,[],[],0⟩:BoxD) :: A.boxes.drop k).length=m:=by rw [hm,List.length_append,List.length_cons,List.length_take,List.length_drop];omega
 subst hxs
 rw [← hl] at hrow
 have he:=el_mid k (el_oth hel (fun k _ hk=>hb.block k hk) (stay_below hb) (stay_below hb)) (bare_el (w:=w3) (v:=v) (n:=1) (ro_oth hro (stay_below hb)) hv ⟨by decide,by decide⟩)
 exact hA.putBoxes hb (boxesq_row hrow he hSl) (fun h=>h.elim hA.1 (fun h=>by have:=hA.lt;omega)) (fun k h=>h)

end Go.Proofs.YtnlhkgoppjejeaaDoor

/- A reply that is laid behind an account that turned. -/
namespace Go.Proofs.YtnlhkgoppjejeaaDoor
open Go.RowKit
set_option linter.unusedVariables false
set_option linter.unusedSimpArgs false

/-- A reply that is laid above all that was there; what turned ahead of it. -/
theorem rep_turnA {w w1:World} {S:Nat→Prop} {ga r:Nat} {d0 d1 d2 d3 d4 d5 d6 d7 d8 d9:Value} (hR:w1.heap[r]?=some (.cells #[d0,d1,d2,d3,d4,d5,d6,d7,d8,d9] 84 (0,0))) (hr:w.heap.size≤r) (ht:TurnsA w w1 S ga) (a:AccD) (S':Nat→Prop) (hp:AccP w1 S' ga a) (hg:ga < w.heap.size) (hS:¬ S' r) (c n:Int) (hc:I64 c∧I64 n) :
  let w2:=((((((((((w1.setCell ⟨r,0,none⟩ (.int .i64 c)).setCell ⟨r,1,none⟩ (.int .i64 n)).setCell ⟨r,2,none⟩ (.slice none 0 0)).setCell ⟨r,3,none⟩ (.int .i64 0)).setCell ⟨r,4,none⟩ (.int .i64 0)).setCell ⟨r,5,none⟩ (.int .i64 0)).setCell ⟨r,6,none⟩ (.slice none 0 0)).setCell ⟨r,7,none⟩ (.slice none 0 0)).setCell ⟨r,8,none⟩ (.int .i64 0)).setCell ⟨r,9,none⟩ (.slice none 0 0))
  w2.heap[r]?=some (.cells #[.int .i64 c,.int .i64 n,.slice none 0 0,.int .i64 0,.int .i64 0,.int .i64 0,.slice none 0 0,.slice none 0 0,.int .i64 0,.slice none 0 0] 84 (0,0))∧TurnsA w w2 S ga∧AccP w2 S' ga a∧RepC w2 (.agg #[.int .i64 c,.int .i64 n,.slice none 0 0,.int .i64 0,.int .i64 0,.int .i64 0,.slice none 0 0,.slice none 0 0,.int .i64 0,.slice none 0 0]) (codeR c n):=by
 intro w2
 have hoth:∀ k,k≠r→w2.heap[k]?=w1.heap[k]?:=fun k hk=>by
  show ((((((((((w1.setCell ⟨r,0,none⟩ (.int .i64 c)).setCell ⟨r,1,none⟩ (.int .i64 n)).setCell ⟨r,2,none⟩ (.slice none 0 0)).setCell ⟨r,3,none⟩ (.int .i64 0)).setCell ⟨r,4,none⟩ (.int .i64 0)).setCell ⟨r,5,none⟩ (.int .i64 0)).setCell ⟨r,6,none⟩ (.slice none 0 0)).setCell ⟨r,7,none⟩ (.slice none 0 0)).setCell ⟨r,8,none⟩ (.int .i64 0)).setCell ⟨r,9,none⟩ (.slice none 0 0)).heap[k]?=_
  rw [Below.heap_setCell _ _ _ _ (show k≠r from hk),Below.heap_setCell _ _ _ _ (show k≠r from hk),Below.heap_setCell _ _ _ _ (show k≠r from hk),Below.heap_setCell _ _ _ _ (show k≠r from hk),Below.heap_setCell _ _ _ _ (show k≠r from hk),Below.heap_setCell _ _ _ _ (show k≠r from hk),Below.heap_setCell _ _ _ _ (show k≠r from hk),Below.heap_setCell _ _ _ _ (show k≠r from hk),Below.heap_setCell _ _ _ _ (show k≠r from hk),Below.heap_setCell _ _ _ _ (show k≠r from hk)]
 have hsz:w2.heap.size=w1.heap.size:=by show ((((((((((w1.setCell ⟨r,0,none⟩ (.int .i64 c)).setCell ⟨r,1,none⟩ (.int .i64 n)).setCell ⟨r,2,none⟩ (.slice none 0 0)).setCell ⟨r,3,none⟩ (.int .i64 0)).setCell ⟨r,4,none⟩ (.int .i64 0)).setCell ⟨r,5,none⟩ (.int .i64 0)).setCell ⟨r,6,none⟩ (.slice none 0 0)).setCell ⟨r,7,none⟩ (.slice none 0 0)).setCell ⟨r,8,none⟩ (.int .i64 0)).setCell ⟨r,9,none⟩ (.slice none 0 0)).heap.size=_;simp only [box_size]
 have hos:w2.os=w1.os:=by show ((((((((((w1.setCell ⟨r,0,none⟩ (.int .i64 c)).setCell ⟨r,1,none⟩ (.int .i64 n)).setCell ⟨r,2,none⟩ (.slice none 0 0)).setCell ⟨r,3,none⟩ (.int .i64 0)).setCell ⟨r,4,none⟩ (.int .i64 0)).setCell ⟨r,5,none⟩ (.int .i64 0)).setCell ⟨r,6,none⟩ (.slice none 0 0)).setCell ⟨r,7,none⟩ (.slice none 0 0)).setCell ⟨r,8,none⟩ (.int .i64 0)).setCell ⟨r,9,none⟩ (.slice none 0 0)).os=_;simp only [set_os]
 have htape:w2.tape=w1.tape:=by show ((((((((((w1.setCell ⟨r,0,none⟩ (.int .i64 c)).setCell ⟨r,1,none⟩ (.int .i64 n)).setCell ⟨r,2,none⟩ (.slice none 0 0)).setCell ⟨r,3,none⟩ (.int .i64 0)).setCell ⟨r,4,none⟩ (.int .i64 0)).setCell ⟨r,5,none⟩ (.int .i64 0)).setCell ⟨r,6,none⟩ (.slice none 0 0)).setCell ⟨r,7,none⟩ (.slice none 0 0)).setCell ⟨r,8,none⟩ (.int .i64 0)).setCell ⟨r,9,none⟩ (.slice none 0 0)).tape=_;simp only [set_tape]
 have houtput:w2.output=w1.output:=by show ((((((((((w1.setCell ⟨r,0,none⟩ (.int .i64 c)).setCell ⟨r,1,none⟩ (.int .i64 n)).setCell ⟨r,2,none⟩ (.slice none 0 0)).setCell ⟨r,3,none⟩ (.int .i64 0)).setCell ⟨r,4,none⟩ (.int .i64 0)).setCell ⟨r,5,none⟩ (.int .i64 0)).setCell ⟨r,6,none⟩ (.slice none 0 0)).setCell ⟨r,7,none⟩ (.slice none 0 0)).setCell ⟨r,8,none⟩ (.int .i64 0)).setCell ⟨r,9,none⟩ (.slice none 0 0)).output=_;simp only [set_output]
 have hT:∀ t,t≠84→StayT w1 w2 t:=fun t hne k hk=>hoth k fun e=>by obtain ⟨cs,fz,hh⟩:=hk;rw [e,hR] at hh;cases hh;exact hne rfl
 have hrg:ga≠r:=by omega
 refine ⟨?_,⟨by rw [hsz];exact ht.1,fun k h1 h2 h3=>(hoth k (by omega)).trans (ht.2.1 k h1 h2 h3),ht.2.2.1.trans (hT _ (by decide)),ht.2.2.2.1.trans (hT _ (by decide)),hos.trans ht.2.2.2.2.1,htape.trans ht.2.2.2.2.2.1,houtput.trans ht.2.2.2.2.2.2.1,fun h1 h2=>(show w2.cell? ⟨ga,2,none⟩=w1.cell? ⟨ga,2,none⟩ by unfold World.cell?;rw [hoth ga hrg]).trans (ht.2.2.2.2.2.2.2 h1 h2)⟩,hp.oth (by omega) (hoth ga hrg) (fun k h1 h2=>hoth k fun e=>hS (e ▸ h1)) (hT _ (by decide)) (hT _ (by decide)) (hT _ (by decide)),?_⟩
 ·exact (rep_fin (w:={ w1 with heap:=#[] }) hR (Nat.zero_le _) ⟨rfl,rfl,rfl,Nat.zero_le _,fun k hk=>absurd hk (Nat.not_lt_zero _)⟩ c n).1
 ·exact ⟨_,_,_,_,rfl,⟨_,_,_,rfl,bs_nil' _,Rd.nil _,Rd.nil _,i64c0,i64c0,i64c0,i64c0⟩,⟨rfl,rfl⟩,hc⟩

end Go.Proofs.YtnlhkgoppjejeaaDoor
