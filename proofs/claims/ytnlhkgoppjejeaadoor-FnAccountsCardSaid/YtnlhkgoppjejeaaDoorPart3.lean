/- The proof's texts, part 3. -/
import Derived.Deep.RegionHeld3
import Derived.Test.YtnlhkgoppjejeaaDoorPart1
import Derived.Laws.CopyOwn
import Derived.Test.YtnlhkgoppjejeaaDoorRows
import Derived.Deep.QuietTactic
import Derived.BigQuiet
import Derived.Test.YtnlhkgoppjejeaaDoorPart2
import Derived.Shelf.Abstract

/- Regions that draw their order, walked in the text's order: what each operation asks of the others is reckoned once for a region, in a table. -/
namespace Go.Proofs.YtnlhkgoppjejeaaDoor
set_option linter.unusedVariables false

/-- The operations of the region with this number. -/
def opsAt (id:Nat):Code→Option (Array Oper)
 | .region i ops _=>if i == id then some ops else none
 | .seq a b=>(opsAt id a).or (opsAt id b)
 | .cond _ a b=>(opsAt id a).or (opsAt id b)
 | .block _ a=>opsAt id a
 | .loop a=>opsAt id a
 | _=>none

/-- The first i of n are listed. -/
def upto (n i:Nat):Array Bool:=(List.replicate i true ++ List.replicate (n - i) false).toArray
theorem upto_zero (n:Nat):upto n 0=Array.replicate n false:=by simp [upto]
theorem upto_succ {n i:Nat} (h:i < n):(upto n i).setIfInBounds i true=upto n (i+1):=by
 have e:n - i=(n - (i+1))+1:=by omega
 unfold upto
 rw [List.setIfInBounds_toArray]
 congr 1
 rw [List.set_append_right _ _ (by simp),List.length_replicate,Nat.sub_self,e,List.replicate_succ,List.set_cons_zero,List.replicate_succ',List.append_assoc]
 rfl

def statAt (ops:Array Oper) (n i:Nat):Bool:=Region.free .any ops (upto n i) i && (Region.ready .any ops (upto n i)).contains i
/-- cs: the operations that come up alone. -/
def table (ops:Array Oper) (n:Nat) (cs:List Nat):Bool:=(ops.size == n) && (Region.noSelect ops && ((List.range n).all (statAt ops n) && ((Region.ready .any ops (upto n n)).isEmpty && cs.all fun i=>(Nat.blt i n) && (Region.ready .any ops (upto n i) == [i]))))

/-- The table's word, in a wrapping that no walk looks into. -/
structure Tab (ops:Array Oper) (n:Nat) (cs:List Nat):Prop where
 out:table ops n cs=true

/-- What is left of the region when the first i operations are done. -/
def wpAt (P:Program) (ops:Array Oper) (Q:Exit→Act→World→Prop) (S:World→Prop) (n i:Nat) (a:Act) (w:World):Prop:=wpAnyH P .any ops Q S (n - i) (upto n i) a w

/-- Slot d filled: what 'put' does, in a form that computes by itself. -/
def setT (a:Act) (d:Nat) (v:Value):Act:={ a with tmps:=(a.tmps.toList.set d v).toArray }
theorem put_setT (a:Act) (d:Nat) (v:Value):a.put (some d) v=setT a d v:=by
 unfold Act.put setT
 simp only
 congr 1
 exact Array.ext' (by simp)

section
variable {P : Program} {ops : Array Oper} {Q : Exit → Act → World → Prop} {S : World → Prop} {n : Nat} {cs : List Nat} {a : Act} {w : World}
theorem tab_of {c:Option Code} {id:Nat} (h:c.bind (opsAt id)=some ops) (T:(c.bind (opsAt id)).all (fun o=>table o n cs)=true):Tab ops n cs:=by
 rw [h] at T;exact ⟨by simpa using T⟩
theorem table_parts (T':Tab ops n cs):ops.size=n∧Region.noSelect ops=true∧(∀ i,i < n→Region.free .any ops (upto n i) i=true∧(Region.ready .any ops (upto n i)).contains i=true)∧Region.ready .any ops (upto n n)=[]∧∀ i,i ∈ cs→i < n∧Region.ready .any ops (upto n i)=[i]:=by
 have T:=T'.out
 simp only [table,Bool.and_eq_true,beq_iff_eq,List.all_eq_true,List.mem_range,statAt,List.isEmpty_iff,Nat.blt_eq] at T
 exact ⟨T.1,T.2.1,fun i hi=>T.2.2.1 i hi,T.2.2.2.1,fun i hi=>T.2.2.2.2 i hi⟩
theorem wp_begin {id:Nat} (T:Tab ops n cs) (hm:P.follows .mixedOrders=true) (hS:S w.drew) (h:Tab ops n cs→S w.drew→wpAt P ops Q S n 0 a w.drew):Code.wp P (.region id ops true) Q a w:=by
 refine wp_region_held_drew (S:=S) hm hS fun hs=>?_
 obtain ⟨h1,-⟩:=table_parts T
 subst h1
 rw [← upto_zero]
 exact h T hs
/-- Operation i is taken; it is wanted. -/
theorem tkp (i d:Nat) {oi:Oper} (v:Value) (T:Tab ops n cs) (hy:∀ w,S w→(execOp a.eval oi).run P w=.ok (.value v) w) (hS:S w) (h:wpAt P ops Q S n (i+1) (setT a d v) w)
  (hi:ops[i]?=some oi:=by rfl)
  (hg:(oi.dst == some d && Region.wanted oi (yielded ops a.tmps))=true:=by kernel_rfl)
  (hQ:∀ c a w,Q (.panic c) (a.put (some d) v) w→Q (.panic c) a w:=by exact fun _ _ _ h=>h):wpAt P ops Q S n i a w:=by
 obtain ⟨h1,h2,h3,h4,h5⟩:=table_parts T
 have hlt:i < n:=by have:=(Array.getElem?_eq_some_iff.1 hi).1;omega
 simp only [Bool.and_eq_true,beq_iff_eq] at hg
 rw [← put_setT] at h
 unfold wpAt at h ⊢
 rw [show n - i=(n - (i+1))+1 by omega]
 rw [← upto_succ hlt] at h
 exact wpAnyH_take hi h2 (h3 i hlt).1 (h3 i hlt).2 (by rw [hg.1];exact hQ) (Or.inl ⟨hg.2,hy⟩) hS (by rw [hg.1];exact h)
/-- None of these is wanted; ds: the slots that they would fill. -/
def skipsD (ops:Array Oper):Nat→List Nat→Array Value→Bool
 | _,[],_=>true
 | i,d :: ds,tm=>match ops[i]? with
  | some o=>(o.dst == some d) && (!(Region.wanted o (yielded ops tm)) && skipsD ops (i+1) ds (tm.toList.set d undef).toArray)
  | none=>false
theorem skp (T:Tab ops n cs) (hQ:∀ (d:Nat) v c a w,Q (.panic c) (a.put (some d) v) w→Q (.panic c) a w) (hS:S w) :
  ∀ (ds:List Nat) (i:Nat) (a:Act),skipsD ops i ds a.tmps=true→wpAt P ops Q S n (i+ds.length) (ds.foldl (fun a d=>setT a d undef) a) w→wpAt P ops Q S n i a w
 | [],_,_,_,h=>h
 | d :: ds,i,a,hk,h=>by
  unfold skipsD at hk
  split at hk
  ·rename_i o ho
   simp only [Bool.and_eq_true,beq_iff_eq,Bool.not_eq_true'] at hk
   obtain ⟨k1,k2,k3⟩:=hk
   obtain ⟨h1,h2,h3,h4,h5⟩:=table_parts T
   have hlt:i < n:=by have:=(Array.getElem?_eq_some_iff.1 ho).1;omega
   have hr:=skp T hQ hS ds (i+1) (setT a d undef) (by simpa [setT] using k3) (by rw [show i+1+ds.length=i+(d :: ds).length by simp;omega];exact h)
   rw [← put_setT] at hr
   unfold wpAt at hr ⊢
   rw [show n - i=(n - (i+1))+1 by omega]
   rw [← upto_succ hlt] at hr
   exact wpAnyH_take (v:=undef) ho h2 (h3 i hlt).1 (h3 i hlt).2 (fun c a w=>by rw [k1];exact hQ d _ c a w) (Or.inr ⟨k2,rfl⟩) hS (by rw [k1];exact hr)
  ·cases hk
theorem skj {i j:Nat} (ds:List Nat) (hj:i+ds.length=j) (T:Tab ops n cs) (hQ:∀ (d:Nat) v c a w,Q (.panic c) (a.put (some d) v) w→Q (.panic c) a w) (hS:S w) (hk:skipsD ops i ds a.tmps=true)
 (h:wpAt P ops Q S n j (ds.foldl (fun a d=>setT a d undef) a) w):wpAt P ops Q S n i a w:=skp T hQ hS ds i a hk (by rw [hj];exact h)
/-- Operation i is a call: it comes up alone. -/
theorem clp (i:Nat) (T:Tab ops n cs) (hi:i ∈ cs) (h:AllReadyH P .any ops Q S (n - (i+1)) (upto n i) a w [i]):wpAt P ops Q S n i a w:=by
 obtain ⟨h1,h2,h3,h4,h5⟩:=table_parts T
 have hlt:=(h5 i hi).1
 unfold wpAt
 rw [show n - i=(n - (i+1))+1 by omega]
 exact wpAnyH_ready (h5 i hi).2 (by simp) h
theorem wpAt_in {i f:Nat} {l:Array Bool} (hlt:i < n) (hf:f=n - (i+1)) (hl:l=(upto n i).setIfInBounds i true) (h:wpAt P ops Q S n (i+1) a w):wpAnyH P .any ops Q S f l a w:=by
 subst hf hl
 rw [upto_succ hlt]
 exact h
theorem wp_end (T:Tab ops n cs) (h:Q .normal a w):wpAt P ops Q S n n a w:=by
 obtain ⟨h1,h2,h3,h4,h5⟩:=table_parts T
 exact wpAnyH_done h4 h _
end
theorem put0 {α:Type} (x:α) (l:List α) (a:α):(x :: l).set 0 a=a :: l:=rfl
theorem putS {α:Type} (x:α) (l:List α) (i:Nat) (a:α):(x :: l).set (i+1) a=x :: l.set i a:=rfl

/-- 'tkp', what it yields and the state behind it found by themselves. -/
theorem tkq {P:Program} {ops:Array Oper} {Q:Exit→Act→World→Prop} {S:World→Prop} {n:Nat} {cs:List Nat} {a a':Act} {w:World} (i d:Nat) {oi:Oper} {v:Value} (T:Tab ops n cs) (hS:S w) (h:wpAt P ops Q S n (i+1) a' w)
  (hi:ops[i]?=some oi:=by rfl)
  (hg:(oi.dst == some d && Region.wanted oi (yielded ops a.tmps))=true:=by kernel_rfl)
  (hy:∀ w,S w→(execOp a.eval oi).run P w=.ok (.value v) w:=by (intro w s;(try dsimp only at s);go_simp <;> with_reducible rfl))
  (ha:setT a d v=a':=by (conv=>lhs;dsimp only [setT,List.toList_toArray,put0,putS]))
  (hQ:∀ c a w,Q (.panic c) (a.put (some d) v) w→Q (.panic c) a w:=by exact fun _ _ _ h=>h):wpAt P ops Q S n i a w :=
 tkp i d v T hy hS (by rw [ha];exact h) hi hg hQ

end Go.Proofs.YtnlhkgoppjejeaaDoor

/- What GetNum answers, on lists. -/
namespace Go.Proofs.YtnlhkgoppjejeaaDoor
open Go.RowKit

/-- Reads a number off the list: f bytes may still come, i have come, n is what they gave, sc the next one's weight. -/
def dec:Nat→Nat→Int→Int→List Int→Option (Int × Nat)
 | 0,_,_,_,_=>none
 | _+1,_,_,_,[]=>none
 | f+1,i,n,sc,x :: r =>
  if x < 128 then (if (x=0∧0 < i)∨2147483647 < n+x % 128 * sc then none else some (n+x % 128 * sc,i+1))
  else dec f (i+1) (n+x % 128 * sc) (sc * 128) r

/-- What GetNum answers. -/
def outOf (at':Int):Option (Int × Nat)→Int × Int
 | some (n,k)=>(n,at'+k)
 | none=>(0,-1)
def getL (l:List Int) (at':Int):Int × Int:=if at' < 0 then (0,-1) else outOf at' (dec 5 0 0 1 (l.drop at'.toNat))

theorem drop_get (l:List Int) (k:Nat) (h:k < l.length):l.drop k=l.getD k 0 :: l.drop (k+1):=by
 rw [List.drop_eq_getElem_cons h];simp [h]
theorem dec_end (f i:Nat) (n sc:Int) (l:List Int) (k:Nat) (h:l.length≤k):dec f i n sc (l.drop k)=none:=by
 rw [List.drop_eq_nil_of_le h];cases f <;> rfl
theorem ret2 {a b:Int} {p:Int × Int} (h:p=(a,b)):Ending.returned (.tuple #[.int .i64 a,.int .i64 b])=.returned (.tuple #[.int .i64 p.1,.int .i64 p.2]):=by rw [h]

theorem ret2' {a b a' b':Int} {p:Int × Int} (h:p=(a',b')) (e1:a=a') (e2:b=b'):Ending.returned (.tuple #[.int .i64 a,.int .i64 b])=.returned (.tuple #[.int .i64 p.1,.int .i64 p.2]):=by rw [h,e1,e2]

end Go.Proofs.YtnlhkgoppjejeaaDoor

/- copy of bytes into a row of the call's own, as one law for the walk: what is copied may be nil. -/
namespace Go.Proofs.YtnlhkgoppjejeaaDoor
open Go.RowKit

theorem vals_splice (cur:List Int) (off:Nat) (m:List Int):vals (splice cur off m)=splice (vals cur) off (vals m):=by simp [splice,vals,List.map_take,List.map_drop]
theorem splice_two (Z A B:List Int) (h:Z.length=A.length+B.length):splice (splice Z 0 A) A.length B=A ++ B:=by
 have h1:(A ++ Z.drop A.length).drop (A.length+B.length)=[]:=List.drop_eq_nil_of_le (by simp;omega)
 simp [splice,h1]

theorem wpList_copy_bytes {P:Program} {w:World} {ops:Array Oper} {rest:List Oper} {o:Oper} {a:Act} {Q:Exit→Act→World→Prop} (hgd:o.guard=none) (d s:Operand) (dT sT:TypeId)
  (ho:o.op=.call { callee:=.builtin .copy,args:=#[d,s],argTypes:=#[dT,sT] }) (hu:P.underlying dT=some (.slice 5)) (hsz:(P.info? 5).map (·.size)=some 1)
  (dp:Option Addr) (dLen dCap:Nat) (hd:a.eval d=.slice dp dLen dCap) (u:Value) (m:List Int) (hs:a.eval s=u) (hm:Bs w u m) (k:Nat) (hk:k=Nat.min m.length dLen)
  (g off:Nat) (cur:List Int) (hg:w.heap[g]?=some (.cells (vals cur).toArray 5 (0,0)))
  (hpos:0 < k→dp=some ⟨g,off,none⟩) (hfit:off+k≤cur.length) (B:Nat) (w0:World) (hb:Below B w0 w) (hBg:B≤g)
  (h:∀ w',Hid (w'.heap[g]?=some (.cells (vals (splice cur off (m.take k))).toArray 5 (0,0)))→Below B w0 w'→wpList P ops Q rest (a.put o.dst (goInt k)) w') :
  wpList P ops Q (o :: rest) a w:=by
 obtain ⟨hmo,ad,cap,hv,h1,h2,h3,h4⟩:=hm
 have hkm:k≤m.length:=by rw [hk];exact Nat.min_le_left ..
 have hl:(m.take k).length=k:=by simp;omega
 refine wpList_copy_splice hgd d s dT sT ho 5 hu hsz dp ad dLen dCap m.length cap hd (by rw [hs,hv]) g off (vals cur) 5 hg (vals (m.take k)) (by rw [length_vals,hl,hk]) ?_ (by rw [length_vals,length_vals,hl];exact hfit) (oneCell_vals _) B w0 hb hBg ?_
 ·intro hp
  rw [length_vals,hl] at hp
  obtain ⟨b,off',had,_,hc⟩:=h4 (by omega)
  refine ⟨hpos hp,_,had,fun j v hj=>?_⟩
  have hj':j < k:=by have:=(List.getElem?_eq_some_iff.1 hj).1;rw [length_vals,hl] at this;exact this
  rw [Addr.add_lit,hc j (by omega),← hj,vals_get _ j (by rw [hl];exact hj')]
  simp [hj']
 ·intro w' hg' hb'
  rw [length_vals,hl]
  exact h w' (by rw [vals_splice];exact hg') hb'

end Go.Proofs.YtnlhkgoppjejeaaDoor

/- Closed facts on the program's types that the walks use. -/
namespace Go.Proofs.YtnlhkgoppjejeaaDoor
open Go.RowKit

theorem info5:(Tryd.prog.info? 5).map (fun i=>(i.zero,i.size,i.bytes))=some (some (.int .u8 0),1,1):=by kernel_rfl
theorem sz5:(Tryd.prog.info? 5).map (·.size)=some 1:=by kernel_rfl
theorem size5 (W:World):(sizeOf 5).run Tryd.prog W=.ok 1 W:=by kernel_rfl
theorem bs_nil (w:World):Bs w (.slice none 0 0) []:=⟨oct_nil,none,0,rfl,by simp,by simp,fun _=>rfl,fun h=>absurd h (by simp)⟩

end Go.Proofs.YtnlhkgoppjejeaaDoor

/- The tables of l3boxOk's two regions that draw their order. -/
namespace Go.Proofs.YtnlhkgoppjejeaaDoor

theorem tab7:(Tryd.f16.body.bind (opsAt 7)).all (fun o=>table o 54 [51])=true:=by kernel_rfl
theorem tab13:(Tryd.f16.body.bind (opsAt 13)).all (fun o=>table o 61 [14,59])=true:=by kernel_rfl

end Go.Proofs.YtnlhkgoppjejeaaDoor

/- Lists of the call's own whose blocks lie between two; blocks of two, three, four, seven cells. -/
namespace Go.Proofs.YtnlhkgoppjejeaaDoor
open Go.RowKit

class Fr {α:Type} (E:World→List Value→α→(Nat→Prop)→Prop):Prop where
 out:Frames E
instance:Fr IntE:=⟨framesInt⟩
instance:Fr MailE:=⟨framesMail⟩
instance:Fr GoneE:=⟨framesGone⟩
instance:Fr BoxE:=⟨framesBox⟩

def OwR {α:Type} (t:TypeId) (sz:Nat) (E:World→List Value→α→(Nat→Prop)→Prop) (w:World) (B T:Nat) (v:Value) (l:List α):Prop:=Ow t sz E w (In B T) v l
section
variable {α : Type} {t : TypeId} {sz : Nat} {E : World → List Value → α → (Nat → Prop) → Prop} {w w' : World} {B T B' T' g i : Nat} {v x : Value} {l : List α}
theorem OwR.ow (h:OwR t sz E w B T v l):Ow t sz E w (In B T) v l:=h
theorem OwR.wide (h:OwR t sz E w B T v l) (hB:B'≤B) (hT:T≤T'):OwR t sz E w B' T' v l:=Ow.mono h fun _ hb=>⟨Nat.le_trans hB hb.1,Nat.lt_of_lt_of_le hb.2 hT⟩
theorem OwR.below [Fr E] (h:OwR t sz E w B T v l) (hb:Below w.heap.size w w'):OwR t sz E w' B T v l:=Ow.below Fr.out h hb
theorem OwR.set [Fr E] (h:OwR t sz E w B T v l) (hd:g < B∨T≤g):OwR t sz E (w.setCell ⟨g,i,none⟩ x) B T v l :=
 Ow.frame Fr.out h fun b hb _=>Below.heap_setCell w ⟨g,i,none⟩ x b (show b≠g by have:=hb.1;have:=hb.2;omega)
theorem OwR.form3 (h:OwR t sz E w B T v l):∃ a n cap,v=.slice a n cap:=by
 rcases h with ⟨rfl,_⟩ | ⟨g,cap,cur,cs,fs,hv,_⟩
 ·exact ⟨_,_,_,rfl⟩
 ·exact ⟨_,_,_,hv⟩
end
abbrev IntsR:=OwR 3 1 IntE
abbrev MailsR:=OwR 67 4 MailE
abbrev GonesR:=OwR 65 2 GoneE
abbrev BoxesR:=OwR 44 7 BoxE

theorem bx2 {w:World} {g:Nat} {t:TypeId} {c0 c1:Value} (h:w.heap[g]?=some (.cells #[c0,c1] t (0,0))):w.cell? ⟨g,0,none⟩=some c0∧w.cell? ⟨g,1,none⟩=some c1 :=
 ⟨by rw [cell_of_row w g 0 _ t (0,0) h];rfl,by rw [cell_of_row w g 1 _ t (0,0) h];rfl⟩
theorem bx3 {w:World} {g:Nat} {t:TypeId} {c0 c1 c2:Value} (h:w.heap[g]?=some (.cells #[c0,c1,c2] t (0,0))):w.cell? ⟨g,0,none⟩=some c0∧w.cell? ⟨g,1,none⟩=some c1∧w.cell? ⟨g,2,none⟩=some c2 :=
 ⟨by rw [cell_of_row w g 0 _ t (0,0) h];rfl,by rw [cell_of_row w g 1 _ t (0,0) h];rfl,by rw [cell_of_row w g 2 _ t (0,0) h];rfl⟩
theorem bx4 {w:World} {g:Nat} {t:TypeId} {c0 c1 c2 c3:Value} (h:w.heap[g]?=some (.cells #[c0,c1,c2,c3] t (0,0))):w.cell? ⟨g,0,none⟩=some c0∧w.cell? ⟨g,1,none⟩=some c1∧w.cell? ⟨g,2,none⟩=some c2∧w.cell? ⟨g,3,none⟩=some c3 :=
 ⟨by rw [cell_of_row w g 0 _ t (0,0) h];rfl,by rw [cell_of_row w g 1 _ t (0,0) h];rfl,by rw [cell_of_row w g 2 _ t (0,0) h];rfl,by rw [cell_of_row w g 3 _ t (0,0) h];rfl⟩
theorem bx7 {w:World} {g:Nat} {t:TypeId} {c0 c1 c2 c3 c4 c5 c6:Value} (h:w.heap[g]?=some (.cells #[c0,c1,c2,c3,c4,c5,c6] t (0,0))) :
   w.cell? ⟨g,0,none⟩=some c0∧w.cell? ⟨g,1,none⟩=some c1∧w.cell? ⟨g,2,none⟩=some c2∧w.cell? ⟨g,3,none⟩=some c3∧w.cell? ⟨g,4,none⟩=some c4∧w.cell? ⟨g,5,none⟩=some c5∧w.cell? ⟨g,6,none⟩=some c6 :=
 ⟨by rw [cell_of_row w g 0 _ t (0,0) h];rfl,by rw [cell_of_row w g 1 _ t (0,0) h];rfl,by rw [cell_of_row w g 2 _ t (0,0) h];rfl,by rw [cell_of_row w g 3 _ t (0,0) h];rfl,
  by rw [cell_of_row w g 4 _ t (0,0) h];rfl,by rw [cell_of_row w g 5 _ t (0,0) h];rfl,by rw [cell_of_row w g 6 _ t (0,0) h];rfl⟩

end Go.Proofs.YtnlhkgoppjejeaaDoor

/- What slices.IndexFunc and slices.ContainsFunc of mails and of what went do. -/
namespace Go.Proofs.YtnlhkgoppjejeaaDoor
open Go.RowKit Go.Shelf
set_option maxRecDepth 100000
set_option linter.unusedVariables false

theorem firstI_hit' {α:Type} {p:α→Bool} {l:List α} {k:Nat} {x:α} (hk:k < l.length) (hx:l[k]?=some x) (h:p x=true) (hA:∀ j x,j < k→l[j]?=some x→p x=false):firstI p l=k:=by
 have:l.findIdx? p=some k:=by
  rw [List.findIdx?_eq_some_iff_getElem]
  refine ⟨hk,by rw [List.getElem?_eq_getElem hk] at hx;cases hx;exact h,fun j hj=>?_⟩
  rw [hA j _ hj (List.getElem?_eq_getElem (by omega))];simp
 simp [firstI,this]
theorem firstI_none' {α:Type} {p:α→Bool} {l:List α} (hA:∀ j x,j < l.length→l[j]?=some x→p x=false):firstI p l = -1:=by
 have:l.findIdx? p=none:=by
  rw [List.findIdx?_eq_none_iff]
  intro x hx
  obtain ⟨j,hj,rfl⟩:=List.getElem_of_mem hx
  exact hA j _ hj (List.getElem?_eq_getElem hj)
 simp [firstI,this]
def GoneV (_:World) (v:Value) (x:GoneD):Prop:=v=.agg #[.int .i64 x.uid,.int .i64 x.seq]

set_option maxRecDepth 100000 in
set_option maxHeartbeats 1000000 in
theorem indexFuncMail (g:Nat) (lb:Array Value) (p:MailD→Bool) (v:Value) (l:List MailD) (w:World) (hv:MailsV w v l) (eg:∀ args w,(callFunc g args).run Tryd.prog w=.ok (.enter g args) w)
  (hp:∀ wi x u,Below w.heap.size w wi→MailV wi u x→Calls Tryd.prog g (#[u] ++ lb) wi fun e w'=>e=.returned (.bool (p x))∧Below wi.heap.size wi w') :
  Calls Tryd.prog 78 #[v,.func (.func g) #[] lb] w fun e w'=>e=.returned (.int .i64 (firstI p l))∧Below w.heap.size w w':=by
 have HV:Hid (∀ wi,Below w.heap.size w wi→MailsV wi v l):=fun wi h=>hv.below keepsMail h
 have HP:Hid (∀ wi x u,Below w.heap.size w wi→MailV wi u x→Calls Tryd.prog g (#[u] ++ lb) wi fun e w'=>e=.returned (.bool (p x))∧Below wi.heap.size wi w'):=hp
 obtain ⟨a,cap,rfl,hlc,hcm⟩:=hv.form
 clear hv hp
 go_enter Tryd.func78,Tryd.ntmps78
 go_wp2
 go_loopw [5,8] (fun _ i wr=>∃ k:Nat,k≤l.length∧i=.int .i64 k∧Hid (∀ j x,j < k→l[j]?=some x→p x=false)∧Hid (Below w.heap.size w wr)) (fun _ i _=>l.length - (intOf i).toNat)
 case atStart=>exact ⟨0,Nat.zero_le _,rfl,(fun j x hj=>absurd hj (Nat.not_lt_zero _)),Below.refl _ _⟩
 case round =>
  obtain ⟨k,hk,rfl,hA,hB⟩:=hrel
  by_cases hlt:k < l.length
  ·obtain ⟨x,hx⟩:∃ x,l[k]?=some x:=⟨l[k],List.getElem?_eq_getElem hlt⟩
   obtain ⟨b,off,cap',u,hv',hlb,d0,d1,d2,d3,hu,i0,i1,i2⟩:=MailsV.cell (HV.out wr hB.out) k x hx
   simp only [Value.slice.injEq,true_and] at hv'
   obtain ⟨rfl,rfl⟩:=hv'
   obtain ⟨ua,un,uc,rfl⟩:=hu.form3
   have hcall:=HP.out wr x (.agg #[.int .i64 x.uid,.int .i64 x.flags,.int .i64 x.seq,.slice ua un uc]) hB.out ⟨_,rfl,hu,i0,i1,i2⟩
   have HX:Hid (l[k]?=some x):=hx
   clear hx
   cases hq:p x with
   | true =>
    rw [hq] at hcall
    have HQ:Hid (p x=true):=hq
    clear hq
    go_wp2_with (go_at_fn g;refine hcall.mono ?_;rintro e w1 ⟨rfl,B⟩)
    go_ret
    exact ⟨ret_i (firstI_hit' hlt HX.out HQ.out hA.out).symm,Below.step hB.out B⟩
   | false =>
    rw [hq] at hcall
    have HQ:Hid (p x=false):=hq
    clear hq
    go_wp2_with (go_at_fn g;refine hcall.mono ?_;rintro e w1 ⟨rfl,B⟩)
    have HB2:Hid (Below w.heap.size w w1):=Below.step hB.out B
    clear B hB
    go_roundw
    case rel =>
     refine ⟨k+1,by omega,by go_num,(show Hid _ from fun j y hj hy=>?_),HB2⟩
     by_cases e:j=k
     ·subst e;rw [HX.out] at hy;cases hy;exact HQ.out
     ·exact hA.out j y (by omega) hy
    case measure=>simp [intOf];omega
  ·obtain rfl:k=l.length:=by omega
   go_wp2
   go_ret
   exact ⟨ret_i (firstI_none' hA.out).symm,hB.out⟩

set_option maxRecDepth 100000 in
set_option maxHeartbeats 1000000 in
theorem containsFuncMail (g:Nat) (lb:Array Value) (p:MailD→Bool) (v:Value) (l:List MailD) (w:World) (hv:MailsV w v l) (eg:∀ args w,(callFunc g args).run Tryd.prog w=.ok (.enter g args) w)
  (hp:∀ wi x u,Below w.heap.size w wi→MailV wi u x→Calls Tryd.prog g (#[u] ++ lb) wi fun e w'=>e=.returned (.bool (p x))∧Below wi.heap.size wi w') :
  Calls Tryd.prog 56 #[v,.func (.func g) #[] lb] w fun e w'=>e=.returned (.bool (l.any p))∧Below w.heap.size w w':=by
 have hi:=indexFuncMail g lb p v l w hv eg hp
 have HF:Hid (l.any p=decide (0≤firstI p l)):=any_firstI p l
 generalize firstI p l=i at hi HF
 obtain ⟨a,cap,rfl,-⟩:=hv.form
 clear hp hv
 go_enter Tryd.func56,Tryd.ntmps56
 go_wp2_with (go_at_call 78;refine hi.mono ?_;rintro e w1 ⟨rfl,B⟩)
 go_ret
 exact ⟨ret_b HF.out,B⟩

set_option maxRecDepth 100000 in
set_option maxHeartbeats 1000000 in
theorem indexFuncGone (g:Nat) (lb:Array Value) (p:GoneD→Bool) (v:Value) (l:List GoneD) (w:World) (hv:GonesV w v l) (eg:∀ args w,(callFunc g args).run Tryd.prog w=.ok (.enter g args) w)
  (hp:∀ wi x u,Below w.heap.size w wi→GoneV wi u x→Calls Tryd.prog g (#[u] ++ lb) wi fun e w'=>e=.returned (.bool (p x))∧Below wi.heap.size wi w') :
  Calls Tryd.prog 79 #[v,.func (.func g) #[] lb] w fun e w'=>e=.returned (.int .i64 (firstI p l))∧Below w.heap.size w w':=by
 have HV:Hid (∀ wi,Below w.heap.size w wi→GonesV wi v l):=fun wi h=>hv.below keepsGone h
 have HP:Hid (∀ wi x u,Below w.heap.size w wi→GoneV wi u x→Calls Tryd.prog g (#[u] ++ lb) wi fun e w'=>e=.returned (.bool (p x))∧Below wi.heap.size wi w'):=hp
 obtain ⟨a,cap,rfl,hlc,hcm⟩:=hv.form
 clear hv hp
 go_enter Tryd.func79,Tryd.ntmps79
 go_wp2
 go_loopw [5,8] (fun _ i wr=>∃ k:Nat,k≤l.length∧i=.int .i64 k∧Hid (∀ j x,j < k→l[j]?=some x→p x=false)∧Hid (Below w.heap.size w wr)) (fun _ i _=>l.length - (intOf i).toNat)
 case atStart=>exact ⟨0,Nat.zero_le _,rfl,(fun j x hj=>absurd hj (Nat.not_lt_zero _)),Below.refl _ _⟩
 case round =>
  obtain ⟨k,hk,rfl,hA,hB⟩:=hrel
  by_cases hlt:k < l.length
  ·obtain ⟨x,hx⟩:∃ x,l[k]?=some x:=⟨l[k],List.getElem?_eq_getElem hlt⟩
   obtain ⟨b,off,cap',hv',hlb,d0,d1,i0,i1⟩:=GonesV.cell (HV.out wr hB.out) k x hx
   simp only [Value.slice.injEq,true_and] at hv'
   obtain ⟨rfl,rfl⟩:=hv'
   have hcall:=HP.out wr x (.agg #[.int .i64 x.uid,.int .i64 x.seq]) hB.out rfl
   have HX:Hid (l[k]?=some x):=hx
   clear hx
   cases hq:p x with
   | true =>
    rw [hq] at hcall
    have HQ:Hid (p x=true):=hq
    clear hq
    go_wp2_with (go_at_fn g;refine hcall.mono ?_;rintro e w1 ⟨rfl,B⟩)
    go_ret
    exact ⟨ret_i (firstI_hit' hlt HX.out HQ.out hA.out).symm,Below.step hB.out B⟩
   | false =>
    rw [hq] at hcall
    have HQ:Hid (p x=false):=hq
    clear hq
    go_wp2_with (go_at_fn g;refine hcall.mono ?_;rintro e w1 ⟨rfl,B⟩)
    have HB2:Hid (Below w.heap.size w w1):=Below.step hB.out B
    clear B hB
    go_roundw
    case rel =>
     refine ⟨k+1,by omega,by go_num,(show Hid _ from fun j y hj hy=>?_),HB2⟩
     by_cases e:j=k
     ·subst e;rw [HX.out] at hy;cases hy;exact HQ.out
     ·exact hA.out j y (by omega) hy
    case measure=>simp [intOf];omega
  ·obtain rfl:k=l.length:=by omega
   go_wp2
   go_ret
   exact ⟨ret_i (firstI_none' hA.out).symm,hB.out⟩

set_option maxRecDepth 100000 in
set_option maxHeartbeats 1000000 in
theorem containsFuncGone (g:Nat) (lb:Array Value) (p:GoneD→Bool) (v:Value) (l:List GoneD) (w:World) (hv:GonesV w v l) (eg:∀ args w,(callFunc g args).run Tryd.prog w=.ok (.enter g args) w)
  (hp:∀ wi x u,Below w.heap.size w wi→GoneV wi u x→Calls Tryd.prog g (#[u] ++ lb) wi fun e w'=>e=.returned (.bool (p x))∧Below wi.heap.size wi w') :
  Calls Tryd.prog 58 #[v,.func (.func g) #[] lb] w fun e w'=>e=.returned (.bool (l.any p))∧Below w.heap.size w w':=by
 have hi:=indexFuncGone g lb p v l w hv eg hp
 have HF:Hid (l.any p=decide (0≤firstI p l)):=any_firstI p l
 generalize firstI p l=i at hi HF
 obtain ⟨a,cap,rfl,-⟩:=hv.form
 clear hp hv
 go_enter Tryd.func58,Tryd.ntmps58
 go_wp2_with (go_at_call 79;refine hi.mono ?_;rintro e w1 ⟨rfl,B⟩)
 go_ret
 exact ⟨ret_b HF.out,B⟩

end Go.Proofs.YtnlhkgoppjejeaaDoor

/- What l3mail and l3gone of package spec do. -/
namespace Go.Proofs.YtnlhkgoppjejeaaDoor
open Go.RowKit
set_option maxRecDepth 100000
set_option linter.unusedVariables false
set_option linter.unusedSimpArgs false

set_option maxRecDepth 100000 in
set_option maxHeartbeats 4000000 in
theorem l3mail_any (v:Value) (x:BoxD) (uid:Int) (w:World) (hv:BoxV w v x) :
  Calls Tryd.prog 36 #[v,.int .i64 uid] w fun e w'=>e=.returned (.int .i64 (firstI (fun m=>decide (m.uid=uid)) x.mails))∧Below w.heap.size w w':=by
 obtain ⟨u0,u1,u2,rfl,g0,g1,g2,i0,i1,i2,i3⟩:=hv
 have H0:Hid (∀ wi,Below w.heap.size w wi→Bs wi u0 x.name∧MailsV wi u1 x.mails∧GonesV wi u2 x.gones):=fun wi h=>⟨g0.below h,g1.below keepsMail h,g2.below keepsGone h⟩
 obtain ⟨a0,n0,c0,rfl⟩:=g0.form3
 obtain ⟨a1,c1,rfl,m0,m1⟩:=g1.form
 obtain ⟨a2,c2,rfl,m2,m3⟩:=g2.form
 clear g0 g1 g2
 have HX:Hid (Below w.heap.size w (w.alloc (.cells #[.slice a0 n0 c0,.int .i64 x.valid,.int .i64 x.next,.int .i64 x.seq,.slice a1 x.mails.length c1,.slice a2 x.gones.length c2,.int .i64 x.lost] 44))):=(Below.refl _ _).alloc (Nat.le_refl _) _
 go_enter Tryd.func36,Tryd.ntmps36
 go_wp2
 go_loop [5] (fun i=>∃ k:Nat,k≤x.mails.length∧i=.int .i64 k∧Hid (∀ j m,j < k→x.mails[j]?=some m→decide (m.uid=uid)=false)) (fun i=>x.mails.length - (intOf i).toNat)
 case atStart=>exact ⟨0,Nat.zero_le _,rfl,fun j m hj=>absurd hj (Nat.not_lt_zero _)⟩
 case round =>
  obtain ⟨k,hk,rfl,hA⟩:=hrel
  by_cases hlt:k < x.mails.length
  ·obtain ⟨m,hm⟩:∃ m,x.mails[k]?=some m:=⟨x.mails[k],List.getElem?_eq_getElem hlt⟩
   obtain ⟨b,off,cap',u,hv',hlb,d0,d1,d2,d3,hu,j0,j1,j2⟩:=MailsV.cell (H0.out _ HX.out).2.1 k m hm
   simp only [Value.slice.injEq,true_and] at hv'
   obtain ⟨rfl,rfl⟩:=hv'
   have HM:Hid (x.mails[k]?=some m):=hm
   clear hm hu d1 d2 d3
   by_cases he:m.uid=uid
   ·have he':(m.uid == uid)=true:=by simpa using he
    have HE:Hid (m.uid=uid):=he
    clear he
    go_wp2
    go_ret
    exact ⟨ret_i (firstI_hit' hlt HM.out (by simpa using HE.out) hA.out).symm,HX.out⟩
   ·have he':(m.uid == uid)=false:=by simpa using he
    have HE:Hid (m.uid≠uid):=he
    clear he
    go_wp2
    go_round
    case rel =>
     refine ⟨k+1,by omega,by go_num,(show Hid _ from fun j y hj hy=>?_)⟩
     by_cases e:j=k
     ·subst e;rw [HM.out] at hy;cases hy;simpa using HE.out
     ·exact hA.out j y (by omega) hy
    case measure=>simp [intOf];omega
  ·obtain rfl:k=x.mails.length:=by omega
   go_wp2
   go_ret
   exact ⟨ret_i (firstI_none' hA.out).symm,HX.out⟩

set_option maxRecDepth 100000 in
set_option maxHeartbeats 4000000 in
theorem l3gone_any (v:Value) (l:List GoneD) (uid:Int) (w:World) (hv:GonesV w v l) :
  Calls Tryd.prog 37 #[v,.int .i64 uid] w fun e w'=>e=.returned (.bool (l.any fun o=>decide (o.uid=uid)))∧w'=w:=by
 have HV:Hid (GonesV w v l):=hv
 obtain ⟨a,cap,rfl,hlc,hcm⟩:=hv.form
 clear hv
 go_enter Tryd.func37,Tryd.ntmps37
 go_wp2
 go_loop [5] (fun i=>∃ k:Nat,k≤l.length∧i=.int .i64 k∧Hid (∀ j m,j < k→l[j]?=some m→m.uid≠uid)) (fun i=>l.length - (intOf i).toNat)
 case atStart=>exact ⟨0,Nat.zero_le _,rfl,fun j m hj=>absurd hj (Nat.not_lt_zero _)⟩
 case round =>
  obtain ⟨k,hk,rfl,hA⟩:=hrel
  by_cases hlt:k < l.length
  ·obtain ⟨m,hm⟩:∃ m,l[k]?=some m:=⟨l[k],List.getElem?_eq_getElem hlt⟩
   obtain ⟨b,off,cap',hv',hlb,d0,d1,j0,j1⟩:=GonesV.cell HV.out k m hm
   simp only [Value.slice.injEq,true_and] at hv'
   obtain ⟨rfl,rfl⟩:=hv'
   have HM:Hid (l[k]?=some m):=hm
   clear hm d1
   by_cases he:m.uid=uid
   ·have he':(m.uid == uid)=true:=by simpa using he
    have HE:Hid (m.uid=uid):=he
    clear he
    go_wp2
    go_ret
    exact ⟨ret_b (List.any_eq_true.2 ⟨m,List.mem_of_getElem? HM.out,by simpa using HE.out⟩),rfl⟩
   ·have he':(m.uid == uid)=false:=by simpa using he
    have HE:Hid (m.uid≠uid):=he
    clear he
    go_wp2
    go_round
    case rel =>
     refine ⟨k+1,by omega,by go_num,(show Hid _ from fun j y hj hy=>?_)⟩
     by_cases e:j=k
     ·subst e;rw [HM.out] at hy;cases hy;exact HE.out
     ·exact hA.out j y (by omega) hy
    case measure=>simp [intOf];omega
  ·obtain rfl:k=l.length:=by omega
   go_wp2
   go_ret
   refine ⟨ret_b (List.any_eq_false.2 fun m hm=>?_),rfl⟩
   obtain ⟨j,hj,rfl⟩:=List.getElem_of_mem hm
   simpa using hA.out j _ hj (List.getElem?_eq_getElem hj)

end Go.Proofs.YtnlhkgoppjejeaaDoor

/- What slices.IndexFunc and slices.ContainsFunc do of bytes, whatever function is handed in. -/
namespace Go.Proofs.YtnlhkgoppjejeaaDoor
open Go.RowKit Go.Shelf
set_option maxRecDepth 100000

set_option maxHeartbeats 400000 in
theorem indexFuncB (g:Nat) (lb:Array Value) (p:Int→Bool) (v:Value) (l:List Int) (w:World) (hv:Bs w v l) (eg:∀ args w,(callFunc g args).run Tryd.prog w=.ok (.enter g args) w)
  (hp:∀ x,0≤x→x≤255→Calls Tryd.prog g (#[.int .u8 x] ++ lb) w fun e w'=>e=.returned (.bool (p x))∧w'=w) :
  Calls Tryd.prog 85 #[v,.func (.func g) #[] lb] w fun e w'=>e=.returned (.int .i64 (firstI p l))∧w'=w:=by
 obtain ⟨ho,a,cap,rfl,hlc,hcm,hnil,hcells⟩:=hv
 unfold maxLen at hcm
 go_enter Tryd.func85,Tryd.ntmps85
 go_wp2
 go_loop [5,8] (fun _ i=>∃ k:Nat,k≤l.length∧i=.int .i64 k∧Hid (∀ j,j < k→p (l.getD j 0)=false)) (fun _ i=>l.length - (intOf i).toNat)
 case atStart=>exact ⟨0,Nat.zero_le _,rfl,fun j hj=>absurd hj (Nat.not_lt_zero _)⟩
 case round =>
  obtain ⟨k,hk,rfl,hA⟩:=hrel
  by_cases hlt:k < l.length
  ·obtain ⟨b,off,rfl,hlb,hc⟩:=hcells (by omega)
   have hx:=hc k hlt
   have hbx:=oct_get ho k
   generalize hy:l.getD k 0=x at hx hbx
   have HX:Hid (l.getD k 0=x):=hy
   clear hy hc hcells
   have hcall:=hp x hbx.1 hbx.2
   clear hp
   cases hq:p x with
   | true =>
    rw [hq] at hcall
    go_wp2_with (go_at_fn g;refine hcall.mono ?_;rintro e w' ⟨rfl,rfl⟩)
    go_ret
    exact ⟨ret_i (firstI_hit hlt (by rw [HX.out];exact hq) hA.out).symm,rfl⟩
   | false =>
    rw [hq] at hcall
    go_wp2_with (go_at_fn g;refine hcall.mono ?_;rintro e w' ⟨rfl,rfl⟩)
    go_round
    case rel =>
     refine ⟨k+1,by omega,by go_num,(show Hid _ from fun j hj=>?_)⟩
     by_cases e:j=k
     ·subst e;rw [HX.out];exact hq
     ·exact hA.out j (by omega)
    case measure=>simp [intOf];omega
  ·obtain rfl:k=l.length:=by omega
   go_wp2
   go_ret
   exact ⟨ret_i (firstI_none hA.out).symm,rfl⟩

set_option maxHeartbeats 400000 in
theorem containsFuncB (g:Nat) (lb:Array Value) (p:Int→Bool) (v:Value) (l:List Int) (w:World) (hv:Bs w v l) (eg:∀ args w,(callFunc g args).run Tryd.prog w=.ok (.enter g args) w)
  (hp:∀ x,0≤x→x≤255→Calls Tryd.prog g (#[.int .u8 x] ++ lb) w fun e w'=>e=.returned (.bool (p x))∧w'=w) :
  Calls Tryd.prog 76 #[v,.func (.func g) #[] lb] w fun e w'=>e=.returned (.bool (l.any p))∧w'=w:=by
 have hi:=indexFuncB g lb p v l w hv eg hp
 have HF:Hid (l.any p=decide (0≤firstI p l)):=any_firstI p l
 generalize firstI p l=i at hi HF
 obtain ⟨ho,a,cap,rfl,-⟩:=hv
 clear hp
 go_enter Tryd.func76,Tryd.ntmps76
 go_wp2_with (go_at_call 85;refine hi.mono ?_;rintro e w' ⟨rfl,rfl⟩)
 go_ret
 exact ⟨ret_b HF.out,rfl⟩

end Go.Proofs.YtnlhkgoppjejeaaDoor

/- What within, allWithin, nameOk, nameWanted, textOk of package impl do. -/
namespace Go.Proofs.YtnlhkgoppjejeaaDoor
open Go.RowKit Go.Shelf
set_option maxRecDepth 100000

theorem within_any (n lo hi:Int) (w:World) :
  Calls Tryd.prog 17 #[.int .i64 n,.int .i64 lo,.int .i64 hi] w fun e w'=>e=.returned (.bool (inB n lo hi))∧w'=w:=by
 by_cases h0:lo≤n
 ·by_cases h1:n≤hi
  ·go_enter Tryd.func17,Tryd.ntmps17
   go_wp2
   go_ret
   exact ⟨ret_b (by simp [inB,h0,h1]),rfl⟩
  ·go_enter Tryd.func17,Tryd.ntmps17
   go_wp2
   go_ret
   exact ⟨ret_b (by simp [inB,h1]),rfl⟩
 ·go_enter Tryd.func17,Tryd.ntmps17
  go_wp2
  go_ret
  exact ⟨ret_b (by simp [inB];omega),rfl⟩

theorem allWithin1_any (x lo hi:Int) (b1 b2:Nat) (w:World) (c1:w.cell? ⟨b1,0,none⟩=some (.int .u8 lo)) (c2:w.cell? ⟨b2,0,none⟩=some (.int .u8 hi)) :
  Calls Tryd.prog 77 #[.int .u8 x,.pointer (some ⟨b1,0,none⟩),.pointer (some ⟨b2,0,none⟩)] w fun e w'=>e=.returned (.bool (decide (x < lo) || decide (hi < x)))∧w'=w:=by
 by_cases h0:x < lo
 ·go_enter Tryd.func77,Tryd.ntmps77
  go_wp2
  go_ret
  exact ⟨ret_b (by simp [h0]),rfl⟩
 ·go_enter Tryd.func77,Tryd.ntmps77
  go_wp2
  go_ret
  exact ⟨ret_b (by simp;omega),rfl⟩

theorem allIn_any (lo hi:Int) (l:List Int):(!l.any fun x=>decide (x < lo) || decide (hi < x))=allIn lo hi l:=by
 induction l with
 | nil=>rfl
 | cons x l ih =>
  simp only [List.any_cons,allIn,List.all_cons,Bool.not_or]
  rw [ih]
  congr 1
  by_cases h0:x < lo <;> by_cases h1:hi < x <;> simp [h0,h1] <;> omega

set_option maxHeartbeats 400000 in
theorem allWithin_any (v:Value) (l:List Int) (lo hi:Int) (w:World) (hv:Bs w v l) :
  Calls Tryd.prog 54 #[v,.int .u8 lo,.int .u8 hi] w fun e w'=>e=.returned (.bool (allIn lo hi l))∧Below w.heap.size w w':=by
 have bx:=boxes2 w (.cells #[.int .u8 lo] 5) (.cells #[.int .u8 hi] 5)
 have H:Hid (Calls Tryd.prog 76 #[v,.func (.func 77) #[] #[.pointer (some ⟨w.heap.size,0,none⟩),.pointer (some ⟨w.heap.size+1,0,none⟩)]] ((w.alloc (.cells #[.int .u8 lo] 5)).alloc (.cells #[.int .u8 hi] 5)) fun e w'=>e=.returned (.bool (l.any fun x=>decide (x < lo) || decide (hi < x)))∧w'=(w.alloc (.cells #[.int .u8 lo] 5)).alloc (.cells #[.int .u8 hi] 5)):=by
  refine containsFuncB _ _ _ v l _ (hv.below bx.2.2) (fun args w=>by kernel_rfl) fun x _ _=>allWithin1_any x lo hi _ _ _ ?_ ?_
  ·rw [cell_of_row _ _ 0 _ _ (0,0) bx.1];rfl
  ·rw [cell_of_row _ _ 0 _ _ (0,0) bx.2.1];rfl
 have HA:=allIn_any lo hi l
 have HB:Hid (Below w.heap.size w ((w.alloc (.cells #[.int .u8 lo] 5)).alloc (.cells #[.int .u8 hi] 5))):=bx.2.2
 generalize (l.any fun x=>decide (x < lo) || decide (hi < x))=X at H HA
 have HA':Hid ((!X)=allIn lo hi l):=HA
 clear HA bx
 obtain ⟨a,n,c,rfl⟩:=hv.form3
 clear hv
 go_enter Tryd.func54,Tryd.ntmps54
 go_wp2_with (go_at_call 76;refine H.out.mono ?_;rintro e w' ⟨rfl,rfl⟩)
 go_ret
 exact ⟨ret_b HA'.out.symm,HB.out⟩

set_option maxHeartbeats 400000 in
theorem nameOk_any (v:Value) (l:List Int) (w:World) (hv:Bs w v l) :
  Calls Tryd.prog 38 #[v] w fun e w'=>e=.returned (.bool (nameB l))∧Below w.heap.size w w':=by
 have H:Hid (Bs w v l):=hv
 obtain ⟨ho,a,cap,rfl,hlc,hcm,-⟩:=hv
 unfold maxLen at hcm
 by_cases h0:1≤l.length∧l.length≤6
 ·have e1:inB (l.length:Int) 1 6=true:=by simp [inB];omega
  have e2:Hid (nameB l=allIn 97 122 l):=by simp [Hid,nameB,h0.1,h0.2]
  have hw:=within_any (l.length:Int) 1 6
  rw [e1] at hw
  clear e1
  go_enter Tryd.func38,Tryd.ntmps38
  go_wp2_with (first | (go_at_call 17;refine (hw _).mono ?_;rintro e w' ⟨rfl,rfl⟩) | (go_at_call 54;refine (allWithin_any _ l 97 122 _ H.out).mono ?_;rintro e w1 ⟨rfl,B⟩))
  go_ret
  exact ⟨ret_b e2.out,B⟩
 ·have e1:inB (l.length:Int) 1 6=false:=by simp [inB];omega
  have e2:Hid (nameB l=false):=by
   simp only [Hid,nameB]
   by_cases h1:1≤l.length
   ·simp [show ¬ l.length≤6 by omega]
   ·simp [h1]
  have hw:=within_any (l.length:Int) 1 6
  rw [e1] at hw
  clear e1
  go_enter Tryd.func38,Tryd.ntmps38
  go_wp2_with (first | (go_at_call 17;refine (hw _).mono ?_;rintro e w' ⟨rfl,rfl⟩))
  go_ret
  exact ⟨ret_b e2.out,Below.refl _ _⟩

set_option maxHeartbeats 400000 in
theorem textOk_any (v:Value) (l:List Int) (w:World) (hv:Bs w v l) :
  Calls Tryd.prog 55 #[v] w fun e w'=>e=.returned (.bool (textB l))∧Below w.heap.size w w':=by
 have H:Hid (Bs w v l):=hv
 obtain ⟨ho,a,cap,rfl,hlc,hcm,-⟩:=hv
 unfold maxLen at hcm
 by_cases h0:l.length≤30
 ·have e2:Hid (textB l=allIn 32 126 l):=by simp [Hid,textB,h0]
  go_enter Tryd.func55,Tryd.ntmps55
  go_wp2_with (first | (go_at_call 54;refine (allWithin_any _ l 32 126 _ H.out).mono ?_;rintro e w1 ⟨rfl,B⟩))
  go_ret
  exact ⟨ret_b e2.out,B⟩
 ·have e2:Hid (textB l=false):=by simp [Hid,textB,h0]
  go_enter Tryd.func55,Tryd.ntmps55
  go_wp2
  go_ret
  exact ⟨ret_b e2.out,Below.refl _ _⟩

end Go.Proofs.YtnlhkgoppjejeaaDoor
