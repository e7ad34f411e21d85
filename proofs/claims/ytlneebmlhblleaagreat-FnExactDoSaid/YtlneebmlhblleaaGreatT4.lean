/- The proof's texts, part 4. -/
import Derived.Deep.MidRow
import Derived.Laws.AppendOwn
import Derived.Test.YtlneebmlhblleaaGreatT3
import Derived.Maps.AppendAt
namespace Go.Proofs.YtlneebmlhblleaaGreat
open Go.RowKit
set_option linter.unusedVariables false
set_option linter.unusedSimpArgs false
set_option maxHeartbeats 2000000
set_option maxRecDepth 100000
/- Many cells of one block that are set at once. -/
theorem OW (b k:Nat) (h:k≠b):∀ (vs:List Value) (o:Nat) (w:World),(w.setCells b o vs).heap[k]?=w.heap[k]?
 | [],_,_=>rfl
 | v :: vs,o,w=>(OW b k h vs (o+1) (w.setCell ⟨b,o,none⟩ v)).trans (Below.heap_setCell w ⟨b,o,none⟩ v k h)
theorem OX (b:Nat):∀ (vs:List Value) (o:Nat) (w:World),(w.setCells b o vs).heap.size=w.heap.size
 | [],_,_=>rfl
 | v :: vs,o,w=>(OX b vs (o+1) (w.setCell ⟨b,o,none⟩ v)).trans aZ
theorem fC {w:World} {g:Nat} {t:TypeId} {cs:Array Value} (h:w.heap[g]?=some (.cells cs t (0,0))):w.rangeAt g 0 cs.toList:=fun j v hv=>by
 rw [cell_of_row w g _ cs t (0,0) h]
 simpa using hv
theorem I9 (g:Nat):∀ (vs:List Value) (o:Nat) (w:World),put w g o vs=w.setCells g o vs
 | [],_,_=>rfl
 | v :: vs,o,w=>I9 g vs (o+1) (w.setCell ⟨g,o,none⟩ v)
/- Rows that slices.DeleteFunc cuts: what is kept stands ahead, what is not yet looked at behind. -/
/-- The row at block g: the elements kept lie ahead, those of xs from the j-th on in their places. -/
def bS {α:Type} (t:TypeId) (sz:Nat) (enc:α→List Value) (w:World) (g cap:Nat) (kept xs:List α) (j:Nat):Prop :=
 ∃ cur,w.heap[g]?=some (.cells cur t (0,0))∧cur.size=cap * sz∧(∀ i x,kept[i]?=some x→∀ k u,(enc x)[k]?=some u→cur[i * sz+k]?=some u)∧∀ i x,j≤i→xs[i]?=some x→∀ k u,(enc x)[k]?=some u→cur[i * sz+k]?=some u
section
variable {α : Type} {t : TypeId} {sz : Nat} {enc : α → List Value} {w w' : World} {g cap j : Nat} {kept xs : List α} {x : α}
theorem bS.same (h:bS t sz enc w g cap kept xs j) (hw:w'.heap[g]?=w.heap[g]?):bS t sz enc w' g cap kept xs j :=
 let ⟨cur,h1,r⟩:=h;⟨cur,hw.trans h1,r⟩
theorem bS.lt (h:bS t sz enc w g cap kept xs j):g < w.heap.size:=let ⟨_,h1,_⟩:=h;lt_of_heap h1
theorem bS.fz (h:bS t sz enc w g cap kept xs j) (o:Nat):w.frozen? ⟨g,o,none⟩=false:=let ⟨_,h1,_⟩:=h;frozen_of_row w g o _ _ h1
theorem bS.cell (h:bS t sz enc w g cap kept xs j) (hx:xs[j]?=some x) {k:Nat} {u:Value} (hu:(enc x)[k]?=some u):w.cell? ⟨g,j * sz+k,none⟩=some u :=
 let ⟨cur,h1,_,_,h4⟩:=h;(cell_of_row w g _ cur t (0,0) h1).trans (h4 j x (Nat.le_refl _) hx k u hu)
/-- There is a cell wherever the row reaches. -/
theorem bS.some (h:bS t sz enc w g cap kept xs j) {o:Nat} (ho:o < cap * sz):∃ u,w.cell? ⟨g,o,none⟩=some u:=by
 obtain ⟨cur,h1,h2,-⟩:=h
 rw [cell_of_row w g o cur t (0,0) h1]
 exact ⟨cur[o]'(by omega),Array.getElem?_eq_getElem (by omega)⟩
theorem bS.skip (h:bS t sz enc w g cap kept xs j):bS t sz enc w g cap kept xs (j+1) :=
 let ⟨cur,h1,h2,h3,h4⟩:=h;⟨cur,h1,h2,h3,fun i x hi=>h4 i x (by omega)⟩
theorem bS.keep (h:bS t sz enc w g cap kept xs j) (hk:kept.length < j) (hj:j < cap) (hs:∀ x,(enc x).length=sz) (x:α):bS t sz enc (w.setCells g (kept.length * sz) (enc x)) g cap (kept ++ [x]) xs (j+1):=by
 obtain ⟨cur,h1,h2,h3,h4⟩:=h
 have hroom:kept.length * sz+sz≤j * sz:=by
  have:=Nat.mul_le_mul_right sz (show kept.length+1≤j by omega)
  rwa [Nat.add_mul,Nat.one_mul] at this
 have hjc:j * sz≤cap * sz:=Nat.mul_le_mul_right sz (by omega)
 obtain ⟨cur',e1,e2,e3,e4,-⟩:=uy g t (enc x) w (kept.length * sz) cur h1 (by rw [hs];omega)
 rw [I9] at e1
 rw [hs] at e4
 refine ⟨cur',e1,by omega,fun i y hy k u hu=>?_,fun i y hi hy k u hu=>?_⟩
 ·have hks:k < sz:=by have:=(gs1 hu).1;rw [hs] at this;exact this
  by_cases hl:i < kept.length
  ·rw [List.getElem?_append_left hl] at hy
   have:=Nat.mul_le_mul_right sz (show i+1≤kept.length by omega)
   rw [Nat.add_mul,Nat.one_mul] at this
   rw [e4 _ (.inl (by omega))]
   exact h3 i y hy k u hu
  ·have hi:i=kept.length:=by have:=(gs1 hy).1;simp at this;omega
   subst hi
   rw [List.getElem?_append_right (Nat.le_refl _),Nat.sub_self] at hy
   cases hy
   exact e3 k u hu
 ·have:=Nat.mul_le_mul_right sz (show j≤i by omega)
  rw [e4 _ (.inr (by omega))]
  exact h4 i y (by omega) hy k u hu
/-- The tail is cleared: what is kept stays. -/
theorem bS.cleared (h:bS t sz enc w g cap kept xs j) (hs:∀ x,(enc x).length=sz) {zs:List Value} (hz:kept.length * sz+zs.length≤cap * sz):bS t sz enc (w.setCells g (kept.length * sz) zs) g cap kept [] j:=by
 obtain ⟨cur,h1,h2,h3,h4⟩:=h
 obtain ⟨cur',e1,e2,e3,e4,-⟩:=uy g t zs w (kept.length * sz) cur h1 (by omega)
 rw [I9] at e1
 refine ⟨cur',e1,by omega,fun i y hy k u hu=>?_,fun i y hi hy=>by simp at hy⟩
 have hks:k < sz:=by have:=(gs1 hu).1;rw [hs] at this;exact this
 have:=Nat.mul_le_mul_right sz (show i+1≤kept.length from (gs1 hy).1)
 rw [Nat.add_mul,Nat.one_mul] at this
 rw [e4 _ (.inl (by omega))]
 exact h3 i y hy k u hu
theorem bS.all (h:bS t sz enc w g cap [] xs 0):bS t sz enc w g cap xs [] 0 :=
 let ⟨cur,h1,h2,_,h4⟩:=h;⟨cur,h1,h2,fun i x hx=>h4 i x (Nat.zero_le _) hx,fun i x _ hx=>by simp at hx⟩
theorem bS.at (h:bS t sz enc w g cap [] xs 0) {i:Nat} (hx:xs[i]?=Option.some x) {k:Nat} {u:Value} (hu:(enc x)[k]?=Option.some u):w.cell? ⟨g,i * sz+k,none⟩=Option.some u :=
 let ⟨cur,h1,_,_,h4⟩:=h;(cell_of_row w g _ cur t (0,0) h1).trans (h4 i x (Nat.zero_le _) hx k u hu)
theorem bS.OY (h:bS t sz enc w g cap kept xs j) {i:Nat} (hx:kept[i]?=Option.some x) {k:Nat} {u:Value} (hu:(enc x)[k]?=Option.some u):w.cell? ⟨g,i * sz+k,none⟩=Option.some u :=
 let ⟨cur,h1,_,h3,_⟩:=h;(cell_of_row w g _ cur t (0,0) h1).trans (h3 i x hx k u hu)
theorem bS.first (h:bS t sz enc w g cap [] xs 0) (j:Nat):bS t sz enc w g cap (xs.take j) xs (j+1) :=
 let ⟨cur,h1,h2,_,h4⟩:=h;⟨cur,h1,h2,fun i x hx=>h4 i x (Nat.zero_le _) (by
  have hi:i < j:=by have:=(gs1 hx).1;rw [List.length_take] at this;omega
  rwa [List.getElem?_take_of_lt hi] at hx),fun i x _=>h4 i x (Nat.zero_le _)⟩
theorem xZ {w1 w2:World} (h:w.grownBy w1 (Option.some g)) (hb:Below w1.heap.size w1 w2):w.grownBy w2 (Option.some g):=⟨hb.os.trans h.os,hb.tape.trans h.tape,hb.output.trans h.output,Nat.le_trans h.size hb.size,fun k hk hne=>(hb.block k (Nat.lt_of_lt_of_le hk h.size)).trans (h.block k hk hne)⟩
theorem FD (b:Nat):∀ (vs:List Value) (o:Nat) (w:World),(w.setCells b o vs).os=w.os∧(w.setCells b o vs).tape=w.tape∧(w.setCells b o vs).output=w.output
 | [],_,_=>⟨rfl,rfl,rfl⟩
 | v :: vs,o,w=>let ⟨h1,h2,h3⟩:=FD b vs (o+1) (w.setCell ⟨b,o,none⟩ v);⟨h1.trans rfl,h2.trans rfl,h3.trans rfl⟩
theorem FE {w1:World} (h:w.grownBy w1 (Option.some g)) (o:Nat) (vs:List Value):w.grownBy (w1.setCells g o vs) (Option.some g) :=
 ⟨(FD g vs o w1).1.trans h.os,(FD g vs o w1).2.1.trans h.tape,(FD g vs o w1).2.2.trans h.output,by rw [OX];exact h.size,fun k hk hne=>(OW g k (fun e=>hne (by rw [e])) vs o w1).trans (h.block k hk hne)⟩
theorem OZ {P:Program} (w:World) (t e ty:TypeId) (z:Value) (ht:P.underlying t=Option.some (.slice e)) (hv:∀ w,(zeroValue e).run P w=.ok z w) (hz0:0 < z.cells.size) (h1:∀ i:Nat,i < z.cells.size→z.cells[i]!.oneCell'=true) (b o n c:Nat) (hn:0 < n)
  (hc:∀ j,j < n * z.cells.size→(w.cell? ⟨b,o+j,none⟩).isSome=true) (hf:∀ j,w.frozen? ⟨b,o+j,none⟩=false) :
  ∃ zs:List Value,zs.length=n * z.cells.size∧(Builtin.clear_ #[t] ty #[.slice (Option.some ⟨b,o,none⟩) n c]).run P w=.ok (.tuple #[]) (w.setCells b o zs):=by
 refine ⟨(Builtin.zeroCells z.cells n).toList,by simp [Builtin.zeroCells],?_⟩
 have hst:=run_storeCells_cells (P:=P) b o (Builtin.zeroCells z.cells n).toList 0 w (by simpa [Builtin.zeroCells] using hc) (by intro j _;first | (simp;done) | simpa using hf j) (by
  intro v hv'
  simp only [Builtin.zeroCells,Array.toList_map,List.mem_map] at hv'
  obtain ⟨i,-,rfl⟩:=hv'
  exact h1 _ (Nat.mod_lt _ hz0))
 simp only [Nat.add_zero] at hst
 obtain ⟨m,rfl⟩:∃ m,n=m+1:=⟨n - 1,by omega⟩
 simp [Builtin.clear_,run_underlying ht,hv,hst]
theorem Bc {p:α→Bool} (hx:xs[j]?=some x):(xs.take (j+1)).filter p=(xs.take j).filter p ++ (if p x then [x] else []):=by
 rw [List.take_add_one,hx,List.filter_append]
 cases h:p x <;> simp [h]
/-- Up to the first that goes all are kept. -/
theorem O0 {p:α→Bool} {k:Nat} (h:xs.findIdx? p=some k):(xs.take k).filter (fun x=>!p x)=xs.take k∧(xs.take (k+1)).filter (fun x=>!p x)=xs.take k∧k < xs.length:=by
 obtain ⟨h1,h2,h3⟩:=List.findIdx?_eq_some_iff_getElem.1 h
 have e:(xs.take k).filter (fun x=>!p x)=xs.take k:=by
  rw [List.filter_eq_self]
  intro y hy
  obtain ⟨i,hi,rfl⟩:=List.getElem_of_mem hy
  rw [List.length_take] at hi
  have:=h3 i (by omega)
  rw [List.getElem_take]
  simpa using this
 refine ⟨e,?_,h1⟩
 rw [Bc (aK h1),e,h2]
 simp
end
/- Keys that are sorted: a list of the call's own, or nil. -/
theorem Xq (fv:Value) (w:World):Calls Tryz.prog 161 #[.slice none 0 0,.int .i64 0,.int .i64 0,fv] w fun e w'=>e=.returned (.tuple #[])∧w'=w:=by
 go_enter Tryz.func161,Tryz.ntmps161
 go_wp2
 refine wp_loop_rounds 1 ?_
 rw [rounds_succ]
 go_wp2
 go_end0
 exact ⟨rfl,rfl⟩
theorem Xr (lim:Int) (fv:Value) (w:World):Calls Tryz.prog 154 #[.slice none 0 0,.int .i64 0,.int .i64 0,.int .i64 lim,fv] w fun e w'=>e=.returned (.tuple #[])∧w'=w:=by
 go_enter Tryz.func154,Tryz.ntmps154
 go_wp2
 refine wp_loop_rounds 1 ?_
 rw [rounds_succ]
 go_wp2_with (go_at_call 161;refine (Xq _ _).mono ?_;rintro e w' ⟨rfl,rfl⟩)
 (try simp only [Exit.inBlock,Exit.then]);refine bodyPost_ret (results_none rfl _ _ _) rfl ?_
 exact ⟨rfl,rfl⟩
theorem Xt (fv:Value) (w:World):Calls Tryz.prog 137 #[.slice none 0 0,fv] w fun e w'=>e=.returned (.tuple #[])∧w'=w:=by
 have hl:=I7 0 w (by omega)
 go_enter Tryz.func137,Tryz.ntmps137
 go_wp2_with (first | (go_at_call 136;refine hl.mono ?_;rintro e w' ⟨⟨l,rfl⟩,rfl⟩) | (go_at_call 154;refine (Xr _ _ _).mono ?_;rintro e w' ⟨rfl,rfl⟩))
 go_end0
 exact ⟨rfl,rfl⟩
theorem O1 {α:Type} [Inhabited α] {l:List α} {i:Nat} (h:i < l.length):l.toArray[i]! = l[i]:=by simp [h]
theorem yg {α:Type} [Inhabited α] {d:Array α} {i:Nat} (h:i < d.size):d[i]! = d[i]:=by simp [h]
theorem Xu {w:World} {blk n k:Nat} {d:Array (Int × Int)} {os:Array Obj} (hk:k < w.heap.size) (hne:k≠blk):(sortWorldK eX 2 w blk 0 n d os).heap[k]?=w.heap[k]?:=by
 unfold sortWorldK Go.Sort.grow Go.Sort.putRowK Go.Sort.putRow Go.Sort.mapBlock Go.Sort.ahead
 simp only
 rw [Array.getElem?_append_left (by simpa using hk),Array.getElem?_modify]
 simp [Ne.symm hne]
theorem Xv {w:World} {blk n B:Nat} {d:Array (Int × Int)} {os:Array Obj} (hB:B≤blk) (hb:blk < w.heap.size):Below B w (sortWorldK eX 2 w blk 0 n d os) :=
 ⟨rfl,rfl,rfl,by simp [sortWorldK,Go.Sort.grow,Go.Sort.putRowK,Go.Sort.putRow,Go.Sort.mapBlock,Go.Sort.ahead],fun k hk=>Xu (by omega) (by omega)⟩
theorem Xw {w:World} {blk n:Nat} {d:Array (Int × Int)} {os:Array Obj} {cur:Array Value} {t:TypeId} (h:w.heap[blk]?=some (.cells cur t (0,0))):∃ cur',(sortWorldK eX 2 w blk 0 n d os).heap[blk]?=some (.cells cur' t (0,0))∧cur'.size=cur.size:=by
 have hb:=lt_of_heap h
 unfold sortWorldK Go.Sort.grow Go.Sort.putRowK Go.Sort.putRow Go.Sort.mapBlock Go.Sort.ahead
 simp only
 rw [Array.getElem?_append_left (by simpa using hb),Array.getElem?_modify]
 simp only [if_true,h,Option.map_some,Go.Sort.onCells]
 exact ⟨_,rfl,by simp [Go.Sort.putCells]⟩
/-- A list of keys is sorted. -/
theorem Xx (kv:Value) (ks:List (Int × Int)) (B:Nat) (w:World) (h:Ow 135 2 xX w (In B w.heap.size) kv ks) (h12:ks.length≤12) :
  Calls Tryz.prog 137 #[kv,.func (.func 138) #[] #[]] w
   fun e w'=>e=.returned (.tuple #[])∧∃ ks',ks'.Perm ks∧ks'.Pairwise (fun a b=>¬ b.2 < a.2)∧xY w' kv ks'∧Below B w w'∧(ks'=[]∨∃ gk cap,kv=.slice (some ⟨gk,0,none⟩) ks'.length cap∧B≤gk∧bS 135 2 eX w' gk cap [] ks' 0):=by
 rcases h with ⟨rfl,rfl⟩ | ⟨g,cap,cur,cs,fs,hv,hh,h1,h2,h3,h4,h5,h6,h7⟩
 ·refine (Xt _ w).mono ?_
  rintro e w' ⟨rfl,rfl⟩
  exact ⟨rfl,[],List.Perm.refl _,List.Pairwise.nil,Rd.nil _,Below.refl _ _,.inl rfl⟩
 ·have hlt:g < w.heap.size:=lt_of_heap hh
  have hH:Go.Sort.HoldsK eX 2 w g 0 ks.toArray:=by
   intro j hj
   rw [Go.Sort.size_flatK] at hj
   simp only [List.size_toArray] at hj
   have hi:j / 2 < ks.length:=by omega
   obtain ⟨⟨hc,-⟩,-,hx⟩:=h5 (j / 2) ks[j / 2] (aK hi)
   have hm:j % 2=0∨j % 2=1:=by omega
   refine ⟨?_,by rw [Nat.zero_add];exact frozen_of_row w g j cur _ hh⟩
   rw [Go.Sort.get_flatK _ _ _ _ (by simpa using hj),O1 hi,Nat.zero_add,cell_of_row w g j cur _ (0,0) hh]
   have hd:j=j / 2 * 2+j % 2:=by omega
   have:=hx (j % 2) ((eX ks[j / 2])[j % 2]!) (by rw [hc];rcases hm with e | e <;> rw [e] <;> rfl)
   rw [← hd] at this
   exact this
  subst hv
  have hs:ks.toArray.size=ks.length:=by simp
  have:=Xo g cap ks.toArray w hH hlt (by simpa using h12)
  rw [hs] at this
  refine this.mono ?_
  rintro e w' ⟨rfl,d',n,os,⟨p1,-,p3⟩,hsort,rfl⟩
  have hd':d'.size=ks.length:=by rw [p1,hs]
  have hperm:d'.toList.Perm ks:=by
   have a1:(d'.extract 0 ks.length)=d':=by rw [← hd'];exact Array.extract_size
   have a2:(ks.toArray.extract 0 ks.length)=ks.toArray:=by rw [← hs];exact Array.extract_size
   rw [a1,a2] at p3
   exact p3
  have hW:Go.Sort.HoldsK eX 2 (sortWorldK eX 2 w g 0 n d' os) g 0 d':=by
   unfold sortWorldK
   refine Go.Sort.holdsK_grow _ _ _ _ _ _ _ ?_ (Go.Sort.holdsK_putRowK _ _ _ _ _ ks.toArray d' hH (by rw [hd',hs]))
   simpa [Go.Sort.putRowK,Go.Sort.putRow,Go.Sort.mapBlock,Go.Sort.ahead] using hlt
  have hbl:Below B w (sortWorldK eX 2 w g 0 n d' os):=Xv h4.1 hlt
  have zM:xY (sortWorldK eX 2 w g 0 n d' os) (.slice (some ⟨g,0,none⟩) ks.length cap) d'.toList:=by
   have hI:∀ x ∈ d'.toList,aB x.1∧aB x.2:=by
    intro x hx
    obtain ⟨i,hi,rfl⟩:=List.getElem_of_mem (hperm.mem_iff.1 hx)
    exact (h5 i _ (aK hi)).1.2
   refine ⟨some ⟨g,0,none⟩,cap,fun i=>eX d'[i]!,by simp [hd'],by simpa [hd'] using h1,h2,(fun h=>by cases h),fun i x hx=>?_,fun _=>⟨g,0,rfl,Nat.lt_of_lt_of_le hlt hbl.size,fun i j u hi hu=>?_⟩⟩
   ·have hi:i < d'.size:=by have:=(gs1 hx).1;simpa using this
    have e:d'[i]! = x:=by
     rw [yg hi]
     have:=(gs1 hx).2
     simpa using this
    refine ⟨⟨?_,hI x (List.mem_of_getElem? hx)⟩,rfl⟩
    show eX d'[i]! = _
    rw [e]
    rfl
   ·have hi':i < d'.size:=by simpa using hi
    have hj:j < 2:=by have:=(gs1 hu).1;simpa [eX] using this
    have:=(hW.cell hi' hj).1
    rw [this]
    congr 1
    rw [List.getElem!_eq_getElem?_getD,hu]
    rfl
  refine ⟨rfl,d'.toList,hperm,?_,zM,hbl,.inr ⟨g,cap,by simp [hd'],h4.1,?_⟩⟩
  ·rw [List.pairwise_iff_getElem]
   intro i j hi hj hij
   have:=hsort i j (Nat.zero_le _) hij (by simpa [hd'] using hj)
   rw [Fz] at this
   simp only [Array.length_toList] at hi hj
   rw [yg hi,yg hj] at this
   simpa using this
  ·obtain ⟨cur',k1,k2⟩:=Xw (n:=n) (d:=d') (os:=os) hh
   refine ⟨cur',k1,by rw [k2,h3],fun i x hx=>by simp at hx,fun i x _ hx k u hu=>?_⟩
   have hi:i < d'.size:=by have:=(gs1 hx).1;simpa using this
   have hj:k < 2:=by have:=(gs1 hu).1;simpa [eX] using this
   have e:d'[i]! = x:=by
    rw [yg hi]
    have:=(gs1 hx).2
    simpa using this
   have hc:=(hW.cell hi hj).1
   rw [cell_of_row _ g _ cur' _ (0,0) k1,e,List.getElem!_eq_getElem?_getD,hu,Nat.zero_add] at hc
   exact hc
/- One element more put behind a list of the call's own: the operation. -/
section
variable {α : Type} {P : Program} {w : World} {e t : TypeId} {sz bytes B M : Nat} {E : World → List Value → α → (Nat → Prop) → Prop} {v : Value} {l : List α}
theorem O3 (hE:Frames E) (h:Ow e sz E w (In B M) v l) (hM:M≤w.heap.size) (uD:B≤M) (ty:TypeId) {i:TypeInfo} {z:Value} (ht:P.underlying t=some (.slice e)) (hi:P.info? e=some i) (hz:i.zero=some z) (hsize:i.size=sz) (hby:i.bytes=bytes) (hzs:z.cells.size=sz) (hsz:0 < sz)
  (x:α) (c:List Value) (hc:c.length=sz) (he:E w c x (In M w.heap.size)) (ad:Addr) (cc:Nat) (hcell:∀ j u,c[j]?=some u→w.cell? (ad.add j)=some u) (h1:∀ u ∈ c,u.oneCell'=true) (hl:l.length+1≤maxLen) (hb:(l.length+1) * bytes≤140737488355328) :
  ∃ v' w',(Builtin.append_ #[t,t] ty #[v,.slice (some ad) 1 cc]).run P w=.ok v' w'∧Ow e sz E w' (In B w'.heap.size) v' (l ++ [x])∧w.grownBy w' v.ownBlock∧(∀ g,v.ownBlock=some g→B≤g∧g < M):=by
 obtain ⟨xs,cs,fs,r1,r2,r3,r4,r5⟩:=h.row
 obtain ⟨v',w',hr,h2,h3,h4,h5⟩:=run_append_own_at (P:=P) w B t ty e i z sz bytes ht hi hz hsize hby hzs hsz v l.length xs r1 ad 1 cc c (by omega) hcell h1 hl hb (by omega)
 refine ⟨v',w',hr,h.push hE hM uD x c hc he (fun ys hys=>?_) h3 (fun g hg=>?_),h3,fun g hg=>⟨?_,r2 g hg⟩⟩
 ·obtain ⟨k1,k2⟩:=hys
  obtain ⟨m1,m2⟩:=r1
  have e:ys=xs:=by
   rcases k2 with ⟨k3,k4⟩ | ⟨g,cap,cur,k3,k4,k5,k6,k7,k8,k9⟩
   ·rw [k4,Nat.zero_mul,List.length_eq_zero_iff] at k1
    rw [k4,Nat.zero_mul,List.length_eq_zero_iff] at m1
    rw [k1,m1]
   ·rcases m2 with ⟨m3,m4⟩ | ⟨g',cap',cur',m3,m4,m5,m6,m7,m8,m9⟩
    ·rw [m3] at k3
     cases k3
    ·rw [m3] at k3
     simp only [Value.slice.injEq,Option.some.injEq,Addr.mk.injEq] at k3
     obtain ⟨⟨rfl,-⟩,-⟩:=k3
     rw [m5] at k5
     simp only [Option.some.injEq,Obj.cells.injEq] at k5
     obtain ⟨rfl,-⟩:=k5
     rw [← k9,← m9]
  rw [e]
  exact h2
 ·rcases h5 with h5 | h5
  ·exact .inl (h5 ▸ hg)
  ·rw [h5] at hg
   exact .inr (by simp only [Option.some.injEq] at hg;omega)
 ·obtain ⟨m1,m2⟩:=r1
  rcases m2 with ⟨m3,m4⟩ | ⟨g',cap',cur',m3,m4,m5,m6,m7,m8,m9⟩
  ·rw [m3] at hg
   simp [Value.ownBlock] at hg
  ·rw [m3] at hg
   simp only [Value.ownBlock,Option.some.injEq] at hg
   omega
/-- The operation in a region that draws. -/
theorem Bd {o:Oper} {a:Act} {K:Act→World→Prop} {Q:Exit→Act→World→Prop} (d:Nat) (hd:o.dst=some d) (s y:Operand)
  (ho:o.op=.call { callee:=.builtin .append,args:=#[s,y],argTypes:=#[t,t] }) (hE:Frames E) (h:Ow e sz E w (In B M) v l) (hM:M≤w.heap.size) (uD:B≤M) {i:TypeInfo} {z:Value} (ht:P.underlying t=some (.slice e)) (hi:P.info? e=some i) (hz:i.zero=some z) (hsize:i.size=sz) (hby:i.bytes=bytes) (hzs:z.cells.size=sz) (hsz:0 < sz)
  (hs:a.eval s=v) (x:α) (c:List Value) (hc:c.length=sz) (he:E w c x (In M w.heap.size)) (ad:Addr) (cc:Nat) (hy:a.eval y=.slice (some ad) 1 cc) (hcell:∀ j u,c[j]?=some u→w.cell? (ad.add j)=some u) (h1:∀ u ∈ c,u.oneCell'=true) (hl:l.length+1≤maxLen) (hb:(l.length+1) * bytes≤140737488355328)
  (k:∀ v' w',Ow e sz E w' (In B w'.heap.size) v' (l ++ [x])→w.grownBy w' v.ownBlock→(∀ g,v.ownBlock=some g→B≤g∧g < M)→K (a.put (some d) v') w'):o.wp P a w K Q:=by
 obtain ⟨v',w',hr,h2,h3,h4⟩:=O3 (P:=P) (t:=t) hE h hM uD o.type ht hi hz hsize hby hzs hsz x c hc he ad cc hcell h1 hl hb
 unfold Oper.wp execOp
 simp only [ho,resolve,invoke,builtin,Sem.run_bind,Sem.run_pure,Result.andThen_ok,List.map_toArray,List.map_cons,List.map_nil,hs,hy,hr]
 have:=k v' w' h2 h3 h4
 rw [← hd] at this
 exact this
/-- The operation in a region that goes in the text's order. -/
theorem Bf {ops:Array Oper} {rest:List Oper} {o:Oper} {a:Act} {Q:Exit→Act→World→Prop} (hgd:o.guard=none) (s y:Operand)
  (ho:o.op=.call { callee:=.builtin .append,args:=#[s,y],argTypes:=#[t,t] }) (hE:Frames E) (h:Ow e sz E w (In B M) v l) (hM:M≤w.heap.size) (uD:B≤M) {i:TypeInfo} {z:Value} (ht:P.underlying t=some (.slice e)) (hi:P.info? e=some i) (hz:i.zero=some z) (hsize:i.size=sz) (hby:i.bytes=bytes) (hzs:z.cells.size=sz) (hsz:0 < sz)
  (hs:a.eval s=v) (x:α) (c:List Value) (hc:c.length=sz) (he:E w c x (In M w.heap.size)) (ad:Addr) (cc:Nat) (hy:a.eval y=.slice (some ad) 1 cc) (hcell:∀ j u,c[j]?=some u→w.cell? (ad.add j)=some u) (h1:∀ u ∈ c,u.oneCell'=true) (hl:l.length+1≤maxLen) (hb:(l.length+1) * bytes≤140737488355328)
  (k:∀ v' w',Ow e sz E w' (In B w'.heap.size) v' (l ++ [x])→w.grownBy w' v.ownBlock→(∀ g,v.ownBlock=some g→B≤g∧g < M)→wpList P ops Q rest (a.put o.dst v') w'):wpList P ops Q (o :: rest) a w:=by
 refine wpList_plain hgd fun K hK=>?_
 obtain ⟨v',w',hr,h2,h3,h4⟩:=O3 (P:=P) (t:=t) hE h hM uD o.type ht hi hz hsize hby hzs hsz x c hc he ad cc hcell h1 hl hb
 unfold Oper.wp execOp
 simp only [ho,resolve,invoke,builtin,Sem.run_bind,Sem.run_pure,Result.andThen_ok,List.map_toArray,List.map_cons,List.map_nil,hs,hy,hr]
 exact hK _ _ (k v' w' h2 h3 h4)
end
theorem dO {c:Bool} {A B:Prop} (hc:c=true) (h:A):if c=true then A else B:=by rw [if_pos hc];exact h
/-- What is new by one element stands in its block. -/
theorem mO (w:World) (cs:Array Value) (t:TypeId):∀ j u,cs.toList[j]?=some u→(w.alloc (.cells cs t)).cell? ((⟨w.heap.size,0,none⟩:Addr).add j)=some u:=by
 intro j u hu
 have h:=aV w (.cells cs t)
 rw [Addr.add_lit,Nat.zero_add,cell_of_row _ _ _ _ _ (0,0) h]
 simpa using hu
/-- What lies below the list stays. -/
theorem rX {w0 w w':World} {v:Value} {N B:Nat} (h0:Below N w0 w) (hg:w.grownBy w' v.ownBlock) (hv:∀ g,v.ownBlock=some g→B≤g) (hB:N≤B) (hN:N≤w.heap.size):Below N w0 w' :=
 ⟨hg.os.trans h0.os,hg.tape.trans h0.tape,hg.output.trans h0.output,Nat.le_trans h0.size hg.size,fun k hk=>(hg.block k (by omega) fun e=>by have:=hv k e.symm;omega).trans (h0.block k hk)⟩
theorem lF {w w':World} {v:Value} {B g:Nat} {o:Obj} (hg:w.grownBy w' v.ownBlock) (hv:∀ g,v.ownBlock=some g→B≤g) (h:w.heap[g]?=some o) (hB:g < B):w'.heap[g]?=some o :=
 (hg.block g (lt_of_heap h) fun e=>by have:=hv g e.symm;omega).trans h
/- What keysOf of impl.OU does. -/
open Go.RowKit Go.Maps
theorem Xy:(Tryz.prog.info? 135).map (fun i=>(i.zero,i.size,i.bytes))=some (some (.agg #[.int .i64 0,.int .i64 0]),2,16):=by kernel_rfl
/-- What is known of the keys that have come, while others are left. -/
structure yh (E:aX) (v:Int) (left:Lit→Bool) (ks:List Int):Prop where
 mem:∀ u ∈ ks,aB u∧(cB E v u).isSome=true∧left (dI v u)=false
 nodup:ks.Nodup
 all:∀ u,aB u→(cB E v u).isSome=true→left (dI v u)=true∨u ∈ ks
theorem yh.skip {E:aX} {v:Int} {left:Lit→Bool} {ks:List Int} (h:yh E v left ks) (hv:aB v) {x1 x2:Int} (h1:aB x1) (h2:aB x2) (hne:x1≠v):yh E v (fun z=>left z && !z.sameKey (dI x1 x2)) ks:=by
 have hk:∀ u,aB u→(dI v u).sameKey (dI x1 x2)=false:=fun u hu=>sameKey_ne (fun e=>hne (zK hv hu h1 h2 e).1.symm)
 refine ⟨fun u hu=>⟨(h.mem u hu).1,(h.mem u hu).2.1,by simp [(h.mem u hu).2.2]⟩,h.nodup,fun u hu hs=>?_⟩
 rcases h.all u hu hs with h' | h'
 ·left;simp [h',hk u hu]
 ·exact .inr h'
theorem yh.step {E:aX} {v:Int} {left:Lit→Bool} {ks:List Int} (h:yh E v left ks) (hv:aB v) {x2:Int} (h2:aB x2) (hl:left (dI v x2)=true) (hs:(cB E v x2).isSome=true):yh E v (fun z=>left z && !z.sameKey (dI v x2)) (ks ++ [x2]):=by
 have hnot:x2 ∉ ks:=fun hm=>by rw [(h.mem x2 hm).2.2] at hl;cases hl
 have hself:(dI v x2).sameKey (dI v x2)=true:=WideAt.sameKey_self (IZ hv h2)
 refine ⟨fun u hu=>?_,?_,fun u hu hf=>?_⟩
 ·rcases List.mem_append.1 hu with hu | hu
  ·exact ⟨(h.mem u hu).1,(h.mem u hu).2.1,by simp [(h.mem u hu).2.2]⟩
  ·rw [List.mem_singleton] at hu
   subst hu
   exact ⟨h2,hs,by simp [hself]⟩
 ·rw [List.nodup_append]
  exact ⟨h.nodup,by simp,fun a ha b hb=>by rw [List.mem_singleton] at hb;subst hb;exact fun e=>hnot (e ▸ ha)⟩
 ·by_cases e:u=x2
  ·subst e;right;simp
  ·rcases h.all u hu hf with h' | h'
   ·left
    have:(dI v u).sameKey (dI v x2)=false:=sameKey_ne (fun e2=>e (zK hv hu hv h2 e2).2)
    simp [h',this]
   ·right;simp [h']
theorem Xz:∀ key kl,keyOf Tryz.prog 135 key=some kl→∃ x,key=(fun p:Int × Int=>Value.agg #[.int .i64 p.1,.int .i64 p.2]) x:=fun key kl h=>by
 obtain ⟨v,u,rfl,-⟩:=OM h
 exact ⟨(v,u),rfl⟩
theorem XA:∀ v y,RM v=some y→∃ c,v=pX c:=fun v y h=>(I5 h).1
theorem O4:∀ {l m:List Int},l.Perm m→l.Pairwise (fun a b=>¬ b < a)→m.Pairwise (· < ·)→l=m
 | [],m,hp,_,_=>by simpa using hp.symm.eq_nil.symm
 | a :: l,[],hp,_,_=>by simpa using hp.eq_nil
 | a :: l,b :: m,hp,hl,hm=>by
  obtain ⟨l1,l2⟩:=List.pairwise_cons.1 hl
  obtain ⟨m1,m2⟩:=List.pairwise_cons.1 hm
  have e:a=b:=by
   have ha:a ∈ b :: m:=hp.mem_iff.1 (by simp)
   have hb:b ∈ a :: l:=hp.mem_iff.2 (by simp)
   rcases List.mem_cons.1 ha with h | h
   ·exact h
   ·rcases List.mem_cons.1 hb with h' | h'
    ·exact h'.symm
    ·have:=m1 a h
     have:=l1 b h'
     omega
  subst e
  rw [O4 (List.Perm.cons_inv hp) l2 m2]
theorem XB {v:Int} {us:List Int} {ks:List (Int × Int)} (oJ:us.Pairwise (· < ·)) (hp:ks.Perm (us.map fun u=>(v,u))) (hs:ks.Pairwise (fun a b=>¬ b.2 < a.2)):ks=us.map fun u=>(v,u):=by
 have h1:ks.map (fun x=>x.2)=us:=by
  refine O4 ?_ (List.pairwise_map.2 hs) oJ
  have h3:=hp.map (fun x=>x.2)
  have e:(us.map fun u=>(v,u)).map (fun x=>x.2)=us:=by
   rw [List.map_map]
   exact List.map_id us
  rw [e] at h3
  exact h3
 have h2:∀ x ∈ ks,x.1=v:=by
  intro x hx
  obtain ⟨u,-,rfl⟩:=List.mem_map.1 (hp.mem_iff.1 hx)
  rfl
 rw [← h1,List.map_map]
 refine (List.map_id ks).symm.trans (List.map_congr_left fun x hx=>?_)
 obtain ⟨a,b⟩:=x
 have:=h2 _ hx
 simp only at this
 subst this
 rfl
theorem Ja (g n:Nat) (E:aX) (v:Int) (us:List Int) (w:World) (h:MM w g n E) (hn:n≤2000000) (hv:aB v) (oJ:us.Pairwise (· < ·)) (hmem:∀ u,u ∈ us↔aB u∧(cB E v u).isSome=true) (h12:us.length≤12) :
  Calls Tryz.prog 112 #[.map (some g),.int .i64 v] w fun e w'=>∃ kv,e=.returned kv∧xY w' kv (us.map fun u=>(v,u))∧Below w.heap.size w w'∧(us=[]∨∃ gk cap,kv=.slice (some ⟨gk,0,none⟩) (us.map fun u=>(v,u)).length cap∧w.heap.size≤gk∧bS 135 2 eX w' gk cap [] (us.map fun u=>(v,u)) 0):=by
 obtain ⟨D,hown,hsz,hdist,FH,h5⟩:=h
 have hlt:=hown.lt
 have hle:=hown.size_le
 have HH:Hid (∀ x1 x2,aB x1→aB x2→Maps.has D (dI x1 x2)=(cB E x1 x2).isSome):=fun x1 x2 a b=>MM.has (h5 x1 x2 a b)
 have HU:Hid (us.Pairwise (· < ·)∧(∀ u,u ∈ us↔aB u∧(cB E v u).isSome=true)∧us.length≤12):=⟨oJ,hmem,h12⟩
 have HV:Hid (aB v):=hv
 obtain ⟨z0,hi,hz0,hz1,hz2⟩:=info_parts Xy
 clear h5 oJ hmem h12 hdist FH hv
 go_enter Tryz.func112,Tryz.ntmps112
 go_wp2_with (first
  | (at_range;refine wpList_range_own _ rfl _ 106 rfl 135 124 nQ vW RM g n D rfl hown ?_;intro w0 hrg0 hg0 hs0)
  | go_in)
 go_frame
 have Bg:Hid _:=hrg0
 have HB0:Hid (Below w.heap.size w w0):=⟨hg0.os,hg0.tape,hg0.output,hg0.size,fun k hk=>hg0.block k hk (by simp)⟩
 have eY:w.heap.size+1≤w0.heap.size:=by omega
 clear hrg0 hg0 hown hs0
 go_loopw [5] (fun kv wr=>∃ (ks:List Int) (left:Lit→Bool) (cnt:Nat) (ka:Option Addr) (kn kc:Nat),kv=.slice ka kn kc∧ks.length+cnt≤n∧Hid (wr.ranges Tryz.prog 135 RM g w.heap.size n D left cnt)∧Hid (Below w.heap.size w wr)∧w.heap.size+1≤wr.heap.size∧Hid (Ow 135 2 xX wr (In (w.heap.size+1) wr.heap.size) (.slice ka kn kc) (ks.map fun u=>(v,u)))∧Hid (yh E v left ks))
  (fun _ wr=>wr.rangeLeft g w.heap.size)
 case atStart=>exact ⟨[],_,_,none,0,0,rfl,by simp;omega,Bg.out,HB0.out,eY,.inl ⟨rfl,rfl⟩,⟨by simp,List.nodup_nil,fun u hu hs=>.inl ((HH.out v u HV.out hu).trans hs)⟩⟩
 case round =>
  obtain ⟨ks,left,cnt,ka,kn,kc,rfl,hcnt,hR,hB,hS,hO,hK⟩:=hrel
  clear Bg HB0 eY
  have hrg:=hR.out
  go_wp2_with (first
   | (at_next;refine wpList_next_ranges _ rfl _ rfl 135 nQ RM (fun p:Int × Int=>Value.agg #[.int .i64 p.1,.int .i64 p.2]) pX Xz XA g w.heap.size n D left cnt rfl hrg ?_ ?_)
   | go_in)
  ·intro _ hl0
   have hall:∀ u,u ∈ ks↔u ∈ us:=fun u=>⟨fun hu=>(HU.out.2.1 u).2 ⟨(hK.out.mem u hu).1,(hK.out.mem u hu).2.1⟩,fun hu=>by
    obtain ⟨a,b⟩:=(HU.out.2.1 u).1 hu
    rcases hK.out.all u a b with h' | h'
    ·rw [hl0] at h';cases h'
    ·exact h'⟩
   have hnd:us.Nodup:=HU.out.1.imp (fun h=>Int.ne_of_lt h)
   have hperm:ks.Perm us:=(List.perm_ext_iff_of_nodup hK.out.nodup hnd).2 hall
   have HP:Hid (ks.Perm us):=hperm
   have hlen:ks.length≤12:=by rw [hperm.length_eq];exact HU.out.2.2
   have hcall:=Xx _ _ _ _ hO.out (by simpa using hlen)
   have hsz2:=hO.out
   clear hperm hnd hall hrg hR
   go_wp2_with fail
   refine hcall.mono ?_
   rintro e w' ⟨rfl,ks',p1,p2,p3,p4,p5⟩
   go_wp2
   go_ret
   have hks:=XB HU.out.1 (p1.trans (HP.out.map fun u=>(v,u))) (p2.imp fun h=>Int.not_lt.2 h)
   refine ⟨_,rfl,?_,hB.out.trans (p4.mono (by omega)),?_⟩
   ·rw [← hks]
    exact p3
   ·rw [← hks]
    rcases p5 with p5 | ⟨gk,cp,q1,q2,q3⟩
    ·rw [hks] at p5
     exact .inl (List.map_eq_nil_iff.1 p5)
    ·exact .inr ⟨gk,cp,q1,by omega,q3⟩
  ·intro x1 x2 c1 c2 c3 c4 c5 c6 kl y1 y2 w1 cnt1 hkey hlk XC hat hrg1 hlt1 hg1 hs1 hen
   obtain ⟨v',u',ek,rfl,hx1,hx2⟩:=OM hkey
   simp only [zJ,Value.agg.injEq] at ek
   obtain ⟨rfl,rfl⟩:x1=v'∧x2=u':=by simpa using ek
   have hsome:(cB E x1 x2).isSome=true:=by
    rw [← HH.out x1 x2 hx1 hx2]
    exact has_true_of_atKey hat
   have HR1:Hid (w1.ranges Tryz.prog 135 RM g w.heap.size n D (fun z=>left z && !z.sameKey (dI x1 x2)) cnt1):=hrg1
   have dA:Hid (w1.heap.size=wr.heap.size):=hs1
   have hr:w.heap.size < wr.heap.size:=by omega
   have HB1:Hid (Below w.heap.size w w1):=⟨hg1.os.trans hB.out.os,hg1.tape.trans hB.out.tape,hg1.output.trans hB.out.output,Nat.le_trans hB.out.size hg1.size,fun k hk=>(hg1.block k (by omega) (fun e=>by have:=Option.some.inj e;omega)).trans (hB.out.block k hk)⟩
   have yj:Hid (Ow 135 2 xX w1 (In (w.heap.size+1) wr.heap.size) (.slice ka kn kc) (ks.map fun u=>(v,u))):=Ow.frame FB hO.out fun b hb hlt=>hg1.block b hlt (fun e=>by have:=Option.some.inj e;have:=hb.1;omega)
   have HL:Hid (left (dI x1 x2)=true):=hlk
   have HX:Hid (aB x1∧aB x2∧(cB E x1 x2).isSome=true):=⟨hx1,hx2,hsome⟩
   have A1:Below w1.heap.size w1 (w1.alloc (.cells #[.int .i64 x1,.int .i64 x2] 135)):=bn _ _
   have hs:w.heap.size+1≤w1.heap.size:=by omega
   clear hat hkey XC hlk ek hsome hrg1 hR hO hB hx1 hx2 hs1 hr
   by_cases hx:x1=v
   ·subst hx
    have hp1:(ks.map fun u=>(x1,u)).length+1≤maxLen:=by rw [List.length_map];unfold maxLen;omega
    have hp2:((ks.map fun u=>(x1,u)).length+1) * 16≤140737488355328:=by rw [List.length_map];omega
    have A2:Below w1.heap.size w1 ((w1.alloc (.cells #[.int .i64 x1,.int .i64 x2] 135)).alloc (.cells #[.int .i64 x1,.int .i64 x2] 135)):=A1.alloc (by simp) _
    have HA2:Hid (Below w1.heap.size w1 _):=A2
    have nR:Hid (Ow 135 2 xX _ (In (w.heap.size+1) w1.heap.size) (.slice ka kn kc) (ks.map fun u=>(x1,u))):=Ow.below FB (by rw [dA.out];exact yj.out) A2
    have HE:Hid (xX ((w1.alloc (.cells #[.int .i64 x1,.int .i64 x2] 135)).alloc (.cells #[.int .i64 x1,.int .i64 x2] 135)) [.int .i64 x1,.int .i64 x2] (x1,x2) (In w1.heap.size ((w1.alloc (.cells #[.int .i64 x1,.int .i64 x2] 135)).alloc (.cells #[.int .i64 x1,.int .i64 x2] 135)).heap.size)):=⟨rfl,HX.out.1,HX.out.2.1⟩
    have HC:Hid (∀ j u,[Value.int .i64 x1,.int .i64 x2][j]?=some u→((w1.alloc (.cells #[.int .i64 x1,.int .i64 x2] 135)).alloc (.cells #[.int .i64 x1,.int .i64 x2] 135)).cell? ((⟨w1.heap.size+1,0,none⟩:Addr).add j)=some u):=by
     intro j u hu
     have h:=mO (w1.alloc (.cells #[.int .i64 x1,.int .i64 x2] 135)) #[.int .i64 x1,.int .i64 x2] 135 j u hu
     rw [show (w1.alloc (.cells #[.int .i64 x1,.int .i64 x2] 135)).heap.size=w1.heap.size+1 by simp] at h
     exact h
    have hMs:=A2.size
    have hone:∀ u ∈ [Value.int .i64 x1,.int .i64 x2],u.oneCell'=true:=by
     intro u hu
     simp at hu
     rcases hu with rfl | rfl <;> rfl
    clear A1 A2
    go_wp2_with (at_builtin;refine Bf rfl (.tmp 17) (.tmp 19) rfl FB (B:=w.heap.size+1) (M:=w1.heap.size) nR.out hMs hs Tryz.underlying139 hi hz0 hz1 hz2 rfl (by omega) rfl (x1,x2) [.int .i64 x1,.int .i64 x2] rfl HE.out ⟨w1.heap.size+1,0,none⟩ 1 rfl HC.out hone hp1 hp2 ?_)
    intro O5 w3 hO3 hG3 O6
    have FI:Hid (Ow 135 2 xX w3 (In (w.heap.size+1) w3.heap.size) O5 ((ks ++ [x2]).map fun u=>(x1,u))):=by
     rw [List.map_append]
     exact hO3
    obtain ⟨XD,XE,XF,rfl⟩:∃ a n c,O5=.slice a n c:=by
     rcases hO3 with ⟨h,-⟩ | ⟨_,_,_,_,_,h,-⟩
     ·exact ⟨_,_,_,h⟩
     ·exact ⟨_,_,_,h⟩
    have hge:∀ j,(Value.slice ka kn kc).ownBlock=some j→w.heap.size+1≤j:=fun j hj=>(O6 j hj).1
    have Jb:∀ b,b < w.heap.size+1→some b≠(Value.slice ka kn kc).ownBlock:=fun b hb e=>by have:=hge b e.symm;omega
    have HR3:Hid (w3.ranges Tryz.prog 135 RM g w.heap.size n D (fun z=>left z && !z.sameKey (dI x1 x2)) cnt1):=((HR1.out.alloc _).alloc _).kept hG3 (Jb g (by omega)) (Jb _ (by omega))
    have HB3:Hid (Below w.heap.size w w3):=rX (Below.step HB1.out HA2.out) hG3 hge (by omega) (by have:=HA2.out.size;omega)
    have hs3:w.heap.size+1≤w3.heap.size:=by have:=HA2.out.size;have:=hG3.size;omega
    clear hO3 hG3 O6 hge Jb nR HE HC HA2 hMs
    go_wp2
    go_roundw
    case rel=>exact ⟨ks ++ [x2],_,cnt1,XD,XE,XF,rfl,by simp;omega,HR3.out,HB3.out,hs3,FI.out,hK.out.step HV.out HX.out.2.1 HL.out HX.out.2.2⟩
    case measure=>rw [HR3.out.left_eq,hrg.left_eq];omega
   ·have hne:(x1 == v)=false:=by simpa using hx
    have p9:Hid (x1≠v):=hx
    clear hx
    go_wp2
    go_roundw
    case rel=>exact ⟨ks,_,cnt1,ka,kn,kc,rfl,by omega,HR1.out.alloc _,Below.step HB1.out A1,by simp;omega,Ow.mono (Ow.below FB yj.out A1) (fun b hb=>⟨hb.1,by have:=hb.2;have:=dA.out;simp;omega⟩),hK.out.skip HV.out HX.out.1 HX.out.2.1 p9.out⟩
    case measure=>rw [(HR1.out.alloc _).left_eq,hrg.left_eq];omega
theorem O7 (g n:Nat) (E:aX) (v:Int) (us:List Int) (w:World) (h:MM w g n E) (hn:n≤2000000) (hv:aB v) (oJ:us.Pairwise (· < ·)) (hmem:∀ u,u ∈ us↔aB u∧(cB E v u).isSome=true) (h12:us.length≤12) :
  Calls Tryz.prog 112 #[.map (some g),.int .i64 v] w fun e w'=>∃ kv,e=.returned kv∧xY w' kv (us.map fun u=>(v,u))∧Below w.heap.size w w' :=
 (Ja g n E v us w h hn hv oJ hmem h12).mono fun _ _ ⟨kv,h1,h2,h3,_⟩=>⟨kv,h1,h2,h3⟩
/- What joined of package impl does. -/
theorem XH (v u:Value) (l m:List Int) (w:World) (hv:Bs w v l) (hu:Bs w u m) (hl:l.length≤4000000) (hm:m.length≤4000000) :
  Calls Tryz.prog 107 #[v,u] w fun e w'=>∃ r,e=.returned r∧kH w' w.heap.size r (l ++ m)∧Below w.heap.size w w':=by
 have HV:Hid (Bs w v l):=hv
 have HU:Hid (Bs w u m):=hu
 obtain ⟨ho,a,cap,rfl,-⟩:=hv
 obtain ⟨ho',a',cap',rfl,-⟩:=hu
 obtain ⟨i0,hi,hz0,hz1,hz2⟩:=info_parts info5
 go_enter Tryz.func107,Tryz.ntmps107
 go_wp2_with (at_make;refine wpList_make_full _ rfl _ _ 26 rfl w.heap.size 5 i0 (.int .u8 0) 1 Tryz.underlying26 hi hz0 hz1 _ _ _ _ (l.length+m.length) rfl rfl (by omega) (by omega) (by rw [hz2];omega) (by unfold maxLen;omega) (Nat.le_refl _) ?_)
 intro w1 hown hgrow
 have hB1:=(Below.refl w.heap.size w).grown hgrow (Nat.le_refl _) (by simp)
 have HR1:Hid (w1.heap[w.heap.size]?=some (.cells (vals (List.replicate (l.length+m.length) 0)).toArray 5 (0,0))):=by
  have:=Oy hown
  simpa [Hid,vals] using this
 clear hown hgrow
 go_wp2_with (refine IV rfl (.tmp 12) (.tmp 13) 26 26 rfl Tryz.underlying26 IW _ _ _ rfl _ l rfl (HV.out.below hB1) l.length (Nat.min_eq_left (Nat.le_add_right _ _)).symm w.heap.size 0 _ HR1.out (fun _=>rfl) (by simp) w.heap.size w hB1 (Nat.le_refl _) ?_)
 intro w2 HR2 hB2
 have hlen:(splice (List.replicate (l.length+m.length) (0:Int)) 0 l).length=l.length+m.length:=by rw [length_splice _ _ _ (by simp)];simp
 have HL:Hid ((splice (List.replicate (l.length+m.length) (0:Int)) 0 l).length=l.length+m.length):=hlen
 clear hlen
 have HE:Hid (splice (splice (List.replicate (l.length+m.length) (0:Int)) 0 l) l.length m=l ++ m):=W9 _ _ _ (by simp)
 by_cases hm0:m=[]
 ·subst hm0
  go_wp2_with (refine IV rfl (.tmp 18) (.tmp 19) 26 26 rfl Tryz.underlying26 IW _ _ _ rfl _ [] rfl (HU.out.below hB2) 0 (Nat.min_eq_left (Nat.zero_le _)).symm w.heap.size l.length _ HR2.out (fun h=>absurd h (by omega)) (by rw [HL.out];omega) w.heap.size w hB2 (Nat.le_refl _) ?_)
  intro w3 HR3 hB3
  have HR4:Hid (w3.heap[w.heap.size]?=some (.cells (vals (l ++ [])).toArray 5 (0,0))):=by
   rw [← HE.out];simpa using HR3
  clear HR3
  go_wp2
  go_ret
  have:=IQ (Ox ho ho') (by simp [maxLen];omega) HR4.out
  exact ⟨_,rfl,⟨_,Nat.le_refl _,by simpa using this⟩,hB3⟩
 ·have hm1:0 < m.length:=List.length_pos_iff.2 hm0
  go_wp2_with (refine IV rfl (.tmp 18) (.tmp 19) 26 26 rfl Tryz.underlying26 IW _ _ _ rfl _ m rfl (HU.out.below hB2) m.length (Nat.min_eq_left (by omega)).symm w.heap.size l.length _ HR2.out (fun _=>rfl) (by rw [HL.out];omega) w.heap.size w hB2 (Nat.le_refl _) ?_)
  intro w3 HR3 hB3
  have HR4:Hid (w3.heap[w.heap.size]?=some (.cells (vals (l ++ m)).toArray 5 (0,0))):=by
   rw [← HE.out];exact HR3
  clear HR3
  go_wp2
  go_ret
  have:=IQ (Ox ho ho') (by simp [maxLen];omega) HR4.out
  exact ⟨_,rfl,⟨_,Nat.le_refl _,by simpa using this⟩,hB3⟩
theorem Jc (v u:Value) (l m:List Int) (w:World) (hv:Bs w v l) (hu:Bs w u m) (hl:l.length≤4000000) (hm:m.length≤4000000) :
  Calls Tryz.prog 107 #[v,u] w fun e w'=>∃ r,e=.returned r∧Row w' w.heap.size w'.heap.size r (l ++ m)∧Below w.heap.size w w' :=
 (XH v u l m w hv hu hl hm).mono fun _ _ ⟨u,h1,h2,h3⟩=>⟨u,h1,h2.IU,h3⟩
/- What aho and ahp of package impl do. -/
theorem O8 (v:Value) (x:aF) (w:World) (hv:gK w v x) (h0:x.text.length≤2000000) :
  Calls Tryz.prog 121 #[v] w fun e w'=>∃ a n c,e=.returned (.agg #[.int .i64 x.uid,.int .i64 x.flags,.int .i64 x.seq,.slice a n c])∧je w' [.int .i64 x.uid,.int .i64 x.flags,.int .i64 x.seq,.slice a n c] x (In w.heap.size w'.heap.size)∧Below w.heap.size w w':=by
 obtain ⟨u,rfl,g0,i0,i1,i2⟩:=hv
 obtain ⟨uid,flags,seq,text⟩:=x
 simp only at g0 i0 i1 i2 h0
 have H0:Hid (∀ wi,Below w.heap.size w wi→Bs wi u text):=fun wi h=>g0.below h
 obtain ⟨a0,n0,c0,rfl⟩:=g0.aG
 have HI:Hid (aB uid∧aB flags∧aB seq):=⟨i0,i1,i2⟩
 clear g0 i0 i1 i2
 simp only
 obtain ⟨kA,kR,X⟩:=gJ w (.cells #[.int .i64 uid,.int .i64 flags,.int .i64 seq,.slice a0 n0 c0] 124) (.cells #[.int .i64 0,.int .i64 0,.int .i64 0,.slice none 0 0] 124)
 go_enter Tryz.func121,Tryz.ntmps121
 go_wp2_with fail
 refine (Jc _ _ text [] _ (H0.out _ X) (IX _) (by omega) (by simp)).mono ?_
 rintro e w1 ⟨u0,rfl,R0,B⟩
 rw [List.append_nil] at R0
 obtain ⟨x0,m0,y0,rfl⟩:=R0.bs.aG
 replace kA:=ay B kA
 replace kR:=ay B kR
 have s1:w.heap.size+2≤w1.heap.size:=by have:=B.size;simp at this;omega
 replace X:=Below.step X B
 replace R0:=R0.wide (B':=w.heap.size+2) (T':=w1.heap.size) (by simp) (Nat.le_refl _)
 clear B
 obtain ⟨oz,ol⟩:=bR kA
 obtain ⟨o0,o1,o2,o3⟩:=gF kA
 obtain ⟨rz,rl⟩:=bR kR
 obtain ⟨r0,r1,r2,r3⟩:=gF kR
 go_wp2
 refine bodyPost_ret (v:=.agg #[.int .i64 uid,.int .i64 flags,.int .i64 seq,.slice x0 m0 y0]) (by simp [results,Tryz.results121,go_sem,r0,r1,r2,r3]) rfl ⟨_,_,_,rfl,?_,?_⟩
 ·simp only [aZ]
  exact ⟨_,rfl,Row.ro (Row.wide (((((R0.set (g:=w.heap.size) (i:=3) (x:=.slice x0 m0 y0) (.inl (by omega))).set (g:=w.heap.size+1) (i:=0) (x:=.int .i64 uid) (.inl (by omega))).set (g:=w.heap.size+1) (i:=1) (x:=.int .i64 flags) (.inl (by omega))).set (g:=w.heap.size+1) (i:=2) (x:=.int .i64 seq) (.inl (by omega))).set (g:=w.heap.size+1) (i:=3) (x:=.slice x0 m0 y0) (.inl (by omega))) (by omega) (Nat.le_refl _)),HI.out⟩
 ·exact (((((X.setCell (p:=⟨w.heap.size,3,none⟩) (by simp <;> omega) (.slice x0 m0 y0)).setCell (p:=⟨w.heap.size+1,0,none⟩) (by simp <;> omega) (.int .i64 uid)).setCell (p:=⟨w.heap.size+1,1,none⟩) (by simp <;> omega) (.int .i64 flags)).setCell (p:=⟨w.heap.size+1,2,none⟩) (by simp <;> omega) (.int .i64 seq)).setCell (p:=⟨w.heap.size+1,3,none⟩) (by simp <;> omega) (.slice x0 m0 y0))
theorem Bh (v:Value) (x:aD) (w:World) (hv:bK w v x) (h0:x.name.length≤2000000) :
  Calls Tryz.prog 74 #[v] w fun e w'=>∃ a n c,e=.returned (.agg #[.slice a n c,.int .i64 x.valid,.int .i64 x.next,.int .i64 x.seq,.slice none 0 0,.slice none 0 0,.int .i64 x.lost])∧RO w' (In w.heap.size w'.heap.size) (.slice a n c) x.name∧Below w.heap.size w w':=by
 obtain ⟨u0,u1,u2,rfl,g0,g1,g2,-⟩:=hv
 obtain ⟨name,valid,next,seq,ah,au,lost⟩:=x
 simp only at g0 g1 g2 h0
 have H0:Hid (∀ wi,Below w.heap.size w wi→Bs wi u0 name):=fun wi h=>g0.below h
 obtain ⟨a0,n0,c0,rfl⟩:=g0.aG
 obtain ⟨a1,c1,rfl,-⟩:=g1.form
 obtain ⟨a2,c2,rfl,-⟩:=g2.form
 clear g0 g1 g2
 simp only
 obtain ⟨kA,kR,X⟩:=gJ w (.cells #[.slice a0 n0 c0,.int .i64 valid,.int .i64 next,.int .i64 seq,.slice a1 ah.length c1,.slice a2 au.length c2,.int .i64 lost] 37) (.cells #[.slice none 0 0,.int .i64 0,.int .i64 0,.int .i64 0,.slice none 0 0,.slice none 0 0,.int .i64 0] 37)
 go_enter Tryz.func74,Tryz.ntmps74
 go_wp2_with fail
 refine (Jc _ _ name [] _ (H0.out _ X) (IX _) (by omega) (by simp)).mono ?_
 rintro e w1 ⟨u0,rfl,R0,B⟩
 rw [List.append_nil] at R0
 obtain ⟨x0,m0,y0,rfl⟩:=R0.bs.aG
 replace kA:=ay B kA
 replace kR:=ay B kR
 have s1:w.heap.size+2≤w1.heap.size:=by have:=B.size;simp at this;omega
 replace X:=Below.step X B
 replace R0:=R0.wide (B':=w.heap.size+2) (T':=w1.heap.size) (by simp) (Nat.le_refl _)
 clear B
 obtain ⟨oz,ol⟩:=bR kA
 obtain ⟨o0,o1,o2,o3,o4,o5,o6⟩:=bF kA
 obtain ⟨rz,rl⟩:=bR kR
 obtain ⟨r0,r1,r2,r3,r4,r5,r6⟩:=bF kR
 go_wp2
 refine bodyPost_ret (v:=.agg #[.slice x0 m0 y0,.int .i64 valid,.int .i64 next,.int .i64 seq,.slice none 0 0,.slice none 0 0,.int .i64 lost]) (by simp [results,Tryz.results74,go_sem,r0,r1,r2,r3,r4,r5,r6]) rfl ⟨_,_,_,rfl,?_,?_⟩
 ·simp only [aZ]
  exact Row.ro (Row.wide ((((((((((R0.set (g:=w.heap.size) (i:=0) (x:=.slice x0 m0 y0) (.inl (by omega))).set (g:=w.heap.size) (i:=4) (x:=.slice none 0 0) (.inl (by omega))).set (g:=w.heap.size) (i:=5) (x:=.slice none 0 0) (.inl (by omega))).set (g:=w.heap.size+1) (i:=0) (x:=.slice x0 m0 y0) (.inl (by omega))).set (g:=w.heap.size+1) (i:=1) (x:=.int .i64 valid) (.inl (by omega))).set (g:=w.heap.size+1) (i:=2) (x:=.int .i64 next) (.inl (by omega))).set (g:=w.heap.size+1) (i:=3) (x:=.int .i64 seq) (.inl (by omega))).set (g:=w.heap.size+1) (i:=4) (x:=.slice none 0 0) (.inl (by omega))).set (g:=w.heap.size+1) (i:=5) (x:=.slice none 0 0) (.inl (by omega))).set (g:=w.heap.size+1) (i:=6) (x:=.int .i64 lost) (.inl (by omega))) (by omega) (Nat.le_refl _))
 ·exact ((((((((((X.setCell (p:=⟨w.heap.size,0,none⟩) (by simp <;> omega) (.slice x0 m0 y0)).setCell (p:=⟨w.heap.size,4,none⟩) (by simp <;> omega) (.slice none 0 0)).setCell (p:=⟨w.heap.size,5,none⟩) (by simp <;> omega) (.slice none 0 0)).setCell (p:=⟨w.heap.size+1,0,none⟩) (by simp <;> omega) (.slice x0 m0 y0)).setCell (p:=⟨w.heap.size+1,1,none⟩) (by simp <;> omega) (.int .i64 valid)).setCell (p:=⟨w.heap.size+1,2,none⟩) (by simp <;> omega) (.int .i64 next)).setCell (p:=⟨w.heap.size+1,3,none⟩) (by simp <;> omega) (.int .i64 seq)).setCell (p:=⟨w.heap.size+1,4,none⟩) (by simp <;> omega) (.slice none 0 0)).setCell (p:=⟨w.heap.size+1,5,none⟩) (by simp <;> omega) (.slice none 0 0)).setCell (p:=⟨w.heap.size+1,6,none⟩) (by simp <;> omega) (.int .i64 lost))
end Go.Proofs.YtlneebmlhblleaaGreat
