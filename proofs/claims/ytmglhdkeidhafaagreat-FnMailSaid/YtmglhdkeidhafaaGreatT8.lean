/- The proof's texts, part 8. -/
import Derived.Test.YtmglhdkeidhafaaGreatT2
import Derived.Laws.BitsAllLaws
import Derived.Deep.RegionLaw
import Derived.Test.YtmglhdkeidhafaaGreatT3
import Derived.Laws.AppendOwn
import Derived.Shelf.Abstract
namespace Go.Proofs.YtmglhdkeidhafaaGreat
open Go.RowKit
set_option linter.unusedVariables false
set_option linter.unusedSimpArgs false
set_option maxHeartbeats 1000000
set_option maxRecDepth 100000
/- The ae6 cursor of package spec: what ae7 and ae8 answer lies in its bounds; they write into the cursor alone. -/
/-- The cursor at block g: it holds the slice cv of the bytes L, a place in it, and some number; below ae9 size nothing has turned since w0. -/
def bN (w0 w:World) (g:Nat) (cv:Value) (L:List Int):Prop :=
 w0.heap.size≤g∧Below w0.heap.size w0 w∧Bs w0 cv L∧∃ i h:Int,0≤i∧i≤L.length∧w.heap[g]?=some (.cells #[cv,.int .i64 i,.int .i64 h] 63 (0,0))
theorem Er (x:Int):0≤bits BinOp.and IntKind.i64 x 255∧bits BinOp.and IntKind.i64 x 255≤255:=by
 have e:bits BinOp.and IntKind.i64 x 255=IntKind.i64.wrap ((BitVec.ofInt 64 x &&& BitVec.ofInt 64 255).toNat:Int):=rfl
 have hb:(BitVec.ofInt 64 x &&& BitVec.ofInt 64 255).toNat≤255:=by
  rw [BitVec.toNat_and]
  exact Nat.and_le_right
 rw [e,IntWalk.i64_in _ (by omega)]
 omega
theorem Ik {w w':World} {r:Option Nat} (h:w.grownBy w' r) (n:Nat):w.grownBy (w'.drewN n) r:=⟨h.os,h.tape,h.output,h.size,h.block⟩
theorem Oc {w:World} {g:Nat} {c0 c1 c2 v:Value} {t:TypeId} (h:w.heap[g]?=some (.cells #[c0,c1,c2] t (0,0))):(w.setCell ⟨g,2,none⟩ v).heap[g]?=some (.cells #[c0,c1,v] t (0,0)):=by
 rw [heap_setCell_same w g 2 _ t v h];rfl
theorem Wl {w:World} {g:Nat} {c0 c1 c2 v:Value} {t:TypeId} (h:w.heap[g]?=some (.cells #[c0,c1,c2] t (0,0))):(w.setCell ⟨g,1,none⟩ v).heap[g]?=some (.cells #[c0,v,c2] t (0,0)):=by
 rw [heap_setCell_same w g 1 _ t v h];rfl
theorem Ba (w0 w:World) (g:Nat) (cv:Value) (L:List Int) (hc:bN w0 w g cv L) :
  Calls Tryz.prog 61 #[.pointer (some ⟨g,0,none⟩)] w fun e w'=>∃ x,e=.returned (.int .i64 x)∧0≤x∧x≤255∧bN w0 w' g cv L∧w.grownBy w' (some g):=by
 obtain ⟨hg,hB,hbs,i,h,hi0,hi1,hh⟩:=hc
 have f0:w.cell? ⟨g,0,none⟩=some cv:=by rw [cell_of_row w g 0 _ _ (0,0) hh];rfl
 have f1:w.cell? ⟨g,1,none⟩=some (.int .i64 i):=by rw [cell_of_row w g 1 _ _ (0,0) hh];rfl
 have f2:w.cell? ⟨g,2,none⟩=some (.int .i64 h):=by rw [cell_of_row w g 2 _ _ (0,0) hh];rfl
 have z1:=frozen_of_row w g 1 _ _ hh
 have z2:=frozen_of_row w g 2 _ _ hh
 obtain ⟨a,cap,rfl⟩:∃ a cap,cv=.slice a L.length cap:=by obtain ⟨_,a,cap,h,_⟩:=hbs;exact ⟨a,cap,h⟩
 by_cases hlt:i < (L.length:Int)
 ·obtain ⟨I,rfl⟩:=Int.eq_ofNat_of_zero_le hi0
  have qG:Hid (Bs w0 (.slice a L.length cap) L):=hbs
  obtain ⟨ho,a',cap',hv,hlc,hcm,-,h4⟩:=hbs
  simp only [Value.slice.injEq] at hv
  obtain ⟨rfl,-,rfl⟩:=hv
  obtain ⟨b,off,rfl,hb,hcell⟩:=h4 (by omega)
  have fx:w.cell? ⟨b,off+I,none⟩=some (.int .u8 (L.getD I 0)):=(hB.cell (p:=⟨b,off+I,none⟩) hb).trans (hcell I (by omega))
  have ox:=Ah ho I
  obtain ⟨x,hx⟩:∃ x,x=L.getD I 0:=⟨_,rfl⟩
  rw [← hx] at fx ox
  obtain ⟨ox0,ox1⟩:=ox
  have hbg:¬ b=g:=by omega
  have hgb:¬ g=b:=by omega
  have HL:Hid (I < L.length):=by unfold Hid;omega
  unfold maxLen at hcm
  clear hcell h4 hx
  go_enter Tryz.func61,Tryz.ntmps61
  go_wp2
  go_quiet (fail)
  go_wp2
  go_quiet (fail)
  go_wp2
  go_quiet (fail)
  go_wp2
  go_ret
  exact ⟨_,rfl,(Er _).1,(Er _).2,⟨hg,(below_drewN _ (hB.setCell hg _)).setCell hg _,qG.out,(I:Int)+1,_,by omega,by omega,Wl (w:=(w.setCell ⟨g,2,none⟩ _).drewN _) (Oc hh)⟩,grownBy_setCell (Ik (grownBy_setCell (World.grownBy.refl _ _)) _)⟩
 ·go_enter Tryz.func61,Tryz.ntmps61
  go_wp2
  go_quiet (fail)
  go_wp2
  go_quiet (fail)
  go_wp2
  go_ret
  exact ⟨_,rfl,(Er _).1,(Er _).2,⟨hg,below_drewN _ (below_drewN _ (hB.setCell hg _)),hbs,i,_,hi0,hi1,Oc hh⟩,Ik (Ik (grownBy_setCell (World.grownBy.refl _ _)) _) _⟩
theorem bN.below {w0 w w':World} {g:Nat} {cv:Value} {L:List Int} (h:bN w0 w g cv L) (hb:Below w.heap.size w w'):bN w0 w' g cv L:=by
 obtain ⟨hg,hB,hbs,i,q,h0,h1,hh⟩:=h
 exact ⟨hg,hB.trans (hb.mono hB.size),hbs,i,q,h0,h1,(hb.block g (lt_of_heap hh)).trans hh⟩
theorem bN.lt {w0 w:World} {g:Nat} {cv:Value} {L:List Int} (h:bN w0 w g cv L):w0.heap.size≤g∧g < w.heap.size:=by
 obtain ⟨hg,_,_,i,q,_,_,hh⟩:=h;exact ⟨hg,lt_of_heap hh⟩
/-- Another row was written. -/
theorem bN.kept {w0 w w':World} {g B T:Nat} {cv u:Value} {L m:List Int} (h:bN w0 w g cv L) (hu:Row w B T u m) (hw:w.grownBy w' u.ownBlock) (hd:g < B):bN w0 w' g cv L:=by
 obtain ⟨hg,hB,hbs,i,q,h0,h1,hh⟩:=h
 refine ⟨hg,hB.grown hw hB.size (fun k hk=>by have:=(hu.2.1.lt k hk).1;omega),hbs,i,q,h0,h1,(hw.block g (lt_of_heap hh) (fun e=>?_)).trans hh⟩
 have:=(hu.2.1.lt g e.symm).1;omega
theorem kQ (w0 w:World) (g:Nat) (cv:Value) (L:List Int) (n:Int) (hc:bN w0 w g cv L) (hn:1≤n) (hn1:n≤4000000000) :
  Calls Tryz.prog 31 #[.pointer (some ⟨g,0,none⟩),.int .i64 n] w fun e w'=>∃ x,e=.returned (.int .i64 x)∧0≤x∧x < n∧bN w0 w' g cv L∧w.grownBy w' (some g):=by
 by_cases hs:n≤256
 ·go_enter Tryz.func31,Tryz.ntmps31
  go_wp2_with fail
  refine (Ba w0 _ g cv L hc).mono ?_
  rintro e w1 ⟨x,rfl,hx0,hx1,hc1,hg1⟩
  go_wp2
  go_ret
  exact ⟨_,rfl,Int.emod_nonneg _ (by omega),Int.emod_lt_of_pos _ (by omega),hc1,hg1⟩
 ·go_enter Tryz.func31,Tryz.ntmps31
  go_wp2_with fail
  refine (Ba w0 _ g cv L hc).mono ?_
  rintro e w1 ⟨x,rfl,hx0,hx1,hc1,hg1⟩
  go_wp2_with fail
  refine (Ba w0 _ g cv L hc1).mono ?_
  rintro e w2 ⟨y,rfl,hy0,hy1,hc2,hg2⟩
  go_wp2_with fail
  refine (Ba w0 _ g cv L hc2).mono ?_
  rintro e w3 ⟨z,rfl,hz0,hz1,hc3,hg3⟩
  go_wp2_with fail
  refine (Ba w0 _ g cv L hc3).mono ?_
  rintro e w4 ⟨q,rfl,hq0,hq1,hc4,hg4⟩
  go_wp2
  go_ret
  exact ⟨_,rfl,Int.emod_nonneg _ (by omega),Int.emod_lt_of_pos _ (by omega),hc4,grownBy_trans (grownBy_trans (grownBy_trans hg1 hg2) hg3) hg4⟩
theorem Es (w0 w:World) (g:Nat) (cv:Value) (L:List Int) (n:Int) (hc:bN w0 w g cv L) (hn:1≤n) (hn1:n≤4000000000) :
  Calls Tryz.prog 30 #[.pointer (some ⟨g,0,none⟩),.int .i64 n] w fun e w'=>∃ x,e=.returned (.bool x)∧bN w0 w' g cv L∧w.grownBy w' (some g):=by
 go_enter Tryz.func30,Tryz.ntmps30
 go_wp2_with fail
 refine (kQ w0 _ g cv L n hc hn hn1).mono ?_
 rintro e w1 ⟨x,rfl,hx0,hx1,hc1,hg1⟩
 go_wp2
 go_ret
 exact ⟨_,rfl,hc1,hg1⟩
/-- A list of ints in a block of its own: each is an int, and there is one. -/
def Ints (w:World) (v:Value) (g n:Nat):Prop :=
 1≤n∧n≤1000∧∃ k,k≠g∧k < w.heap.size∧v=.slice (some ⟨k,0,none⟩) n n∧∀ i,i < n→∃ x,w.cell? ⟨k,i,none⟩=some (.int .i64 x)∧-9223372036854775808≤x∧x≤9223372036854775807
/- What afc, afd and afe of package spec answer. -/
theorem iq.drawn {w w':World} {g B:Nat} {v:Value} {l:List Int} (h:iq w B v l) (hw:w.grownBy w' (some g)) (hd:g < B):iq w' B v l:=by
 obtain ⟨k,hk,ho⟩:=h
 exact ⟨k,hk,ho.kept hw (by omega)⟩
theorem Wm (v:Value) (L:List Int) (w:World) (hv:Bs w v L) :
  Calls Tryz.prog 10 #[v] w fun e w'=>∃ g,e=.returned (.pointer (some ⟨g,0,none⟩))∧bN w w' g v L∧Below w.heap.size w w':=by
 have qG:Hid (Bs w v L):=hv
 obtain ⟨ho,a,cap,rfl,hlc,hcm,hnil,hcells⟩:=hv
 unfold maxLen at hcm
 go_enter Tryz.func10,Tryz.ntmps10
 go_wp2
 go_loop [3,4] (fun h i=>∃ (q:Int) (k:Nat),h=.int .i64 q∧i=.int .i64 k∧k≤L.length∧k≤4000) (fun _ i=>4000 - (intOf i).toNat)
 case atStart=>exact ⟨_,0,rfl,rfl,Nat.zero_le _,Nat.zero_le _⟩
 case round =>
  obtain ⟨q,k,rfl,rfl,hk,hk4⟩:=hrel
  by_cases h1:k < L.length
  ·by_cases h2:k < 4000
   ·obtain ⟨b,off,rfl,hlb,hc⟩:=hcells (by omega)
    have hx:=hc k h1
    have hb:=Ah ho k
    obtain ⟨x,hxe⟩:∃ x,x=L.getD k 0:=⟨_,rfl⟩
    rw [← hxe] at hx hb
    clear hc hcells hxe
    go_wp2
    go_round
    case rel=>exact ⟨_,k+1,rfl,by go_num,by omega,by omega⟩
    case measure=>simp [intOf];omega
   ·go_wp2
    go_ret
    exact ⟨w.heap.size,rfl,⟨Nat.le_refl _,bn _ _,qG.out,0,q,by omega,by omega,heap_alloc_new w _⟩,bn _ _⟩
  ·go_wp2
   go_ret
   exact ⟨w.heap.size,rfl,⟨Nat.le_refl _,bn _ _,qG.out,0,q,by omega,by omega,heap_alloc_new w _⟩,bn _ _⟩
/- What aff of package spec draws: one of the ints. -/
/-- Ints from lo to hi in a block of their own. -/
def lJ (w:World) (v:Value) (g n:Nat) (lo hi:Int):Prop :=
 1≤n∧n≤1000∧∃ k,k≠g∧k < w.heap.size∧v=.slice (some ⟨k,0,none⟩) n n∧∀ i,i < n→∃ x,w.cell? ⟨k,i,none⟩=some (.int .i64 x)∧lo≤x∧x≤hi
theorem ng (w0 w:World) (g n:Nat) (cv v:Value) (L:List Int) (lo hi:Int) (hc:bN w0 w g cv L) (hv:lJ w v g n lo hi) :
  Calls Tryz.prog 32 #[.pointer (some ⟨g,0,none⟩),v] w fun e w'=>∃ x,e=.returned (.int .i64 x)∧lo≤x∧x≤hi∧bN w0 w' g cv L∧w.grownBy w' (some g):=by
 obtain ⟨hn,hn1,k,hkg,hks,rfl,hcells⟩:=hv
 go_enter Tryz.func32,Tryz.ntmps32
 go_wp2_with fail
 refine (kQ w0 _ g cv L n hc (by omega) (by omega)).mono ?_
 rintro e w1 ⟨x,rfl,hx0,hx1,hc1,hg1⟩
 obtain ⟨j,rfl⟩:=Int.eq_ofNat_of_zero_le hx0
 obtain ⟨y,hy,hy0,hy1⟩:=hcells j (by omega)
 have hy':w1.cell? ⟨k,j,none⟩=some (.int .i64 y):=hg1.cell hy (by simpa using hkg)
 clear hcells hy
 go_wp2
 go_ret
 exact ⟨_,rfl,hy0,hy1,hc1,hg1⟩
theorem ni (w:World) (g:Nat) (xs:List Int) (t:TypeId) (lo hi:Int) (hg:g < w.heap.size) (h0:1≤xs.length) (h1:xs.length≤1000) (hx:∀ x ∈ xs,lo≤x∧x≤hi) :
  lJ (w.alloc (.cells (xs.map (Value.int .i64)).toArray t)) (.slice (some ⟨w.heap.size,0,none⟩) xs.length xs.length) g xs.length lo hi:=by
 refine ⟨h0,h1,w.heap.size,by omega,by simp,rfl,fun i hi=>⟨xs[i],?_,hx _ (List.getElem_mem hi)⟩⟩
 rw [cell_of_row _ _ i _ t (0,0) (heap_alloc_new w _)]
 simp [hi]
/- append of bytes as one step of a region that draws its order. -/
/- What afg and afh of package spec do. -/
theorem vE (k:Int) (w:World) :
  Calls Tryz.prog 19 #[.int .i64 k] w fun e w'=>e=.returned (.tuple #[.bool (toB k),.bool (uX k),.bool (uY k),.bool (uZ k),.bool (u6 k)])∧w'=w:=by
 go_enter Tryz.func19,Tryz.ntmps19
 go_wp2
 all_goals exact bodyPost_ret (v:=.tuple #[.bool (toB k),.bool (uX k),.bool (uY k),.bool (uZ k),.bool (u6 k)]) (by simp [results,Tryz.results19,go_sem,toB,uX,uY,uZ,u6, *] <;> (simp only [beq_iff_eq,beq_eq_false_iff_ne,ne_eq] at *;omega)) rfl ⟨rfl,rfl⟩
theorem qH (n:Int) (w:World) :
  Calls Tryz.prog 20 #[.int .i64 n] w fun e w'=>e=.returned (.bool (aM n 0 1000000))∧w'=w:=by
 go_enter Tryz.func20,Tryz.ntmps20
 go_wp2
 all_goals (go_ret;exact ⟨by simp [aM, *] <;> omega,rfl⟩)
/- What afi of package laws does. -/
/- Elements with what they lead to, as a list of cells: taken apart and put together in another order of blocks (boxes into a new row). -/
section
variable {α : Type} {sz : Nat} {E : World → List Value → α → (Nat → Prop) → Prop} {w w' : World}
/-- The cells xs are those of the elements l, one behind the other; what they lead to lies in S, apart from one another. -/
def EL (sz:Nat) (E:World→List Value→α→(Nat→Prop)→Prop) (w:World):List α→(Nat→Prop)→List Value→Prop
 | [],_,xs=>xs=[]
 | x :: l,S,xs=>∃ (c ys:List Value) (F S':Nat→Prop),xs=c ++ ys∧c.length=sz∧E w c x F∧EL sz E w l S' ys∧(∀ b,F b→S b)∧(∀ b,S' b→S b)∧∀ b,F b→¬ S' b
theorem EL.len:∀ {l:List α} {S:Nat→Prop} {xs:List Value},EL sz E w l S xs→xs.length=l.length * sz
 | [],_,_,h=>by rw [show _=[] from h];simp
 | _ :: l,_,_,⟨c,ys,_,_,e,hc,_,hl,_⟩=>by rw [e,List.length_append,hc,EL.len hl,List.length_cons,Nat.succ_mul,Nat.add_comm]
theorem EL.mono:∀ {l:List α} {S T:Nat→Prop} {xs:List Value},EL sz E w l S xs→(∀ b,S b→T b)→EL sz E w l T xs
 | [],_,_,_,h,_=>h
 | _ :: _,_,_,_,⟨c,ys,F,S',e,hc,he,hl,h1,h2,h3⟩,hS=>⟨c,ys,F,S',e,hc,he,hl,fun b h=>hS b (h1 b h),fun b h=>hS b (h2 b h),h3⟩
/-- It stays while what it leads to does. -/
theorem EL.keep {w w':World}:∀ {l:List α} {S:Nat→Prop} {xs:List Value},EL sz E w l S xs→(∀ c x F,(∀ b,F b→S b)→E w c x F→E w' c x F)→EL sz E w' l S xs
 | [],_,_,h,_=>h
 | _ :: _,_,_,⟨c,ys,F,S',e,hc,he,hl,h1,h2,h3⟩,hk=>⟨c,ys,F,S',e,hc,hk _ _ _ h1 he,hl.keep fun c x F h=>hk c x F fun b hb=>h2 b (h b hb),h1,h2,h3⟩
theorem EL.one {c:List Value} {x:α} {F:Nat→Prop} (hc:c.length=sz) (he:E w c x F):EL sz E w [x] F c :=
 ⟨c,[],F,fun _=>False,by simp,hc,he,rfl,fun _ h=>h,fun _ h=>h.elim,fun _ _ h=>h⟩
theorem EL.app:∀ {l m:List α} {S T:Nat→Prop} {xs ys:List Value},EL sz E w l S xs→EL sz E w m T ys→(∀ b,S b→¬ T b)→EL sz E w (l ++ m) (fun b=>S b∨T b) (xs ++ ys)
 | [],m,S,T,xs,ys,h,h',_=>by rw [show xs=[] from h];exact h'.mono fun b h=>.inr h
 | x :: l,m,S,T,xs,ys,⟨c,zs,F,S',e,hc,he,hl,h1,h2,h3⟩,h',hd =>
  ⟨c,zs ++ ys,F,fun b=>S' b∨T b,by rw [e,List.append_assoc],hc,he,hl.app h' fun b h=>hd b (h2 b h),fun b h=>.inl (h1 b h),fun b h=>h.elim (fun h=>.inl (h2 b h)) .inr,fun b h h'=>h'.elim (h3 b h) (hd b (h1 b h))⟩
/-- Taken apart. -/
theorem EL.split:∀ (i:Nat) {l:List α} {S:Nat→Prop} {xs:List Value},EL sz E w l S xs→∃ S1 S2:Nat→Prop,EL sz E w (l.take i) S1 (xs.take (i * sz))∧EL sz E w (l.drop i) S2 (xs.drop (i * sz))∧(∀ b,S1 b→S b)∧(∀ b,S2 b→S b)∧∀ b,S1 b→¬ S2 b
 | 0,l,S,xs,h=>⟨fun _=>False,S,by simp [EL],by simpa using h,fun _ h=>h.elim,fun _ h=>h,fun _ h=>h.elim⟩
 | i+1,[],S,xs,h=>⟨fun _=>False,S,by rw [show xs=[] from h];simp [EL],by rw [show xs=[] from h];simp [EL],fun _ h=>h.elim,fun _ h=>h,fun _ h=>h.elim⟩
 | i+1,x :: l,S,xs,⟨c,ys,F,S',e,hc,he,hl,h1,h2,h3⟩=>by
  obtain ⟨S1,S2,a1,a2,a3,a4,a5⟩:=EL.split i hl
  have e1:xs.take ((i+1) * sz)=c ++ ys.take (i * sz):=by
   rw [e,List.take_append,hc,List.take_of_length_le (by rw [hc,Nat.succ_mul];exact Nat.le_add_left _ _)]
   rw [show (i+1) * sz - sz=i * sz by rw [Nat.succ_mul,Nat.add_sub_cancel]]
  have e2:xs.drop ((i+1) * sz)=ys.drop (i * sz):=by
   rw [e,List.drop_append,hc,List.drop_of_length_le (by rw [hc,Nat.succ_mul];exact Nat.le_add_left _ _),List.nil_append]
   rw [show (i+1) * sz - sz=i * sz by rw [Nat.succ_mul,Nat.add_sub_cancel]]
  refine ⟨fun b=>F b∨S1 b,S2,?_,?_,fun b h=>h.elim (h1 b) fun h=>h2 b (a3 b h),fun b h=>h2 b (a4 b h),fun b h h'=>h.elim (fun h=>h3 b h (a4 b h')) fun h=>a5 b h h'⟩
  ·rw [e1]
   exact ⟨c,ys.take (i * sz),F,S1,rfl,hc,he,a1,fun b h=>.inl h,fun b h=>.inr h,fun b h h'=>h3 b h (a3 b h')⟩
  ·rw [e2]
   exact a2
/-- From elements by number. -/
theorem EL.Od:∀ (l:List α) {S:Nat→Prop} {xs:List Value} (cs:Nat→List Value) (fs:Nat→Nat→Prop),xs.length=l.length * sz →
  (∀ i x,l[i]?=some x→E w (cs i) x (fs i)∧(cs i).length=sz∧∀ j u,(cs i)[j]?=some u→xs[i * sz+j]?=some u)→(∀ i b,i < l.length→fs i b→S b)→(∀ i j b,i < l.length→j < l.length→i≠j→fs i b→¬ fs j b)→EL sz E w l S xs
 | [],S,xs,cs,fs,hl,_,_,_=>by
  show xs=[]
  exact List.length_eq_zero_iff.1 (by simpa using hl)
 | x :: l,S,xs,cs,fs,hl,he,hs,hd=>by
  obtain ⟨e0,e1,e2⟩:=he 0 x rfl
  have hxl:sz≤xs.length:=by rw [hl,List.length_cons,Nat.succ_mul];exact Nat.le_add_left _ _
  have ec:xs.take sz=cs 0:=by
   apply List.ext_getElem?
   intro j
   by_cases hj:j < sz
   ·rw [List.getElem?_take_of_lt hj]
    have:=e2 j (cs 0)[j] (aL (by omega))
    rw [Nat.zero_mul,Nat.zero_add] at this
    rw [this,aL]
   ·rw [List.getElem?_eq_none (by rw [List.length_take];omega),List.getElem?_eq_none (by omega)]
  refine ⟨cs 0,xs.drop sz,fs 0,fun b=>∃ i,i < l.length∧fs (i+1) b,by rw [← ec,List.take_append_drop],e1,e0,?_,fun b h=>hs 0 b (by simp) h,?_,?_⟩
  ·refine EL.Od l (fun i=>cs (i+1)) (fun i=>fs (i+1)) ?_ (fun i y hy=>?_) (fun i b hi h=>⟨i,hi,h⟩) (fun i j b hi hj hne=>hd (i+1) (j+1) b (by simpa using hi) (by simpa using hj) (by omega))
   ·rw [List.length_drop,hl,List.length_cons,Nat.succ_mul,Nat.add_sub_cancel]
   ·obtain ⟨f0,f1,f2⟩:=he (i+1) y (by simpa using hy)
    refine ⟨f0,f1,fun j u hu=>?_⟩
    have:=f2 j u hu
    rw [List.getElem?_drop]
    rw [Nat.succ_mul] at this
    rw [show sz+(i * sz+j)=i * sz+sz+j by omega]
    exact this
  ·rintro b ⟨i,hi,h⟩
   exact hs (i+1) b (by simpa using hi) h
  ·rintro b h ⟨i,hi,h'⟩
   exact hd 0 (i+1) b (by simp) (by simpa using hi) (by omega) h h'
/-- afj to elements by number. -/
theorem EL.idx:∀ {l:List α} {S:Nat→Prop} {xs:List Value},EL sz E w l S xs→∃ (cs:Nat→List Value) (fs:Nat→Nat→Prop),
  (∀ i x,l[i]?=some x→E w (cs i) x (fs i)∧(cs i).length=sz∧∀ j u,(cs i)[j]?=some u→xs[i * sz+j]?=some u)∧(∀ i b,i < l.length→fs i b→S b)∧(∀ i j b,i < l.length→j < l.length→i≠j→fs i b→¬ fs j b)
 | [],_,_,_=>⟨fun _=>[],fun _ _=>False,by simp,by simp,by simp⟩
 | x :: l,S,xs,⟨c,ys,F,S',e,hc,he,hl,h1,h2,h3⟩=>by
  obtain ⟨cs,fs,a1,a2,a3⟩:=EL.idx hl
  refine ⟨fun i=>match i with | 0=>c | i+1=>cs i,fun i=>match i with | 0=>F | i+1=>fs i,?_,?_,?_⟩
  ·intro i y hy
   cases i with
   | zero =>
    cases (by simpa using hy:x=y)
    refine ⟨he,hc,fun j u hu=>?_⟩
    have hj:j < c.length:=(gs1 hu).1
    rw [e,Nat.zero_mul,Nat.zero_add,List.getElem?_append_left hj]
    exact hu
   | succ i =>
    obtain ⟨f0,f1,f2⟩:=a1 i y (by simpa using hy)
    refine ⟨f0,f1,fun j u hu=>?_⟩
    have:=f2 j u hu
    rw [e,Nat.succ_mul,List.getElem?_append_right (by omega),hc,show i * sz+sz+j - sz=i * sz+j by omega]
    exact this
  ·intro i b hi h
   cases i with
   | zero=>exact h1 b h
   | succ i=>exact h2 b (a2 i b (by simpa using hi) h)
  ·intro i j b hi hj hne h h'
   cases i with
   | zero =>
    cases j with
    | zero=>exact hne rfl
    | succ j=>exact h3 b h (a2 j b (by simpa using hj) h')
   | succ i =>
    cases j with
    | zero=>exact h3 b h' (a2 i b (by simpa using hi) h)
    | succ j=>exact a3 i j b (by simpa using hi) (by simpa using hj) (fun e=>hne (by rw [e])) h h'
variable {t : TypeId} {S : Nat → Prop} {v : Value} {l : List α}
/-- Out of a list of the call's own: its cells, and what they lead to, which is not its block. -/
theorem Ow.el (h:Ow t sz E w S v l):(v=.slice none 0 0∧l=[])∨∃ (g cap:Nat) (cur:Array Value),v=.slice (some ⟨g,0,none⟩) l.length cap∧w.heap[g]?=some (.cells cur t (0,0))∧l.length≤cap∧cap≤maxLen∧cur.size=cap * sz∧S g∧EL sz E w l (fun b=>S b∧b≠g) (cur.toList.take (l.length * sz)):=by
 rcases h with h | ⟨g,cap,cur,cs,fs,hv,hh,h1,h2,h3,h4,h5,h6,h7⟩
 ·exact .inl h
 ·have hle:l.length * sz≤cap * sz:=Nat.mul_le_mul_right _ h1
  refine .inr ⟨g,cap,cur,hv,hh,h1,h2,h3,h4,EL.Od l cs fs ?_ (fun i x hx=>?_) h6 h7⟩
  ·rw [List.length_take,show cur.toList.length=cap * sz from h3];omega
  ·obtain ⟨f0,f1,f2⟩:=h5 i x hx
   refine ⟨f0,f1,fun j u hu=>?_⟩
   have hj:j < sz:=by rw [← f1];exact (gs1 hu).1
   have hi:i < l.length:=(gs1 hx).1
   have hm:(i+1) * sz≤l.length * sz:=Nat.mul_le_mul_right _ hi
   rw [Nat.succ_mul] at hm
   rw [List.getElem?_take_of_lt (by omega),Array.getElem?_toList]
   exact f2 j u hu
/-- Into a block of the call's own. -/
theorem EL.ow {g cap:Nat} {cur:Array Value} (h:EL sz E w l S (cur.toList.take (l.length * sz))) (hh:w.heap[g]?=some (.cells cur t (0,0))) (h1:l.length≤cap) (h2:cap≤maxLen) (h3:cur.size=cap * sz) (hg:¬ S g):Ow t sz E w (fun b=>S b∨b=g) (.slice (some ⟨g,0,none⟩) l.length cap) l:=by
 obtain ⟨cs,fs,a1,a2,a3⟩:=h.idx
 refine .inr ⟨g,cap,cur,cs,fs,rfl,hh,h1,h2,h3,.inr rfl,fun i x hx=>?_,fun i b hi hb=>⟨.inl (a2 i b hi hb),fun e=>hg (e ▸ a2 i b hi hb)⟩,a3⟩
 obtain ⟨f0,f1,f2⟩:=a1 i x hx
 refine ⟨f0,f1,fun j u hu=>?_⟩
 have hj:j < sz:=by rw [← f1];exact (gs1 hu).1
 have hi:i < l.length:=(gs1 hx).1
 have hm:(i+1) * sz≤l.length * sz:=Nat.mul_le_mul_right _ hi
 rw [Nat.succ_mul] at hm
 have:=f2 j u hu
 rw [List.getElem?_take_of_lt (by omega),Array.getElem?_toList] at this
 exact this
end
/- What afk of package laws answers. -/
theorem Oe (v u:Value) (l:List Int) (w:World) (hv:Bs w v l) (hu:Bs w u l) :
  Calls Tryz.prog 58 #[v,u] w fun e w'=>e=.returned (.bool true)∧Below w.heap.size w w':=by
 have h1:=rA hv
 have h2:=rA hu
 go_enter Tryz.func58,Tryz.ntmps58
 go_wp2
 go_ret
 exact ⟨rfl,Below.refl _ _⟩
/- Many cells of one block that are set at once. -/
theorem Og (b k:Nat) (h:k≠b):∀ (vs:List Value) (o:Nat) (w:World),(w.setCells b o vs).heap[k]?=w.heap[k]?
 | [],_,_=>rfl
 | v :: vs,o,w=>(Og b k h vs (o+1) (w.setCell ⟨b,o,none⟩ v)).trans (Below.heap_setCell w ⟨b,o,none⟩ v k h)
theorem Oh (b:Nat):∀ (vs:List Value) (o:Nat) (w:World),(w.setCells b o vs).heap.size=w.heap.size
 | [],_,_=>rfl
 | v :: vs,o,w=>(Oh b vs (o+1) (w.setCell ⟨b,o,none⟩ v)).trans bf
theorem nk {w:World} {g:Nat} {t:TypeId} {cs:Array Value} (h:w.heap[g]?=some (.cells cs t (0,0))):w.rangeAt g 0 cs.toList:=fun j v hv=>by
 rw [cell_of_row w g _ cs t (0,0) h]
 simpa using hv
theorem Il (g:Nat):∀ (vs:List Value) (o:Nat) (w:World),put w g o vs=w.setCells g o vs
 | [],_,_=>rfl
 | v :: vs,o,w=>Il g vs (o+1) (w.setCell ⟨g,o,none⟩ v)
/- Rows that slices.DeleteFunc cuts: what is kept stands ahead, what is not yet looked at behind. -/
/-- The row at block g: the elements kept lie ahead, those of xs from the j-th on in their places. -/
def bP {α:Type} (t:TypeId) (sz:Nat) (enc:α→List Value) (w:World) (g cap:Nat) (kept xs:List α) (j:Nat):Prop :=
 ∃ cur,w.heap[g]?=some (.cells cur t (0,0))∧cur.size=cap * sz∧(∀ i x,kept[i]?=some x→∀ k u,(enc x)[k]?=some u→cur[i * sz+k]?=some u)∧∀ i x,j≤i→xs[i]?=some x→∀ k u,(enc x)[k]?=some u→cur[i * sz+k]?=some u
section
variable {α : Type} {t : TypeId} {sz : Nat} {enc : α → List Value} {w w' : World} {g cap j : Nat} {kept xs : List α} {x : α}
theorem bP.same (h:bP t sz enc w g cap kept xs j) (hw:w'.heap[g]?=w.heap[g]?):bP t sz enc w' g cap kept xs j :=
 let ⟨cur,h1,r⟩:=h;⟨cur,hw.trans h1,r⟩
theorem bP.lt (h:bP t sz enc w g cap kept xs j):g < w.heap.size:=let ⟨_,h1,_⟩:=h;lt_of_heap h1
theorem bP.fz (h:bP t sz enc w g cap kept xs j) (o:Nat):w.frozen? ⟨g,o,none⟩=false:=let ⟨_,h1,_⟩:=h;frozen_of_row w g o _ _ h1
theorem bP.cell (h:bP t sz enc w g cap kept xs j) (hx:xs[j]?=some x) {k:Nat} {u:Value} (hu:(enc x)[k]?=some u):w.cell? ⟨g,j * sz+k,none⟩=some u :=
 let ⟨cur,h1,_,_,h4⟩:=h;(cell_of_row w g _ cur t (0,0) h1).trans (h4 j x (Nat.le_refl _) hx k u hu)
/-- There is a cell wherever the row reaches. -/
theorem bP.some (h:bP t sz enc w g cap kept xs j) {o:Nat} (ho:o < cap * sz):∃ u,w.cell? ⟨g,o,none⟩=some u:=by
 obtain ⟨cur,h1,h2,-⟩:=h
 rw [cell_of_row w g o cur t (0,0) h1]
 exact ⟨cur[o]'(by omega),Array.getElem?_eq_getElem (by omega)⟩
theorem bP.skip (h:bP t sz enc w g cap kept xs j):bP t sz enc w g cap kept xs (j+1) :=
 let ⟨cur,h1,h2,h3,h4⟩:=h;⟨cur,h1,h2,h3,fun i x hi=>h4 i x (by omega)⟩
theorem bP.keep (h:bP t sz enc w g cap kept xs j) (hk:kept.length < j) (hj:j < cap) (hs:∀ x,(enc x).length=sz) (x:α):bP t sz enc (w.setCells g (kept.length * sz) (enc x)) g cap (kept ++ [x]) xs (j+1):=by
 obtain ⟨cur,h1,h2,h3,h4⟩:=h
 have hroom:kept.length * sz+sz≤j * sz:=by
  have:=Nat.mul_le_mul_right sz (show kept.length+1≤j by omega)
  rwa [Nat.add_mul,Nat.one_mul] at this
 have hjc:j * sz≤cap * sz:=Nat.mul_le_mul_right sz (by omega)
 obtain ⟨cur',e1,e2,e3,e4,-⟩:=Ai g t (enc x) w (kept.length * sz) cur h1 (by rw [hs];omega)
 rw [Il] at e1
 rw [hs] at e4
 refine ⟨cur',e1,by omega,fun i y hy k u hu=>?_,fun i y hi hy k u hu=>?_⟩
 ·have hks:k < sz:=by have:=(gs1 hu).1;rw [hs] at this;exact this
  by_cases hl:i < kept.length
  ·rw [List.getElem?_append_left hl] at hy
   have:=Nat.mul_le_mul_right sz (show i+1≤kept.length by omega)
   rw [Nat.add_mul,Nat.one_mul] at this
   rw [e4 _ (.inl (by omega))]
   exact h3 i y hy k u hu
  ·have hi:i=kept.length:=by have:=(gs1 hy).1;simp at this;omega
   subst hi
   rw [List.getElem?_append_right (Nat.le_refl _),Nat.sub_self] at hy
   cases hy
   exact e3 k u hu
 ·have:=Nat.mul_le_mul_right sz (show j≤i by omega)
  rw [e4 _ (.inr (by omega))]
  exact h4 i y (by omega) hy k u hu
/-- The tail is cleared: what is kept stays. -/
theorem bP.cleared (h:bP t sz enc w g cap kept xs j) (hs:∀ x,(enc x).length=sz) {zs:List Value} (hz:kept.length * sz+zs.length≤cap * sz):bP t sz enc (w.setCells g (kept.length * sz) zs) g cap kept [] j:=by
 obtain ⟨cur,h1,h2,h3,h4⟩:=h
 obtain ⟨cur',e1,e2,e3,e4,-⟩:=Ai g t zs w (kept.length * sz) cur h1 (by omega)
 rw [Il] at e1
 refine ⟨cur',e1,by omega,fun i y hy k u hu=>?_,fun i y hi hy=>by simp at hy⟩
 have hks:k < sz:=by have:=(gs1 hu).1;rw [hs] at this;exact this
 have:=Nat.mul_le_mul_right sz (show i+1≤kept.length from (gs1 hy).1)
 rw [Nat.add_mul,Nat.one_mul] at this
 rw [e4 _ (.inl (by omega))]
 exact h3 i y hy k u hu
theorem bP.all (h:bP t sz enc w g cap [] xs 0):bP t sz enc w g cap xs [] 0 :=
 let ⟨cur,h1,h2,_,h4⟩:=h;⟨cur,h1,h2,fun i x hx=>h4 i x (Nat.zero_le _) hx,fun i x _ hx=>by simp at hx⟩
theorem bP.at (h:bP t sz enc w g cap [] xs 0) {i:Nat} (hx:xs[i]?=Option.some x) {k:Nat} {u:Value} (hu:(enc x)[k]?=Option.some u):w.cell? ⟨g,i * sz+k,none⟩=Option.some u :=
 let ⟨cur,h1,_,_,h4⟩:=h;(cell_of_row w g _ cur t (0,0) h1).trans (h4 i x (Nat.zero_le _) hx k u hu)
theorem bP.Oi (h:bP t sz enc w g cap kept xs j) {i:Nat} (hx:kept[i]?=Option.some x) {k:Nat} {u:Value} (hu:(enc x)[k]?=Option.some u):w.cell? ⟨g,i * sz+k,none⟩=Option.some u :=
 let ⟨cur,h1,_,h3,_⟩:=h;(cell_of_row w g _ cur t (0,0) h1).trans (h3 i x hx k u hu)
theorem bP.first (h:bP t sz enc w g cap [] xs 0) (j:Nat):bP t sz enc w g cap (xs.take j) xs (j+1) :=
 let ⟨cur,h1,h2,_,h4⟩:=h;⟨cur,h1,h2,fun i x hx=>h4 i x (Nat.zero_le _) (by
  have hi:i < j:=by have:=(gs1 hx).1;rw [List.length_take] at this;omega
  rwa [List.getElem?_take_of_lt hi] at hx),fun i x _=>h4 i x (Nat.zero_le _)⟩
theorem xC {w1 w2:World} (h:w.grownBy w1 (Option.some g)) (hb:Below w1.heap.size w1 w2):w.grownBy w2 (Option.some g):=⟨hb.os.trans h.os,hb.tape.trans h.tape,hb.output.trans h.output,Nat.le_trans h.size hb.size,fun k hk hne=>(hb.block k (Nat.lt_of_lt_of_le hk h.size)).trans (h.block k hk hne)⟩
theorem Et (b:Nat):∀ (vs:List Value) (o:Nat) (w:World),(w.setCells b o vs).os=w.os∧(w.setCells b o vs).tape=w.tape∧(w.setCells b o vs).output=w.output
 | [],_,_=>⟨rfl,rfl,rfl⟩
 | v :: vs,o,w=>let ⟨h1,h2,h3⟩:=Et b vs (o+1) (w.setCell ⟨b,o,none⟩ v);⟨h1.trans rfl,h2.trans rfl,h3.trans rfl⟩
theorem Eu {w1:World} (h:w.grownBy w1 (Option.some g)) (o:Nat) (vs:List Value):w.grownBy (w1.setCells g o vs) (Option.some g) :=
 ⟨(Et g vs o w1).1.trans h.os,(Et g vs o w1).2.1.trans h.tape,(Et g vs o w1).2.2.trans h.output,by rw [Oh];exact h.size,fun k hk hne=>(Og g k (fun e=>hne (by rw [e])) vs o w1).trans (h.block k hk hne)⟩
theorem Oj {P:Program} (w:World) (t e ty:TypeId) (z:Value) (ht:P.underlying t=Option.some (.slice e)) (hv:∀ w,(zeroValue e).run P w=.ok z w) (hz0:0 < z.cells.size) (h1:∀ i:Nat,i < z.cells.size→z.cells[i]!.oneCell'=true) (b o n c:Nat) (hn:0 < n)
  (hc:∀ j,j < n * z.cells.size→(w.cell? ⟨b,o+j,none⟩).isSome=true) (hf:∀ j,w.frozen? ⟨b,o+j,none⟩=false) :
  ∃ zs:List Value,zs.length=n * z.cells.size∧(Builtin.clear_ #[t] ty #[.slice (Option.some ⟨b,o,none⟩) n c]).run P w=.ok (.tuple #[]) (w.setCells b o zs):=by
 refine ⟨(Builtin.zeroCells z.cells n).toList,by simp [Builtin.zeroCells],?_⟩
 have hst:=run_storeCells_cells (P:=P) b o (Builtin.zeroCells z.cells n).toList 0 w (by simpa [Builtin.zeroCells] using hc) (by intro j _;first | (simp;done) | simpa using hf j) (by
  intro v hv'
  simp only [Builtin.zeroCells,Array.toList_map,List.mem_map] at hv'
  obtain ⟨i,-,rfl⟩:=hv'
  exact h1 _ (Nat.mod_lt _ hz0))
 simp only [Nat.add_zero] at hst
 obtain ⟨m,rfl⟩:∃ m,n=m+1:=⟨n - 1,by omega⟩
 simp [Builtin.clear_,run_underlying ht,hv,hst]
theorem Bb {p:α→Bool} (hx:xs[j]?=some x):(xs.take (j+1)).filter p=(xs.take j).filter p ++ (if p x then [x] else []):=by
 rw [List.take_add_one,hx,List.filter_append]
 cases h:p x <;> simp [h]
/-- Up to the first that goes all are kept. -/
theorem Ol {p:α→Bool} {k:Nat} (h:xs.findIdx? p=some k):(xs.take k).filter (fun x=>!p x)=xs.take k∧(xs.take (k+1)).filter (fun x=>!p x)=xs.take k∧k < xs.length:=by
 obtain ⟨h1,h2,h3⟩:=List.findIdx?_eq_some_iff_getElem.1 h
 have e:(xs.take k).filter (fun x=>!p x)=xs.take k:=by
  rw [List.filter_eq_self]
  intro y hy
  obtain ⟨i,hi,rfl⟩:=List.getElem_of_mem hy
  rw [List.length_take] at hi
  have:=h3 i (by omega)
  rw [List.getElem_take]
  simpa using this
 refine ⟨e,?_,h1⟩
 rw [Bb (aL h1),e,h2]
 simp
end
/- What joined of package impl does. -/
theorem Wn (v u:Value) (l m:List Int) (w:World) (hv:Bs w v l) (hu:Bs w u m) (hl:l.length≤4000000) (hm:m.length≤4000000) :
  Calls Tryz.prog 65 #[v,u] w fun e w'=>∃ r,e=.returned r∧iq w' w.heap.size r (l ++ m)∧Below w.heap.size w w':=by
 have HV:Hid (Bs w v l):=hv
 have HU:Hid (Bs w u m):=hu
 obtain ⟨ho,a,cap,rfl,-⟩:=hv
 obtain ⟨ho',a',cap',rfl,-⟩:=hu
 obtain ⟨i0,hi,hz0,hz1,hz2⟩:=info_parts info5
 go_enter Tryz.func65,Tryz.ntmps65
 go_wp2_with (at_make;refine wpList_make_full _ rfl _ _ 22 rfl w.heap.size 5 i0 (.int .u8 0) 1 Tryz.underlying22 hi hz0 hz1 _ _ _ _ (l.length+m.length) rfl rfl (by omega) (by omega) (by rw [hz2];omega) (by unfold maxLen;omega) (Nat.le_refl _) ?_)
 intro w1 hown hgrow
 have hB1:=(Below.refl w.heap.size w).grown hgrow (Nat.le_refl _) (by simp)
 have HR1:Hid (w1.heap[w.heap.size]?=some (.cells (vals (List.replicate (l.length+m.length) 0)).toArray 5 (0,0))):=by
  have:=UQ hown
  simpa [Hid,vals] using this
 clear hown hgrow
 go_wp2_with (refine GL rfl (.tmp 12) (.tmp 13) 22 22 rfl Tryz.underlying22 GN _ _ _ rfl _ l rfl (HV.out.below hB1) l.length (Nat.min_eq_left (Nat.le_add_right _ _)).symm w.heap.size 0 _ HR1.out (fun _=>rfl) (by simp) w.heap.size w hB1 (Nat.le_refl _) ?_)
 intro w2 HR2 hB2
 have hlen:(splice (List.replicate (l.length+m.length) (0:Int)) 0 l).length=l.length+m.length:=by rw [length_splice _ _ _ (by simp)];simp
 have HL:Hid ((splice (List.replicate (l.length+m.length) (0:Int)) 0 l).length=l.length+m.length):=hlen
 clear hlen
 have HE:Hid (splice (splice (List.replicate (l.length+m.length) (0:Int)) 0 l) l.length m=l ++ m):=UY _ _ _ (by simp)
 by_cases hm0:m=[]
 ·subst hm0
  go_wp2_with (refine GL rfl (.tmp 18) (.tmp 19) 22 22 rfl Tryz.underlying22 GN _ _ _ rfl _ [] rfl (HU.out.below hB2) 0 (Nat.min_eq_left (Nat.zero_le _)).symm w.heap.size l.length _ HR2.out (fun h=>absurd h (by omega)) (by rw [HL.out];omega) w.heap.size w hB2 (Nat.le_refl _) ?_)
  intro w3 HR3 hB3
  have HR4:Hid (w3.heap[w.heap.size]?=some (.cells (vals (l ++ [])).toArray 5 (0,0))):=by
   rw [← HE.out];simpa using HR3
  clear HR3
  go_wp2
  go_ret
  have:=MP (Ag ho ho') (by simp [maxLen];omega) HR4.out
  exact ⟨_,rfl,⟨_,Nat.le_refl _,by simpa using this⟩,hB3⟩
 ·have hm1:0 < m.length:=List.length_pos_iff.2 hm0
  go_wp2_with (refine GL rfl (.tmp 18) (.tmp 19) 22 22 rfl Tryz.underlying22 GN _ _ _ rfl _ m rfl (HU.out.below hB2) m.length (Nat.min_eq_left (by omega)).symm w.heap.size l.length _ HR2.out (fun _=>rfl) (by rw [HL.out];omega) w.heap.size w hB2 (Nat.le_refl _) ?_)
  intro w3 HR3 hB3
  have HR4:Hid (w3.heap[w.heap.size]?=some (.cells (vals (l ++ m)).toArray 5 (0,0))):=by
   rw [← HE.out];exact HR3
  clear HR3
  go_wp2
  go_ret
  have:=MP (Ag ho ho') (by simp [maxLen];omega) HR4.out
  exact ⟨_,rfl,⟨_,Nat.le_refl _,by simpa using this⟩,hB3⟩
theorem Im (v u:Value) (l m:List Int) (w:World) (hv:Bs w v l) (hu:Bs w u m) (hl:l.length≤4000000) (hm:m.length≤4000000) :
  Calls Tryz.prog 65 #[v,u] w fun e w'=>∃ r,e=.returned r∧Row w' w.heap.size w'.heap.size r (l ++ m)∧Below w.heap.size w w' :=
 (Wn v u l m w hv hu hl hm).mono fun _ _ ⟨u,h1,h2,h3⟩=>⟨u,h1,h2.MQ,h3⟩
/- What slices.IndexFunc and slices.ContainsFunc do of bytes, whatever function is handed in. -/
open Go.RowKit Go.Shelf
theorem Wo (g:Nat) (lb:Array Value) (p:Int→Bool) (v:Value) (l:List Int) (w:World) (hv:Bs w v l) (eg:∀ args w,(callFunc g args).run Tryz.prog w=.ok (.enter g args) w)
  (hp:∀ x,0≤x→x≤255→Calls Tryz.prog g (#[.int .u8 x] ++ lb) w fun e w'=>e=.returned (.bool (p x))∧w'=w) :
  Calls Tryz.prog 107 #[v,.func (.func g) #[] lb] w fun e w'=>e=.returned (.int .i64 (bC p l))∧w'=w:=by
 obtain ⟨ho,a,cap,rfl,hlc,hcm,hnil,hcells⟩:=hv
 unfold maxLen at hcm
 go_enter Tryz.func107,Tryz.ntmps107
 go_wp2
 go_loop [5,8] (fun _ i=>∃ k:Nat,k≤l.length∧i=.int .i64 k∧Hid (∀ j,j < k→p (l.getD j 0)=false)) (fun _ i=>l.length - (intOf i).toNat)
 case atStart=>exact ⟨0,Nat.zero_le _,rfl,fun j hj=>absurd hj (Nat.not_lt_zero _)⟩
 case round =>
  obtain ⟨k,hk,rfl,hA⟩:=hrel
  by_cases hlt:k < l.length
  ·obtain ⟨b,off,rfl,hlb,hc⟩:=hcells (by omega)
   have hx:=hc k hlt
   have hbx:=Ah ho k
   generalize hy:l.getD k 0=x at hx hbx
   have HX:Hid (l.getD k 0=x):=hy
   clear hy hc hcells
   have hcall:=hp x hbx.1 hbx.2
   clear hp
   cases hq:p x with
   | true =>
    rw [hq] at hcall
    go_wp2_with (go_at_fn g;refine hcall.mono ?_;rintro e w' ⟨rfl,rfl⟩)
    go_ret
    exact ⟨kG (U0 hlt (by rw [HX.out];exact hq) hA.out).symm,rfl⟩
   | false =>
    rw [hq] at hcall
    go_wp2_with (go_at_fn g;refine hcall.mono ?_;rintro e w' ⟨rfl,rfl⟩)
    go_round
    case rel =>
     refine ⟨k+1,by omega,by go_num,(show Hid _ from fun j hj=>?_)⟩
     by_cases e:j=k
     ·subst e;rw [HX.out];exact hq
     ·exact hA.out j (by omega)
    case measure=>simp [intOf];omega
  ·obtain rfl:k=l.length:=by omega
   go_wp2
   go_ret
   exact ⟨kG (U1 hA.out).symm,rfl⟩
theorem Wp (g:Nat) (lb:Array Value) (p:Int→Bool) (v:Value) (l:List Int) (w:World) (hv:Bs w v l) (eg:∀ args w,(callFunc g args).run Tryz.prog w=.ok (.enter g args) w)
  (hp:∀ x,0≤x→x≤255→Calls Tryz.prog g (#[.int .u8 x] ++ lb) w fun e w'=>e=.returned (.bool (p x))∧w'=w) :
  Calls Tryz.prog 95 #[v,.func (.func g) #[] lb] w fun e w'=>e=.returned (.bool (l.any p))∧w'=w:=by
 have hi:=Wo g lb p v l w hv eg hp
 have HF:Hid (l.any p=decide (0≤bC p l)):=yO p l
 generalize bC p l=i at hi HF
 obtain ⟨ho,a,cap,rfl,-⟩:=hv
 clear hp
 go_enter Tryz.func95,Tryz.ntmps95
 go_wp2_with (go_at_call 107;refine hi.mono ?_;rintro e w' ⟨rfl,rfl⟩)
 go_ret
 exact ⟨aP HF.out,rfl⟩
/- What within, afl, afm, afn, afo of package impl do. -/
open Go.RowKit Go.Shelf
theorem Wq {l:List Int} (h:dU l=true):l.length≤30:=by unfold dU at h;simp at h;exact h.1
theorem jy (n lo hi:Int) (w:World) :
  Calls Tryz.prog 22 #[.int .i64 n,.int .i64 lo,.int .i64 hi] w fun e w'=>e=.returned (.bool (aM n lo hi))∧w'=w:=by
 by_cases h0:lo≤n
 ·by_cases h1:n≤hi
  ·go_enter Tryz.func22,Tryz.ntmps22
   go_wp2
   go_ret
   exact ⟨aP (by simp [aM,h0,h1]),rfl⟩
  ·go_enter Tryz.func22,Tryz.ntmps22
   go_wp2
   go_ret
   exact ⟨aP (by simp [aM,h1]),rfl⟩
 ·go_enter Tryz.func22,Tryz.ntmps22
  go_wp2
  go_ret
  exact ⟨aP (by simp [aM];omega),rfl⟩
theorem Ws (x lo hi:Int) (b1 b2:Nat) (w:World) (c1:w.cell? ⟨b1,0,none⟩=some (.int .u8 lo)) (c2:w.cell? ⟨b2,0,none⟩=some (.int .u8 hi)) :
  Calls Tryz.prog 96 #[.int .u8 x,.pointer (some ⟨b1,0,none⟩),.pointer (some ⟨b2,0,none⟩)] w fun e w'=>e=.returned (.bool (decide (x < lo) || decide (hi < x)))∧w'=w:=by
 by_cases h0:x < lo
 ·go_enter Tryz.func96,Tryz.ntmps96
  go_wp2
  go_ret
  exact ⟨aP (by simp [h0]),rfl⟩
 ·go_enter Tryz.func96,Tryz.ntmps96
  go_wp2
  go_ret
  exact ⟨aP (by simp;omega),rfl⟩
theorem Wt (lo hi:Int) (l:List Int):(!l.any fun x=>decide (x < lo) || decide (hi < x))=allIn lo hi l:=by
 induction l with
 | nil=>rfl
 | cons x l ih =>
  simp only [List.any_cons,allIn,List.all_cons,Bool.not_or]
  rw [ih]
  congr 1
  by_cases h0:x < lo <;> by_cases h1:hi < x <;> simp [h0,h1] <;> omega
theorem Om (v:Value) (l:List Int) (lo hi:Int) (w:World) (hv:Bs w v l) :
  Calls Tryz.prog 64 #[v,.int .u8 lo,.int .u8 hi] w fun e w'=>e=.returned (.bool (allIn lo hi l))∧Below w.heap.size w w':=by
 have bx:=iX w (.cells #[.int .u8 lo] 5) (.cells #[.int .u8 hi] 5)
 have H:Hid (Calls Tryz.prog 95 #[v,.func (.func 96) #[] #[.pointer (some ⟨w.heap.size,0,none⟩),.pointer (some ⟨w.heap.size+1,0,none⟩)]] ((w.alloc (.cells #[.int .u8 lo] 5)).alloc (.cells #[.int .u8 hi] 5)) fun e w'=>e=.returned (.bool (l.any fun x=>decide (x < lo) || decide (hi < x)))∧w'=(w.alloc (.cells #[.int .u8 lo] 5)).alloc (.cells #[.int .u8 hi] 5)):=by
  refine Wp _ _ _ v l _ (hv.below bx.2.2) (fun args w=>by kernel_rfl) fun x _ _=>Ws x lo hi _ _ _ ?_ ?_
  ·rw [cell_of_row _ _ 0 _ _ (0,0) bx.1];rfl
  ·rw [cell_of_row _ _ 0 _ _ (0,0) bx.2.1];rfl
 have HA:=Wt lo hi l
 have HB:Hid (Below w.heap.size w ((w.alloc (.cells #[.int .u8 lo] 5)).alloc (.cells #[.int .u8 hi] 5))):=bx.2.2
 generalize (l.any fun x=>decide (x < lo) || decide (hi < x))=X at H HA
 have Wu:Hid ((!X)=allIn lo hi l):=HA
 clear HA bx
 obtain ⟨a,n,c,rfl⟩:=hv.aG
 clear hv
 go_enter Tryz.func64,Tryz.ntmps64
 go_wp2_with (go_at_call 95;refine H.out.mono ?_;rintro e w' ⟨rfl,rfl⟩)
 go_ret
 exact ⟨aP Wu.out.symm,HB.out⟩
theorem Oo (v:Value) (l:List Int) (w:World) (hv:Bs w v l) :
  Calls Tryz.prog 53 #[v] w fun e w'=>e=.returned (.bool (bG l))∧Below w.heap.size w w':=by
 have H:Hid (Bs w v l):=hv
 obtain ⟨ho,a,cap,rfl,hlc,hcm,-⟩:=hv
 unfold maxLen at hcm
 by_cases h0:1≤l.length∧l.length≤6
 ·have e1:aM (l.length:Int) 1 6=true:=by simp [aM];omega
  have e2:Hid (bG l=allIn 97 122 l):=by simp [Hid,bG,h0.1,h0.2]
  have hw:=jy (l.length:Int) 1 6
  rw [e1] at hw
  clear e1
  go_enter Tryz.func53,Tryz.ntmps53
  go_wp2_with (first | (go_at_call 22;refine (hw _).mono ?_;rintro e w' ⟨rfl,rfl⟩) | (go_at_call 64;refine (Om _ l 97 122 _ H.out).mono ?_;rintro e w1 ⟨rfl,B⟩))
  go_ret
  exact ⟨aP e2.out,B⟩
 ·have e1:aM (l.length:Int) 1 6=false:=by simp [aM];omega
  have e2:Hid (bG l=false):=by
   simp only [Hid,bG]
   by_cases h1:1≤l.length
   ·simp [show ¬ l.length≤6 by omega]
   ·simp [h1]
  have hw:=jy (l.length:Int) 1 6
  rw [e1] at hw
  clear e1
  go_enter Tryz.func53,Tryz.ntmps53
  go_wp2_with (first | (go_at_call 22;refine (hw _).mono ?_;rintro e w' ⟨rfl,rfl⟩))
  go_ret
  exact ⟨aP e2.out,Below.refl _ _⟩
theorem Oq (v:Value) (l:List Int) (w:World) (hv:Bs w v l) :
  Calls Tryz.prog 36 #[v] w fun e w'=>e=.returned (.bool (dU l))∧Below w.heap.size w w':=by
 have H:Hid (Bs w v l):=hv
 obtain ⟨ho,a,cap,rfl,hlc,hcm,-⟩:=hv
 unfold maxLen at hcm
 by_cases h0:l.length≤30
 ·have e2:Hid (dU l=allIn 32 126 l):=by simp [Hid,dU,h0]
  go_enter Tryz.func36,Tryz.ntmps36
  go_wp2_with (first | (go_at_call 64;refine (Om _ l 32 126 _ H.out).mono ?_;rintro e w1 ⟨rfl,B⟩))
  go_ret
  exact ⟨aP e2.out,B⟩
 ·have e2:Hid (dU l=false):=by simp [Hid,dU,h0]
  go_enter Tryz.func36,Tryz.ntmps36
  go_wp2
  go_ret
  exact ⟨aP e2.out,Below.refl _ _⟩
/- What afp of package spec does. -/
theorem qI (v:Value) (l:List Int) (w:World) (hv:Bs w v l) :
  Calls Tryz.prog 18 #[v] w fun e w'=>e=.returned (.bool (bG l))∧w'=w:=by
 obtain ⟨ho,a,cap,rfl,hlc,hcm,hnil,hcells⟩:=hv
 unfold maxLen at hcm
 by_cases h0:1≤l.length
 ·by_cases h1:l.length≤6
  ·have HN:Hid (bG l=allIn 97 122 l):=by simp [Hid,bG,h0,h1]
   obtain ⟨b,off,rfl,hlb,hc⟩:=hcells (by omega)
   go_enter Tryz.func18,Tryz.ntmps18
   go_wp2
   go_loop [3] (fun i=>∃ k:Nat,k≤l.length∧i=.int .i64 k∧Hid (∀ j,j < k→97≤l.getD j 0∧l.getD j 0≤122)) (fun i=>l.length - (intOf i).toNat)
   case atStart=>exact ⟨0,Nat.zero_le _,rfl,fun j hj=>absurd hj (Nat.not_lt_zero _)⟩
   case round =>
    obtain ⟨k,hk,rfl,hA⟩:=hrel
    by_cases hlt:k < l.length
    ·have hx:=hc k hlt
     have hbx:=Ah ho k
     have HY:Hid (l.getD k 0=l.getD k 0):=rfl
     generalize hy:l.getD k 0=x at hx hbx HY
     have HX:Hid (l.getD k 0=x):=hy
     clear hy HY hc
     by_cases c1:97≤x
     ·by_cases c2:x≤122
      ·go_wp2
       go_round
       case rel =>
        refine ⟨k+1,by omega,by go_num,(show Hid _ from fun j hj=>?_)⟩
        by_cases e:j=k
        ·subst e;rw [HX.out];exact ⟨c1,c2⟩
        ·exact hA.out j (by omega)
       case measure=>simp [intOf];omega
      ·go_wp2
       go_ret
       exact ⟨aP (a:=false) (by rw [HN.out,DK k hlt (by rw [HX.out];omega)]),rfl⟩
     ·go_wp2
      go_ret
      exact ⟨aP (a:=false) (by rw [HN.out,DK k hlt (by rw [HX.out];omega)]),rfl⟩
    ·obtain rfl:k=l.length:=by omega
     go_wp2
     go_ret
     exact ⟨aP (a:=true) (by rw [HN.out,MS hA.out]),rfl⟩
  ·have HN:Hid (bG l=false):=by simp [Hid,bG,h1]
   go_enter Tryz.func18,Tryz.ntmps18
   go_wp2
   go_ret
   exact ⟨aP (a:=false) HN.out,rfl⟩
 ·have HN:Hid (bG l=false):=by simp [Hid,bG,h0]
  go_enter Tryz.func18,Tryz.ntmps18
  go_wp2
  go_ret
  exact ⟨aP (a:=false) HN.out,rfl⟩
/- What afq of package spec does. -/
theorem pJ (v:Value) (l:List Int) (w:World) (hv:Bs w v l) :
  Calls Tryz.prog 21 #[v] w fun e w'=>e=.returned (.bool (dU l))∧w'=w:=by
 obtain ⟨ho,a,cap,rfl,hlc,hcm,hnil,hcells⟩:=hv
 unfold maxLen at hcm
 by_cases h0:l.length≤30
 ·by_cases h1:True
  ·have HN:Hid (dU l=allIn 32 126 l):=by simp [Hid,dU,h0]
   clear h1
   go_enter Tryz.func21,Tryz.ntmps21
   go_wp2
   go_loop [3] (fun i=>∃ k:Nat,k≤l.length∧i=.int .i64 k∧Hid (∀ j,j < k→32≤l.getD j 0∧l.getD j 0≤126)) (fun i=>l.length - (intOf i).toNat)
   case atStart=>exact ⟨0,Nat.zero_le _,rfl,fun j hj=>absurd hj (Nat.not_lt_zero _)⟩
   case round =>
    obtain ⟨k,hk,rfl,hA⟩:=hrel
    by_cases hlt:k < l.length
    ·obtain ⟨b,off,rfl,hlb,hc⟩:=hcells (by omega)
     have hx:=hc k hlt
     have hbx:=Ah ho k
     have HY:Hid (l.getD k 0=l.getD k 0):=rfl
     generalize hy:l.getD k 0=x at hx hbx HY
     have HX:Hid (l.getD k 0=x):=hy
     clear hy HY hc hcells
     by_cases c1:32≤x
     ·by_cases c2:x≤126
      ·go_wp2
       go_round
       case rel =>
        refine ⟨k+1,by omega,by go_num,(show Hid _ from fun j hj=>?_)⟩
        by_cases e:j=k
        ·subst e;rw [HX.out];exact ⟨c1,c2⟩
        ·exact hA.out j (by omega)
       case measure=>simp [intOf];omega
      ·go_wp2
       go_ret
       exact ⟨aP (a:=false) (by rw [HN.out,DK k hlt (by rw [HX.out];omega)]),rfl⟩
     ·go_wp2
      go_ret
      exact ⟨aP (a:=false) (by rw [HN.out,DK k hlt (by rw [HX.out];omega)]),rfl⟩
    ·obtain rfl:k=l.length:=by omega
     go_wp2
     go_ret
     exact ⟨aP (a:=true) (by rw [HN.out,MS hA.out]),rfl⟩
  ·exact absurd trivial h1
 ·have HN:Hid (dU l=false):=by simp [Hid,dU,h0]
  go_enter Tryz.func21,Tryz.ntmps21
  go_wp2
  go_ret
  exact ⟨aP (a:=false) HN.out,rfl⟩
end Go.Proofs.YtmglhdkeidhafaaGreat
