/- The proof's texts, part 2. -/
import Derived.Test.YtfabngnaejjcmaaGreatDoorT1
import Derived.Laws.BitsAllLaws
import Derived.Deep.RegionLaw
import Derived.Deep.MidRow
import Derived.Shelf.Abstract
import Derived.ProofKit
import Derived.OpenShut
import Derived.ShutString
import Derived.ChangeOld
namespace Go.Proofs.YtfabngnaejjcmaaGreatDoor
open Go.RowKit
set_option linter.unusedVariables false
set_option maxHeartbeats 1000000
set_option maxRecDepth 100000
/- The ai0 cursor of package spec: what ai1 and ai2 answer lies in its bounds; they write into the cursor alone. -/
/-- The cursor at block g: it holds the slice cv of the bytes L, a place in it, and some number; below ai3 size nothing has turned since w0. -/
def aS (w0 w:World) (g:Nat) (cv:Value) (L:List Int):Prop :=
 w0.heap.size<=g/\Below w0.heap.size w0 w/\Bs w0 cv L/\∃i h:Int,0<=i/\i<=L.length/\w.heap[g]?=some (.cells #[cv,.int .i64 i,.int .i64 h] 81 (0,0))
theorem GD (x:Int):0<=bits BinOp.and IntKind.i64 x 255/\bits BinOp.and IntKind.i64 x 255<=255:=by
 have e:bits BinOp.and IntKind.i64 x 255=IntKind.i64.wrap ((BitVec.ofInt 64 x &&& BitVec.ofInt 64 255).toNat:Int):=rfl;have hb:(BitVec.ofInt 64 x &&& BitVec.ofInt 64 255).toNat<=255:=by
  rw[BitVec.toNat_and];exact Nat.and_le_right
 rw[e,IntWalk.i64_in _ (by omega)];omega
theorem KI {w w':World} {r:Option Nat} (h:w.grownBy w' r) (n:Nat):w.grownBy (w'.drewN n) r:=⟨h.os,h.tape,h.output,h.size,h.block⟩
theorem Qp {w:World} {g:Nat} {c0 c1 c2 v:Value} {t:TypeId} (h:w.heap[g]?=some (.cells #[c0,c1,c2] t (0,0))):(w.setCell ⟨g,2,none⟩ v).heap[g]?=some (.cells #[c0,c1,v] t (0,0)):=by
 rw[heap_setCell_same w g 2 _ t v h];rfl
theorem Zh {w:World} {g:Nat} {c0 c1 c2 v:Value} {t:TypeId} (h:w.heap[g]?=some (.cells #[c0,c1,c2] t (0,0))):(w.setCell ⟨g,1,none⟩ v).heap[g]?=some (.cells #[c0,v,c2] t (0,0)):=by
 rw[heap_setCell_same w g 1 _ t v h];rfl
theorem CS (w0 w:World) (g:Nat) (cv:Value) (L:List Int) (hc:aS w0 w g cv L) :
  Calls Tryz.prog 21 #[.pointer (some ⟨g,0,none⟩)] w λe w'=>∃x,e=.returned (.int .i64 x)/\0<=x/\x<=255/\aS w0 w' g cv L/\w.grownBy w' (some g):=by
 obtain⟨hg,hB,hbs,i,h,hi0,hi1,hh⟩:=hc;have f0:w.cell? ⟨g,0,none⟩=some cv:=by rw[cell_of_row w g 0 _ _ (0,0) hh];rfl
 have f1:w.cell? ⟨g,1,none⟩=some (.int .i64 i):=by rw[cell_of_row w g 1 _ _ (0,0) hh];rfl
 have f2:w.cell? ⟨g,2,none⟩=some (.int .i64 h):=by rw[cell_of_row w g 2 _ _ (0,0) hh];rfl
 have z1:=frozen_of_row w g 1 _ _ hh;have z2:=frozen_of_row w g 2 _ _ hh;obtain⟨a,cap,rfl⟩:∃a cap,cv=.slice a L.length cap:=by obtain⟨_,a,cap,h,_⟩:=hbs;exact⟨a,cap,h⟩
 by_cases hlt:i < (L.length:Int)
 ·obtain⟨I,rfl⟩:=Int.eq_ofNat_of_zero_le hi0
  have GH:Hid (Bs w0 (.slice a L.length cap) L):=hbs;obtain⟨ho,a',cap',hv,hlc,hcm,-,h4⟩:=hbs;simp only[Value.slice.injEq] at hv;obtain⟨rfl,-,rfl⟩:=hv;obtain⟨b,off,rfl,hb,hcell⟩:=h4 (by omega);have fx:w.cell? ⟨b,off+I,none⟩=some (.int .u8 (L.getD I 0)):=(hB.cell (p:=⟨b,off+I,none⟩) hb).trans (hcell I (by omega));have ox:=KC ho I;obtain⟨x,hx⟩:∃x,x=L.getD I 0:=⟨_,rfl⟩;rw[← hx] at fx ox;obtain⟨ox0,ox1⟩:=ox;have hbg:¬b=g:=by omega
  have hgb:¬g=b:=by omega
  have HL:Hid (I < L.length):=by unfold Hid;omega
  unfold maxLen at hcm;clear hcell h4 hx
  go_enter Tryz.func21,Tryz.ntmps21;go_wp2
  go_quiet (fail)
  go_wp2
  go_quiet (fail)
  go_wp2
  go_quiet (fail)
  go_wp2;go_ret;exact⟨_,rfl,(GD _).1,(GD _).2,⟨hg,(below_drewN _ (hB.setCell hg _)).setCell hg _,GH.out,(I:Int)+1,_,by omega,by omega,Zh (w:=(w.setCell ⟨g,2,none⟩ _).drewN _) (Qp hh)⟩,grownBy_setCell (KI (grownBy_setCell (World.grownBy.refl _ _)) _)⟩
 ·go_enter Tryz.func21,Tryz.ntmps21
  go_wp2
  go_quiet (fail)
  go_wp2
  go_quiet (fail)
  go_wp2;go_ret;exact⟨_,rfl,(GD _).1,(GD _).2,⟨hg,below_drewN _ (below_drewN _ (hB.setCell hg _)),hbs,i,_,hi0,hi1,Qp hh⟩,KI (KI (grownBy_setCell (World.grownBy.refl _ _)) _) _⟩
theorem aS.below {w0 w w':World} {g:Nat} {cv:Value} {L:List Int} (h:aS w0 w g cv L) (hb:Below w.heap.size w w'):aS w0 w' g cv L:=by
 obtain⟨hg,hB,hbs,i,q,h0,h1,hh⟩:=h;exact⟨hg,hB.trans (hb.mono hB.size),hbs,i,q,h0,h1,(hb.block g (lt_of_heap hh)).trans hh⟩
theorem aS.lt {w0 w:World} {g:Nat} {cv:Value} {L:List Int} (h:aS w0 w g cv L):w0.heap.size<=g/\g < w.heap.size:=by
 obtain⟨hg,_,_,i,q,_,_,hh⟩:=h;exact⟨hg,lt_of_heap hh⟩
/-- Another row was written. -/
theorem aS.kept {w0 w w':World} {g B T:Nat} {cv u:Value} {L m:List Int} (h:aS w0 w g cv L) (hu:Row w B T u m) (hw:w.grownBy w' u.ownBlock) (hd:g < B):aS w0 w' g cv L:=by
 obtain⟨hg,hB,hbs,i,q,h0,h1,hh⟩:=h;refine⟨hg,hB.grown hw hB.size (λk hk=>by have:=(hu.2.1.lt k hk).1;omega),hbs,i,q,h0,h1,(hw.block g (lt_of_heap hh) (λe=>?_)).trans hh⟩;have:=(hu.2.1.lt g e.symm).1;omega
theorem iH (w0 w:World) (g:Nat) (cv:Value) (L:List Int) (n:Int) (hc:aS w0 w g cv L) (hn:1<=n) (hn1:n<=4000000000) :
  Calls Tryz.prog 8 #[.pointer (some ⟨g,0,none⟩),.int .i64 n] w λe w'=>∃x,e=.returned (.int .i64 x)/\0<=x/\x < n/\aS w0 w' g cv L/\w.grownBy w' (some g):=by
 by_cases hs:n<=256
 ·go_enter Tryz.func8,Tryz.ntmps8
  go_wp2_with fail
  refine(CS w0 _ g cv L hc).mono ?_;rintro e w1 ⟨x,rfl,hx0,hx1,hc1,hg1⟩;go_wp2;go_ret;exact⟨_,rfl,Int.emod_nonneg _ (by omega),Int.emod_lt_of_pos _ (by omega),hc1,hg1⟩
 ·go_enter Tryz.func8,Tryz.ntmps8
  go_wp2_with fail
  refine(CS w0 _ g cv L hc).mono ?_;rintro e w1 ⟨x,rfl,hx0,hx1,hc1,hg1⟩;go_wp2_with fail
  refine(CS w0 _ g cv L hc1).mono ?_;rintro e w2 ⟨y,rfl,hy0,hy1,hc2,hg2⟩;go_wp2_with fail
  refine(CS w0 _ g cv L hc2).mono ?_;rintro e w3 ⟨z,rfl,hz0,hz1,hc3,hg3⟩;go_wp2_with fail
  refine(CS w0 _ g cv L hc3).mono ?_;rintro e w4 ⟨q,rfl,hq0,hq1,hc4,hg4⟩;go_wp2;go_ret;exact⟨_,rfl,Int.emod_nonneg _ (by omega),Int.emod_lt_of_pos _ (by omega),hc4,grownBy_trans (grownBy_trans (grownBy_trans hg1 hg2) hg3) hg4⟩
theorem xX (w0 w:World) (g:Nat) (cv:Value) (L:List Int) (n:Int) (hc:aS w0 w g cv L) (hn:1<=n) (hn1:n<=4000000000) :
  Calls Tryz.prog 10 #[.pointer (some ⟨g,0,none⟩),.int .i64 n] w λe w'=>∃x,e=.returned (.bool x)/\aS w0 w' g cv L/\w.grownBy w' (some g):=by
 go_enter Tryz.func10,Tryz.ntmps10;go_wp2_with fail
 refine(iH w0 _ g cv L n hc hn hn1).mono ?_;rintro e w1 ⟨x,rfl,hx0,hx1,hc1,hg1⟩;go_wp2;go_ret;exact⟨_,rfl,hc1,hg1⟩
/-- A list of ints in a block of its own: each is an int, and there is one. -/
def Ints (w:World) (v:Value) (g n:Nat):Prop :=
 1<=n/\n<=1000/\∃k,k≠g/\k < w.heap.size/\v=.slice (some ⟨k,0,none⟩) n n/\∀i,i < n->∃x,w.cell? ⟨k,i,none⟩=some (.int .i64 x)/\-9223372036854775808<=x/\x<=9223372036854775807
/- What ai6, ai7 and ai8 of package spec answer. -/
theorem iV.drawn {w w':World} {g B:Nat} {v:Value} {l:List Int} (h:iV w B v l) (hw:w.grownBy w' (some g)) (hd:g < B):iV w' B v l:=by
 obtain⟨k,hk,ho⟩:=h;exact⟨k,hk,ho.kept hw (by omega)⟩
theorem Zi (v:Value) (L:List Int) (w:World) (hv:Bs w v L) :
  Calls Tryz.prog 7 #[v] w λe w'=>∃g,e=.returned (.pointer (some ⟨g,0,none⟩))/\aS w w' g v L/\Below w.heap.size w w':=by
 have GH:Hid (Bs w v L):=hv;obtain⟨ho,a,cap,rfl,hlc,hcm,hnil,hcells⟩:=hv;unfold maxLen at hcm
 go_enter Tryz.func7,Tryz.ntmps7;go_wp2
 go_loop [3,4] (λh i=>∃(q:Int) (k:Nat),h=.int .i64 q/\i=.int .i64 k/\k<=L.length/\k<=4000) (λ_ i=>4000 - (intOf i).toNat)
 case atStart=>exact⟨_,0,rfl,rfl,Nat.zero_le _,Nat.zero_le _⟩
 case round =>
  obtain⟨q,k,rfl,rfl,hk,hk4⟩:=hrel
  by_cases h1:k < L.length
  ·by_cases h2:k < 4000
   ·obtain⟨b,off,rfl,hlb,hc⟩:=hcells (by omega)
    have hx:=hc k h1;have hb:=KC ho k;obtain⟨x,hxe⟩:∃x,x=L.getD k 0:=⟨_,rfl⟩;rw[← hxe] at hx hb;clear hc hcells hxe;go_wp2
    go_round
    case rel=>exact⟨_,k+1,rfl,by go_num,by omega,by omega⟩
    case measure=>simp[intOf];omega
   ·go_wp2
    go_ret;exact⟨w.heap.size,rfl,⟨Nat.le_refl _,bn _ _,GH.out,0,q,by omega,by omega,heap_alloc_new w _⟩,bn _ _⟩
  ·go_wp2
   go_ret;exact⟨w.heap.size,rfl,⟨Nat.le_refl _,bn _ _,GH.out,0,q,by omega,by omega,heap_alloc_new w _⟩,bn _ _⟩
/- What ai9 of package spec draws: one of the ints. -/
/-- Ints from lo to hi in a block of their own. -/
def jD (w:World) (v:Value) (g n:Nat) (lo hi:Int):Prop :=
 1<=n/\n<=1000/\∃k,k≠g/\k < w.heap.size/\v=.slice (some ⟨k,0,none⟩) n n/\∀i,i < n->∃x,w.cell? ⟨k,i,none⟩=some (.int .i64 x)/\lo<=x/\x<=hi
theorem kg (w0 w:World) (g n:Nat) (cv v:Value) (L:List Int) (lo hi:Int) (hc:aS w0 w g cv L) (hv:jD w v g n lo hi) :
  Calls Tryz.prog 12 #[.pointer (some ⟨g,0,none⟩),v] w λe w'=>∃x,e=.returned (.int .i64 x)/\lo<=x/\x<=hi/\aS w0 w' g cv L/\w.grownBy w' (some g):=by
 obtain⟨hn,hn1,k,hkg,hks,rfl,hcells⟩:=hv
 go_enter Tryz.func12,Tryz.ntmps12;go_wp2_with fail
 refine(iH w0 _ g cv L n hc (by omega) (by omega)).mono ?_;rintro e w1 ⟨x,rfl,hx0,hx1,hc1,hg1⟩;obtain⟨j,rfl⟩:=Int.eq_ofNat_of_zero_le hx0;obtain⟨y,hy,hy0,hy1⟩:=hcells j (by omega);have hy':w1.cell? ⟨k,j,none⟩=some (.int .i64 y):=hg1.cell hy (by simpa using hkg);clear hcells hy;go_wp2;go_ret;exact⟨_,rfl,hy0,hy1,hc1,hg1⟩
theorem ko (w:World) (g:Nat) (xs:List Int) (t:TypeId) (lo hi:Int) (hg:g < w.heap.size) (h0:1<=xs.length) (h1:xs.length<=1000) (hx:∀x ∈ xs,lo<=x/\x<=hi) :
  jD (w.alloc (.cells (xs.map (Value.int .i64)).toArray t)) (.slice (some ⟨w.heap.size,0,none⟩) xs.length xs.length) g xs.length lo hi:=by
 refine⟨h0,h1,w.heap.size,by omega,by simp,rfl,λi hi=>⟨xs[i],?_,hx _ (List.getElem_mem hi)⟩⟩;rw[cell_of_row _ _ i _ t (0,0) (heap_alloc_new w _)];simp[hi]
/- append of bytes as one step of a region that draws its order. -/
/- What aja and ajb of package spec do. -/
theorem Zj (k:Int) (w:World) :
  Calls Tryz.prog 39 #[.int .i64 k] w λe w'=>e=.returned (.tuple #[.bool (toB k),.bool (zV k),.bool (zW k),.bool (zX k),.bool (zY k)])/\w'=w:=by
 go_enter Tryz.func39,Tryz.ntmps39;go_wp2
 all_goals exact bodyPost_ret (v:=.tuple #[.bool (toB k),.bool (zV k),.bool (zW k),.bool (zX k),.bool (zY k)]) (by simp[results,Tryz.results39,go_sem,toB,zV,zW,zX,zY, *] <;> (simp only[beq_iff_eq,beq_eq_false_iff_ne,ne_eq] at *;omega)) rfl ⟨rfl,rfl⟩
/- ajc cells of a block that are set. -/
section
variable {w : World} {R : Nat} {t : TypeId} {c0 c1 c2 c3 c4 c5 c6 c7 d0 d1 d2 d3 d4 d5 d6 d7 : Value}
theorem Qq (h:w.heap[R]?=some (.cells #[c0,c1,c2,c3,c4,c5,c6,c7] t (0,0))):((((((((w.setCell ⟨R,0,none⟩ d0).setCell ⟨R,1,none⟩ d1).setCell ⟨R,2,none⟩ d2).setCell ⟨R,3,none⟩ d3).setCell ⟨R,4,none⟩ d4).setCell ⟨R,5,none⟩ d5).setCell ⟨R,6,none⟩ d6).setCell ⟨R,7,none⟩ d7).heap[R]?=some (.cells #[d0,d1,d2,d3,d4,d5,d6,d7] t (0,0)):=by
 have e0:(w.setCell ⟨R,0,none⟩ d0).heap[R]?=some (.cells #[d0,c1,c2,c3,c4,c5,c6,c7] t (0,0)):=aD h;have e1:((w.setCell ⟨R,0,none⟩ d0).setCell ⟨R,1,none⟩ d1).heap[R]?=some (.cells #[d0,d1,c2,c3,c4,c5,c6,c7] t (0,0)):=aD e0;have e2:(((w.setCell ⟨R,0,none⟩ d0).setCell ⟨R,1,none⟩ d1).setCell ⟨R,2,none⟩ d2).heap[R]?=some (.cells #[d0,d1,d2,c3,c4,c5,c6,c7] t (0,0)):=aD e1;have e3:((((w.setCell ⟨R,0,none⟩ d0).setCell ⟨R,1,none⟩ d1).setCell ⟨R,2,none⟩ d2).setCell ⟨R,3,none⟩ d3).heap[R]?=some (.cells #[d0,d1,d2,d3,c4,c5,c6,c7] t (0,0)):=aD e2
 have e4:(((((w.setCell ⟨R,0,none⟩ d0).setCell ⟨R,1,none⟩ d1).setCell ⟨R,2,none⟩ d2).setCell ⟨R,3,none⟩ d3).setCell ⟨R,4,none⟩ d4).heap[R]?=some (.cells #[d0,d1,d2,d3,d4,c5,c6,c7] t (0,0)):=aD e3;have e5:((((((w.setCell ⟨R,0,none⟩ d0).setCell ⟨R,1,none⟩ d1).setCell ⟨R,2,none⟩ d2).setCell ⟨R,3,none⟩ d3).setCell ⟨R,4,none⟩ d4).setCell ⟨R,5,none⟩ d5).heap[R]?=some (.cells #[d0,d1,d2,d3,d4,d5,c6,c7] t (0,0)):=aD e4
 have e6:(((((((w.setCell ⟨R,0,none⟩ d0).setCell ⟨R,1,none⟩ d1).setCell ⟨R,2,none⟩ d2).setCell ⟨R,3,none⟩ d3).setCell ⟨R,4,none⟩ d4).setCell ⟨R,5,none⟩ d5).setCell ⟨R,6,none⟩ d6).heap[R]?=some (.cells #[d0,d1,d2,d3,d4,d5,d6,c7] t (0,0)):=aD e5;have e7:((((((((w.setCell ⟨R,0,none⟩ d0).setCell ⟨R,1,none⟩ d1).setCell ⟨R,2,none⟩ d2).setCell ⟨R,3,none⟩ d3).setCell ⟨R,4,none⟩ d4).setCell ⟨R,5,none⟩ d5).setCell ⟨R,6,none⟩ d6).setCell ⟨R,7,none⟩ d7).heap[R]?=some (.cells #[d0,d1,d2,d3,d4,d5,d6,d7] t (0,0)):=aD e6;exact e7
theorem Zk {w0:World} {N:Nat} (h:Below N w0 w) (hN:N<=R):Below N w0 ((((((((w.setCell ⟨R,0,none⟩ d0).setCell ⟨R,1,none⟩ d1).setCell ⟨R,2,none⟩ d2).setCell ⟨R,3,none⟩ d3).setCell ⟨R,4,none⟩ d4).setCell ⟨R,5,none⟩ d5).setCell ⟨R,6,none⟩ d6).setCell ⟨R,7,none⟩ d7) :=
 (((((((h.setCell (p:=⟨R,0,none⟩) hN _).setCell (p:=⟨R,1,none⟩) hN _).setCell (p:=⟨R,2,none⟩) hN _).setCell (p:=⟨R,3,none⟩) hN _).setCell (p:=⟨R,4,none⟩) hN _).setCell (p:=⟨R,5,none⟩) hN _).setCell (p:=⟨R,6,none⟩) hN _).setCell (p:=⟨R,7,none⟩) hN _
end
/- Elements with what they lead to, as a list of cells: taken apart and put together in another order of blocks (boxes into a new row). -/
section
variable {α : Type} {sz : Nat} {E : World -> List Value -> α -> (Nat -> Prop) -> Prop} {w w' : World}
/-- The cells xs are those of the elements l, one behind the other; what they lead to lies in S, apart from one another. -/
def EL (sz:Nat) (E:World->List Value->α->(Nat->Prop)->Prop) (w:World):List α->(Nat->Prop)->List Value->Prop
 | [],_,xs=>xs=[]
 | x :: l,S,xs=>∃(c ys:List Value) (F S':Nat->Prop),xs=c ++ ys/\c.length=sz/\E w c x F/\EL sz E w l S' ys/\(∀b,F b->S b)/\(∀b,S' b->S b)/\∀b,F b->¬S' b
theorem EL.len:∀ {l:List α} {S:Nat->Prop} {xs:List Value},EL sz E w l S xs->xs.length=l.length * sz
 | [],_,_,h=>by rw[show _=[] from h];simp
 | _ :: l,_,_,⟨c,ys,_,_,e,hc,_,hl,_⟩=>by rw[e,List.length_append,hc,EL.len hl,List.length_cons,Nat.succ_mul,Nat.add_comm]
theorem EL.mono:∀ {l:List α} {S T:Nat->Prop} {xs:List Value},EL sz E w l S xs->(∀b,S b->T b)->EL sz E w l T xs
 | [],_,_,_,h,_=>h
 | _ :: _,_,_,_,⟨c,ys,F,S',e,hc,he,hl,h1,h2,h3⟩,hS=>⟨c,ys,F,S',e,hc,he,hl,λb h=>hS b (h1 b h),λb h=>hS b (h2 b h),h3⟩
/-- It stays while what it leads to does. -/
theorem EL.keep {w w':World}:∀ {l:List α} {S:Nat->Prop} {xs:List Value},EL sz E w l S xs->(∀c x F,(∀b,F b->S b)->E w c x F->E w' c x F)->EL sz E w' l S xs
 | [],_,_,h,_=>h
 | _ :: _,_,_,⟨c,ys,F,S',e,hc,he,hl,h1,h2,h3⟩,hk=>⟨c,ys,F,S',e,hc,hk _ _ _ h1 he,hl.keep λc x F h=>hk c x F λb hb=>h2 b (h b hb),h1,h2,h3⟩
theorem EL.one {c:List Value} {x:α} {F:Nat->Prop} (hc:c.length=sz) (he:E w c x F):EL sz E w [x] F c :=
 ⟨c,[],F,λ_=>False,by simp,hc,he,rfl,λ_ h=>h,λ_ h=>h.elim,λ_ _ h=>h⟩
theorem EL.app:∀ {l m:List α} {S T:Nat->Prop} {xs ys:List Value},EL sz E w l S xs->EL sz E w m T ys->(∀b,S b->¬T b)->EL sz E w (l ++ m) (λb=>S b\/T b) (xs ++ ys)
 | [],m,S,T,xs,ys,h,h',_=>by rw[show xs=[] from h];exact h'.mono λb h=>.inr h
 | x :: l,m,S,T,xs,ys,⟨c,zs,F,S',e,hc,he,hl,h1,h2,h3⟩,h',hd =>
  ⟨c,zs ++ ys,F,λb=>S' b\/T b,by rw[e,List.append_assoc],hc,he,hl.app h' λb h=>hd b (h2 b h),λb h=>.inl (h1 b h),λb h=>h.elim (λh=>.inl (h2 b h)) .inr,λb h h'=>h'.elim (h3 b h) (hd b (h1 b h))⟩
/-- Taken apart. -/
theorem EL.split:∀(i:Nat) {l:List α} {S:Nat->Prop} {xs:List Value},EL sz E w l S xs->∃S1 S2:Nat->Prop,EL sz E w (l.take i) S1 (xs.take (i * sz))/\EL sz E w (l.drop i) S2 (xs.drop (i * sz))/\(∀b,S1 b->S b)/\(∀b,S2 b->S b)/\∀b,S1 b->¬S2 b
 | 0,l,S,xs,h=>⟨λ_=>False,S,by simp[EL],by simpa using h,λ_ h=>h.elim,λ_ h=>h,λ_ h=>h.elim⟩
 | i+1,[],S,xs,h=>⟨λ_=>False,S,by rw[show xs=[] from h];simp[EL],by rw[show xs=[] from h];simp[EL],λ_ h=>h.elim,λ_ h=>h,λ_ h=>h.elim⟩
 | i+1,x :: l,S,xs,⟨c,ys,F,S',e,hc,he,hl,h1,h2,h3⟩=>by
  obtain⟨S1,S2,a1,a2,a3,a4,a5⟩:=EL.split i hl;have e1:xs.take ((i+1) * sz)=c ++ ys.take (i * sz):=by
   rw[e,List.take_append,hc,List.take_of_length_le (by rw[hc,Nat.succ_mul];exact Nat.le_add_left _ _)];rw[show(i+1) * sz - sz=i * sz by rw[Nat.succ_mul,Nat.add_sub_cancel]]
  have e2:xs.drop ((i+1) * sz)=ys.drop (i * sz):=by
   rw[e,List.drop_append,hc,List.drop_of_length_le (by rw[hc,Nat.succ_mul];exact Nat.le_add_left _ _),List.nil_append];rw[show(i+1) * sz - sz=i * sz by rw[Nat.succ_mul,Nat.add_sub_cancel]]
  refine⟨λb=>F b\/S1 b,S2,?_,?_,λb h=>h.elim (h1 b) λh=>h2 b (a3 b h),λb h=>h2 b (a4 b h),λb h h'=>h.elim (λh=>h3 b h (a4 b h')) λh=>a5 b h h'⟩
  ·rw[e1]
   exact⟨c,ys.take (i * sz),F,S1,rfl,hc,he,a1,λb h=>.inl h,λb h=>.inr h,λb h h'=>h3 b h (a3 b h')⟩
  ·rw[e2]
   exact a2
/-- From elements by number. -/
theorem EL.Qr:∀(l:List α) {S:Nat->Prop} {xs:List Value} (cs:Nat->List Value) (fs:Nat->Nat->Prop),xs.length=l.length * sz ->
  (∀i x,l[i]?=some x->E w (cs i) x (fs i)/\(cs i).length=sz/\∀j u,(cs i)[j]?=some u->xs[i * sz+j]?=some u)->(∀i b,i < l.length->fs i b->S b)->(∀i j b,i < l.length->j < l.length->i≠j->fs i b->¬fs j b)->EL sz E w l S xs
 | [],S,xs,cs,fs,hl,_,_,_=>by
  show xs=[];exact List.length_eq_zero_iff.1 (by simpa using hl)
 | x :: l,S,xs,cs,fs,hl,he,hs,hd=>by
  obtain⟨e0,e1,e2⟩:=he 0 x rfl;have hxl:sz<=xs.length:=by rw[hl,List.length_cons,Nat.succ_mul];exact Nat.le_add_left _ _
  have ec:xs.take sz=cs 0:=by
   apply List.ext_getElem?
   intro j
   by_cases hj:j < sz
   ·rw[List.getElem?_take_of_lt hj]
    have:=e2 j (cs 0)[j] (bK (by omega));rw[Nat.zero_mul,Nat.zero_add] at this;rw[this,bK]
   ·rw[List.getElem?_eq_none (by rw[List.length_take];omega),List.getElem?_eq_none (by omega)]
  refine⟨cs 0,xs.drop sz,fs 0,λb=>∃i,i < l.length/\fs (i+1) b,by rw[← ec,List.take_append_drop],e1,e0,?_,λb h=>hs 0 b (by simp) h,?_,?_⟩
  ·refine EL.Qr l (λi=>cs (i+1)) (λi=>fs (i+1)) ?_ (λi y hy=>?_) (λi b hi h=>⟨i,hi,h⟩) (λi j b hi hj hne=>hd (i+1) (j+1) b (by simpa using hi) (by simpa using hj) (by omega))
   ·rw[List.length_drop,hl,List.length_cons,Nat.succ_mul,Nat.add_sub_cancel]
   ·obtain⟨f0,f1,f2⟩:=he (i+1) y (by simpa using hy)
    refine⟨f0,f1,λj u hu=>?_⟩;have:=f2 j u hu;rw[List.getElem?_drop];rw[Nat.succ_mul] at this;rw[show sz+(i * sz+j)=i * sz+sz+j by omega];exact this
  ·rintro b ⟨i,hi,h⟩
   exact hs (i+1) b (by simpa using hi) h
  ·rintro b h ⟨i,hi,h'⟩
   exact hd 0 (i+1) b (by simp) (by simpa using hi) (by omega) h h'
/-- ajd to elements by number. -/
theorem EL.idx:∀ {l:List α} {S:Nat->Prop} {xs:List Value},EL sz E w l S xs->∃(cs:Nat->List Value) (fs:Nat->Nat->Prop),
  (∀i x,l[i]?=some x->E w (cs i) x (fs i)/\(cs i).length=sz/\∀j u,(cs i)[j]?=some u->xs[i * sz+j]?=some u)/\(∀i b,i < l.length->fs i b->S b)/\(∀i j b,i < l.length->j < l.length->i≠j->fs i b->¬fs j b)
 | [],_,_,_=>⟨λ_=>[],λ_ _=>False,by simp,by simp,by simp⟩
 | x :: l,S,xs,⟨c,ys,F,S',e,hc,he,hl,h1,h2,h3⟩=>by
  obtain⟨cs,fs,a1,a2,a3⟩:=EL.idx hl;refine⟨λi=>match i with | 0=>c | i+1=>cs i,λi=>match i with | 0=>F | i+1=>fs i,?_,?_,?_⟩
  ·intro i y hy
   cases i with
   | zero =>
    cases (by simpa using hy:x=y)
    refine⟨he,hc,λj u hu=>?_⟩;have hj:j < c.length:=(gs1 hu).1;rw[e,Nat.zero_mul,Nat.zero_add,List.getElem?_append_left hj];exact hu
   | succ i =>
    obtain⟨f0,f1,f2⟩:=a1 i y (by simpa using hy);refine⟨f0,f1,λj u hu=>?_⟩;have:=f2 j u hu;rw[e,Nat.succ_mul,List.getElem?_append_right (by omega),hc,show i * sz+sz+j - sz=i * sz+j by omega];exact this
  ·intro i b hi h
   cases i with
   | zero=>exact h1 b h
   | succ i=>exact h2 b (a2 i b (by simpa using hi) h)
  ·intro i j b hi hj hne h h'
   cases i with
   | zero =>
    cases j with
    | zero=>exact hne rfl
    | succ j=>exact h3 b h (a2 j b (by simpa using hj) h')
   | succ i =>
    cases j with
    | zero=>exact h3 b h' (a2 i b (by simpa using hi) h)
    | succ j=>exact a3 i j b (by simpa using hi) (by simpa using hj) (λe=>hne (by rw[e])) h h'
variable {t : TypeId} {S : Nat -> Prop} {v : Value} {l : List α}
/-- Out of a list of the call's own: its cells, and what they lead to, which is not its block. -/
theorem Ow.el (h:Ow t sz E w S v l):(v=.slice none 0 0/\l=[])\/∃(g cap:Nat) (cur:Array Value),v=.slice (some ⟨g,0,none⟩) l.length cap/\w.heap[g]?=some (.cells cur t (0,0))/\l.length<=cap/\cap<=maxLen/\cur.size=cap * sz/\S g/\EL sz E w l (λb=>S b/\b≠g) (cur.toList.take (l.length * sz)):=by
 rcases h with h | ⟨g,cap,cur,cs,fs,hv,hh,h1,h2,h3,h4,h5,h6,h7⟩
 ·exact .inl h
 ·have hle:l.length * sz<=cap * sz:=Nat.mul_le_mul_right _ h1
  refine .inr ⟨g,cap,cur,hv,hh,h1,h2,h3,h4,EL.Qr l cs fs ?_ (λi x hx=>?_) h6 h7⟩
  ·rw[List.length_take,show cur.toList.length=cap * sz from h3];omega
  ·obtain⟨f0,f1,f2⟩:=h5 i x hx
   refine⟨f0,f1,λj u hu=>?_⟩;have hj:j < sz:=by rw[← f1];exact(gs1 hu).1
   have hi:i < l.length:=(gs1 hx).1;have hm:(i+1) * sz<=l.length * sz:=Nat.mul_le_mul_right _ hi;rw[Nat.succ_mul] at hm;rw[List.getElem?_take_of_lt (by omega),Array.getElem?_toList];exact f2 j u hu
/-- Into a block of the call's own. -/
theorem EL.ow {g cap:Nat} {cur:Array Value} (h:EL sz E w l S (cur.toList.take (l.length * sz))) (hh:w.heap[g]?=some (.cells cur t (0,0))) (h1:l.length<=cap) (h2:cap<=maxLen) (h3:cur.size=cap * sz) (hg:¬S g):Ow t sz E w (λb=>S b\/b=g) (.slice (some ⟨g,0,none⟩) l.length cap) l:=by
 obtain⟨cs,fs,a1,a2,a3⟩:=h.idx;refine .inr ⟨g,cap,cur,cs,fs,rfl,hh,h1,h2,h3,.inr rfl,λi x hx=>?_,λi b hi hb=>⟨.inl (a2 i b hi hb),λe=>hg (e ▸ a2 i b hi hb)⟩,a3⟩;obtain⟨f0,f1,f2⟩:=a1 i x hx;refine⟨f0,f1,λj u hu=>?_⟩;have hj:j < sz:=by rw[← f1];exact(gs1 hu).1
 have hi:i < l.length:=(gs1 hx).1;have hm:(i+1) * sz<=l.length * sz:=Nat.mul_le_mul_right _ hi;rw[Nat.succ_mul] at hm;have:=f2 j u hu;rw[List.getElem?_take_of_lt (by omega),Array.getElem?_toList] at this;exact this
end
/- Many cells of one block that are set at once. -/
theorem Qs (b k:Nat) (h:k≠b):∀(vs:List Value) (o:Nat) (w:World),(w.setCells b o vs).heap[k]?=w.heap[k]?
 | [],_,_=>rfl
 | v :: vs,o,w=>(Qs b k h vs (o+1) (w.setCell ⟨b,o,none⟩ v)).trans (Below.heap_setCell w ⟨b,o,none⟩ v k h)
theorem Qt (b:Nat):∀(vs:List Value) (o:Nat) (w:World),(w.setCells b o vs).heap.size=w.heap.size
 | [],_,_=>rfl
 | v :: vs,o,w=>(Qt b vs (o+1) (w.setCell ⟨b,o,none⟩ v)).trans dW
theorem tZ {B:Nat} {w0:World} (b:Nat) (h:B<=b):∀(vs:List Value) (o:Nat) (w:World),Below B w0 w->Below B w0 (w.setCells b o vs)
 | [],_,_,hb=>hb
 | v :: vs,o,w,hb=>tZ b h vs (o+1) (w.setCell ⟨b,o,none⟩ v) (hb.setCell (p:=⟨b,o,none⟩) h v)
theorem Zl {w:World} {g n:Nat} {t:TypeId} {cs:Array Value} (h:w.heap[g]?=some (.cells cs t (0,0))) (hn:n<=cs.size):w.there g 0 n:=λj hj=>by
 refine⟨?_,frozen_of_row w g _ cs t h⟩;rw[cell_of_row w g _ cs t (0,0) h];simp;omega
theorem Zm {w:World} {g:Nat} {t:TypeId} {cs:Array Value} (h:w.heap[g]?=some (.cells cs t (0,0))):w.rangeAt g 0 cs.toList:=λj v hv=>by
 rw[cell_of_row w g _ cs t (0,0) h];simpa using hv
theorem Qu (g:Nat):∀(vs:List Value) (o:Nat) (w:World),put w g o vs=w.setCells g o vs
 | [],_,_=>rfl
 | v :: vs,o,w=>Qu g vs (o+1) (w.setCell ⟨g,o,none⟩ v)
/-- A whole block written anew. -/
theorem Zn {w:World} {g:Nat} {t:TypeId} {cs:Array Value} (h:w.heap[g]?=some (.cells cs t (0,0))) (vs:List Value) (hl:vs.length=cs.size):(w.setCells g 0 vs).heap[g]?=some (.cells vs.toArray t (0,0)):=by
 obtain⟨cur',e1,e2,e3,-,-⟩:=GA g t vs w 0 cs h (by omega);rw[Qu] at e1;rw[e1]
 congr 2
 refine Array.ext (by simp;omega) λi h1 h2=>?_;have hi:i < vs.length:=by simpa using h2
 have:=e3 i vs[i] (bK hi);rw[Nat.zero_add,Array.getElem?_eq_getElem h1] at this;simpa using Option.some.inj this
/- What stays while bytes of the call's own are put behind one another: all below B, and all that are no bytes. -/
structure Tw (B:Nat) (w w':World):Prop where
 below:Below B w w'
 typed:∀(b:Nat) (c:Array Value) (t:TypeId) (f:Nat × Nat),t≠5->w.heap[b]?=some (Obj.cells c t f)->w'.heap[b]?=some (Obj.cells c t f)
theorem Tw.refl (B:Nat) (w:World):Tw B w w:=⟨Below.refl _ _,λ_ _ _ _ _ h=>h⟩
theorem Tw.trans {B:Nat} {a b c:World} (h:Tw B a b) (k:Tw B b c):Tw B a c:=⟨h.below.trans k.below,λi cs t f ht hc=>k.typed i cs t f ht (h.typed i cs t f ht hc)⟩
theorem Tw.of_below {B:Nat} {w w':World} (hB:B<=w.heap.size) (h:Below w.heap.size w w'):Tw B w w':=⟨h.mono hB,λb _ _ _ _ hb=>(h.block b (lt_of_heap hb)).trans hb⟩
theorem Tw.alloc {B:Nat} {w:World} (hB:B<=w.heap.size) (o:Obj):Tw B w (w.alloc o):=Tw.of_below hB (bn _ o)
theorem Tw.grown {B:Nat} {w w':World} {v:Value} {l:List Int} (hv:iV w B v l) (hB:B<=w.heap.size) (hg:w.grownBy w' v.ownBlock):Tw B w w':=by
 refine⟨(Below.refl B w).grown hg hB (λk hk=>(hv.row.lt k hk).1),λb c t f ht hb=>(hg.block b (lt_of_heap hb) λe=>?_).trans hb⟩;obtain⟨g,_,_,⟨rfl,_⟩ | ⟨cap,cur,rfl,hh,_⟩⟩:=hv
 ·simp[Value.ownBlock] at e
 ·simp only[Value.ownBlock,Option.some.injEq] at e
  subst e;rw[hb] at hh;simp only[Option.some.injEq,Obj.cells.injEq] at hh;exact ht hh.2.1
theorem Tw.size {B:Nat} {w w':World} (h:Tw B w w'):w.heap.size<=w'.heap.size:=h.below.size
theorem Tw.box {B g:Nat} {w w':World} {c:Array Value} {t:TypeId} (h:Tw B w w') (ht:t≠5) (hb:w.heap[g]?=some (.cells c t (0,0))):w'.heap[g]?=some (.cells c t (0,0)):=h.typed g c t _ ht hb
/- What slices.IndexFunc and slices.ContainsFunc do of bytes, whatever function is handed in. -/
open Go.RowKit Go.Shelf
theorem Zo (g:Nat) (lb:Array Value) (p:Int->Bool) (v:Value) (l:List Int) (w:World) (hv:Bs w v l) (eg:∀args w,(callFunc g args).run Tryz.prog w=.ok (.enter g args) w)
  (hp:∀x,0<=x->x<=255->Calls Tryz.prog g (#[.int .u8 x] ++ lb) w λe w'=>e=.returned (.bool (p x))/\w'=w) :
  Calls Tryz.prog 191 #[v,.func (.func g) #[] lb] w λe w'=>e=.returned (.int .i64 (bD p l))/\w'=w:=by
 obtain⟨ho,a,cap,rfl,hlc,hcm,hnil,hcells⟩:=hv;unfold maxLen at hcm
 go_enter Tryz.func191,Tryz.ntmps191;go_wp2
 go_loop [5,8] (λ_ i=>∃k:Nat,k<=l.length/\i=.int .i64 k/\Hid (∀j,j < k->p (l.getD j 0)=false)) (λ_ i=>l.length - (intOf i).toNat)
 case atStart=>exact⟨0,Nat.zero_le _,rfl,λj hj=>absurd hj (Nat.not_lt_zero _)⟩
 case round =>
  obtain⟨k,hk,rfl,hA⟩:=hrel
  by_cases hlt:k < l.length
  ·obtain⟨b,off,rfl,hlb,hc⟩:=hcells (by omega)
   have hx:=hc k hlt;have hbx:=KC ho k;generalize hy:l.getD k 0=x at hx hbx;have HX:Hid (l.getD k 0=x):=hy;clear hy hc hcells;have hcall:=hp x hbx.1 hbx.2;clear hp;cases hq:p x with
   | true =>
    rw[hq] at hcall;go_wp2_with (go_at_fn g;refine hcall.mono ?_;rintro e w' ⟨rfl,rfl⟩)
    go_ret;exact⟨ng (Zc hlt (by rw[HX.out];exact hq) hA.out).symm,rfl⟩
   | false =>
    rw[hq] at hcall;go_wp2_with (go_at_fn g;refine hcall.mono ?_;rintro e w' ⟨rfl,rfl⟩)
    go_round
    case rel =>
     refine⟨k+1,by omega,by go_num,(show Hid _ from λj hj=>?_)⟩
     by_cases e:j=k
     ·subst e;rw[HX.out];exact hq
     ·exact hA.out j (by omega)
    case measure=>simp[intOf];omega
  ·obtain rfl:k=l.length:=by omega
   go_wp2;go_ret;exact⟨ng (Zd hA.out).symm,rfl⟩
theorem Zp (g:Nat) (lb:Array Value) (p:Int->Bool) (v:Value) (l:List Int) (w:World) (hv:Bs w v l) (eg:∀args w,(callFunc g args).run Tryz.prog w=.ok (.enter g args) w)
  (hp:∀x,0<=x->x<=255->Calls Tryz.prog g (#[.int .u8 x] ++ lb) w λe w'=>e=.returned (.bool (p x))/\w'=w) :
  Calls Tryz.prog 165 #[v,.func (.func g) #[] lb] w λe w'=>e=.returned (.bool (l.any p))/\w'=w:=by
 have hi:=Zo g lb p v l w hv eg hp;have HF:Hid (l.any p=decide (0<=bD p l)):=CR p l;generalize bD p l=i at hi HF;obtain⟨ho,a,cap,rfl,-⟩:=hv;clear hp
 go_enter Tryz.func165,Tryz.ntmps165;go_wp2_with (go_at_call 191;refine hi.mono ?_;rintro e w' ⟨rfl,rfl⟩)
 go_ret;exact⟨aN HF.out,rfl⟩
/- What within, aje, ajf, ajg, ajh of package impl do. -/
open Go.RowKit Go.Shelf
theorem Zq {l:List Int} (h:jP l=true):l.length<=30:=by unfold jP at h;simp at h;exact h.1
theorem gW (n lo hi:Int) (w:World) :
  Calls Tryz.prog 13 #[.int .i64 n,.int .i64 lo,.int .i64 hi] w λe w'=>e=.returned (.bool (aQ n lo hi))/\w'=w:=by
 by_cases h0:lo<=n
 ·by_cases h1:n<=hi
  ·go_enter Tryz.func13,Tryz.ntmps13
   go_wp2;go_ret;exact⟨aN (by simp[aQ,h0,h1]),rfl⟩
  ·go_enter Tryz.func13,Tryz.ntmps13
   go_wp2;go_ret;exact⟨aN (by simp[aQ,h1]),rfl⟩
 ·go_enter Tryz.func13,Tryz.ntmps13
  go_wp2;go_ret;exact⟨aN (by simp[aQ];omega),rfl⟩
theorem Zr (x lo hi:Int) (b1 b2:Nat) (w:World) (c1:w.cell? ⟨b1,0,none⟩=some (.int .u8 lo)) (c2:w.cell? ⟨b2,0,none⟩=some (.int .u8 hi)) :
  Calls Tryz.prog 166 #[.int .u8 x,.pointer (some ⟨b1,0,none⟩),.pointer (some ⟨b2,0,none⟩)] w λe w'=>e=.returned (.bool (decide (x < lo) || decide (hi < x)))/\w'=w:=by
 by_cases h0:x < lo
 ·go_enter Tryz.func166,Tryz.ntmps166
  go_wp2;go_ret;exact⟨aN (by simp[h0]),rfl⟩
 ·go_enter Tryz.func166,Tryz.ntmps166
  go_wp2;go_ret;exact⟨aN (by simp;omega),rfl⟩
theorem Zt (lo hi:Int) (l:List Int):(!l.any λx=>decide (x < lo) || decide (hi < x))=allIn lo hi l:=by
 induction l with
 | nil=>rfl
 | cons x l ih =>
  simp only[List.any_cons,allIn,List.all_cons,Bool.not_or];rw[ih]
  congr 1
  by_cases h0:x < lo <;> by_cases h1:hi < x <;> simp[h0,h1] <;> omega
theorem Qv (v:Value) (l:List Int) (lo hi:Int) (w:World) (hv:Bs w v l) :
  Calls Tryz.prog 133 #[v,.int .u8 lo,.int .u8 hi] w λe w'=>e=.returned (.bool (allIn lo hi l))/\Below w.heap.size w w':=by
 have bx:=mE w (.cells #[.int .u8 lo] 5) (.cells #[.int .u8 hi] 5);have H:Hid (Calls Tryz.prog 165 #[v,.func (.func 166) #[] #[.pointer (some ⟨w.heap.size,0,none⟩),.pointer (some ⟨w.heap.size+1,0,none⟩)]] ((w.alloc (.cells #[.int .u8 lo] 5)).alloc (.cells #[.int .u8 hi] 5)) λe w'=>e=.returned (.bool (l.any λx=>decide (x < lo) || decide (hi < x)))/\w'=(w.alloc (.cells #[.int .u8 lo] 5)).alloc (.cells #[.int .u8 hi] 5)):=by
  refine Zp _ _ _ v l _ (hv.below bx.2.2) (λargs w=>by kernel_rfl) λx _ _=>Zr x lo hi _ _ _ ?_ ?_
  ·rw[cell_of_row _ _ 0 _ _ (0,0) bx.1];rfl
  ·rw[cell_of_row _ _ 0 _ _ (0,0) bx.2.1];rfl
 have HA:=Zt lo hi l;have HB:Hid (Below w.heap.size w ((w.alloc (.cells #[.int .u8 lo] 5)).alloc (.cells #[.int .u8 hi] 5))):=bx.2.2;generalize (l.any λx=>decide (x < lo) || decide (hi < x))=X at H HA;have Zu:Hid ((!X)=allIn lo hi l):=HA;clear HA bx;obtain⟨a,n,c,rfl⟩:=hv.aP;clear hv
 go_enter Tryz.func133,Tryz.ntmps133;go_wp2_with (go_at_call 165;refine H.out.mono ?_;rintro e w' ⟨rfl,rfl⟩)
 go_ret;exact⟨aN Zu.out.symm,HB.out⟩
theorem Qw (v:Value) (l:List Int) (w:World) (hv:Bs w v l) :
  Calls Tryz.prog 132 #[v] w λe w'=>e=.returned (.bool (gF l))/\Below w.heap.size w w':=by
 have H:Hid (Bs w v l):=hv;obtain⟨ho,a,cap,rfl,hlc,hcm,-⟩:=hv;unfold maxLen at hcm
 by_cases h0:1<=l.length/\l.length<=6
 ·have e1:aQ (l.length:Int) 1 6=true:=by simp[aQ];omega
  have e2:Hid (gF l=allIn 97 122 l):=by simp[Hid,gF,h0.1,h0.2]
  have hw:=gW (l.length:Int) 1 6;rw[e1] at hw;clear e1
  go_enter Tryz.func132,Tryz.ntmps132;go_wp2_with (first | (go_at_call 13;refine(hw _).mono ?_;rintro e w' ⟨rfl,rfl⟩) | (go_at_call 133;refine(Qv _ l 97 122 _ H.out).mono ?_;rintro e w1 ⟨rfl,B⟩))
  go_ret;exact⟨aN e2.out,B⟩
 ·have e1:aQ (l.length:Int) 1 6=false:=by simp[aQ];omega
  have e2:Hid (gF l=false):=by
   simp only[Hid,gF]
   by_cases h1:1<=l.length
   ·simp[show ¬l.length<=6 by omega]
   ·simp[h1]
  have hw:=gW (l.length:Int) 1 6;rw[e1] at hw;clear e1
  go_enter Tryz.func132,Tryz.ntmps132;go_wp2_with (first | (go_at_call 13;refine(hw _).mono ?_;rintro e w' ⟨rfl,rfl⟩))
  go_ret;exact⟨aN e2.out,Below.refl _ _⟩
theorem Qx (v:Value) (l:List Int) (w:World) (hv:Bs w v l) :
  Calls Tryz.prog 105 #[v] w λe w'=>e=.returned (.bool (jP l))/\Below w.heap.size w w':=by
 have H:Hid (Bs w v l):=hv;obtain⟨ho,a,cap,rfl,hlc,hcm,-⟩:=hv;unfold maxLen at hcm
 by_cases h0:l.length<=30
 ·have e2:Hid (jP l=allIn 32 126 l):=by simp[Hid,jP,h0]
  go_enter Tryz.func105,Tryz.ntmps105;go_wp2_with (first | (go_at_call 133;refine(Qv _ l 32 126 _ H.out).mono ?_;rintro e w1 ⟨rfl,B⟩))
  go_ret;exact⟨aN e2.out,B⟩
 ·have e2:Hid (jP l=false):=by simp[Hid,jP,h0]
  go_enter Tryz.func105,Tryz.ntmps105;go_wp2;go_ret;exact⟨aN e2.out,Below.refl _ _⟩
/- What aji of package spec does. -/
/- What ajj of package spec does. -/
/- From what a row reads of an argument to what the walks ask: a slice of bytes that came in. -/
open Go.ChangeShapes Go.WideShapes Go.ChangeAt Go.RowKit
theorem ownKnob_none:ownKnob Tryz.prog.godebug=none:=by kernel_rfl
theorem laidOut:laidOutB Tryz.prog=true:=by kernel_rfl
theorem Zv {n:Int} (h:(Lit.int .u8 n).wf=true):0<=n/\n<=255:=bounds_u8 h
/-- A slice of bytes that came in, as the walks want it. -/
theorem open_bytes {H:Type} {enc:TypeId × Value->H} {W:World} {base:Nat} {a:Option Addr} {len cap:Nat} {d:DataW H} {p:List MemPlace}
  (h:DataW.Trod enc Tryz.prog W base (λ_=>true) true 22 (.slice a len cap) d p):∃l,Bs W (.slice a len cap) l:=by
 obtain⟨fuel,hf⟩:=h;rcases open_ints Tryz.underlying22 Tryz.underlying5 (by kernel_rfl) hf with⟨hcs,_⟩ | ⟨x,l,c,zs,hcs,_,hl,hm,hz,_,hcell,hwz⟩
 ·simp[Value.cells] at hcs
  obtain⟨rfl,rfl,rfl⟩:=hcs;exact⟨[],CQ,none,0,rfl,by simp,by simp,λ_=>rfl,λh=>absurd h (by simp)⟩
 ·simp[Value.cells] at hcs
  obtain⟨rfl,rfl,rfl⟩:=hcs;simp at hz;have ht:(zs.take len).length=len:=by simp;omega
  refine⟨zs.take len,λx hx=>Zv (hwz x (List.mem_of_mem_take hx)),some x,cap,by rw[ht],by omega,hm,(λh=>by cases h),λhp=>?_⟩;rw[ht] at hp;obtain⟨b,off,spot⟩:=x;have h0:=hcell 0 (by omega);have hspot:spot=none:=by simpa [Addr.add] using World.cell?_spot h0
  subst hspot;refine⟨b,off,rfl,?_,λi hi=>?_⟩
  ·have:=World.block_lt_of_cell? W _ h0
   simpa [Addr.add] using this
  ·rw[ht] at hi
   have:=hcell i (by omega);rw[Addr.add_lit] at this;rw[this];simp[hi]
end Go.Proofs.YtfabngnaejjcmaaGreatDoor
