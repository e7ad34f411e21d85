/- The proof's texts, part 14. -/
import Derived.Test.YtnlhkgoppjejeaaDoorPart3
import Derived.Test.YtnlhkgoppjejeaaDoorPart9
import Derived.Test.YtnlhkgoppjejeaaDoorPart1
import Derived.Test.YtnlhkgoppjejeaaDoorPart11
import Derived.Deep.RegionHeld3
import Derived.Test.YtnlhkgoppjejeaaDoorPart12
import Derived.Deep.DeepCutAuto
import Derived.Test.YtnlhkgoppjejeaaDoorPart13
import Derived.Defers
import Derived.Recover

/- What GetNum of package spec does. -/
namespace Go.Proofs.YtnlhkgoppjejeaaDoor
open Go.RowKit

end Go.Proofs.YtnlhkgoppjejeaaDoor

/- What GetText of package spec does. -/
namespace Go.Proofs.YtnlhkgoppjejeaaDoor
open Go.RowKit

end Go.Proofs.YtnlhkgoppjejeaaDoor

/- What l4get, l4getText of package spec do: numbers and texts are read behind a cursor. -/
namespace Go.Proofs.YtnlhkgoppjejeaaDoor
open Go.RowKit
set_option linter.unusedVariables false

end Go.Proofs.YtnlhkgoppjejeaaDoor

/- What l4getBox of package spec does: a box is read behind a cursor. -/
namespace Go.Proofs.YtnlhkgoppjejeaaDoor
open Go.RowKit
set_option linter.unusedVariables false

end Go.Proofs.YtnlhkgoppjejeaaDoor

/- What toIntS, toAccount of package laws do. -/
namespace Go.Proofs.YtnlhkgoppjejeaaDoor
open Go.RowKit
set_option linter.unusedVariables false

theorem infoInt:(Tryd.prog.info? 3).map (fun i=>(i.zero,i.size,i.bytes))=some (some (.int .i64 0),1,8):=by kernel_rfl

end Go.Proofs.YtnlhkgoppjejeaaDoor

/- Replies and rows of names in memory: what they read as, and those of the call's own. -/
namespace Go.Proofs.YtnlhkgoppjejeaaDoor
open Go.RowKit

structure RepD where
 code:Int
 num:Int
 box:BoxD
 names:List (List Int)

def NameRE (w:World) (c:List Value) (l:List Int):Prop:=∃ u,c=[u]∧Bs w u l
abbrev NamesV:=Rd 1 NameRE
theorem keepsName:Keeps NameRE:=fun _ _ _ _ hb h=>let ⟨u,h0,h1⟩:=h;⟨u,h0,h1.below hb⟩
def NameE (w:World) (c:List Value) (l:List Int) (S:Nat→Prop):Prop:=∃ u,c=[u]∧RO w S u l
theorem framesName:Frames NameE:=fun _ _ _ _ _ h hw=>let ⟨u,h0,h1⟩:=h;⟨u,h0,h1.frame hw⟩
instance:Fr NameE:=⟨framesName⟩
abbrev NamesO:=Ow 22 1 NameE
theorem NameE.rd {w:World} {c:List Value} {l:List Int} {S:Nat→Prop} (h:NameE w c l S):NameRE w c l:=let ⟨u,h0,h1⟩:=h;⟨u,h0,h1.bs⟩
theorem NamesV.cell {w:World} {v:Value} {l:List (List Int)} (h:NamesV w v l) (k:Nat) (x:List Int) (hx:l[k]?=some x):∃ b off cap u,v=.slice (some ⟨b,off,none⟩) l.length cap∧b < w.heap.size∧w.cell? ⟨b,off+k,none⟩=some u∧Bs w u x:=by
 obtain ⟨b,off,cap,c,hv,hlt,⟨u,rfl,hi⟩,-,hc⟩:=h.get k x hx
 exact ⟨b,off,cap,u,hv,hlt,by simpa using hc 0 _ rfl,hi⟩
/-- The value v reads as a reply. -/
def RepV (w:World) (v:Value) (x:RepD):Prop:=∃ u0 u1 u2 u3,v=.agg #[.int .i64 x.code,.int .i64 x.num,u0,.int .i64 x.box.valid,.int .i64 x.box.next,.int .i64 x.box.seq,u1,u2,.int .i64 x.box.lost,u3]∧BoxV w (.agg #[u0,.int .i64 x.box.valid,.int .i64 x.box.next,.int .i64 x.box.seq,u1,u2,.int .i64 x.box.lost]) x.box∧NamesV w u3 x.names∧I64 x.code∧I64 x.num
theorem RepV.below {w w':World} {v:Value} {x:RepD} (h:RepV w v x) (hb:Below w.heap.size w w'):RepV w' v x :=
 let ⟨u0,u1,u2,u3,h0,h1,h2,i⟩:=h;⟨u0,u1,u2,u3,h0,h1.below hb,h2.below keepsName hb,i⟩
/-- A reply of the call's own in blocks from B on and below T. -/
def RepR (w:World) (B T:Nat) (v:Value) (x:RepD):Prop :=
 ∃ u0 u1 u2 u3 T0,v=.agg #[.int .i64 x.code,.int .i64 x.num,u0,.int .i64 x.box.valid,.int .i64 x.box.next,.int .i64 x.box.seq,u1,u2,.int .i64 x.box.lost,u3]∧BoxE w [u0,.int .i64 x.box.valid,.int .i64 x.box.next,.int .i64 x.box.seq,u1,u2,.int .i64 x.box.lost] x.box (In B T0)∧NamesO w (In T0 T) u3 x.names∧B≤T0∧T0≤T∧I64 x.code∧I64 x.num
theorem BoxE.wide {w:World} {c:List Value} {b:BoxD} {S S':Nat→Prop} (h:BoxE w c b S) (hS:∀ x,S x→S' x):BoxE w c b S' :=
 let ⟨u0,u1,u2,S0,S1,S2,h0,h1,h2,h3,d0,d1,d2,r⟩:=h
 ⟨u0,u1,u2,S0,S1,S2,h0,h1,h2,h3,fun x hx=>⟨hS x (d0 x hx).1,(d0 x hx).2⟩,fun x hx=>⟨hS x (d1 x hx).1,(d1 x hx).2⟩,fun x hx=>hS x (d2 x hx),r⟩
theorem BoxE.set {w:World} {g i B T:Nat} {c:List Value} {x:Value} {b:BoxD} (h:BoxE w c b (In B T)) (hd:g < B∨T≤g):BoxE (w.setCell ⟨g,i,none⟩ x) c b (In B T) :=
 framesBox _ _ _ _ _ h fun b hb hlt=>Below.heap_setCell _ _ _ _ (by have:=hb.1;have:=hb.2;show b≠g;omega)
section
variable {w w' : World} {B T B' T' : Nat} {v : Value} {y : RepD}
theorem RepR.below (h:RepR w B T v y) (hb:Below w.heap.size w w'):RepR w' B T v y :=
 let ⟨u0,u1,u2,u3,T0,h0,h1,h2,r⟩:=h;⟨u0,u1,u2,u3,T0,h0,framesBox _ _ _ _ _ h1 fun b _ hlt=>hb.block b hlt,h2.below framesName hb,r⟩
theorem RepR.wide (h:RepR w B T v y) (hB:B'≤B) (hT:T≤T'):RepR w B' T' v y :=
 let ⟨u0,u1,u2,u3,T0,h0,h1,h2,j0,j1,i⟩:=h
 ⟨u0,u1,u2,u3,T0,h0,h1.wide fun x hx=>⟨Nat.le_trans hB hx.1,hx.2⟩,h2.mono fun x hx=>⟨hx.1,Nat.lt_of_lt_of_le hx.2 hT⟩,by omega,by omega,i⟩
end
theorem bx10 {w:World} {g:Nat} {t:TypeId} {c0 c1 c2 c3 c4 c5 c6 c7 c8 c9:Value} (h:w.heap[g]?=some (.cells #[c0,c1,c2,c3,c4,c5,c6,c7,c8,c9] t (0,0))) :
  w.cell? ⟨g,0,none⟩=some c0∧w.cell? ⟨g,1,none⟩=some c1∧w.cell? ⟨g,2,none⟩=some c2∧w.cell? ⟨g,3,none⟩=some c3∧w.cell? ⟨g,4,none⟩=some c4∧w.cell? ⟨g,5,none⟩=some c5∧w.cell? ⟨g,6,none⟩=some c6∧w.cell? ⟨g,7,none⟩=some c7∧w.cell? ⟨g,8,none⟩=some c8∧w.cell? ⟨g,9,none⟩=some c9 :=
 ⟨by rw [cell_of_row w g 0 _ t (0,0) h];rfl,by rw [cell_of_row w g 1 _ t (0,0) h];rfl,by rw [cell_of_row w g 2 _ t (0,0) h];rfl,by rw [cell_of_row w g 3 _ t (0,0) h];rfl,by rw [cell_of_row w g 4 _ t (0,0) h];rfl,by rw [cell_of_row w g 5 _ t (0,0) h];rfl,by rw [cell_of_row w g 6 _ t (0,0) h];rfl,by rw [cell_of_row w g 7 _ t (0,0) h];rfl,by rw [cell_of_row w g 8 _ t (0,0) h];rfl,by rw [cell_of_row w g 9 _ t (0,0) h];rfl⟩
/-- A reply's shape laid open, and its parts. -/
theorem RepV.form {w:World} {v:Value} {x:RepD} (h:RepV w v x):∃ a0 n0 c0 a1 c1 a2 c2 a3 c3,v=.agg #[.int .i64 x.code,.int .i64 x.num,.slice a0 n0 c0,.int .i64 x.box.valid,.int .i64 x.box.next,.int .i64 x.box.seq,.slice a1 x.box.mails.length c1,.slice a2 x.box.gones.length c2,.int .i64 x.box.lost,.slice a3 x.names.length c3]:=by
 obtain ⟨u0,u1,u2,u3,rfl,⟨p0,p1,p2,e,q0,q1,q2,-⟩,q3,-⟩:=h
 simp only [Value.agg.injEq,Array.mk.injEq,List.cons.injEq,and_true,true_and] at e
 obtain ⟨rfl,rfl,rfl⟩:=e
 obtain ⟨a0,n0,c0,rfl⟩:=q0.form3
 obtain ⟨a1,c1,rfl,-⟩:=q1.form
 obtain ⟨a2,c2,rfl,-⟩:=q2.form
 obtain ⟨a3,c3,rfl,-⟩:=q3.form
 exact ⟨_,_,_,_,_,_,_,_,_,rfl⟩
theorem RepV.parts {w:World} {z0 z1 z2 z3:Value} {x:RepD} (h:RepV w (.agg #[.int .i64 x.code,.int .i64 x.num,z0,.int .i64 x.box.valid,.int .i64 x.box.next,.int .i64 x.box.seq,z1,z2,.int .i64 x.box.lost,z3]) x):BoxV w (.agg #[z0,.int .i64 x.box.valid,.int .i64 x.box.next,.int .i64 x.box.seq,z1,z2,.int .i64 x.box.lost]) x.box∧NamesV w z3 x.names∧I64 x.code∧I64 x.num:=by
 obtain ⟨u0,u1,u2,u3,e,h1,h2,i⟩:=h
 simp only [Value.agg.injEq,Array.mk.injEq,List.cons.injEq,and_true,true_and] at e
 obtain ⟨rfl,rfl,rfl,rfl⟩:=e
 exact ⟨h1,h2,i⟩

end Go.Proofs.YtnlhkgoppjejeaaDoor

/- What l4getAccount of package spec does: an account is read behind a cursor. -/
namespace Go.Proofs.YtnlhkgoppjejeaaDoor
open Go.RowKit
set_option linter.unusedVariables false

theorem Ow.form3 {α:Type} {t:TypeId} {sz:Nat} {E:World→List Value→α→(Nat→Prop)→Prop} {w:World} {S:Nat→Prop} {v:Value} {l:List α} (h:Ow t sz E w S v l):∃ a n cap,v=.slice a n cap:=by
 rcases h with ⟨rfl,_⟩ | ⟨g,cap,cur,cs,fs,hv,_⟩
 ·exact ⟨_,_,_,rfl⟩
 ·exact ⟨_,_,_,hv⟩
theorem BoxE.form {w:World} {c:List Value} {b:BoxD} {S:Nat→Prop} (h:BoxE w c b S):∃ a0 n0 c0 a1 n1 c1 a2 n2 c2,c=[.slice a0 n0 c0,.int .i64 b.valid,.int .i64 b.next,.int .i64 b.seq,.slice a1 n1 c1,.slice a2 n2 c2,.int .i64 b.lost]:=by
 obtain ⟨u0,u1,u2,S0,S1,S2,rfl,h0,h1,h2,-⟩:=h
 obtain ⟨a0,n0,c0,rfl⟩:=h0.bs.form3
 obtain ⟨a1,n1,c1,rfl⟩:=h1.form3
 obtain ⟨a2,n2,c2,rfl⟩:=h2.form3
 exact ⟨_,_,_,_,_,_,_,_,_,rfl⟩
theorem one7 {a0 a1 a2:Option Addr} {n0 n1 n2 c0 c1 c2:Nat} {i j k m:Int}:∀ u ∈ [Value.slice a0 n0 c0,.int .i64 i,.int .i64 j,.int .i64 k,.slice a1 n1 c1,.slice a2 n2 c2,.int .i64 m],Value.oneCell' u=true:=by
 intro u hu
 simp only [List.mem_cons,List.not_mem_nil,or_false] at hu
 rcases hu with rfl | rfl | rfl | rfl | rfl | rfl | rfl <;> rfl
theorem one1 {i:Int}:∀ u ∈ [Value.int .i64 i],Value.oneCell' u=true:=by
 intro u hu
 simp only [List.mem_cons,List.not_mem_nil,or_false] at hu
 rcases hu with rfl
 rfl
end Go.Proofs.YtnlhkgoppjejeaaDoor

/- What (*byteReader).account of package impl does: an account is read, or it gives up. -/
namespace Go.Proofs.YtnlhkgoppjejeaaDoor
open Go.RowKit
set_option maxRecDepth 100000
set_option linter.unusedVariables false
set_option linter.unusedSimpArgs false

theorem tabS_rdA4:(Tryd.f24.body.bind (opsAt 4)).all (fun o=>tableS o 8 [0,1,2,3,4,5,6,7] [3,4,5,7] [6,8] 0)=true:=by kernel_rfl
theorem tabS_rdA8:(Tryd.f24.body.bind (opsAt 8)).all (fun o=>tableS o 8 [0,1,2,3,4,5,6,7] [3,4,5,7] [6,8] 0)=true:=by kernel_rfl
theorem iBox_bd {l:List Int} {p:Int} {r:BoxD × Int} (hl:l.length≤2000000) (ho:Oct l) (h0:0≤p) (h:iBox l p=some r):0≤r.2∧r.2≤9000000:=by
 have:=wrt_box ho p r h0 h
 exact ⟨this.2,by have:=this.1.2.1;omega⟩

set_option maxRecDepth 100000 in
set_option maxHeartbeats 8000000 in
theorem account_c (g:Nat) (bv:Value) (l:List Int) (p:Int) (ea:Addr) (w:World) (hc:w.heap[g]?=some (.cells #[bv,.int .i64 p] 54 (0,0))) (hb:∀ wi,w.grownBy wi (some g)→Bs wi bv l) (hE:Gave w ea) (hne:g≠1) (hl:l.length≤2000000) (hp0:0≤p) (hp1:p≤9000000) :
  Calls Tryd.prog 24 #[.pointer (some ⟨g,0,none⟩)] w fun e w'=>((∃ r u,iAcc l p=some r∧e=.returned u∧AccO w' (In w.heap.size w'.heap.size) u r.1∧w'.heap[g]?=some (.cells #[bv,.int .i64 r.2] 54 (0,0)))∨(iAcc l p=none∧e=gaveUp ea))∧w.grownBy w' (some g):=by
 have hlg:g < w.heap.size:=lt_of_heap hc
 have HOC:Hid (Oct l):=(hb w (World.grownBy.refl _ _)).1
 have HB:Hid (∀ wi,w.grownBy wi (some g)→Bs wi bv l):=hb
 have HE:Hid (Gave w ea):=hE
 obtain ⟨ba,bn,bc,rfl⟩:=(hb w (World.grownBy.refl _ _)).form3
 obtain ⟨i0,hi,hz0,hz1,hz2⟩:=info_parts infoBox
 obtain ⟨i1,hj,hy0,hy1,hy2⟩:=info_parts infoInt
 have HI0:Hid (iAcc l p=(iN l p).bind fun a=>(iC l 4 a.2).bind fun b=>(iMany (iBox l) b.1.toNat b.2).bind fun c=>(iC l 60 c.2).bind fun d=>(iMany (iN l) d.1.toNat d.2).bind fun e=>some (⟨a.1,c.1,e.1⟩,e.2)):=rfl
 have HG0:Hid (w.grownBy (w.alloc (.cells #[.int .i64 0,.slice none 0 0,.slice none 0 0] 26)) (some g)):=gr_alloc (World.grownBy.refl _ _)
 have HC0:Hid ((w.alloc (.cells #[.int .i64 0,.slice none 0 0,.slice none 0 0] 26)).heap[g]?=some (.cells #[.slice ba bn bc,.int .i64 p] 54 (0,0))):=gr_at (gr_alloc (g:=w.heap.size) (World.grownBy.refl _ _)) hc (by omega)
 have HR0:Hid ((w.alloc (.cells #[.int .i64 0,.slice none 0 0,.slice none 0 0] 26)).heap[w.heap.size]?=some (.cells #[.int .i64 0,.slice none 0 0,.slice none 0 0] 26 (0,0))):=box_new w _
 have hsz0:(w.alloc (.cells #[.int .i64 0,.slice none 0 0,.slice none 0 0] 26)).heap.size=w.heap.size+1:=by simp
 clear hb hc hE
 go_enter Tryd.func24,Tryd.ntmps24
 go_wp2_with fail
 refine (num_c g _ l p ea _ HC0.out (fun wi h=>HB.out wi (grownBy_trans (HG0.out) h)) (HE.out.gr (HG0.out) hne) hl hp0 hp1).mono ?_
 rintro e y0 ⟨hh,G⟩
 rcases hh with ⟨ry0,hr,rfl,KC⟩ | ⟨hr,rfl⟩
 rotate_left
 ·have HNO:Hid (iAcc l p=none):=by show _=_;rw [HI0.out,hr];rfl
  have HGN:Hid (w.grownBy y0 (some g)):=grownBy_trans (HG0.out) G
  clear hr
  go_wp2
  exact ⟨rfl,.inr ⟨HNO.out,rfl⟩,HGN.out⟩
 obtain ⟨n0,p0⟩:=ry0
 have HY0:Hid (iAcc l p=(iC l 4 p0).bind fun b=>(iMany (iBox l) b.1.toNat b.2).bind fun c=>(iC l 60 c.2).bind fun d=>(iMany (iN l) d.1.toNat d.2).bind fun e=>some (⟨n0,c.1,e.1⟩,e.2)):=by show _=_;rw [HI0.out,hr];rfl
 obtain ⟨bd0,hq0,hq1⟩:=iN_bd hl hr
 have HG1:Hid (w.grownBy y0 (some g)):=grownBy_trans HG0.out G
 have HC1:Hid (y0.heap[g]?=some (.cells #[.slice ba bn bc,.int .i64 p0] 54 (0,0))):=KC
 have HR1:Hid (y0.heap[w.heap.size]?=some (.cells #[.int .i64 0,.slice none 0 0,.slice none 0 0] 26 (0,0))):=gr_at G HR0.out (by omega)
 have s1:w.heap.size+1≤y0.heap.size:=by have:=G.size;omega
 clear hr KC G HI0 HG0 HC0 HR0
 go_wp2_with fail
 have HX6:Hid ((y0.alloc (.cells #[.int .i64 n0,.slice none 0 0,.slice none 0 0] 26)).heap[y0.heap.size]?=some (.cells #[.int .i64 n0,.slice none 0 0,.slice none 0 0] 26 (0,0))):=box_new y0 _
 have HC6:Hid ((y0.alloc (.cells #[.int .i64 n0,.slice none 0 0,.slice none 0 0] 26)).heap[g]?=some (.cells #[.slice ba bn bc,.int .i64 p0] 54 (0,0))):=gr_at (gr_alloc (g:=y0.heap.size) (World.grownBy.refl _ _)) HC1.out (by omega)
 have HG6:Hid (w.grownBy (y0.alloc (.cells #[.int .i64 n0,.slice none 0 0,.slice none 0 0] 26)) (some g)):=gr_alloc HG1.out
 have HR6:Hid ((y0.alloc (.cells #[.int .i64 n0,.slice none 0 0,.slice none 0 0] 26)).heap[w.heap.size]?=some (.cells #[.int .i64 0,.slice none 0 0,.slice none 0 0] 26 (0,0))):=gr_at (gr_alloc (g:=y0.heap.size) (World.grownBy.refl _ _)) HR1.out (by omega)
 have sx6:y0.heap.size+1≤(y0.alloc (.cells #[.int .i64 n0,.slice none 0 0,.slice none 0 0] 26)).heap.size:=by simp
 clear HC1 HG1 HR1
 refine (count_c g _ l p0 4 ea _ HC6.out (fun wi h=>HB.out wi (grownBy_trans (HG6.out) h)) (HE.out.gr (HG6.out) hne) hne hl hq0 hq1 (by omega) (by omega)).mono ?_
 rintro e y5 ⟨hh,G⟩
 rcases hh with ⟨ry5,hr,rfl,KC⟩ | ⟨hr,rfl⟩
 rotate_left
 ·have HNO:Hid (iAcc l p=none):=by show _=_;rw [HY0.out,hr];rfl
  have HGN:Hid (w.grownBy y5 (some g)):=grownBy_trans (HG6.out) G
  clear hr
  go_wp2
  exact ⟨rfl,.inr ⟨HNO.out,rfl⟩,HGN.out⟩
 obtain ⟨n5,p5⟩:=ry5
 clear hq0 hq1
 obtain ⟨bd5,hq0,hq1⟩:=iC_bd hl hr
 have HM:Hid (iAcc l p=(iMany (iBox l) n5.toNat p5).bind (fun c:List BoxD × Int=>(iC l 60 c.2).bind fun d=>(iMany (iN l) d.1.toNat d.2).bind fun e=>some ((⟨n0,c.1,e.1⟩:AccD),e.2))):=by show _=_;rw [HY0.out,hr];rfl
 have HGy:Hid (w.grownBy y5 (some g)):=grownBy_trans HG6.out G
 have HCy:Hid (y5.heap[g]?=some (.cells #[.slice ba bn bc,.int .i64 p5] 54 (0,0))):=KC
 have HRy:Hid (y5.heap[w.heap.size]?=some (.cells #[.int .i64 0,.slice none 0 0,.slice none 0 0] 26 (0,0))):=gr_at G HR6.out (by omega)
 have HXy:Hid (y5.heap[y0.heap.size]?=some (.cells #[.int .i64 n0,.slice none 0 0,.slice none 0 0] 26 (0,0))):=gr_at G HX6.out (by omega)
 have hsy:y0.heap.size+1≤y5.heap.size:=by have:=G.size;omega
 clear hr KC G HY0 HG6 HC6 HR6 HX6 sx6
 obtain ⟨n5',rfl⟩:∃ n:Nat,n5=n:=⟨n5.toNat,by omega⟩
 rw [Int.toNat_natCast] at HM
 go_wp2
 go_loopw [9] (fun i wr=>∃ (c:Nat) (q:Int) (ms:List BoxD) (va:Option Addr) (vn vc:Nat),c≤n5'∧i=.int .i64 c∧0≤q∧q≤9000000∧Hid (iAcc l p=(iMany (iBox l) (n5' - c) q).bind (fun r=>(fun c:List BoxD × Int=>(iC l 60 c.2).bind fun d=>(iMany (iN l) d.1.toNat d.2).bind fun e=>some ((⟨n0,c.1,e.1⟩:AccD),e.2)) (ms ++ r.1,r.2))∧ms.length=c)∧Hid (w.grownBy wr (some g))∧Hid (wr.heap[g]?=some (.cells #[.slice ba bn bc,.int .i64 q] 54 (0,0)))∧Hid (wr.heap[y0.heap.size]?=some (.cells #[.int .i64 n0,.slice va vn vc,.slice none 0 0] 26 (0,0)))∧Hid (wr.heap[w.heap.size]?=some (.cells #[.int .i64 0,.slice none 0 0,.slice none 0 0] 26 (0,0)))∧y0.heap.size+1≤wr.heap.size∧Hid (BoxesR wr (y0.heap.size+1) wr.heap.size (.slice va vn vc) ms)) (fun i _=>n5' - (intOf i).toNat)
 case atStart=>exact ⟨0,p5,[],none,0,0,Nat.zero_le _,rfl,hq0,hq1,⟨manyI_start (g:=iBox l) (F:=(fun c:List BoxD × Int=>(iC l 60 c.2).bind fun d=>(iMany (iN l) d.1.toNat d.2).bind fun e=>some ((⟨n0,c.1,e.1⟩:AccD),e.2))) HM.out,rfl⟩,HGy,HCy,HXy,HRy,hsy,.inl ⟨rfl,rfl⟩⟩
 case round =>
  obtain ⟨c,q,ms,va,vn,vc,hc,rfl,hq0,hq1,HM1,HG,HC,HX,HR,hs,HO⟩:=hrel
  clear HM HGy HCy HXy HRy hsy
  by_cases hgo:c < n5'
  ·have DR:Below wr.heap.size wr wr.drew:=(Below.refl _ _).drew
   obtain ⟨x0,x1,x2⟩:=bx3 HX.out
   have lx:=lt_of_heap HX.out
   have HLn:Hid (ms.length=c):=HM1.out.2
   go_upto_region 4 with fail
   refine wpS_begin 6 (S:=fun w'=>w'.cell? ⟨y0.heap.size,1,none⟩=some (.slice va vn vc)) (tabS_of (by kernel_rfl) tabS_rdA4) (by kernel_rfl) (x1) (fun hTb hHeld=>?_)
   refine tks 0 0 11 hTb hHeld ?_
   refine tks 1 1 12 hTb hHeld ?_
   refine tks 2 2 13 hTb hHeld ?_
   refine cls 3 3 hTb (by decide) rfl rfl (fun K hK=>?_)
   go_simp
   refine (box_c g _ l q ea _ (box_below DR HC.out) (fun wi h=>HB.out wi (grownBy_trans (gr_below HG.out DR) h)) (HE.out.gr (gr_below HG.out DR) hne) hne hl hq0 hq1).mono ?_
   rintro e w4 ⟨hh,G⟩
   rcases hh with ⟨rw4,uw4,hr,rfl,Rw4,KC⟩ | ⟨hr,rfl⟩
   rotate_left
   ·have HNO:Hid (iAcc l p=none):=manyI_none (g:=iBox l) (F:=(fun c:List BoxD × Int=>(iC l 60 c.2).bind fun d=>(iMany (iN l) d.1.toNat d.2).bind fun e=>some ((⟨n0,c.1,e.1⟩:AccD),e.2))) HM1.out.1 hgo hr
    have HGN:Hid (w.grownBy w4 (some g)):=grownBy_trans (gr_below HG.out DR) G
    clear hr
    go_wp2
    exact ⟨rfl,.inr ⟨HNO.out,rfl⟩,HGN.out⟩
   obtain ⟨X,Y⟩:=rw4
   obtain ⟨cs,hcs,hEb⟩:=Rw4
   subst hcs
   obtain ⟨a0,k0,c0,a1,k1,c1,a2,k2,c2,rfl⟩:=hEb.form
   have hbx:=iBox_bd hl HOC.out hq0 hr
   have HXY:Hid (iBox l q=some (X,Y)):=hr
   have HE4:Hid (BoxE w4 [.slice a0 k0 c0,.int .i64 X.valid,.int .i64 X.next,.int .i64 X.seq,.slice a1 k1 c1,.slice a2 k2 c2,.int .i64 X.lost] X (In wr.heap.size w4.heap.size)):=hEb
   have G4:wr.grownBy w4 (some g):=grownBy_trans (gr_below (World.grownBy.refl wr _) DR) G
   have KC4:Hid (w4.heap[g]?=some (.cells #[.slice ba bn bc,.int .i64 Y] 54 (0,0))):=KC
   have HX4:Hid (w4.heap[y0.heap.size]?=some (.cells #[.int .i64 n0,.slice va vn vc,.slice none 0 0] 26 (0,0))):=gr_at G4 HX.out (by omega)
   have HR4:Hid (w4.heap[w.heap.size]?=some (.cells #[.int .i64 0,.slice none 0 0,.slice none 0 0] 26 (0,0))):=gr_at G4 HR.out (by omega)
   have HG4:Hid (w.grownBy w4 (some g)):=grownBy_trans HG.out G4
   have HO4:Hid (BoxesR w4 (y0.heap.size+1) wr.heap.size (.slice va vn vc) ms):=OwR.gr HO.out G4 (.inl (by omega))
   have hs4:wr.heap.size≤w4.heap.size:=G4.size
   clear hr KC hEb G G4 HX HR HG HO HC DR x0 x1 x2
   refine hK.out _ _ ((bx3 HX4.out).2.1) (fun hHeld=>?_)
   clear hK K
   refine cls 4 4 hTb (by decide) rfl rfl (fun K hK=>?_)
   go_simp
   have AB:Below w4.heap.size w4 (w4.alloc (.cells #[.slice a0 k0 c0,.int .i64 X.valid,.int .i64 X.next,.int .i64 X.seq,.slice a1 k1 c1,.slice a2 k2 c2,.int .i64 X.lost] 44)):=(Below.refl _ _).alloc (Nat.le_refl _) _
   refine hK.out _ _ ((bx3 (box_below AB HX4.out)).2.1) (fun hHeld=>?_)
   clear hK K
   refine cls 5 5 hTb (by decide) rfl rfl (fun K hK=>?_)
   have hMs:wr.heap.size≤(w4.alloc (.cells #[.slice a0 k0 c0,.int .i64 X.valid,.int .i64 X.next,.int .i64 X.seq,.slice a1 k1 c1,.slice a2 k2 c2,.int .i64 X.lost] 44)).heap.size:=by simp;omega
   have HEa:BoxE (w4.alloc (.cells #[.slice a0 k0 c0,.int .i64 X.valid,.int .i64 X.next,.int .i64 X.seq,.slice a1 k1 c1,.slice a2 k2 c2,.int .i64 X.lost] 44)) [.slice a0 k0 c0,.int .i64 X.valid,.int .i64 X.next,.int .i64 X.seq,.slice a1 k1 c1,.slice a2 k2 c2,.int .i64 X.lost] X (In wr.heap.size (w4.alloc (.cells #[.slice a0 k0 c0,.int .i64 X.valid,.int .i64 X.next,.int .i64 X.seq,.slice a1 k1 c1,.slice a2 k2 c2,.int .i64 X.lost] 44)).heap.size):=BoxE.wide (framesBox _ _ _ _ _ HE4.out fun b _ hlt=>AB.block b hlt) (fun x hx=>⟨hx.1,by have:=hx.2;simp;omega⟩)
   have hl1:ms.length+1≤maxLen:=by have:=HLn.out;unfold maxLen;omega
   have hl2:(ms.length+1) * 104≤140737488355328:=by have:=HLn.out;omega
   refine ite_w (by kernel_rfl) (wp_push 16 rfl (.tmp 12) (.tmp 15) rfl framesBox (B:=y0.heap.size+1) (M:=wr.heap.size) (OwR.below HO4.out AB) hMs hs Tryd.underlying23 hi hz0 hz1 hz2 rfl (by omega) rfl X [.slice a0 k0 c0,.int .i64 X.valid,.int .i64 X.next,.int .i64 X.seq,.slice a1 k1 c1,.slice a2 k2 c2,.int .i64 X.lost] rfl HEa ⟨w4.heap.size,0,none⟩ 1 rfl (cells_new w4 _ _) one7 hl1 hl2 ?_)
   intro DV wz hO hgz hvz
   obtain ⟨da,dn,dc,hDV⟩:=OwR.form3 hO
   subst hDV
   have hge:∀ j,(Value.slice va vn vc).ownBlock=some j→y0.heap.size+1≤j:=fun j hj=>(hvz j hj).1
   have KX:=grown_at hgz hge (box_below AB HX4.out) (by omega)
   have HCz:Hid (wz.heap[g]?=_):=grown_at hgz hge (box_below AB KC4.out) (by omega)
   have HRz:Hid (wz.heap[w.heap.size]?=_):=grown_at hgz hge (box_below AB HR4.out) (by omega)
   have HGz:Hid (w.grownBy wz (some g)):=gr_push (gr_below HG4.out AB) hgz (fun j hj=>by have:=hge j hj;omega)
   have sz:w4.heap.size+1≤wz.heap.size:=by have:=hgz.size;simpa using this
   obtain ⟨zx,zl⟩:=box8z KX
   obtain ⟨d0,d1,d2⟩:=bx3 KX
   refine hK.out _ _ (d1) (fun hHeld=>?_)
   clear hK K
   refine wpS_next (S':=fun w'=>True) 6 8 hTb (by decide) (trivial) (fun hHeld=>?_)
   refine tks 6 6 17 hTb hHeld ?_
   refine cls 7 7 hTb (by decide) rfl rfl (fun K hK=>?_)
   go_simp
   refine hK.out _ _ (trivial) (fun hHeld=>?_)
   clear hK K
   refine wpS_end hTb ?_
   have HL2:Hid (iAcc l p=(iMany (iBox l) (n5' - (c+1)) Y).bind (fun r=>(fun c:List BoxD × Int=>(iC l 60 c.2).bind fun d=>(iMany (iN l) d.1.toNat d.2).bind fun e=>some ((⟨n0,c.1,e.1⟩:AccD),e.2)) (ms ++ [X] ++ r.1,r.2))):=manyI_step (g:=iBox l) (F:=(fun c:List BoxD × Int=>(iC l 60 c.2).bind fun d=>(iMany (iN l) d.1.toNat d.2).bind fun e=>some ((⟨n0,c.1,e.1⟩:AccD),e.2))) HM1.out.1 hgo HXY.out
   have HX5:Hid ((wz.setCell ⟨y0.heap.size,1,none⟩ (.slice da dn dc)).heap[y0.heap.size]?=some (.cells #[.int .i64 n0,.slice da dn dc,.slice none 0 0] 26 (0,0))):=box_set KX
   have HC5:Hid ((wz.setCell ⟨y0.heap.size,1,none⟩ (.slice da dn dc)).heap[g]?=_):=box_other HCz.out (by omega)
   have HR5:Hid ((wz.setCell ⟨y0.heap.size,1,none⟩ (.slice da dn dc)).heap[w.heap.size]?=_):=box_other HRz.out (by omega)
   have HG5:Hid (w.grownBy (wz.setCell ⟨y0.heap.size,1,none⟩ (.slice da dn dc)) (some g)):=gr_set HGz.out (by omega)
   have HO5:Hid (BoxesR (wz.setCell ⟨y0.heap.size,1,none⟩ (.slice da dn dc)) (y0.heap.size+1) (wz.setCell ⟨y0.heap.size,1,none⟩ (.slice da dn dc)).heap.size (.slice da dn dc) (ms ++ [X])):=by show BoxesR _ _ _ _ _;rw [box_size];exact OwR.set hO (.inl (by omega))
   have hs5:y0.heap.size+1≤(wz.setCell ⟨y0.heap.size,1,none⟩ (.slice da dn dc)).heap.size:=by rw [box_size];omega
   have hlen5:Hid ((ms ++ [X]).length=c+1):=by show _=_;simp [HLn.out]
   clear KX HCz HRz HGz HX4 KC4 HR4 HG4 HO4 HE4 HEa hO hgz hvz hge AB hl1 hl2 HLn HXY HM1
   go_wp2
   go_roundw
   case rel=>exact ⟨c+1,Y,_,da,dn,dc,by omega,by go_num,hbx.1,hbx.2,⟨HL2.out,hlen5.out⟩,HG5,HC5,HX5,HR5,hs5,HO5⟩
   case measure=>simp [intOf];omega
  ·obtain rfl:c=n5':=by omega
   have HME:Hid (iAcc l p=(fun c:List BoxD × Int=>(iC l 60 c.2).bind fun d=>(iMany (iN l) d.1.toNat d.2).bind fun e=>some ((⟨n0,c.1,e.1⟩:AccD),e.2)) (ms,q)):=manyI_end (g:=iBox l) (F:=(fun c:List BoxD × Int=>(iC l 60 c.2).bind fun d=>(iMany (iN l) d.1.toNat d.2).bind fun e=>some ((⟨n0,c.1,e.1⟩:AccD),e.2))) HM1.out.1 (Nat.le_refl _)
   clear HM1
   go_wp2_with fail
   refine (count_c g _ l q 60 ea _ HC.out (fun wi h=>HB.out wi (grownBy_trans (HG.out) h)) (HE.out.gr (HG.out) hne) hne hl hq0 hq1 (by omega) (by omega)).mono ?_
   rintro e z0 ⟨hh,G⟩
   rcases hh with ⟨rz0,hr,rfl,KC⟩ | ⟨hr,rfl⟩
   rotate_left
   ·have HNO:Hid (iAcc l p=none):=by show _=_;rw [HME.out];simp only [hr];rfl
    have HGN:Hid (w.grownBy z0 (some g)):=grownBy_trans (HG.out) G
    clear hr
    go_wp2
    exact ⟨rfl,.inr ⟨HNO.out,rfl⟩,HGN.out⟩
   obtain ⟨n6,p6⟩:=rz0
   obtain ⟨bd6,hr0,hr1⟩:=iC_bd hl hr
   have HM6:Hid (iAcc l p=(iMany (iN l) n6.toNat p6).bind (fun e:List Int × Int=>some ((⟨n0,ms,e.1⟩:AccD),e.2))):=by show _=_;rw [HME.out];simp only [hr];rfl
   have HG1:Hid (w.grownBy z0 (some g)):=grownBy_trans HG.out G
   have HC1:Hid (z0.heap[g]?=some (.cells #[.slice ba bn bc,.int .i64 p6] 54 (0,0))):=KC
   have HX1:Hid (z0.heap[y0.heap.size]?=some (.cells #[.int .i64 n0,.slice va vn vc,.slice none 0 0] 26 (0,0))):=gr_at G HX.out (by omega)
   have HR1:Hid (z0.heap[w.heap.size]?=some (.cells #[.int .i64 0,.slice none 0 0,.slice none 0 0] 26 (0,0))):=gr_at G HR.out (by omega)
   have HO1:Hid (BoxesR z0 (y0.heap.size+1) z0.heap.size (.slice va vn vc) ms):=OwR.wide (OwR.gr HO.out G (.inl (by omega))) (Nat.le_refl _) G.size
   have hs1:y0.heap.size+1≤z0.heap.size:=by have:=G.size;omega
   clear hr KC G HME HG HC HX HR HO hgo
   obtain ⟨n6',rfl⟩:∃ n:Nat,n6=n:=⟨n6.toNat,by omega⟩
   rw [Int.toNat_natCast] at HM6
   go_wp2
   go_loopw [21] (fun i wr=>∃ (c:Nat) (q:Int) (gs:List Int) (ga:Option Addr) (gn gc:Nat),c≤n6'∧i=.int .i64 c∧0≤q∧q≤9000000∧Hid (iAcc l p=(iMany (iN l) (n6' - c) q).bind (fun r=>(fun e:List Int × Int=>some ((⟨n0,ms,e.1⟩:AccD),e.2)) (gs ++ r.1,r.2))∧gs.length=c)∧Hid (w.grownBy wr (some g))∧Hid (wr.heap[g]?=some (.cells #[.slice ba bn bc,.int .i64 q] 54 (0,0)))∧Hid (wr.heap[y0.heap.size]?=some (.cells #[.int .i64 n0,.slice va vn vc,.slice ga gn gc] 26 (0,0)))∧Hid (wr.heap[w.heap.size]?=some (.cells #[.int .i64 0,.slice none 0 0,.slice none 0 0] 26 (0,0)))∧z0.heap.size≤wr.heap.size∧Hid (BoxesR wr (y0.heap.size+1) z0.heap.size (.slice va vn vc) ms)∧Hid (IntsR wr z0.heap.size wr.heap.size (.slice ga gn gc) gs)) (fun i _=>n6' - (intOf i).toNat)
   case atStart=>exact ⟨0,p6,[],none,0,0,Nat.zero_le _,rfl,hr0,hr1,⟨manyI_start (g:=iN l) (F:=(fun e:List Int × Int=>some ((⟨n0,ms,e.1⟩:AccD),e.2))) HM6.out,rfl⟩,HG1,HC1,HX1,HR1,Nat.le_refl _,HO1,.inl ⟨rfl,rfl⟩⟩
   case round =>
    obtain ⟨c,q,gs,ga,gn,gc,hc,rfl,hq0,hq1,HM1,HG,HC,HX,HR,hs,HO,HP⟩:=hrel
    clear HM6 HG1 HC1 HX1 HR1 HO1 hr0 hr1
    by_cases hgo:c < n6'
    ·have DR:Below wr.heap.size wr wr.drew:=(Below.refl _ _).drew
     obtain ⟨x0,x1,x2⟩:=bx3 HX.out
     have lx:=lt_of_heap HX.out
     have HLn:Hid (gs.length=c):=HM1.out.2
     go_upto_region 8 with fail
     refine wpS_begin 6 (S:=fun w'=>w'.cell? ⟨y0.heap.size,2,none⟩=some (.slice ga gn gc)) (tabS_of (by kernel_rfl) tabS_rdA8) (by kernel_rfl) (x2) (fun hTb hHeld=>?_)
     refine tks 0 0 23 hTb hHeld ?_
     refine tks 1 1 24 hTb hHeld ?_
     refine tks 2 2 25 hTb hHeld ?_
     refine cls 3 3 hTb (by decide) rfl rfl (fun K hK=>?_)
     go_simp
     refine (num_c g _ l q ea _ (box_below DR HC.out) (fun wi h=>HB.out wi (grownBy_trans (gr_below HG.out DR) h)) (HE.out.gr (gr_below HG.out DR) hne) hl hq0 hq1).mono ?_
     rintro e w4 ⟨hh,G⟩
     rcases hh with ⟨rw4,hr,rfl,KC⟩ | ⟨hr,rfl⟩
     rotate_left
     ·have HNO:Hid (iAcc l p=none):=manyI_none (g:=iN l) (F:=(fun e:List Int × Int=>some ((⟨n0,ms,e.1⟩:AccD),e.2))) HM1.out.1 hgo hr
      have HGN:Hid (w.grownBy w4 (some g)):=grownBy_trans (gr_below HG.out DR) G
      clear hr
      go_wp2
      exact ⟨rfl,.inr ⟨HNO.out,rfl⟩,HGN.out⟩
     obtain ⟨X,Y⟩:=rw4
     obtain ⟨hbi,hbx⟩:=iN_bd hl hr
     have HXY:Hid (iN l q=some (X,Y)):=hr
     have G4:wr.grownBy w4 (some g):=grownBy_trans (gr_below (World.grownBy.refl wr _) DR) G
     have KC4:Hid (w4.heap[g]?=some (.cells #[.slice ba bn bc,.int .i64 Y] 54 (0,0))):=KC
     have HX4:Hid (w4.heap[y0.heap.size]?=some (.cells #[.int .i64 n0,.slice va vn vc,.slice ga gn gc] 26 (0,0))):=gr_at G4 HX.out (by omega)
     have HR4:Hid (w4.heap[w.heap.size]?=some (.cells #[.int .i64 0,.slice none 0 0,.slice none 0 0] 26 (0,0))):=gr_at G4 HR.out (by omega)
     have HG4:Hid (w.grownBy w4 (some g)):=grownBy_trans HG.out G4
     have HO4:Hid (BoxesR w4 (y0.heap.size+1) z0.heap.size (.slice va vn vc) ms):=OwR.gr HO.out G4 (.inl (by omega))
     have HP4:Hid (IntsR w4 z0.heap.size wr.heap.size (.slice ga gn gc) gs):=OwR.gr HP.out G4 (.inl (by omega))
     have hs4:wr.heap.size≤w4.heap.size:=G4.size
     clear hr KC G G4 HX HR HG HO HP HC DR x0 x1 x2
     refine hK.out _ _ ((bx3 HX4.out).2.2) (fun hHeld=>?_)
     clear hK K
     refine cls 4 4 hTb (by decide) rfl rfl (fun K hK=>?_)
     go_simp
     have AB:Below w4.heap.size w4 (w4.alloc (.cells #[.int .i64 X] 3)):=(Below.refl _ _).alloc (Nat.le_refl _) _
     refine hK.out _ _ ((bx3 (box_below AB HX4.out)).2.2) (fun hHeld=>?_)
     clear hK K
     refine cls 5 5 hTb (by decide) rfl rfl (fun K hK=>?_)
     have hMs:wr.heap.size≤(w4.alloc (.cells #[.int .i64 X] 3)).heap.size:=by simp;omega
     have HEa:IntE (w4.alloc (.cells #[.int .i64 X] 3)) [.int .i64 X] X (In wr.heap.size (w4.alloc (.cells #[.int .i64 X] 3)).heap.size):=⟨rfl,i64_of hbi⟩
     have hl1:gs.length+1≤maxLen:=by have:=HLn.out;unfold maxLen;omega
     have hl2:(gs.length+1) * 8≤140737488355328:=by have:=HLn.out;omega
     refine ite_w (by kernel_rfl) (wp_push 28 rfl (.tmp 24) (.tmp 27) rfl framesInt (B:=z0.heap.size) (M:=wr.heap.size) (OwR.below HP4.out AB) hMs hs Tryd.underlying24 hj hy0 hy1 hy2 rfl (by omega) rfl X [.int .i64 X] rfl HEa ⟨w4.heap.size,0,none⟩ 1 rfl (cells_new w4 _ _) one1 hl1 hl2 ?_)
     intro DV wz hO hgz hvz
     obtain ⟨da,dn,dc,hDV⟩:=OwR.form3 hO
     subst hDV
     have hge:∀ j,(Value.slice ga gn gc).ownBlock=some j→z0.heap.size≤j:=fun j hj=>(hvz j hj).1
     have KX:=grown_at hgz hge (box_below AB HX4.out) (by omega)
     have HCz:Hid (wz.heap[g]?=_):=grown_at hgz hge (box_below AB KC4.out) (by omega)
     have HRz:Hid (wz.heap[w.heap.size]?=_):=grown_at hgz hge (box_below AB HR4.out) (by omega)
     have HGz:Hid (w.grownBy wz (some g)):=gr_push (gr_below HG4.out AB) hgz (fun j hj=>by have:=hge j hj;omega)
     have HOz:Hid (BoxesR wz (y0.heap.size+1) z0.heap.size (.slice va vn vc) ms):=OwR.gr' (OwR.below HO4.out AB) hgz (fun j hj=>by have:=hge j hj;omega)
     have sz:w4.heap.size+1≤wz.heap.size:=by have:=hgz.size;simpa using this
     obtain ⟨zx,zl⟩:=box8z KX
     obtain ⟨d0,d1,d2⟩:=bx3 KX
     refine hK.out _ _ (d2) (fun hHeld=>?_)
     clear hK K
     refine wpS_next (S':=fun w'=>True) 6 8 hTb (by decide) (trivial) (fun hHeld=>?_)
     refine tks 6 6 29 hTb hHeld ?_
     refine cls 7 7 hTb (by decide) rfl rfl (fun K hK=>?_)
     go_simp
     refine hK.out _ _ (trivial) (fun hHeld=>?_)
     clear hK K
     refine wpS_end hTb ?_
     have HL2:Hid (iAcc l p=(iMany (iN l) (n6' - (c+1)) Y).bind (fun r=>(fun e:List Int × Int=>some ((⟨n0,ms,e.1⟩:AccD),e.2)) (gs ++ [X] ++ r.1,r.2))):=manyI_step (g:=iN l) (F:=(fun e:List Int × Int=>some ((⟨n0,ms,e.1⟩:AccD),e.2))) HM1.out.1 hgo HXY.out
     have HX5:Hid ((wz.setCell ⟨y0.heap.size,2,none⟩ (.slice da dn dc)).heap[y0.heap.size]?=some (.cells #[.int .i64 n0,.slice va vn vc,.slice da dn dc] 26 (0,0))):=box_set KX
     have HC5:Hid ((wz.setCell ⟨y0.heap.size,2,none⟩ (.slice da dn dc)).heap[g]?=_):=box_other HCz.out (by omega)
     have HR5:Hid ((wz.setCell ⟨y0.heap.size,2,none⟩ (.slice da dn dc)).heap[w.heap.size]?=_):=box_other HRz.out (by omega)
     have HG5:Hid (w.grownBy (wz.setCell ⟨y0.heap.size,2,none⟩ (.slice da dn dc)) (some g)):=gr_set HGz.out (by omega)
     have HO5:Hid (BoxesR (wz.setCell ⟨y0.heap.size,2,none⟩ (.slice da dn dc)) (y0.heap.size+1) z0.heap.size (.slice va vn vc) ms):=OwR.set HOz.out (.inl (by omega))
     have HP5:Hid (IntsR (wz.setCell ⟨y0.heap.size,2,none⟩ (.slice da dn dc)) z0.heap.size (wz.setCell ⟨y0.heap.size,2,none⟩ (.slice da dn dc)).heap.size (.slice da dn dc) (gs ++ [X])):=by show IntsR _ _ _ _ _;rw [box_size];exact OwR.set hO (.inl (by omega))
     have hs5:z0.heap.size≤(wz.setCell ⟨y0.heap.size,2,none⟩ (.slice da dn dc)).heap.size:=by rw [box_size];omega
     have hlen5:Hid ((gs ++ [X]).length=c+1):=by show _=_;simp [HLn.out]
     clear KX HCz HRz HGz HOz HX4 KC4 HR4 HG4 HO4 HP4 HEa hO hgz hvz hge AB hl1 hl2 HLn HXY HM1
     go_wp2
     go_roundw
     case rel=>exact ⟨c+1,Y,_,da,dn,dc,by omega,by go_num,hbx.1,hbx.2,⟨HL2.out,hlen5.out⟩,HG5,HC5,HX5,HR5,hs5,HO5,HP5⟩
     case measure=>simp [intOf];omega
    ·obtain rfl:c=n6':=by omega
     have HME2:Hid (iAcc l p=some (⟨n0,ms,gs⟩,q)):=manyI_end (g:=iN l) (F:=(fun e:List Int × Int=>some ((⟨n0,ms,e.1⟩:AccD),e.2))) HM1.out.1 (Nat.le_refl _)
     clear HM1
     obtain ⟨d0,d1,d2⟩:=bx3 HX.out
     obtain ⟨r0,r1,r2⟩:=bx3 HR.out
     obtain ⟨rz,rl⟩:=box8z HR.out
     have lx:=lt_of_heap HX.out
     have HCf:Hid ((((wr.setCell ⟨w.heap.size,0,none⟩ (.int .i64 n0)).setCell ⟨w.heap.size,1,none⟩ (.slice va vn vc)).setCell ⟨w.heap.size,2,none⟩ (.slice ga gn gc)).heap[g]?=_):=(box_other (k:=w.heap.size) (i:=2) (v:=.slice ga gn gc) (box_other (k:=w.heap.size) (i:=1) (v:=.slice va vn vc) (box_other (k:=w.heap.size) (i:=0) (v:=.int .i64 n0) HC.out (by omega)) (by omega)) (by omega))
     have HGf:Hid (w.grownBy (((wr.setCell ⟨w.heap.size,0,none⟩ (.int .i64 n0)).setCell ⟨w.heap.size,1,none⟩ (.slice va vn vc)).setCell ⟨w.heap.size,2,none⟩ (.slice ga gn gc)) (some g)):=(gr_set (b:=w.heap.size) (j:=2) (u:=.slice ga gn gc) (gr_set (b:=w.heap.size) (j:=1) (u:=.slice va vn vc) (gr_set (b:=w.heap.size) (j:=0) (u:=.int .i64 n0) HG.out (Nat.le_refl _)) (Nat.le_refl _)) (Nat.le_refl _))
     have HOf:Hid (BoxesR (((wr.setCell ⟨w.heap.size,0,none⟩ (.int .i64 n0)).setCell ⟨w.heap.size,1,none⟩ (.slice va vn vc)).setCell ⟨w.heap.size,2,none⟩ (.slice ga gn gc)) (y0.heap.size+1) z0.heap.size (.slice va vn vc) ms):=(OwR.set (i:=2) (x:=.slice ga gn gc) (OwR.set (i:=1) (x:=.slice va vn vc) (OwR.set (i:=0) (x:=.int .i64 n0) HO.out (.inl (by omega))) (.inl (by omega))) (.inl (by omega)))
     have HPf:Hid (IntsR (((wr.setCell ⟨w.heap.size,0,none⟩ (.int .i64 n0)).setCell ⟨w.heap.size,1,none⟩ (.slice va vn vc)).setCell ⟨w.heap.size,2,none⟩ (.slice ga gn gc)) z0.heap.size wr.heap.size (.slice ga gn gc) gs):=(OwR.set (i:=2) (x:=.slice ga gn gc) (OwR.set (i:=1) (x:=.slice va vn vc) (OwR.set (i:=0) (x:=.int .i64 n0) HP.out (.inl (by omega))) (.inl (by omega))) (.inl (by omega)))
     have KF:=(box_set (i:=2) (v:=.slice ga gn gc) (box_set (i:=1) (v:=.slice va vn vc) (box_set (i:=0) (v:=.int .i64 n0) HR.out)))
     obtain ⟨f0,f1,f2⟩:=bx3 KF
     have hszf:Hid ((((wr.setCell ⟨w.heap.size,0,none⟩ (.int .i64 n0)).setCell ⟨w.heap.size,1,none⟩ (.slice va vn vc)).setCell ⟨w.heap.size,2,none⟩ (.slice ga gn gc)).heap.size=wr.heap.size):=by show _=_;simp only [box_size]
     clear KF HC HG HO HP HR HX
     go_wp2
     refine bodyPost_ret (v:=.agg #[.int .i64 n0,.slice va vn vc,.slice ga gn gc]) (by simp [results,Tryd.results24,go_sem,f0,f1,f2]) rfl ⟨.inl ⟨_,_,HME2.out,rfl,?_,HCf.out⟩,HGf.out⟩
     exact ⟨_,_,In (y0.heap.size+1) z0.heap.size,In z0.heap.size wr.heap.size,rfl,HOf.out,HPf.out,(fun x hx=>⟨⟨by have:=hx.1;omega,by have:=hx.2;rw [hszf.out];omega⟩,fun h=>by have:=hx.2;have:=h.1;omega⟩),(fun x hx=>⟨by have:=hx.1;omega,by have:=hx.2;rw [hszf.out];omega⟩),i64_of bd0⟩

end Go.Proofs.YtnlhkgoppjejeaaDoor

/- What the function that AccountRead of package impl defers does. -/
namespace Go.Proofs.YtnlhkgoppjejeaaDoor
open Go.RowKit
set_option linter.unusedVariables false

set_option maxRecDepth 100000 in
theorem catch_panicking (R:Nat) (c0 c1 c2 d0:Value) (u:TypeId) (pv:Value) (older:List PanicEntry) (w:World) (h0:w.heap[R]?=some (.cells #[c0,c1,c2] 26 (0,0))) (h1:w.heap[R+1]?=some (.cells #[d0] 4 (0,0))) :
  CallsD Tryd.prog 23 #[.pointer (some ⟨R,0,none⟩),.pointer (some ⟨R+1,0,none⟩)] (.panicking ({ v:=.iface u pv,recovered:=false } :: older)) w fun e u' w' =>
   e=.returned (.tuple #[])∧u'=.panicking ({ v:=.iface u pv,recovered:=true } :: older)∧w'=(((w.setCell ⟨R,0,none⟩ (.int .i64 0)).setCell ⟨R,1,none⟩ (.slice none 0 0)).setCell ⟨R,2,none⟩ (.slice none 0 0)).setCell ⟨R+1,0,none⟩ (.bool false):=by
 obtain ⟨f0,f1,f2⟩:=bx3 h0
 obtain ⟨fz,fl⟩:=box8z h0
 obtain ⟨gz,gl⟩:=box8z h1
 have g0:w.cell? ⟨R+1,0,none⟩=some d0:=by rw [cell_of_row w (R+1) 0 _ _ (0,0) h1];rfl
 refine callsD_of_wpS Tryd.func23 rfl fun c₀ cs hu=>?_
 apply wpS_seq
 apply wpS_region
 simp [wpOpsS,go_sem,recoverD,hu,Tryd.ntmps23,Exit.thenS]
 refine wpS_cond (t:=true) (by simp [Act.eval,Array.replicate]) ?_
 simp only [if_true]
 apply wpS_region
 simp [wpOpsS,go_sem,f0,f1,f2,fz,g0,gz,bodyPostS,results,Tryd.results23]

set_option maxRecDepth 100000 in
theorem catch_idle (a b:Value) (w:World) :
  CallsD Tryd.prog 23 #[a,b] .returning w fun e u' w'=>e=.returned (.tuple #[])∧u'=.returning∧w'=w:=by
 refine callsD_of_wpS Tryd.func23 rfl fun c₀ cs hu=>?_
 apply wpS_seq
 apply wpS_region
 simp [wpOpsS,go_sem,recoverD,hu,Tryd.ntmps23,Exit.thenS]
 refine wpS_cond (t:=false) (by simp [Act.eval,Array.replicate]) ?_
 simp only [Bool.false_eq_true,if_false]
 refine wpS_of_wp (wp_skip ?_)
 cases c₀
 simp_all [bodyPostS,results,Tryd.results23]

end Go.Proofs.YtnlhkgoppjejeaaDoor
