/- The proof's texts, part 13. -/
import Derived.Test.YtnlhkgoppjejeaaDoorPart11
import Derived.Test.YtnlhkgoppjejeaaDoorPart12
import Derived.Deep.DeepCutAuto

/- What (*byteReader).box of package impl does: a box is read, or it gives up. -/
namespace Go.Proofs.YtnlhkgoppjejeaaDoor
open Go.RowKit
set_option maxRecDepth 100000
set_option linter.unusedVariables false
set_option linter.unusedSimpArgs false

theorem tabS_rdB4:(Tryd.f45.body.bind (opsAt 4)).all (fun o=>tableS o 15 [0,1,2,4,6,8,3,5,7,9,10,11,12,13,14] [6,7,8,9,11,12,14] [13,15] 0)=true:=by kernel_rfl
theorem tabS_rdB8:(Tryd.f45.body.bind (opsAt 8)).all (fun o=>tableS o 11 [0,1,2,4,3,5,6,7,8,9,10] [4,5,7,8,10] [9,11] 0)=true:=by kernel_rfl
theorem one4 {a:Option Addr} {n c:Nat} {i j k:Int}:∀ u ∈ [Value.int .i64 i,.int .i64 j,.int .i64 k,.slice a n c],Value.oneCell' u=true:=by
 intro u hu
 simp only [List.mem_cons,List.not_mem_nil,or_false] at hu
 rcases hu with rfl | rfl | rfl | rfl <;> rfl
theorem one2 {i j:Int}:∀ u ∈ [Value.int .i64 i,.int .i64 j],Value.oneCell' u=true:=by
 intro u hu
 simp only [List.mem_cons,List.not_mem_nil,or_false] at hu
 rcases hu with rfl | rfl <;> rfl

set_option maxRecDepth 100000 in
set_option maxHeartbeats 8000000 in
theorem box_c (g:Nat) (bv:Value) (l:List Int) (p:Int) (ea:Addr) (w:World) (hc:w.heap[g]?=some (.cells #[bv,.int .i64 p] 54 (0,0))) (hb:∀ wi,w.grownBy wi (some g)→Bs wi bv l) (hE:Gave w ea) (hne:g≠1) (hl:l.length≤2000000) (hp0:0≤p) (hp1:p≤9000000) :
  Calls Tryd.prog 45 #[.pointer (some ⟨g,0,none⟩)] w fun e w'=>((∃ r u,iBox l p=some r∧e=.returned u∧BoxO w' (In w.heap.size w'.heap.size) u r.1∧w'.heap[g]?=some (.cells #[bv,.int .i64 r.2] 54 (0,0)))∨(iBox l p=none∧e=gaveUp ea))∧w.grownBy w' (some g):=by
 have hlg:g < w.heap.size:=lt_of_heap hc
 have HB:Hid (∀ wi,w.grownBy wi (some g)→Bs wi bv l):=hb
 have HE:Hid (Gave w ea):=hE
 obtain ⟨ba,bn,bc,rfl⟩:=(hb w (World.grownBy.refl _ _)).form3
 obtain ⟨i0,hi,hz0,hz1,hz2⟩:=info_parts infoMail
 obtain ⟨i1,hj,hy0,hy1,hy2⟩:=info_parts infoGone
 have HI0:Hid (iBox l p=(iT l p).bind fun a=>(iN l a.2).bind fun b=>(iN l b.2).bind fun c=>(iN l c.2).bind fun d=>(iN l d.2).bind fun e=>(iC l 12 e.2).bind fun f=>(iMany (iMail l) f.1.toNat f.2).bind fun g=>(iC l 40 g.2).bind fun h=>(iMany (iGone l) h.1.toNat h.2).bind fun i=>some (⟨a.1,b.1,c.1,d.1,g.1,i.1,e.1⟩,i.2)):=rfl
 have HG0:Hid (w.grownBy (w.alloc (.cells #[.slice none 0 0,.int .i64 0,.int .i64 0,.int .i64 0,.slice none 0 0,.slice none 0 0,.int .i64 0] 44)) (some g)):=gr_alloc (World.grownBy.refl _ _)
 have HC0:Hid ((w.alloc (.cells #[.slice none 0 0,.int .i64 0,.int .i64 0,.int .i64 0,.slice none 0 0,.slice none 0 0,.int .i64 0] 44)).heap[g]?=some (.cells #[.slice ba bn bc,.int .i64 p] 54 (0,0))):=gr_at (gr_alloc (g:=w.heap.size) (World.grownBy.refl _ _)) hc (by omega)
 have HR0:Hid ((w.alloc (.cells #[.slice none 0 0,.int .i64 0,.int .i64 0,.int .i64 0,.slice none 0 0,.slice none 0 0,.int .i64 0] 44)).heap[w.heap.size]?=some (.cells #[.slice none 0 0,.int .i64 0,.int .i64 0,.int .i64 0,.slice none 0 0,.slice none 0 0,.int .i64 0] 44 (0,0))):=box_new w _
 have hsz0:(w.alloc (.cells #[.slice none 0 0,.int .i64 0,.int .i64 0,.int .i64 0,.slice none 0 0,.slice none 0 0,.int .i64 0] 44)).heap.size=w.heap.size+1:=by simp
 clear hb hc hE
 go_enter Tryd.func45,Tryd.ntmps45
 go_wp2_with fail
 refine (text_c g _ l p ea _ HC0.out (fun wi h=>HB.out wi (grownBy_trans (HG0.out) h)) (HE.out.gr (HG0.out) hne) hl hp0 hp1).mono ?_
 rintro e y0 ⟨hh,G⟩
 rcases hh with ⟨ry0,uy0,hr,rfl,Ry0,KC⟩ | ⟨hr,rfl⟩
 rotate_left
 ·have HNO:Hid (iBox l p=none):=by show _=_;rw [HI0.out,hr];rfl
  have HGN:Hid (w.grownBy y0 (some g)):=grownBy_trans (HG0.out) G
  clear hr
  go_wp2
  exact ⟨rfl,.inr ⟨HNO.out,rfl⟩,HGN.out⟩
 rw [hsz0] at Ry0
 obtain ⟨nm,p0⟩:=ry0
 have HY0:Hid (iBox l p=(iN l p0).bind fun b=>(iN l b.2).bind fun c=>(iN l c.2).bind fun d=>(iN l d.2).bind fun e=>(iC l 12 e.2).bind fun f=>(iMany (iMail l) f.1.toNat f.2).bind fun g=>(iC l 40 g.2).bind fun h=>(iMany (iGone l) h.1.toNat h.2).bind fun i=>some (⟨nm,b.1,c.1,d.1,g.1,i.1,e.1⟩,i.2)):=by show _=_;rw [HI0.out,hr];rfl
 obtain ⟨bd0,hq0,hq1⟩:=iT_bd hl hr
 obtain ⟨na,nn,nc,hNV⟩:=(Row.bs Ry0).form3
 subst hNV
 have HN0:Hid (Row y0 (w.heap.size+1) y0.heap.size (.slice na nn nc) nm):=Ry0
 have HG1:Hid (w.grownBy y0 (some g)):=grownBy_trans HG0.out G
 have HC1:Hid (y0.heap[g]?=some (.cells #[.slice ba bn bc,.int .i64 p0] 54 (0,0))):=KC
 have HR1:Hid (y0.heap[w.heap.size]?=some (.cells #[.slice none 0 0,.int .i64 0,.int .i64 0,.int .i64 0,.slice none 0 0,.slice none 0 0,.int .i64 0] 44 (0,0))):=gr_at G HR0.out (by omega)
 have s1:w.heap.size+1≤y0.heap.size:=by have:=G.size;omega
 clear hr KC G Ry0 HI0 HG0 HC0 HR0
 go_wp2_with fail
 refine (num_c g _ l p0 ea _ HC1.out (fun wi h=>HB.out wi (grownBy_trans (HG1.out) h)) (HE.out.gr (HG1.out) hne) hl hq0 hq1).mono ?_
 rintro e y1 ⟨hh,G⟩
 rcases hh with ⟨ry1,hr,rfl,KC⟩ | ⟨hr,rfl⟩
 rotate_left
 ·have HNO:Hid (iBox l p=none):=by show _=_;rw [HY0.out,hr];rfl
  have HGN:Hid (w.grownBy y1 (some g)):=grownBy_trans (HG1.out) G
  clear hr
  go_wp2
  exact ⟨rfl,.inr ⟨HNO.out,rfl⟩,HGN.out⟩
 obtain ⟨n1,p1⟩:=ry1
 have HY1:Hid (iBox l p=(iN l p1).bind fun c=>(iN l c.2).bind fun d=>(iN l d.2).bind fun e=>(iC l 12 e.2).bind fun f=>(iMany (iMail l) f.1.toNat f.2).bind fun g=>(iC l 40 g.2).bind fun h=>(iMany (iGone l) h.1.toNat h.2).bind fun i=>some (⟨nm,n1,c.1,d.1,g.1,i.1,e.1⟩,i.2)):=by show _=_;rw [HY0.out,hr];rfl
 clear hq0 hq1
 obtain ⟨bd1,hq0,hq1⟩:=iN_bd hl hr
 have HG2:Hid (w.grownBy y1 (some g)):=grownBy_trans HG1.out G
 have HC2:Hid (y1.heap[g]?=some (.cells #[.slice ba bn bc,.int .i64 p1] 54 (0,0))):=KC
 have HR2:Hid (y1.heap[w.heap.size]?=some (.cells #[.slice none 0 0,.int .i64 0,.int .i64 0,.int .i64 0,.slice none 0 0,.slice none 0 0,.int .i64 0] 44 (0,0))):=gr_at G HR1.out (by omega)
 have HN1:Hid (Row y1 (w.heap.size+1) y0.heap.size (.slice na nn nc) nm):=HN0.out.gr G (.inl (by omega))
 have s2:y0.heap.size≤y1.heap.size:=by have:=G.size;omega
 clear hr KC G HY0 HG1 HC1 HR1 HN0
 go_wp2_with fail
 refine (num_c g _ l p1 ea _ HC2.out (fun wi h=>HB.out wi (grownBy_trans (HG2.out) h)) (HE.out.gr (HG2.out) hne) hl hq0 hq1).mono ?_
 rintro e y2 ⟨hh,G⟩
 rcases hh with ⟨ry2,hr,rfl,KC⟩ | ⟨hr,rfl⟩
 rotate_left
 ·have HNO:Hid (iBox l p=none):=by show _=_;rw [HY1.out,hr];rfl
  have HGN:Hid (w.grownBy y2 (some g)):=grownBy_trans (HG2.out) G
  clear hr
  go_wp2
  exact ⟨rfl,.inr ⟨HNO.out,rfl⟩,HGN.out⟩
 obtain ⟨n2,p2⟩:=ry2
 have HY2:Hid (iBox l p=(iN l p2).bind fun d=>(iN l d.2).bind fun e=>(iC l 12 e.2).bind fun f=>(iMany (iMail l) f.1.toNat f.2).bind fun g=>(iC l 40 g.2).bind fun h=>(iMany (iGone l) h.1.toNat h.2).bind fun i=>some (⟨nm,n1,n2,d.1,g.1,i.1,e.1⟩,i.2)):=by show _=_;rw [HY1.out,hr];rfl
 clear hq0 hq1
 obtain ⟨bd2,hq0,hq1⟩:=iN_bd hl hr
 have HG3:Hid (w.grownBy y2 (some g)):=grownBy_trans HG2.out G
 have HC3:Hid (y2.heap[g]?=some (.cells #[.slice ba bn bc,.int .i64 p2] 54 (0,0))):=KC
 have HR3:Hid (y2.heap[w.heap.size]?=some (.cells #[.slice none 0 0,.int .i64 0,.int .i64 0,.int .i64 0,.slice none 0 0,.slice none 0 0,.int .i64 0] 44 (0,0))):=gr_at G HR2.out (by omega)
 have HN2:Hid (Row y2 (w.heap.size+1) y0.heap.size (.slice na nn nc) nm):=HN1.out.gr G (.inl (by omega))
 have s3:y0.heap.size≤y2.heap.size:=by have:=G.size;omega
 clear hr KC G HY1 HG2 HC2 HR2 HN1
 go_wp2_with fail
 refine (num_c g _ l p2 ea _ HC3.out (fun wi h=>HB.out wi (grownBy_trans (HG3.out) h)) (HE.out.gr (HG3.out) hne) hl hq0 hq1).mono ?_
 rintro e y3 ⟨hh,G⟩
 rcases hh with ⟨ry3,hr,rfl,KC⟩ | ⟨hr,rfl⟩
 rotate_left
 ·have HNO:Hid (iBox l p=none):=by show _=_;rw [HY2.out,hr];rfl
  have HGN:Hid (w.grownBy y3 (some g)):=grownBy_trans (HG3.out) G
  clear hr
  go_wp2
  exact ⟨rfl,.inr ⟨HNO.out,rfl⟩,HGN.out⟩
 obtain ⟨n3,p3⟩:=ry3
 have HY3:Hid (iBox l p=(iN l p3).bind fun e=>(iC l 12 e.2).bind fun f=>(iMany (iMail l) f.1.toNat f.2).bind fun g=>(iC l 40 g.2).bind fun h=>(iMany (iGone l) h.1.toNat h.2).bind fun i=>some (⟨nm,n1,n2,n3,g.1,i.1,e.1⟩,i.2)):=by show _=_;rw [HY2.out,hr];rfl
 clear hq0 hq1
 obtain ⟨bd3,hq0,hq1⟩:=iN_bd hl hr
 have HG4:Hid (w.grownBy y3 (some g)):=grownBy_trans HG3.out G
 have HC4:Hid (y3.heap[g]?=some (.cells #[.slice ba bn bc,.int .i64 p3] 54 (0,0))):=KC
 have HR4:Hid (y3.heap[w.heap.size]?=some (.cells #[.slice none 0 0,.int .i64 0,.int .i64 0,.int .i64 0,.slice none 0 0,.slice none 0 0,.int .i64 0] 44 (0,0))):=gr_at G HR3.out (by omega)
 have HN3:Hid (Row y3 (w.heap.size+1) y0.heap.size (.slice na nn nc) nm):=HN2.out.gr G (.inl (by omega))
 have s4:y0.heap.size≤y3.heap.size:=by have:=G.size;omega
 clear hr KC G HY2 HG3 HC3 HR3 HN2
 go_wp2_with fail
 refine (num_c g _ l p3 ea _ HC4.out (fun wi h=>HB.out wi (grownBy_trans (HG4.out) h)) (HE.out.gr (HG4.out) hne) hl hq0 hq1).mono ?_
 rintro e y4 ⟨hh,G⟩
 rcases hh with ⟨ry4,hr,rfl,KC⟩ | ⟨hr,rfl⟩
 rotate_left
 ·have HNO:Hid (iBox l p=none):=by show _=_;rw [HY3.out,hr];rfl
  have HGN:Hid (w.grownBy y4 (some g)):=grownBy_trans (HG4.out) G
  clear hr
  go_wp2
  exact ⟨rfl,.inr ⟨HNO.out,rfl⟩,HGN.out⟩
 obtain ⟨n4,p4⟩:=ry4
 have HY4:Hid (iBox l p=(iC l 12 p4).bind fun f=>(iMany (iMail l) f.1.toNat f.2).bind fun g=>(iC l 40 g.2).bind fun h=>(iMany (iGone l) h.1.toNat h.2).bind fun i=>some (⟨nm,n1,n2,n3,g.1,i.1,n4⟩,i.2)):=by show _=_;rw [HY3.out,hr];rfl
 clear hq0 hq1
 obtain ⟨bd4,hq0,hq1⟩:=iN_bd hl hr
 have HG5:Hid (w.grownBy y4 (some g)):=grownBy_trans HG4.out G
 have HC5:Hid (y4.heap[g]?=some (.cells #[.slice ba bn bc,.int .i64 p4] 54 (0,0))):=KC
 have HR5:Hid (y4.heap[w.heap.size]?=some (.cells #[.slice none 0 0,.int .i64 0,.int .i64 0,.int .i64 0,.slice none 0 0,.slice none 0 0,.int .i64 0] 44 (0,0))):=gr_at G HR4.out (by omega)
 have HN4:Hid (Row y4 (w.heap.size+1) y0.heap.size (.slice na nn nc) nm):=HN3.out.gr G (.inl (by omega))
 have s5:y0.heap.size≤y4.heap.size:=by have:=G.size;omega
 clear hr KC G HY3 HG4 HC4 HR4 HN3
 go_wp2_with fail
 have HX6:Hid ((y4.alloc (.cells #[.slice na nn nc,.int .i64 n1,.int .i64 n2,.int .i64 n3,.slice none 0 0,.slice none 0 0,.int .i64 n4] 44)).heap[y4.heap.size]?=some (.cells #[.slice na nn nc,.int .i64 n1,.int .i64 n2,.int .i64 n3,.slice none 0 0,.slice none 0 0,.int .i64 n4] 44 (0,0))):=box_new y4 _
 have HC6:Hid ((y4.alloc (.cells #[.slice na nn nc,.int .i64 n1,.int .i64 n2,.int .i64 n3,.slice none 0 0,.slice none 0 0,.int .i64 n4] 44)).heap[g]?=some (.cells #[.slice ba bn bc,.int .i64 p4] 54 (0,0))):=gr_at (gr_alloc (g:=y4.heap.size) (World.grownBy.refl _ _)) HC5.out (by omega)
 have HG6:Hid (w.grownBy (y4.alloc (.cells #[.slice na nn nc,.int .i64 n1,.int .i64 n2,.int .i64 n3,.slice none 0 0,.slice none 0 0,.int .i64 n4] 44)) (some g)):=gr_alloc HG5.out
 have HR6:Hid ((y4.alloc (.cells #[.slice na nn nc,.int .i64 n1,.int .i64 n2,.int .i64 n3,.slice none 0 0,.slice none 0 0,.int .i64 n4] 44)).heap[w.heap.size]?=some (.cells #[.slice none 0 0,.int .i64 0,.int .i64 0,.int .i64 0,.slice none 0 0,.slice none 0 0,.int .i64 0] 44 (0,0))):=gr_at (gr_alloc (g:=y4.heap.size) (World.grownBy.refl _ _)) HR5.out (by omega)
 have HN6:Hid (Row (y4.alloc (.cells #[.slice na nn nc,.int .i64 n1,.int .i64 n2,.int .i64 n3,.slice none 0 0,.slice none 0 0,.int .i64 n4] 44)) (w.heap.size+1) y0.heap.size (.slice na nn nc) nm):=HN4.out.below ((Below.refl _ _).alloc (Nat.le_refl _) _)
 have sx6:y4.heap.size+1≤(y4.alloc (.cells #[.slice na nn nc,.int .i64 n1,.int .i64 n2,.int .i64 n3,.slice none 0 0,.slice none 0 0,.int .i64 n4] 44)).heap.size:=by simp
 clear HC5 HG5 HR5 HN4
 refine (count_c g _ l p4 12 ea _ HC6.out (fun wi h=>HB.out wi (grownBy_trans (HG6.out) h)) (HE.out.gr (HG6.out) hne) hne hl hq0 hq1 (by omega) (by omega)).mono ?_
 rintro e y5 ⟨hh,G⟩
 rcases hh with ⟨ry5,hr,rfl,KC⟩ | ⟨hr,rfl⟩
 rotate_left
 ·have HNO:Hid (iBox l p=none):=by show _=_;rw [HY4.out,hr];rfl
  have HGN:Hid (w.grownBy y5 (some g)):=grownBy_trans (HG6.out) G
  clear hr
  go_wp2
  exact ⟨rfl,.inr ⟨HNO.out,rfl⟩,HGN.out⟩
 obtain ⟨n5,p5⟩:=ry5
 clear hq0 hq1
 obtain ⟨bd5,hq0,hq1⟩:=iC_bd hl hr
 have HM:Hid (iBox l p=(iMany (iMail l) n5.toNat p5).bind (fun g:List MailD × Int=>(iC l 40 g.2).bind fun h=>(iMany (iGone l) h.1.toNat h.2).bind fun i=>some ((⟨nm,n1,n2,n3,g.1,i.1,n4⟩:BoxD),i.2))):=by show _=_;rw [HY4.out,hr];rfl
 have HGy:Hid (w.grownBy y5 (some g)):=grownBy_trans HG6.out G
 have HCy:Hid (y5.heap[g]?=some (.cells #[.slice ba bn bc,.int .i64 p5] 54 (0,0))):=KC
 have HRy:Hid (y5.heap[w.heap.size]?=some (.cells #[.slice none 0 0,.int .i64 0,.int .i64 0,.int .i64 0,.slice none 0 0,.slice none 0 0,.int .i64 0] 44 (0,0))):=gr_at G HR6.out (by omega)
 have HXy:Hid (y5.heap[y4.heap.size]?=some (.cells #[.slice na nn nc,.int .i64 n1,.int .i64 n2,.int .i64 n3,.slice none 0 0,.slice none 0 0,.int .i64 n4] 44 (0,0))):=gr_at G HX6.out (by omega)
 have HNy:Hid (Row y5 (w.heap.size+1) y0.heap.size (.slice na nn nc) nm):=HN6.out.gr G (.inl (by omega))
 have hsy:y4.heap.size+1≤y5.heap.size:=by have:=G.size;omega
 clear hr KC G HY4 HG6 HC6 HR6 HN6 HX6 sx6
 obtain ⟨n5',rfl⟩:∃ n:Nat,n5=n:=⟨n5.toNat,by omega⟩
 rw [Int.toNat_natCast] at HM
 go_wp2
 go_loopw [17] (fun i wr=>∃ (c:Nat) (q:Int) (ms:List MailD) (va:Option Addr) (vn vc:Nat),c≤n5'∧i=.int .i64 c∧0≤q∧q≤9000000∧Hid (iBox l p=(iMany (iMail l) (n5' - c) q).bind (fun r=>(fun g:List MailD × Int=>(iC l 40 g.2).bind fun h=>(iMany (iGone l) h.1.toNat h.2).bind fun i=>some ((⟨nm,n1,n2,n3,g.1,i.1,n4⟩:BoxD),i.2)) (ms ++ r.1,r.2))∧ms.length=c)∧Hid (w.grownBy wr (some g))∧Hid (wr.heap[g]?=some (.cells #[.slice ba bn bc,.int .i64 q] 54 (0,0)))∧Hid (wr.heap[y4.heap.size]?=some (.cells #[.slice na nn nc,.int .i64 n1,.int .i64 n2,.int .i64 n3,.slice va vn vc,.slice none 0 0,.int .i64 n4] 44 (0,0)))∧Hid (wr.heap[w.heap.size]?=some (.cells #[.slice none 0 0,.int .i64 0,.int .i64 0,.int .i64 0,.slice none 0 0,.slice none 0 0,.int .i64 0] 44 (0,0)))∧Hid (Row wr (w.heap.size+1) y0.heap.size (.slice na nn nc) nm)∧y4.heap.size+1≤wr.heap.size∧Hid (MailsR wr (y4.heap.size+1) wr.heap.size (.slice va vn vc) ms)) (fun i _=>n5' - (intOf i).toNat)
 case atStart=>exact ⟨0,p5,[],none,0,0,Nat.zero_le _,rfl,hq0,hq1,⟨manyI_start (g:=iMail l) (F:=(fun g:List MailD × Int=>(iC l 40 g.2).bind fun h=>(iMany (iGone l) h.1.toNat h.2).bind fun i=>some ((⟨nm,n1,n2,n3,g.1,i.1,n4⟩:BoxD),i.2))) HM.out,rfl⟩,HGy,HCy,HXy,HRy,HNy,hsy,.inl ⟨rfl,rfl⟩⟩
 case round =>
  obtain ⟨c,q,ms,va,vn,vc,hc,rfl,hq0,hq1,HM1,HG,HC,HX,HR,HN,hs,HO⟩:=hrel
  clear HM HGy HCy HXy HRy HNy hsy
  by_cases hgo:c < n5'
  ·have DR:Below wr.heap.size wr wr.drew:=(Below.refl _ _).drew
   obtain ⟨x0,x1,x2,x3,x4,x5,x6⟩:=bx7 HX.out
   have lx:=lt_of_heap HX.out
   have HLn:Hid (ms.length=c):=HM1.out.2
   have HDm:Hid (∀ q',iMail l q'=(iN l q').bind fun a=>(iN l a.2).bind fun b=>(iN l b.2).bind fun c=>(iT l c.2).bind fun d=>some (⟨a.1,b.1,c.1,d.1⟩,d.2)):=fun _=>rfl
   go_upto_region 4 with fail
   refine wpS_begin 13 (S:=fun w'=>w'.cell? ⟨y4.heap.size,4,none⟩=some (.slice va vn vc)) (tabS_of (by kernel_rfl) tabS_rdB4) (by kernel_rfl) (x4) (fun hTb hHeld=>?_)
   refine tks 0 0 19 hTb hHeld ?_
   refine tks 1 1 20 hTb hHeld ?_
   refine tks 2 2 21 hTb hHeld ?_
   refine tks 3 4 23 hTb hHeld ?_
   refine tks 4 6 25 hTb hHeld ?_
   refine tks 5 8 27 hTb hHeld ?_
   refine cls 6 3 hTb (by decide) rfl rfl (fun K hK=>?_)
   go_simp
   refine (num_c g _ l q ea _ (box_below DR HC.out) (fun wi h=>HB.out wi (grownBy_trans ((gr_below HG.out DR)) h)) (HE.out.gr ((gr_below HG.out DR)) hne) hl hq0 hq1).mono ?_
   rintro e m0 ⟨hh,G⟩
   rcases hh with ⟨rm0,hr,rfl,KC⟩ | ⟨hr,rfl⟩
   rotate_left
   ·have HNO:Hid (iBox l p=none):=manyI_none (g:=iMail l) (F:=(fun g:List MailD × Int=>(iC l 40 g.2).bind fun h=>(iMany (iGone l) h.1.toNat h.2).bind fun i=>some ((⟨nm,n1,n2,n3,g.1,i.1,n4⟩:BoxD),i.2))) HM1.out.1 hgo (by rw [HDm.out,hr];rfl)
    have HGN:Hid (w.grownBy m0 (some g)):=grownBy_trans ((gr_below HG.out DR)) G
    clear hr
    go_wp2
    exact ⟨rfl,.inr ⟨HNO.out,rfl⟩,HGN.out⟩
   obtain ⟨u0,r0⟩:=rm0
   have HDk1:Hid (iMail l q=(iN l r0).bind fun b=>(iN l b.2).bind fun c=>(iT l c.2).bind fun d=>some ((⟨u0,b.1,c.1,d.1⟩:MailD),d.2)):=by show _=_;rw [HDm.out,hr];rfl
   obtain ⟨be0,hr00,hr01⟩:=iN_bd hl hr
   have G':wr.grownBy m0 (some g):=grownBy_trans (gr_below (World.grownBy.refl wr _) DR) G
   have HGm0:Hid (w.grownBy m0 (some g)):=grownBy_trans (gr_below HG.out DR) G
   have HCm0:Hid (m0.heap[g]?=some (.cells #[.slice ba bn bc,.int .i64 r0] 54 (0,0))):=KC
   have HXm0:Hid (m0.heap[y4.heap.size]?=some (.cells #[.slice na nn nc,.int .i64 n1,.int .i64 n2,.int .i64 n3,.slice va vn vc,.slice none 0 0,.int .i64 n4] 44 (0,0))):=gr_at G' HX.out (by omega)
   have HRm0:Hid (m0.heap[w.heap.size]?=some (.cells #[.slice none 0 0,.int .i64 0,.int .i64 0,.int .i64 0,.slice none 0 0,.slice none 0 0,.int .i64 0] 44 (0,0))):=gr_at G' HR.out (by omega)
   have HNm0:Hid (Row m0 (w.heap.size+1) y0.heap.size (.slice na nn nc) nm):=HN.out.gr G' (.inl (by omega))
   have HOm0:Hid (MailsR m0 (y4.heap.size+1) wr.heap.size (.slice va vn vc) ms):=OwR.gr HO.out G' (.inl (by omega))
   have sm0:wr.heap.size≤m0.heap.size:=by have:=G'.size;omega
   clear hr KC G G' DR x0 x1 x2 x3 x4 x5 x6 HDm
   clear HG HC HX HR HN HO
   refine hK.out _ _ ((bx7 HXm0.out).2.2.2.2.1) (fun hHeld=>?_)
   clear hK K
   refine cls 7 5 hTb (by decide) rfl rfl (fun K hK=>?_)
   go_simp
   refine (num_c g _ l r0 ea _ HCm0.out (fun wi h=>HB.out wi (grownBy_trans (HGm0.out) h)) (HE.out.gr (HGm0.out) hne) hl hr00 hr01).mono ?_
   rintro e m1 ⟨hh,G⟩
   rcases hh with ⟨rm1,hr,rfl,KC⟩ | ⟨hr,rfl⟩
   rotate_left
   ·have HNO:Hid (iBox l p=none):=manyI_none (g:=iMail l) (F:=(fun g:List MailD × Int=>(iC l 40 g.2).bind fun h=>(iMany (iGone l) h.1.toNat h.2).bind fun i=>some ((⟨nm,n1,n2,n3,g.1,i.1,n4⟩:BoxD),i.2))) HM1.out.1 hgo (by rw [HDk1.out,hr];rfl)
    have HGN:Hid (w.grownBy m1 (some g)):=grownBy_trans (HGm0.out) G
    clear hr
    go_wp2
    exact ⟨rfl,.inr ⟨HNO.out,rfl⟩,HGN.out⟩
   obtain ⟨u1,r1⟩:=rm1
   have HDk2:Hid (iMail l q=(iN l r1).bind fun c=>(iT l c.2).bind fun d=>some ((⟨u0,u1,c.1,d.1⟩:MailD),d.2)):=by show _=_;rw [HDk1.out,hr];rfl
   obtain ⟨be1,hr10,hr11⟩:=iN_bd hl hr
   have HGm1:Hid (w.grownBy m1 (some g)):=grownBy_trans HGm0.out G
   have HCm1:Hid (m1.heap[g]?=some (.cells #[.slice ba bn bc,.int .i64 r1] 54 (0,0))):=KC
   have HXm1:Hid (m1.heap[y4.heap.size]?=some (.cells #[.slice na nn nc,.int .i64 n1,.int .i64 n2,.int .i64 n3,.slice va vn vc,.slice none 0 0,.int .i64 n4] 44 (0,0))):=gr_at G HXm0.out (by omega)
   have HRm1:Hid (m1.heap[w.heap.size]?=some (.cells #[.slice none 0 0,.int .i64 0,.int .i64 0,.int .i64 0,.slice none 0 0,.slice none 0 0,.int .i64 0] 44 (0,0))):=gr_at G HRm0.out (by omega)
   have HNm1:Hid (Row m1 (w.heap.size+1) y0.heap.size (.slice na nn nc) nm):=HNm0.out.gr G (.inl (by omega))
   have HOm1:Hid (MailsR m1 (y4.heap.size+1) wr.heap.size (.slice va vn vc) ms):=OwR.gr HOm0.out G (.inl (by omega))
   have sm1:wr.heap.size≤m1.heap.size:=by have:=G.size;omega
   clear hr KC G HDk1
   clear HGm0 HCm0 HXm0 HRm0 HNm0 HOm0
   refine hK.out _ _ ((bx7 HXm1.out).2.2.2.2.1) (fun hHeld=>?_)
   clear hK K
   refine cls 8 7 hTb (by decide) rfl rfl (fun K hK=>?_)
   go_simp
   refine (num_c g _ l r1 ea _ HCm1.out (fun wi h=>HB.out wi (grownBy_trans (HGm1.out) h)) (HE.out.gr (HGm1.out) hne) hl hr10 hr11).mono ?_
   rintro e m2 ⟨hh,G⟩
   rcases hh with ⟨rm2,hr,rfl,KC⟩ | ⟨hr,rfl⟩
   rotate_left
   ·have HNO:Hid (iBox l p=none):=manyI_none (g:=iMail l) (F:=(fun g:List MailD × Int=>(iC l 40 g.2).bind fun h=>(iMany (iGone l) h.1.toNat h.2).bind fun i=>some ((⟨nm,n1,n2,n3,g.1,i.1,n4⟩:BoxD),i.2))) HM1.out.1 hgo (by rw [HDk2.out,hr];rfl)
    have HGN:Hid (w.grownBy m2 (some g)):=grownBy_trans (HGm1.out) G
    clear hr
    go_wp2
    exact ⟨rfl,.inr ⟨HNO.out,rfl⟩,HGN.out⟩
   obtain ⟨u2,r2⟩:=rm2
   have HDk3:Hid (iMail l q=(iT l r2).bind fun d=>some ((⟨u0,u1,u2,d.1⟩:MailD),d.2)):=by show _=_;rw [HDk2.out,hr];rfl
   obtain ⟨be2,hr20,hr21⟩:=iN_bd hl hr
   have HGm2:Hid (w.grownBy m2 (some g)):=grownBy_trans HGm1.out G
   have HCm2:Hid (m2.heap[g]?=some (.cells #[.slice ba bn bc,.int .i64 r2] 54 (0,0))):=KC
   have HXm2:Hid (m2.heap[y4.heap.size]?=some (.cells #[.slice na nn nc,.int .i64 n1,.int .i64 n2,.int .i64 n3,.slice va vn vc,.slice none 0 0,.int .i64 n4] 44 (0,0))):=gr_at G HXm1.out (by omega)
   have HRm2:Hid (m2.heap[w.heap.size]?=some (.cells #[.slice none 0 0,.int .i64 0,.int .i64 0,.int .i64 0,.slice none 0 0,.slice none 0 0,.int .i64 0] 44 (0,0))):=gr_at G HRm1.out (by omega)
   have HNm2:Hid (Row m2 (w.heap.size+1) y0.heap.size (.slice na nn nc) nm):=HNm1.out.gr G (.inl (by omega))
   have HOm2:Hid (MailsR m2 (y4.heap.size+1) wr.heap.size (.slice va vn vc) ms):=OwR.gr HOm1.out G (.inl (by omega))
   have sm2:wr.heap.size≤m2.heap.size:=by have:=G.size;omega
   clear hr KC G HDk2
   clear HGm1 HCm1 HXm1 HRm1 HNm1 HOm1
   refine hK.out _ _ ((bx7 HXm2.out).2.2.2.2.1) (fun hHeld=>?_)
   clear hK K
   refine cls 9 9 hTb (by decide) rfl rfl (fun K hK=>?_)
   go_simp
   refine (text_c g _ l r2 ea _ HCm2.out (fun wi h=>HB.out wi (grownBy_trans (HGm2.out) h)) (HE.out.gr (HGm2.out) hne) hl hr20 hr21).mono ?_
   rintro e m3 ⟨hh,G⟩
   rcases hh with ⟨rm3,um3,hr,rfl,Rm3,KC⟩ | ⟨hr,rfl⟩
   rotate_left
   ·have HNO:Hid (iBox l p=none):=manyI_none (g:=iMail l) (F:=(fun g:List MailD × Int=>(iC l 40 g.2).bind fun h=>(iMany (iGone l) h.1.toNat h.2).bind fun i=>some ((⟨nm,n1,n2,n3,g.1,i.1,n4⟩:BoxD),i.2))) HM1.out.1 hgo (by rw [HDk3.out,hr];rfl)
    have HGN:Hid (w.grownBy m3 (some g)):=grownBy_trans (HGm2.out) G
    clear hr
    go_wp2
    exact ⟨rfl,.inr ⟨HNO.out,rfl⟩,HGN.out⟩
   obtain ⟨u3,r3⟩:=rm3
   have HDk4:Hid (iMail l q=some ((⟨u0,u1,u2,u3⟩:MailD),r3)):=by show _=_;rw [HDk3.out,hr];rfl
   obtain ⟨be3,hr30,hr31⟩:=iT_bd hl hr
   obtain ⟨ta,tn,tc,hTV⟩:=(Row.bs Rm3).form3
   subst hTV
   have HTm:Hid (Row m3 m2.heap.size m3.heap.size (.slice ta tn tc) u3):=Rm3
   have HGm3:Hid (w.grownBy m3 (some g)):=grownBy_trans HGm2.out G
   have HCm3:Hid (m3.heap[g]?=some (.cells #[.slice ba bn bc,.int .i64 r3] 54 (0,0))):=KC
   have HXm3:Hid (m3.heap[y4.heap.size]?=some (.cells #[.slice na nn nc,.int .i64 n1,.int .i64 n2,.int .i64 n3,.slice va vn vc,.slice none 0 0,.int .i64 n4] 44 (0,0))):=gr_at G HXm2.out (by omega)
   have HRm3:Hid (m3.heap[w.heap.size]?=some (.cells #[.slice none 0 0,.int .i64 0,.int .i64 0,.int .i64 0,.slice none 0 0,.slice none 0 0,.int .i64 0] 44 (0,0))):=gr_at G HRm2.out (by omega)
   have HNm3:Hid (Row m3 (w.heap.size+1) y0.heap.size (.slice na nn nc) nm):=HNm2.out.gr G (.inl (by omega))
   have HOm3:Hid (MailsR m3 (y4.heap.size+1) wr.heap.size (.slice va vn vc) ms):=OwR.gr HOm2.out G (.inl (by omega))
   have sm3:wr.heap.size≤m3.heap.size:=by have:=G.size;omega
   clear hr KC G HDk3 Rm3
   clear HGm2 HCm2 HXm2 HRm2 HNm2 HOm2
   refine hK.out _ _ ((bx7 HXm3.out).2.2.2.2.1) (fun hHeld=>?_)
   clear hK K
   refine tks 10 10 29 hTb hHeld ?_
   refine cls 11 11 hTb (by decide) rfl rfl (fun K hK=>?_)
   go_simp
   have AB:Below m3.heap.size m3 (m3.alloc (.cells #[.int .i64 u0,.int .i64 u1,.int .i64 u2,.slice ta tn tc] 67)):=(Below.refl _ _).alloc (Nat.le_refl _) _
   refine hK.out _ _ ((bx7 (box_below AB HXm3.out)).2.2.2.2.1) (fun hHeld=>?_)
   clear hK K
   refine cls 12 12 hTb (by decide) rfl rfl (fun K hK=>?_)
   have hMs:wr.heap.size≤(m3.alloc (.cells #[.int .i64 u0,.int .i64 u1,.int .i64 u2,.slice ta tn tc] 67)).heap.size:=by simp;omega
   have HEa:MailE (m3.alloc (.cells #[.int .i64 u0,.int .i64 u1,.int .i64 u2,.slice ta tn tc] 67)) [.int .i64 u0,.int .i64 u1,.int .i64 u2,.slice ta tn tc] ⟨u0,u1,u2,u3⟩ (In wr.heap.size (m3.alloc (.cells #[.int .i64 u0,.int .i64 u1,.int .i64 u2,.slice ta tn tc] 67)).heap.size):=⟨_,rfl,(((HTm.out.below AB).wide sm2 (by simp)).ro),i64_of be0,i64_of be1,i64_of be2⟩
   have hl1:ms.length+1≤maxLen:=by have:=HLn.out;unfold maxLen;omega
   have hl2:(ms.length+1) * 48≤140737488355328:=by have:=HLn.out;omega
   refine ite_w (by kernel_rfl) (wp_push 31 rfl (.tmp 20) (.tmp 30) rfl framesMail (B:=y4.heap.size+1) (M:=wr.heap.size) (OwR.below HOm3.out AB) hMs hs Tryd.underlying41 hi hz0 hz1 hz2 rfl (by omega) rfl ⟨u0,u1,u2,u3⟩ [.int .i64 u0,.int .i64 u1,.int .i64 u2,.slice ta tn tc] rfl HEa ⟨m3.heap.size,0,none⟩ 1 rfl (cells_new m3 _ _) one4 hl1 hl2 ?_)
   intro DV wz hO hgz hvz
   obtain ⟨da,dn,dc,hDV⟩:=OwR.form3 hO
   subst hDV
   have hge:∀ j,(Value.slice va vn vc).ownBlock=some j→y4.heap.size+1≤j:=fun j hj=>(hvz j hj).1
   have KX:=grown_at hgz hge (box_below AB HXm3.out) (by omega)
   have HCz:Hid (wz.heap[g]?=_):=grown_at hgz hge (box_below AB HCm3.out) (by omega)
   have HRz:Hid (wz.heap[w.heap.size]?=_):=grown_at hgz hge (box_below AB HRm3.out) (by omega)
   have HGz:Hid (w.grownBy wz (some g)):=gr_push (gr_below HGm3.out AB) hgz (fun j hj=>by have:=hge j hj;omega)
   have HNz:Hid (Row wz (w.heap.size+1) y0.heap.size (.slice na nn nc) nm):=(HNm3.out.below AB).gr' hgz (fun j hj=>by have:=hge j hj;omega)
   have sz:m3.heap.size+1≤wz.heap.size:=by have:=hgz.size;simpa using this
   obtain ⟨zx,zl⟩:=box8z KX
   obtain ⟨d0,d1,d2,d3,d4,d5,d6⟩:=bx7 KX
   refine hK.out _ _ (d4) (fun hHeld=>?_)
   clear hK K
   refine wpS_next (S':=fun w'=>True) 13 15 hTb (by decide) (trivial) (fun hHeld=>?_)
   refine tks 13 13 32 hTb hHeld ?_
   refine cls 14 14 hTb (by decide) rfl rfl (fun K hK=>?_)
   go_simp
   refine hK.out _ _ (trivial) (fun hHeld=>?_)
   clear hK K
   refine wpS_end hTb ?_
   have HL2:Hid (iBox l p=(iMany (iMail l) (n5' - (c+1)) r3).bind (fun r=>(fun g:List MailD × Int=>(iC l 40 g.2).bind fun h=>(iMany (iGone l) h.1.toNat h.2).bind fun i=>some ((⟨nm,n1,n2,n3,g.1,i.1,n4⟩:BoxD),i.2)) (ms ++ [⟨u0,u1,u2,u3⟩] ++ r.1,r.2))):=manyI_step (g:=iMail l) (F:=(fun g:List MailD × Int=>(iC l 40 g.2).bind fun h=>(iMany (iGone l) h.1.toNat h.2).bind fun i=>some ((⟨nm,n1,n2,n3,g.1,i.1,n4⟩:BoxD),i.2))) HM1.out.1 hgo HDk4.out
   have HX5:Hid ((wz.setCell ⟨y4.heap.size,4,none⟩ (.slice da dn dc)).heap[y4.heap.size]?=some (.cells #[.slice na nn nc,.int .i64 n1,.int .i64 n2,.int .i64 n3,.slice da dn dc,.slice none 0 0,.int .i64 n4] 44 (0,0))):=box_set KX
   have HC5:Hid ((wz.setCell ⟨y4.heap.size,4,none⟩ (.slice da dn dc)).heap[g]?=_):=box_other HCz.out (by omega)
   have HR5:Hid ((wz.setCell ⟨y4.heap.size,4,none⟩ (.slice da dn dc)).heap[w.heap.size]?=_):=box_other HRz.out (by omega)
   have HG5:Hid (w.grownBy (wz.setCell ⟨y4.heap.size,4,none⟩ (.slice da dn dc)) (some g)):=gr_set HGz.out (by omega)
   have HN5:Hid (Row (wz.setCell ⟨y4.heap.size,4,none⟩ (.slice da dn dc)) (w.heap.size+1) y0.heap.size (.slice na nn nc) nm):=HNz.out.set (.inr (by omega))
   have HO5:Hid (MailsR (wz.setCell ⟨y4.heap.size,4,none⟩ (.slice da dn dc)) (y4.heap.size+1) (wz.setCell ⟨y4.heap.size,4,none⟩ (.slice da dn dc)).heap.size (.slice da dn dc) (ms ++ [⟨u0,u1,u2,u3⟩])):=by show MailsR _ _ _ _ _;rw [box_size];exact OwR.set hO (.inl (by omega))
   have hs5:y4.heap.size+1≤(wz.setCell ⟨y4.heap.size,4,none⟩ (.slice da dn dc)).heap.size:=by rw [box_size];omega
   have hlen5:Hid ((ms ++ [(⟨u0,u1,u2,u3⟩:MailD)]).length=c+1):=by show _=_;simp [HLn.out]
   clear KX HCz HRz HGz HNz HXm3 HCm3 HRm3 HGm3 HNm3 HOm3 HTm HEa hO hgz hvz hge AB hl1 hl2 HLn HDk4 HM1
   go_wp2
   go_roundw
   case rel=>exact ⟨c+1,r3,_,da,dn,dc,by omega,by go_num,hr30,hr31,⟨HL2.out,hlen5.out⟩,HG5,HC5,HX5,HR5,HN5,hs5,HO5⟩
   case measure=>simp [intOf];omega
  ·obtain rfl:c=n5':=by omega
   have HME:Hid (iBox l p=(fun g:List MailD × Int=>(iC l 40 g.2).bind fun h=>(iMany (iGone l) h.1.toNat h.2).bind fun i=>some ((⟨nm,n1,n2,n3,g.1,i.1,n4⟩:BoxD),i.2)) (ms,q)):=manyI_end (g:=iMail l) (F:=(fun g:List MailD × Int=>(iC l 40 g.2).bind fun h=>(iMany (iGone l) h.1.toNat h.2).bind fun i=>some ((⟨nm,n1,n2,n3,g.1,i.1,n4⟩:BoxD),i.2))) HM1.out.1 (Nat.le_refl _)
   clear HM1
   go_wp2_with fail
   refine (count_c g _ l q 40 ea _ HC.out (fun wi h=>HB.out wi (grownBy_trans (HG.out) h)) (HE.out.gr (HG.out) hne) hne hl hq0 hq1 (by omega) (by omega)).mono ?_
   rintro e z0 ⟨hh,G⟩
   rcases hh with ⟨rz0,hr,rfl,KC⟩ | ⟨hr,rfl⟩
   rotate_left
   ·have HNO:Hid (iBox l p=none):=by show _=_;rw [HME.out];simp only [hr];rfl
    have HGN:Hid (w.grownBy z0 (some g)):=grownBy_trans (HG.out) G
    clear hr
    go_wp2
    exact ⟨rfl,.inr ⟨HNO.out,rfl⟩,HGN.out⟩
   obtain ⟨n6,p6⟩:=rz0
   obtain ⟨bd6,hr0,hr1⟩:=iC_bd hl hr
   have HM6:Hid (iBox l p=(iMany (iGone l) n6.toNat p6).bind (fun i:List GoneD × Int=>some ((⟨nm,n1,n2,n3,ms,i.1,n4⟩:BoxD),i.2))):=by show _=_;rw [HME.out];simp only [hr];rfl
   have HG1:Hid (w.grownBy z0 (some g)):=grownBy_trans HG.out G
   have HC1:Hid (z0.heap[g]?=some (.cells #[.slice ba bn bc,.int .i64 p6] 54 (0,0))):=KC
   have HX1:Hid (z0.heap[y4.heap.size]?=some (.cells #[.slice na nn nc,.int .i64 n1,.int .i64 n2,.int .i64 n3,.slice va vn vc,.slice none 0 0,.int .i64 n4] 44 (0,0))):=gr_at G HX.out (by omega)
   have HR1:Hid (z0.heap[w.heap.size]?=some (.cells #[.slice none 0 0,.int .i64 0,.int .i64 0,.int .i64 0,.slice none 0 0,.slice none 0 0,.int .i64 0] 44 (0,0))):=gr_at G HR.out (by omega)
   have HN1:Hid (Row z0 (w.heap.size+1) y0.heap.size (.slice na nn nc) nm):=HN.out.gr G (.inl (by omega))
   have HO1:Hid (MailsR z0 (y4.heap.size+1) z0.heap.size (.slice va vn vc) ms):=OwR.wide (OwR.gr HO.out G (.inl (by omega))) (Nat.le_refl _) G.size
   have hs1:y4.heap.size+1≤z0.heap.size:=by have:=G.size;omega
   clear hr KC G HME HG HC HX HR HN HO hgo
   obtain ⟨n6',rfl⟩:∃ n:Nat,n6=n:=⟨n6.toNat,by omega⟩
   rw [Int.toNat_natCast] at HM6
   go_wp2
   go_loopw [36] (fun i wr=>∃ (c:Nat) (q:Int) (gs:List GoneD) (ga:Option Addr) (gn gc:Nat),c≤n6'∧i=.int .i64 c∧0≤q∧q≤9000000∧Hid (iBox l p=(iMany (iGone l) (n6' - c) q).bind (fun r=>(fun i:List GoneD × Int=>some ((⟨nm,n1,n2,n3,ms,i.1,n4⟩:BoxD),i.2)) (gs ++ r.1,r.2))∧gs.length=c)∧Hid (w.grownBy wr (some g))∧Hid (wr.heap[g]?=some (.cells #[.slice ba bn bc,.int .i64 q] 54 (0,0)))∧Hid (wr.heap[y4.heap.size]?=some (.cells #[.slice na nn nc,.int .i64 n1,.int .i64 n2,.int .i64 n3,.slice va vn vc,.slice ga gn gc,.int .i64 n4] 44 (0,0)))∧Hid (wr.heap[w.heap.size]?=some (.cells #[.slice none 0 0,.int .i64 0,.int .i64 0,.int .i64 0,.slice none 0 0,.slice none 0 0,.int .i64 0] 44 (0,0)))∧Hid (Row wr (w.heap.size+1) y0.heap.size (.slice na nn nc) nm)∧z0.heap.size≤wr.heap.size∧Hid (MailsR wr (y4.heap.size+1) z0.heap.size (.slice va vn vc) ms)∧Hid (GonesR wr z0.heap.size wr.heap.size (.slice ga gn gc) gs)) (fun i _=>n6' - (intOf i).toNat)
   case atStart=>exact ⟨0,p6,[],none,0,0,Nat.zero_le _,rfl,hr0,hr1,⟨manyI_start (g:=iGone l) (F:=(fun i:List GoneD × Int=>some ((⟨nm,n1,n2,n3,ms,i.1,n4⟩:BoxD),i.2))) HM6.out,rfl⟩,HG1,HC1,HX1,HR1,HN1,Nat.le_refl _,HO1,.inl ⟨rfl,rfl⟩⟩
   case round =>
    obtain ⟨c,q,gs,ga,gn,gc,hc,rfl,hq0,hq1,HM1,HG,HC,HX,HR,HN,hs,HO,HP⟩:=hrel
    clear HM6 HG1 HC1 HX1 HR1 HN1 HO1 hr0 hr1
    by_cases hgo:c < n6'
    ·have DR:Below wr.heap.size wr wr.drew:=(Below.refl _ _).drew
     obtain ⟨x0,x1,x2,x3,x4,x5,x6⟩:=bx7 HX.out
     have lx:=lt_of_heap HX.out
     have HLn:Hid (gs.length=c):=HM1.out.2
     have HDm:Hid (∀ q',iGone l q'=(iN l q').bind fun a=>(iN l a.2).bind fun b=>some (⟨a.1,b.1⟩,b.2)):=fun _=>rfl
     go_upto_region 8 with fail
     refine wpS_begin 9 (S:=fun w'=>w'.cell? ⟨y4.heap.size,5,none⟩=some (.slice ga gn gc)) (tabS_of (by kernel_rfl) tabS_rdB8) (by kernel_rfl) (x5) (fun hTb hHeld=>?_)
     refine tks 0 0 38 hTb hHeld ?_
     refine tks 1 1 39 hTb hHeld ?_
     refine tks 2 2 40 hTb hHeld ?_
     refine tks 3 4 42 hTb hHeld ?_
     refine cls 4 3 hTb (by decide) rfl rfl (fun K hK=>?_)
     go_simp
     refine (num_c g _ l q ea _ (box_below DR HC.out) (fun wi h=>HB.out wi (grownBy_trans ((gr_below HG.out DR)) h)) (HE.out.gr ((gr_below HG.out DR)) hne) hl hq0 hq1).mono ?_
     rintro e m0 ⟨hh,G⟩
     rcases hh with ⟨rm0,hr,rfl,KC⟩ | ⟨hr,rfl⟩
     rotate_left
     ·have HNO:Hid (iBox l p=none):=manyI_none (g:=iGone l) (F:=(fun i:List GoneD × Int=>some ((⟨nm,n1,n2,n3,ms,i.1,n4⟩:BoxD),i.2))) HM1.out.1 hgo (by rw [HDm.out,hr];rfl)
      have HGN:Hid (w.grownBy m0 (some g)):=grownBy_trans ((gr_below HG.out DR)) G
      clear hr
      go_wp2
      exact ⟨rfl,.inr ⟨HNO.out,rfl⟩,HGN.out⟩
     obtain ⟨u0,r0⟩:=rm0
     have HDk1:Hid (iGone l q=(iN l r0).bind fun b=>some ((⟨u0,b.1⟩:GoneD),b.2)):=by show _=_;rw [HDm.out,hr];rfl
     obtain ⟨be0,hr00,hr01⟩:=iN_bd hl hr
     have G':wr.grownBy m0 (some g):=grownBy_trans (gr_below (World.grownBy.refl wr _) DR) G
     have HGm0:Hid (w.grownBy m0 (some g)):=grownBy_trans (gr_below HG.out DR) G
     have HCm0:Hid (m0.heap[g]?=some (.cells #[.slice ba bn bc,.int .i64 r0] 54 (0,0))):=KC
     have HXm0:Hid (m0.heap[y4.heap.size]?=some (.cells #[.slice na nn nc,.int .i64 n1,.int .i64 n2,.int .i64 n3,.slice va vn vc,.slice ga gn gc,.int .i64 n4] 44 (0,0))):=gr_at G' HX.out (by omega)
     have HRm0:Hid (m0.heap[w.heap.size]?=some (.cells #[.slice none 0 0,.int .i64 0,.int .i64 0,.int .i64 0,.slice none 0 0,.slice none 0 0,.int .i64 0] 44 (0,0))):=gr_at G' HR.out (by omega)
     have HNm0:Hid (Row m0 (w.heap.size+1) y0.heap.size (.slice na nn nc) nm):=HN.out.gr G' (.inl (by omega))
     have HOm0:Hid (MailsR m0 (y4.heap.size+1) z0.heap.size (.slice va vn vc) ms):=OwR.gr HO.out G' (.inl (by omega))
     have HPm0:Hid (GonesR m0 z0.heap.size wr.heap.size (.slice ga gn gc) gs):=OwR.gr HP.out G' (.inl (by omega))
     have sm0:wr.heap.size≤m0.heap.size:=by have:=G'.size;omega
     clear hr KC G G' DR x0 x1 x2 x3 x4 x5 x6 HDm
     clear HG HC HX HR HN HO HP
     refine hK.out _ _ ((bx7 HXm0.out).2.2.2.2.2.1) (fun hHeld=>?_)
     clear hK K
     refine cls 5 5 hTb (by decide) rfl rfl (fun K hK=>?_)
     go_simp
     refine (num_c g _ l r0 ea _ HCm0.out (fun wi h=>HB.out wi (grownBy_trans (HGm0.out) h)) (HE.out.gr (HGm0.out) hne) hl hr00 hr01).mono ?_
     rintro e m1 ⟨hh,G⟩
     rcases hh with ⟨rm1,hr,rfl,KC⟩ | ⟨hr,rfl⟩
     rotate_left
     ·have HNO:Hid (iBox l p=none):=manyI_none (g:=iGone l) (F:=(fun i:List GoneD × Int=>some ((⟨nm,n1,n2,n3,ms,i.1,n4⟩:BoxD),i.2))) HM1.out.1 hgo (by rw [HDk1.out,hr];rfl)
      have HGN:Hid (w.grownBy m1 (some g)):=grownBy_trans (HGm0.out) G
      clear hr
      go_wp2
      exact ⟨rfl,.inr ⟨HNO.out,rfl⟩,HGN.out⟩
     obtain ⟨u1,r1⟩:=rm1
     have HDk2:Hid (iGone l q=some ((⟨u0,u1⟩:GoneD),r1)):=by show _=_;rw [HDk1.out,hr];rfl
     obtain ⟨be1,hr10,hr11⟩:=iN_bd hl hr
     have HGm1:Hid (w.grownBy m1 (some g)):=grownBy_trans HGm0.out G
     have HCm1:Hid (m1.heap[g]?=some (.cells #[.slice ba bn bc,.int .i64 r1] 54 (0,0))):=KC
     have HXm1:Hid (m1.heap[y4.heap.size]?=some (.cells #[.slice na nn nc,.int .i64 n1,.int .i64 n2,.int .i64 n3,.slice va vn vc,.slice ga gn gc,.int .i64 n4] 44 (0,0))):=gr_at G HXm0.out (by omega)
     have HRm1:Hid (m1.heap[w.heap.size]?=some (.cells #[.slice none 0 0,.int .i64 0,.int .i64 0,.int .i64 0,.slice none 0 0,.slice none 0 0,.int .i64 0] 44 (0,0))):=gr_at G HRm0.out (by omega)
     have HNm1:Hid (Row m1 (w.heap.size+1) y0.heap.size (.slice na nn nc) nm):=HNm0.out.gr G (.inl (by omega))
     have HOm1:Hid (MailsR m1 (y4.heap.size+1) z0.heap.size (.slice va vn vc) ms):=OwR.gr HOm0.out G (.inl (by omega))
     have HPm1:Hid (GonesR m1 z0.heap.size wr.heap.size (.slice ga gn gc) gs):=OwR.gr HPm0.out G (.inl (by omega))
     have sm1:wr.heap.size≤m1.heap.size:=by have:=G.size;omega
     clear hr KC G HDk1
     clear HGm0 HCm0 HXm0 HRm0 HNm0 HOm0 HPm0
     refine hK.out _ _ ((bx7 HXm1.out).2.2.2.2.2.1) (fun hHeld=>?_)
     clear hK K
     refine tks 6 6 44 hTb hHeld ?_
     refine cls 7 7 hTb (by decide) rfl rfl (fun K hK=>?_)
     go_simp
     have AB:Below m1.heap.size m1 (m1.alloc (.cells #[.int .i64 u0,.int .i64 u1] 65)):=(Below.refl _ _).alloc (Nat.le_refl _) _
     refine hK.out _ _ ((bx7 (box_below AB HXm1.out)).2.2.2.2.2.1) (fun hHeld=>?_)
     clear hK K
     refine cls 8 8 hTb (by decide) rfl rfl (fun K hK=>?_)
     have hMs:wr.heap.size≤(m1.alloc (.cells #[.int .i64 u0,.int .i64 u1] 65)).heap.size:=by simp;omega
     have HEa:GoneE (m1.alloc (.cells #[.int .i64 u0,.int .i64 u1] 65)) [.int .i64 u0,.int .i64 u1] ⟨u0,u1⟩ (In wr.heap.size (m1.alloc (.cells #[.int .i64 u0,.int .i64 u1] 65)).heap.size):=⟨rfl,i64_of be0,i64_of be1⟩
     have hl1:gs.length+1≤maxLen:=by have:=HLn.out;unfold maxLen;omega
     have hl2:(gs.length+1) * 16≤140737488355328:=by have:=HLn.out;omega
     refine ite_w (by kernel_rfl) (wp_push 46 rfl (.tmp 39) (.tmp 45) rfl framesGone (B:=z0.heap.size) (M:=wr.heap.size) (OwR.below HPm1.out AB) hMs hs Tryd.underlying42 hj hy0 hy1 hy2 rfl (by omega) rfl ⟨u0,u1⟩ [.int .i64 u0,.int .i64 u1] rfl HEa ⟨m1.heap.size,0,none⟩ 1 rfl (cells_new m1 _ _) one2 hl1 hl2 ?_)
     intro DV wz hO hgz hvz
     obtain ⟨da,dn,dc,hDV⟩:=OwR.form3 hO
     subst hDV
     have hge:∀ j,(Value.slice ga gn gc).ownBlock=some j→z0.heap.size≤j:=fun j hj=>(hvz j hj).1
     have KX:=grown_at hgz hge (box_below AB HXm1.out) (by omega)
     have HCz:Hid (wz.heap[g]?=_):=grown_at hgz hge (box_below AB HCm1.out) (by omega)
     have HRz:Hid (wz.heap[w.heap.size]?=_):=grown_at hgz hge (box_below AB HRm1.out) (by omega)
     have HGz:Hid (w.grownBy wz (some g)):=gr_push (gr_below HGm1.out AB) hgz (fun j hj=>by have:=hge j hj;omega)
     have HNz:Hid (Row wz (w.heap.size+1) y0.heap.size (.slice na nn nc) nm):=(HNm1.out.below AB).gr' hgz (fun j hj=>by have:=hge j hj;omega)
     have HOz:Hid (MailsR wz (y4.heap.size+1) z0.heap.size (.slice va vn vc) ms):=OwR.gr' (OwR.below HOm1.out AB) hgz (fun j hj=>by have:=hge j hj;omega)
     have sz:m1.heap.size+1≤wz.heap.size:=by have:=hgz.size;simpa using this
     obtain ⟨zx,zl⟩:=box8z KX
     obtain ⟨d0,d1,d2,d3,d4,d5,d6⟩:=bx7 KX
     refine hK.out _ _ (d5) (fun hHeld=>?_)
     clear hK K
     refine wpS_next (S':=fun w'=>True) 9 11 hTb (by decide) (trivial) (fun hHeld=>?_)
     refine tks 9 9 47 hTb hHeld ?_
     refine cls 10 10 hTb (by decide) rfl rfl (fun K hK=>?_)
     go_simp
     refine hK.out _ _ (trivial) (fun hHeld=>?_)
     clear hK K
     refine wpS_end hTb ?_
     have HL2:Hid (iBox l p=(iMany (iGone l) (n6' - (c+1)) r1).bind (fun r=>(fun i:List GoneD × Int=>some ((⟨nm,n1,n2,n3,ms,i.1,n4⟩:BoxD),i.2)) (gs ++ [⟨u0,u1⟩] ++ r.1,r.2))):=manyI_step (g:=iGone l) (F:=(fun i:List GoneD × Int=>some ((⟨nm,n1,n2,n3,ms,i.1,n4⟩:BoxD),i.2))) HM1.out.1 hgo HDk2.out
     have HX5:Hid ((wz.setCell ⟨y4.heap.size,5,none⟩ (.slice da dn dc)).heap[y4.heap.size]?=some (.cells #[.slice na nn nc,.int .i64 n1,.int .i64 n2,.int .i64 n3,.slice va vn vc,.slice da dn dc,.int .i64 n4] 44 (0,0))):=box_set KX
     have HC5:Hid ((wz.setCell ⟨y4.heap.size,5,none⟩ (.slice da dn dc)).heap[g]?=_):=box_other HCz.out (by omega)
     have HR5:Hid ((wz.setCell ⟨y4.heap.size,5,none⟩ (.slice da dn dc)).heap[w.heap.size]?=_):=box_other HRz.out (by omega)
     have HG5:Hid (w.grownBy (wz.setCell ⟨y4.heap.size,5,none⟩ (.slice da dn dc)) (some g)):=gr_set HGz.out (by omega)
     have HN5:Hid (Row (wz.setCell ⟨y4.heap.size,5,none⟩ (.slice da dn dc)) (w.heap.size+1) y0.heap.size (.slice na nn nc) nm):=HNz.out.set (.inr (by omega))
     have HO5:Hid (MailsR (wz.setCell ⟨y4.heap.size,5,none⟩ (.slice da dn dc)) (y4.heap.size+1) z0.heap.size (.slice va vn vc) ms):=OwR.set HOz.out (.inl (by omega))
     have HP5:Hid (GonesR (wz.setCell ⟨y4.heap.size,5,none⟩ (.slice da dn dc)) z0.heap.size (wz.setCell ⟨y4.heap.size,5,none⟩ (.slice da dn dc)).heap.size (.slice da dn dc) (gs ++ [⟨u0,u1⟩])):=by show GonesR _ _ _ _ _;rw [box_size];exact OwR.set hO (.inl (by omega))
     have hs5:z0.heap.size≤(wz.setCell ⟨y4.heap.size,5,none⟩ (.slice da dn dc)).heap.size:=by rw [box_size];omega
     have hlen5:Hid ((gs ++ [(⟨u0,u1⟩:GoneD)]).length=c+1):=by show _=_;simp [HLn.out]
     clear KX HCz HRz HGz HNz HOz HXm1 HCm1 HRm1 HGm1 HNm1 HOm1 HPm1 HEa hO hgz hvz hge AB hl1 hl2 HLn HDk2 HM1
     go_wp2
     go_roundw
     case rel=>exact ⟨c+1,r1,_,da,dn,dc,by omega,by go_num,hr10,hr11,⟨HL2.out,hlen5.out⟩,HG5,HC5,HX5,HR5,HN5,hs5,HO5,HP5⟩
     case measure=>simp [intOf];omega
    ·obtain rfl:c=n6':=by omega
     have HME2:Hid (iBox l p=some (⟨nm,n1,n2,n3,ms,gs,n4⟩,q)):=manyI_end (g:=iGone l) (F:=(fun i:List GoneD × Int=>some ((⟨nm,n1,n2,n3,ms,i.1,n4⟩:BoxD),i.2))) HM1.out.1 (Nat.le_refl _)
     clear HM1
     obtain ⟨d0,d1,d2,d3,d4,d5,d6⟩:=bx7 HX.out
     obtain ⟨r0,r1,r2,r3,r4,r5,r6⟩:=bx7 HR.out
     obtain ⟨rz,rl⟩:=box8z HR.out
     have lx:=lt_of_heap HX.out
     have HCf:Hid ((((((((wr.setCell ⟨w.heap.size,0,none⟩ (.slice na nn nc)).setCell ⟨w.heap.size,1,none⟩ (.int .i64 n1)).setCell ⟨w.heap.size,2,none⟩ (.int .i64 n2)).setCell ⟨w.heap.size,3,none⟩ (.int .i64 n3)).setCell ⟨w.heap.size,4,none⟩ (.slice va vn vc)).setCell ⟨w.heap.size,5,none⟩ (.slice ga gn gc)).setCell ⟨w.heap.size,6,none⟩ (.int .i64 n4)).heap[g]?=_):=(box_other (k:=w.heap.size) (i:=6) (v:=.int .i64 n4) (box_other (k:=w.heap.size) (i:=5) (v:=.slice ga gn gc) (box_other (k:=w.heap.size) (i:=4) (v:=.slice va vn vc) (box_other (k:=w.heap.size) (i:=3) (v:=.int .i64 n3) (box_other (k:=w.heap.size) (i:=2) (v:=.int .i64 n2) (box_other (k:=w.heap.size) (i:=1) (v:=.int .i64 n1) (box_other (k:=w.heap.size) (i:=0) (v:=.slice na nn nc) HC.out (by omega)) (by omega)) (by omega)) (by omega)) (by omega)) (by omega)) (by omega))
     have HGf:Hid (w.grownBy (((((((wr.setCell ⟨w.heap.size,0,none⟩ (.slice na nn nc)).setCell ⟨w.heap.size,1,none⟩ (.int .i64 n1)).setCell ⟨w.heap.size,2,none⟩ (.int .i64 n2)).setCell ⟨w.heap.size,3,none⟩ (.int .i64 n3)).setCell ⟨w.heap.size,4,none⟩ (.slice va vn vc)).setCell ⟨w.heap.size,5,none⟩ (.slice ga gn gc)).setCell ⟨w.heap.size,6,none⟩ (.int .i64 n4)) (some g)):=(gr_set (b:=w.heap.size) (j:=6) (u:=.int .i64 n4) (gr_set (b:=w.heap.size) (j:=5) (u:=.slice ga gn gc) (gr_set (b:=w.heap.size) (j:=4) (u:=.slice va vn vc) (gr_set (b:=w.heap.size) (j:=3) (u:=.int .i64 n3) (gr_set (b:=w.heap.size) (j:=2) (u:=.int .i64 n2) (gr_set (b:=w.heap.size) (j:=1) (u:=.int .i64 n1) (gr_set (b:=w.heap.size) (j:=0) (u:=.slice na nn nc) HG.out (Nat.le_refl _)) (Nat.le_refl _)) (Nat.le_refl _)) (Nat.le_refl _)) (Nat.le_refl _)) (Nat.le_refl _)) (Nat.le_refl _))
     have HNf:Hid (Row (((((((wr.setCell ⟨w.heap.size,0,none⟩ (.slice na nn nc)).setCell ⟨w.heap.size,1,none⟩ (.int .i64 n1)).setCell ⟨w.heap.size,2,none⟩ (.int .i64 n2)).setCell ⟨w.heap.size,3,none⟩ (.int .i64 n3)).setCell ⟨w.heap.size,4,none⟩ (.slice va vn vc)).setCell ⟨w.heap.size,5,none⟩ (.slice ga gn gc)).setCell ⟨w.heap.size,6,none⟩ (.int .i64 n4)) (w.heap.size+1) y0.heap.size (.slice na nn nc) nm):=(Row.set (i:=6) (x:=.int .i64 n4) (Row.set (i:=5) (x:=.slice ga gn gc) (Row.set (i:=4) (x:=.slice va vn vc) (Row.set (i:=3) (x:=.int .i64 n3) (Row.set (i:=2) (x:=.int .i64 n2) (Row.set (i:=1) (x:=.int .i64 n1) (Row.set (i:=0) (x:=.slice na nn nc) HN.out (.inl (by omega))) (.inl (by omega))) (.inl (by omega))) (.inl (by omega))) (.inl (by omega))) (.inl (by omega))) (.inl (by omega)))
     have HOf:Hid (MailsR (((((((wr.setCell ⟨w.heap.size,0,none⟩ (.slice na nn nc)).setCell ⟨w.heap.size,1,none⟩ (.int .i64 n1)).setCell ⟨w.heap.size,2,none⟩ (.int .i64 n2)).setCell ⟨w.heap.size,3,none⟩ (.int .i64 n3)).setCell ⟨w.heap.size,4,none⟩ (.slice va vn vc)).setCell ⟨w.heap.size,5,none⟩ (.slice ga gn gc)).setCell ⟨w.heap.size,6,none⟩ (.int .i64 n4)) (y4.heap.size+1) z0.heap.size (.slice va vn vc) ms):=(OwR.set (i:=6) (x:=.int .i64 n4) (OwR.set (i:=5) (x:=.slice ga gn gc) (OwR.set (i:=4) (x:=.slice va vn vc) (OwR.set (i:=3) (x:=.int .i64 n3) (OwR.set (i:=2) (x:=.int .i64 n2) (OwR.set (i:=1) (x:=.int .i64 n1) (OwR.set (i:=0) (x:=.slice na nn nc) HO.out (.inl (by omega))) (.inl (by omega))) (.inl (by omega))) (.inl (by omega))) (.inl (by omega))) (.inl (by omega))) (.inl (by omega)))
     have HPf:Hid (GonesR (((((((wr.setCell ⟨w.heap.size,0,none⟩ (.slice na nn nc)).setCell ⟨w.heap.size,1,none⟩ (.int .i64 n1)).setCell ⟨w.heap.size,2,none⟩ (.int .i64 n2)).setCell ⟨w.heap.size,3,none⟩ (.int .i64 n3)).setCell ⟨w.heap.size,4,none⟩ (.slice va vn vc)).setCell ⟨w.heap.size,5,none⟩ (.slice ga gn gc)).setCell ⟨w.heap.size,6,none⟩ (.int .i64 n4)) z0.heap.size wr.heap.size (.slice ga gn gc) gs):=(OwR.set (i:=6) (x:=.int .i64 n4) (OwR.set (i:=5) (x:=.slice ga gn gc) (OwR.set (i:=4) (x:=.slice va vn vc) (OwR.set (i:=3) (x:=.int .i64 n3) (OwR.set (i:=2) (x:=.int .i64 n2) (OwR.set (i:=1) (x:=.int .i64 n1) (OwR.set (i:=0) (x:=.slice na nn nc) HP.out (.inl (by omega))) (.inl (by omega))) (.inl (by omega))) (.inl (by omega))) (.inl (by omega))) (.inl (by omega))) (.inl (by omega)))
     have KF:=(box_set (i:=6) (v:=.int .i64 n4) (box_set (i:=5) (v:=.slice ga gn gc) (box_set (i:=4) (v:=.slice va vn vc) (box_set (i:=3) (v:=.int .i64 n3) (box_set (i:=2) (v:=.int .i64 n2) (box_set (i:=1) (v:=.int .i64 n1) (box_set (i:=0) (v:=.slice na nn nc) HR.out)))))))
     obtain ⟨f0,f1,f2,f3,f4,f5,f6⟩:=bx7 KF
     have hszf:Hid ((((((((wr.setCell ⟨w.heap.size,0,none⟩ (.slice na nn nc)).setCell ⟨w.heap.size,1,none⟩ (.int .i64 n1)).setCell ⟨w.heap.size,2,none⟩ (.int .i64 n2)).setCell ⟨w.heap.size,3,none⟩ (.int .i64 n3)).setCell ⟨w.heap.size,4,none⟩ (.slice va vn vc)).setCell ⟨w.heap.size,5,none⟩ (.slice ga gn gc)).setCell ⟨w.heap.size,6,none⟩ (.int .i64 n4)).heap.size=wr.heap.size):=by show _=_;simp only [box_size]
     clear KF HC HG HN HO HP HR HX
     go_wp2
     refine bodyPost_ret (v:=.agg #[.slice na nn nc,.int .i64 n1,.int .i64 n2,.int .i64 n3,.slice va vn vc,.slice ga gn gc,.int .i64 n4]) (by simp [results,Tryd.results45,go_sem,f0,f1,f2,f3,f4,f5,f6]) rfl ⟨.inl ⟨_,_,HME2.out,rfl,?_,HCf.out⟩,HGf.out⟩
     exact ⟨_,rfl,_,_,_,In (w.heap.size+1) y0.heap.size,In (y4.heap.size+1) z0.heap.size,In z0.heap.size wr.heap.size,rfl,HNf.out.ro,HOf.out,HPf.out,(fun x hx=>⟨⟨by have:=hx.1;omega,by have:=hx.2;rw [hszf.out];omega⟩,fun h=>by have:=hx.2;have:=h.1;omega,fun h=>by have:=hx.2;have:=h.1;omega⟩),(fun x hx=>⟨⟨by have:=hx.1;omega,by have:=hx.2;rw [hszf.out];omega⟩,fun h=>by have:=hx.2;have:=h.1;omega⟩),(fun x hx=>⟨by have:=hx.1;omega,by have:=hx.2;rw [hszf.out];omega⟩),i64_of bd1,i64_of bd2,i64_of bd3,i64_of bd4⟩

end Go.Proofs.YtnlhkgoppjejeaaDoor
