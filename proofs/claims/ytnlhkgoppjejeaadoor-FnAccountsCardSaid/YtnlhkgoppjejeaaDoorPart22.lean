/- The proof's texts, part 22. -/
import Derived.Test.YtnlhkgoppjejeaaDoorPart20
import Derived.Test.YtnlhkgoppjejeaaDoorPart21
import Derived.Deep.RegionHeld3
import Derived.Deep.DeepCutAuto
import Derived.Test.YtnlhkgoppjejeaaDoorPart3
import Derived.Laws.BitsAllLaws
import Derived.Test.YtnlhkgoppjejeaaDoorPart10
import Derived.Test.YtnlhkgoppjejeaaDoorPart15
import Derived.Lib.AppendStr
import Derived.Test.YtnlhkgoppjejeaaDoorPart1
import Derived.Lib.ConvBytes

/- What sameMail, sameBox, sameBoxes of package laws answer where both are the same. -/
namespace Go.Proofs.YtnlhkgoppjejeaaDoor
open Go.RowKit
set_option maxRecDepth 100000
set_option linter.unusedVariables false
set_option linter.unusedSimpArgs false

set_option maxRecDepth 100000 in
set_option maxHeartbeats 1000000 in
theorem sameMail_yes (v u:Value) (x:MailD) (w:World) (hv:MailV w v x) (hu:MailV w u x) :
  Calls Tryd.prog 46 #[v,u] w fun e w'=>e=.returned (.bool true)∧Below w.heap.size w w':=by
 obtain ⟨u0,rfl,g0,-⟩:=hv
 obtain ⟨u1,rfl,g1,-⟩:=hu
 have H0:Hid (∀ wi,Below w.heap.size w wi→Bs wi u0 x.text∧Bs wi u1 x.text):=fun wi h=>⟨g0.below h,g1.below h⟩
 obtain ⟨ua,un,uc,rfl⟩:=g0.form3
 obtain ⟨ta,tn,tc,rfl⟩:=g1.form3
 clear g0 g1
 obtain ⟨kA,kB,X⟩:=boxes2 w (.cells #[.int .i64 x.uid,.int .i64 x.flags,.int .i64 x.seq,.slice ua un uc] 67) (.cells #[.int .i64 x.uid,.int .i64 x.flags,.int .i64 x.seq,.slice ta tn tc] 67)
 go_enter Tryd.func46,Tryd.ntmps46
 go_wp2_with fail
 refine (sameBytes_yes _ _ x.text _ (H0.out _ X).1 (H0.out _ X).2).mono ?_
 rintro e w1 ⟨rfl,B⟩
 replace X:=Below.step X B
 clear B kA kB
 go_wp2
 go_ret
 exact ⟨by simp,X⟩

set_option maxRecDepth 100000 in
set_option maxHeartbeats 4000000 in
theorem sameBox_yes (v u:Value) (x:BoxD) (w:World) (hv:BoxV w v x) (hu:BoxV w u x) :
  Calls Tryd.prog 25 #[v,u] w fun e w'=>e=.returned (.bool true)∧Below w.heap.size w w':=by
 obtain ⟨u0,u1,u2,rfl,g0,g1,g2,-⟩:=hv
 obtain ⟨u3,u4,u5,rfl,g3,g4,g5,-⟩:=hu
 have H0:Hid (∀ wi,Below w.heap.size w wi→(Bs wi u0 x.name∧Bs wi u3 x.name)∧(MailsV wi u1 x.mails∧MailsV wi u4 x.mails)∧(GonesV wi u2 x.gones∧GonesV wi u5 x.gones)):=fun wi h=>⟨⟨g0.below h,g3.below h⟩,⟨g1.below keepsMail h,g4.below keepsMail h⟩,⟨g2.below keepsGone h,g5.below keepsGone h⟩⟩
 obtain ⟨ua,un,uc,rfl⟩:=g0.form3
 obtain ⟨va,vc,rfl,m1,m2⟩:=g1.form
 obtain ⟨wa,wc,rfl,m3,m4⟩:=g2.form
 obtain ⟨ra,rn,rc,rfl⟩:=g3.form3
 obtain ⟨sa,sc,rfl,-⟩:=g4.form
 obtain ⟨ta,tc,rfl,-⟩:=g5.form
 clear g0 g1 g2 g3 g4 g5
 obtain ⟨kA,kB,X⟩:=boxes2 w (.cells #[.slice ua un uc,.int .i64 x.valid,.int .i64 x.next,.int .i64 x.seq,.slice va x.mails.length vc,.slice wa x.gones.length wc,.int .i64 x.lost] 44) (.cells #[.slice ra rn rc,.int .i64 x.valid,.int .i64 x.next,.int .i64 x.seq,.slice sa x.mails.length sc,.slice ta x.gones.length tc,.int .i64 x.lost] 44)
 go_enter Tryd.func25,Tryd.ntmps25
 go_wp2_with fail
 refine (sameBytes_yes _ _ x.name _ (H0.out _ X).1.1 (H0.out _ X).1.2).mono ?_
 rintro e w1 ⟨rfl,B⟩
 have HX:=hidm' (Below.step X B)
 have HA:=hidm' (box_below B kA)
 have HB:=hidm' (box_below B kB)
 clear B kA kB X
 have HM:Hid (∀ wi,Below w1.heap.size w1 wi→MailsV wi (.slice va x.mails.length vc) x.mails∧MailsV wi (.slice sa x.mails.length sc) x.mails):=fun wi h=>(H0.out wi (Below.step HX.out h)).2.1
 have HG:Hid (∀ wi,Below w1.heap.size w1 wi→GonesV wi (.slice wa x.gones.length wc) x.gones∧GonesV wi (.slice ta x.gones.length tc) x.gones):=fun wi h=>(H0.out wi (Below.step HX.out h)).2.2
 clear H0
 obtain ⟨f0,f1,f2,f3,f4,f5,f6⟩:=bx7 HA.out
 obtain ⟨e0,e1,e2,e3,e4,e5,e6⟩:=bx7 HB.out
 have la:=lt_of_heap HA.out
 have lb:=lt_of_heap HB.out
 go_wp2_with fail
 clear f0 f1 f2 f3 f4 f5 f6 e0 e1 e2 e3 e4 e5 e6
 go_loopw [5] (fun i wr=>∃ k:Nat,k≤x.mails.length∧i=.int .i64 k∧Hid (Below w1.heap.size w1 wr)) (fun i _=>x.mails.length - (intOf i).toNat)
 case atStart=>exact ⟨0,Nat.zero_le _,rfl,Below.refl _ _⟩
 case round =>
  obtain ⟨k,hk,rfl,hB⟩:=hrel
  obtain ⟨-,-,-,-,f4,f5,-⟩:=bx7 (box_below hB.out HA.out)
  obtain ⟨-,-,-,-,e4,e5,-⟩:=bx7 (box_below hB.out HB.out)
  have hs1:=hB.out.size
  by_cases hlt:k < x.mails.length
  ·obtain ⟨m,hm⟩:∃ m,x.mails[k]?=some m:=⟨x.mails[k],List.getElem?_eq_getElem hlt⟩
   have DR:Below wr.heap.size wr wr.drew:=(Below.refl _ _).drew
   obtain ⟨b,off,cap',u,hv',hlb,d0,d1,d2,d3,hu,i0,i1,i2⟩:=MailsV.cell (HM.out wr hB.out).1 k m hm
   obtain ⟨b2,off2,cap2',u2,hv2,hlb2,z0,z1,z2,z3,hu2,j0,j1,j2⟩:=MailsV.cell (HM.out wr hB.out).2 k m hm
   simp only [Value.slice.injEq,true_and] at hv' hv2
   obtain ⟨rfl,rfl⟩:=hv'
   obtain ⟨rfl,rfl⟩:=hv2
   obtain ⟨ua,un,uc,rfl⟩:=hu.form3
   obtain ⟨ta,tn,tc,rfl⟩:=hu2.form3
   have HV:Hid (MailV wr.drew (.agg #[.int .i64 m.uid,.int .i64 m.flags,.int .i64 m.seq,.slice ua un uc]) m∧MailV wr.drew (.agg #[.int .i64 m.uid,.int .i64 m.flags,.int .i64 m.seq,.slice ta tn tc]) m):=⟨⟨_,rfl,hu.below DR,i0,i1,i2⟩,⟨_,rfl,hu2.below DR,j0,j1,j2⟩⟩
   go_wp2
   go_region_held3 (fun w'=>w'.cell? ⟨w.heap.size,4,none⟩=some (.slice (some ⟨b,off,none⟩) x.mails.length vc)∧w'.cell? ⟨w.heap.size+1,4,none⟩=some (.slice (some ⟨b2,off2,none⟩) x.mails.length sc)∧w'.cell? ⟨b,off+k * 4,none⟩=some (.int .i64 m.uid)∧w'.cell? ⟨b,off+k * 4+1,none⟩=some (.int .i64 m.flags)∧w'.cell? ⟨b,off+k * 4+2,none⟩=some (.int .i64 m.seq)∧w'.cell? ⟨b,off+k * 4+3,none⟩=some (.slice ua un uc)∧w'.cell? ⟨b2,off2+k * 4,none⟩=some (.int .i64 m.uid)∧w'.cell? ⟨b2,off2+k * 4+1,none⟩=some (.int .i64 m.flags)∧w'.cell? ⟨b2,off2+k * 4+2,none⟩=some (.int .i64 m.seq)∧w'.cell? ⟨b2,off2+k * 4+3,none⟩=some (.slice ta tn tc))
    (first | go_keep | exact ⟨f4,e4,d0,d1,d2,d3,z0,z1,z2,z3⟩ | exact ⟨(B.cell (p:=⟨_,_,none⟩) (by simp only;exact Nat.lt_of_lt_of_le la hs1)).trans f4,(B.cell (p:=⟨_,_,none⟩) (by simp only;exact Nat.lt_of_lt_of_le lb hs1)).trans e4,(B.cell (p:=⟨_,_,none⟩) (by exact hlb)).trans d0,(B.cell (p:=⟨_,_,none⟩) (by exact hlb)).trans d1,(B.cell (p:=⟨_,_,none⟩) (by exact hlb)).trans d2,(B.cell (p:=⟨_,_,none⟩) (by exact hlb)).trans d3,(B.cell (p:=⟨_,_,none⟩) (by exact hlb2)).trans z0,(B.cell (p:=⟨_,_,none⟩) (by exact hlb2)).trans z1,(B.cell (p:=⟨_,_,none⟩) (by exact hlb2)).trans z2,(B.cell (p:=⟨_,_,none⟩) (by exact hlb2)).trans z3⟩)
    ((go_at_call 46;refine (sameMail_yes _ _ m _ HV.out.1 HV.out.2).mono ?_;rintro e w2 ⟨rfl,B⟩))
   have HB2:Hid (Below w1.heap.size w1 w2):=Below.step (Below.step hB.out DR) B
   clear d0 d1 d2 d3 z0 z1 z2 z3 B hB f4 f5 e4 e5
   go_wp2
   go_roundw
   case rel=>exact ⟨k+1,by omega,by go_num,HB2⟩
   case measure=>simp [intOf];omega
  ·obtain ⟨w2,hw2⟩:∃ w2,w2=wr:=⟨_,rfl⟩
   go_wp2_with fail
   clear f4 f5 e4 e5
   have HB1:=hB
   clear hB hw2
   go_loopw [6] (fun i w3=>∃ k:Nat,k≤x.gones.length∧i=.int .i64 k∧Hid (Below w1.heap.size w1 w3)) (fun i _=>x.gones.length - (intOf i).toNat)
   case atStart=>exact ⟨0,Nat.zero_le _,rfl,HB1⟩
   case round =>
    obtain ⟨k,hk,rfl,hB⟩:=hrel
    obtain ⟨-,-,-,-,-,f5,-⟩:=bx7 (box_below hB.out HA.out)
    obtain ⟨-,-,-,-,-,e5,-⟩:=bx7 (box_below hB.out HB.out)
    have hs1:=hB.out.size
    by_cases hlt:k < x.gones.length
    ·obtain ⟨m,hm⟩:∃ m,x.gones[k]?=some m:=⟨x.gones[k],List.getElem?_eq_getElem hlt⟩
     have DR:Below wr.heap.size wr wr.drew:=(Below.refl _ _).drew
     obtain ⟨b,off,cap',hv',hlb,d0,d1,i0,i1⟩:=GonesV.cell (HG.out wr hB.out).1 k m hm
     obtain ⟨b2,off2,cap2',hv2,hlb2,z0,z1,j0,j1⟩:=GonesV.cell (HG.out wr hB.out).2 k m hm
     simp only [Value.slice.injEq,true_and] at hv' hv2
     obtain ⟨rfl,rfl⟩:=hv'
     obtain ⟨rfl,rfl⟩:=hv2
     have HB2:Hid (Below w1.heap.size w1 wr.drew):=Below.step hB.out DR
     go_wp2
     go_region_held3 (fun w'=>w'.cell? ⟨w.heap.size,5,none⟩=some (.slice (some ⟨b,off,none⟩) x.gones.length wc)∧w'.cell? ⟨w.heap.size+1,5,none⟩=some (.slice (some ⟨b2,off2,none⟩) x.gones.length tc)∧w'.cell? ⟨b,off+k * 2,none⟩=some (.int .i64 m.uid)∧w'.cell? ⟨b,off+k * 2+1,none⟩=some (.int .i64 m.seq)∧w'.cell? ⟨b2,off2+k * 2,none⟩=some (.int .i64 m.uid)∧w'.cell? ⟨b2,off2+k * 2+1,none⟩=some (.int .i64 m.seq))
      (first | go_keep | exact ⟨f5,e5,d0,d1,z0,z1⟩)
      (fail)
     clear d0 d1 z0 z1 hB f5 e5
     go_wp2
     go_roundw
     case rel=>exact ⟨k+1,by omega,by go_num,HB2⟩
     case measure=>simp [intOf];omega
    ·go_wp2
     go_ret
     exact ⟨rfl,Below.step HX.out hB.out⟩

set_option maxRecDepth 100000 in
set_option maxHeartbeats 4000000 in
theorem sameBoxes_yes (v u:Value) (x y:AccD) (w:World) (hv:AccV w v x) (hu:AccV w u y) (hxv:x.valid=y.valid) (hxb:x.boxes=y.boxes) :
  Calls Tryd.prog 9 #[v,u] w fun e w'=>e=.returned (.bool true)∧Below w.heap.size w w':=by
 obtain ⟨u0,u1,rfl,g0,g1,-⟩:=hv
 obtain ⟨u2,u3,rfl,g2,g3,-⟩:=hu
 rw [← hxv]
 rw [← hxb] at g2
 have HV:Hid (∀ wi,Below w.heap.size w wi→BoxesV wi u0 x.boxes∧BoxesV wi u2 x.boxes):=fun wi h=>⟨g0.below keepsBox h,g2.below keepsBox h⟩
 obtain ⟨a0,c0,rfl,m1,m2⟩:=g0.form
 obtain ⟨a1,c1,rfl,-⟩:=g1.form
 obtain ⟨a2,c2,rfl,-⟩:=g2.form
 obtain ⟨a3,c3,rfl,-⟩:=g3.form
 clear g0 g1 g2 g3 hxb hxv
 obtain ⟨kA,kB,X⟩:=boxes2 w (.cells #[.int .i64 x.valid,.slice a0 x.boxes.length c0,.slice a1 x.seen.length c1] 26) (.cells #[.int .i64 x.valid,.slice a2 x.boxes.length c2,.slice a3 y.seen.length c3] 26)
 have HX:=hidm' X
 have HA:=hidm' kA
 have HB:=hidm' kB
 clear X kA kB
 go_enter Tryd.func9,Tryd.ntmps9
 go_upto_region 1 with fail
 generalize (w.alloc (.cells #[.int .i64 x.valid,.slice a0 x.boxes.length c0,.slice a1 x.seen.length c1] 26)).alloc (.cells #[.int .i64 x.valid,.slice a2 x.boxes.length c2,.slice a3 y.seen.length c3] 26)=w1 at HX HA HB ⊢
 obtain ⟨f0,f1,f2⟩:=bx3 HA.out
 obtain ⟨e0,e1,e2⟩:=bx3 HB.out
 have la:=lt_of_heap HA.out
 have lb:=lt_of_heap HB.out
 go_wp2_with fail
 clear f0 f1 f2 e0 e1 e2
 go_loopw [5] (fun i wr=>∃ k:Nat,k≤x.boxes.length∧i=.int .i64 k∧Hid (Below w1.heap.size w1 wr)) (fun i _=>x.boxes.length - (intOf i).toNat)
 case atStart=>exact ⟨0,Nat.zero_le _,rfl,Below.refl _ _⟩
 case round =>
  obtain ⟨k,hk,rfl,hB⟩:=hrel
  obtain ⟨-,f1,-⟩:=bx3 (box_below hB.out HA.out)
  obtain ⟨-,e1,-⟩:=bx3 (box_below hB.out HB.out)
  have hs1:=hB.out.size
  by_cases hlt:k < x.boxes.length
  ·obtain ⟨z,hz⟩:∃ z,x.boxes[k]?=some z:=⟨x.boxes[k],List.getElem?_eq_getElem hlt⟩
   have DR:Below wr.heap.size wr wr.drew:=(Below.refl _ _).drew
   obtain ⟨b,off,cap',u0,u1,u2,hv',hlb,d0,d1,d2,d3,d4,d5,d6,hu0,hu1,hu2,i0,i1,i2,i3⟩:=BoxesV.cell (HV.out wr (Below.step HX.out hB.out)).1 k z hz
   obtain ⟨b2,off2,cap2',u3,u4,u5,hv2,hlb2,z0,z1,z2,z3,z4,z5,z6,hu3,hu4,hu5,j0,j1,j2,j3⟩:=BoxesV.cell (HV.out wr (Below.step HX.out hB.out)).2 k z hz
   simp only [Value.slice.injEq,true_and] at hv' hv2
   obtain ⟨rfl,rfl⟩:=hv'
   obtain ⟨rfl,rfl⟩:=hv2
   obtain ⟨ua,un,uc,rfl⟩:=hu0.form3
   obtain ⟨va,vc,rfl,-⟩:=hu1.form
   obtain ⟨wa,wc,rfl,-⟩:=hu2.form
   obtain ⟨ra,rn,rc,rfl⟩:=hu3.form3
   obtain ⟨sa,sc,rfl,-⟩:=hu4.form
   obtain ⟨ta,tc,rfl,-⟩:=hu5.form
   have HBV:Hid (BoxV wr.drew (.agg #[.slice ua un uc,.int .i64 z.valid,.int .i64 z.next,.int .i64 z.seq,.slice va z.mails.length vc,.slice wa z.gones.length wc,.int .i64 z.lost]) z∧BoxV wr.drew (.agg #[.slice ra rn rc,.int .i64 z.valid,.int .i64 z.next,.int .i64 z.seq,.slice sa z.mails.length sc,.slice ta z.gones.length tc,.int .i64 z.lost]) z):=⟨⟨_,_,_,rfl,hu0.below DR,hu1.below keepsMail DR,hu2.below keepsGone DR,i0,i1,i2,i3⟩,⟨_,_,_,rfl,hu3.below DR,hu4.below keepsMail DR,hu5.below keepsGone DR,j0,j1,j2,j3⟩⟩
   go_wp2
   go_region_held3 (fun w'=>w'.cell? ⟨w.heap.size,1,none⟩=some (.slice (some ⟨b,off,none⟩) x.boxes.length c0)∧w'.cell? ⟨w.heap.size+1,1,none⟩=some (.slice (some ⟨b2,off2,none⟩) x.boxes.length c2)∧w'.cell? ⟨b,off+k * 7,none⟩=some (.slice ua un uc)∧w'.cell? ⟨b,off+k * 7+1,none⟩=some (.int .i64 z.valid)∧w'.cell? ⟨b,off+k * 7+2,none⟩=some (.int .i64 z.next)∧w'.cell? ⟨b,off+k * 7+3,none⟩=some (.int .i64 z.seq)∧w'.cell? ⟨b,off+k * 7+4,none⟩=some (.slice va z.mails.length vc)∧w'.cell? ⟨b,off+k * 7+5,none⟩=some (.slice wa z.gones.length wc)∧w'.cell? ⟨b,off+k * 7+6,none⟩=some (.int .i64 z.lost)∧w'.cell? ⟨b2,off2+k * 7,none⟩=some (.slice ra rn rc)∧w'.cell? ⟨b2,off2+k * 7+1,none⟩=some (.int .i64 z.valid)∧w'.cell? ⟨b2,off2+k * 7+2,none⟩=some (.int .i64 z.next)∧w'.cell? ⟨b2,off2+k * 7+3,none⟩=some (.int .i64 z.seq)∧w'.cell? ⟨b2,off2+k * 7+4,none⟩=some (.slice sa z.mails.length sc)∧w'.cell? ⟨b2,off2+k * 7+5,none⟩=some (.slice ta z.gones.length tc)∧w'.cell? ⟨b2,off2+k * 7+6,none⟩=some (.int .i64 z.lost))
    (first | go_keep | exact ⟨f1,e1,d0,d1,d2,d3,d4,d5,d6,z0,z1,z2,z3,z4,z5,z6⟩ | exact ⟨(B.cell (p:=⟨_,_,none⟩) (by simp only;exact Nat.lt_of_lt_of_le la hs1)).trans f1,(B.cell (p:=⟨_,_,none⟩) (by simp only;exact Nat.lt_of_lt_of_le lb hs1)).trans e1,(B.cell (p:=⟨_,_,none⟩) (by exact hlb)).trans d0,(B.cell (p:=⟨_,_,none⟩) (by exact hlb)).trans d1,(B.cell (p:=⟨_,_,none⟩) (by exact hlb)).trans d2,(B.cell (p:=⟨_,_,none⟩) (by exact hlb)).trans d3,(B.cell (p:=⟨_,_,none⟩) (by exact hlb)).trans d4,(B.cell (p:=⟨_,_,none⟩) (by exact hlb)).trans d5,(B.cell (p:=⟨_,_,none⟩) (by exact hlb)).trans d6,(B.cell (p:=⟨_,_,none⟩) (by exact hlb2)).trans z0,(B.cell (p:=⟨_,_,none⟩) (by exact hlb2)).trans z1,(B.cell (p:=⟨_,_,none⟩) (by exact hlb2)).trans z2,(B.cell (p:=⟨_,_,none⟩) (by exact hlb2)).trans z3,(B.cell (p:=⟨_,_,none⟩) (by exact hlb2)).trans z4,(B.cell (p:=⟨_,_,none⟩) (by exact hlb2)).trans z5,(B.cell (p:=⟨_,_,none⟩) (by exact hlb2)).trans z6⟩)
    ((go_at_call 25;refine (sameBox_yes _ _ z _ HBV.out.1 HBV.out.2).mono ?_;rintro e w2 ⟨rfl,B⟩))
   have HB2:Hid (Below w1.heap.size w1 w2):=Below.step (Below.step hB.out DR) B
   clear d0 d1 d2 d3 d4 d5 d6 z0 z1 z2 z3 z4 z5 z6 B hB f1 e1
   go_wp2
   go_roundw
   case rel=>exact ⟨k+1,by omega,by go_num,HB2⟩
   case measure=>simp [intOf];omega
  ·go_wp2
   go_ret
   exact ⟨rfl,Below.step HX.out hB.out⟩

end Go.Proofs.YtnlhkgoppjejeaaDoor

/- The drawing cursor of package spec: what l1Byte and l1Below answer lies in its bounds; they write into the cursor alone. -/
namespace Go.Proofs.YtnlhkgoppjejeaaDoor
open Go.RowKit
set_option maxRecDepth 100000

/-- The cursor at block g: it holds the slice cv of the bytes L, a place in it, and some number; below w0's size nothing has turned since w0. -/
def Cur (w0 w:World) (g:Nat) (cv:Value) (L:List Int):Prop :=
 w0.heap.size≤g∧Below w0.heap.size w0 w∧Bs w0 cv L∧∃ i h:Int,0≤i∧i≤L.length∧w.heap[g]?=some (.cells #[cv,.int .i64 i,.int .i64 h] 69 (0,0))

theorem and255 (x:Int):0≤bits BinOp.and IntKind.i64 x 255∧bits BinOp.and IntKind.i64 x 255≤255:=by
 have e:bits BinOp.and IntKind.i64 x 255=IntKind.i64.wrap ((BitVec.ofInt 64 x &&& BitVec.ofInt 64 255).toNat:Int):=rfl
 have hb:(BitVec.ofInt 64 x &&& BitVec.ofInt 64 255).toNat≤255:=by
  rw [BitVec.toNat_and]
  exact Nat.and_le_right
 rw [e,IntWalk.i64_in _ (by omega)]
 omega

theorem grownBy_drewN {w w':World} {r:Option Nat} (h:w.grownBy w' r) (n:Nat):w.grownBy (w'.drewN n) r:=⟨h.os,h.tape,h.output,h.size,h.block⟩
theorem set_h {w:World} {g:Nat} {c0 c1 c2 v:Value} {t:TypeId} (h:w.heap[g]?=some (.cells #[c0,c1,c2] t (0,0))):(w.setCell ⟨g,2,none⟩ v).heap[g]?=some (.cells #[c0,c1,v] t (0,0)):=by
 rw [heap_setCell_same w g 2 _ t v h];rfl
theorem set_i {w:World} {g:Nat} {c0 c1 c2 v:Value} {t:TypeId} (h:w.heap[g]?=some (.cells #[c0,c1,c2] t (0,0))):(w.setCell ⟨g,1,none⟩ v).heap[g]?=some (.cells #[c0,v,c2] t (0,0)):=by
 rw [heap_setCell_same w g 1 _ t v h];rfl

set_option maxHeartbeats 1000000 in
theorem l1Byte_any (w0 w:World) (g:Nat) (cv:Value) (L:List Int) (hc:Cur w0 w g cv L) :
  Calls Tryd.prog 51 #[.pointer (some ⟨g,0,none⟩)] w fun e w'=>∃ x,e=.returned (.int .i64 x)∧0≤x∧x≤255∧Cur w0 w' g cv L∧w.grownBy w' (some g):=by
 obtain ⟨hg,hB,hbs,i,h,hi0,hi1,hh⟩:=hc
 have f0:w.cell? ⟨g,0,none⟩=some cv:=by rw [cell_of_row w g 0 _ _ (0,0) hh];rfl
 have f1:w.cell? ⟨g,1,none⟩=some (.int .i64 i):=by rw [cell_of_row w g 1 _ _ (0,0) hh];rfl
 have f2:w.cell? ⟨g,2,none⟩=some (.int .i64 h):=by rw [cell_of_row w g 2 _ _ (0,0) hh];rfl
 have z1:=frozen_of_row w g 1 _ _ hh
 have z2:=frozen_of_row w g 2 _ _ hh
 obtain ⟨a,cap,rfl⟩:∃ a cap,cv=.slice a L.length cap:=by obtain ⟨_,a,cap,h,_⟩:=hbs;exact ⟨a,cap,h⟩
 by_cases hlt:i < (L.length:Int)
 ·obtain ⟨I,rfl⟩:=Int.eq_ofNat_of_zero_le hi0
  have HBS:Hid (Bs w0 (.slice a L.length cap) L):=hbs
  obtain ⟨ho,a',cap',hv,hlc,hcm,-,h4⟩:=hbs
  simp only [Value.slice.injEq] at hv
  obtain ⟨rfl,-,rfl⟩:=hv
  obtain ⟨b,off,rfl,hb,hcell⟩:=h4 (by omega)
  have fx:w.cell? ⟨b,off+I,none⟩=some (.int .u8 (L.getD I 0)):=(hB.cell (p:=⟨b,off+I,none⟩) hb).trans (hcell I (by omega))
  have ox:=oct_get ho I
  obtain ⟨x,hx⟩:∃ x,x=L.getD I 0:=⟨_,rfl⟩
  rw [← hx] at fx ox
  obtain ⟨ox0,ox1⟩:=ox
  have hbg:¬ b=g:=by omega
  have hgb:¬ g=b:=by omega
  have HL:Hid (I < L.length):=by unfold Hid;omega
  unfold maxLen at hcm
  clear hcell h4 hx
  go_enter Tryd.func51,Tryd.ntmps51
  go_wp2
  go_quiet (fail)
  go_wp2
  go_quiet (fail)
  go_wp2
  go_quiet (fail)
  go_wp2
  go_ret
  exact ⟨_,rfl,(and255 _).1,(and255 _).2,⟨hg,(below_drewN _ (hB.setCell hg _)).setCell hg _,HBS.out,(I:Int)+1,_,by omega,by omega,set_i (w:=(w.setCell ⟨g,2,none⟩ _).drewN _) (set_h hh)⟩,grownBy_setCell (grownBy_drewN (grownBy_setCell (World.grownBy.refl _ _)) _)⟩
 ·go_enter Tryd.func51,Tryd.ntmps51
  go_wp2
  go_quiet (fail)
  go_wp2
  go_quiet (fail)
  go_wp2
  go_ret
  exact ⟨_,rfl,(and255 _).1,(and255 _).2,⟨hg,below_drewN _ (below_drewN _ (hB.setCell hg _)),hbs,i,_,hi0,hi1,set_h hh⟩,grownBy_drewN (grownBy_drewN (grownBy_setCell (World.grownBy.refl _ _)) _) _⟩

theorem Cur.below {w0 w w':World} {g:Nat} {cv:Value} {L:List Int} (h:Cur w0 w g cv L) (hb:Below w.heap.size w w'):Cur w0 w' g cv L:=by
 obtain ⟨hg,hB,hbs,i,q,h0,h1,hh⟩:=h
 exact ⟨hg,hB.trans (hb.mono hB.size),hbs,i,q,h0,h1,(hb.block g (lt_of_heap hh)).trans hh⟩
theorem Cur.lt {w0 w:World} {g:Nat} {cv:Value} {L:List Int} (h:Cur w0 w g cv L):w0.heap.size≤g∧g < w.heap.size:=by
 obtain ⟨hg,_,_,i,q,_,_,hh⟩:=h;exact ⟨hg,lt_of_heap hh⟩
/-- Another row was written. -/
theorem Cur.kept {w0 w w':World} {g B T:Nat} {cv u:Value} {L m:List Int} (h:Cur w0 w g cv L) (hu:Row w B T u m) (hw:w.grownBy w' u.ownBlock) (hd:g < B):Cur w0 w' g cv L:=by
 obtain ⟨hg,hB,hbs,i,q,h0,h1,hh⟩:=h
 refine ⟨hg,hB.grown hw hB.size (fun k hk=>by have:=(hu.2.1.lt k hk).1;omega),hbs,i,q,h0,h1,(hw.block g (lt_of_heap hh) (fun e=>?_)).trans hh⟩
 have:=(hu.2.1.lt g e.symm).1;omega
theorem grown_belowD {w w':World} {g:Nat} (h:Below w.heap.size w w'):w.grownBy w' (some g):=⟨h.os,h.tape,h.output,h.size,fun k hk _=>h.block k hk⟩
set_option maxHeartbeats 400000 in
theorem l1Below_any (w0 w:World) (g:Nat) (cv:Value) (L:List Int) (n:Int) (hc:Cur w0 w g cv L) (hn:1≤n) (hn1:n≤4000000000) :
  Calls Tryd.prog 30 #[.pointer (some ⟨g,0,none⟩),.int .i64 n] w fun e w'=>∃ x,e=.returned (.int .i64 x)∧0≤x∧x < n∧Cur w0 w' g cv L∧w.grownBy w' (some g):=by
 by_cases hs:n≤256
 ·go_enter Tryd.func30,Tryd.ntmps30
  go_wp2_with fail
  refine (l1Byte_any w0 _ g cv L hc).mono ?_
  rintro e w1 ⟨x,rfl,hx0,hx1,hc1,hg1⟩
  go_wp2
  go_ret
  exact ⟨_,rfl,Int.emod_nonneg _ (by omega),Int.emod_lt_of_pos _ (by omega),hc1,hg1⟩
 ·go_enter Tryd.func30,Tryd.ntmps30
  go_wp2_with fail
  refine (l1Byte_any w0 _ g cv L hc).mono ?_
  rintro e w1 ⟨x,rfl,hx0,hx1,hc1,hg1⟩
  go_wp2_with fail
  refine (l1Byte_any w0 _ g cv L hc1).mono ?_
  rintro e w2 ⟨y,rfl,hy0,hy1,hc2,hg2⟩
  go_wp2_with fail
  refine (l1Byte_any w0 _ g cv L hc2).mono ?_
  rintro e w3 ⟨z,rfl,hz0,hz1,hc3,hg3⟩
  go_wp2_with fail
  refine (l1Byte_any w0 _ g cv L hc3).mono ?_
  rintro e w4 ⟨q,rfl,hq0,hq1,hc4,hg4⟩
  go_wp2
  go_ret
  exact ⟨_,rfl,Int.emod_nonneg _ (by omega),Int.emod_lt_of_pos _ (by omega),hc4,grownBy_trans (grownBy_trans (grownBy_trans hg1 hg2) hg3) hg4⟩

set_option maxHeartbeats 400000 in
theorem l1Once_any (w0 w:World) (g:Nat) (cv:Value) (L:List Int) (n:Int) (hc:Cur w0 w g cv L) (hn:1≤n) (hn1:n≤4000000000) :
  Calls Tryd.prog 28 #[.pointer (some ⟨g,0,none⟩),.int .i64 n] w fun e w'=>∃ x,e=.returned (.bool x)∧Cur w0 w' g cv L∧w.grownBy w' (some g):=by
 go_enter Tryd.func28,Tryd.ntmps28
 go_wp2_with fail
 refine (l1Below_any w0 _ g cv L n hc hn hn1).mono ?_
 rintro e w1 ⟨x,rfl,hx0,hx1,hc1,hg1⟩
 go_wp2
 go_ret
 exact ⟨_,rfl,hc1,hg1⟩

/-- A list of ints in a block of its own: each is an int, and there is one. -/
def Ints (w:World) (v:Value) (g n:Nat):Prop :=
 1≤n∧n≤1000∧∃ k,k≠g∧k < w.heap.size∧v=.slice (some ⟨k,0,none⟩) n n∧∀ i,i < n→∃ x,w.cell? ⟨k,i,none⟩=some (.int .i64 x)∧-9223372036854775808≤x∧x≤9223372036854775807

end Go.Proofs.YtnlhkgoppjejeaaDoor

/- What l1New, l1some and l1num of package spec answer. -/
namespace Go.Proofs.YtnlhkgoppjejeaaDoor
open Go.RowKit
set_option maxRecDepth 100000

theorem grownBy_belowB {w w1 w2:World} {r:Option Nat} {B:Nat} (h:w.grownBy w1 r) (hb:Below B w1 w2) (hB:w.heap.size≤B):w.grownBy w2 r :=
 ⟨hb.os.trans h.os,hb.tape.trans h.tape,hb.output.trans h.output,Nat.le_trans h.size hb.size,fun k hk hne=>(hb.block k (Nat.lt_of_lt_of_le hk hB)).trans (h.block k hk hne)⟩
theorem Cur.belowB {w0 w w':World} {g B:Nat} {cv:Value} {L:List Int} (h:Cur w0 w g cv L) (hb:Below B w w') (hg:g < B):Cur w0 w' g cv L:=by
 obtain ⟨hg0,hB,hbs,i,q,h0,h1,hh⟩:=h
 exact ⟨hg0,hB.trans (hb.mono (by omega)),hbs,i,q,h0,h1,(hb.block g hg).trans hh⟩
theorem OwnB.drawn {w w':World} {g B:Nat} {v:Value} {l:List Int} (h:OwnB w B v l) (hw:w.grownBy w' (some g)) (hd:g < B):OwnB w' B v l:=by
 obtain ⟨k,hk,ho⟩:=h
 exact ⟨k,hk,ho.kept hw (by omega)⟩

set_option maxRecDepth 100000 in
set_option maxHeartbeats 400000 in
theorem l1New_any (v:Value) (L:List Int) (w:World) (hv:Bs w v L) :
  Calls Tryd.prog 13 #[v] w fun e w'=>∃ g,e=.returned (.pointer (some ⟨g,0,none⟩))∧Cur w w' g v L∧Below w.heap.size w w':=by
 have HBS:Hid (Bs w v L):=hv
 obtain ⟨ho,a,cap,rfl,hlc,hcm,hnil,hcells⟩:=hv
 unfold maxLen at hcm
 go_enter Tryd.func13,Tryd.ntmps13
 go_wp2
 go_loop [3,4] (fun h i=>∃ (q:Int) (k:Nat),h=.int .i64 q∧i=.int .i64 k∧k≤L.length∧k≤4000) (fun _ i=>4000 - (intOf i).toNat)
 case atStart=>exact ⟨_,0,rfl,rfl,Nat.zero_le _,Nat.zero_le _⟩
 case round =>
  obtain ⟨q,k,rfl,rfl,hk,hk4⟩:=hrel
  by_cases h1:k < L.length
  ·by_cases h2:k < 4000
   ·obtain ⟨b,off,rfl,hlb,hc⟩:=hcells (by omega)
    have hx:=hc k h1
    have hb:=oct_get ho k
    obtain ⟨x,hxe⟩:∃ x,x=L.getD k 0:=⟨_,rfl⟩
    rw [← hxe] at hx hb
    clear hc hcells hxe
    go_wp2
    go_round
    case rel=>exact ⟨_,k+1,rfl,by go_num,by omega,by omega⟩
    case measure=>simp [intOf];omega
   ·go_wp2
    go_ret
    exact ⟨w.heap.size,rfl,⟨Nat.le_refl _,(Below.refl _ _).alloc (Nat.le_refl _) _,HBS.out,0,q,by omega,by omega,heap_alloc_new w _⟩,(Below.refl _ _).alloc (Nat.le_refl _) _⟩
  ·go_wp2
   go_ret
   exact ⟨w.heap.size,rfl,⟨Nat.le_refl _,(Below.refl _ _).alloc (Nat.le_refl _) _,HBS.out,0,q,by omega,by omega,heap_alloc_new w _⟩,(Below.refl _ _).alloc (Nat.le_refl _) _⟩

end Go.Proofs.YtnlhkgoppjejeaaDoor

/- One byte in a block of its own; flags, one behind the other. -/
namespace Go.Proofs.YtnlhkgoppjejeaaDoor
open Go.RowKit

end Go.Proofs.YtnlhkgoppjejeaaDoor

/- Strings put behind bytes of the call's own. -/
namespace Go.Proofs.YtnlhkgoppjejeaaDoor
open Go.RowKit

theorem strCells_nums {s:List Int} (h:Oct s):Lib.strCells (strOfNums s)=vals s:=by
 unfold Lib.strCells vals
 rw [strOfNums_data,List.map_map]
 refine List.map_congr_left fun x hx=>?_
 have:=h x hx
 simp only [Function.comp]
 rw [UInt8.toNat_ofNat']
 congr 1
 omega

end Go.Proofs.YtnlhkgoppjejeaaDoor

/- Rows of bytes of the call's own that may have been made of a string: a mark lies behind their last cell. -/
namespace Go.Proofs.YtnlhkgoppjejeaaDoor
open Go.RowKit
set_option linter.unusedVariables false

/-- The slice value v lies at the head of block g, whose first cells are the bytes l; what is marked in the block lies behind its cells, or there is none. -/
def OwnQ (w:World) (g:Nat) (v:Value) (l:List Int):Prop :=
 Oct l∧∃ cap cur fz,v=.slice (some ⟨g,0,none⟩) l.length cap∧w.heap[g]?=some (.cells cur 5 fz)∧(fz.2=0∨cap≤fz.1)∧l.length≤cap∧cap≤maxLen∧cur.size=cap∧cur.toList.take l.length=vals l

theorem OwnQ.oct {w:World} {g:Nat} {v:Value} {l:List Int} (h:OwnQ w g v l):Oct l:=h.1
theorem OwnQ.lt {w:World} {g:Nat} {v:Value} {l:List Int} (h:OwnQ w g v l):g < w.heap.size:=by
 obtain ⟨_,cap,cur,fz,_,hh,_⟩:=h
 exact lt_of_heap hh
theorem OwnQ.form {w:World} {g:Nat} {v:Value} {l:List Int} (h:OwnQ w g v l):∃ cap,v=.slice (some ⟨g,0,none⟩) l.length cap:=by
 obtain ⟨_,cap,_,_,hv,_⟩:=h
 exact ⟨cap,hv⟩
theorem OwnQ.holds {w:World} {g:Nat} {v:Value} {l:List Int} (h:OwnQ w g v l):∀ j u,(vals l)[j]?=some u→w.cell? ⟨g,j,none⟩=some u:=by
 obtain ⟨_,cap,cur,fz,_,hh,_,_,_,_,ht⟩:=h
 intro j u hu
 rw [cell_of_row w g j cur _ fz hh]
 rw [← ht,List.getElem?_take] at hu
 split at hu
 ·simpa using hu
 ·cases hu
theorem OwnQ.bs {w:World} {g:Nat} {v:Value} {l:List Int} (h:OwnQ w g v l):Bs w v l:=by
 have hl:=h.lt
 have hc:=h.holds
 obtain ⟨ho,cap,cur,fz,hv,hh,_,h1,h2,_⟩:=h
 refine ⟨ho,some ⟨g,0,none⟩,cap,hv,h1,h2,(fun h=>by cases h),fun _=>⟨g,0,rfl,hl,fun i hi=>?_⟩⟩
 rw [Nat.zero_add]
 exact hc i _ (vals_get l i hi)
/-- The row stays where its block does. -/
theorem OwnQ.frame {w w':World} {g:Nat} {v:Value} {l:List Int} (h:OwnQ w g v l) (hw:w'.heap[g]?=w.heap[g]?):OwnQ w' g v l:=by
 obtain ⟨ho,cap,cur,fz,hv,hh,r⟩:=h
 exact ⟨ho,cap,cur,fz,hv,hw.trans hh,r⟩
theorem OwnQ.below {w w':World} {g:Nat} {v:Value} {l:List Int} (h:OwnQ w g v l) (hb:Below w.heap.size w w'):OwnQ w' g v l:=h.frame (hb.block g h.lt)
/-- Bytes that lie in another block than g stay. -/
theorem Bs.grown {w w':World} {g:Nat} {v:Value} {l:List Int} (h:Bs w v l) (hg:w.grownBy w' (some g)) (hn:v.ownBlock≠some g):Bs w' v l:=by
 obtain ⟨ho,a,cap,hv,h1,h2,h3,h4⟩:=h
 refine ⟨ho,a,cap,hv,h1,h2,h3,fun hp=>?_⟩
 obtain ⟨b,off,rfl,hb,hc⟩:=h4 hp
 have hne:some b≠some g:=by rw [hv] at hn;simpa [Value.ownBlock] using hn
 refine ⟨b,off,rfl,Nat.lt_of_lt_of_le hb hg.size,fun i hi=>?_⟩
 rw [World.cell?_of_block (hg.block b hb hne)]
 exact hc i hi

/-- What '[]byte(s)' answers. -/
theorem bytesWorldQ (w:World) (s:List Int) (hs:Oct s) (hl:s.length≤1000000) :
  OwnQ (Lib.bytesWorld w 5 (strOfNums s)) w.heap.size (.slice (some ⟨w.heap.size,0,none⟩) s.length (grownCap w s.length 0 5)) s∧Below w.heap.size w (Lib.bytesWorld w 5 (strOfNums s)):=by
 have hge:=grownCap_ge w s.length 0 5
 have hcm:grownCap w s.length 0 5≤maxLen:=grownCap_le_maxLen w s.length 0 _ (by unfold maxLen;omega)
 have hsz:=strOfNums_size s
 have hcs:(Lib.bytesCells w 5 (strOfNums s)).size=grownCap w s.length 0 5:=by
  have:(strOfNums s).data.size=s.length:=hsz
  simp only [Lib.bytesCells,Array.size_append,Array.size_map,Array.size_replicate,this,hsz]
  omega
 refine ⟨⟨hs,_,_,_,rfl,Lib.bytesWorld_at_new w _ _,.inr (Nat.le_of_eq hcs.symm),hge,hcm,hcs,?_⟩,rfl,rfl,rfl,by rw [Lib.bytesWorld_size];omega,fun k hk=>Lib.bytesWorld_at_old w _ _ k hk⟩
 have e:((strOfNums s).data.map fun b=>Value.int .u8 b.toNat).toList=vals s:=(by rw [Array.toList_map];exact strCells_nums hs)
 have hv:(vals s).length=s.length:=length_vals s
 simp only [Lib.bytesCells,Array.toList_append]
 rw [e,← hv]
 exact List.take_left

end Go.Proofs.YtnlhkgoppjejeaaDoor

/- What l4word of package spec does behind bytes that may have been made of a string. -/
namespace Go.Proofs.YtnlhkgoppjejeaaDoor
open Go.RowKit
set_option linter.unusedVariables false

end Go.Proofs.YtnlhkgoppjejeaaDoor

/- What l4digits, l4quoted, l4flags of package spec do. -/
namespace Go.Proofs.YtnlhkgoppjejeaaDoor
open Go.RowKit
set_option linter.unusedVariables false

end Go.Proofs.YtnlhkgoppjejeaaDoor
