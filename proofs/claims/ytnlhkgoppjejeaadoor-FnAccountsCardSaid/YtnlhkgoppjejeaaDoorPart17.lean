/- The proof's texts, part 17. -/
import Derived.Test.YtnlhkgoppjejeaaDoorPart16
import Derived.Test.YtnlhkgoppjejeaaDoorPart3
import Derived.Test.YtnlhkgoppjejeaaDoorPart9
import Derived.Test.YtnlhkgoppjejeaaDoorPart10
import Derived.Deep.RegionHeld3
import Derived.Test.YtnlhkgoppjejeaaDoorPart15
import Derived.Test.YtnlhkgoppjejeaaDoorPart2
import Derived.Test.YtnlhkgoppjejeaaDoorPart14
import Derived.Test.YtnlhkgoppjejeaaDoorPart4

/- What AccountOk of package spec does of every account. -/
namespace Go.Proofs.YtnlhkgoppjejeaaDoor
open Go.RowKit
set_option maxRecDepth 100000

theorem accB_no {x:AccD} (h:¬ (0≤x.valid∧x.valid≤1000000∧(x.boxes.length:Int)≤4∧(x.seen.length:Int)≤60)):accB x=false:=by
 rw [Bool.eq_false_iff]
 intro e
 simp only [accB,seenB,inB,Bool.and_eq_true,decide_eq_true_eq] at e
 exact h ⟨e.1.1,e.1.2,by have:=e.2.1;omega,by have:=e.2.2.1.1;omega⟩

set_option maxRecDepth 100000 in
set_option maxHeartbeats 4000000 in
theorem specAccountOk_any (v:Value) (x:AccD) (w:World) (hv:AccV w v x) :
  Calls Tryd.prog 6 #[v] w fun e w'=>e=.returned (.bool (accB x))∧Below w.heap.size w w':=by
 by_cases hC:0≤x.valid∧x.valid≤1000000∧(x.boxes.length:Int)≤4∧(x.seen.length:Int)≤60
 ·exact specAccountOk_in v x w hv hC.1 hC.2.1 hC.2.2.1 hC.2.2.2
 ·obtain ⟨u0,u1,rfl,g0,g1,-⟩:=hv
  obtain ⟨a0,c0,rfl,m0,m1⟩:=g0.form
  obtain ⟨a1,c1,rfl,m2,m3⟩:=g1.form
  clear g0 g1
  have HX:Hid (∀ o,Below w.heap.size w (w.alloc o)):=fun o=>(Below.refl _ _).alloc (Nat.le_refl _) o
  have HC:Hid (¬ (0≤x.valid∧x.valid≤1000000∧(x.boxes.length:Int)≤4∧(x.seen.length:Int)≤60)):=hC
  clear hC
  go_enter Tryd.func6,Tryd.ntmps6
  go_wp2
  all_goals first
   | (go_ret;exact ⟨ret_b (accB_no HC.out),HX.out _⟩)
   | exact (HC.out ⟨by omega,by omega,by omega,by omega⟩).elim

end Go.Proofs.YtnlhkgoppjejeaaDoor

/- What PutNum of package spec does. -/
namespace Go.Proofs.YtnlhkgoppjejeaaDoor
open Go.RowKit
set_option maxRecDepth 100000

set_option maxHeartbeats 400000 in
theorem specPutNum_any (v:Value) (l:List Int) (n:Int) (w:World) (hv:Bs w v l) (hl:l.length≤2000000) (hn0 : -9223372036854775808≤n) (hn1:n≤9223372036854775807) :
  Calls Tryd.prog 47 #[v,.int .i64 n] w fun e w'=>∃ u,e=.returned u∧OwnB w' w.heap.size u (putL l n)∧Below w.heap.size w w':=by
 have HV:Hid (∀ o,Bs (w.alloc o) v l):=fun o=>hv.alloc o
 have HE:Hid (OwnB (w.alloc (.cells #[] 5)) w.heap.size (.slice (some ⟨w.heap.size,0,none⟩) 0 0) []):=ownB_empty w _ (Nat.le_refl _)
 have HB:Hid (Below w.heap.size w (w.alloc (.cells #[] 5))):=(Below.refl _ _).alloc (Nat.le_refl _) _
 obtain ⟨i0,hi,hz0,hz1,hz2⟩:=info_parts info5
 clear hv
 by_cases hb:0≤n∧n≤2147483647
 ·obtain ⟨hb0,hb1⟩:=hb
  have hp:putL l n=l ++ enc 4 n:=by simp [putL,hb0,hb1]
  have HP:Hid (putL l n=l ++ enc 4 n):=hp
  clear hp
  go_enter Tryd.func47,Tryd.ntmps47
  go_wp2_with (at_builtin;refine wpList_append_bytes rfl (.tmp 6) (.tmp 7) 22 rfl i0 Tryd.underlying22 hi hz0 hz1 hz2 w.heap.size _ [] rfl HE.out v l rfl (HV.out _) (by simp;omega) (by simp) w HB.out ?_)
  intro v1 w1 hO1 hB1 _
  have HO1:Hid (OwnB w1 w.heap.size v1 l):=by simpa [Hid] using hO1
  clear hO1
  go_wp2_with fail
  go_loopw [1,5] (fun t q wr=>∃ (f:Nat) (m:Int) (xs:List Int),0≤m∧m≤2147483647∧f≤4∧Hid (m < 128 * 128 ^ f)∧t=.int .i64 m∧Hid (OwnB wr w.heap.size q xs)∧Hid (xs ++ enc f m=l ++ enc 4 n)∧xs.length+f=l.length+4∧Below w.heap.size w wr) (fun t _ _=>(intOf t).toNat)
  case atStart=>exact ⟨4,n,l,hb0,hb1,by omega,by simp [Hid];omega,rfl,HO1,rfl,rfl,hB1⟩
  case round =>
   obtain ⟨f,m,xs,hm0,hm1,hf,HM,rfl,HX,HEQ,hxl,hBr⟩:=hrel
   have HXL:Hid (xs.length+f=l.length+4):=hxl
   have hxl':xs.length≤l.length+4:=by omega
   clear hxl
   have hsz:=hBr.size
   by_cases hlt:127 < m
   ·obtain ⟨f',rfl⟩:∃ f',f=f'+1:=by
     cases f with
     | zero=>have:=HM.out;simp at this;omega
     | succ f'=>exact ⟨f',rfl⟩
    go_wp2_with (at_builtin;refine wpList_append_bytes rfl (.tmp 18) (.tmp 23) 22 rfl i0 Tryd.underlying22 hi hz0 hz1 hz2 w.heap.size _ xs rfl (HX.out.alloc _) _ [m % 128+128] rfl (bs_one _ _ (by omega)) (by simp;omega) (by simp;omega) w (hBr.alloc hsz _) ?_)
    intro v2 w2 hO2 hB2 _
    have HO2:Hid (OwnB w2 w.heap.size v2 (xs ++ [m % 128+128])):=hO2
    clear hO2
    go_wp2
    go_roundw
    case rel=>exact ⟨f',m / 128,xs ++ [m % 128+128],by omega,by omega,by omega,by have:=HM.out;unfold Hid;rw [Int.pow_succ] at this;omega,by go_num,HO2,enc_step hlt HEQ.out,by have:=HXL.out;simp;omega,hB2⟩
    case measure=>simp [intOf];omega
   ·go_wp2_with (at_builtin;refine wpList_append_bytes rfl (.tmp 27) (.tmp 30) 22 rfl i0 Tryd.underlying22 hi hz0 hz1 hz2 w.heap.size _ xs rfl (HX.out.alloc _) _ [m] rfl (bs_one _ _ (by omega)) (by simp;omega) (by simp;omega) w (hBr.alloc hsz _) ?_)
    intro v2 w2 hO2 hB2 _
    have HO2:Hid (OwnB w2 w.heap.size v2 (putL l n)):=by
     rw [HP.out,← HEQ.out]
     rw [enc_lo f m (by omega)];exact hO2
    clear hO2
    go_wp2
    go_ret
    exact ⟨_,rfl,HO2.out,hB2⟩
 ·have hp:putL l n=l:=by simp [putL];omega
  have HP:Hid (putL l n=l):=hp
  clear hp
  by_cases hneg:n < 0
  all_goals
   go_enter Tryd.func47,Tryd.ntmps47
   go_wp2_with (at_builtin;refine wpList_append_bytes rfl (.tmp 6) (.tmp 7) 22 rfl i0 Tryd.underlying22 hi hz0 hz1 hz2 w.heap.size _ [] rfl HE.out v l rfl (HV.out _) (by simp;omega) (by simp) w HB.out ?_)
   intro v1 w1 hO1 hB1 _
   have HO1:Hid (OwnB w1 w.heap.size v1 l):=by simpa [Hid] using hO1
   clear hO1
   go_wp2
   go_ret
   exact ⟨_,rfl,by rw [HP.out];exact HO1.out,hB1⟩

theorem specPutNum_r (v:Value) (l:List Int) (n:Int) (w:World) (hv:Bs w v l) (hl:l.length≤2000000) (hn0 : -9223372036854775808≤n) (hn1:n≤9223372036854775807) :
  Calls Tryd.prog 47 #[v,.int .i64 n] w fun e w'=>∃ u,e=.returned u∧Row w' w.heap.size w'.heap.size u (putL l n)∧Below w.heap.size w w' :=
 (specPutNum_any v l n w hv hl hn0 hn1).mono fun _ _ ⟨u,h1,h2,h3⟩=>⟨u,h1,h2.toRow,h3⟩

end Go.Proofs.YtnlhkgoppjejeaaDoor

/- What PutText of package spec does. -/
namespace Go.Proofs.YtnlhkgoppjejeaaDoor
open Go.RowKit
set_option maxRecDepth 100000

set_option maxHeartbeats 400000 in
theorem specPutText_r (v u:Value) (l t:List Int) (w:World) (hv:Bs w v l) (hu:Bs w u t) (hl:l.length≤2000000) (ht:t.length≤2000000) :
  Calls Tryd.prog 63 #[v,u] w fun e w'=>∃ r,e=.returned r∧Row w' w.heap.size w'.heap.size r (putTL l t)∧Below w.heap.size w w':=by
 have HV:Hid (Bs w v l):=hv
 have HU:Hid (Bs w u t):=hu
 obtain ⟨a,cap,rfl⟩:∃ a cap,u=.slice a t.length cap:=by obtain ⟨_,a,cap,h,_⟩:=hu;exact ⟨a,cap,h⟩
 clear hv hu
 obtain ⟨i0,hi,hz0,hz1,hz2⟩:=info_parts info5
 by_cases hb:30 < t.length
 ·have hb':(30:Int) < (t.length:Int):=by omega
  have HP:Hid (putTL l t=l):=by simp [Hid,putTL,hb]
  have HE:Hid (OwnB (w.alloc (.cells #[] 5)) w.heap.size (.slice (some ⟨w.heap.size,0,none⟩) 0 0) []):=ownB_empty w _ (Nat.le_refl _)
  have HB:Hid (Below w.heap.size w (w.alloc (.cells #[] 5))):=(Below.refl _ _).alloc (Nat.le_refl _) _
  go_enter Tryd.func63,Tryd.ntmps63
  go_wp2_with (at_builtin;refine wpList_append_bytes rfl (.tmp 8) (.tmp 9) 22 rfl i0 Tryd.underlying22 hi hz0 hz1 hz2 w.heap.size _ [] rfl HE.out v l rfl (HV.out.alloc _) (by simp;omega) (by simp) w HB.out ?_)
  intro v1 w1 hO1 hB1 _
  have HO1:Hid (OwnB w1 w.heap.size v1 (putTL l t)):=by rw [HP.out];simpa [Hid] using hO1
  clear hO1
  go_wp2
  go_ret
  exact ⟨_,rfl,HO1.out.toRow,hB1⟩
 ·have hb':¬ (30:Int) < (t.length:Int):=by omega
  have HP:Hid (putTL l t=putL l t.length ++ t):=by simp [Hid,putTL,hb]
  have hpl:=putL_length l t.length
  go_enter Tryd.func63,Tryd.ntmps63
  go_wp2_with fail
  refine (specPutNum_any v l t.length _ HV.out hl (by omega) (by omega)).mono ?_
  rintro e w1 ⟨u1,rfl,O1,B1⟩
  have s1:=B1.size
  have HO:Hid (OwnB w1 w.heap.size u1 (putL l t.length)):=O1
  have HUU:Hid (Bs w1 (.slice a t.length cap) t):=HU.out.below B1
  clear O1
  go_wp2_with (at_builtin;refine wpList_append_bytes rfl (.tmp 14) (.tmp 15) 22 rfl i0 Tryd.underlying22 hi hz0 hz1 hz2 w.heap.size _ _ rfl HO.out _ t rfl HUU.out (by omega) s1 w B1 ?_)
  intro v2 w2 hO2 hB2 _
  have HO2:Hid (OwnB w2 w.heap.size v2 (putTL l t)):=by rw [HP.out];exact hO2
  clear hO2
  go_wp2
  go_ret
  exact ⟨_,rfl,HO2.out.toRow,hB2⟩

end Go.Proofs.YtnlhkgoppjejeaaDoor

/- PutNum, PutText of package spec, what they answer told as what stands behind. -/
namespace Go.Proofs.YtnlhkgoppjejeaaDoor
open Go.RowKit

theorem specPutNum_b (v:Value) (l:List Int) (n:Int) (w:World) (hv:Bs w v l) (hl:l.length≤2000000) (hn:I64 n) :
  Calls Tryd.prog 47 #[v,.int .i64 n] w fun e w'=>∃ u,e=.returned u∧Row w' w.heap.size w'.heap.size u (l ++ numB n)∧Below w.heap.size w w':=by
 refine (specPutNum_r v l n w hv hl hn.1 hn.2).mono ?_
 rintro e w' ⟨u,rfl,R,B⟩
 rw [putL_eq] at R
 exact ⟨u,rfl,R,B⟩
theorem specPutText_b (v u:Value) (l t:List Int) (w:World) (hv:Bs w v l) (hu:Bs w u t) (hl:l.length≤2000000) (ht:t.length≤2000000) :
  Calls Tryd.prog 63 #[v,u] w fun e w'=>∃ r,e=.returned r∧Row w' w.heap.size w'.heap.size r (l ++ txB t)∧Below w.heap.size w w':=by
 refine (specPutText_r v u l t w hv hu hl ht).mono ?_
 rintro e w' ⟨u,rfl,R,B⟩
 rw [putTL_eq] at R
 exact ⟨u,rfl,R,B⟩

end Go.Proofs.YtnlhkgoppjejeaaDoor

/- What l4box of package spec do. -/
namespace Go.Proofs.YtnlhkgoppjejeaaDoor
open Go.RowKit
set_option maxRecDepth 100000
set_option linter.unusedVariables false
set_option linter.unusedSimpArgs false

set_option maxRecDepth 100000 in
set_option maxHeartbeats 4000000 in
theorem l4box_r (bv v:Value) (l:List Int) (x:BoxD) (w:World) (hb:Bs w bv l) (hv:BoxV w v x) (hl:l.length≤100000) (q1:x.mails.length≤12) (q2:x.gones.length≤40) (hz:szX x≤2000000) :
  Calls Tryd.prog 48 #[bv,v] w fun e w'=>∃ u,e=.returned u∧Row w' w.heap.size w'.heap.size u (l ++ boxBs x)∧Below w.heap.size w w':=by
 have HB:Hid (∀ wi,Below w.heap.size w wi→Bs wi bv l):=fun wi h=>hb.below h
 have hz0:x.name.length≤2000000:=by simp only [szX] at hz;omega
 have hz1:szM x.mails≤2000000:=by simp only [szX] at hz;omega
 obtain ⟨va,vn,vc,rfl⟩:=hb.form3
 clear hb hz
 obtain ⟨u0,u1,u2,rfl,g0,g1,g2,i0,i1,i2,i3⟩:=hv
 have H0:Hid (∀ wi,Below w.heap.size w wi→Bs wi u0 x.name∧MailsV wi u1 x.mails∧GonesV wi u2 x.gones):=fun wi h=>⟨g0.below h,g1.below keepsMail h,g2.below keepsGone h⟩
 obtain ⟨a0,n0,c0,rfl⟩:=g0.form3
 obtain ⟨a1,c1,rfl,m0,m1⟩:=g1.form
 obtain ⟨a2,c2,rfl,m2,m3⟩:=g2.form
 clear g0 g1 g2
 have HX:Hid (Below w.heap.size w (w.alloc (.cells #[.slice a0 n0 c0,.int .i64 x.valid,.int .i64 x.next,.int .i64 x.seq,.slice a1 x.mails.length c1,.slice a2 x.gones.length c2,.int .i64 x.lost] 44))):=(Below.refl _ _).alloc (Nat.le_refl _) _
 have HK:Hid ((w.alloc (.cells #[.slice a0 n0 c0,.int .i64 x.valid,.int .i64 x.next,.int .i64 x.seq,.slice a1 x.mails.length c1,.slice a2 x.gones.length c2,.int .i64 x.lost] 44)).heap[w.heap.size]?=some (.cells #[.slice a0 n0 c0,.int .i64 x.valid,.int .i64 x.next,.int .i64 x.seq,.slice a1 x.mails.length c1,.slice a2 x.gones.length c2,.int .i64 x.lost] 44)):=box_new w _
 have k0:=txB_len x.name
 have k1:=numB_len x.valid
 have k2:=numB_len x.next
 have k3:=numB_len x.seq
 have k4:=numB_len x.lost
 have k5:=numB_len x.mails.length
 have k6:=numB_len x.gones.length
 have hwl:w.heap.size < (w.alloc (.cells #[.slice a0 n0 c0,.int .i64 x.valid,.int .i64 x.next,.int .i64 x.seq,.slice a1 x.mails.length c1,.slice a2 x.gones.length c2,.int .i64 x.lost] 44)).heap.size:=by simp
 go_enter Tryd.func48,Tryd.ntmps48
 have HS:Hid (∀ w',Below (w.alloc (.cells #[.slice a0 n0 c0,.int .i64 x.valid,.int .i64 x.next,.int .i64 x.seq,.slice a1 x.mails.length c1,.slice a2 x.gones.length c2,.int .i64 x.lost] 44)).heap.size (w.alloc (.cells #[.slice a0 n0 c0,.int .i64 x.valid,.int .i64 x.next,.int .i64 x.seq,.slice a1 x.mails.length c1,.slice a2 x.gones.length c2,.int .i64 x.lost] 44)) w'→w'.cell? ⟨w.heap.size,0,none⟩=some (.slice a0 n0 c0)∧w'.cell? ⟨w.heap.size,1,none⟩=some (.int .i64 x.valid)∧w'.cell? ⟨w.heap.size,2,none⟩=some (.int .i64 x.next)∧w'.cell? ⟨w.heap.size,3,none⟩=some (.int .i64 x.seq)∧w'.cell? ⟨w.heap.size,6,none⟩=some (.int .i64 x.lost)):=by
  intro w' h
  obtain ⟨s0,s1,s2,s3,s4,s5,s6⟩:=bx7 (box_below h HK.out)
  exact ⟨s0,s1,s2,s3,s6⟩
 have C0:Below (w.alloc (.cells #[.slice a0 n0 c0,.int .i64 x.valid,.int .i64 x.next,.int .i64 x.seq,.slice a1 x.mails.length c1,.slice a2 x.gones.length c2,.int .i64 x.lost] 44)).heap.size (w.alloc (.cells #[.slice a0 n0 c0,.int .i64 x.valid,.int .i64 x.next,.int .i64 x.seq,.slice a1 x.mails.length c1,.slice a2 x.gones.length c2,.int .i64 x.lost] 44)) (w.alloc (.cells #[.slice a0 n0 c0,.int .i64 x.valid,.int .i64 x.next,.int .i64 x.seq,.slice a1 x.mails.length c1,.slice a2 x.gones.length c2,.int .i64 x.lost] 44)).drew:=(Below.refl _ _).drew
 go_wp2
 go_region_held3 (fun w'=>w'.cell? ⟨w.heap.size,0,none⟩=some (.slice a0 n0 c0)∧w'.cell? ⟨w.heap.size,1,none⟩=some (.int .i64 x.valid)∧w'.cell? ⟨w.heap.size,2,none⟩=some (.int .i64 x.next)∧w'.cell? ⟨w.heap.size,3,none⟩=some (.int .i64 x.seq)∧w'.cell? ⟨w.heap.size,6,none⟩=some (.int .i64 x.lost))
  (first | exact HS.out _ C5 | exact HS.out _ C4 | exact HS.out _ C3 | exact HS.out _ C2 | exact HS.out _ C1 | go_keep)
  ((first | (have hGuard:=R4;go_at_call 47;refine (specPutNum_b _ _ x.lost _ R4.bs (by simp only [List.length_append];omega) i3).mono ?_;rintro e w5 ⟨r5,rfl,R5,B⟩;have C5:=Below.step C4 B;clear B) | (have hGuard:=R3;go_at_call 47;refine (specPutNum_b _ _ x.seq _ R3.bs (by simp only [List.length_append];omega) i2).mono ?_;rintro e w4 ⟨r4,rfl,R4,B⟩;have C4:=Below.step C3 B;clear B) | (have hGuard:=R2;go_at_call 47;refine (specPutNum_b _ _ x.next _ R2.bs (by simp only [List.length_append];omega) i1).mono ?_;rintro e w3 ⟨r3,rfl,R3,B⟩;have C3:=Below.step C2 B;clear B) | (have hGuard:=R1;go_at_call 47;refine (specPutNum_b _ _ x.valid _ R1.bs (by simp only [List.length_append];omega) i0).mono ?_;rintro e w2 ⟨r2,rfl,R2,B⟩;have C2:=Below.step C1 B;clear B) | (go_at_call 63;refine (specPutText_b _ _ l x.name _ (HB.out _ (Below.step HX.out C0)) (H0.out _ (Below.step HX.out C0)).1 (by omega) hz0).mono ?_;rintro e w1 ⟨r1,rfl,R1,B⟩;have C1:=Below.step C0 B;clear B)))
 have HK5:Hid (w5.heap[w.heap.size]?=some (.cells #[.slice a0 n0 c0,.int .i64 x.valid,.int .i64 x.next,.int .i64 x.seq,.slice a1 x.mails.length c1,.slice a2 x.gones.length c2,.int .i64 x.lost] 44)):=box_below C5 HK.out
 have HB5:Hid (Below w.heap.size w w5):=Below.step HX.out C5
 have HR5:Hid (Row w5 w.heap.size w5.heap.size r5 (l ++ txB x.name ++ numB x.valid ++ numB x.next ++ numB x.seq ++ numB x.lost)):=R5.wide (by have:=C4.size;simp at this;omega) (Nat.le_refl _)
 clear HS C0 C1 C2 C3 C4 C5 R1 R2 R3 R4 R5
 obtain ⟨f0,f1,f2,f3,f4,f5,f6⟩:=bx7 HK5.out
 have hlA:=lt_of_heap HK5.out
 go_wp2_with fail
 refine (specPutNum_b _ _ x.mails.length _ HR5.out.bs (by simp only [List.length_append];omega) ⟨by omega,by omega⟩).mono ?_
 rintro e w6 ⟨r6,rfl,R6,B⟩
 clear f0 f1 f2 f3 f4 f5 f6 hlA
 have HK6:Hid (w6.heap[w.heap.size]?=some (.cells #[.slice a0 n0 c0,.int .i64 x.valid,.int .i64 x.next,.int .i64 x.seq,.slice a1 x.mails.length c1,.slice a2 x.gones.length c2,.int .i64 x.lost] 44)):=box_below B HK5.out
 have HB6:Hid (Below w.heap.size w w6):=Below.step HB5.out B
 have HR6:Hid (Row w6 w.heap.size w6.heap.size r6 (l ++ txB x.name ++ numB x.valid ++ numB x.next ++ numB x.seq ++ numB x.lost ++ numB x.mails.length ++ (x.mails.take 0).flatMap mailBs)):=by
  simp only [List.take_zero,List.flatMap_nil,List.append_nil]
  exact R6.wide HB5.out.size (Nat.le_refl _)
 clear R6 B HK5 HB5 HR5
 generalize hL:l ++ txB x.name ++ numB x.valid ++ numB x.next ++ numB x.seq ++ numB x.lost ++ numB x.mails.length=L at HR6
 have hLl:L.length≤100100:=by rw [← hL];simp only [List.length_append];omega
 have HL:Hid (l ++ txB x.name ++ numB x.valid ++ numB x.next ++ numB x.seq ++ numB x.lost ++ numB x.mails.length=L):=hL
 clear hL
 obtain ⟨f0,f1,f2,f3,f4,f5,f6⟩:=bx7 HK6.out
 go_wp2
 clear f0 f1 f2 f3 f4 f5 f6
 go_loopw [0,5] (fun bb i wr=>∃ k:Nat,k≤x.mails.length∧i=.int .i64 k∧Hid (Row wr w.heap.size wr.heap.size bb (L ++ (x.mails.take k).flatMap mailBs))∧Hid (wr.heap[w.heap.size]?=some (.cells #[.slice a0 n0 c0,.int .i64 x.valid,.int .i64 x.next,.int .i64 x.seq,.slice a1 x.mails.length c1,.slice a2 x.gones.length c2,.int .i64 x.lost] 44))∧Hid (Below w.heap.size w wr)) (fun _ i _=>x.mails.length - (intOf i).toNat)
 case atStart=>exact ⟨0,Nat.zero_le _,rfl,HR6,HK6,HB6⟩
 case round =>
  clear HK6 HB6 HR6
  obtain ⟨k,hk,rfl,hR,hK,hB⟩:=hrel
  have hml:=mails_len (x.mails.take k)
  have htk:(x.mails.take k).length≤12:=by simp;omega
  by_cases hlt:k < x.mails.length
  ·obtain ⟨m,hm⟩:∃ m,x.mails[k]?=some m:=⟨x.mails[k],List.getElem?_eq_getElem hlt⟩
   obtain ⟨b,off,cap',u,hv',hlb,d0,d1,d2,d3,hu,j0,j1,j2⟩:=MailsV.cell (H0.out wr hB.out).2.1 k m hm
   simp only [Value.slice.injEq,true_and] at hv'
   obtain ⟨rfl,rfl⟩:=hv'
   obtain ⟨ua,un,uc,rfl⟩:=hu.form3
   have htx:m.text.length≤2000000:=by have:=szM_mem (List.mem_of_getElem? hm);omega
   have HST:Hid ((x.mails.take (k+1)).flatMap mailBs=(x.mails.take k).flatMap mailBs ++ mailBs m):=flat_step mailBs hm
   have g0:=numB_len m.uid
   have g1:=numB_len m.flags
   have g2:=numB_len m.seq
   obtain ⟨uid,flags,seq,text⟩:=m
   simp only at d0 d1 d2 d3 hu j0 j1 j2 htx g0 g1 g2
   have HA:Hid (Below wr.heap.size wr (wr.alloc (.cells #[.int .i64 uid,.int .i64 flags,.int .i64 seq,.slice ua un uc] 67))):=(Below.refl _ _).alloc (Nat.le_refl _) _
   have HM:Hid ((wr.alloc (.cells #[.int .i64 uid,.int .i64 flags,.int .i64 seq,.slice ua un uc] 67)).heap[wr.heap.size]?=some (.cells #[.int .i64 uid,.int .i64 flags,.int .i64 seq,.slice ua un uc] 67)):=box_new wr _
   have HU:Hid (∀ wi,Below (wr.alloc (.cells #[.int .i64 uid,.int .i64 flags,.int .i64 seq,.slice ua un uc] 67)).heap.size (wr.alloc (.cells #[.int .i64 uid,.int .i64 flags,.int .i64 seq,.slice ua un uc] 67)) wi→Bs wi (.slice ua un uc) text):=fun wi h=>hu.below (Below.step HA.out h)
   obtain ⟨f0,f1,f2,f3,f4,f5,f6⟩:=bx7 hK.out
   have hlA:=lt_of_heap hK.out
   have hwl2:wr.heap.size < (wr.alloc (.cells #[.int .i64 uid,.int .i64 flags,.int .i64 seq,.slice ua un uc] 67)).heap.size:=by simp
   clear hu hm
   have HS:Hid (∀ w',Below (wr.alloc (.cells #[.int .i64 uid,.int .i64 flags,.int .i64 seq,.slice ua un uc] 67)).heap.size (wr.alloc (.cells #[.int .i64 uid,.int .i64 flags,.int .i64 seq,.slice ua un uc] 67)) w'→w'.cell? ⟨wr.heap.size,0,none⟩=some (.int .i64 uid)∧w'.cell? ⟨wr.heap.size,1,none⟩=some (.int .i64 flags)∧w'.cell? ⟨wr.heap.size,2,none⟩=some (.int .i64 seq)∧w'.cell? ⟨wr.heap.size,3,none⟩=some (.slice ua un uc)):=by
    intro w' h
    exact bx4 (box_below h HM.out)
   have C10:Below (wr.alloc (.cells #[.int .i64 uid,.int .i64 flags,.int .i64 seq,.slice ua un uc] 67)).heap.size (wr.alloc (.cells #[.int .i64 uid,.int .i64 flags,.int .i64 seq,.slice ua un uc] 67)) (wr.alloc (.cells #[.int .i64 uid,.int .i64 flags,.int .i64 seq,.slice ua un uc] 67)).drew:=(Below.refl _ _).drew
   go_wp2
   go_region_held3 (fun w'=>w'.cell? ⟨wr.heap.size,0,none⟩=some (.int .i64 uid)∧w'.cell? ⟨wr.heap.size,1,none⟩=some (.int .i64 flags)∧w'.cell? ⟨wr.heap.size,2,none⟩=some (.int .i64 seq)∧w'.cell? ⟨wr.heap.size,3,none⟩=some (.slice ua un uc))
    (first | exact HS.out _ C14 | exact HS.out _ C13 | exact HS.out _ C12 | exact HS.out _ C11 | go_keep)
    ((first | (have hGuard:=R13;go_at_call 63;refine (specPutText_b _ _ _ text _ R13.bs (HU.out _ C13) (by simp only [List.length_append];omega) htx).mono ?_;rintro e w14 ⟨r14,rfl,R14,B⟩;have C14:=Below.step C13 B;clear B) | (have hGuard:=R12;go_at_call 47;refine (specPutNum_b _ _ seq _ R12.bs (by simp only [List.length_append];omega) j2).mono ?_;rintro e w13 ⟨r13,rfl,R13,B⟩;have C13:=Below.step C12 B;clear B) | (have hGuard:=R11;go_at_call 47;refine (specPutNum_b _ _ flags _ R11.bs (by simp only [List.length_append];omega) j1).mono ?_;rintro e w12 ⟨r12,rfl,R12,B⟩;have C12:=Below.step C11 B;clear B) | (go_at_call 47;refine (specPutNum_b _ _ uid _ ((hR.out.bs.below HA.out).below C10) (by simp only [List.length_append];omega) j0).mono ?_;rintro e w11 ⟨r11,rfl,R11,B⟩;have C11:=Below.step C10 B;clear B)))
   have HK2:Hid (w14.heap[w.heap.size]?=some (.cells #[.slice a0 n0 c0,.int .i64 x.valid,.int .i64 x.next,.int .i64 x.seq,.slice (some ⟨b,off,none⟩) x.mails.length c1,.slice a2 x.gones.length c2,.int .i64 x.lost] 44)):=box_below C14 (box_alloc hK.out _)
   have HB2:Hid (Below w.heap.size w w14):=Below.step hB.out (Below.step HA.out C14)
   have HR2:Hid (Row w14 w.heap.size w14.heap.size r14 (L ++ (x.mails.take (k+1)).flatMap mailBs)):=by
    have e:L ++ (x.mails.take (k+1)).flatMap mailBs=L ++ (x.mails.take k).flatMap mailBs ++ numB uid ++ numB flags ++ numB seq ++ txB text:=by rw [HST.out];simp [mailBs]
    rw [e]
    exact R14.wide (by have h1:=C13.size;have h2:=hB.out.size;omega) (Nat.le_refl _)
   clear HS C10 C11 C12 C13 C14 R11 R12 R13 R14 HA HM HU hR hK hB d0 d1 d2 d3 f0 f1 f2 f3 f4 f5 f6 HST
   go_wp2
   go_roundw
   case rel=>exact ⟨k+1,by omega,by go_num,HR2,HK2,HB2⟩
   case measure=>simp [intOf];omega
  ·obtain rfl:k=x.mails.length:=by omega
   obtain ⟨f0,f1,f2,f3,f4,f5,f6⟩:=bx7 hK.out
   have hlA:=lt_of_heap hK.out
   have HE:Hid ((x.mails.take x.mails.length).flatMap mailBs=x.mails.flatMap mailBs):=by rw [Hid,List.take_length]
   go_wp2_with fail
   refine (specPutNum_b _ _ x.gones.length _ hR.out.bs (by simp only [List.length_append];omega) ⟨by omega,by omega⟩).mono ?_
   rintro e w7 ⟨r7,rfl,R7,B⟩
   clear f0 f1 f2 f3 f4 f5 f6 hlA
   have HK7:Hid (w7.heap[w.heap.size]?=some (.cells #[.slice a0 n0 c0,.int .i64 x.valid,.int .i64 x.next,.int .i64 x.seq,.slice a1 x.mails.length c1,.slice a2 x.gones.length c2,.int .i64 x.lost] 44)):=box_below B hK.out
   have HB7:Hid (Below w.heap.size w w7):=Below.step hB.out B
   have HR7:Hid (Row w7 w.heap.size w7.heap.size r7 (L ++ x.mails.flatMap mailBs ++ numB x.gones.length ++ (x.gones.take 0).flatMap goneBs)):=by
    rw [HE.out] at R7
    simp only [List.take_zero,List.flatMap_nil,List.append_nil]
    exact R7.wide hB.out.size (Nat.le_refl _)
   clear R7 B hR hK hB hlt hk
   have hml2:=mails_len x.mails
   generalize hN:L ++ x.mails.flatMap mailBs ++ numB x.gones.length=N at HR7
   have hNl:N.length≤110000:=by rw [← hN];simp only [List.length_append];omega
   have HN:Hid (L ++ x.mails.flatMap mailBs ++ numB x.gones.length=N):=hN
   clear hN hml hml2 htk HE
   obtain ⟨f0,f1,f2,f3,f4,f5,f6⟩:=bx7 HK7.out
   go_wp2
   clear f0 f1 f2 f3 f4 f5 f6
   go_loopw [0,7] (fun bb i wr=>∃ k:Nat,k≤x.gones.length∧i=.int .i64 k∧Hid (Row wr w.heap.size wr.heap.size bb (N ++ (x.gones.take k).flatMap goneBs))∧Hid (wr.heap[w.heap.size]?=some (.cells #[.slice a0 n0 c0,.int .i64 x.valid,.int .i64 x.next,.int .i64 x.seq,.slice a1 x.mails.length c1,.slice a2 x.gones.length c2,.int .i64 x.lost] 44))∧Hid (Below w.heap.size w wr)) (fun _ i _=>x.gones.length - (intOf i).toNat)
   case atStart=>exact ⟨0,Nat.zero_le _,rfl,HR7,HK7,HB7⟩
   case round =>
    clear HK7 HB7 HR7
    obtain ⟨k,hk,rfl,hR,hK,hB⟩:=hrel
    have hml:=gones_len (x.gones.take k)
    have htk:(x.gones.take k).length≤40:=by simp;omega
    by_cases hlt:k < x.gones.length
    ·obtain ⟨m,hm⟩:∃ m,x.gones[k]?=some m:=⟨x.gones[k],List.getElem?_eq_getElem hlt⟩
     obtain ⟨b,off,cap',hv',hlb,d0,d1,j0,j1⟩:=GonesV.cell (H0.out wr hB.out).2.2 k m hm
     simp only [Value.slice.injEq,true_and] at hv'
     obtain ⟨rfl,rfl⟩:=hv'
     have HST:Hid ((x.gones.take (k+1)).flatMap goneBs=(x.gones.take k).flatMap goneBs ++ goneBs m):=flat_step goneBs hm
     have g0:=numB_len m.uid
     have g2:=numB_len m.seq
     obtain ⟨uid,seq⟩:=m
     simp only at d0 d1 j0 j1 g0 g2
     have HD:Hid (wr.cell? ⟨b,off+k * 2,none⟩=some (.int .i64 uid)∧wr.cell? ⟨b,off+k * 2+1,none⟩=some (.int .i64 seq)):=⟨d0,d1⟩
     obtain ⟨f0,f1,f2,f3,f4,f5,f6⟩:=bx7 hK.out
     have hlA:=lt_of_heap hK.out
     clear hm
     have HS:Hid (∀ w',Below (wr).heap.size (wr) w'→w'.cell? ⟨w.heap.size,5,none⟩=some (.slice (some ⟨b,off,none⟩) x.gones.length c2)∧w'.cell? ⟨b,off+k * 2,none⟩=some (.int .i64 uid)∧w'.cell? ⟨b,off+k * 2+1,none⟩=some (.int .i64 seq)):=by
      intro w' h
      exact ⟨(bx7 (box_below h hK.out)).2.2.2.2.2.1,(h.cell (p:=⟨b,off+k * 2,none⟩) hlb).trans HD.out.1,(h.cell (p:=⟨b,off+k * 2+1,none⟩) hlb).trans HD.out.2⟩
     have C20:Below (wr).heap.size (wr) (wr).drew:=(Below.refl _ _).drew
     go_wp2
     go_region_held3 (fun w'=>w'.cell? ⟨w.heap.size,5,none⟩=some (.slice (some ⟨b,off,none⟩) x.gones.length c2)∧w'.cell? ⟨b,off+k * 2,none⟩=some (.int .i64 uid)∧w'.cell? ⟨b,off+k * 2+1,none⟩=some (.int .i64 seq))
      (first | exact HS.out _ C22 | exact HS.out _ C21 | go_keep)
      ((first | (have hGuard:=R21;go_at_call 47;refine (specPutNum_b _ _ seq _ R21.bs (by simp only [List.length_append];omega) j1).mono ?_;rintro e w22 ⟨r22,rfl,R22,B⟩;have C22:=Below.step C21 B;clear B) | (go_at_call 47;refine (specPutNum_b _ _ uid _ (hR.out.bs.below C20) (by simp only [List.length_append];omega) j0).mono ?_;rintro e w21 ⟨r21,rfl,R21,B⟩;have C21:=Below.step C20 B;clear B)))
     have HK2:Hid (w22.heap[w.heap.size]?=some (.cells #[.slice a0 n0 c0,.int .i64 x.valid,.int .i64 x.next,.int .i64 x.seq,.slice a1 x.mails.length c1,.slice (some ⟨b,off,none⟩) x.gones.length c2,.int .i64 x.lost] 44)):=box_below C22 hK.out
     have HB2:Hid (Below w.heap.size w w22):=Below.step hB.out C22
     have HR2:Hid (Row w22 w.heap.size w22.heap.size r22 (N ++ (x.gones.take (k+1)).flatMap goneBs)):=by
      have e:N ++ (x.gones.take (k+1)).flatMap goneBs=N ++ (x.gones.take k).flatMap goneBs ++ numB uid ++ numB seq:=by rw [HST.out];simp [goneBs]
      rw [e]
      exact R22.wide (by have:=C21.size;have:=hB.out.size;omega) (Nat.le_refl _)
     clear HS C20 C21 C22 R21 R22 hR hK hB d0 d1 f0 f1 f2 f3 f4 f5 f6 HST HD
     go_wp2
     go_roundw
     case rel=>exact ⟨k+1,by omega,by go_num,HR2,HK2,HB2⟩
     case measure=>simp [intOf];omega
    ·obtain rfl:k=x.gones.length:=by omega
     obtain ⟨f0,f1,f2,f3,f4,f5,f6⟩:=bx7 hK.out
     have HF:Hid (N ++ (x.gones.take x.gones.length).flatMap goneBs=l ++ boxBs x):=by
      rw [Hid,List.take_length,← HN.out,← HL.out]
      simp [boxBs]
     go_wp2
     go_ret
     have hr:=hR.out
     rw [HF.out] at hr
     exact ⟨_,rfl,hr,hB.out⟩

end Go.Proofs.YtnlhkgoppjejeaaDoor

/- What l4account, AccountBytes of package spec do. -/
namespace Go.Proofs.YtnlhkgoppjejeaaDoor
open Go.RowKit
set_option maxRecDepth 100000
set_option linter.unusedVariables false
set_option linter.unusedSimpArgs false

set_option maxRecDepth 100000 in
set_option maxHeartbeats 4000000 in
theorem l4account_r (v:Value) (x:AccD) (w:World) (hv:AccV w v x) (q0:x.boxes.length≤4) (q1:∀ b,b ∈ x.boxes→b.mails.length≤12∧b.gones.length≤40) (q2:x.seen.length≤60) (hz:szXs x.boxes≤2000000) :
  Calls Tryd.prog 26 #[v] w fun e w'=>∃ u,e=.returned u∧Row w' w.heap.size w'.heap.size u (accBs x)∧Below w.heap.size w w':=by
 have HV:Hid (∀ wi,Below w.heap.size w wi→AccV wi v x):=fun wi h=>hv.below h
 obtain ⟨u0,u1,rfl,g0,g1,i0⟩:=hv
 have H0:Hid (∀ wi,Below w.heap.size w wi→BoxesV wi u0 x.boxes∧IntsV wi u1 x.seen):=fun wi h=>⟨g0.below keepsBox h,g1.below keepsInt h⟩
 obtain ⟨a0,c0,rfl,m0,m1⟩:=g0.form
 obtain ⟨a1,c1,rfl,m2,m3⟩:=g1.form
 clear g0 g1
 have HX:Hid (Below w.heap.size w (w.alloc (.cells #[.int .i64 x.valid,.slice a0 x.boxes.length c0,.slice a1 x.seen.length c1] 26))):=(Below.refl _ _).alloc (Nat.le_refl _) _
 have HK:Hid ((w.alloc (.cells #[.int .i64 x.valid,.slice a0 x.boxes.length c0,.slice a1 x.seen.length c1] 26)).heap[w.heap.size]?=some (.cells #[.int .i64 x.valid,.slice a0 x.boxes.length c0,.slice a1 x.seen.length c1] 26)):=box_new w _
 have k0:=numB_len x.valid
 have k1:=numB_len x.boxes.length
 have k2:=numB_len x.seen.length
 have hwl:w.heap.size < (w.alloc (.cells #[.int .i64 x.valid,.slice a0 x.boxes.length c0,.slice a1 x.seen.length c1] 26)).heap.size:=by simp
 go_enter Tryd.func26,Tryd.ntmps26
 have HS:Hid (∀ w',Below (w.alloc (.cells #[.int .i64 x.valid,.slice a0 x.boxes.length c0,.slice a1 x.seen.length c1] 26)).heap.size (w.alloc (.cells #[.int .i64 x.valid,.slice a0 x.boxes.length c0,.slice a1 x.seen.length c1] 26)) w'→w'.cell? ⟨w.heap.size,0,none⟩=some (.int .i64 x.valid)∧w'.cell? ⟨w.heap.size,1,none⟩=some (.slice a0 x.boxes.length c0)):=by
  intro w' h
  obtain ⟨s0,s1,s2⟩:=bx3 (box_below h HK.out)
  exact ⟨s0,s1⟩
 have C0:Below (w.alloc (.cells #[.int .i64 x.valid,.slice a0 x.boxes.length c0,.slice a1 x.seen.length c1] 26)).heap.size (w.alloc (.cells #[.int .i64 x.valid,.slice a0 x.boxes.length c0,.slice a1 x.seen.length c1] 26)) (w.alloc (.cells #[.int .i64 x.valid,.slice a0 x.boxes.length c0,.slice a1 x.seen.length c1] 26)).drew:=(Below.refl _ _).drew
 go_wp2
 go_region_held3 (fun w'=>w'.cell? ⟨w.heap.size,0,none⟩=some (.int .i64 x.valid)∧w'.cell? ⟨w.heap.size,1,none⟩=some (.slice a0 x.boxes.length c0))
  (first | exact HS.out _ C2 | exact HS.out _ C1 | go_keep)
  ((first | (have hGuard:=R1;go_at_call 47;refine (specPutNum_b _ _ x.boxes.length _ R1.bs (by simp;omega) ⟨by omega,by omega⟩).mono ?_;rintro e w2 ⟨r2,rfl,R2,B⟩;have C2:=Below.step C1 B;clear B) | (go_at_call 47;refine (specPutNum_b _ [] x.valid _ (bs_nil _) (by simp) i0).mono ?_;rintro e w1 ⟨r1,rfl,R1,B⟩;have C1:=Below.step C0 B;clear B)))
 have HK2:Hid (w2.heap[w.heap.size]?=some (.cells #[.int .i64 x.valid,.slice a0 x.boxes.length c0,.slice a1 x.seen.length c1] 26)):=box_below C2 HK.out
 have HB2:Hid (Below w.heap.size w w2):=Below.step HX.out C2
 have HR2:Hid (Row w2 w.heap.size w2.heap.size r2 (numB x.valid ++ numB x.boxes.length ++ (x.boxes.take 0).flatMap boxBs)):=by
  simp only [List.take_zero,List.flatMap_nil,List.append_nil]
  exact R2.wide (by have:=C1.size;omega) (Nat.le_refl _)
 clear HS C0 C1 C2 R1 R2
 obtain ⟨f0,f1,f2⟩:=bx3 HK2.out
 go_wp2
 clear f0 f1 f2
 go_loopw [3,4] (fun bb i wr=>∃ k:Nat,k≤x.boxes.length∧i=.int .i64 k∧Hid (Row wr w.heap.size wr.heap.size bb (numB x.valid ++ numB x.boxes.length ++ (x.boxes.take k).flatMap boxBs))∧Hid (wr.heap[w.heap.size]?=some (.cells #[.int .i64 x.valid,.slice a0 x.boxes.length c0,.slice a1 x.seen.length c1] 26))∧Hid (Below w.heap.size w wr)) (fun _ i _=>x.boxes.length - (intOf i).toNat)
 case atStart=>exact ⟨0,Nat.zero_le _,rfl,HR2,HK2,HB2⟩
 case round =>
  clear HK2 HB2 HR2
  obtain ⟨k,hk,rfl,hR,hK,hB⟩:=hrel
  have hml:=boxes_len (x.boxes.take k) (fun b hb=>q1 b (List.mem_of_mem_take hb))
  have htk:(x.boxes.take k).length≤4:=by simp;omega
  by_cases hlt:k < x.boxes.length
  ·obtain ⟨m,hm⟩:∃ m,x.boxes[k]?=some m:=⟨x.boxes[k],List.getElem?_eq_getElem hlt⟩
   obtain ⟨b,off,cap',u0,u1,u2,hv',hlb,d0,d1,d2,d3,d4,d5,d6,hu0,hu1,hu2,j0,j1,j2,j3⟩:=BoxesV.cell (H0.out wr hB.out).1 k m hm
   simp only [Value.slice.injEq,true_and] at hv'
   obtain ⟨rfl,rfl⟩:=hv'
   obtain ⟨ua,un,uc,rfl⟩:=hu0.form3
   obtain ⟨va,vc,rfl,-⟩:=hu1.form
   obtain ⟨wa,wc,rfl,-⟩:=hu2.form
   have HBV:Hid (BoxV wr (.agg #[.slice ua un uc,.int .i64 m.valid,.int .i64 m.next,.int .i64 m.seq,.slice va m.mails.length vc,.slice wa m.gones.length wc,.int .i64 m.lost]) m):=⟨_,_,_,rfl,hu0,hu1,hu2,j0,j1,j2,j3⟩
   have hq:=q1 m (List.mem_of_getElem? hm)
   have hsz:szX m≤2000000:=by have:=szXs_mem (List.mem_of_getElem? hm);omega
   have HST:Hid ((x.boxes.take (k+1)).flatMap boxBs=(x.boxes.take k).flatMap boxBs ++ boxBs m):=flat_step boxBs hm
   obtain ⟨f0,f1,f2⟩:=bx3 hK.out
   have hlA:=lt_of_heap hK.out
   clear hu0 hu1 hu2 hm
   go_wp2_with fail
   refine (l4box_r _ _ _ m _ hR.out.bs HBV.out (by simp only [List.length_append];omega) hq.1 hq.2 hsz).mono ?_
   rintro e w3 ⟨r3,rfl,R3,B⟩
   have HK3:Hid (w3.heap[w.heap.size]?=some (.cells #[.int .i64 x.valid,.slice (some ⟨b,off,none⟩) x.boxes.length c0,.slice a1 x.seen.length c1] 26)):=box_below B hK.out
   have HB3:Hid (Below w.heap.size w w3):=Below.step hB.out B
   have HR3:Hid (Row w3 w.heap.size w3.heap.size r3 (numB x.valid ++ numB x.boxes.length ++ (x.boxes.take (k+1)).flatMap boxBs)):=by
    rw [HST.out,← List.append_assoc]
    exact R3.wide hB.out.size (Nat.le_refl _)
   clear R3 B hR hK hB HBV HST d0 d1 d2 d3 d4 d5 d6 f0 f1 f2 hlA
   go_wp2
   go_roundw
   case rel=>exact ⟨k+1,by omega,by go_num,HR3,HK3,HB3⟩
   case measure=>simp [intOf];omega
  ·obtain rfl:k=x.boxes.length:=by omega
   obtain ⟨f0,f1,f2⟩:=bx3 hK.out
   have hlA:=lt_of_heap hK.out
   have HE:Hid ((x.boxes.take x.boxes.length).flatMap boxBs=x.boxes.flatMap boxBs):=by rw [Hid,List.take_length]
   go_wp2_with fail
   refine (specPutNum_b _ _ x.seen.length _ hR.out.bs (by simp only [List.length_append];omega) ⟨by omega,by omega⟩).mono ?_
   rintro e w7 ⟨r7,rfl,R7,B⟩
   clear f0 f1 f2 hlA
   have HK7:Hid (w7.heap[w.heap.size]?=some (.cells #[.int .i64 x.valid,.slice a0 x.boxes.length c0,.slice a1 x.seen.length c1] 26)):=box_below B hK.out
   have HB7:Hid (Below w.heap.size w w7):=Below.step hB.out B
   have HR7:Hid (Row w7 w.heap.size w7.heap.size r7 (numB x.valid ++ numB x.boxes.length ++ x.boxes.flatMap boxBs ++ numB x.seen.length ++ numsB (x.seen.take 0))):=by
    rw [HE.out] at R7
    simp only [List.take_zero,numsB,List.flatMap_nil,List.append_nil]
    exact R7.wide hB.out.size (Nat.le_refl _)
   clear R7 B hR hK hB hlt hk
   have hml2:=boxes_len x.boxes q1
   generalize hN:numB x.valid ++ numB x.boxes.length ++ x.boxes.flatMap boxBs ++ numB x.seen.length=N at HR7
   have hNl:N.length≤110000:=by rw [← hN];simp only [List.length_append];omega
   have HN:Hid (numB x.valid ++ numB x.boxes.length ++ x.boxes.flatMap boxBs ++ numB x.seen.length=N):=hN
   clear hN hml hml2 htk HE
   obtain ⟨f0,f1,f2⟩:=bx3 HK7.out
   go_wp2
   clear f0 f1 f2
   go_loopw [3,5] (fun bb i wr=>∃ k:Nat,k≤x.seen.length∧i=.int .i64 k∧Hid (Row wr w.heap.size wr.heap.size bb (N ++ numsB (x.seen.take k)))∧Hid (wr.heap[w.heap.size]?=some (.cells #[.int .i64 x.valid,.slice a0 x.boxes.length c0,.slice a1 x.seen.length c1] 26))∧Hid (Below w.heap.size w wr)) (fun _ i _=>x.seen.length - (intOf i).toNat)
   case atStart=>exact ⟨0,Nat.zero_le _,rfl,HR7,HK7,HB7⟩
   case round =>
    clear HK7 HB7 HR7
    obtain ⟨k,hk,rfl,hR,hK,hB⟩:=hrel
    have hml:=nums_len (x.seen.take k)
    have htk:(x.seen.take k).length≤60:=by simp;omega
    by_cases hlt:k < x.seen.length
    ·obtain ⟨n,hn⟩:∃ n,x.seen[k]?=some n:=⟨x.seen[k],List.getElem?_eq_getElem hlt⟩
     obtain ⟨b,off,cap',hv',hlb,d0,j0⟩:=IntsV.cell (H0.out wr hB.out).2 k n hn
     simp only [Value.slice.injEq,true_and] at hv'
     obtain ⟨rfl,rfl⟩:=hv'
     have HST:Hid (numsB (x.seen.take (k+1))=numsB (x.seen.take k) ++ numB n):=flat_step numB hn
     obtain ⟨f0,f1,f2⟩:=bx3 hK.out
     have hlA:=lt_of_heap hK.out
     clear hn
     go_wp2_with fail
     refine (specPutNum_b _ _ n _ hR.out.bs (by simp only [List.length_append];omega) j0).mono ?_
     rintro e w8 ⟨r8,rfl,R8,B⟩
     have HK8:Hid (w8.heap[w.heap.size]?=some (.cells #[.int .i64 x.valid,.slice a0 x.boxes.length c0,.slice (some ⟨b,off,none⟩) x.seen.length c1] 26)):=box_below B hK.out
     have HB8:Hid (Below w.heap.size w w8):=Below.step hB.out B
     have HR8:Hid (Row w8 w.heap.size w8.heap.size r8 (N ++ numsB (x.seen.take (k+1)))):=by
      rw [HST.out,← List.append_assoc]
      exact R8.wide hB.out.size (Nat.le_refl _)
     clear R8 B hR hK hB HST d0 f0 f1 f2 hlA
     go_wp2
     go_roundw
     case rel=>exact ⟨k+1,by omega,by go_num,HR8,HK8,HB8⟩
     case measure=>simp [intOf];omega
    ·obtain rfl:k=x.seen.length:=by omega
     obtain ⟨f0,f1,f2⟩:=bx3 hK.out
     have HF:Hid (N ++ numsB (x.seen.take x.seen.length)=accBs x):=by
      rw [Hid,List.take_length,← HN.out]
      simp [accBs]
     go_wp2
     go_ret
     have hr:=hR.out
     rw [HF.out] at hr
     exact ⟨_,rfl,hr,hB.out⟩

end Go.Proofs.YtnlhkgoppjejeaaDoor

/- What bytes.Equal and laterOf of package impl do. -/
namespace Go.Proofs.YtnlhkgoppjejeaaDoor
open Go.RowKit
set_option linter.unusedVariables false

theorem bts_inj:∀ {l m:List Int},Oct l→Oct m→bts l=bts m→l=m
 | [],[],_,_,_=>rfl
 | [],_ :: _,_,_,h=>by simp [bts] at h
 | _ :: _,[],_,_,h=>by simp [bts] at h
 | x :: l,y :: m,hl,hm,h=>by
  simp only [bts,List.map_cons,List.cons.injEq] at h
  have hx:=hl x (by simp)
  have hy:=hm y (by simp)
  have h1:x=y:=by
   have:=congrArg UInt8.toNat h.1
   simp only [UInt8.toNat_ofNat'] at this
   rw [Nat.mod_eq_of_lt (by omega),Nat.mod_eq_of_lt (by omega)] at this
   omega
  rw [h1,bts_inj (fun z hz=>hl z (by simp [hz])) (fun z hz=>hm z (by simp [hz])) h.2]
theorem str_toList' (l:List Int):(strOfNums l).toList=bts l:=by
 rw [ByteArray.toList_eq]
 rfl
theorem str_eq {l m:List Int} (hl:Oct l) (hm:Oct m):((strOfNums l).toList == (strOfNums m).toList)=decide (l=m):=by
 rw [str_toList',str_toList',Bool.eq_iff_iff]
 simp only [beq_iff_eq,decide_eq_true_eq]
 exact ⟨bts_inj hl hm,fun h=>by rw [h]⟩

end Go.Proofs.YtnlhkgoppjejeaaDoor

/- What AccountRead of package spec does. -/
namespace Go.Proofs.YtnlhkgoppjejeaaDoor
open Go.RowKit
set_option linter.unusedVariables false

theorem below_gr {w W wi:World} {g:Nat} (h:Below w.heap.size w W) (hg:W.grownBy wi (some g)) (h0:w.heap.size≤g):Below w.heap.size w wi :=
 ⟨hg.os.trans h.os,hg.tape.trans h.tape,hg.output.trans h.output,Nat.le_trans h.size hg.size,fun k hk=>(hg.block k (Nat.lt_of_lt_of_le hk h.size) fun e=>by simp only [Option.some.injEq] at e;omega).trans (h.block k hk)⟩
theorem ret_ok {v:Value} {b c:Bool} {P:Prop} (h:c=b∧P):Ending.returned (.tuple #[v,.bool b])=.returned (.tuple #[v,.bool c]):=by rw [h.1]
theorem AccO.form {w:World} {S:Nat→Prop} {v:Value} {a:AccD} (h:AccO w S v a):∃ a0 n0 c0 a1 n1 c1,v=.agg #[.int .i64 a.valid,.slice a0 n0 c0,.slice a1 n1 c1]:=by
 obtain ⟨u0,u1,S0,S1,rfl,h0,h1,-⟩:=h
 obtain ⟨a0,n0,c0,rfl⟩:=h0.form3
 obtain ⟨a1,n1,c1,rfl⟩:=h1.form3
 exact ⟨_,_,_,_,_,_,rfl⟩
theorem AccO.mono {w:World} {S S':Nat→Prop} {v:Value} {a:AccD} (h:AccO w S v a) (hS:∀ b,S b→S' b):AccO w S' v a :=
 let ⟨u0,u1,S0,S1,h0,h1,h2,d0,d1,r⟩:=h;⟨u0,u1,S0,S1,h0,h1,h2,fun x hx=>⟨hS x (d0 x hx).1,(d0 x hx).2⟩,fun x hx=>hS x (d1 x hx),r⟩

end Go.Proofs.YtnlhkgoppjejeaaDoor
