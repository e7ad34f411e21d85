/- The proof's texts, part 19. -/
import Derived.Test.YtnlhkgoppjejeaaDoorPart18
import Derived.Test.YtnlhkgoppjejeaaDoorPart15

/- What putBox of package impl do. -/
namespace Go.Proofs.YtnlhkgoppjejeaaDoor
open Go.RowKit
set_option maxRecDepth 100000
set_option linter.unusedVariables false
set_option linter.unusedSimpArgs false

theorem ints_lit (w:World) (g:Nat) (ns:List Int) (h:w.heap[g]?=some (.cells (ns.map (fun n=>Value.int .i64 n)).toArray 3 (0,0))) (hn:∀ n,n ∈ ns→I64 n) (hl:ns.length≤1000):IntsV w (.slice (some ⟨g,0,none⟩) ns.length ns.length) ns:=by
 refine ⟨some ⟨g,0,none⟩,ns.length,fun i=>[.int .i64 (ns.getD i 0)],rfl,Nat.le_refl _,by unfold maxLen;omega,(fun h=>by cases h),fun i x hx=>?_,fun _=>?_⟩
 ·have hi:=(List.getElem?_eq_some_iff.1 hx).1
  exact ⟨⟨by simp [List.getD_eq_getElem?_getD,hx],hn x (List.mem_of_getElem? hx)⟩,rfl⟩
 ·refine ⟨g,0,rfl,lt_of_heap h,fun i j u hi hu=>?_⟩
  cases j with
  | zero =>
   simp only [List.getElem?_cons_zero,Option.some.injEq] at hu
   subst hu
   rw [show 0+i * 1+0=i by omega,cell_of_row w g i _ _ (0,0) h]
   simp [List.getD_eq_getElem?_getD,hi]
  | succ j=>simp at hu

set_option maxRecDepth 100000 in
set_option maxHeartbeats 4000000 in
theorem putBox_b (wb:World) (ov v:Value) (l:List Int) (x:BoxD) (w:World) (ho:OwnB w wb.heap.size ov l) (hb:Below wb.heap.size wb w) (hv:BoxV wb v x) (hl:l.length≤100000) (q1:x.mails.length≤12) (q2:x.gones.length≤40) (hz:szX x≤2000000) :
  Calls Tryd.prog 15 #[ov,v] w fun e w'=>∃ u,e=.returned u∧OwnB w' wb.heap.size u (l ++ boxBs x)∧Tw wb.heap.size w w':=by
 have hz0':x.name.length≤2000000:=by simp only [szX] at hz;omega
 have hzm:szM x.mails≤2000000:=by simp only [szX] at hz;omega
 clear hz
 have hB:wb.heap.size≤w.heap.size:=hb.size
 obtain ⟨u0,u1,u2,rfl,g0,g1,g2,i0,i1,i2,i3⟩:=hv
 obtain ⟨a0,n0,c0,rfl⟩:=g0.form3
 obtain ⟨a1,c1,rfl,m0,m1⟩:=g1.form
 obtain ⟨a2,c2,rfl,m2,m3⟩:=g2.form
 have HB:Hid (∀ wi,Tw wb.heap.size w wi→Below wb.heap.size wb wi):=fun wi h=>hb.trans h.below
 have H0:Hid (Bs wb (.slice a0 n0 c0) x.name∧MailsV wb (.slice a1 x.mails.length c1) x.mails∧GonesV wb (.slice a2 x.gones.length c2) x.gones):=⟨g0,g1,g2⟩
 clear g0 g1 g2
 generalize hBB:wb.heap.size=B at ho hB HB hb
 have HBB:Hid (wb.heap.size=B):=hBB
 clear hb hBB
 have HO:Hid (OwnB w B ov l):=ho
 obtain ⟨oa,on,oc,rfl⟩:=ho.bs.form3
 clear ho
 have k0:=txB_len x.name
 obtain ⟨z0,hi,hz0,hz1,hz2⟩:=info_parts info5
 have TA:Hid (Tw B w (w.alloc (.cells #[.slice a0 n0 c0,.int .i64 x.valid,.int .i64 x.next,.int .i64 x.seq,.slice a1 x.mails.length c1,.slice a2 x.gones.length c2,.int .i64 x.lost] 44))):=Tw.alloc hB _
 have HK:Hid ((w.alloc (.cells #[.slice a0 n0 c0,.int .i64 x.valid,.int .i64 x.next,.int .i64 x.seq,.slice a1 x.mails.length c1,.slice a2 x.gones.length c2,.int .i64 x.lost] 44)).heap[w.heap.size]?=some (.cells #[.slice a0 n0 c0,.int .i64 x.valid,.int .i64 x.next,.int .i64 x.seq,.slice a1 x.mails.length c1,.slice a2 x.gones.length c2,.int .i64 x.lost] 44)):=box_new w _
 obtain ⟨f0,f1,f2,f3,f4,f5,f6⟩:=bx7 HK.out
 have hlA:=lt_of_heap HK.out
 have s0:B≤(w.alloc (.cells #[.slice a0 n0 c0,.int .i64 x.valid,.int .i64 x.next,.int .i64 x.seq,.slice a1 x.mails.length c1,.slice a2 x.gones.length c2,.int .i64 x.lost] 44)).heap.size:=by simp;omega
 go_enter Tryd.func15,Tryd.ntmps15
 go_wp2_with fail
 refine (implPutText_b _ _ [] x.name _ (bs_none _) (H0.out.1.below (by rw [HBB.out];exact HB.out _ TA.out)) (by simp) hz0').mono ?_
 rintro e w1 ⟨r1,rfl,R1,B1⟩
 have s1:B≤w1.heap.size:=Nat.le_trans s0 B1.size
 have HO1:Hid (OwnB w1 B (.slice oa on oc) l):=(HO.out.alloc _).below B1
 have HR1:Hid (Bs w1 r1 (txB x.name)):=by simpa [Hid] using R1.bs
 have T1:Hid (Tw B (w.alloc (.cells #[.slice a0 n0 c0,.int .i64 x.valid,.int .i64 x.next,.int .i64 x.seq,.slice a1 x.mails.length c1,.slice a2 x.gones.length c2,.int .i64 x.lost] 44)) w1):=Tw.of_below s0 B1
 clear R1 B1 f0 f1 f2 f3 f4 f5 f6 hlA HO
 go_wp2_with (at_builtin;refine wpList_append_bytes rfl (.tmp 9) (.tmp 12) 22 rfl z0 Tryd.underlying22 hi hz0 hz1 hz2 B _ _ rfl HO1.out _ _ rfl HR1.out (by omega) (by omega) w1 (Below.refl _ _) ?_)
 intro v2 w2 hO2 hB2 hG2
 have HO2:Hid (OwnB w2 B v2 (l ++ txB x.name)):=hO2
 have T2:Hid (Tw B (w.alloc (.cells #[.slice a0 n0 c0,.int .i64 x.valid,.int .i64 x.next,.int .i64 x.seq,.slice a1 x.mails.length c1,.slice a2 x.gones.length c2,.int .i64 x.lost] 44)) w2):=T1.out.trans (Tw.grown HO1.out s1 hG2)
 have s2:B≤w2.heap.size:=Nat.le_trans s1 hG2.size
 have K2:w2.heap[w.heap.size]?=some (.cells #[.slice a0 n0 c0,.int .i64 x.valid,.int .i64 x.next,.int .i64 x.seq,.slice a1 x.mails.length c1,.slice a2 x.gones.length c2,.int .i64 x.lost] 44):=T2.out.box (by decide) HK.out
 obtain ⟨f0,f1,f2,f3,f4,f5,f6⟩:=bx7 K2
 have hlA:=lt_of_heap K2
 clear hO2 hB2 hG2 HO1 T1 HR1 K2
 have HBN1:Hid (((w2).alloc (.cells #[.int .i64 x.valid,.int .i64 x.next,.int .i64 x.seq,.int .i64 x.lost,.int .i64 (x.mails.length:Int)] 3)).heap[(w2).heap.size]?=some (.cells #[.int .i64 x.valid,.int .i64 x.next,.int .i64 x.seq,.int .i64 x.lost,.int .i64 (x.mails.length:Int)] 3)):=by
  have h:=box_new (w2) (.cells #[.int .i64 x.valid,.int .i64 x.next,.int .i64 x.seq,.int .i64 x.lost,.int .i64 (x.mails.length:Int)] 3)
  exact h
 have HNV1:Hid (∀ wi,Tw B ((w2).alloc (.cells #[.int .i64 x.valid,.int .i64 x.next,.int .i64 x.seq,.int .i64 x.lost,.int .i64 (x.mails.length:Int)] 3)) wi→IntsV wi (.slice (some ⟨(w2).heap.size,0,none⟩) 5 5) [x.valid,x.next,x.seq,x.lost,(x.mails.length:Int)]):=fun wi h=>ints_lit wi (w2).heap.size [x.valid,x.next,x.seq,x.lost,(x.mails.length:Int)] (Tw.box h (by decide) HBN1.out) (by simp only [List.mem_cons,List.not_mem_nil,or_false,forall_eq_or_imp,forall_eq];exact ⟨i0,i1,i2,i3,by omega,by omega⟩) (by simp)
 have HOA1:Hid (OwnB ((w2).alloc (.cells #[.int .i64 x.valid,.int .i64 x.next,.int .i64 x.seq,.int .i64 x.lost,.int .i64 (x.mails.length:Int)] 3)) B _ (l ++ txB x.name)):=HO2.out.alloc _
 have HSZ1:B≤((w2).alloc (.cells #[.int .i64 x.valid,.int .i64 x.next,.int .i64 x.seq,.int .i64 x.lost,.int .i64 (x.mails.length:Int)] 3)).heap.size:=by simp;omega
 clear HBN1
 go_wp2_with fail
 refine (putNums_b B _ _ _ [x.valid,x.next,x.seq,x.lost,(x.mails.length:Int)] _ HOA1.out HSZ1 HNV1.out (by simp only [List.length_append];omega) (by simp)).mono ?_
 rintro e w3 ⟨r3,rfl,R3,T3⟩
 have HO3:Hid (OwnB w3 B r3 (l ++ txB x.name ++ numsB [x.valid,x.next,x.seq,x.lost,x.mails.length] ++ (x.mails.take 0).flatMap mailBs)):=by simpa [Hid] using R3
 have T4:Hid (Tw B (w.alloc (.cells #[.slice a0 n0 c0,.int .i64 x.valid,.int .i64 x.next,.int .i64 x.seq,.slice a1 x.mails.length c1,.slice a2 x.gones.length c2,.int .i64 x.lost] 44)) w3):=T2.out.trans ((Tw.alloc s2 _).trans T3)
 clear R3 T3 T2 HO2 f0 f1 f2 f3 f4 f5 f6 hlA
 generalize hL:l ++ txB x.name ++ numsB [x.valid,x.next,x.seq,x.lost,x.mails.length]=L at HO3
 have hLl:L.length≤100200:=by
  have:=nums_len [x.valid,x.next,x.seq,x.lost,(x.mails.length:Int)]
  rw [← hL];simp only [List.length_append];simp at this;omega
 have HL:Hid (l ++ txB x.name ++ numsB [x.valid,x.next,x.seq,x.lost,x.mails.length]=L):=hL
 clear hL s1 s2
 obtain ⟨f0,f1,f2,f3,f4,f5,f6⟩:=bx7 (T4.out.box (by decide) HK.out)
 have hlA:=lt_of_heap (T4.out.box (by decide) HK.out)
 go_wp2
 clear f0 f1 f2 f3 f4 f5 f6 hlA
 go_loopw [0,31] (fun out i wr=>∃ k:Nat,k≤x.mails.length∧i=.int .i64 k∧Hid (OwnB wr B out (L ++ (x.mails.take k).flatMap mailBs))∧Hid (Tw B (w.alloc (.cells #[.slice a0 n0 c0,.int .i64 x.valid,.int .i64 x.next,.int .i64 x.seq,.slice a1 x.mails.length c1,.slice a2 x.gones.length c2,.int .i64 x.lost] 44)) wr)) (fun _ i _=>x.mails.length - (intOf i).toNat)
 case atStart=>exact ⟨0,Nat.zero_le _,rfl,HO3,T4⟩
 case round =>
  clear HO3 T4
  obtain ⟨k,hk,rfl,hO,hT⟩:=hrel
  have hml:=mails_len (x.mails.take k)
  have htk:(x.mails.take k).length≤12:=by simp;omega
  have sr:B≤wr.heap.size:=Nat.le_trans s0 hT.out.size
  by_cases hlt:k < x.mails.length
  ·obtain ⟨m,hm⟩:∃ m,x.mails[k]?=some m:=⟨x.mails[k],List.getElem?_eq_getElem hlt⟩
   obtain ⟨b,off,cap',u,hv',hlb,d0,d1,d2,d3,hu,j0,j1,j2⟩:=MailsV.cell H0.out.2.1 k m hm
   simp only [Value.slice.injEq,true_and] at hv'
   obtain ⟨rfl,rfl⟩:=hv'
   obtain ⟨ua,un,uc,rfl⟩:=hu.form3
   have hbr:Below wb.heap.size wb wr:=by rw [HBB.out];exact HB.out _ (TA.out.trans hT.out)
   replace d0:=(hbr.cell (p:=⟨b,off+k * 4,none⟩) hlb).trans d0
   replace d1:=(hbr.cell (p:=⟨b,off+k * 4+1,none⟩) hlb).trans d1
   replace d2:=(hbr.cell (p:=⟨b,off+k * 4+2,none⟩) hlb).trans d2
   replace d3:=(hbr.cell (p:=⟨b,off+k * 4+3,none⟩) hlb).trans d3
   replace hlb:b < wr.heap.size:=Nat.lt_of_lt_of_le hlb hbr.size
   have htx:m.text.length≤2000000:=by have:=szM_mem (List.mem_of_getElem? hm);omega
   have HST:Hid ((x.mails.take (k+1)).flatMap mailBs=(x.mails.take k).flatMap mailBs ++ mailBs m):=flat_step mailBs hm
   have g3:=txB_len m.text
   obtain ⟨uid,flags,seq,text⟩:=m
   simp only at d0 d1 d2 d3 hu j0 j1 j2 htx g3
   have HTX:Hid (∀ wi,Tw B w wi→Bs wi (.slice ua un uc) text):=fun wi h=>hu.below (by rw [HBB.out];exact HB.out _ h)
   have HM:Hid ((wr.alloc (.cells #[.int .i64 uid,.int .i64 flags,.int .i64 seq,.slice ua un uc] 67)).heap[wr.heap.size]?=some (.cells #[.int .i64 uid,.int .i64 flags,.int .i64 seq,.slice ua un uc] 67)):=box_new wr _
   have sm:B≤(wr.alloc (.cells #[.int .i64 uid,.int .i64 flags,.int .i64 seq,.slice ua un uc] 67)).heap.size:=by simp;omega
   have TM:Hid (Tw B wr (wr.alloc (.cells #[.int .i64 uid,.int .i64 flags,.int .i64 seq,.slice ua un uc] 67))):=Tw.alloc sr _
   have HOM:Hid (OwnB (wr.alloc (.cells #[.int .i64 uid,.int .i64 flags,.int .i64 seq,.slice ua un uc] 67)) B _ (L ++ (x.mails.take k).flatMap mailBs)):=hO.out.alloc _
   obtain ⟨f0,f1,f2,f3⟩:=bx4 HM.out
   have hlM:=lt_of_heap HM.out
   have hn3:=nums_len [uid,flags,seq]
   simp only [List.length_cons,List.length_nil] at hn3
   clear hu hm hbr
   have HBN2:Hid (((wr.alloc (.cells #[.int .i64 uid,.int .i64 flags,.int .i64 seq,.slice ua un uc] 67)).alloc (.cells #[.int .i64 uid,.int .i64 flags,.int .i64 seq] 3)).heap[(wr.heap.size+1)]?=some (.cells #[.int .i64 uid,.int .i64 flags,.int .i64 seq] 3)):=by
    have h:=box_new (wr.alloc (.cells #[.int .i64 uid,.int .i64 flags,.int .i64 seq,.slice ua un uc] 67)) (.cells #[.int .i64 uid,.int .i64 flags,.int .i64 seq] 3)
    rw [show (wr.alloc (.cells #[.int .i64 uid,.int .i64 flags,.int .i64 seq,.slice ua un uc] 67)).heap.size=(wr.heap.size+1) by simp] at h
    exact h
   have HNV2:Hid (∀ wi,Tw B ((wr.alloc (.cells #[.int .i64 uid,.int .i64 flags,.int .i64 seq,.slice ua un uc] 67)).alloc (.cells #[.int .i64 uid,.int .i64 flags,.int .i64 seq] 3)) wi→IntsV wi (.slice (some ⟨(wr.heap.size+1),0,none⟩) 3 3) [uid,flags,seq]):=fun wi h=>ints_lit wi (wr.heap.size+1) [uid,flags,seq] (Tw.box h (by decide) HBN2.out) (by simp only [List.mem_cons,List.not_mem_nil,or_false,forall_eq_or_imp,forall_eq];exact ⟨j0,j1,j2⟩) (by simp)
   have HOA2:Hid (OwnB ((wr.alloc (.cells #[.int .i64 uid,.int .i64 flags,.int .i64 seq,.slice ua un uc] 67)).alloc (.cells #[.int .i64 uid,.int .i64 flags,.int .i64 seq] 3)) B _ (L ++ (x.mails.take k).flatMap mailBs)):=HOM.out.alloc _
   have HSZ2:B≤((wr.alloc (.cells #[.int .i64 uid,.int .i64 flags,.int .i64 seq,.slice ua un uc] 67)).alloc (.cells #[.int .i64 uid,.int .i64 flags,.int .i64 seq] 3)).heap.size:=by simp;omega
   clear HBN2
   go_wp2_with fail
   refine (putNums_b B _ _ _ [uid,flags,seq] _ HOA2.out HSZ2 HNV2.out (by simp only [List.length_append];omega) (by simp)).mono ?_
   rintro e w4 ⟨r4,rfl,R4,T4⟩
   have T5:Hid (Tw B (wr.alloc (.cells #[.int .i64 uid,.int .i64 flags,.int .i64 seq,.slice ua un uc] 67)) w4):=(Tw.alloc sm _).trans T4
   have HO4:Hid (OwnB w4 B r4 (L ++ (x.mails.take k).flatMap mailBs ++ numsB [uid,flags,seq])):=R4
   have s4:B≤w4.heap.size:=Nat.le_trans sm T5.out.size
   clear R4 T4 d0 d1 d2 d3 f0 f1 f2 f3 hlM HOM hO
   obtain ⟨f0,f1,f2,f3⟩:=bx4 (T5.out.box (by decide) HM.out)
   have hlM:=lt_of_heap (T5.out.box (by decide) HM.out)
   go_wp2_with fail
   refine (implPutText_b _ _ [] text _ (bs_none _) (HTX.out _ (TA.out.trans (hT.out.trans (TM.out.trans T5.out)))) (by simp) htx).mono ?_
   rintro e w5 ⟨r5,rfl,R5,B5⟩
   have s5:B≤w5.heap.size:=Nat.le_trans s4 B5.size
   have HO5:Hid (OwnB w5 B r4 (L ++ (x.mails.take k).flatMap mailBs ++ numsB [uid,flags,seq])):=HO4.out.below B5
   have HR5:Hid (Bs w5 r5 (txB text)):=by simpa [Hid] using R5.bs
   have T6:Hid (Tw B (w.alloc (.cells #[.slice a0 n0 c0,.int .i64 x.valid,.int .i64 x.next,.int .i64 x.seq,.slice (some ⟨b,off,none⟩) x.mails.length c1,.slice a2 x.gones.length c2,.int .i64 x.lost] 44)) w5):=hT.out.trans (TM.out.trans (T5.out.trans (Tw.of_below s4 B5)))
   clear R5 B5 f0 f1 f2 f3 hlM HO4 T5 HTX HM TM hT
   go_wp2_with (at_builtin;refine wpList_append_bytes rfl (.tmp 44) (.tmp 47) 22 rfl z0 Tryd.underlying22 hi hz0 hz1 hz2 B _ _ rfl HO5.out _ _ rfl HR5.out (by simp only [List.length_append];omega) (by omega) w5 (Below.refl _ _) ?_)
   intro v6 w6 hO6 hB6 hG6
   have HO6:Hid (OwnB w6 B v6 (L ++ (x.mails.take (k+1)).flatMap mailBs)):=by
    have e:L ++ (x.mails.take (k+1)).flatMap mailBs=L ++ ((x.mails.take k).flatMap mailBs ++ (numsB [uid,flags,seq] ++ txB text)):=by rw [HST.out];simp [mailBs,numsB]
    rw [e]
    exact hO6
   have T7:Hid (Tw B (w.alloc (.cells #[.slice a0 n0 c0,.int .i64 x.valid,.int .i64 x.next,.int .i64 x.seq,.slice (some ⟨b,off,none⟩) x.mails.length c1,.slice a2 x.gones.length c2,.int .i64 x.lost] 44)) w6):=T6.out.trans (Tw.grown HO5.out s5 hG6)
   clear hO6 hB6 hG6 T6 HO5 HR5 HST
   go_wp2
   go_roundw
   case rel=>exact ⟨k+1,by omega,by go_num,HO6,T7⟩
   case measure=>simp [intOf];omega
  ·obtain rfl:k=x.mails.length:=by omega
   have HE:Hid ((x.mails.take x.mails.length).flatMap mailBs=x.mails.flatMap mailBs):=by rw [Hid,List.take_length]
   have HO8':=hO.out
   rw [HE.out] at HO8'
   have HO8:=(show Hid _ from HO8')
   clear HO8'
   have hml2:=mails_len x.mails
   obtain ⟨f0,f1,f2,f3,f4,f5,f6⟩:=bx7 (hT.out.box (by decide) HK.out)
   have hlA:=lt_of_heap (hT.out.box (by decide) HK.out)
   clear hO
   have HBN3:Hid (((wr).alloc (.cells #[.int .i64 (x.gones.length:Int)] 3)).heap[(wr).heap.size]?=some (.cells #[.int .i64 (x.gones.length:Int)] 3)):=by
    have h:=box_new (wr) (.cells #[.int .i64 (x.gones.length:Int)] 3)
    exact h
   have HNV3:Hid (∀ wi,Tw B ((wr).alloc (.cells #[.int .i64 (x.gones.length:Int)] 3)) wi→IntsV wi (.slice (some ⟨(wr).heap.size,0,none⟩) 1 1) [(x.gones.length:Int)]):=fun wi h=>ints_lit wi (wr).heap.size [(x.gones.length:Int)] (Tw.box h (by decide) HBN3.out) (by simp only [List.mem_cons,List.not_mem_nil,or_false,forall_eq_or_imp,forall_eq];exact ⟨by omega,by omega⟩) (by simp)
   have HOA3:Hid (OwnB ((wr).alloc (.cells #[.int .i64 (x.gones.length:Int)] 3)) B _ (L ++ x.mails.flatMap mailBs)):=(show OwnB wr B _ (L ++ x.mails.flatMap mailBs) from HO8.out).alloc _
   have HSZ3:B≤((wr).alloc (.cells #[.int .i64 (x.gones.length:Int)] 3)).heap.size:=by simp;omega
   clear HBN3
   go_wp2_with fail
   refine (putNums_b B _ _ _ [(x.gones.length:Int)] _ HOA3.out HSZ3 HNV3.out (by simp only [List.length_append];omega) (by simp)).mono ?_
   rintro e w9 ⟨r9,rfl,R9,T9⟩
   have HO9:Hid (OwnB w9 B r9 (L ++ x.mails.flatMap mailBs ++ numsB [(x.gones.length:Int)] ++ (x.gones.take 0).flatMap goneBs)):=by simpa [Hid] using R9
   have T10:Hid (Tw B (w.alloc (.cells #[.slice a0 n0 c0,.int .i64 x.valid,.int .i64 x.next,.int .i64 x.seq,.slice a1 x.mails.length c1,.slice a2 x.gones.length c2,.int .i64 x.lost] 44)) w9):=hT.out.trans ((Tw.alloc sr _).trans T9)
   clear R9 T9 hT HO8 f0 f1 f2 f3 f4 f5 f6 hlA hlt hk HE
   generalize hN:L ++ x.mails.flatMap mailBs ++ numsB [(x.gones.length:Int)]=N at HO9
   have hNl:N.length≤110000:=by
    have:=nums_len [(x.gones.length:Int)]
    rw [← hN];simp only [List.length_append];simp at this;omega
   have HN:Hid (L ++ x.mails.flatMap mailBs ++ numsB [(x.gones.length:Int)]=N):=hN
   clear hN hml hml2 htk sr
   obtain ⟨f0,f1,f2,f3,f4,f5,f6⟩:=bx7 (T10.out.box (by decide) HK.out)
   have hlA:=lt_of_heap (T10.out.box (by decide) HK.out)
   go_wp2
   clear f0 f1 f2 f3 f4 f5 f6 hlA
   go_loopw [0,59] (fun out i wr=>∃ k:Nat,k≤x.gones.length∧i=.int .i64 k∧Hid (OwnB wr B out (N ++ (x.gones.take k).flatMap goneBs))∧Hid (Tw B (w.alloc (.cells #[.slice a0 n0 c0,.int .i64 x.valid,.int .i64 x.next,.int .i64 x.seq,.slice a1 x.mails.length c1,.slice a2 x.gones.length c2,.int .i64 x.lost] 44)) wr)) (fun _ i _=>x.gones.length - (intOf i).toNat)
   case atStart=>exact ⟨0,Nat.zero_le _,rfl,HO9,T10⟩
   case round =>
    clear HO9 T10
    obtain ⟨k,hk,rfl,hO,hT⟩:=hrel
    have hml:=gones_len (x.gones.take k)
    have htk:(x.gones.take k).length≤40:=by simp;omega
    have sr:B≤wr.heap.size:=Nat.le_trans s0 hT.out.size
    by_cases hlt:k < x.gones.length
    ·obtain ⟨m,hm⟩:∃ m,x.gones[k]?=some m:=⟨x.gones[k],List.getElem?_eq_getElem hlt⟩
     obtain ⟨b,off,cap',hv',hlb,d0,d1,j0,j1⟩:=GonesV.cell H0.out.2.2 k m hm
     simp only [Value.slice.injEq,true_and] at hv'
     obtain ⟨rfl,rfl⟩:=hv'
     have hbr:Below wb.heap.size wb wr:=by rw [HBB.out];exact HB.out _ (TA.out.trans hT.out)
     replace d0:=(hbr.cell (p:=⟨b,off+k * 2,none⟩) hlb).trans d0
     replace d1:=(hbr.cell (p:=⟨b,off+k * 2+1,none⟩) hlb).trans d1
     replace hlb:b < wr.heap.size:=Nat.lt_of_lt_of_le hlb hbr.size
     have HST:Hid ((x.gones.take (k+1)).flatMap goneBs=(x.gones.take k).flatMap goneBs ++ goneBs m):=flat_step goneBs hm
     obtain ⟨uid,seq⟩:=m
     simp only at d0 d1 j0 j1
     have HM:Hid ((wr.alloc (.cells #[.int .i64 uid,.int .i64 seq] 65)).heap[wr.heap.size]?=some (.cells #[.int .i64 uid,.int .i64 seq] 65)):=box_new wr _
     have sm:B≤(wr.alloc (.cells #[.int .i64 uid,.int .i64 seq] 65)).heap.size:=by simp;omega
     have TM:Hid (Tw B wr (wr.alloc (.cells #[.int .i64 uid,.int .i64 seq] 65))):=Tw.alloc sr _
     have HOM:Hid (OwnB (wr.alloc (.cells #[.int .i64 uid,.int .i64 seq] 65)) B _ (N ++ (x.gones.take k).flatMap goneBs)):=hO.out.alloc _
     obtain ⟨f0,f1⟩:=bx2 HM.out
     have hlM:=lt_of_heap HM.out
     clear hm hbr
     have HBN4:Hid (((wr.alloc (.cells #[.int .i64 uid,.int .i64 seq] 65)).alloc (.cells #[.int .i64 uid,.int .i64 seq] 3)).heap[(wr.heap.size+1)]?=some (.cells #[.int .i64 uid,.int .i64 seq] 3)):=by
      have h:=box_new (wr.alloc (.cells #[.int .i64 uid,.int .i64 seq] 65)) (.cells #[.int .i64 uid,.int .i64 seq] 3)
      rw [show (wr.alloc (.cells #[.int .i64 uid,.int .i64 seq] 65)).heap.size=(wr.heap.size+1) by simp] at h
      exact h
     have HNV4:Hid (∀ wi,Tw B ((wr.alloc (.cells #[.int .i64 uid,.int .i64 seq] 65)).alloc (.cells #[.int .i64 uid,.int .i64 seq] 3)) wi→IntsV wi (.slice (some ⟨(wr.heap.size+1),0,none⟩) 2 2) [uid,seq]):=fun wi h=>ints_lit wi (wr.heap.size+1) [uid,seq] (Tw.box h (by decide) HBN4.out) (by simp only [List.mem_cons,List.not_mem_nil,or_false,forall_eq_or_imp,forall_eq];exact ⟨j0,j1⟩) (by simp)
     have HOA4:Hid (OwnB ((wr.alloc (.cells #[.int .i64 uid,.int .i64 seq] 65)).alloc (.cells #[.int .i64 uid,.int .i64 seq] 3)) B _ (N ++ (x.gones.take k).flatMap goneBs)):=HOM.out.alloc _
     have HSZ4:B≤((wr.alloc (.cells #[.int .i64 uid,.int .i64 seq] 65)).alloc (.cells #[.int .i64 uid,.int .i64 seq] 3)).heap.size:=by simp;omega
     clear HBN4
     go_wp2_with fail
     refine (putNums_b B _ _ _ [uid,seq] _ HOA4.out HSZ4 HNV4.out (by simp only [List.length_append];omega) (by simp)).mono ?_
     rintro e w4 ⟨r4,rfl,R4,T4⟩
     have T5:Hid (Tw B (w.alloc (.cells #[.slice a0 n0 c0,.int .i64 x.valid,.int .i64 x.next,.int .i64 x.seq,.slice a1 x.mails.length c1,.slice (some ⟨b,off,none⟩) x.gones.length c2,.int .i64 x.lost] 44)) w4):=hT.out.trans (TM.out.trans ((Tw.alloc sm _).trans T4))
     have HO4:Hid (OwnB w4 B r4 (N ++ (x.gones.take (k+1)).flatMap goneBs)):=by
      have e:N ++ (x.gones.take (k+1)).flatMap goneBs=N ++ (x.gones.take k).flatMap goneBs ++ numsB [uid,seq]:=by rw [HST.out];simp [goneBs,numsB]
      rw [e]
      exact R4
     clear R4 T4 d0 d1 f0 f1 hlM HOM hO hT TM HM HST
     go_wp2
     go_roundw
     case rel=>exact ⟨k+1,by omega,by go_num,HO4,T5⟩
     case measure=>simp [intOf];omega
    ·obtain rfl:k=x.gones.length:=by omega
     have HF:Hid (N ++ (x.gones.take x.gones.length).flatMap goneBs=l ++ boxBs x):=by
      rw [Hid,List.take_length,← HN.out,← HL.out]
      simp [boxBs,numsB]
     go_wp2
     go_ret
     have hr:=hO.out
     rw [HF.out] at hr
     exact ⟨_,rfl,hr,TA.out.trans hT.out⟩

end Go.Proofs.YtnlhkgoppjejeaaDoor

/- What AccountBytes of package impl do. -/
namespace Go.Proofs.YtnlhkgoppjejeaaDoor
open Go.RowKit
set_option maxRecDepth 100000
set_option linter.unusedVariables false
set_option linter.unusedSimpArgs false

set_option maxRecDepth 100000 in
set_option maxHeartbeats 4000000 in
theorem implAccountBytes_r (v:Value) (x:AccD) (w:World) (hv:AccV w v x) (hz:szXs x.boxes≤2000000) :
  Calls Tryd.prog 5 #[v] w fun e w'=>∃ u,e=.returned (.tuple #[u,.bool (accB x)])∧Row w' w.heap.size w'.heap.size u (outB x)∧Below w.heap.size w w':=by
 have HV:Hid (∀ wi,Below w.heap.size w wi→AccV wi v x):=fun wi h=>hv.below h
 obtain ⟨u0,u1,rfl,g0,g1,i0⟩:=hv
 have H0:Hid (∀ wi,Below w.heap.size w wi→BoxesV wi u0 x.boxes∧IntsV wi u1 x.seen):=fun wi h=>⟨g0.below keepsBox h,g1.below keepsInt h⟩
 obtain ⟨a0,c0,rfl,m0,m1⟩:=g0.form
 obtain ⟨a1,c1,rfl,m2,m3⟩:=g1.form
 clear g0 g1
 have HX:Hid (Below w.heap.size w (w.alloc (.cells #[.int .i64 x.valid,.slice a0 x.boxes.length c0,.slice a1 x.seen.length c1] 26))):=(Below.refl _ _).alloc (Nat.le_refl _) _
 have HK:Hid ((w.alloc (.cells #[.int .i64 x.valid,.slice a0 x.boxes.length c0,.slice a1 x.seen.length c1] 26)).heap[w.heap.size]?=some (.cells #[.int .i64 x.valid,.slice a0 x.boxes.length c0,.slice a1 x.seen.length c1] 26)):=box_new w _
 have hn:=implAccountOk_any _ x _ (HV.out _ HX.out)
 cases hA:accB x with
 | false =>
  rw [hA] at hn
  have HO:Hid (outB x=[]):=by simp only [Hid,outB,hA]
  go_enter Tryd.func5,Tryd.ntmps5
  go_wp2_with fail
  refine hn.mono ?_
  rintro e w1 ⟨rfl,B⟩
  have HB1:Hid (Below w.heap.size w w1):=Below.step HX.out B
  clear B HK hn
  go_wp2
  go_ret2
  exact ⟨_,rfl,by rw [HO.out];exact Row.nil _ _ _,HB1.out⟩
 | true =>
  rw [hA] at hn
  have HO:Hid (outB x=accBs x):=by simp only [Hid,outB,hA]
  obtain ⟨y0,y1⟩:=accB_small hA
  have y2:=accB_seen hA
  clear hA
  have H1:Hid (BoxesV w (.slice a0 x.boxes.length c0) x.boxes∧IntsV w (.slice a1 x.seen.length c1) x.seen):=H0.out w (Below.refl _ _)
  clear H0 HV
  go_enter Tryd.func5,Tryd.ntmps5
  go_wp2_with fail
  refine hn.mono ?_
  rintro e w1 ⟨rfl,B1⟩
  have HK1:Hid (w1.heap[w.heap.size]?=some (.cells #[.int .i64 x.valid,.slice a0 x.boxes.length c0,.slice a1 x.seen.length c1] 26)):=box_below B1 HK.out
  have HB1:Hid (Below w.heap.size w w1):=Below.step HX.out B1
  clear B1 HK hn HX
  generalize hBB:w.heap.size=B at HB1 HK1
  have HBB:Hid (w.heap.size=B):=hBB
  have s1:B≤w1.heap.size:=by rw [← hBB];exact HB1.out.size
  clear hBB
  have HO1:Hid (OwnB w1 B (.slice none 0 0) []):=OwnB.nil' _ _
  obtain ⟨f0,f1,f2⟩:=bx3 HK1.out
  have hlA:=lt_of_heap HK1.out
  have HBN1:Hid (((w1).alloc (.cells #[.int .i64 x.valid,.int .i64 (x.boxes.length:Int)] 3)).heap[(w1).heap.size]?=some (.cells #[.int .i64 x.valid,.int .i64 (x.boxes.length:Int)] 3)):=by
   have h:=box_new (w1) (.cells #[.int .i64 x.valid,.int .i64 (x.boxes.length:Int)] 3)
   exact h
  have HNV1:Hid (∀ wi,Tw B ((w1).alloc (.cells #[.int .i64 x.valid,.int .i64 (x.boxes.length:Int)] 3)) wi→IntsV wi (.slice (some ⟨(w1).heap.size,0,none⟩) 2 2) [x.valid,(x.boxes.length:Int)]):=fun wi h=>ints_lit wi (w1).heap.size [x.valid,(x.boxes.length:Int)] (Tw.box h (by decide) HBN1.out) (by simp only [List.mem_cons,List.not_mem_nil,or_false,forall_eq_or_imp,forall_eq];exact ⟨i0,by omega,by omega⟩) (by simp)
  have HOA1:Hid (OwnB ((w1).alloc (.cells #[.int .i64 x.valid,.int .i64 (x.boxes.length:Int)] 3)) B _ ([])):=HO1.out.alloc _
  have HSZ1:B≤((w1).alloc (.cells #[.int .i64 x.valid,.int .i64 (x.boxes.length:Int)] 3)).heap.size:=by simp;omega
  clear HBN1
  go_wp2_with fail
  refine (putNums_b B _ _ _ [x.valid,(x.boxes.length:Int)] _ HOA1.out HSZ1 HNV1.out (by simp) (by simp)).mono ?_
  rintro e w2 ⟨r2,rfl,R2,T2⟩
  have HO2:Hid (OwnB w2 B r2 (numsB [x.valid,(x.boxes.length:Int)] ++ (x.boxes.take 0).flatMap boxBs)):=by simpa [Hid] using R2
  have T3:Hid (Tw B w1 w2):=(Tw.alloc s1 _).trans T2
  clear R2 T2 f0 f1 f2 hlA HO1
  generalize hL:numsB [x.valid,(x.boxes.length:Int)]=L at HO2
  have hLl:L.length≤20:=by
   have:=nums_len [x.valid,(x.boxes.length:Int)]
   rw [← hL];simp at this;omega
  have HL:Hid (numsB [x.valid,(x.boxes.length:Int)]=L):=hL
  clear hL
  obtain ⟨f0,f1,f2⟩:=bx3 (T3.out.box (by decide) HK1.out)
  have hlA:=lt_of_heap (T3.out.box (by decide) HK1.out)
  go_wp2
  clear f0 f1 f2 hlA
  go_loopw [4,20] (fun out i wr=>∃ k:Nat,k≤x.boxes.length∧i=.int .i64 k∧Hid (OwnB wr B out (L ++ (x.boxes.take k).flatMap boxBs))∧Hid (Tw B w1 wr)) (fun _ i _=>x.boxes.length - (intOf i).toNat)
  case atStart=>exact ⟨0,Nat.zero_le _,rfl,HO2,T3⟩
  case round =>
   clear HO2 T3
   obtain ⟨k,hk,rfl,hO,hT⟩:=hrel
   have hml:=boxes_len (x.boxes.take k) (fun b hb=>y1 b (List.mem_of_mem_take hb))
   have htk:(x.boxes.take k).length≤4:=by simp;omega
   have sr:B≤wr.heap.size:=Nat.le_trans s1 hT.out.size
   have hbr:Below w.heap.size w wr:=by rw [HBB.out];exact HB1.out.trans hT.out.below
   by_cases hlt:k < x.boxes.length
   ·obtain ⟨m,hm⟩:∃ m,x.boxes[k]?=some m:=⟨x.boxes[k],List.getElem?_eq_getElem hlt⟩
    obtain ⟨b,off,cap',u0,u1,u2,hv',hlb,d0,d1,d2,d3,d4,d5,d6,hu0,hu1,hu2,j0,j1,j2,j3⟩:=BoxesV.cell H1.out.1 k m hm
    simp only [Value.slice.injEq,true_and] at hv'
    obtain ⟨rfl,rfl⟩:=hv'
    obtain ⟨ua,un,uc,rfl⟩:=hu0.form3
    obtain ⟨va,vc,rfl,-⟩:=hu1.form
    obtain ⟨wa,wc,rfl,-⟩:=hu2.form
    have HBV:Hid (BoxV w (.agg #[.slice ua un uc,.int .i64 m.valid,.int .i64 m.next,.int .i64 m.seq,.slice va m.mails.length vc,.slice wa m.gones.length wc,.int .i64 m.lost]) m):=⟨_,_,_,rfl,hu0,hu1,hu2,j0,j1,j2,j3⟩
    replace d0:=(hbr.cell (p:=⟨b,off+k * 7,none⟩) hlb).trans d0
    replace d1:=(hbr.cell (p:=⟨b,off+k * 7+1,none⟩) hlb).trans d1
    replace d2:=(hbr.cell (p:=⟨b,off+k * 7+2,none⟩) hlb).trans d2
    replace d3:=(hbr.cell (p:=⟨b,off+k * 7+3,none⟩) hlb).trans d3
    replace d4:=(hbr.cell (p:=⟨b,off+k * 7+4,none⟩) hlb).trans d4
    replace d5:=(hbr.cell (p:=⟨b,off+k * 7+5,none⟩) hlb).trans d5
    replace d6:=(hbr.cell (p:=⟨b,off+k * 7+6,none⟩) hlb).trans d6
    replace hlb:b < wr.heap.size:=Nat.lt_of_lt_of_le hlb hbr.size
    have hq:=y1 m (List.mem_of_getElem? hm)
    have hsz:szX m≤2000000:=by have:=szXs_mem (List.mem_of_getElem? hm);omega
    have HST:Hid ((x.boxes.take (k+1)).flatMap boxBs=(x.boxes.take k).flatMap boxBs ++ boxBs m):=flat_step boxBs hm
    have HM:Hid ((wr.alloc (.cells #[.slice ua un uc,.int .i64 m.valid,.int .i64 m.next,.int .i64 m.seq,.slice va m.mails.length vc,.slice wa m.gones.length wc,.int .i64 m.lost] 44)).heap[wr.heap.size]?=some (.cells #[.slice ua un uc,.int .i64 m.valid,.int .i64 m.next,.int .i64 m.seq,.slice va m.mails.length vc,.slice wa m.gones.length wc,.int .i64 m.lost] 44)):=box_new wr _
    have TM:Hid (Tw B wr (wr.alloc (.cells #[.slice ua un uc,.int .i64 m.valid,.int .i64 m.next,.int .i64 m.seq,.slice va m.mails.length vc,.slice wa m.gones.length wc,.int .i64 m.lost] 44))):=Tw.alloc sr _
    have HOM:Hid (OwnB (wr.alloc (.cells #[.slice ua un uc,.int .i64 m.valid,.int .i64 m.next,.int .i64 m.seq,.slice va m.mails.length vc,.slice wa m.gones.length wc,.int .i64 m.lost] 44)) B _ (L ++ (x.boxes.take k).flatMap boxBs)):=hO.out.alloc _
    have HBM:Hid (Below w.heap.size w (wr.alloc (.cells #[.slice ua un uc,.int .i64 m.valid,.int .i64 m.next,.int .i64 m.seq,.slice va m.mails.length vc,.slice wa m.gones.length wc,.int .i64 m.lost] 44))):=Below.step hbr ((Below.refl _ _).alloc (Nat.le_refl _) _)
    obtain ⟨f0,f1,f2,f3,f4,f5,f6⟩:=bx7 HM.out
    have hlM:=lt_of_heap HM.out
    clear hu0 hu1 hu2 hm hbr
    go_wp2_with fail
    refine (putBox_b w _ _ _ m _ (by rw [HBB.out];exact HOM.out) HBM.out HBV.out (by simp only [List.length_append];omega) hq.1 hq.2 hsz).mono ?_
    rintro e w3 ⟨r3,rfl,R3,T3⟩
    rw [HBB.out] at R3 T3
    have T4:Hid (Tw B w1 w3):=hT.out.trans (TM.out.trans T3)
    have HO3:Hid (OwnB w3 B r3 (L ++ (x.boxes.take (k+1)).flatMap boxBs)):=by
     rw [HST.out,← List.append_assoc]
     exact R3
    clear R3 T3 hO hT HBV HST d0 d1 d2 d3 d4 d5 d6 f0 f1 f2 f3 f4 f5 f6 hlM HM TM HOM HBM
    go_wp2
    go_roundw
    case rel=>exact ⟨k+1,by omega,by go_num,HO3,T4⟩
    case measure=>simp [intOf];omega
   ·obtain rfl:k=x.boxes.length:=by omega
    have HE:Hid ((x.boxes.take x.boxes.length).flatMap boxBs=x.boxes.flatMap boxBs):=by rw [Hid,List.take_length]
    have HO8':=hO.out
    rw [HE.out] at HO8'
    have HO8:=(show Hid _ from HO8')
    clear HO8'
    have hml2:=boxes_len x.boxes y1
    have K8:=hT.out.box (by decide) HK1.out
    obtain ⟨f0,f1,f2⟩:=bx3 K8
    have hlA:=lt_of_heap K8
    clear hO K8
    have HBN2:Hid (((wr).alloc (.cells #[.int .i64 (x.seen.length:Int)] 3)).heap[(wr).heap.size]?=some (.cells #[.int .i64 (x.seen.length:Int)] 3)):=by
     have h:=box_new (wr) (.cells #[.int .i64 (x.seen.length:Int)] 3)
     exact h
    have HNV2:Hid (∀ wi,Tw B ((wr).alloc (.cells #[.int .i64 (x.seen.length:Int)] 3)) wi→IntsV wi (.slice (some ⟨(wr).heap.size,0,none⟩) 1 1) [(x.seen.length:Int)]):=fun wi h=>ints_lit wi (wr).heap.size [(x.seen.length:Int)] (Tw.box h (by decide) HBN2.out) (by simp only [List.mem_cons,List.not_mem_nil,or_false,forall_eq_or_imp,forall_eq];exact ⟨by omega,by omega⟩) (by simp)
    have HOA2:Hid (OwnB ((wr).alloc (.cells #[.int .i64 (x.seen.length:Int)] 3)) B _ (L ++ x.boxes.flatMap boxBs)):=(show OwnB wr B _ (L ++ x.boxes.flatMap boxBs) from HO8.out).alloc _
    have HSZ2:B≤((wr).alloc (.cells #[.int .i64 (x.seen.length:Int)] 3)).heap.size:=by simp;omega
    clear HBN2
    go_wp2_with fail
    refine (putNums_b B _ _ _ [(x.seen.length:Int)] _ HOA2.out HSZ2 HNV2.out (by simp only [List.length_append];omega) (by simp)).mono ?_
    rintro e w9 ⟨r9,rfl,R9,T9⟩
    have HO9:Hid (OwnB w9 B r9 (L ++ x.boxes.flatMap boxBs ++ numsB [(x.seen.length:Int)])):=R9
    have T10:Hid (Tw B w1 w9):=hT.out.trans ((Tw.alloc sr _).trans T9)
    have s9:B≤w9.heap.size:=Nat.le_trans s1 T10.out.size
    clear R9 T9 hT HO8 f0 f1 f2 hlA hlt hk HE hbr
    have HN9:Hid (∀ wi,Tw B w9 wi→IntsV wi (.slice a1 x.seen.length c1) x.seen):=fun wi h=>H1.out.2.below keepsInt (by rw [HBB.out];exact HB1.out.trans (T10.out.below.trans h.below))
    have hn1:=nums_len [(x.seen.length:Int)]
    simp only [List.length_cons,List.length_nil] at hn1
    have K9:=T10.out.box (by decide) HK1.out
    obtain ⟨f0,f1,f2⟩:=bx3 K9
    have hlA:=lt_of_heap K9
    clear K9
    go_wp2_with fail
    refine (putNums_b B _ _ _ x.seen _ HO9.out s9 HN9.out (by simp only [List.length_append];omega) (by omega)).mono ?_
    rintro e w10 ⟨r10,rfl,R10,T11⟩
    have HF:Hid (L ++ x.boxes.flatMap boxBs ++ numsB [(x.seen.length:Int)] ++ numsB x.seen=outB x):=by
     rw [Hid,HO.out,← HL.out]
     simp [accBs,numsB]
    rw [HF.out] at R10
    have HR:Hid (OwnB w10 w.heap.size r10 (outB x)):=by rw [HBB.out];exact R10
    have HBF:Hid (Below w.heap.size w w10):=by rw [HBB.out];exact HB1.out.trans (T10.out.below.trans T11.below)
    clear R10 T11 f0 f1 f2 hlA HF HN9 T10 HO9 HBB
    go_wp2
    go_ret2
    exact ⟨_,rfl,HR.out.toRow,HBF.out⟩

end Go.Proofs.YtnlhkgoppjejeaaDoor
