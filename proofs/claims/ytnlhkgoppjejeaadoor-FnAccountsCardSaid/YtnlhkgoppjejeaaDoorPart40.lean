/- The proof's texts, part 40. -/
import Derived.Test.YtnlhkgoppjejeaaDoorPart26
import Derived.Test.YtnlhkgoppjejeaaDoorPart30
import Derived.Deep.RegionHeld3

/- What l3changes of package spec does: its reply stays while its own blocks do. -/
namespace Go.Proofs.YtnlhkgoppjejeaaDoor
open Go.RowKit
set_option maxRecDepth 100000
set_option linter.unusedVariables false
set_option linter.unusedSimpArgs false


set_option maxRecDepth 100000 in
set_option maxHeartbeats 8000000 in
theorem l3changes_s (v:Value) (b:BoxD) (since:Int) (w:World) (hv:BoxV w v b) (hsx:szX b≤2000000) :
  Calls Tryd.prog 74 #[v,.int .i64 since] w fun e w'=>∃ u,e=.returned u∧RepS w' w.heap.size u (chgD b since)∧Below w.heap.size w w':=by
 obtain ⟨u0,u1,u2,rfl,g0,g1,g2,hint⟩:=hv
 have HINT:Hid (I64 b.valid∧I64 b.next∧I64 b.seq∧I64 b.lost):=hint
 have HNM:Hid (∀ wi,Below w.heap.size w wi→Bs wi u0 b.name):=fun wi h=>g0.below h
 have HMM:Hid (MailsV w u1 b.mails):=g1
 have HGG:Hid (GonesV w u2 b.gones):=g2
 have hsz:b.name.length≤2000000∧szM b.mails≤2000000∧b.gones.length≤2000000:=by unfold szX at hsx;omega
 have hmlen:b.mails.length≤2000000:=by have:=szM_len b.mails;omega
 have hglen:b.gones.length≤2000000:=hsz.2.2
 have HSX:Hid (szX (chgX b since)≤2000000):=Nat.le_trans (chg_sz b since) hsx
 obtain ⟨a0,an0,ac0,rfl⟩:=g0.form3
 obtain ⟨a1,ac1,rfl,-⟩:=g1.form
 obtain ⟨a2,ac2,rfl,-⟩:=g2.form
 obtain ⟨i0,hi,hz0,hz1,hz2⟩:=info_parts infoMail
 obtain ⟨i1,hj,hy0,hy1,hy2⟩:=info_parts infoGone
 have HB0:Hid (Below w.heap.size w (((w.alloc (.cells #[.slice a0 an0 ac0,.int .i64 b.valid,.int .i64 b.next,.int .i64 b.seq,.slice a1 b.mails.length ac1,.slice a2 b.gones.length ac2,.int .i64 b.lost] 44)).alloc (.cells #[.int .i64 0,.int .i64 0,.slice none 0 0,.int .i64 0,.int .i64 0,.int .i64 0,.slice none 0 0,.slice none 0 0,.int .i64 0,.slice none 0 0] 84)).alloc (.cells #[.slice a0 an0 ac0,.int .i64 b.valid,.int .i64 b.next,.int .i64 b.seq,.slice none 0 0,.slice none 0 0,.int .i64 b.lost] 44))):=(((Below.refl _ _).alloc (Nat.le_refl _) _).alloc (by simp) _).alloc (by simp;omega) _
 have HKA0:Hid ((((w.alloc (.cells #[.slice a0 an0 ac0,.int .i64 b.valid,.int .i64 b.next,.int .i64 b.seq,.slice a1 b.mails.length ac1,.slice a2 b.gones.length ac2,.int .i64 b.lost] 44)).alloc (.cells #[.int .i64 0,.int .i64 0,.slice none 0 0,.int .i64 0,.int .i64 0,.int .i64 0,.slice none 0 0,.slice none 0 0,.int .i64 0,.slice none 0 0] 84)).alloc (.cells #[.slice a0 an0 ac0,.int .i64 b.valid,.int .i64 b.next,.int .i64 b.seq,.slice none 0 0,.slice none 0 0,.int .i64 b.lost] 44)).heap[w.heap.size]?=some (.cells #[.slice a0 an0 ac0,.int .i64 b.valid,.int .i64 b.next,.int .i64 b.seq,.slice a1 b.mails.length ac1,.slice a2 b.gones.length ac2,.int .i64 b.lost] 44 (0,0))):=box_below ((Below.refl _ _).alloc (Nat.le_refl _) _) (boxes2 w _ _).1
 have HKR0:Hid ((((w.alloc (.cells #[.slice a0 an0 ac0,.int .i64 b.valid,.int .i64 b.next,.int .i64 b.seq,.slice a1 b.mails.length ac1,.slice a2 b.gones.length ac2,.int .i64 b.lost] 44)).alloc (.cells #[.int .i64 0,.int .i64 0,.slice none 0 0,.int .i64 0,.int .i64 0,.int .i64 0,.slice none 0 0,.slice none 0 0,.int .i64 0,.slice none 0 0] 84)).alloc (.cells #[.slice a0 an0 ac0,.int .i64 b.valid,.int .i64 b.next,.int .i64 b.seq,.slice none 0 0,.slice none 0 0,.int .i64 b.lost] 44)).heap[w.heap.size+1]?=some (.cells #[.int .i64 0,.int .i64 0,.slice none 0 0,.int .i64 0,.int .i64 0,.int .i64 0,.slice none 0 0,.slice none 0 0,.int .i64 0,.slice none 0 0] 84 (0,0))):=box_below ((Below.refl _ _).alloc (Nat.le_refl _) _) (boxes2 w _ _).2.1
 have HX0:Hid ((((w.alloc (.cells #[.slice a0 an0 ac0,.int .i64 b.valid,.int .i64 b.next,.int .i64 b.seq,.slice a1 b.mails.length ac1,.slice a2 b.gones.length ac2,.int .i64 b.lost] 44)).alloc (.cells #[.int .i64 0,.int .i64 0,.slice none 0 0,.int .i64 0,.int .i64 0,.int .i64 0,.slice none 0 0,.slice none 0 0,.int .i64 0,.slice none 0 0] 84)).alloc (.cells #[.slice a0 an0 ac0,.int .i64 b.valid,.int .i64 b.next,.int .i64 b.seq,.slice none 0 0,.slice none 0 0,.int .i64 b.lost] 44)).heap[w.heap.size+2]?=some (.cells #[.slice a0 an0 ac0,.int .i64 b.valid,.int .i64 b.next,.int .i64 b.seq,.slice none 0 0,.slice none 0 0,.int .i64 b.lost] 44 (0,0))):=by
  have h:=box_new ((w.alloc (.cells #[.slice a0 an0 ac0,.int .i64 b.valid,.int .i64 b.next,.int .i64 b.seq,.slice a1 b.mails.length ac1,.slice a2 b.gones.length ac2,.int .i64 b.lost] 44)).alloc (.cells #[.int .i64 0,.int .i64 0,.slice none 0 0,.int .i64 0,.int .i64 0,.int .i64 0,.slice none 0 0,.slice none 0 0,.int .i64 0,.slice none 0 0] 84)) (.cells #[.slice a0 an0 ac0,.int .i64 b.valid,.int .i64 b.next,.int .i64 b.seq,.slice none 0 0,.slice none 0 0,.int .i64 b.lost] 44)
  rw [show ((w.alloc (.cells #[.slice a0 an0 ac0,.int .i64 b.valid,.int .i64 b.next,.int .i64 b.seq,.slice a1 b.mails.length ac1,.slice a2 b.gones.length ac2,.int .i64 b.lost] 44)).alloc (.cells #[.int .i64 0,.int .i64 0,.slice none 0 0,.int .i64 0,.int .i64 0,.int .i64 0,.slice none 0 0,.slice none 0 0,.int .i64 0,.slice none 0 0] 84)).heap.size=w.heap.size+2 by simp] at h
  exact h
 have hs0:(((w.alloc (.cells #[.slice a0 an0 ac0,.int .i64 b.valid,.int .i64 b.next,.int .i64 b.seq,.slice a1 b.mails.length ac1,.slice a2 b.gones.length ac2,.int .i64 b.lost] 44)).alloc (.cells #[.int .i64 0,.int .i64 0,.slice none 0 0,.int .i64 0,.int .i64 0,.int .i64 0,.slice none 0 0,.slice none 0 0,.int .i64 0,.slice none 0 0] 84)).alloc (.cells #[.slice a0 an0 ac0,.int .i64 b.valid,.int .i64 b.next,.int .i64 b.seq,.slice none 0 0,.slice none 0 0,.int .i64 b.lost] 44)).heap.size=w.heap.size+3:=by simp
 have HS0:Hid _:=hs0
 clear g0 g1 g2 hint hs0
 by_cases hst:since < b.lost
 ·have HC:Hid (chgD b since=⟨4,b.lost,zeroX,[]⟩):=by show _=_;unfold chgD;rw [if_pos hst]
  obtain ⟨r0,r1,r2,r3,r4,r5,r6,r7,r8,r9⟩:=bx10 HKR0.out
  have HBs:Hid (Below w.heap.size w (((w.alloc (.cells #[.slice a0 an0 ac0,.int .i64 b.valid,.int .i64 b.next,.int .i64 b.seq,.slice a1 b.mails.length ac1,.slice a2 b.gones.length ac2,.int .i64 b.lost] 44)).alloc (.cells #[.int .i64 4,.int .i64 b.lost,.slice none 0 0,.int .i64 0,.int .i64 0,.int .i64 0,.slice none 0 0,.slice none 0 0,.int .i64 0,.slice none 0 0] 84)).alloc (.cells #[.slice a0 an0 ac0,.int .i64 b.valid,.int .i64 b.next,.int .i64 b.seq,.slice none 0 0,.slice none 0 0,.int .i64 b.lost] 44))):=(((Below.refl _ _).alloc (Nat.le_refl _) _).alloc (by simp) _).alloc (by simp;omega) _
  clear r0 r1 r2 r3 r4 r5 r6 r7 r8 r9 HB0 HKA0 HKR0 HX0 HS0
  go_enter Tryd.func74,Tryd.ntmps74
  go_wp2
  refine bodyPost_ret (v:=.agg #[.int .i64 4,.int .i64 b.lost,.slice none 0 0,.int .i64 0,.int .i64 0,.int .i64 0,.slice none 0 0,.slice none 0 0,.int .i64 0,.slice none 0 0]) (by simp [results,Tryd.results74,go_sem]) rfl ⟨_,rfl,?_,?_⟩
  ·rw [HC.out]
   exact ⟨fun w' _ _=>⟨_,_,_,_,rfl,⟨_,_,_,rfl,bs_nil' _,Rd.nil _,Rd.nil _,i64c0,i64c0,i64c0,i64c0⟩,Rd.nil _,i64c4,HINT.out.2.2.2⟩,_,_,_,_,_,_,_,_,_,_,rfl,.inl ⟨rfl,rfl⟩⟩
  ·exact HBs.out
 have HC:Hid (chgD b since=⟨0,0,chgX b since,[]⟩):=by show _=_;unfold chgD;rw [if_neg hst]
 obtain ⟨N,hNe⟩:∃ N,N=w.heap.size+3:=⟨_,rfl⟩
 go_enter Tryd.func74,Tryd.ntmps74
 go_wp2
 generalize hw0:(((w.alloc (.cells #[.slice a0 an0 ac0,.int .i64 b.valid,.int .i64 b.next,.int .i64 b.seq,.slice a1 b.mails.length ac1,.slice a2 b.gones.length ac2,.int .i64 b.lost] 44)).alloc (.cells #[.int .i64 0,.int .i64 0,.slice none 0 0,.int .i64 0,.int .i64 0,.int .i64 0,.slice none 0 0,.slice none 0 0,.int .i64 0,.slice none 0 0] 84)).alloc (.cells #[.slice a0 an0 ac0,.int .i64 b.valid,.int .i64 b.next,.int .i64 b.seq,.slice none 0 0,.slice none 0 0,.int .i64 b.lost] 44))=w0 at *
 clear hw0
 have hN0:N≤w0.heap.size:=by have:=HS0.out;omega
 clear HS0
 go_loopw [6] (fun i wr=>∃ (k:Nat) (va:Option Addr) (vn vc:Nat),k≤b.mails.length∧i=.int .i64 k∧Hid (Below w.heap.size w wr)∧Hid (wr.heap[w.heap.size]?=some (.cells #[.slice a0 an0 ac0,.int .i64 b.valid,.int .i64 b.next,.int .i64 b.seq,.slice a1 b.mails.length ac1,.slice a2 b.gones.length ac2,.int .i64 b.lost] 44 (0,0)))∧Hid (wr.heap[w.heap.size+1]?=some (.cells #[.int .i64 0,.int .i64 0,.slice none 0 0,.int .i64 0,.int .i64 0,.int .i64 0,.slice none 0 0,.slice none 0 0,.int .i64 0,.slice none 0 0] 84 (0,0)))∧Hid (wr.heap[w.heap.size+2]?=some (.cells #[.slice a0 an0 ac0,.int .i64 b.valid,.int .i64 b.next,.int .i64 b.seq,.slice va vn vc,.slice none 0 0,.int .i64 b.lost] 44 (0,0)))∧N≤wr.heap.size∧Hid (MailsW w wr N wr.heap.size (.slice va vn vc) ((b.mails.take k).filter (fun m:MailD=>decide (since < m.seq))))) (fun i _=>b.mails.length - (intOf i).toNat)
 case atStart=>exact ⟨0,none,0,0,Nat.zero_le _,rfl,HB0,HKA0,HKR0,HX0,hN0,.inl ⟨rfl,rfl⟩⟩
 case round =>
  clear HB0 HKA0 HKR0 HX0 hN0
  obtain ⟨k,va,vn,vc,hk,rfl,HB,HKA,HKR,HX,hs,HO⟩:=hrel
  obtain ⟨c0,c1,c2,c3,c4,c5,c6⟩:=bx7 HKA.out
  obtain ⟨y0,y1,y2,y3,y4,y5,y6⟩:=bx7 HX.out
  have lA:=lt_of_heap HKA.out
  have lX:=lt_of_heap HX.out
  by_cases hlt:k < b.mails.length
  ·obtain ⟨x,hx⟩:∃ x,b.mails[k]?=some x:=⟨b.mails[k],List.getElem?_eq_getElem hlt⟩
   obtain ⟨bb,off,cp,t,hv',hlb,e0,e1,e2,e3,ht,hxi⟩:=MailsV.cell HMM.out k x hx
   simp only [Value.slice.injEq,true_and] at hv'
   obtain ⟨rfl,rfl⟩:=hv'
   have HRE:Hid (MailRE w [.int .i64 x.uid,.int .i64 x.flags,.int .i64 x.seq,t] x):=⟨_,rfl,ht,hxi⟩
   obtain ⟨ta,tn,tc,rfl⟩:=ht.form3
   clear ht hxi
   have E0:=e0
   have E1:=e1
   have E2:=e2
   have E3:=e3
   replace e0:=cell_later HB.out e0
   replace e1:=cell_later HB.out e1
   replace e2:=cell_later HB.out e2
   replace e3:=cell_later HB.out e3
   have hlb2:bb < wr.heap.size:=Nat.lt_of_lt_of_le hlb HB.out.size
   have HXX:Hid (b.mails[k]?=some x):=hx
   have hki:(k:Int) < b.mails.length:=by omega
   clear hx
   by_cases hq:since < x.seq
   ·have HQ:Hid (since < x.seq):=hq
    have HS:Hid (∀ w',Below wr.heap.size wr w'→(w'.cell? ⟨w.heap.size+2,4,none⟩=some (.slice va vn vc)∧w'.cell? ⟨w.heap.size,4,none⟩=some (.slice (some ⟨bb,off,none⟩) b.mails.length ac1))∧w'.cell? ⟨bb,off+k * 4,none⟩=some (.int .i64 x.uid)∧w'.cell? ⟨bb,off+k * 4+1,none⟩=some (.int .i64 x.flags)∧w'.cell? ⟨bb,off+k * 4+2,none⟩=some (.int .i64 x.seq)∧w'.cell? ⟨bb,off+k * 4+3,none⟩=some (.slice ta tn tc)):=fun w' h=>⟨⟨cell_later h y4,cell_later h c4⟩,cell_later h e0,cell_later h e1,cell_later h e2,cell_later h e3⟩
    have DR:Below wr.heap.size wr wr.drew:=(Below.refl _ _).drew
    go_upto_region 8 with fail
    clear c0 c1 c2 c3 c4 c5 c6 y0 y1 y2 y3 y4 y5 y6
    refine wpS_begin 9 (S:=fun w'=>(w'.cell? ⟨w.heap.size+2,4,none⟩=some (.slice va vn vc)∧w'.cell? ⟨w.heap.size,4,none⟩=some (.slice (some ⟨bb,off,none⟩) b.mails.length ac1))∧w'.cell? ⟨bb,off+k * 4,none⟩=some (.int .i64 x.uid)∧w'.cell? ⟨bb,off+k * 4+1,none⟩=some (.int .i64 x.flags)∧w'.cell? ⟨bb,off+k * 4+2,none⟩=some (.int .i64 x.seq)∧w'.cell? ⟨bb,off+k * 4+3,none⟩=some (.slice ta tn tc)) (tabS_of (by kernel_rfl) tabS_chg8) (by kernel_rfl) (HS.out _ DR) (fun hTb hHeld=>?_)
    refine tks 0 0 41 hTb hHeld ?_
    refine tks 1 1 42 hTb hHeld ?_
    refine tks 2 2 43 hTb hHeld ?_
    refine tks 3 3 44 hTb hHeld ?_
    refine tks 4 4 45 hTb hHeld ?_
    refine tks 5 5 46 hTb hHeld ?_
    refine tks 6 6 47 hTb hHeld ?_
    refine cls 7 7 hTb (by decide) rfl rfl (fun K hK=>?_)
    go_simp
    have AB:Below wr.heap.size wr (wr.drew.alloc (.cells #[.int .i64 x.uid,.int .i64 x.flags,.int .i64 x.seq,.slice ta tn tc] 67)):=(Below.refl _ _).drew.alloc (Nat.le_refl _) _
    refine hK.out _ _ (HS.out _ AB) (fun hHeld=>?_)
    clear hK K
    refine cls 8 8 hTb (by decide) rfl rfl (fun K hK=>?_)
    have hMs:wr.heap.size≤(wr.drew.alloc (.cells #[.int .i64 x.uid,.int .i64 x.flags,.int .i64 x.seq,.slice ta tn tc] 67)).heap.size:=AB.size
    have HEa:MailWE w (wr.drew.alloc (.cells #[.int .i64 x.uid,.int .i64 x.flags,.int .i64 x.seq,.slice ta tn tc] 67)) [.int .i64 x.uid,.int .i64 x.flags,.int .i64 x.seq,.slice ta tn tc] x (In wr.heap.size (wr.drew.alloc (.cells #[.int .i64 x.uid,.int .i64 x.flags,.int .i64 x.seq,.slice ta tn tc] 67)).heap.size):=HRE.out
    have hfl:((b.mails.take k).filter (fun m:MailD=>decide (since < m.seq))).length≤k:=Nat.le_trans (List.length_filter_le _ _) (by simp;omega)
    have hp1:((b.mails.take k).filter (fun m:MailD=>decide (since < m.seq))).length+1≤maxLen:=by unfold maxLen;omega
    have hp2:(((b.mails.take k).filter (fun m:MailD=>decide (since < m.seq))).length+1) * 48≤140737488355328:=by omega
    refine ite_w (by kernel_rfl) (wp_push 49 rfl (.tmp 42) (.tmp 48) rfl (framesMW w) (B:=N) (M:=wr.heap.size) (Ow.below (framesMW w) HO.out AB) hMs hs Tryd.underlying41 hi hz0 hz1 hz2 rfl (by omega) rfl x [.int .i64 x.uid,.int .i64 x.flags,.int .i64 x.seq,.slice ta tn tc] rfl HEa ⟨wr.heap.size,0,none⟩ 1 rfl (cells_new wr.drew _ _) one4' hp1 hp2 ?_)
    intro DV wz hO hgz hvz
    obtain ⟨da,dn,dc,hDV⟩:=OwF.form3 hO
    subst hDV
    clear hfl
    have hge:∀ j,(Value.slice va vn vc).ownBlock=some j→N≤j:=fun j hj=>(hvz j hj).1
    have KX:=grown_at hgz hge (box_below AB HX.out) (by omega)
    have HKAz:=hidm' (grown_at hgz hge (box_below AB HKA.out) (by omega))
    have HKRz:=hidm' (grown_at hgz hge (box_below AB HKR.out) (by omega))
    have HBz:Hid (Below w.heap.size w wz):=grown_below (Below.step HB.out AB) hgz hge (by omega) (by have:=AB.size;omega)
    have sz:wr.heap.size≤wz.heap.size:=Nat.le_trans AB.size hgz.size
    obtain ⟨zx,zl⟩:=box8z KX
    obtain ⟨d0,d1,d2,d3,d4,d5,d6⟩:=bx7 KX
    refine hK.out _ _ (⟨⟨d4,(bx7 HKAz.out).2.2.2.2.1⟩,(cell_later HBz.out E0),(cell_later HBz.out E1),(cell_later HBz.out E2),(cell_later HBz.out E3)⟩) (fun hHeld=>?_)
    clear hK K
    refine wpS_next (S':=fun w'=>True) 9 11 hTb (by decide) (trivial) (fun hHeld=>?_)
    refine tks 9 9 50 hTb hHeld ?_
    refine cls 10 10 hTb (by decide) rfl rfl (fun K hK=>?_)
    go_simp
    refine hK.out _ _ (trivial) (fun hHeld=>?_)
    clear hK K
    refine wpS_end hTb ?_
    have HX9:Hid ((wz.setCell ⟨w.heap.size+2,4,none⟩ (.slice da dn dc)).heap[w.heap.size+2]?=some (.cells #[.slice a0 an0 ac0,.int .i64 b.valid,.int .i64 b.next,.int .i64 b.seq,.slice da dn dc,.slice none 0 0,.int .i64 b.lost] 44 (0,0))):=box_set KX
    have HKA9:=hidm' (box_other (k:=w.heap.size+2) (i:=4) (v:=.slice da dn dc) HKAz.out (by omega))
    have HKR9:=hidm' (box_other (k:=w.heap.size+2) (i:=4) (v:=.slice da dn dc) HKRz.out (by omega))
    have HB9:Hid (Below w.heap.size w (wz.setCell ⟨w.heap.size+2,4,none⟩ (.slice da dn dc))):=HBz.out.setCell (p:=⟨w.heap.size+2,4,none⟩) (by simp) _
    have hfx:(b.mails.take (k+1)).filter (fun m:MailD=>decide (since < m.seq))=(b.mails.take k).filter (fun m:MailD=>decide (since < m.seq)) ++ [x]:=by rw [take_snoc HXX.out,List.filter_append];simp [HQ.out]
    have HO9:Hid (MailsW w (wz.setCell ⟨w.heap.size+2,4,none⟩ (.slice da dn dc)) N (wz.setCell ⟨w.heap.size+2,4,none⟩ (.slice da dn dc)).heap.size (.slice da dn dc) ((b.mails.take (k+1)).filter (fun m:MailD=>decide (since < m.seq)))):=by show MailsW w _ _ _ _ _;rw [box_size,hfx];exact mw_set hO (.inl (by omega))
    have hs9:N≤(wz.setCell ⟨w.heap.size+2,4,none⟩ (.slice da dn dc)).heap.size:=by rw [box_size];have:=AB.size;omega
    clear KX HKAz HKRz HBz HX HKA HKR HB HO HEa hO hgz hvz hge AB DR HS HRE hfx e0 E0 e1 E1 e2 E2 e3 E3
    go_wp2
    go_roundw
    case rel=>exact ⟨k+1,da,dn,dc,by omega,by go_num,HB9,HKA9,HKR9,HX9,hs9,HO9⟩
    case measure=>simp [intOf];omega
   ·have hfx:(b.mails.take (k+1)).filter (fun m:MailD=>decide (since < m.seq))=(b.mails.take k).filter (fun m:MailD=>decide (since < m.seq)):=by rw [take_snoc HXX.out,List.filter_append];simp [hq]
    have HO9:Hid (MailsW w wr N wr.heap.size (.slice va vn vc) ((b.mails.take (k+1)).filter (fun m:MailD=>decide (since < m.seq)))):=by show MailsW w _ _ _ _ _;rw [hfx];exact HO.out
    clear hfx HO
    go_wp2
    go_roundw
    case rel=>exact ⟨k+1,va,vn,vc,by omega,by go_num,HB,HKA,HKR,HX,hs,HO9⟩
    case measure=>simp [intOf];omega
  ·obtain rfl:k=b.mails.length:=by omega
   have HBa:=HB
   have HKAa:=HKA
   have HKRa:=HKR
   have HXa:=HX
   have HOMa:Hid (MailsW w wr N wr.heap.size (.slice va vn vc) (b.mails.filter (fun m:MailD=>decide (since < m.seq)))):=by have h:=HO.out;rw [List.take_length] at h;exact h
   obtain ⟨M1,hM1⟩:∃ M,M=wr.heap.size:=⟨_,rfl⟩
   clear HO
   go_wp2
   clear c0 c1 c2 c3 c4 c5 c6 y0 y1 y2 y3 y4 y5 y6 HB HKA HKR HX
   rw [← hM1] at HOMa
   have hMN:N≤M1:=by omega
   clear hs
   go_loopw [7] (fun i wr=>∃ (k:Nat) (ga:Option Addr) (gn gc:Nat),k≤b.gones.length∧i=.int .i64 k∧Hid (Below w.heap.size w wr)∧Hid (wr.heap[w.heap.size]?=some (.cells #[.slice a0 an0 ac0,.int .i64 b.valid,.int .i64 b.next,.int .i64 b.seq,.slice a1 b.mails.length ac1,.slice a2 b.gones.length ac2,.int .i64 b.lost] 44 (0,0)))∧Hid (wr.heap[w.heap.size+1]?=some (.cells #[.int .i64 0,.int .i64 0,.slice none 0 0,.int .i64 0,.int .i64 0,.int .i64 0,.slice none 0 0,.slice none 0 0,.int .i64 0,.slice none 0 0] 84 (0,0)))∧Hid (wr.heap[w.heap.size+2]?=some (.cells #[.slice a0 an0 ac0,.int .i64 b.valid,.int .i64 b.next,.int .i64 b.seq,.slice va vn vc,.slice ga gn gc,.int .i64 b.lost] 44 (0,0)))∧M1≤wr.heap.size∧Hid (MailsW w wr N M1 (.slice va vn vc) (b.mails.filter (fun m:MailD=>decide (since < m.seq))))∧Hid (GonesR wr M1 wr.heap.size (.slice ga gn gc) ((b.gones.take k).filter (fun m:GoneD=>decide (since < m.seq))))) (fun i _=>b.gones.length - (intOf i).toNat)
   case atStart=>exact ⟨0,none,0,0,Nat.zero_le _,rfl,HBa,HKAa,HKRa,HXa,(show M1≤wr.heap.size by omega),HOMa,.inl ⟨rfl,rfl⟩⟩
   case round =>
    obtain ⟨k,ga,gn,gc,hk,rfl,HB,HKA,HKR,HX,hs,HOM',HO⟩:=hrel
    clear HBa HKAa HKRa HXa HOMa
    obtain ⟨c0,c1,c2,c3,c4,c5,c6⟩:=bx7 HKA.out
    obtain ⟨y0,y1,y2,y3,y4,y5,y6⟩:=bx7 HX.out
    have lA:=lt_of_heap HKA.out
    have lX:=lt_of_heap HX.out
    by_cases hlt:k < b.gones.length
    ·obtain ⟨x,hx⟩:∃ x,b.gones[k]?=some x:=⟨b.gones[k],List.getElem?_eq_getElem hlt⟩
     obtain ⟨bb,off,cp,hv',hlb,e0,e1,hxi⟩:=GonesV.cell HGG.out k x hx
     simp only [Value.slice.injEq,true_and] at hv'
     obtain ⟨rfl,rfl⟩:=hv'
     have HRE:Hid (I64 x.uid∧I64 x.seq):=hxi
     clear hxi
     have E0:=e0
     have E1:=e1
     replace e0:=cell_later HB.out e0
     replace e1:=cell_later HB.out e1
     have hlb2:bb < wr.heap.size:=Nat.lt_of_lt_of_le hlb HB.out.size
     have HXX:Hid (b.gones[k]?=some x):=hx
     have hki:(k:Int) < b.gones.length:=by omega
     clear hx
     by_cases hq:since < x.seq
     ·have HQ:Hid (since < x.seq):=hq
      have HS:Hid (∀ w',Below wr.heap.size wr w'→(w'.cell? ⟨w.heap.size+2,5,none⟩=some (.slice ga gn gc)∧w'.cell? ⟨w.heap.size,5,none⟩=some (.slice (some ⟨bb,off,none⟩) b.gones.length ac2))∧w'.cell? ⟨bb,off+k * 2,none⟩=some (.int .i64 x.uid)∧w'.cell? ⟨bb,off+k * 2+1,none⟩=some (.int .i64 x.seq)):=fun w' h=>⟨⟨cell_later h y5,cell_later h c5⟩,cell_later h e0,cell_later h e1⟩
      have DR:Below wr.heap.size wr wr.drew:=(Below.refl _ _).drew
      go_upto_region 13 with fail
      clear c0 c1 c2 c3 c4 c5 c6 y0 y1 y2 y3 y4 y5 y6
      refine wpS_begin 9 (S:=fun w'=>(w'.cell? ⟨w.heap.size+2,5,none⟩=some (.slice ga gn gc)∧w'.cell? ⟨w.heap.size,5,none⟩=some (.slice (some ⟨bb,off,none⟩) b.gones.length ac2))∧w'.cell? ⟨bb,off+k * 2,none⟩=some (.int .i64 x.uid)∧w'.cell? ⟨bb,off+k * 2+1,none⟩=some (.int .i64 x.seq)) (tabS_of (by kernel_rfl) tabS_chg13) (by kernel_rfl) (HS.out _ DR) (fun hTb hHeld=>?_)
      refine tks 0 0 66 hTb hHeld ?_
      refine tks 1 1 67 hTb hHeld ?_
      refine tks 2 2 68 hTb hHeld ?_
      refine tks 3 3 69 hTb hHeld ?_
      refine tks 4 4 70 hTb hHeld ?_
      refine tks 5 5 71 hTb hHeld ?_
      refine tks 6 6 72 hTb hHeld ?_
      refine cls 7 7 hTb (by decide) rfl rfl (fun K hK=>?_)
      go_simp
      have AB:Below wr.heap.size wr (wr.drew.alloc (.cells #[.int .i64 x.uid,.int .i64 x.seq] 65)):=(Below.refl _ _).drew.alloc (Nat.le_refl _) _
      refine hK.out _ _ (HS.out _ AB) (fun hHeld=>?_)
      clear hK K
      refine cls 8 8 hTb (by decide) rfl rfl (fun K hK=>?_)
      have hMs:wr.heap.size≤(wr.drew.alloc (.cells #[.int .i64 x.uid,.int .i64 x.seq] 65)).heap.size:=AB.size
      have HEa:GoneE (wr.drew.alloc (.cells #[.int .i64 x.uid,.int .i64 x.seq] 65)) [.int .i64 x.uid,.int .i64 x.seq] x (In wr.heap.size (wr.drew.alloc (.cells #[.int .i64 x.uid,.int .i64 x.seq] 65)).heap.size):=⟨rfl,HRE.out⟩
      have hfl:((b.gones.take k).filter (fun m:GoneD=>decide (since < m.seq))).length≤k:=Nat.le_trans (List.length_filter_le _ _) (by simp;omega)
      have hp1:((b.gones.take k).filter (fun m:GoneD=>decide (since < m.seq))).length+1≤maxLen:=by unfold maxLen;omega
      have hp2:(((b.gones.take k).filter (fun m:GoneD=>decide (since < m.seq))).length+1) * 16≤140737488355328:=by omega
      refine ite_w (by kernel_rfl) (wp_push 74 rfl (.tmp 67) (.tmp 73) rfl framesGone (B:=M1) (M:=wr.heap.size) (Ow.below framesGone HO.out AB) hMs hs Tryd.underlying42 hj hy0 hy1 hy2 rfl (by omega) rfl x [.int .i64 x.uid,.int .i64 x.seq] rfl HEa ⟨wr.heap.size,0,none⟩ 1 rfl (cells_new wr.drew _ _) one2' hp1 hp2 ?_)
      intro DV wz hO hgz hvz
      obtain ⟨da,dn,dc,hDV⟩:=OwF.form3 hO
      subst hDV
      clear hfl
      have hge:∀ j,(Value.slice ga gn gc).ownBlock=some j→M1≤j:=fun j hj=>(hvz j hj).1
      have KX:=grown_at hgz hge (box_below AB HX.out) (by omega)
      have HKAz:=hidm' (grown_at hgz hge (box_below AB HKA.out) (by omega))
      have HKRz:=hidm' (grown_at hgz hge (box_below AB HKR.out) (by omega))
      have HBz:Hid (Below w.heap.size w wz):=grown_below (Below.step HB.out AB) hgz hge (by omega) (by have:=AB.size;omega)
      have HOMz:Hid (MailsW w wz N M1 (.slice va vn vc) (b.mails.filter (fun m:MailD=>decide (since < m.seq)))):=mw_gr' (Ow.below (framesMW w) HOM'.out AB) hgz hge
      have sz:wr.heap.size≤wz.heap.size:=Nat.le_trans AB.size hgz.size
      obtain ⟨zx,zl⟩:=box8z KX
      obtain ⟨d0,d1,d2,d3,d4,d5,d6⟩:=bx7 KX
      refine hK.out _ _ (⟨⟨d5,(bx7 HKAz.out).2.2.2.2.2.1⟩,(cell_later HBz.out E0),(cell_later HBz.out E1)⟩) (fun hHeld=>?_)
      clear hK K
      refine wpS_next (S':=fun w'=>True) 9 11 hTb (by decide) (trivial) (fun hHeld=>?_)
      refine tks 9 9 75 hTb hHeld ?_
      refine cls 10 10 hTb (by decide) rfl rfl (fun K hK=>?_)
      go_simp
      refine hK.out _ _ (trivial) (fun hHeld=>?_)
      clear hK K
      refine wpS_end hTb ?_
      have HX9:Hid ((wz.setCell ⟨w.heap.size+2,5,none⟩ (.slice da dn dc)).heap[w.heap.size+2]?=some (.cells #[.slice a0 an0 ac0,.int .i64 b.valid,.int .i64 b.next,.int .i64 b.seq,.slice va vn vc,.slice da dn dc,.int .i64 b.lost] 44 (0,0))):=box_set KX
      have HKA9:=hidm' (box_other (k:=w.heap.size+2) (i:=5) (v:=.slice da dn dc) HKAz.out (by omega))
      have HKR9:=hidm' (box_other (k:=w.heap.size+2) (i:=5) (v:=.slice da dn dc) HKRz.out (by omega))
      have HB9:Hid (Below w.heap.size w (wz.setCell ⟨w.heap.size+2,5,none⟩ (.slice da dn dc))):=HBz.out.setCell (p:=⟨w.heap.size+2,5,none⟩) (by simp) _
      have hfx:(b.gones.take (k+1)).filter (fun m:GoneD=>decide (since < m.seq))=(b.gones.take k).filter (fun m:GoneD=>decide (since < m.seq)) ++ [x]:=by rw [take_snoc HXX.out,List.filter_append];simp [HQ.out]
      have HO9:Hid (GonesR (wz.setCell ⟨w.heap.size+2,5,none⟩ (.slice da dn dc)) M1 (wz.setCell ⟨w.heap.size+2,5,none⟩ (.slice da dn dc)).heap.size (.slice da dn dc) ((b.gones.take (k+1)).filter (fun m:GoneD=>decide (since < m.seq)))):=by show GonesR _ _ _ _ _;rw [box_size,hfx];exact OwR.set hO (.inl (by omega))
      have HOM9:Hid (MailsW w (wz.setCell ⟨w.heap.size+2,5,none⟩ (.slice da dn dc)) N M1 (.slice va vn vc) (b.mails.filter (fun m:MailD=>decide (since < m.seq)))):=mw_set HOMz.out (.inl (by omega))
      have hs9:M1≤(wz.setCell ⟨w.heap.size+2,5,none⟩ (.slice da dn dc)).heap.size:=by rw [box_size];have:=AB.size;omega
      clear KX HKAz HKRz HBz HX HKA HKR HB HO HEa hO hgz hvz hge AB DR HS HRE hfx e0 E0 e1 E1 HOM' HOMz
      go_wp2
      go_roundw
      case rel=>exact ⟨k+1,da,dn,dc,by omega,by go_num,HB9,HKA9,HKR9,HX9,hs9,HOM9,HO9⟩
      case measure=>simp [intOf];omega
     ·have hfx:(b.gones.take (k+1)).filter (fun m:GoneD=>decide (since < m.seq))=(b.gones.take k).filter (fun m:GoneD=>decide (since < m.seq)):=by rw [take_snoc HXX.out,List.filter_append];simp [hq]
      have HO9:Hid (GonesR wr M1 wr.heap.size (.slice ga gn gc) ((b.gones.take (k+1)).filter (fun m:GoneD=>decide (since < m.seq)))):=by show GonesR _ _ _ _ _;rw [hfx];exact HO.out
      clear hfx HO
      go_wp2
      go_roundw
      case rel=>exact ⟨k+1,ga,gn,gc,by omega,by go_num,HB,HKA,HKR,HX,hs,HOM',HO9⟩
      case measure=>simp [intOf];omega
    ·obtain rfl:k=b.gones.length:=by omega
     have HOG:Hid (GonesR wr M1 wr.heap.size (.slice ga gn gc) (b.gones.filter (fun m:GoneD=>decide (since < m.seq)))):=by have h:=HO.out;rw [List.take_length] at h;exact h
     have HBX:Hid (BoxV wr (.agg #[.slice a0 an0 ac0,.int .i64 b.valid,.int .i64 b.next,.int .i64 b.seq,.slice va vn vc,.slice ga gn gc,.int .i64 b.lost]) (chgX b since)):=⟨_,_,_,rfl,HNM.out wr HB.out,MailsW.v HOM'.out HB.out,Ow.rd (fun _ _ _ _ h=>h) HOG.out,HINT.out⟩
     clear HO
     go_wp2_with fail
     refine (l3ownBox_r _ (chgX b since) _ HBX.out HSX.out).mono ?_
     rintro e w9 ⟨u,rfl,⟨cs,hcs,hE⟩,B9⟩
     subst hcs
     obtain ⟨o0,on0,oc0,o1,on1,oc1,o2,on2,oc2,rfl⟩:=boxE_form hE
     have KR9:=box_below B9 HKR.out
     have HB9:Hid (Below w.heap.size w w9):=Below.step HB.out B9
     have HBw:Hid (w.heap.size≤wr.heap.size):=HB.out.size
     have HE9:Hid (BoxRE w9 [.slice o0 on0 oc0,.int .i64 (chgX b since).valid,.int .i64 (chgX b since).next,.int .i64 (chgX b since).seq,.slice o1 on1 oc1,.slice o2 on2 oc2,.int .i64 (chgX b since).lost] (chgX b since)):=hE.rd
     have HEO:Hid (BoxE w9 [.slice o0 on0 oc0,.int .i64 (chgX b since).valid,.int .i64 (chgX b since).next,.int .i64 (chgX b since).seq,.slice o1 on1 oc1,.slice o2 on2 oc2,.int .i64 (chgX b since).lost] (chgX b since) (In wr.heap.size w9.heap.size)):=hE
     obtain ⟨r0,r1,r2,r3,r4,r5,r6,r7,r8,r9⟩:=bx10 KR9
     obtain ⟨rz,rl⟩:=box8z KR9
     have KF:=(box_set (i:=9) (v:=.slice none 0 0) (box_set (i:=8) (v:=.int .i64 (chgX b since).lost) (box_set (i:=7) (v:=.slice o2 on2 oc2) (box_set (i:=6) (v:=.slice o1 on1 oc1) (box_set (i:=5) (v:=.int .i64 (chgX b since).seq) (box_set (i:=4) (v:=.int .i64 (chgX b since).next) (box_set (i:=3) (v:=.int .i64 (chgX b since).valid) (box_set (i:=2) (v:=.slice o0 on0 oc0) (box_set (i:=1) (v:=.int .i64 0) (box_set (i:=0) (v:=.int .i64 0) KR9))))))))))
     obtain ⟨f0,f1,f2,f3,f4,f5,f6,f7,f8,f9⟩:=bx10 KF
     have HBf:Hid (Below w.heap.size w ((((((((((w9.setCell ⟨w.heap.size+1,0,none⟩ (.int .i64 0)).setCell ⟨w.heap.size+1,1,none⟩ (.int .i64 0)).setCell ⟨w.heap.size+1,2,none⟩ (.slice o0 on0 oc0)).setCell ⟨w.heap.size+1,3,none⟩ (.int .i64 (chgX b since).valid)).setCell ⟨w.heap.size+1,4,none⟩ (.int .i64 (chgX b since).next)).setCell ⟨w.heap.size+1,5,none⟩ (.int .i64 (chgX b since).seq)).setCell ⟨w.heap.size+1,6,none⟩ (.slice o1 on1 oc1)).setCell ⟨w.heap.size+1,7,none⟩ (.slice o2 on2 oc2)).setCell ⟨w.heap.size+1,8,none⟩ (.int .i64 (chgX b since).lost)).setCell ⟨w.heap.size+1,9,none⟩ (.slice none 0 0))):=((((((((((HB9.out.setCell (p:=⟨w.heap.size+1,0,none⟩) (by simp) (.int .i64 0)).setCell (p:=⟨w.heap.size+1,1,none⟩) (by simp) (.int .i64 0)).setCell (p:=⟨w.heap.size+1,2,none⟩) (by simp) (.slice o0 on0 oc0)).setCell (p:=⟨w.heap.size+1,3,none⟩) (by simp) (.int .i64 (chgX b since).valid)).setCell (p:=⟨w.heap.size+1,4,none⟩) (by simp) (.int .i64 (chgX b since).next)).setCell (p:=⟨w.heap.size+1,5,none⟩) (by simp) (.int .i64 (chgX b since).seq)).setCell (p:=⟨w.heap.size+1,6,none⟩) (by simp) (.slice o1 on1 oc1)).setCell (p:=⟨w.heap.size+1,7,none⟩) (by simp) (.slice o2 on2 oc2)).setCell (p:=⟨w.heap.size+1,8,none⟩) (by simp) (.int .i64 (chgX b since).lost)).setCell (p:=⟨w.heap.size+1,9,none⟩) (by simp) (.slice none 0 0))
     have HEf:Hid (BoxE ((((((((((w9.setCell ⟨w.heap.size+1,0,none⟩ (.int .i64 0)).setCell ⟨w.heap.size+1,1,none⟩ (.int .i64 0)).setCell ⟨w.heap.size+1,2,none⟩ (.slice o0 on0 oc0)).setCell ⟨w.heap.size+1,3,none⟩ (.int .i64 (chgX b since).valid)).setCell ⟨w.heap.size+1,4,none⟩ (.int .i64 (chgX b since).next)).setCell ⟨w.heap.size+1,5,none⟩ (.int .i64 (chgX b since).seq)).setCell ⟨w.heap.size+1,6,none⟩ (.slice o1 on1 oc1)).setCell ⟨w.heap.size+1,7,none⟩ (.slice o2 on2 oc2)).setCell ⟨w.heap.size+1,8,none⟩ (.int .i64 (chgX b since).lost)).setCell ⟨w.heap.size+1,9,none⟩ (.slice none 0 0)) [.slice o0 on0 oc0,.int .i64 (chgX b since).valid,.int .i64 (chgX b since).next,.int .i64 (chgX b since).seq,.slice o1 on1 oc1,.slice o2 on2 oc2,.int .i64 (chgX b since).lost] (chgX b since) (In wr.heap.size w9.heap.size)):=(BoxE.set (g:=w.heap.size+1) (i:=9) (x:=.slice none 0 0) (BoxE.set (g:=w.heap.size+1) (i:=8) (x:=.int .i64 (chgX b since).lost) (BoxE.set (g:=w.heap.size+1) (i:=7) (x:=.slice o2 on2 oc2) (BoxE.set (g:=w.heap.size+1) (i:=6) (x:=.slice o1 on1 oc1) (BoxE.set (g:=w.heap.size+1) (i:=5) (x:=.int .i64 (chgX b since).seq) (BoxE.set (g:=w.heap.size+1) (i:=4) (x:=.int .i64 (chgX b since).next) (BoxE.set (g:=w.heap.size+1) (i:=3) (x:=.int .i64 (chgX b since).valid) (BoxE.set (g:=w.heap.size+1) (i:=2) (x:=.slice o0 on0 oc0) (BoxE.set (g:=w.heap.size+1) (i:=1) (x:=.int .i64 0) (BoxE.set (g:=w.heap.size+1) (i:=0) (x:=.int .i64 0) HEO.out (.inl (by omega))) (.inl (by omega))) (.inl (by omega))) (.inl (by omega))) (.inl (by omega))) (.inl (by omega))) (.inl (by omega))) (.inl (by omega))) (.inl (by omega))) (.inl (by omega)))
     clear KF KR9 hE B9 c0 c1 c2 c3 c4 c5 c6 y0 y1 y2 y3 y4 y5 y6 HB HKA HKR HX HE9 HEO HBX HOG HOM'
     go_wp2
     refine bodyPost_ret (v:=.agg #[.int .i64 0,.int .i64 0,.slice o0 on0 oc0,.int .i64 (chgX b since).valid,.int .i64 (chgX b since).next,.int .i64 (chgX b since).seq,.slice o1 on1 oc1,.slice o2 on2 oc2,.int .i64 (chgX b since).lost,.slice none 0 0]) (by simp [results,Tryd.results74,go_sem,f0,f1,f2,f3,f4,f5,f6,f7,f8,f9]) rfl ⟨_,rfl,?_,HBf.out⟩
     rw [HC.out]
     refine ⟨fun w' hs' hk'=>?_,_,_,_,_,_,_,_,_,_,_,rfl,.inl ⟨rfl,rfl⟩⟩
     obtain ⟨z0,z1,z2,ez,zz⟩:=(framesBox _ _ _ _ _ HEf.out fun k h1 h2=>hk' k (Nat.le_trans HBw.out h1.1) h2).rd
     simp only [List.cons.injEq,and_true,true_and] at ez
     obtain ⟨rfl,rfl,rfl⟩:=ez
     exact ⟨_,_,_,_,rfl,⟨_,_,_,rfl,zz⟩,Rd.nil _,i64c0,i64c0⟩

end Go.Proofs.YtnlhkgoppjejeaaDoor
