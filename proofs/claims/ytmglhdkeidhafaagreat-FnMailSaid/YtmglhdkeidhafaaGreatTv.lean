/- The proof's texts, part 31. -/
import Derived.Test.YtmglhdkeidhafaaGreatTq
import Derived.Test.YtmglhdkeidhafaaGreatTu
namespace Go.Proofs.YtmglhdkeidhafaaGreat
open Go.RowKit
set_option linter.unusedVariables false
set_option linter.unusedSimpArgs false
set_option maxHeartbeats 4000000
set_option maxRecDepth 100000
/- A dV comes into a box of a gP. -/
theorem aaY:(Tryz.f74.body.bind (bR 4)).all (fun o=>dW o 19 [0,1,2,3,4,5,6,7,8,9,10,11,12,13,14,15,16,17,18] [18] [18,19] 8)=true:=by kernel_rfl
/-- What a box agR of its ah: their numbers are below the next. -/
def wD (b:aA):Prop:=∀ m ∈ b.ah,m.uid < b.next
theorem RX (wt w:World) (S:Nat→Prop) (gd g n i gb cap:Nat) (a:aF) (b:aA) (u0 u1 tv:Value) (E:aU) (fl:Int) (tx:List Int) (h:aT wt w S gd g n a u0 u1 E) (hb:a.boxes[i]?=some b) (hu:u0=.slice (some ⟨gb,0,none⟩) a.boxes.length cap) (hn:n≤2000000) (hv:b.valid≤a.valid) (hnx:wD b) (hs:b.seq < 1000000) (hx:b.next < 1000000) (hfl:ay fl) (ht:Bs wt tv tx) :
  Calls Tryz.prog 74 #[.pointer (some ⟨gd,0,none⟩),.pointer (some ⟨gb,i * 7,none⟩),.int .i64 fl,tv] w fun e w'=>e=.returned (aY 0 b.next)∧Left wt w w' S gd g n u1 (aH a i (jA b fl tx)):=by
 have hil:=(gs1 hb).1
 have A1:Below w.heap.size w (w.alloc (.cells #[.int .i64 0,.int .i64 0,.slice none 0 0,.int .i64 0,.int .i64 0,.int .i64 0,.slice none 0 0,.slice none 0 0,.int .i64 0,.slice none 0 0] 37)):=bn _ _
 have HK:=ak (aW w (.cells #[.int .i64 0,.int .i64 0,.slice none 0 0,.int .i64 0,.int .i64 0,.int .i64 0,.slice none 0 0,.slice none 0 0,.int .i64 0,.slice none 0 0] 37))
 have h1:=h.below A1
 obtain ⟨dJ,cap',v0,v5,f,e1,-,-,hlb,hgs,fz,⟨-,c1,c2,c3,-⟩,-,-,-,i0,i1,i2,-⟩:=h1.read hb
 rw [hu] at e1
 simp only [Value.slice.injEq,Option.some.injEq,Addr.mk.injEq,and_true,true_and] at e1
 obtain ⟨rfl,rfl⟩:=e1
 have q1:=i1.1
 have q2:=i2.1
 have j1:ay (b.next+1):=⟨by omega,by omega⟩
 have j2:ay (b.seq+1):=⟨by omega,by omega⟩
 have hr0:w.heap.size≠gb:=by have:=(h.low gb hgs).2.1;omega
 have T1:iV w (w.alloc (.cells #[.int .i64 0,.int .i64 0,.slice none 0 0,.int .i64 0,.int .i64 0,.int .i64 0,.slice none 0 0,.slice none 0 0,.int .i64 0,.slice none 0 0] 37)) S gd g:=fZ A1
 have h2:=h1.EH hb hu j1
 have T2:=yj (v:=.int .i64 (b.next+1)) (j:=i * 7+2) h1 hu hil (fun k hk=>.inl hk) T1
 have b2:(aH a i ⟨b.name,b.valid,b.next+1,b.seq,b.ah,b.au,b.lost⟩).boxes[i]?=some ⟨b.name,b.valid,b.next+1,b.seq,b.ah,b.au,b.lost⟩:=List.getElem?_set_self hil
 have hu2:u0=.slice (some ⟨gb,0,none⟩) (aH a i ⟨b.name,b.valid,b.next+1,b.seq,b.ah,b.au,b.lost⟩).boxes.length cap:=by rw [hu];simp [aH]
 have h3:=h2.su b2 hu2 j2
 have T3:=yj (v:=.int .i64 (b.seq+1)) (j:=i * 7+3) h2 hu2 (by simpa [aH] using hil) (fun k hk=>.inl hk) T2
 have b3:(aH (aH a i ⟨b.name,b.valid,b.next+1,b.seq,b.ah,b.au,b.lost⟩) i ⟨b.name,b.valid,b.next+1,b.seq+1,b.ah,b.au,b.lost⟩).boxes[i]?=some ⟨b.name,b.valid,b.next+1,b.seq+1,b.ah,b.au,b.lost⟩:=List.getElem?_set_self (by simpa [aH] using hil)
 have K3:=ak (cO (i:=i * 7+3) (v:=.int .i64 (b.seq+1)) (cO (i:=i * 7+2) (v:=.int .i64 (b.next+1)) HK.out hr0) hr0)
 have HD:=ak h3
 have HT:=ak T3
 have HB3:=ak b3
 have HE:=ak (h.ents b (List.mem_of_getElem? hb))
 have HI:=ak (And.intro i0 (And.intro i1 (And.intro j2 hfl)))
 have RY:Hid (Bs wt tv tx):=ht
 have RZ:Hid (wD b):=hnx
 have HSL:Hid (∀ k,S k→k < w.heap.size):=fun k hk=>(h.low k hk).2.1
 have hwr:wt.heap.size≤w.heap.size:=h.base.size
 obtain ⟨ta,tn,tc,rfl⟩:=ht.aG
 clear h h1 h2 h3 T1 T2 T3 b2 b3 hu2 i1 i2 j1 j2 hgs hfl ht hnx A1 HK i0
 go_enter Tryz.func74,Tryz.ntmps74
 go_upto_region 4 with fail
 clear c1 c2 c3 fz hlb
 generalize ((w.alloc (.cells #[.int .i64 0,.int .i64 0,.slice none 0 0,.int .i64 0,.int .i64 0,.int .i64 0,.slice none 0 0,.slice none 0 0,.int .i64 0,.slice none 0 0] 37)).setCell ⟨gb,i * 7+2,none⟩ (.int .i64 (b.next+1))).setCell ⟨gb,i * 7+3,none⟩ (.int .i64 (b.seq+1))=w3 at HD HT K3 ⊢
 have DR:Below w3.heap.size w3 w3.drew:=(bd _ _)
 have h4:=HD.out.below DR
 have T4:=HT.out.trans (fZ DR) (S':=S) (fun k hk=>.inl hk)
 have K4:=aB DR K3.out
 obtain ⟨dJ,cap',yx,vJ,f',e1,-,-,hlb,-,-,⟨-,c1,-,c3,-⟩,-⟩:=h4.read HB3.out
 have gY:u0=_:=e1
 rw [hu] at gY
 simp only [Value.slice.injEq,Option.some.injEq,Addr.mk.injEq,and_true,true_and] at gY
 obtain ⟨rfl,-⟩:=gY
 have bE:=lt_of_heap h4.cells
 have R3:Hid (w3.drew.cell? ⟨gd,2,none⟩=some (.map (some g))∧w3.drew.cell? ⟨gb,i * 7+1,none⟩=some (.int .i64 b.valid)∧w3.drew.cell? ⟨gb,i * 7+3,none⟩=some (.int .i64 (b.seq+1))):=⟨(cell_of_row _ gd 2 _ _ (0,0) h4.cells).trans rfl,c1,c3⟩
 obtain ⟨w5,hrun,hM,hG⟩:=h4.map.store (md:=⟨b.next,fl,b.seq+1,tx⟩) (v:=b.valid) (u:=b.next) (by unfold maxLen;omega) HI.out.1 HI.out.2.1 ⟨.slice ta tn tc,rfl,RY.out,HI.out.2.1,HI.out.2.2.2,HI.out.2.2.1⟩
 have sP:=ak hrun
 have HD5:=ak (h4.mapped HB3.out hG hM (ms:=b.ah ++ [⟨b.next,fl,b.seq+1,tx⟩]) (HE.out.add (m:=⟨b.next,fl,b.seq+1,tx⟩) HI.out.2.1 RZ.out) (fun v ms hne he=>he.IU hne) (fun e he=>by
  rcases List.mem_append.1 he with he | he
  ·exact h4.high e (List.mem_filter.1 he).1
  ·rw [List.mem_singleton] at he;subst he;exact hv))
 have o9:=ak (Fu T4 hG)
 have K5:=ak (pI hG K4 (h4.off K4 (by decide) (by decide)).2.1)
 clear h4 T4 hrun hM hG c1 c3 e1 K4 DR HD HT K3 HE RZ RY HB3
 refine eO 18 (S:=fun w'=>w'.cell? ⟨gd,2,none⟩=some (.map (some g))∧w'.cell? ⟨gb,i * 7+1,none⟩=some (.int .i64 b.valid)∧w'.cell? ⟨gb,i * 7+3,none⟩=some (.int .i64 (b.seq+1))) (eH (by kernel_rfl) aaY) (by kernel_rfl) (R3.out) (fun aj ahz=>?_)
 refine tks 0 0 28 aj ahz ?_
 refine tks 1 1 29 aj ahz ?_
 refine tks 2 2 30 aj ahz ?_
 refine tks 3 3 31 aj ahz ?_
 refine tks 4 4 32 aj ahz ?_
 refine tks 5 5 33 aj ahz ?_
 refine tks 6 6 34 aj ahz ?_
 refine tks 7 7 35 aj ahz ?_
 refine tks 8 8 36 aj ahz ?_
 refine tks 9 9 37 aj ahz ?_
 refine tks 10 10 38 aj ahz ?_
 refine tks 11 11 39 aj ahz ?_
 refine tks 12 12 40 aj ahz ?_
 refine tks 13 13 41 aj ahz ?_
 refine tks 14 14 42 aj ahz ?_
 refine tks 15 15 43 aj ahz ?_
 refine tks 16 16 44 aj ahz ?_
 refine tks 17 17 45 aj ahz ?_
 refine gH (S':=fun w'=>True) 18 19 aj (by decide) (trivial) (fun ahz=>?_)
 refine cls 18 18 aj (by decide) rfl rfl (fun K hK=>?_)
 refine Rl _ _ _ _ rfl rfl rfl rfl rfl sP.out ?_
 refine hK.out _ _ (trivial) (fun ahz=>?_)
 clear hK K
 refine eP aj ?_
 clear sP R3 hlb bE
 have HF:=ak (HD5.out.rep K5.out (fun hS=>by have:=HSL.out _ hS;omega) (by omega) (.int .i64 0) (.int .i64 b.next) (.slice none 0 0) (.int .i64 0) (.int .i64 0) (.int .i64 0) (.slice none 0 0) (.slice none 0 0) (.int .i64 0) (.slice none 0 0))
 have fz:=(aZ K5.out).1
 have hlr:=lt_of_heap K5.out
 obtain ⟨r0,r1,r2,r3,r4,r5,r6,r7,r8,r9⟩:=aO K5.out
 go_wp2
 have ff:=aO HF.out.1
 have hfin:=HF.out.2.1
 simp only [aH,List.set_set] at hfin
 exact bodyPost_ret (v:=aY 0 b.next) (by simp [results,Tryz.results74,aY,go_sem,ff]) rfl ⟨rfl,S,_,_,_,hfin,fun k hk=>.inl hk,Cu o9.out HF.out.2.2.1 HF.out.2.2.2.1 HF.out.2.2.2.2 (Nat.le_refl _),Nat.le_refl _⟩
/- aaZ of package oU gP. -/
theorem aa0 (wt w:World) (S:Nat→Prop) (gd g n i gb cap:Nat) (a:aF) (b:aA) (u0 u1 cv:Value) (E:aU) (c:dS) (h:aT wt w S gd g n a u0 u1 E) (hb:a.boxes[i]?=some b) (hu:u0=.slice (some ⟨gb,0,none⟩) a.boxes.length cap) (hn:n≤1000000) (hv:b.valid≤a.valid) (hnx:wD b) (h12:b.ah.length≤12) (hc:iQ wt cv c.k c.bx c.tt c.uid c.mode c.fl c.si c.tx) (res:aF × dI) (hres:res=if dh b 1 then (aH a i (jA b c.fl c.tx),aN 0 b.next) else (a,aN 3 0)) :
  Calls Tryz.prog 43 #[.pointer (some ⟨gd,0,none⟩),.pointer (some ⟨gb,i * 7,none⟩),cv] w fun e w'=>∃ v,e=.returned v∧dX w' w.heap.size w'.heap.size v res.2∧Left wt w w' S gd g n u1 res.1:=by
 obtain ⟨q0,q1,q2,rfl,g0,g1,g2,i0,i1,i2,i3,i4⟩:=hc
 obtain ⟨x0,m0,z0,rfl⟩:=g0.aG
 obtain ⟨x1,m1,z1,rfl⟩:=g1.aG
 obtain ⟨x2,m2,z2,rfl⟩:=g2.aG
 obtain ⟨kC,kR,A2⟩:=iX w (.cells #[.int .i64 c.k,.slice x0 m0 z0,.slice x1 m1 z1,.int .i64 c.uid,.int .i64 c.mode,.int .i64 c.fl,.int .i64 c.si,.slice x2 m2 z2] 28) (.cells #[.int .i64 0,.int .i64 0,.slice none 0 0,.int .i64 0,.int .i64 0,.int .i64 0,.slice none 0 0,.slice none 0 0,.int .i64 0,.slice none 0 0] 37)
 have h1:=h.below A2
 obtain ⟨dJ,cap',v0,v5,f,e1,-,-,hlb,-,-,⟨-,-,c2,c3,-⟩,-,-,-,-,j1,j2,-⟩:=h1.read hb
 rw [hu] at e1
 simp only [Value.slice.injEq,Option.some.injEq,Addr.mk.injEq,and_true,true_and] at e1
 obtain ⟨rfl,rfl⟩:=e1
 have bH:=ak hres
 clear hres
 have HD:=ak h1
 have HA:=ak A2
 have bO:=ak kC
 have aQ:=ak kR
 have BI:=ak g2
 have yh:Hid (ay c.fl):=by assumption
 have HSL:Hid (∀ k,S k→k < w.heap.size):=fun k hk=>(h.low k hk).2.1
 have hw0:=h.base.size
 have hzz:w.heap.size+2≤((w.alloc (.cells #[.int .i64 c.k,.slice x0 m0 z0,.slice x1 m1 z1,.int .i64 c.uid,.int .i64 c.mode,.int .i64 c.fl,.int .i64 c.si,.slice x2 m2 z2] 28)).alloc (.cells #[.int .i64 0,.int .i64 0,.slice none 0 0,.int .i64 0,.int .i64 0,.int .i64 0,.slice none 0 0,.slice none 0 0,.int .i64 0,.slice none 0 0] 37)).heap.size:=by simp
 have HJ:=ak (And.intro j1 j2)
 clear h h1 A2 kC kR g0 g1 g2
 go_enter Tryz.func43,Tryz.ntmps43
 go_upto_region 1 with fail
 generalize (w.alloc (.cells #[.int .i64 c.k,.slice x0 m0 z0,.slice x1 m1 z1,.int .i64 c.uid,.int .i64 c.mode,.int .i64 c.fl,.int .i64 c.si,.slice x2 m2 z2] 28)).alloc (.cells #[.int .i64 0,.int .i64 0,.slice none 0 0,.int .i64 0,.int .i64 0,.int .i64 0,.slice none 0 0,.slice none 0 0,.int .i64 0,.slice none 0 0] 37)=w1 at HD HA bO aQ hlb c2 c3 hzz ⊢
 have kg:=ak (Pv gb (i * 7) b w1 c2 c3 hlb)
 clear c2 c3 hlb
 go_wp2_with fail
 refine kg.out.mono ?_
 rintro e w2 ⟨rfl,rfl⟩
 clear kg
 by_cases hcn:b.seq < 1000000∧b.next < 1000000
 ·have hB1:(decide (b.seq < 1000000) && decide (b.next < 1000000))=true:=by simp [hcn]
  have kg:=ak hcn
  rw [hB1]
  clear hB1 hcn
  have mK:=ak (IX wt _ S gd g n i gb cap a b u0 u1 E HD.out hb hu (by omega) h12)
  go_wp2_with fail
  refine mK.out.mono ?_
  rintro e w3 ⟨rfl,B3⟩
  have yA:=ak (HD.out.below B3)
  have nN:=ak (Below.step HA.out B3)
  have nO:=ak (aB B3 bO.out)
  have cK:=ak (aB B3 aQ.out)
  have hs3:=B3.size
  clear mK B3 HD HA bO aQ
  by_cases hl:b.ah.length=12
  ·have hl1:((b.ah.length:Int) == 12)=true:=by simp [hl]
   have sQ:Hid (dh b 1=false):=by show _=_;unfold dh;simp;omega
   have bJ:Hid (res=(a,aN 3 0)):=by show _=_;rw [bH.out,sQ.out];rfl
   clear hl
   have HF:=ak (oJ cK.out (.int .i64 3) (.int .i64 0) (.slice none 0 0) (.int .i64 0) (.int .i64 0) (.int .i64 0) (.slice none 0 0) (.slice none 0 0) (.int .i64 0) (.slice none 0 0))
   obtain ⟨y0,y1,y2,y3,y4,y5,y6,y7,y8,y9⟩:=aO cK.out
   have yz:=(aZ cK.out).1
   have yl:=lt_of_heap cK.out
   go_wp2
   have ff:=aO HF.out.1
   have hD:=yA.out.aside HF.out.2.1 HF.out.2.2.1 HF.out.2.2.2 (show wt.heap.size≤w.heap.size+1 by omega) (fun hS=>by have:=HSL.out _ hS;omega) (yA.out.off cK.out (by decide) (by decide))
   refine bodyPost_ret (v:=aY 3 0) (by simp [results,Tryz.results43,aY,go_sem,ff]) rfl ⟨aY 3 0,rfl,?_,?_⟩
   ·rw [bJ.out]
    exact vZ _ _ _ (c:=3) (x:=0) ⟨by decide,by decide⟩ aI (by rw [HF.out.2.1];exact nN.out.size)
   ·rw [bJ.out]
    exact ⟨S,_,_,_,hD,fun k hk=>.inl hk,fZ (sO nN.out HF.out.2.1 HF.out.2.2.1 HF.out.2.2.2 (Nat.le_succ _)),by omega⟩
  ·have hl1:((b.ah.length:Int) == 12)=false:=by simp;omega
   have sQ:Hid (dh b 1=true):=by show _=_;unfold dh;have:=kg.out;simp;omega
   have wE:=ak (RX wt w3 S gd g n i gb cap a b u0 u1 (.slice x2 m2 z2) E c.fl c.tx yA.out hb hu (by omega) hv hnx kg.out.1 kg.out.2 yh.out BI.out)
   obtain ⟨y0,y1,y2,y3,y4,y5,y6,y7⟩:=bQ nO.out
   have ylc:=lt_of_heap nO.out
   clear hl
   go_wp2_with fail
   refine wE.out.mono ?_
   rintro e w4 ⟨rfl,S',EM,n',E',hD4,zH,FI,KW⟩
   unfold aY
   have hof:=yA.out.off cK.out (by decide) (by decide)
   have fF:=ak ((FI.2.1 _ (lt_of_heap cK.out) hof.1 hof.2.1 (fun hS=>by have:=HSL.out _ hS;omega)).trans cK.out)
   have HF:=ak (oJ fF.out (.int .i64 0) (.int .i64 b.next) (.slice none 0 0) (.int .i64 0) (.int .i64 0) (.int .i64 0) (.slice none 0 0) (.slice none 0 0) (.int .i64 0) (.slice none 0 0))
   have bJ:Hid (res=(aH a i (jA b c.fl c.tx),aN 0 b.next)):=by show _=_;rw [bH.out,sQ.out];rfl
   have HLF:Hid (∀ W:World,W.heap.size=w4.heap.size→(W.os=w4.os∧W.tape=w4.tape∧W.output=w4.output)→(∀ k,k≠w.heap.size+1→W.heap[k]?=w4.heap[k]?)→Left wt w W S gd g n u1 (aH a i (jA b c.fl c.tx))):=fun W e1 e2 e3=>⟨S',EM,n',E',hD4.aside e1 e2 e3 (by omega) (fun hS=>(zH _ hS).elim (fun h=>by have:=HSL.out _ h;omega) (fun h=>by have:=lt_of_heap cK.out;omega)) (hD4.off fF.out (by decide) (by decide)),fun k hk=>(zH k hk).imp id fun h=>Nat.le_trans nN.out.size h,Cu (iV.trans (fZ nN.out) FI fun k hk=>.inl hk) e1 e2 e3 (Nat.le_succ _),KW⟩
   have hs4:=Nat.le_trans nN.out.size FI.1
   obtain ⟨t0,t1,t2,t3,t4,t5,t6,t7,t8,t9⟩:=aO fF.out
   have tz:=(aZ fF.out).1
   have tl:=lt_of_heap fF.out
   clear hD4 zH FI wE y0 y1 y2 y3 y4 y5 y6 y7 ylc hof
   go_wp2
   have ff:=aO HF.out.1
   refine bodyPost_ret (v:=aY 0 b.next) (by simp [results,Tryz.results43,aY,go_sem,ff]) rfl ⟨aY 0 b.next,rfl,?_,?_⟩
   ·rw [bJ.out]
    exact vZ _ _ _ (c:=0) (x:=b.next) aI HJ.out.1 (by rw [HF.out.2.1];exact hs4)
   ·rw [bJ.out]
    exact HLF.out _ HF.out.2.1 HF.out.2.2.1 HF.out.2.2.2
 ·have hB1:(decide (b.seq < 1000000) && decide (b.next < 1000000))=false:=by
   by_cases h1:b.seq < 1000000
   ·simp [h1];omega
   ·simp [h1]
  have sQ:Hid (dh b 1=false):=by show _=_;unfold dh;rw [← Bool.and_assoc,hB1];rfl
  rw [hB1]
  clear hB1 hcn
  have yA:=HD
  have nN:=HA
  have bJ:Hid (res=(a,aN 3 0)):=by show _=_;rw [bH.out,sQ.out];rfl
  have HF:=ak (oJ aQ.out (.int .i64 3) (.int .i64 0) (.slice none 0 0) (.int .i64 0) (.int .i64 0) (.int .i64 0) (.slice none 0 0) (.slice none 0 0) (.int .i64 0) (.slice none 0 0))
  obtain ⟨y0,y1,y2,y3,y4,y5,y6,y7,y8,y9⟩:=aO aQ.out
  have yz:=(aZ aQ.out).1
  have yl:=lt_of_heap aQ.out
  go_wp2
  have ff:=aO HF.out.1
  have hD:=yA.out.aside HF.out.2.1 HF.out.2.2.1 HF.out.2.2.2 (show wt.heap.size≤w.heap.size+1 by omega) (fun hS=>by have:=HSL.out _ hS;omega) (yA.out.off aQ.out (by decide) (by decide))
  refine bodyPost_ret (v:=aY 3 0) (by simp [results,Tryz.results43,aY,go_sem,ff]) rfl ⟨aY 3 0,rfl,?_,?_⟩
  ·rw [bJ.out]
   exact vZ _ _ _ (c:=3) (x:=0) ⟨by decide,by decide⟩ aI (by rw [HF.out.2.1];exact nN.out.size)
  ·rw [bJ.out]
   exact ⟨S,_,_,_,hD,fun k hk=>.inl hk,fZ (sO nN.out HF.out.2.1 HF.out.2.2.1 HF.out.2.2.2 (Nat.le_succ _)),by omega⟩
/- A dV goes out of a box of a gP. -/
theorem R4 {w w':World} {o:Oper} {a:Act} {K:Act→World→Prop} {Q:Exit→Act→World→Prop} (m x:Operand) (hd:o.dst=none) (ho:o.op=.call { callee:=.builtin .delete,args:=#[m,x],argTypes:=#[78,103] }) {m' x':Value} (h1:a.eval m=m') (h2:a.eval x=x') (hr:(Builtin.delete_ #[78,103] o.type #[m',x']).run Tryz.prog w=.ok (.tuple #[]) w') (k:K a w'):o.wp Tryz.prog a w K Q:=by
 unfold Oper.wp execOp
 simp only [ho,resolve,invoke,builtin,Sem.run_bind,Sem.run_pure,Result.andThen_ok,List.map_toArray,List.map_cons,List.map_nil,h1,h2,hr]
 show K (a.put o.dst _) _
 rw [hd]
 exact k
theorem aa3:(Tryz.f78.body.bind (bR 1)).all (fun o=>dW o 6 [0,1,2,3,4,5] [5] [5,6] 8)=true:=by kernel_rfl
theorem aa4:(Tryz.f78.body.bind (bR 2)).all (fun o=>dW o 17 [0,1,2,3,4,5,6,7,8,9,10,11,12,13,14,15,16] [12,13,16] [14,17] 8)=true:=by kernel_rfl
theorem aa5 {w:World} {g i j:Nat} {v:Value} (h:i≠j):(w.setCell ⟨g,i,none⟩ v).cell? ⟨g,j,none⟩=w.cell? ⟨g,j,none⟩:=by
 refine World.cell?_setCell_other _ _ _ _ ?_
 intro e
 exact h (by cases e;rfl)
/-- Where the loop stands that cuts the oldest off. -/
def Cut (wt w wr:World) (S:Nat→Prop) (gd g n i gb:Nat) (a:aF) (b:aA) (ms:List aC) (gs:List bB) (u0 u1:Value) (E:aU):Prop :=
 ∃ S' lost l,aT wt wr S' gd g n (aH a i ⟨b.name,b.valid,b.next,b.seq,ms,l,lost⟩) u0 u1 E∧(∀ k,S' k→S k∨w.heap.size≤k)∧iV w wr S gd g∧dw lost l=dw b.lost gs∧l.length≤1001
theorem R5 (wt w:World) (S:Nat→Prop) (gd g n i j gb cap:Nat) (a:aF) (b:aA) (m:aC) (u0 u1:Value) (E:aU) (h:aT wt w S gd g n a u0 u1 E) (hb:a.boxes[i]?=some b) (hu:u0=.slice (some ⟨gb,0,none⟩) a.boxes.length cap) (hm:b.ah[j]?=some m) (hgl:b.au.length≤1000) :
  Calls Tryz.prog 78 #[.pointer (some ⟨gd,0,none⟩),.pointer (some ⟨gb,i * 7,none⟩),.agg #[.int .i64 b.valid,.int .i64 m.uid]] w fun e w'=>e=.returned (.tuple #[])∧∃ S',aT wt w' S' gd g n (aH a i (aV b j)) u0 u1 (jY E b.valid m.uid)∧(∀ k,S' k→S k∨w.heap.size≤k)∧iV w w' S gd g:=by
 have hil:=(gs1 hb).1
 have A1:Below w.heap.size w ((w.alloc (.cells #[.int .i64 b.valid,.int .i64 m.uid] 103)).drew):=(bn _ _).drew
 have hk1:((w.alloc (.cells #[.int .i64 b.valid,.int .i64 m.uid] 103)).drew).heap[w.heap.size]?=some (.cells #[.int .i64 b.valid,.int .i64 m.uid] 103 (0,0)):=aW w _
 have h1:=h.below A1
 obtain ⟨_,_,_,_,_,-,-,-,-,-,-,-,-,-,-,i0,-,i2,-⟩:=h.read hb
 have hE:=h.ents b (List.mem_of_getElem? hb)
 have im:ay m.uid:=hE.i64 m (List.mem_of_getElem? hm)
 have HI:Hid (ay m.uid∧ay b.seq):=⟨im,i2⟩
 have dF:Hid (((w.alloc (.cells #[.int .i64 b.valid,.int .i64 m.uid] 103)).drew).cell? ⟨gd,2,none⟩=some (.map (some g))∧((w.alloc (.cells #[.int .i64 b.valid,.int .i64 m.uid] 103)).drew).rangeAt w.heap.size 0 [.int .i64 b.valid,.int .i64 m.uid]):=⟨(cell_of_row _ gd 2 _ _ (0,0) h1.cells).trans rfl,nk hk1⟩
 obtain ⟨w3,hrun,hM,hG⟩:=h1.map.drop i0 im 0
 have sP:=ak hrun
 have bE:=lt_of_heap h1.cells
 have HD:=ak (h1.mapped hb hG hM (ms:=b.ah.take j ++ b.ah.drop (j+1)) (hE.del hm) (fun v ms hne he=>he.Pn hne) (fun e he=>h1.high e (List.mem_filter.1 he).1))
 have HT:=ak (Fu (fZ A1 (S:=S) (gd:=gd) (g:=g)) hG)
 have HK:=ak (pI hG hk1 (h1.off hk1 (by decide) (by decide)).2.1)
 have HSL:Hid (∀ k,S k→k < w.heap.size):=fun k hk=>(h.low k hk).2.1
 have R6:Hid (aV b j=⟨b.name,b.valid,b.next,b.seq,b.ah.take j ++ b.ah.drop (j+1),(dw b.lost (b.au ++ [⟨m.uid,b.seq⟩])).2,(dw b.lost (b.au ++ [⟨m.uid,b.seq⟩])).1⟩):=by show _=_;unfold aV;rw [hm]
 have hw0:=h.base.size
 have hs3:w.heap.size < w3.heap.size:=by have:=hG.size;simp at this;omega
 clear h h1 hE im i0 i2 hrun hM hG A1 hk1 hm
 go_enter Tryz.func78,Tryz.ntmps78
 go_upto_region 1 with fail
 refine eO 5 (S:=fun w'=>w'.cell? ⟨gd,2,none⟩=some (.map (some g))∧w'.rangeAt w.heap.size 0 [.int .i64 b.valid,.int .i64 m.uid]) (eH (by kernel_rfl) aa3) (by kernel_rfl) dF.out (fun aj ahz=>?_)
 refine tks 0 0 6 aj ahz ?_
 refine tks 1 1 7 aj ahz ?_
 refine tks 2 2 8 aj ahz ?_
 refine tks 3 3 9 aj ahz ?_
 refine qp 4 4 10 103 (.tmp 5) w.heap.size 0 [.int .i64 b.valid,.int .i64 m.uid] aj ahz (fun w h=>h.2) pE ?_
 refine gH (S':=fun w'=>True) 5 6 aj (by decide) trivial (fun ahz=>?_)
 refine cls 5 5 aj (by decide) rfl rfl (fun K hK=>?_)
 refine R4 _ _ rfl rfl rfl rfl sP.out ?_
 refine hK.out _ _ trivial (fun ahz=>?_)
 clear hK K
 refine eP aj ?_
 go_upto_region 2 with fail
 clear sP dF bE
 generalize hE1:jY E b.valid m.uid=E1 at HD
 have xY:Hid (jY E b.valid m.uid=E1):=hE1
 clear hE1
 generalize b.ah.take j ++ b.ah.drop (j+1)=ms at HD R6
 have hb1:(aH a i ⟨b.name,b.valid,b.next,b.seq,ms,b.au,b.lost⟩).boxes[i]?=some ⟨b.name,b.valid,b.next,b.seq,ms,b.au,b.lost⟩:=List.getElem?_set_self hil
 have hu1:u0=.slice (some ⟨gb,0,none⟩) (aH a i ⟨b.name,b.valid,b.next,b.seq,ms,b.au,b.lost⟩).boxes.length cap:=by rw [hu];simp [aH]
 have A4:Below w3.heap.size w3 ((w3.alloc (.cells #[.int .i64 m.uid,.int .i64 b.seq] 70)).drew):=(bn _ _).drew
 have D3:Below w3.heap.size w3 w3.drew:=(bd _ _)
 obtain ⟨dJ,cap',v0,v5,f,e1,-,-,hlb,hgs,fz,⟨-,-,-,c3,-,c5,-⟩,-,q5,hf,-⟩:=HD.out.read hb1
 rw [hu1] at e1
 simp only [Value.slice.injEq,Option.some.injEq,Addr.mk.injEq,and_true,true_and] at e1
 obtain ⟨rfl,rfl⟩:=e1
 simp only at c3 c5 q5
 obtain ⟨va,vc,rfl,-⟩:=q5.1.form
 have HS2:Hid (w3.drew.cell? ⟨gb,i * 7+5,none⟩=some (.slice va b.au.length vc)∧w3.drew.cell? ⟨gb,i * 7+3,none⟩=some (.int .i64 b.seq)∧w3.drew.cell? ⟨w.heap.size,1,none⟩=some (.int .i64 m.uid)):=⟨(D3.cell (p:=⟨gb,_,none⟩) hlb).trans c5,(D3.cell (p:=⟨gb,_,none⟩) hlb).trans c3,(cell_of_row _ _ 1 _ _ (0,0) (aB D3 HK.out)).trans rfl⟩
 have yB:Hid (((w3.alloc (.cells #[.int .i64 m.uid,.int .i64 b.seq] 70)).drew).cell? ⟨gb,i * 7+5,none⟩=some (.slice va b.au.length vc)∧((w3.alloc (.cells #[.int .i64 m.uid,.int .i64 b.seq] 70)).drew).cell? ⟨gb,i * 7+3,none⟩=some (.int .i64 b.seq)∧((w3.alloc (.cells #[.int .i64 m.uid,.int .i64 b.seq] 70)).drew).cell? ⟨w.heap.size,1,none⟩=some (.int .i64 m.uid)):=⟨(A4.cell (p:=⟨gb,_,none⟩) hlb).trans c5,(A4.cell (p:=⟨gb,_,none⟩) hlb).trans c3,(cell_of_row _ _ 1 _ _ (0,0) (aB A4 HK.out)).trans rfl⟩
 have qJ:Hid (∀ k u,[Value.int .i64 m.uid,Value.int .i64 b.seq][k]?=some u→((w3.alloc (.cells #[.int .i64 m.uid,.int .i64 b.seq] 70)).drew).cell? ((⟨w3.heap.size,0,none⟩:Addr).add k)=some u):=fun k u hk=>by
  rw [Addr.add_lit,cell_of_row _ w3.heap.size (0+k) #[.int .i64 m.uid,.int .i64 b.seq] 70 (0,0) (show ((w3.alloc (.cells #[.int .i64 m.uid,.int .i64 b.seq] 70)).drew).heap[w3.heap.size]?=_ from aW w3 _)]
  simpa using hk
 have HD4:=ak (HD.out.below A4)
 have gu:=ak (HT.out.trans (fZ A4) (S':=S) (fun k hk=>.inl hk))
 have ji:=ak (aB A4 HK.out)
 have HB1:=ak hb1
 clear HD HT HK A4 D3 c3 c5 q5 hf hb1 hgs fz
 obtain ⟨dJ,cap',v0,v5,f,e1,-,-,CR,hgs,fz,⟨-,-,-,-,-,c5,-⟩,-,q5,hf,-⟩:=HD4.out.read HB1.out
 have gY:u0=_:=e1
 rw [hu1] at gY
 simp only [Value.slice.injEq,Option.some.injEq,Addr.mk.injEq,and_true,true_and] at gY
 obtain ⟨rfl,-⟩:=gY
 rw [yB.out.1] at c5
 obtain rfl:=Option.some.inj c5
 have CS:=ak q5
 have FJ:=ak hf
 have H5:Hid (∀ V w5,xL ((w3.alloc (.cells #[.int .i64 m.uid,.int .i64 b.seq] 70)).drew) w5 (.slice va b.au.length vc) V b.au m.uid b.seq→(w5.cell? ⟨gb,i * 7+5,none⟩=some (.slice va b.au.length vc)∧w5.cell? ⟨gb,i * 7+3,none⟩=some (.int .i64 b.seq)∧w5.cell? ⟨w.heap.size,1,none⟩=some (.int .i64 m.uid))∧(∃ oa on oc,V=.slice oa on oc)∧(∀ k,w5.frozen? ⟨gb,k,none⟩=false)∧gb < w5.heap.size∧Cut wt w (w5.setCell ⟨gb,i * 7+5,none⟩ V) S gd g n i gb a b ms (b.au ++ [⟨m.uid,b.seq⟩]) u0 u1 E1):=fun V w5 hG=>by
  obtain ⟨f',g1,g2,-,g4⟩:=Pt hG HI.out.1 HI.out.2 CS.out
  obtain ⟨g5,g6⟩:=XF hG CS.out (B:=wt.heap.size) (fun k hk=>(HD4.out.low k (FJ.out k hk).1).1) HD4.out.base HD4.out.base.size
  obtain ⟨S5,d1,d2⟩:=HD4.out.au HB1.out hu1 (v:=V) yB.out.1 (fun f h=>Pt hG HI.out.1 HI.out.2 h) g6 g5
  obtain ⟨gx,cx,aa6,-,-,ex,-,-,hhx,-,Cc,-⟩:=HD4.out.box HB1.out
  rw [hu1] at ex
  simp only [Value.slice.injEq,Option.some.injEq,Addr.mk.injEq,and_true,true_and] at ex
  obtain ⟨rfl,-⟩:=ex
  have kb:=(g4 gb CR fun hh=>(FJ.out gb hh.1).2 rfl).trans hhx
  have kk:=(g4 w.heap.size (lt_of_heap ji.out) fun hh=>by obtain ⟨-,h2⟩:=hh;exact dO ji.out h2 (by decide)).trans ji.out
  have cc:∀ k,w5.cell? ⟨gb,k,none⟩=((w3.alloc (.cells #[.int .i64 m.uid,.int .i64 b.seq] 70)).drew).cell? ⟨gb,k,none⟩:=fun k=>(cell_of_row _ gb k _ _ (0,0) kb).trans (cell_of_row _ gb k _ _ (0,0) hhx).symm
  refine ⟨⟨(cc _).trans yB.out.1,(cc _).trans yB.out.2.1,(cell_of_row _ _ 1 _ _ (0,0) kk).trans rfl⟩,?_,fun k=>frozen_of_row _ gb k _ _ kb,lt_of_heap kb,S5,b.lost,b.au ++ [⟨m.uid,b.seq⟩],?_,fun k hk=>(d2 k hk).elim .inl fun h=>.inr (by have:=gu.out.1;omega),?_,rfl,by simp;omega⟩
  ·obtain ⟨a',c',e',-⟩:=g1.1.form
   exact ⟨_,_,_,e'⟩
  ·simp only [aH,List.set_set] at d1
   exact d1
  ·refine ⟨by rw [bf];exact Nat.le_trans gu.out.1 g6,fun k h1 h2 h3 h4=>(Below.heap_setCell _ _ _ _ fun e=>?_).trans ((g4 k (Nat.lt_of_lt_of_le h1 gu.out.1) fun hh=>h4 (FJ.out k hh.1).1).trans (gu.out.2.1 k h1 h2 h3 h4)),?_⟩
   ·exact h4 ((show k=gb from e) ▸ Cc)
   ·obtain ⟨o1,o2,o3⟩:=gu.out.2.2
    rcases hG with ⟨q,off,mm,c,-,-,-,-,rfl⟩ | ⟨hb5,-⟩
    ·exact ⟨o1,o2,o3⟩
    ·exact ⟨hb5.os.trans o1,hb5.tape.trans o2,hb5.output.trans o3⟩
 clear q5 hf e1 c5 fz hgs hlb HSL
 refine eO 14 (S:=fun w'=>w'.cell? ⟨gb,i * 7+5,none⟩=some (.slice va b.au.length vc)∧w'.cell? ⟨gb,i * 7+3,none⟩=some (.int .i64 b.seq)∧w'.cell? ⟨w.heap.size,1,none⟩=some (.int .i64 m.uid)) (eH (by kernel_rfl) aa4) (by kernel_rfl) HS2.out (fun aj ahz=>?_)
 refine tks 0 0 11 aj ahz ?_
 refine tks 1 1 12 aj ahz ?_
 refine tks 2 2 13 aj ahz ?_
 refine tks 3 3 14 aj ahz ?_
 refine tks 4 4 15 aj ahz ?_
 refine tks 5 5 16 aj ahz ?_
 refine tks 6 6 17 aj ahz ?_
 refine tks 7 7 18 aj ahz ?_
 refine tks 8 8 19 aj ahz ?_
 refine tks 9 9 20 aj ahz ?_
 refine tks 10 10 21 aj ahz ?_
 refine tks 11 11 22 aj ahz ?_
 refine cls 12 12 aj (by decide) rfl rfl (fun K hK=>?_)
 go_simp
 refine hK.out _ _ yB.out (fun ahz=>?_)
 clear hK K HS2
 generalize (w3.alloc (.cells #[.int .i64 m.uid,.int .i64 b.seq] 70)).drew=w4 at HD4 gu yB qJ ji CS H5 CR ahz ⊢
 refine cls 13 13 aj (by decide) rfl rfl (fun K hK=>?_)
 refine dR (by kernel_rfl) (Pj 24 rfl (.tmp 15) (.tmp 23) rfl CS.out (by omega) rfl ⟨w3.heap.size,0,none⟩ 1 rfl (x0:=m.uid) (x1:=b.seq) qJ.out HI.out.1 HI.out.2 ?_)
 intro V w5 hG
 have HP:=ak hG
 refine hK.out _ _ (H5.out V w5 hG).1 (fun ahz=>?_)
 clear hK K hG
 obtain ⟨⟨oa,on,oc,hV⟩,fz5,hl5,c5⟩:=(H5.out V w5 HP.out).2
 subst hV
 refine gH (S':=fun w'=>True) 14 17 aj (by decide) trivial (fun ahz=>?_)
 refine tks 14 14 25 aj ahz ?_
 refine tks 15 15 26 aj ahz ?_
 refine cls 16 16 aj (by decide) rfl rfl (fun K hK=>?_)
 go_simp
 refine hK.out _ _ trivial (fun ahz=>?_)
 clear hK K
 refine eP aj ?_
 go_wp2
 have KY:=ak (H5.out _ _ HP.out).2.2.2.2
 clear H5 HP CS FJ HD4 gu yB qJ ji HB1 fz5 hl5 c5 CR
 generalize w5.setCell ⟨gb,i * 7+5,none⟩ (.slice oa on oc)=w6 at KY ⊢
 go_loopw [] (fun wr=>Hid (Cut wt w wr S gd g n i gb a b ms (b.au ++ [⟨m.uid,b.seq⟩]) u0 u1 E1)) (fun wr=>oo wr gb (i * 7))
 case atStart=>exact KY.out
 case round =>
  obtain ⟨S',lost,l,hD,hS',hT,htr,hll⟩:=hrel.out
  clear KY hrel
  have HD:=ak hD
  have HT:=ak hT
  have hbl:(aH a i ⟨b.name,b.valid,b.next,b.seq,ms,l,lost⟩).boxes[i]?=some ⟨b.name,b.valid,b.next,b.seq,ms,l,lost⟩:=List.getElem?_set_self hil
  have KZ:u0=.slice (some ⟨gb,0,none⟩) (aH a i ⟨b.name,b.valid,b.next,b.seq,ms,l,lost⟩).boxes.length cap:=by rw [hu];simp [aH]
  obtain ⟨dJ,cap',v0,v5,f,e1,-,-,hlb,hgs,fz,⟨-,-,-,-,-,c5,c6⟩,-,q5,hf,-⟩:=hD.read hbl
  rw [KZ] at e1
  simp only [Value.slice.injEq,Option.some.injEq,Addr.mk.injEq,and_true,true_and] at e1
  obtain ⟨rfl,rfl⟩:=e1
  simp only at c5 c6 q5
  obtain ⟨va,vc,rfl,-⟩:=q5.1.form
  have xZ:Hid (oo wr gb (i * 7)=l.length):=by show oo _ _ _=_;unfold oo;rw [c5]
  have R7:=ak hbl
  have Cr:=ak htr
  have xR:Hid (∀ k,S' k→S k∨w.heap.size≤k):=hS'
  clear hD hT htr hbl hS'
  by_cases hlt:40 < l.length
  ·obtain ⟨x,hx⟩:∃ x,l[0]?=some x:=⟨l[0],aL (by omega)⟩
   obtain ⟨q,off,cp,hv',hlq,-,y1,-,j1⟩:=dD.cell q5.1 0 x hx
   simp only [Value.slice.injEq,true_and] at hv'
   obtain ⟨rfl,rfl⟩:=hv'
   simp only [Nat.zero_mul,Nat.add_zero] at y1
   have hlt':(40:Int) < l.length:=by omega
   have hne:gb≠q:=fun e=>by
    obtain ⟨h1,-⟩:=q5.2 ⟨q,off,none⟩ _ _ rfl
    exact (hf q h1).2 e.symm
   have hD1:=HD.out.EI R7.out KZ j1
   have hT1:=yj (v:=.int .i64 x.seq) (j:=i * 7+6) HD.out KZ (by simpa [aH] using hil) xR.out HT.out
   have hb1:(aH (aH a i ⟨b.name,b.valid,b.next,b.seq,ms,l,lost⟩) i ⟨b.name,b.valid,b.next,b.seq,ms,l,x.seq⟩).boxes[i]?=some ⟨b.name,b.valid,b.next,b.seq,ms,l,x.seq⟩:=List.getElem?_set_self (by simpa [aH] using hil)
   have FK:u0=.slice (some ⟨gb,0,none⟩) (aH (aH a i ⟨b.name,b.valid,b.next,b.seq,ms,l,lost⟩) i ⟨b.name,b.valid,b.next,b.seq,ms,l,x.seq⟩).boxes.length cap:=by rw [hu];simp [aH]
   have hcx:(wr.setCell ⟨gb,i * 7+6,none⟩ (.int .i64 x.seq)).cell? ⟨gb,i * 7+5,none⟩=some (.slice (some ⟨q,off,none⟩) l.length vc):=by rw [aa5 (by omega)];exact c5
   obtain ⟨S2,hD2,hS2⟩:=hD1.au hb1 FK (w':=wr.setCell ⟨gb,i * 7+6,none⟩ (.int .i64 x.seq)) (v:=.slice (some ⟨q,off+1 * 2,none⟩) (l.length - 1) (vc - 1)) (gs:=l.drop 1) hcx (fun f h=>⟨f,Pg h (by omega),fun k hk=>.inl hk,fun k hk=>hk,fun k _ _=>rfl⟩) (Nat.le_refl _) hD1.base
   have R8:=yj (v:=.slice (some ⟨q,off+1 * 2,none⟩) (l.length - 1) (vc - 1)) (j:=i * 7+5) hD1 FK (by simpa [aH] using hil) xR.out hT1
   have HN:Hid (Cut wt w ((wr.setCell ⟨gb,i * 7+6,none⟩ (.int .i64 x.seq)).setCell ⟨gb,i * 7+5,none⟩ (.slice (some ⟨q,off+1 * 2,none⟩) (l.length - 1) (vc - 1))) S gd g n i gb a b ms (b.au ++ [⟨m.uid,b.seq⟩]) u0 u1 E1∧oo ((wr.setCell ⟨gb,i * 7+6,none⟩ (.int .i64 x.seq)).setCell ⟨gb,i * 7+5,none⟩ (.slice (some ⟨q,off+1 * 2,none⟩) (l.length - 1) (vc - 1))) gb (i * 7)=l.length - 1):=by
    refine ⟨⟨S2,x.seq,l.drop 1,?_,fun k hk=>(hS2 k hk).elim (xR.out k) fun h=>.inr (by rw [bf] at h;have:=HT.out.1;omega),R8,?_,by simp;omega⟩,?_⟩
    ·simp only [aH,List.set_set] at hD2
     exact hD2
    ·rw [← Cr.out]
     exact (O6 (i:=0) hx (by omega)).symm
    ·unfold oo
     obtain ⟨gx,cx,aa6,-,-,ex,-,-,hhx,hsx,-⟩:=hD1.box hb1
     rw [FK] at ex
     simp only [Value.slice.injEq,Option.some.injEq,Addr.mk.injEq,and_true,true_and] at ex
     obtain ⟨rfl,-⟩:=ex
     rw [cell_of_row _ gb _ _ _ (0,0) (aJ hhx),Array.getElem?_setIfInBounds_self_of_lt (by omega)]
   have hvc:l.length≤vc∧vc≤maxLen:=by obtain ⟨_,_,_,e,k1,k2,-⟩:=q5.1;cases e;exact ⟨k1,k2⟩
   have agS:1≤vc:=by omega
   have agT:¬ vc=1:=by omega
   have hl1:1≤l.length:=by omega
   clear hD1 hD2 hT1 R8 hb1 FK hS2 hcx q5 HD HT R7 Cr xR hx hf hvc
   go_wp2
   go_roundw
   case rel=>exact HN.out.1
   case measure=>rw [HN.out.2,xZ.out];omega
  ·have hlt':¬ (40:Int) < l.length:=by omega
   go_wp2
   go_end0
   refine ⟨rfl,S',?_,xR.out,HT.out⟩
   have:=Cr.out
   rw [O5 (by omega)] at this
   rw [R6.out,← this,xY.out,← hu]
   exact HD.out
/- find of package oU gP, agU, OG. -/
/-- A box at the gP, without its ah. -/
def wF (b:aA):aA:=⟨b.name,b.valid,b.next,b.seq,[],b.au,b.lost⟩
theorem aa9 {w:World} {c:List Value} {b:aA} {f:Nat→Prop} (h:pV w c b f):wX w c (wF b) :=
 let ⟨u0,u2,e,h1,h2,r⟩:=h;⟨u0,.slice none 0 0,u2,e,h1.bs,Rd.nil _,h2.1,r⟩
theorem oC.v {w:World} {S:Nat→Prop} {v:Value} {l:List aA} (h:oC w S v l):gJ w v (l.map wF):=by
 obtain ⟨a,cap,cs,hv,h1,h2,h3,h4,h5⟩:=Ow.rd (RE:=fun w c b=>wX w c (wF b)) (fun w c b f h=>aa9 h) h
 refine ⟨a,cap,cs,by rw [List.length_map];exact hv,by rw [List.length_map];exact h1,h2,h3,fun i x hx=>?_,by rw [List.length_map];exact h5⟩
 rw [List.getElem?_map] at hx
 cases hy:l[i]? with
 | none=>rw [hy] at hx;cases hx
 | some y =>
  rw [hy] at hx
  cases hx
  exact h4 i y hy
theorem abb (u nv:Value) (x:aA) (nm:List Int) (bg:Nat) (w:World) (hu:bI w u x) (hn:Bs w nv nm) (hk:w.cell? ⟨bg,0,none⟩=some nv) (hl:bg < w.heap.size) :
  Calls Tryz.prog 68 #[u,.pointer (some ⟨bg,0,none⟩)] w fun e w'=>e=.returned (.bool (decide (x.name=nm)))∧Below w.heap.size w w':=by
 obtain ⟨u0,u1,u2,rfl,g0,g1,g2,-⟩:=hu
 obtain ⟨a0,n0,c0,rfl⟩:=g0.aG
 obtain ⟨a1,c1,rfl,-⟩:=g1.form
 obtain ⟨a2,c2,rfl,-⟩:=g2.form
 obtain ⟨an,nn,cn,rfl⟩:=hn.aG
 have B:=(Below.refl w.heap.size w).alloc (Nat.le_refl _) (.cells #[.slice a0 n0 c0,.int .i64 x.valid,.int .i64 x.next,.int .i64 x.seq,.slice a1 x.ah.length c1,.slice a2 x.au.length c2,.int .i64 x.lost] 34)
 have HC:=ak (VK _ _ _ _ _ (g0.below B) (hn.below B))
 have HB:=ak B
 clear g0 g1 g2 hn B
 go_enter Tryz.func68,Tryz.ntmps68
 go_wp2_with (go_at_call 69;refine HC.out.mono ?_;rintro e w1 ⟨rfl,rfl⟩)
 go_ret
 exact ⟨rfl,HB.out⟩
theorem findIdx_map {l:List aA} {nm:List Int}:(l.map wF).findIdx? (fun x=>decide (x.name=nm))=l.findIdx? (fun x=>decide (x.name=nm)):=by
 rw [List.findIdx?_map]
 rfl
theorem K9 (wt w:World) (S:Nat→Prop) (gd g n:Nat) (a:aF) (u0 u1 nv:Value) (E:aU) (nm:List Int) (h:aT wt w S gd g n a u0 u1 E) (hn:Bs w nv nm) :
  Calls Tryz.prog 41 #[.pointer (some ⟨gd,0,none⟩),nv] w fun e w'=>∃ p,e=.returned (.pointer p)∧Below w.heap.size w w'∧((p=none∧a.boxes.findIdx? (fun x=>decide (x.name=nm))=none)∨∃ k b gb cap,p=some ⟨gb,k * 7,none⟩∧a.boxes.findIdx? (fun x=>decide (x.name=nm))=some k∧a.boxes[k]?=some b∧u0=.slice (some ⟨gb,0,none⟩) a.boxes.length cap):=by
 have A1:Below w.heap.size w (w.alloc (.cells #[nv] 22)):=bn _ _
 have hk:=aW w (.cells #[nv] 22)
 have h1:=h.below A1
 have d1:(w.alloc (.cells #[nv] 22)).cell? ⟨gd,1,none⟩=some u0:=(cell_of_row _ gd 1 _ _ (0,0) h1.cells).trans rfl
 have bE:=lt_of_heap h1.cells
 have HC:=ak (Iw 68 #[.pointer (some ⟨w.heap.size,0,none⟩)] (fun x=>decide (x.name=nm)) u0 _ _ h1.boxes.v (fun args w=>by kernel_rfl) (fun wi x u hb hu=>abb u nv x nm w.heap.size wi hu (hn.below (Below.step A1 hb)) ((cell_of_row _ _ 0 _ _ (0,0) (aB hb hk)).trans rfl) (lt_of_heap (aB hb hk))))
 have HA:=ak A1
 have HD:=ak h1
 obtain ⟨na,nn,nc,rfl⟩:=hn.aG
 obtain ⟨va,vc,rfl,hm1,hm2⟩:∃ va vc,u0=.slice va a.boxes.length vc∧a.boxes.length≤vc∧vc≤maxLen:=by
  obtain ⟨x,y,e,k1,k2⟩:=h1.boxes.v.form
  rw [List.length_map] at e k1
  exact ⟨x,y,e,k1,k2⟩
 clear hn h h1 A1 hk
 go_enter Tryz.func41,Tryz.ntmps41
 go_wp2_with fail
 refine HC.out.mono ?_
 rintro e w1 ⟨rfl,B1⟩
 have HD1:=ak (HD.out.below B1)
 have HB1:=ak (Below.step HA.out B1)
 have d1':=(B1.cell (p:=⟨gd,1,none⟩) bE).trans d1
 have R9:gd < w1.heap.size:=Nat.lt_of_lt_of_le bE B1.size
 clear HC HD HA d1 bE B1
 unfold bC
 rw [findIdx_map]
 cases hf:a.boxes.findIdx? (fun x=>decide (x.name=nm)) with
 | none =>
  have HF:=ak hf
  clear hf
  go_wp2
  go_ret
  exact ⟨none,rfl,HB1.out,.inl ⟨rfl,HF.out⟩⟩
 | some k =>
  have HF:=ak hf
  obtain ⟨hkl,-⟩:=List.findIdx?_eq_some_iff_getElem.1 hf
  obtain ⟨gb,cap,v0,v5,f,e1,-,-,-⟩:=HD1.out.read (aL hkl)
  simp only [Value.slice.injEq,true_and] at e1
  obtain ⟨rfl,rfl⟩:=e1
  have hki:¬ (k:Int) < 0:=by omega
  have agV:(k:Int) < a.boxes.length:=by omega
  clear hf
  go_wp2
  go_ret
  exact ⟨some ⟨gb,k * 7,none⟩,by simp,HB1.out,.inr ⟨k,_,gb,vc,rfl,HF.out,aL hkl,rfl⟩⟩
theorem abd (v:Value) (l:List bB) (q:Int) (w:World) (hv:dD w v l) (hl:l.length≤1000) :
  Calls Tryz.prog 81 #[v,.int .i64 q] w fun e w'=>∃ u,e=.returned u∧iY w' (In w.heap.size w'.heap.size) u (l.filter fun x=>decide (q < x.seq))∧Below w.heap.size w w':=by
 have HV:Hid (∀ wi,Below w.heap.size w wi→dD wi v l):=fun wi h=>hv.below gU h
 obtain ⟨a,cap,rfl,hlc,hcm⟩:=hv.form
 obtain ⟨z0,hi,hz0,hz1,hz2⟩:=info_parts yS
 clear hv
 go_enter Tryz.func81,Tryz.ntmps81
 go_wp2
 go_loopw [5,10] (fun lv i wr=>∃ (k:Nat) (va:Option Addr) (vn vc:Nat),k≤l.length∧i=.int .i64 k∧lv=.slice va vn vc∧Hid (Below w.heap.size w wr)∧w.heap.size≤wr.heap.size∧Hid (iY wr (In w.heap.size wr.heap.size) (.slice va vn vc) ((l.take k).filter fun x=>decide (q < x.seq)))) (fun _ i _=>l.length - (intOf i).toNat)
 case atStart=>exact ⟨0,none,0,0,Nat.zero_le _,rfl,rfl,Below.refl _ _,Nat.le_refl _,.inl ⟨rfl,by simp⟩⟩
 case round =>
  obtain ⟨k,va,vn,vc,hk,rfl,rfl,hB,hS,hO⟩:=hrel
  by_cases hlt:k < l.length
  ·obtain ⟨x,hx⟩:∃ x,l[k]?=some x:=⟨l[k],aL hlt⟩
   obtain ⟨b,off,cp,hv',hlb,e0,e1,j0,j1⟩:=dD.cell (HV.out wr hB.out) k x hx
   simp only [Value.slice.injEq,true_and] at hv'
   obtain ⟨rfl,rfl⟩:=hv'
   have hki:(k:Int) < l.length:=by omega
   have HX:=ak hx
   have AB:Below wr.heap.size wr (wr.alloc (.cells #[.int .i64 x.uid,.int .i64 x.seq] 70)):=bn _ _
   have gK:=ak AB
   have HJ:=ak (And.intro j0 j1)
   have Bd:Hid (((l.take k).filter fun x=>decide (q < x.seq)).length≤1000):=Nat.le_trans (List.length_filter_le _ _) (by simp;omega)
   clear hx AB j0 j1
   by_cases hq:q < x.seq
   ·have HQ:=ak hq
    have AP:Below wr.heap.size wr ((wr.alloc (.cells #[.int .i64 x.uid,.int .i64 x.seq] 70)).alloc (.cells #[.int .i64 x.uid,.int .i64 x.seq] 70)):=gK.out.alloc (by simp) _
    have mY:=ak (Ow.below nT hO.out AP)
    have Sc:=ak AP
    have hMs:=AP.size
    have hone:∀ u ∈ [Value.int .i64 x.uid,Value.int .i64 x.seq],u.oneCell'=true:=by simp [Value.oneCell']
    have hp1:((l.take k).filter fun x=>decide (q < x.seq)).length+1≤maxLen:=by have:=Bd.out;unfold maxLen;omega
    have hp2:(((l.take k).filter fun x=>decide (q < x.seq)).length+1) * 16≤140737488355328:=by have:=Bd.out;omega
    clear AP
    go_wp2_with (at_builtin;refine yR rfl (.tmp 18) (.tmp 20) rfl nT (B:=w.heap.size) (M:=wr.heap.size) mY.out hMs hS Tryz.underlying32 hi hz0 hz1 hz2 rfl (by omega) rfl x [.int .i64 x.uid,.int .i64 x.seq] rfl ⟨rfl,HJ.out⟩ ⟨wr.heap.size+1,0,none⟩ 1 rfl (by have:=kH (wr.alloc (.cells #[.int .i64 x.uid,.int .i64 x.seq] 70)) #[.int .i64 x.uid,.int .i64 x.seq] 70;simpa using this) hone hp1 hp2 ?_)
    intro vI w4 hO4 hG4 pQ
    have nC:Hid (iY w4 (In w.heap.size w4.heap.size) vI ((l.take (k+1)).filter fun x=>decide (q < x.seq))):=by
     rw [OM HX.out (by simpa using HQ.out)]
     exact hO4
    obtain ⟨Bj,Bl,Bn,rfl⟩:∃ a n c,vI=.slice a n c:=by
     rcases hO4 with ⟨h,-⟩ | ⟨_,_,_,_,_,h,-⟩
     ·exact ⟨_,_,_,h⟩
     ·exact ⟨_,_,_,h⟩
    have hge:∀ j,(Value.slice va vn vc).ownBlock=some j→w.heap.size≤j:=fun j hj=>(pQ j hj).1
    have gL:Hid (Below w.heap.size w w4):=rD (Below.step hB.out Sc.out) hG4 hge (Nat.le_refl _) (by omega)
    have hs4:w.heap.size≤w4.heap.size:=gL.out.size
    clear hO4 hG4 pQ hge mY Sc hMs hO hB e0 e1 hlb
    go_wp2
    go_roundw
    case rel=>exact ⟨k+1,Bj,Bl,Bn,by omega,by simp,rfl,gL.out,hs4,nC.out⟩
    case measure=>simp [intOf];omega
   ·have Iu:Hid (iY (wr.alloc (.cells #[.int .i64 x.uid,.int .i64 x.seq] 70)) (In w.heap.size (wr.alloc (.cells #[.int .i64 x.uid,.int .i64 x.seq] 70)).heap.size) (.slice va vn vc) ((l.take (k+1)).filter fun x=>decide (q < x.seq))):=by
     rw [OP HX.out (by simpa using hq)]
     exact Ow.mono (Ow.below nT hO.out gK.out) fun b hb=>⟨hb.1,by have:=hb.2;simp;omega⟩
    go_wp2
    go_roundw
    case rel=>exact ⟨k+1,va,vn,vc,by omega,by simp,rfl,Below.step hB.out gK.out,by simp;omega,Iu.out⟩
    case measure=>simp [intOf];omega
  ·obtain rfl:k=l.length:=by omega
   go_wp2
   go_ret
   refine ⟨_,rfl,?_,hB.out⟩
   have:=hO.out
   rw [List.take_length] at this
   exact this
/- A gP that gets another list of boxes; agW closure. -/
theorem aT.CU {wt w w':World} {S S':Nat→Prop} {gd g n:Nat} {a:aF} {u0 u1 u2:Value} {E:aU} {v:Int} {l:List aA} (h:aT wt w S gd g n a u0 u1 E) (hb:Below wt.heap.size wt w') (hsz:w.heap.size≤w'.heap.size) (hc:w'.heap[gd]?=some (.cells #[.int .i64 v,u2,.map (some g),u1] 80 (0,0))) (hB:oC w' S' u2 l) (hg:w'.heap[g]?=w.heap[g]?) (hu:∀ k,u1.ownBlock=some k→k < w.heap.size→w'.heap[k]?=w.heap[k]?) (hS:∀ k,S' k→S k∨(w.heap.size≤k∧k < w'.heap.size)) (he:∀ b ∈ l,dG E b.valid b.ah) (hh:∀ e ∈ E,e.1≤v) (hd:l.Pairwise (fun x y=>x.valid≠y.valid)) (hv:ay v):aT wt w' S' gd g n ⟨v,l,a.seen⟩ u2 u1 E where
 base:=hb
 cells:=hc
 boxes:=hB
 map:=h.map.kept hg
 seen:=by
  rcases h.seen with h' | ⟨gs,cp,cu,cs,fs,hv,hh,h1,h2,h3,h4,h5,h6,h7⟩
  ·exact .inl h'
  ·refine .inr ⟨gs,cp,cu,cs,fs,hv,(hu gs (by rw [hv];rfl) (lt_of_heap hh)).trans hh,h1,h2,h3,h4,fun j x hx=>?_,h6,h7⟩
   exact h5 j x hx
 ents:=he
 high:=hh
 dist:=hd
 low:=fun k hk=>by
  rcases hS k hk with hs | ⟨h1,h2⟩
  ·obtain ⟨q1,q2,q3⟩:=h.low k hs
   exact ⟨q1,Nat.lt_of_lt_of_le q2 hsz,q3⟩
  ·have q1:=lt_of_heap h.cells
   have q2:=h.map.lt
   have q3:=h.base.size
   refine ⟨by omega,h2,by omega,by omega,fun e=>?_⟩
   rcases xO h.seen with ⟨e',-⟩ | ⟨gs,e',_,_,ht⟩
   ·rw [e'] at e;simp [Value.ownBlock] at e
   ·rw [e'] at e
    cases e
    have:=lt_of_heap ht
    omega
 nH:=h.nH
 i64:=hv
theorem abe {α:Type} {p q:α→Bool} {l:List α} (h:∀ t ∈ l,p t=q t):l.findIdx? p=l.findIdx? q:=by
 induction l with
 | nil=>rfl
 | cons x l ih =>
  rw [List.findIdx?_cons,List.findIdx?_cons,h x (List.mem_cons_self ..),ih fun t ht=>h t (List.mem_cons_of_mem _ ht)]
theorem Sd (a0 a1 a2:Option Addr) (n0 c0 n1 c1 n2 c2 bv:Nat) (vd nx sq ls v:Int) (w:World) (hk:w.heap[bv]?=some (.cells #[.int .i64 v] 3 (0,0))) :
  Calls Tryz.prog 72 #[.agg #[.slice a0 n0 c0,.int .i64 vd,.int .i64 nx,.int .i64 sq,.slice a1 n1 c1,.slice a2 n2 c2,.int .i64 ls],.pointer (some ⟨bv,0,none⟩)] w fun e w'=>e=.returned (.bool (vd == v))∧Below w.heap.size w w':=by
 have B:=(Below.refl w.heap.size w).alloc (Nat.le_refl _) (.cells #[.slice a0 n0 c0,.int .i64 vd,.int .i64 nx,.int .i64 sq,.slice a1 n1 c1,.slice a2 n2 c2,.int .i64 ls] 34)
 have k0:=(cell_of_row _ _ 0 _ _ (0,0) (aB B hk)).trans rfl
 have hl:=lt_of_heap (aB B hk)
 have HB:=ak B
 clear B hk
 go_enter Tryz.func72,Tryz.ntmps72
 go_wp2
 go_ret
 exact ⟨rfl,HB.out⟩
theorem Sg:∀ args w,(callFunc 72 args).run Tryz.prog w=.ok (.enter 72 args) w:=fun args w=>by kernel_rfl
/-- The box with this Valid is cut out of a rY row. -/
theorem abf (w:World) (S:Nat→Prop) (u0:Value) (l:List aA) (v:Int) (bv:Nat) (h:oC w S u0 l) (hne:l≠[]) (hS:∀ k,S k→k < w.heap.size) (hk:w.heap[bv]?=some (.cells #[.int .i64 v] 3 (0,0))) (Kw:¬ S bv) :
  ∃ gb cap,u0=.slice (some ⟨gb,0,none⟩) l.length cap∧S gb∧Calls Tryz.prog 71 #[u0,.func (.func 72) #[] #[.pointer (some ⟨bv,0,none⟩)]] w fun e w'=>e=.returned (.slice (some ⟨gb,0,none⟩) (l.filter fun x=>!(x.valid == v)).length cap)∧oC w' S (.slice (some ⟨gb,0,none⟩) (l.filter fun x=>!(x.valid == v)).length cap) (l.filter fun x=>!(x.valid == v))∧w.grownBy w' (some gb):=by
 obtain ⟨gb,cap,ts,rfl,hR,rfl⟩:=h.RS hne
 have abg:bv≠gb:=fun e=>Kw (e ▸ hR.own)
 have hkeep:∀ wi,w.grownBy wi (some gb)→wi.heap[bv]?=some (.cells #[.int .i64 v] 3 (0,0)):=fun wi hw=>(hw.block bv (lt_of_heap hk) (fun e=>abg (Option.some.inj e))).trans hk
 have hi:=Iw 72 #[.pointer (some ⟨bv,0,none⟩)] (fun x=>x.valid == v) _ _ w h.v Sg (fun wi x u hb hu=>by
  obtain ⟨u0,u1,u2,rfl,g0,g1,g2,-⟩:=hu
  obtain ⟨a0,n0,c0,rfl⟩:=g0.aG
  obtain ⟨a1,c1,rfl,-⟩:=g1.form
  obtain ⟨a2,c2,rfl,-⟩:=g2.form
  exact Sd _ _ _ _ _ _ _ _ _ bv _ _ _ _ v wi (aB hb hk))
 have hfi:bC (fun x:aA=>x.valid == v) ((ts.map fun t=>t.2.1).map wF)=bC (fun y:rZ=>y.vd == v) (ts.map fun t=>t.1):=by
  unfold bC
  rw [List.findIdx?_map,List.findIdx?_map,List.findIdx?_map,abe (q:=(fun y:rZ=>y.vd == v) ∘ fun t:Tr=>t.1) fun t ht=>?_]
  show (t.2.1.valid == v)=(t.1.vd == v)
  rw [(hR.el t ht).2.1]
 rw [hfi] at hi
 have hlen:(ts.map fun t=>t.2.1).length=(ts.map fun t=>t.1).length:=by simp
 rw [hlen] at hi
 have hrow:bP 34 7 fK w gb cap [] (ts.map fun t=>t.1) 0:=by
  obtain ⟨cur,k1,k2,k3,-⟩:=hR.row
  exact ⟨cur,k1,k2,fun i x hx=>by simp at hx,fun i x _ hx=>k3 i x hx⟩
 have hdel:=Xl 72 #[.pointer (some ⟨bv,0,none⟩)] (fun y:rZ=>y.vd == v) (some ⟨gb,0,none⟩) gb cap (ts.map fun t=>t.1) w (fun _=>⟨rfl,hrow⟩) (by rw [List.length_map];exact hR.len) hR.cap Sg (fun wi x hw _=>Sd _ _ _ _ _ _ _ _ _ bv _ _ _ _ v wi (hkeep wi hw))
 replace hdel:=hdel hi
 refine ⟨gb,cap,rfl,hR.own,?_⟩
 rw [hlen]
 refine hdel.mono ?_
 rintro e w' ⟨rfl,hD,hG⟩
 have hts:ts≠[]:=fun e=>hne (by rw [e];rfl)
 have e1:((ts.map fun t=>t.1).filter fun x=>!(x.vd == v))=(ts.filter fun t=>!(t.1.vd == v)).map fun t=>t.1:=by rw [List.filter_map];rfl
 have e2:((ts.map fun t=>t.2.1).filter fun x=>!(x.valid == v))=(ts.filter fun t=>!(t.1.vd == v)).map fun t=>t.2.1:=by
  rw [List.filter_map]
  congr 1
  refine List.filter_congr fun t ht=>?_
  show (!(t.2.1.valid == v))=_
  rw [(hR.el t ht).2.1]
 have hD':=hD (fun e=>hts (List.map_eq_nil_iff.1 e))
 rw [e1] at hD' ⊢
 rw [e2]
 have hR':yw w' S gb cap (ts.filter fun t=>!(t.1.vd == v)):=hR.frame hD' rfl (fun t ht=>(List.mem_filter.1 ht).1) (hR.apart.sublist List.filter_sublist) (List.length_filter_le _ _) (fun k hk hne hlt=>hG.block k hlt (fun e=>hne (Option.some.inj e)))
 have:=hR'.RU
 rw [List.length_map,List.length_map]
 exact ⟨rfl,this,hG⟩
theorem abh {l:List aA} {k:Nat} {b:aA} (hd:l.Pairwise (fun x y=>x.valid≠y.valid)) (hb:l[k]?=some b):(l.filter fun x=>!(x.valid == b.valid))=l.take k ++ l.drop (k+1):=by
 induction l generalizing k with
 | nil=>simp at hb
 | cons x l ih =>
  rw [List.pairwise_cons] at hd
  cases k with
  | zero =>
   cases hb
   rw [List.filter_cons_of_neg (by simp)]
   simp only [List.take_zero,List.nil_append,Nat.zero_add,List.drop_succ_cons,List.drop_zero]
   rw [List.filter_eq_self]
   intro y hy
   have:=hd.1 y hy
   simp
   exact fun e=>this e.symm
  | succ k =>
   have hb':l[k]?=some b:=by simpa using hb
   have:=hd.1 b (List.mem_of_getElem? hb')
   rw [List.filter_cons_of_pos (by simpa using this),ih hd.2 hb']
   simp
end Go.Proofs.YtmglhdkeidhafaaGreat
