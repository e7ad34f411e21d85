/- The proof's texts, part 47. -/
import Derived.Test.YtmglhdkeidhafaaGreatTv
import Derived.Test.YtmglhdkeidhafaaGreatTE
namespace Go.Proofs.YtmglhdkeidhafaaGreat
open Go.RowKit
set_option linter.unusedVariables false
set_option linter.unusedSimpArgs false
set_option maxHeartbeats 8000000
set_option maxRecDepth 100000
/- create of package oU gP. -/
theorem adL:(Tryz.f39.body.bind (bR 6)).all (fun o=>dW o 17 [0,1,2,3,4,5,6,7,8,9,10,11,12,13,14,15,16] [11,12,13,16] [14,17] 8)=true:=by kernel_rfl
theorem adM (w:World) (S:Nat→Prop):fM w S (.slice none 0 0) []:=⟨Rd.nil _,fun a n c h=>by cases h⟩
theorem adN {E:aU} {v:Int} (h:∀ e ∈ E,e.1 < v):dG E v []:=⟨List.Pairwise.nil,by simp,fun u _=>by
 unfold bW
 rw [show E.find? (isK v u)=none from List.find?_eq_none.2 fun e he=>by
  have:=h e he
  unfold isK
  simp
  omega]
 rfl⟩
section
variable {wt w w' : World} {S : Nat → Prop} {gd g n : Nat} {a : aF} {u0 u1 : Value} {E : aU}
theorem aT.Mk (h:aT wt w S gd g n a u0 u1 E):u1.ownBlock≠some gd:=fun e=>by
 rcases xO h.seen with ⟨e',-⟩ | ⟨gs,e',_,_,ht⟩
 ·rw [e'] at e;simp [Value.ownBlock] at e
 ·rw [e'] at e
  cases e
  rw [h.cells] at ht
  cases ht
theorem aT.zw (h:aT wt w S gd g n a u0 u1 E) {v:Int} (hv:a.valid≤v) (hi:ay v):aT wt (w.setCell ⟨gd,0,none⟩ (.int .i64 v)) S gd g n ⟨v,a.boxes,a.seen⟩ u0 u1 E:=by
 have hk:∀ q,q≠gd→(w.setCell ⟨gd,0,none⟩ (.int .i64 v)).heap[q]?=w.heap[q]?:=fun q hq=>Below.heap_setCell _ _ _ _ hq
 exact h.CU (h.base.setCell (p:=⟨gd,0,none⟩) h.nH.1 _) (by rw [bf];exact Nat.le_refl _) (aJ (i:=0) (v:=.int .i64 v) h.cells) (h.boxes.frame mG fun q hq _=>hk q (h.low q hq).2.2.1) (hk g (fun e=>h.ty.2 e.symm)) (fun q hq _=>hk q (fun e=>h.Mk (e ▸ hq))) (fun q hq=>.inl hq) h.ents (fun e he=>Int.le_trans (h.high e he) hv) h.dist hi
end
theorem adO (wt w:World) (S:Nat→Prop) (gd g n:Nat) (a:aF) (u0 u1 nv:Value) (E:aU) (nm:List Int) (h:aT wt w S gd g n a u0 u1 E) (iL:Bs wt nv nm) (hso:a.boxes.Pairwise (fun y z=>bV y.name z.name=true)) (h4:a.boxes.length≤4) (hva:0≤a.valid∧a.valid≤1000000) (hvs:∀ b ∈ a.boxes,b.valid≤a.valid) (hnl:nm.length≤2000000) (res:aF × dI) (hres:res=nE a nm) :
  Calls Tryz.prog 39 #[.pointer (some ⟨gd,0,none⟩),nv] w fun e w'=>∃ v,e=.returned v∧dX w' w.heap.size w'.heap.size v res.2∧Left wt w w' S gd g n u1 res.1:=by
 have A1:Below w.heap.size w (w.alloc (.cells #[.int .i64 0,.int .i64 0,.slice none 0 0,.int .i64 0,.int .i64 0,.int .i64 0,.slice none 0 0,.slice none 0 0,.int .i64 0,.slice none 0 0] 37)):=bn _ _
 have HK:=ak (aW w (.cells #[.int .i64 0,.int .i64 0,.slice none 0 0,.int .i64 0,.int .i64 0,.int .i64 0,.slice none 0 0,.slice none 0 0,.int .i64 0,.slice none 0 0] 37))
 have HD:=ak (h.below A1)
 have HA:=ak A1
 have bH:=ak hres
 have HSL:Hid (∀ k,S k→k < w.heap.size):=fun k hk=>(h.low k hk).2.1
 have FV:=ak hso
 have Ml:=ak iL
 have HVS:=ak hvs
 have Mq:=ak h.high
 have HOC:Hid (∀ y ∈ a.boxes,Oct y.name):=fun y hy=>by
  obtain ⟨i,hi⟩:=List.mem_iff_getElem?.1 hy
  obtain ⟨_,_,_,_,_,-,-,-,-,-,-,-,r0,-⟩:=h.read hi
  exact r0.1
 have hw0:=h.base.size
 have hgl:=lt_of_heap h.cells
 obtain ⟨z0,hi,hz0,hz1,hz2⟩:=info_parts xq
 obtain ⟨na,nn,nc,rfl⟩:=iL.aG
 obtain ⟨va,vc,rfl,hm1,hm2⟩:∃ va vc,u0=.slice va a.boxes.length vc∧a.boxes.length≤vc∧vc≤maxLen:=by
  obtain ⟨x,y,e,k1,k2⟩:=h.boxes.v.form
  rw [List.length_map] at e k1
  exact ⟨x,y,e,k1,k2⟩
 have hz:w.heap.size+1≤(w.alloc (.cells #[.int .i64 0,.int .i64 0,.slice none 0 0,.int .i64 0,.int .i64 0,.int .i64 0,.slice none 0 0,.slice none 0 0,.int .i64 0,.slice none 0 0] 37)).heap.size:=by simp
 clear h A1 hres hso iL hvs
 go_enter Tryz.func39,Tryz.ntmps39
 go_upto_region 1 with fail
 generalize w.alloc (.cells #[.int .i64 0,.int .i64 0,.slice none 0 0,.int .i64 0,.int .i64 0,.int .i64 0,.slice none 0 0,.slice none 0 0,.int .i64 0,.slice none 0 0] 37)=w1 at HK HD HA hz ⊢
 have wH:=ak (K9 wt w1 S gd g n a (.slice va a.boxes.length vc) u1 (.slice na nn nc) E nm HD.out (Ml.out.below HD.out.base))
 go_wp2_with fail
 refine wH.out.mono ?_
 rintro e w2 ⟨p,rfl,B2,hp⟩
 have HD2:=ak (HD.out.below B2)
 have HA2:=ak (Below.step HA.out B2)
 have dB:=ak (aB B2 HK.out)
 have hs2:=B2.size
 clear B2 wH HD HA HK
 rcases hp with ⟨rfl,hfn⟩ | ⟨t,bt,gb,cap,rfl,hft,hbt,-⟩
 rotate_left
 ·have bJ:Hid (res=(a,aN 2 0)):=by
   show _=_
   rw [bH.out]
   unfold nE
   rw [if_pos (by unfold bC;rw [hft];simp)]
  clear hft hbt
  have HF:=ak (HD2.out.done (n:=n) (fun k hk=>.inl hk) (fZ HA2.out) (by omega) dB.out (fun hS=>by have:=HSL.out _ hS;omega) hw0 (by omega) (c:=2) (x:=0) ⟨by decide,by decide⟩ aI)
  obtain ⟨yz,yl,y0,y1,y2,y3,y4,y5,y6,y7,y8,y9⟩:=gG dB.out
  go_wp2
  have ff:=aO HF.out.1
  refine bodyPost_ret (v:=aY 2 0) (by simp [results,Tryz.results39,aY,go_sem,ff]) rfl ⟨aY 2 0,rfl,?_⟩
  rw [bJ.out]
  exact HF.out.2
 ·have HF:Hid (bC (fun x:aA=>decide (x.name=nm)) a.boxes = -1):=by show _=_;unfold bC;rw [hfn]
  have HNN:Hid (∀ y ∈ a.boxes,y.name≠nm):=fun y hy=>by
   have:=List.findIdx?_eq_none_iff.1 hfn y hy
   simpa using this
  clear hfn
  obtain ⟨c0,c1,c2,c3⟩:=iZ HD2.out.cells
  have cl:=lt_of_heap HD2.out.cells
  have cz:=(aZ HD2.out.cells).1
  by_cases hfu:a.boxes.length=4∨(a.boxes.length≠4∧a.valid=1000000)
  ·have bJ:Hid (res=(a,aN 3 0)):=by
    show _=_
    rw [bH.out]
    unfold nE
    rw [if_neg (by rw [HF.out];decide),if_pos (by omega)]
   obtain h1 | ⟨h1,h2⟩:=hfu
   ·have e1:((a.boxes.length:Int) == 4)=true:=by simp [h1]
    clear h1
    have HF:=ak (HD2.out.done (n:=n) (fun k hk=>.inl hk) (fZ HA2.out) (by omega) dB.out (fun hS=>by have:=HSL.out _ hS;omega) hw0 (by omega) (c:=3) (x:=0) ⟨by decide,by decide⟩ aI)
    obtain ⟨yz,yl,y0,y1,y2,y3,y4,y5,y6,y7,y8,y9⟩:=gG dB.out
    go_wp2
    have ff:=aO HF.out.1
    refine bodyPost_ret (v:=aY 3 0) (by simp [results,Tryz.results39,aY,go_sem,ff]) rfl ⟨aY 3 0,rfl,?_⟩
    rw [bJ.out]
    exact HF.out.2
   ·have e1:((a.boxes.length:Int) == 4)=false:=by simp;omega
    have e2:(a.valid == 1000000)=true:=by simpa using h2
    clear h1 h2
    have HF:=ak (HD2.out.done (n:=n) (fun k hk=>.inl hk) (fZ HA2.out) (by omega) dB.out (fun hS=>by have:=HSL.out _ hS;omega) hw0 (by omega) (c:=3) (x:=0) ⟨by decide,by decide⟩ aI)
    obtain ⟨yz,yl,y0,y1,y2,y3,y4,y5,y6,y7,y8,y9⟩:=gG dB.out
    go_wp2
    have ff:=aO HF.out.1
    refine bodyPost_ret (v:=aY 3 0) (by simp [results,Tryz.results39,aY,go_sem,ff]) rfl ⟨aY 3 0,rfl,?_⟩
    rw [bJ.out]
    exact HF.out.2
  ·have e1:((a.boxes.length:Int) == 4)=false:=by simp;omega
   have e2:(a.valid == 1000000)=false:=by simp;omega
   have T9:Hid (res=(⟨a.valid+1,a.boxes.takeWhile (fun x:aA=>bV x.name nm) ++ (⟨nm,a.valid+1,1,0,[],[],0⟩ :: a.boxes.dropWhile (fun x:aA=>bV x.name nm)),a.seen⟩,aN 0 (a.valid+1))):=by
    show _=_
    rw [bH.out]
    unfold nE
    rw [if_neg (by rw [HF.out];decide),if_neg (by omega)]
   have wT:Hid (ay (a.valid+1)):=⟨by omega,by omega⟩
   have HD4:=ak (HD2.out.zw (v:=a.valid+1) (by omega) wT.out)
   have gu:Hid (iV w (w2.setCell ⟨gd,0,none⟩ (.int .i64 (a.valid+1))) S gd g):=⟨by rw [bf];exact HA2.out.size,fun q h1 h2 h3 h4=>(Below.heap_setCell _ _ _ _ (show q≠gd from h2)).trans (HA2.out.block q h1),HA2.out.os,HA2.out.tape,HA2.out.output⟩
   have ji:=ak (cO (k:=gd) (i:=0) (v:=.int .i64 (a.valid+1)) dB.out (by omega))
   have sM:(w2.setCell ⟨gd,0,none⟩ (.int .i64 (a.valid+1))).heap.size=w2.heap.size:=bf
   clear hfu bH HF
   go_upto_region 6 with fail
   clear c0 c1 c2 c3 cl cz
   generalize w2.setCell ⟨gd,0,none⟩ (.int .i64 (a.valid+1))=w4 at HD4 gu ji sM ⊢
   have DR:Below w4.heap.size w4 w4.drew:=(bd _ _)
   have ahp:=lt_of_heap HD4.out.cells
   have qY:Hid (∀ w',Below w4.heap.size w4 w'→w'.cell? ⟨gd,0,none⟩=some (.int .i64 (a.valid+1))∧w'.cell? ⟨gd,1,none⟩=some (.slice va a.boxes.length vc)):=fun w' hw=>⟨(cell_of_row _ gd 0 _ _ (0,0) (HD4.out.below hw).cells).trans rfl,(cell_of_row _ gd 1 _ _ (0,0) (HD4.out.below hw).cells).trans rfl⟩
   have hbv:bI w4.drew (.agg #[.slice na nn nc,.int .i64 (a.valid+1),.int .i64 1,.int .i64 0,.slice none 0 0,.slice none 0 0,.int .i64 0]) ⟨nm,a.valid+1,1,0,[],[],0⟩:=⟨_,_,_,rfl,Ml.out.below (HD4.out.below DR).base,Rd.nil _,Rd.nil _,wT.out,(show ay 1 from ⟨by decide,by decide⟩),aI,aI⟩
   have fq:=ak (Bc _ ⟨nm,a.valid+1,1,0,[],[],0⟩ _ hbv hnl)
   clear hbv HD2 HA2 dB
   refine eO 14 (S:=fun w'=>w'.cell? ⟨gd,0,none⟩=some (.int .i64 (a.valid+1))∧w'.cell? ⟨gd,1,none⟩=some (.slice va a.boxes.length vc)) (eH (by kernel_rfl) adL) (by kernel_rfl) (qY.out _ DR) (fun aj ahz=>?_)
   refine tks 0 0 31 aj ahz ?_
   refine tks 1 1 32 aj ahz ?_
   refine tks 2 2 33 aj ahz ?_
   refine tks 3 3 34 aj ahz ?_
   refine tks 4 4 35 aj ahz ?_
   refine tks 5 5 36 aj ahz ?_
   refine tks 6 6 37 aj ahz ?_
   refine tks 7 7 38 aj ahz ?_
   refine tks 8 8 39 aj ahz ?_
   refine tks 9 9 40 aj ahz ?_
   refine tks 10 10 41 aj ahz ?_
   refine cls 11 11 aj (by decide) rfl rfl (fun K hK=>?_)
   go_simp
   refine fq.out.mono ?_
   rintro e w5 ⟨xa,xn,xc,rfl,nP,iW⟩
   have jr:=ak (Below.step DR iW)
   have jU:=ak nP
   have hs5:w4.heap.size≤w5.heap.size:=iW.size
   clear nP iW
   refine hK.out _ _ (qY.out _ jr.out) (fun ahz=>?_)
   clear hK K
   refine cls 12 12 aj (by decide) rfl rfl (fun K hK=>?_)
   go_simp
   have AB:Below w5.heap.size w5 (w5.alloc (.cells #[.slice xa xn xc,.int .i64 (a.valid+1),.int .i64 1,.int .i64 0,.slice none 0 0,.slice none 0 0,.int .i64 0] 34)):=bn _ _
   refine hK.out _ _ (qY.out _ (Below.step jr.out AB)) (fun ahz=>?_)
   clear hK K
   refine cls 13 13 aj (by decide) rfl rfl (fun K hK=>?_)
   have hMs:w4.heap.size≤(w5.alloc (.cells #[.slice xa xn xc,.int .i64 (a.valid+1),.int .i64 1,.int .i64 0,.slice none 0 0,.slice none 0 0,.int .i64 0] 34)).heap.size:=by simp;omega
   have nJ:pV (w5.alloc (.cells #[.slice xa xn xc,.int .i64 (a.valid+1),.int .i64 1,.int .i64 0,.slice none 0 0,.slice none 0 0,.int .i64 0] 34)) [.slice xa xn xc,.int .i64 (a.valid+1),.int .i64 1,.int .i64 0,.slice none 0 0,.slice none 0 0,.int .i64 0] ⟨nm,a.valid+1,1,0,[],[],0⟩ (In w4.heap.size (w5.alloc (.cells #[.slice xa xn xc,.int .i64 (a.valid+1),.int .i64 1,.int .i64 0,.slice none 0 0,.slice none 0 0,.int .i64 0] 34)).heap.size):=⟨_,_,rfl,(jU.out.below AB).mono fun q hq=>⟨hq.1,by have:=hq.2;simp;omega⟩,adM _ _,wT.out,(show ay 1 from ⟨by decide,by decide⟩),aI,aI⟩
   have hl1:a.boxes.length+1≤maxLen:=by unfold maxLen;omega
   have hl2:(a.boxes.length+1) * 104≤140737488355328:=by omega
   refine dR (by kernel_rfl) (Ti 44 rfl (.tmp 35) (.tmp 43) rfl mG (B:=wt.heap.size) (M:=w4.heap.size) (Ow.below mG (Ow.below mG HD4.out.boxes jr.out) AB) (fun q hq=>⟨(HD4.out.low q hq).1,(HD4.out.low q hq).2.1⟩) hMs HD4.out.base.size Tryz.underlying23 hi hz0 hz1 hz2 rfl (by omega) rfl ⟨nm,a.valid+1,1,0,[],[],0⟩ [.slice xa xn xc,.int .i64 (a.valid+1),.int .i64 1,.int .i64 0,.slice none 0 0,.slice none 0 0,.int .i64 0] rfl nJ ⟨w5.heap.size,0,none⟩ 1 rfl (kH w5 _ _) (by simp [Value.oneCell']) hl1 hl2 ?_)
   intro DV wz jV hgz fP
   obtain ⟨da,dn,dc,og⟩:∃ x y z,DV=.slice x y z:=by
    rcases jV with ⟨e,-⟩ | ⟨_,_,_,_,_,e,-⟩
    ·exact ⟨_,_,_,e⟩
    ·exact ⟨_,_,_,e⟩
   subst og
   have hgn:∀ j,(Value.slice va a.boxes.length vc).ownBlock=some j→j≠gd:=fun j hj=>(HD4.out.low j (fP j hj)).2.2.1
   have KX:=(hgz.block gd (lt_of_heap (aB (Below.step jr.out AB) HD4.out.cells)) (fun e=>hgn gd e.symm rfl)).trans (aB (Below.step jr.out AB) HD4.out.cells)
   have jv:Hid (wz.cell? ⟨gd,0,none⟩=some (.int .i64 (a.valid+1))∧wz.cell? ⟨gd,1,none⟩=some (.slice va a.boxes.length vc)):=⟨(iZ KX).1,(iZ KX).2.1⟩
   have Dr:=ak (And.intro jV (And.intro hgz fP))
   have gK:=ak (Below.step jr.out AB)
   refine hK.out _ _ (jv.out) (fun ahz=>?_)
   clear hK K
   refine gH (S':=fun w'=>True) 14 17 aj (by decide) (trivial) (fun ahz=>?_)
   obtain ⟨x0,x1,x2,x3⟩:=iZ KX
   obtain ⟨xz,xl⟩:=aZ KX
   refine tks 14 14 45 aj ahz ?_
   refine tks 15 15 46 aj ahz ?_
   refine cls 16 16 aj (by decide) rfl rfl (fun K hK=>?_)
   go_simp
   refine hK.out _ _ (trivial) (fun ahz=>?_)
   clear hK K
   refine eP aj ?_
   have qW:=ak KX
   clear qY jv fq nJ hMs hl1 hl2 AB x0 x1 x2 x3 xz xl jV hgz fP hgn KX
   obtain ⟨jV,hgz,fP⟩:=Dr.out
   obtain ⟨S7,uP⟩:∃ S7:Nat→Prop,S7=fun b=>S b∨w4.heap.size≤b∧b < wz.heap.size:=⟨_,rfl⟩
   rw [← uP] at jV
   have jv:Hid (∀ q,S7 q→S q∨(w4.heap.size≤q∧q < wz.heap.size)):=fun q hq=>by rw [uP] at hq;exact hq
   clear uP
   have hsz:=hgz.size
   have hsa:=gK.out.size
   have uH:∀ q,q≠gd→(wz.setCell ⟨gd,1,none⟩ (.slice da dn dc)).heap[q]?=wz.heap[q]?:=fun q hq=>Below.heap_setCell _ _ _ _ hq
   have hkeep:∀ q,q < w4.heap.size→q≠gd→(∀ j,S j→q≠j)→(wz.setCell ⟨gd,1,none⟩ (.slice da dn dc)).heap[q]?=w4.heap[q]?:=fun q hq h1 h2=>(uH q h1).trans ((hgz.block q (by omega) (fun e=>h2 q (fP q e.symm) rfl)).trans (gK.out.block q hq))
   have h7:aT wt (wz.setCell ⟨gd,1,none⟩ (.slice da dn dc)) S7 gd g n ⟨a.valid+1,a.boxes ++ [⟨nm,a.valid+1,1,0,[],[],0⟩],a.seen⟩ (.slice da dn dc) u1 E:=HD4.out.CU
    (((Below.step HD4.out.base gK.out).grown hgz (by have:=HD4.out.base.size;omega) (fun k hk=>(HD4.out.low k (fP k hk)).1)).setCell (p:=⟨gd,1,none⟩) HD4.out.nH.1 _)
    (by rw [bf];omega) (aJ (i:=1) (v:=.slice da dn dc) qW.out)
    (jV.frame mG fun q hq _=>uH q (fun e=>(jv.out q hq).elim (fun h=>(HD4.out.low q h).2.2.1 e) (fun h=>by omega)))
    (hkeep g HD4.out.map.lt (fun e=>HD4.out.ty.2 e.symm) (fun j hj e=>(HD4.out.low j hj).2.2.2.1 e.symm))
    (fun q hq hlt=>hkeep q hlt (fun e=>HD4.out.Mk (e ▸ hq)) (fun j hj e=>(HD4.out.low j hj).2.2.2.2 (e ▸ hq)))
    (fun q hq=>(jv.out q hq).imp id (fun h=>⟨h.1,by rw [bf];exact h.2⟩))
    (fun b hb=>(List.mem_append.1 hb).elim (HD4.out.ents b) (fun h=>by rw [List.mem_singleton] at h;subst h;exact adN fun e he=>by have:=Mq.out e he;show e.1 < a.valid+1;omega))
    (fun e he=>by have:=Mq.out e he;omega)
    (List.pairwise_append.2 ⟨HD4.out.dist,List.pairwise_singleton _ _,fun b hb z hz=>by rw [List.mem_singleton] at hz;subst hz;have:=HVS.out b hb;show b.valid≠a.valid+1;omega⟩) wT.out
   have HD7:=ak h7
   clear h7
   have iN:Hid (iV w (wz.setCell ⟨gd,1,none⟩ (.slice da dn dc)) S gd g):=⟨by rw [bf];have:=gu.out.1;omega,fun q h1 h2 h3 h4=>(hkeep q (by have:=gu.out.1;omega) h2 (fun j hj e=>h4 (e ▸ hj))).trans (gu.out.2.1 q h1 h2 h3 h4),hgz.os.trans (gK.out.os.trans gu.out.2.2.1),hgz.tape.trans (gK.out.tape.trans gu.out.2.2.2.1),hgz.output.trans (gK.out.output.trans gu.out.2.2.2.2)⟩
   have gQ:=ak ((hkeep w.heap.size (by omega) (by omega) (fun j hj e=>by have:=HSL.out j hj;omega)).trans ji.out)
   have zQ:(wz.setCell ⟨gd,1,none⟩ (.slice da dn dc)).heap.size=wz.heap.size:=bf
   clear uH hkeep jV hgz fP Dr gK qW ji gu HD4 jU jr
   go_upto_region 7 with fail
   generalize wz.setCell ⟨gd,1,none⟩ (.slice da dn dc)=w7 at HD7 iN gQ zQ ⊢
   obtain ⟨gb,cap,eu,fE,hC⟩:=aaU w7 S7 (.slice da dn dc) (a.boxes ++ [⟨nm,a.valid+1,1,0,[],[],0⟩]) HD7.out.boxes (by simp) (by simp;omega) (fun q hq=>(HD7.out.low q hq).2.1)
   have HLO:=ak (HD7.out.low gb fE)
   have HSG:=ak fE
   have HC:=ak hC
   clear eu fE
   obtain ⟨c0,c1,c2,c3⟩:=iZ HD7.out.cells
   have cl:=lt_of_heap HD7.out.cells
   clear hC
   go_wp2_with fail
   refine HC.out.mono ?_
   rintro e w8 ⟨rfl,l',hp,ho,zD,jZ⟩
   have hlow:=HLO.out
   have fE:=HSG.out
   have hl':=aaX FV.out HOC.out Ml.out.1 HNN.out hp ho
   have K8:=pI jZ HD7.out.cells (fun e=>hlow.2.2.1 e.symm)
   have h8:aT wt w8 S7 gd g n ⟨a.valid+1,l',a.seen⟩ (.slice da dn dc) u1 E:=HD7.out.CU (HD7.out.base.grown jZ HD7.out.base.size (fun k hk=>by cases hk;exact hlow.1)) jZ.size K8 zD
    (jZ.block g HD7.out.map.lt (fun e=>hlow.2.2.2.1 (Option.some.inj e).symm)) (fun q hq hlt=>jZ.block q hlt (fun e=>by cases e;exact hlow.2.2.2.2 hq)) (fun q hq=>.inl hq)
    (fun b hb=>HD7.out.ents b (hp.mem_iff.1 hb)) (fun e he=>by have:=Mq.out e he;omega) ((List.Perm.pairwise_iff (fun {x y} h e=>h e.symm) hp).2 HD7.out.dist) wT.out
   have Mr:=ak h8
   clear h8
   have HT8:Hid (iV w w8 S gd g):=⟨Nat.le_trans iN.out.1 jZ.size,fun q h1 h2 h3 h4=>(jZ.block q (by have:=iN.out.1;omega) (fun e=>by cases e;exact (jv.out gb fE).elim h4 (fun h=>by omega))).trans (iN.out.2.1 q h1 h2 h3 h4),jZ.os.trans iN.out.2.2.1,jZ.tape.trans iN.out.2.2.2.1,jZ.output.trans iN.out.2.2.2.2⟩
   have tC:=ak (pI jZ gQ.out (fun e=>(jv.out gb fE).elim (fun h=>by have:=HSL.out gb h;omega) (fun h=>by omega)))
   have bJ:Hid (res=(⟨a.valid+1,l',a.seen⟩,aN 0 (a.valid+1))):=by show _=_;rw [T9.out,hl']
   clear hl' hp ho zD jZ K8 HC hlow fE c0 c1 c2 c3 cl HD7 iN gQ T9
   obtain ⟨c0,c1,c2,c3⟩:=iZ Mr.out.cells
   have cl:=lt_of_heap Mr.out.cells
   have HF:=ak (Mr.out.done (n:=n) (fun q hq=>(jv.out q hq).imp id (fun h=>by omega)) HT8.out (by omega) tC.out (fun hS=>(jv.out _ hS).elim (fun h=>by have:=HSL.out _ h;omega) (fun h=>by omega)) hw0 (by omega) (c:=0) (x:=(a.valid+1)) ⟨by decide,by decide⟩ wT.out)
   obtain ⟨yz,yl,y0,y1,y2,y3,y4,y5,y6,y7,y8,y9⟩:=gG tC.out
   go_wp2
   have ff:=aO HF.out.1
   refine bodyPost_ret (v:=aY 0 (a.valid+1)) (by simp [results,Tryz.results39,aY,go_sem,ff]) rfl ⟨aY 0 (a.valid+1),rfl,?_⟩
   rw [bJ.out]
   exact HF.out.2
/- list of package oU gP. -/
theorem adV (wt w:World) (S:Nat→Prop) (gd g n:Nat) (a:aF) (u0 u1:Value) (E:aU) (h:aT wt w S gd g n a u0 u1 E) (hnm:∀ b ∈ a.boxes,b.name.length≤2000000) (hl4:a.boxes.length≤1000) :
  Calls Tryz.prog 40 #[.pointer (some ⟨gd,0,none⟩)] w fun e w'=>∃ v,e=.returned v∧dX w' w.heap.size w'.heap.size v ⟨0,0,pR,a.boxes.map fun x=>x.name⟩∧Below w.heap.size w w':=by
 have A1:Below w.heap.size w (w.alloc (.cells #[.int .i64 0,.int .i64 0,.slice none 0 0,.int .i64 0,.int .i64 0,.int .i64 0,.slice none 0 0,.slice none 0 0,.int .i64 0,.slice none 0 0] 37)):=bn _ _
 have HK:=ak (aW w (.cells #[.int .i64 0,.int .i64 0,.slice none 0 0,.int .i64 0,.int .i64 0,.int .i64 0,.slice none 0 0,.slice none 0 0,.int .i64 0,.slice none 0 0] 37))
 have HD:=ak (h.below A1)
 have HA:=ak A1
 have lH:=ak hnm
 obtain ⟨z0,hi,hz0,hz1,hz2⟩:=info_parts Ot
 obtain ⟨va,vc,rfl,hm1,hm2⟩:∃ va vc,u0=.slice va a.boxes.length vc∧a.boxes.length≤vc∧vc≤maxLen:=by
  obtain ⟨x,y,e,k1,k2⟩:=h.boxes.v.form
  rw [List.length_map] at e k1
  exact ⟨x,y,e,k1,k2⟩
 have d1:(w.alloc (.cells #[.int .i64 0,.int .i64 0,.slice none 0 0,.int .i64 0,.int .i64 0,.int .i64 0,.slice none 0 0,.slice none 0 0,.int .i64 0,.slice none 0 0] 37)).cell? ⟨gd,1,none⟩=some (.slice va a.boxes.length vc):=(cell_of_row _ gd 1 _ _ (0,0) (h.below A1).cells).trans rfl
 have bE:=lt_of_heap (h.below A1).cells
 have Dt:(w.alloc (.cells #[.int .i64 0,.int .i64 0,.slice none 0 0,.int .i64 0,.int .i64 0,.int .i64 0,.slice none 0 0,.slice none 0 0,.int .i64 0,.slice none 0 0] 37)).heap.size=w.heap.size+1:=by simp
 clear h A1 hnm
 go_enter Tryz.func40,Tryz.ntmps40
 go_upto_region 1 with fail
 generalize w.alloc (.cells #[.int .i64 0,.int .i64 0,.slice none 0 0,.int .i64 0,.int .i64 0,.int .i64 0,.slice none 0 0,.slice none 0 0,.int .i64 0,.slice none 0 0] 37)=w1 at HK HD HA d1 bE Dt ⊢
 have hw1:w.heap.size+1≤w1.heap.size:=by omega
 have HZW:=ak Dt
 clear Dt
 go_wp2
 go_loopw [3,11] (fun lv iv wr=>∃ (k:Nat) (la:Option Addr) (ln lc:Nat),k≤a.boxes.length∧iv=.int .i64 k∧lv=.slice la ln lc∧Hid (Below w1.heap.size w1 wr)∧w1.heap.size≤wr.heap.size∧Hid (rE wr (In w1.heap.size wr.heap.size) (.slice la ln lc) ((a.boxes.take k).map fun x=>x.name))) (fun _ iv _=>a.boxes.length - (intOf iv).toNat)
 case atStart=>exact ⟨0,none,0,0,Nat.zero_le _,rfl,rfl,Below.refl _ _,Nat.le_refl _,.inl ⟨rfl,by simp⟩⟩
 case round =>
  obtain ⟨k,la,ln,lc,hk,rfl,rfl,hB,hS,hO⟩:=hrel
  by_cases hlt:k < a.boxes.length
  ·obtain ⟨b,hb⟩:∃ b,a.boxes[k]?=some b:=⟨_,aL hlt⟩
   have yF:=HD.out.below hB.out
   obtain ⟨gb,cap,v0,v5,f,e1,-,-,hlb,-,-,⟨c0,c1,c2,c3,c4,c5,c6⟩,r0,r5,-,ii⟩:=yF.read hb
   simp only [Value.slice.injEq,true_and] at e1
   obtain ⟨rfl,rfl⟩:=e1
   have hbs:=r0.bs
   obtain ⟨na,nn,nc,rfl⟩:=r0.bs.aG
   obtain ⟨ga,gc,rfl,-⟩:=r5.1.form
   have AB:Below wr.heap.size wr (wr.alloc (.cells #[.slice na nn nc,.int .i64 b.valid,.int .i64 b.next,.int .i64 b.seq,.slice none 0 0,.slice ga b.au.length gc,.int .i64 b.lost] 34)):=bn _ _
   have HJ:=ak (Im _ (.slice none 0 0) b.name [] _ (hbs.below AB) (yN _) (by have:=lH.out b (List.mem_of_getElem? hb);omega) (by simp))
   have HX:=ak hb
   have gK:=ak AB
   have hki:(k:Int) < a.boxes.length:=by omega
   obtain ⟨t0,-,-,-,-,-,-⟩:=bU (aW wr (.cells #[.slice na nn nc,.int .i64 b.valid,.int .i64 b.next,.int .i64 b.seq,.slice none 0 0,.slice ga b.au.length gc,.int .i64 b.lost] 34))
   have hzb:(wr.alloc (.cells #[.slice na nn nc,.int .i64 b.valid,.int .i64 b.next,.int .i64 b.seq,.slice none 0 0,.slice ga b.au.length gc,.int .i64 b.lost] 34)).heap.size=wr.heap.size+1:=by simp
   clear yF r0 r5 ii hbs hb AB
   go_upto_region 5 with fail
   clear c0 c1 c2 c3 c4 c5 c6
   generalize wr.alloc (.cells #[.slice na nn nc,.int .i64 b.valid,.int .i64 b.next,.int .i64 b.seq,.slice none 0 0,.slice ga b.au.length gc,.int .i64 b.lost] 34)=w2 at HJ gK t0 hzb ⊢
   have htl:wr.heap.size < w2.heap.size:=by omega
   go_wp2_with fail
   refine HJ.out.mono ?_
   rintro e w3 ⟨r,rfl,hR,hB3⟩
   rw [List.append_nil] at hR
   obtain ⟨xa,xn,xc,rfl⟩:=hR.bs.aG
   have hs3:=hB3.size
   have AP:Below w3.heap.size w3 (w3.alloc (.cells #[.slice xa xn xc] 22)):=bn _ _
   have Bh:Hid (tQ (w3.alloc (.cells #[.slice xa xn xc] 22)) [.slice xa xn xc] b.name (In wr.heap.size (w3.alloc (.cells #[.slice xa xn xc] 22)).heap.size)):=⟨_,rfl,(hR.ro.below AP).mono fun q hq=>⟨by have:=hq.1;omega,by have:=hq.2;simp;omega⟩⟩
   have hMs:wr.heap.size≤(w3.alloc (.cells #[.slice xa xn xc] 22)).heap.size:=by simp;omega
   have HB3:=ak (Below.step gK.out hB3)
   have mY:=ak (Ow.below mW (Ow.below mW hO.out HB3.out) AP)
   have hone:∀ u ∈ [Value.slice xa xn xc],u.oneCell'=true:=by simp [Value.oneCell']
   have hle:((a.boxes.take k).map fun x=>x.name).length=k:=by simp;omega
   have hp1:((a.boxes.take k).map fun x=>x.name).length+1≤maxLen:=by rw [hle];unfold maxLen;omega
   have hp2:(((a.boxes.take k).map fun x=>x.name).length+1) * 24≤140737488355328:=by rw [hle];omega
   clear hR hB3 t0 HJ hle
   go_wp2_with (at_builtin;refine yR rfl (.tmp 15) (.tmp 19) rfl mW (B:=w1.heap.size) (M:=wr.heap.size) mY.out hMs hS Tryz.underlying35 hi hz0 hz1 hz2 rfl (by omega) rfl b.name [.slice xa xn xc] rfl Bh.out ⟨w3.heap.size,0,none⟩ 1 rfl (kH w3 _ _) hone hp1 hp2 ?_)
   intro vI w4 hO4 hG4 pQ
   have nC:Hid (rE w4 (In w1.heap.size w4.heap.size) vI ((a.boxes.take (k+1)).map fun x=>x.name)):=by
    rw [List.map_take,List.take_add_one,List.getElem?_map,HX.out]
    exact hO4
   obtain ⟨Bj,Bl,Bn,rfl⟩:∃ a n c,vI=.slice a n c:=by
    rcases hO4 with ⟨h,-⟩ | ⟨_,_,_,_,_,h,-⟩
    ·exact ⟨_,_,_,h⟩
    ·exact ⟨_,_,_,h⟩
   have hge:∀ j,(Value.slice la ln lc).ownBlock=some j→w1.heap.size≤j:=fun j hj=>(pQ j hj).1
   have gL:Hid (Below w1.heap.size w1 w4):=rD (Below.step (Below.step hB.out HB3.out) AP) hG4 hge (Nat.le_refl _) (by have:=AP.size;omega)
   have hs4:w1.heap.size≤w4.heap.size:=gL.out.size
   clear hO4 hG4 pQ hge mY Bh AP hMs HB3 hO hB
   go_wp2
   go_roundw
   case rel=>exact ⟨k+1,Bj,Bl,Bn,by omega,by go_num,rfl,gL.out,hs4,nC.out⟩
   case measure=>simp [intOf];omega
  ·obtain rfl:k=a.boxes.length:=by omega
   have FE:=ak (aB hB.out HK.out)
   have yG:=ak (Below.step HA.out hB.out)
   have pY:Hid (rE wr (In w1.heap.size wr.heap.size) (.slice la ln lc) (a.boxes.map fun x=>x.name)):=by
    have:=hO.out
    rwa [List.take_length] at this
   have HF:=ak (oJ FE.out (.int .i64 0) (.int .i64 0) (.slice none 0 0) (.int .i64 0) (.int .i64 0) (.int .i64 0) (.slice none 0 0) (.slice none 0 0) (.int .i64 0) (.slice la ln lc))
   obtain ⟨yz,yl,y0,y1,y2,y3,y4,y5,y6,y7,y8,y9⟩:=gG FE.out
   clear hO
   go_wp2
   have ff:=aO HF.out.1
   refine bodyPost_ret (v:=.agg #[.int .i64 0,.int .i64 0,.slice none 0 0,.int .i64 0,.int .i64 0,.int .i64 0,.slice none 0 0,.slice none 0 0,.int .i64 0,.slice la ln lc]) (by simp [results,Tryz.results40,go_sem,ff]) rfl ⟨_,rfl,?_,sO yG.out HF.out.2.1 HF.out.2.2.1 HF.out.2.2.2 (Nat.le_refl _)⟩
   refine ⟨.slice none 0 0,.slice none 0 0,.slice none 0 0,_,w1.heap.size,rfl,⟨_,_,_,fun _=>False,fun _=>False,fun _=>False,rfl,RO.nil _ _,.inl ⟨rfl,rfl⟩,.inl ⟨rfl,rfl⟩,fun _ h=>h.elim,fun _ h=>h.elim,fun _ h=>h.elim,aI,aI,aI,aI⟩,?_,by omega,by rw [HF.out.2.1];exact hS,aI,aI⟩
   rw [HF.out.2.1]
   exact Ow.frame mW pY.out fun q hq _=>HF.out.2.2.2 q (by have:=hq.1;omega)
end Go.Proofs.YtmglhdkeidhafaaGreat
