/- The proof's texts, part 23. -/
import Derived.Test.YtlneebmlhblleaaGreatTm
namespace Go.Proofs.YtlneebmlhblleaaGreat
set_option linter.unusedVariables false
set_option linter.unusedSimpArgs false
set_option maxHeartbeats 8000000
set_option maxRecDepth 100000
/- Gr of package o9 gH. -/
open Go.RowKit Go.Shelf
theorem abj:(Tryz.f81.body.bind (bQ 1)).all (fun o=>dQ o 12 [0,1,2,3,4,5,6,7,9,8,10,11] [9,10] [12] 0)=true:=by kernel_rfl
theorem R5:∀ args w,(callFunc 119 args).run Tryz.prog w=.ok (.enter 119 args) w:=enters_of Tryz.func119 (by kernel_rfl) rfl
theorem abk (l:List bf):∀ lost:Int,(dX lost l).2.length≤40:=by
 induction l with
 | nil=>intro _;simp [dX]
 | cons x l ih =>
  intro lost
  rw [dX]
  split
  ·exact ih x.seq
  ·simp only [List.length_cons];omega
/-- What aip has done to a box so far, and what is left to go. -/
structure Exp (b bk:aD) (us:List Int) (k:Nat):Prop where
 eq:bk=(us.take k).foldl yC b
 valid:bk.valid=b.valid
 seq:bk.seq=b.seq
 au:bk.au.length≤1000
 left:∀ u ∈ us.drop k,∃ m ∈ bk.ah,m.uid=u
theorem Exp.step {b bk:aD} {us:List Int} {k j:Nat} {m:aF} (h:Exp b bk us k) (hs:nk bk.ah) (oJ:us.Pairwise (· < ·)) (hu:us[k]?=some m.uid) (hm:bk.ah[j]?=some m):Exp b (bG bk j) us (k+1):=by
 have hd:bG bk j=⟨bk.name,bk.valid,bk.next,bk.seq,bk.ah.take j ++ bk.ah.drop (j+1),(dX bk.lost (bk.au ++ [⟨m.uid,bk.seq⟩])).2,(dX bk.lost (bk.au ++ [⟨m.uid,bk.seq⟩])).1⟩:=by unfold bG;rw [hm]
 refine ⟨?_,by rw [hd];exact h.valid,by rw [hd];exact h.seq,by rw [hd];exact Nat.le_trans (abk _ _) (by omega),fun u hu'=>?_⟩
 ·rw [List.take_add_one,hu,List.foldl_append,← h.eq]
  exact (Qo hs hm).symm
 ·obtain ⟨x,hx,rfl⟩:=h.left u (by
   rw [← List.drop_drop] at hu'
   exact List.mem_of_mem_drop hu')
  refine ⟨x,?_,rfl⟩
  rw [JV hm,← List.eraseIdx_eq_take_drop_succ]
  obtain ⟨q,hq⟩:=List.mem_iff_getElem?.1 hx
  refine List.mem_eraseIdx_iff_getElem?.2 ⟨q,fun e=>?_,hq⟩
  subst e
  rw [hm] at hq
  cases hq
  obtain ⟨hk,e⟩:=gs1 hu
  obtain ⟨z,hz,e2⟩:=List.getElem_of_mem hu'
  rw [List.getElem_drop] at e2
  rw [List.length_drop] at hz
  have:=List.pairwise_iff_getElem.1 oJ k (k+1+z) hk (by omega) (by omega)
  omega
theorem abl {b:aD} (h:nk b.ah):iR b.ah.length (bH b) 0=((b.ah.filter eZ).map fun m=>m.uid).foldl yC (bH b):=JW b.ah.length (bH b) 0 h rfl
theorem abm (wt w:World) (S:Nat→Prop) (gd g n i gb cap:Nat) (a:aJ) (b:aD) (u0 u1:Value) (E:aX) (h:aW wt w S gd g n a u0 u1 E) (hb:a.boxes[i]?=some b) (hu:u0=.slice (some ⟨gb,0,none⟩) a.boxes.length cap) (hn:n≤1000000) (h12:b.ah.length≤12) (hgl:b.au.length≤1000) (wN:b.seq≤1000000) (res:aJ × cO) (hres:res=(aL a i (iD b).1,(iD b).2)) :
  Calls Tryz.prog 81 #[.pointer (some ⟨gd,0,none⟩),.pointer (some ⟨gb,i * 7,none⟩)] w fun e w'=>∃ v,e=.returned v∧dD w' w.heap.size w'.heap.size v res.2∧Left wt w w' S gd g n u1 res.1:=by
 obtain ⟨kD,kR,A2⟩:=gJ w (.cells #[.pointer (some ⟨gd,0,none⟩)] 64) (.cells #[.int .i64 0,.int .i64 0,.slice none 0 0,.int .i64 0,.int .i64 0,.int .i64 0,.slice none 0 0,.slice none 0 0,.int .i64 0,.slice none 0 0] 40)
 have bN:=ak hres
 have HD:=ak (h.below A2)
 have HA:=ak A2
 have iX:=ak kD
 have aO:=ak kR
 have HSL:Hid (∀ k,S k→k < w.heap.size):=fun k hk=>(h.low k hk).2.1
 have hw0:=h.base.size
 have hzz:w.heap.size+2≤((w.alloc (.cells #[.pointer (some ⟨gd,0,none⟩)] 64)).alloc (.cells #[.int .i64 0,.int .i64 0,.slice none 0 0,.int .i64 0,.int .i64 0,.int .i64 0,.slice none 0 0,.slice none 0 0,.int .i64 0,.slice none 0 0] 40)).heap.size:=by simp
 clear h A2 kD kR hres
 go_enter Tryz.func81,Tryz.ntmps81
 go_upto_region 1 with fail
 generalize (w.alloc (.cells #[.pointer (some ⟨gd,0,none⟩)] 64)).alloc (.cells #[.int .i64 0,.int .i64 0,.slice none 0 0,.int .i64 0,.int .i64 0,.int .i64 0,.slice none 0 0,.slice none 0 0,.int .i64 0,.slice none 0 0] 40)=w1 at HD HA iX aO hzz ⊢
 obtain ⟨fF,cap',v0,v5,f,e1,-,-,hlb,-,-,⟨-,c1,-⟩,-,-,-,j0,-⟩:=HD.out.read hb
 rw [hu] at e1
 simp only [Value.slice.injEq,Option.some.injEq,Addr.mk.injEq,and_true,true_and] at e1
 obtain ⟨rfl,rfl⟩:=e1
 have hE:=HD.out.ents b (List.mem_of_getElem? hb)
 have HE:=ak hE
 have D1:Below w1.heap.size w1 w1.drew:=bd _ _
 have dA:Hid (∀ w',Below w1.heap.size w1 w'→w'.cell? ⟨w.heap.size,0,none⟩=some (.pointer (some ⟨gd,0,none⟩))∧w'.cell? ⟨gd,2,none⟩=some (.map (some g))∧w'.cell? ⟨gb,i * 7+1,none⟩=some (.int .i64 b.valid)):=fun w' hw=>⟨(cell_of_row _ _ 0 _ _ (0,0) (ay hw iX.out)).trans rfl,(cell_of_row _ gd 2 _ _ (0,0) (HD.out.below hw).cells).trans rfl,(hw.cell (p:=⟨gb,_,none⟩) hlb).trans c1⟩
 have qJ:=ak (Ja g n E b.valid (b.ah.map fun m=>m.uid) w1.drew ((HD.out.below D1).map.mm (HD.out.below D1).base) (by omega) j0 (List.pairwise_map.2 hE.sorted) hE.mem (by simpa using h12))
 have lU:Hid (∀ w2 gk wi x,Below w1.heap.size w1 w2→w1.heap.size≤gk→w2.grownBy wi (some gk)→x ∈ ((b.ah.map fun m=>m.uid).map fun u=>(b.valid,u))→Calls Tryz.prog 119 (#[.agg #[.int .i64 x.1,.int .i64 x.2]] ++ #[.pointer (some ⟨w.heap.size,0,none⟩)]) wi fun e w'=>e=.returned (.bool (tJ E x))∧Below wi.heap.size wi w'):=by
  intro w2 gk wi x hb2 tK hw hx
  have hbi:Below w1.heap.size w1 wi:=hb2.grown hw hb2.size (fun k hk=>by cases hk;exact tK)
  obtain ⟨u,hu',rfl⟩:=List.mem_map.1 hx
  obtain ⟨m,hm,rfl⟩:=List.mem_map.1 hu'
  exact aaT wi w.heap.size gd g n E b.valid b.ah m (dA.out wi hbi).1 (fun w' hw'=>⟨(dA.out w' (Below.step hbi hw')).2.1,(dA.out w' (Below.step hbi hw')).1,(HD.out.below (Below.step hbi hw')).map.mm (HD.out.below (Below.step hbi hw')).base⟩) hE hm
 clear c1 j0 hE
 refine eF 12 (S:=fun w'=>w'.cell? ⟨w.heap.size,0,none⟩=some (.pointer (some ⟨gd,0,none⟩))∧w'.cell? ⟨gd,2,none⟩=some (.map (some g))∧w'.cell? ⟨gb,i * 7+1,none⟩=some (.int .i64 b.valid)) (eB (by kernel_rfl) abj) (by kernel_rfl) (dA.out _ D1) (fun aj aks=>?_)
 refine tks 0 0 8 aj aks ?_
 refine tks 1 1 9 aj aks ?_
 refine tks 2 2 10 aj aks ?_
 refine tks 3 3 11 aj aks ?_
 refine tks 4 4 12 aj aks ?_
 refine tks 5 5 13 aj aks ?_
 refine tks 6 6 14 aj aks ?_
 refine tks 7 7 15 aj aks ?_
 refine tks 8 9 17 aj aks ?_
 refine cls 9 8 aj (by decide) rfl rfl (fun K hK=>?_)
 go_simp
 refine qJ.out.mono ?_
 rintro e w2 ⟨kv,rfl,zM,B2,hown⟩
 obtain ⟨oa,gk,cp,rfl,tK,hlc,hcm,hoa⟩:=RB zM B2 hown
 have CV:=Below.step D1 B2
 refine hK.out _ _ (dA.out _ CV) (fun aks=>?_)
 clear hK K
 have HP:=lU.out w2 gk
 have GA:=aaM 119 #[.pointer (some ⟨w.heap.size,0,none⟩)] (tJ E) oa gk cp ((b.ah.map fun m=>m.uid).map fun u=>(b.valid,u)) w2 hoa hlc hcm R5 (fun wi x hw hx=>HP wi x CV tK hw hx)
 have R6:=aaN 119 #[.pointer (some ⟨w.heap.size,0,none⟩)] (tJ E) oa gk cp ((b.ah.map fun m=>m.uid).map fun u=>(b.valid,u)) w2 hoa hlc hcm R5 (fun wi x hw hx=>HP wi x CV tK hw hx)
 have Ai:=R6 GA
 have hge:=aaR HE.out
 rw [hge] at Ai
 generalize oJ:(b.ah.filter eZ).map (fun m=>m.uid)=us at Ai hge
 simp only [List.length_map] at Ai
 have KP:=ak oJ
 have nC:Hid (b.ah.countP eZ=us.length):=by show _=_;rw [← oJ,List.length_map,List.countP_eq_length_filter]
 have hlu:us.length≤12:=by rw [← oJ,List.length_map];exact Nat.le_trans (List.length_filter_le _ _) h12
 have R7:=ak hge
 generalize hg0:us.length=L at Ai nC hlu
 have HL:=ak hg0
 have CS:=ak Ai
 clear oJ hge hg0
 have CR:=ak hoa
 have KQ:=ak CV
 clear HP GA R6 Ai hoa hown zM B2 CV hlc hcm
 refine cls 10 10 aj (by decide) rfl rfl (fun K hK=>?_)
 go_simp
 refine CS.out.mono ?_
 rintro e w3 ⟨rfl,rD,hG3⟩
 have mE:=KQ.out.grown hG3 KQ.out.size (fun k hk=>by cases hk;exact tK)
 refine hK.out _ _ (dA.out _ mE) (fun aks=>?_)
 clear hK K
 refine tks 11 11 5 aj aks ?_
 refine eG aj ?_
 go_upto_region 2 with fail
 have HD3:=ak (HD.out.below mE)
 have fH:=ak (Below.step HA.out mE)
 have bX:=ak (ay mE aO.out)
 have Sc:=ak (ay mE iX.out)
 have hs3:=mE.size
 have Sd:Hid (us≠[]→oa=some ⟨gk,0,none⟩∧bS 135 2 eX w3 gk cp (us.map fun u=>(b.valid,u)) [] 0):=fun hne=>by
  have hk:((b.ah.map fun m=>m.uid).map fun u=>(b.valid,u))≠[]:=fun e=>hne (by have hge:=R7.out;rw [e] at hge;simpa using hge.symm)
  exact ⟨(CR.out hk).1,rD hk⟩
 have aiq:w1.heap.size≤gk:=tK
 clear rD hG3 CS CR KQ mE lU qJ dA HD HA aO iX R7 hlb D1 tK
 by_cases hL0:L=0
 ·have e0:((L:Int) == 0)=true:=by simp [hL0]
  have bI:Hid (res=(a,aQ 0 0)):=by
   show _=_
   rw [bN.out]
   unfold iD
   rw [if_pos (by rw [nC.out];exact hL0)]
   exact Prod.ext (Gg hb) rfl
  clear hL0
  have HF:=ak (HD3.out.done (n:=n) (fun k hk=>.inl hk) (fT fH.out) (by omega) bX.out (fun hS=>by have:=HSL.out _ hS;omega) hw0 (by omega) (c:=0) (x:=0) ⟨by decide,by decide⟩ aI)
  obtain ⟨yz,yl,y0,y1,y2,y3,y4,y5,y6,y7,y8,y9⟩:=eT bX.out
  go_wp2
  have ff:=aM HF.out.1
  refine bodyPost_ret (v:=aY 0 0) (by simp [results,Tryz.results81,aY,go_sem,ff]) rfl ⟨aY 0 0,rfl,?_⟩
  rw [bI.out]
  exact HF.out.2
 ·have e0:((L:Int) == 0)=false:=by simpa using hL0
  obtain ⟨fF,cap',yF,wI,f',gM,-,-,hlb,hgs,fz,⟨-,-,-,c3,-⟩,-,-,-,-,-,jq,-⟩:=HD3.out.read hb
  rw [hu] at gM
  simp only [Value.slice.injEq,Option.some.injEq,Addr.mk.injEq,and_true,true_and] at gM
  obtain ⟨rfl,rfl⟩:=gM
  by_cases hq:b.seq=1000000
  ·have e2:(b.seq == 1000000)=true:=by simpa using hq
   have bI:Hid (res=(a,aQ 3 0)):=by
    show _=_
    rw [bN.out]
    unfold iD
    rw [if_neg (by rw [nC.out];exact hL0),if_pos (by omega)]
    exact Prod.ext (Gg hb) rfl
   clear hL0 hq
   have HF:=ak (HD3.out.done (n:=n) (fun k hk=>.inl hk) (fT fH.out) (by omega) bX.out (fun hS=>by have:=HSL.out _ hS;omega) hw0 (by omega) (c:=3) (x:=0) ⟨by decide,by decide⟩ aI)
   obtain ⟨yz,yl,y0,y1,y2,y3,y4,y5,y6,y7,y8,y9⟩:=eT bX.out
   go_wp2
   have ff:=aM HF.out.1
   refine bodyPost_ret (v:=aY 3 0) (by simp [results,Tryz.results81,aY,go_sem,ff]) rfl ⟨aY 3 0,rfl,?_⟩
   rw [bI.out]
   exact HF.out.2
  ·have e2:(b.seq == 1000000)=false:=by simpa using hq
   have bI:Hid (res=(aL a i (us.foldl yC (bH b)),aQ 0 L)):=by
    show _=_
    rw [bN.out]
    unfold iD
    rw [if_neg (by rw [nC.out];exact hL0),if_neg (by omega),nC.out,abl HE.out.sorted,KP.out]
   obtain ⟨rfl,rD⟩:=Sd.out (fun e=>hL0 (by rw [← HL.out,e];rfl))
   have hil:=(gs1 hb).1
   have jl:=jq.1
   have j3:aB (b.seq+1):=⟨by omega,by omega⟩
   have hgw:=HSL.out _ hgs
   have HD4:=ak (HD3.out.uN hb hu j3)
   have fV:=ak (yE (v:=.int .i64 (b.seq+1)) (j:=i * 7+3) HD3.out hu hil (fun k hk=>.inl hk) (fT fH.out (S:=S) (gd:=gd) (g:=g)))
   have dW:=ak (bP (k:=gb) (i:=i * 7+3) (v:=.int .i64 (b.seq+1)) bX.out (by omega))
   have KS:=ak (bP (k:=gb) (i:=i * 7+3) (v:=.int .i64 (b.seq+1)) Sc.out (by omega))
   have KT:Hid (bS 135 2 eX (w3.setCell ⟨gb,i * 7+3,none⟩ (.int .i64 (b.seq+1))) gk cp (us.map fun u=>(b.valid,u)) [] 0):=rD.same (Below.heap_setCell _ _ _ _ (show gk≠gb by omega))
   have qE:(w3.setCell ⟨gb,i * 7+3,none⟩ (.int .i64 (b.seq+1))).heap.size=w3.heap.size:=aZ
   have abo:gk < w3.heap.size:=rD.lt
   clear rD Sd hL0 hq bN nC hgs
   go_upto_region 7 with fail
   clear c3 fz hlb
   generalize w3.setCell ⟨gb,i * 7+3,none⟩ (.int .i64 (b.seq+1))=w4 at HD4 fV dW KS KT qE ⊢
   have HX0:Hid (Exp (bH b) (bH b) us 0):=⟨rfl,rfl,rfl,hgl,fun u hu=>by
    rw [List.drop_zero,← KP.out] at hu
    obtain ⟨m,hm,rfl⟩:=List.mem_map.1 hu
    exact ⟨m,(List.mem_filter.1 hm).1,rfl⟩⟩
   have HPW:Hid (us.Pairwise (· < ·)):=by
    show _
    rw [← KP.out]
    exact List.pairwise_map.2 (HE.out.sorted.sublist List.filter_sublist)
   clear HD3 fH bX Sc
   go_wp2
   go_loopw [7,38] (fun _ iv wr=>∃ k:Nat,k≤L∧iv=.int .i64 k∧Hid (∃ S' E' bk,aW wt wr S' gd g n (aL a i bk) u0 u1 E'∧(∀ q,S' q→S q∨w3.heap.size≤q)∧Exp (bH b) bk us k)∧Hid (iU w wr S gd g)∧Hid (bS 135 2 eX wr gk cp (us.map fun u=>(b.valid,u)) [] 0)∧Hid (wr.heap[w.heap.size]?=some (.cells #[.pointer (some ⟨gd,0,none⟩)] 64 (0,0)))∧Hid (wr.heap[w.heap.size+1]?=some (.cells #[.int .i64 0,.int .i64 0,.slice none 0 0,.int .i64 0,.int .i64 0,.int .i64 0,.slice none 0 0,.slice none 0 0,.int .i64 0,.slice none 0 0] 40 (0,0)))∧w3.heap.size≤wr.heap.size) (fun _ iv _=>L - (intOf iv).toNat)
   case atStart=>exact ⟨0,Nat.zero_le _,rfl,⟨S,E,bH b,HD4.out,fun q hq=>.inl hq,HX0.out⟩,fV.out,KT.out,KS.out,dW.out,by omega⟩
   case round =>
    obtain ⟨k,KU,rfl,hX,hT,kW,Aj,GD,hsz⟩:=hrel
    clear HD4 fV KT KS dW
    by_cases hlt:k < L
    ·obtain ⟨S',E',bk,hD,hS',qI⟩:=hX.out
     have CW:us[k]?=some (us[k]'(by rw [HL.out];exact hlt)):=aK _
     generalize us[k]'(by rw [HL.out];exact hlt)=u at CW
     obtain ⟨m,hmm,rfl⟩:=qI.left u (by rw [List.drop_eq_getElem_cons (by rw [HL.out];exact hlt)];have:=(gs1 CW).2;rw [this];exact List.mem_cons_self ..)
     obtain ⟨j,hj⟩:=List.mem_iff_getElem?.1 hmm
     have hbk:(aL a i bk).boxes[i]?=some bk:=List.getElem?_set_self hil
     have hso:=(hD.ents bk (List.mem_of_getElem? hbk)).sorted
     have A5:Below wr.heap.size wr (wr.alloc (.cells #[.int .i64 b.valid,.int .i64 m.uid] 135)):=bn _ _
     have KV:=QY wt _ S' gd g n i j gb cap (aL a i bk) bk m u0 u1 E' (hD.below A5) hbk (by rw [hu];simp [aL]) hj qI.au
     rw [show bk.valid=b.valid from qI.valid] at KV
     have yN:=ak KV
     have hK1:(us.map fun u=>(b.valid,u))[k]?=some (b.valid,m.uid):=by rw [List.getElem?_map,CW];rfl
     have q0:wr.cell? ⟨gk,k * 2,none⟩=some (.int .i64 b.valid):=kW.out.OY hK1 (k:=0) rfl
     have q1:wr.cell? ⟨gk,k * 2+1,none⟩=some (.int .i64 m.uid):=kW.out.OY hK1 (k:=1) rfl
     have abq:=kW.out.lt
     have hkd:=ay A5 Aj.out
     have p0:(wr.alloc (.cells #[.int .i64 b.valid,.int .i64 m.uid] 135)).cell? ⟨w.heap.size,0,none⟩=some (.pointer (some ⟨gd,0,none⟩)):=(cell_of_row _ _ 0 _ _ (0,0) hkd).trans rfl
     have kg:=ak A5
     have HST:=ak (qI.step hso HPW.out CW hj)
     have zT:=ak hS'
     have og:=ak (hD.below A5)
     have hki:(k:Int) < L:=by omega
     have wW:(wr.alloc (.cells #[.int .i64 b.valid,.int .i64 m.uid] 135)).heap.size=wr.heap.size+1:=by simp
     have kQ:=ak (ay A5 GD.out)
     have KW:=ak hkd
     have KY:=ak (kW.out.same (A5.block gk abq))
     obtain ⟨t0,t1⟩:=oI (aV wr (.cells #[.int .i64 b.valid,.int .i64 m.uid] 135))
     have htl:=lt_of_heap (aV wr (.cells #[.int .i64 b.valid,.int .i64 m.uid] 135))
     clear hX qI hD hS' KV hK1 hbk hso CW hmm hj A5 hkd GD Aj
     go_upto_region 10 with fail
     generalize wr.alloc (.cells #[.int .i64 b.valid,.int .i64 m.uid] 135)=w5 at yN p0 kg og wW kQ KW KY t0 t1 htl ⊢
     go_wp2_with fail
     refine yN.out.mono ?_
     rintro e w6 ⟨rfl,S6,hD6,Sg,rF⟩
     have hoth:∀ q (o:Obj),w5.heap[q]?=some o→q≠gd→q≠g→w.heap.size≤q→q < w3.heap.size→w6.heap[q]?=some o:=fun q o hq h1 h2 h3 h4=>(rF.2.1 q (lt_of_heap hq) h1 h2 (fun hS=>(zT.out q hS).elim (fun h=>by have:=HSL.out q h;omega) (by omega))).trans hq
     have o1:=og.out.off kQ.out (by decide) (by decide)
     have o2:=og.out.off KW.out (by decide) (by decide)
     obtain ⟨cur,uO,-⟩:=KY.out
     have o3:=og.out.off uO (by decide) (by decide)
     have iQ:=ak (hoth _ _ kQ.out o1.1 o1.2.1 (by omega) (by omega))
     have abr:=ak (hoth _ _ KW.out o2.1 o2.2.1 (by omega) (by omega))
     have abt:=ak (KY.out.same ((hoth _ _ uO o3.1 o3.2.1 (by omega) abo).trans uO.symm))
     have wD:Hid (∃ S' E' bk,aW wt w6 S' gd g n (aL a i bk) u0 u1 E'∧(∀ q,S' q→S q∨w3.heap.size≤q)∧Exp (bH b) bk us (k+1)):=by
      have e:aL (aL a i bk) i (bG bk j)=aL a i (bG bk j):=by simp only [aL,List.set_set]
      rw [e] at hD6
      exact ⟨S6,_,_,hD6,fun q hq=>(Sg q hq).elim (zT.out q) (fun h=>.inr (by omega)),HST.out⟩
     have lS:=ak ((hT.out.trans (fT kg.out) (S':=S) (fun k hk=>.inl hk)).trans rF (fun q hq=>(zT.out q hq).imp id (by omega)))
     have hs6:=rF.1
     clear hD6 Sg rF hoth o1 o2 o3 uO yN p0 t0 t1 htl og zT HST q0 q1
     go_wp2
     go_roundw
     case rel=>exact ⟨k+1,by omega,by go_num,wD.out,lS.out,abt.out,abr.out,iQ.out,by omega⟩
     case measure=>simp [intOf];omega
    ·obtain rfl:k=L:=by omega
     obtain ⟨S',E',bk,hD,hS',qI⟩:=hX.out
     have hbk:bk=us.foldl yC (bH b):=by
      have:=qI.eq
      rwa [← HL.out,List.take_length] at this
     rw [hbk] at hD
     have kX:=ak hD
     have qK:=ak hS'
     have hiL:aB (k:Int):=⟨by omega,by omega⟩
     have hki:¬ (k:Int) < k:=by omega
     clear hX qI hD hS' hbk
     have HF:=ak (kX.out.done (n:=n) (fun q hq=>(qK.out q hq).imp id (by omega)) hT.out (by omega) GD.out (fun hS=>(qK.out _ hS).elim (fun h=>by have:=HSL.out _ h;omega) (by omega)) hw0 (by omega) (c:=0) (x:=(k:Int)) ⟨by decide,by decide⟩ hiL)
     obtain ⟨yz,yl,y0,y1,y2,y3,y4,y5,y6,y7,y8,y9⟩:=eT GD.out
     go_wp2
     have ff:=aM HF.out.1
     refine bodyPost_ret (v:=aY 0 (k:Int)) (by simp [results,Tryz.results81,aY,go_sem,ff]) rfl ⟨aY 0 (k:Int),rfl,?_⟩
     rw [bI.out]
     exact HF.out.2
/- What slices.IndexFunc and slices.ContainsFunc do of bytes, whatever function is handed in. -/
open Go.RowKit Go.Shelf
theorem abv (g:Nat) (lb:Array Value) (p:Int→Bool) (v:Value) (l:List Int) (w:World) (hv:Bs w v l) (eg:∀ args w,(callFunc g args).run Tryz.prog w=.ok (.enter g args) w)
  (hp:∀ x,0≤x→x≤255→Calls Tryz.prog g (#[.int .u8 x] ++ lb) w fun e w'=>e=.returned (.bool (p x))∧w'=w) :
  Calls Tryz.prog 143 #[v,.func (.func g) #[] lb] w fun e w'=>e=.returned (.int .i64 (bB p l))∧w'=w:=by
 obtain ⟨ho,a,cap,rfl,hlc,hcm,hnil,hcells⟩:=hv
 unfold maxLen at hcm
 go_enter Tryz.func143,Tryz.ntmps143
 go_wp2
 go_loop [5,8] (fun _ i=>∃ k:Nat,k≤l.length∧i=.int .i64 k∧Hid (∀ j,j < k→p (l.getD j 0)=false)) (fun _ i=>l.length - (intOf i).toNat)
 case atStart=>exact ⟨0,Nat.zero_le _,rfl,fun j hj=>absurd hj (Nat.not_lt_zero _)⟩
 case round =>
  obtain ⟨k,hk,rfl,hA⟩:=hrel
  by_cases hlt:k < l.length
  ·obtain ⟨b,off,rfl,hlb,hc⟩:=hcells (by omega)
   have hx:=hc k hlt
   have hbx:=IL ho k
   generalize hy:l.getD k 0=x at hx hbx
   have HX:Hid (l.getD k 0=x):=hy
   clear hy hc hcells
   have hcall:=hp x hbx.1 hbx.2
   clear hp
   cases hq:p x with
   | true =>
    rw [hq] at hcall
    go_wp2_with (go_at_fn g;refine hcall.mono ?_;rintro e w' ⟨rfl,rfl⟩)
    go_ret
    exact ⟨lI (Ye hlt (by rw [HX.out];exact hq) hA.out).symm,rfl⟩
   | false =>
    rw [hq] at hcall
    go_wp2_with (go_at_fn g;refine hcall.mono ?_;rintro e w' ⟨rfl,rfl⟩)
    go_round
    case rel =>
     refine ⟨k+1,by omega,by go_num,(show Hid _ from fun j hj=>?_)⟩
     by_cases e:j=k
     ·subst e;rw [HX.out];exact hq
     ·exact hA.out j (by omega)
    case measure=>simp [intOf];omega
  ·obtain rfl:k=l.length:=by omega
   go_wp2
   go_ret
   exact ⟨lI (Yf hA.out).symm,rfl⟩
theorem abw (g:Nat) (lb:Array Value) (p:Int→Bool) (v:Value) (l:List Int) (w:World) (hv:Bs w v l) (eg:∀ args w,(callFunc g args).run Tryz.prog w=.ok (.enter g args) w)
  (hp:∀ x,0≤x→x≤255→Calls Tryz.prog g (#[.int .u8 x] ++ lb) w fun e w'=>e=.returned (.bool (p x))∧w'=w) :
  Calls Tryz.prog 133 #[v,.func (.func g) #[] lb] w fun e w'=>e=.returned (.bool (l.any p))∧w'=w:=by
 have hi:=abv g lb p v l w hv eg hp
 have HF:Hid (l.any p=decide (0≤bB p l)):=Bu p l
 generalize bB p l=i at hi HF
 obtain ⟨ho,a,cap,rfl,-⟩:=hv
 clear hp
 go_enter Tryz.func133,Tryz.ntmps133
 go_wp2_with (go_at_call 143;refine hi.mono ?_;rintro e w' ⟨rfl,rfl⟩)
 go_ret
 exact ⟨aR HF.out,rfl⟩
/- What within, air, ais, ait, aiu of package impl do. -/
open Go.RowKit Go.Shelf
theorem abx {l:List Int} (h:fD l=true):l.length≤30:=by unfold fD at h;simp at h;exact h.1
theorem jJ (n lo hi:Int) (w:World) :
  Calls Tryz.prog 64 #[.int .i64 n,.int .i64 lo,.int .i64 hi] w fun e w'=>e=.returned (.bool (aS n lo hi))∧w'=w:=by
 by_cases h0:lo≤n
 ·by_cases h1:n≤hi
  ·go_enter Tryz.func64,Tryz.ntmps64
   go_wp2
   go_ret
   exact ⟨aR (by simp [aS,h0,h1]),rfl⟩
  ·go_enter Tryz.func64,Tryz.ntmps64
   go_wp2
   go_ret
   exact ⟨aR (by simp [aS,h1]),rfl⟩
 ·go_enter Tryz.func64,Tryz.ntmps64
  go_wp2
  go_ret
  exact ⟨aR (by simp [aS];omega),rfl⟩
theorem aby (x lo hi:Int) (b1 b2:Nat) (w:World) (c1:w.cell? ⟨b1,0,none⟩=some (.int .u8 lo)) (c2:w.cell? ⟨b2,0,none⟩=some (.int .u8 hi)) :
  Calls Tryz.prog 134 #[.int .u8 x,.pointer (some ⟨b1,0,none⟩),.pointer (some ⟨b2,0,none⟩)] w fun e w'=>e=.returned (.bool (decide (x < lo) || decide (hi < x)))∧w'=w:=by
 by_cases h0:x < lo
 ·go_enter Tryz.func134,Tryz.ntmps134
  go_wp2
  go_ret
  exact ⟨aR (by simp [h0]),rfl⟩
 ·go_enter Tryz.func134,Tryz.ntmps134
  go_wp2
  go_ret
  exact ⟨aR (by simp;omega),rfl⟩
theorem abz (lo hi:Int) (l:List Int):(!l.any fun x=>decide (x < lo) || decide (hi < x))=allIn lo hi l:=by
 induction l with
 | nil=>rfl
 | cons x l ih =>
  simp only [List.any_cons,allIn,List.all_cons,Bool.not_or]
  rw [ih]
  congr 1
  by_cases h0:x < lo <;> by_cases h1:hi < x <;> simp [h0,h1] <;> omega
theorem Si (v:Value) (l:List Int) (lo hi:Int) (w:World) (hv:Bs w v l) :
  Calls Tryz.prog 106 #[v,.int .u8 lo,.int .u8 hi] w fun e w'=>e=.returned (.bool (allIn lo hi l))∧Below w.heap.size w w':=by
 have bx:=gJ w (.cells #[.int .u8 lo] 5) (.cells #[.int .u8 hi] 5)
 have H:Hid (Calls Tryz.prog 133 #[v,.func (.func 134) #[] #[.pointer (some ⟨w.heap.size,0,none⟩),.pointer (some ⟨w.heap.size+1,0,none⟩)]] ((w.alloc (.cells #[.int .u8 lo] 5)).alloc (.cells #[.int .u8 hi] 5)) fun e w'=>e=.returned (.bool (l.any fun x=>decide (x < lo) || decide (hi < x)))∧w'=(w.alloc (.cells #[.int .u8 lo] 5)).alloc (.cells #[.int .u8 hi] 5)):=by
  refine abw _ _ _ v l _ (hv.below bx.2.2) (fun args w=>by kernel_rfl) fun x _ _=>aby x lo hi _ _ _ ?_ ?_
  ·rw [cell_of_row _ _ 0 _ _ (0,0) bx.1];rfl
  ·rw [cell_of_row _ _ 0 _ _ (0,0) bx.2.1];rfl
 have HA:=abz lo hi l
 have HB:Hid (Below w.heap.size w ((w.alloc (.cells #[.int .u8 lo] 5)).alloc (.cells #[.int .u8 hi] 5))):=bx.2.2
 generalize (l.any fun x=>decide (x < lo) || decide (hi < x))=X at H HA
 have HA':Hid ((!X)=allIn lo hi l):=HA
 clear HA bx
 obtain ⟨a,n,c,rfl⟩:=hv.aG
 clear hv
 go_enter Tryz.func106,Tryz.ntmps106
 go_wp2_with (go_at_call 133;refine H.out.mono ?_;rintro e w' ⟨rfl,rfl⟩)
 go_ret
 exact ⟨aR HA'.out.symm,HB.out⟩
theorem Sj (v:Value) (l:List Int) (w:World) (hv:Bs w v l) :
  Calls Tryz.prog 101 #[v] w fun e w'=>e=.returned (.bool (bZ l))∧Below w.heap.size w w':=by
 have H:Hid (Bs w v l):=hv
 obtain ⟨ho,a,cap,rfl,hlc,hcm,-⟩:=hv
 unfold maxLen at hcm
 by_cases h0:1≤l.length∧l.length≤6
 ·have e1:aS (l.length:Int) 1 6=true:=by simp [aS];omega
  have e2:Hid (bZ l=allIn 97 122 l):=by simp [Hid,bZ,h0.1,h0.2]
  have hw:=jJ (l.length:Int) 1 6
  rw [e1] at hw
  clear e1
  go_enter Tryz.func101,Tryz.ntmps101
  go_wp2_with (first | (go_at_call 64;refine (hw _).mono ?_;rintro e w' ⟨rfl,rfl⟩) | (go_at_call 106;refine (Si _ l 97 122 _ H.out).mono ?_;rintro e w1 ⟨rfl,B⟩))
  go_ret
  exact ⟨aR e2.out,B⟩
 ·have e1:aS (l.length:Int) 1 6=false:=by simp [aS];omega
  have e2:Hid (bZ l=false):=by
   simp only [Hid,bZ]
   by_cases h1:1≤l.length
   ·simp [show ¬ l.length≤6 by omega]
   ·simp [h1]
  have hw:=jJ (l.length:Int) 1 6
  rw [e1] at hw
  clear e1
  go_enter Tryz.func101,Tryz.ntmps101
  go_wp2_with (first | (go_at_call 64;refine (hw _).mono ?_;rintro e w' ⟨rfl,rfl⟩))
  go_ret
  exact ⟨aR e2.out,Below.refl _ _⟩
theorem Sk (v:Value) (l:List Int) (w:World) (hv:Bs w v l) :
  Calls Tryz.prog 72 #[v] w fun e w'=>e=.returned (.bool (fD l))∧Below w.heap.size w w':=by
 have H:Hid (Bs w v l):=hv
 obtain ⟨ho,a,cap,rfl,hlc,hcm,-⟩:=hv
 unfold maxLen at hcm
 by_cases h0:l.length≤30
 ·have e2:Hid (fD l=allIn 32 126 l):=by simp [Hid,fD,h0]
  go_enter Tryz.func72,Tryz.ntmps72
  go_wp2_with (first | (go_at_call 106;refine (Si _ l 32 126 _ H.out).mono ?_;rintro e w1 ⟨rfl,B⟩))
  go_ret
  exact ⟨aR e2.out,B⟩
 ·have e2:Hid (fD l=false):=by simp [Hid,fD,h0]
  go_enter Tryz.func72,Tryz.ntmps72
  go_wp2
  go_ret
  exact ⟨aR e2.out,Below.refl _ _⟩
/- What aiv and aiw of package impl do. -/
open Go.RowKit Go.Shelf
theorem abB (v:Value) (l:List Int) (w:World) (hv:dS w v l) :
  Calls Tryz.prog 65 #[v] w fun e w'=>e=.returned (.bool (qd l))∧w'=w:=by
 have HV:Hid (dS w v l):=hv
 obtain ⟨a,cap,rfl,hlc,hcm⟩:=hv.form
 clear hv
 by_cases h0:l.length≤60
 ·have HS:Hid (qd l=(List.range l.length).all (seenAt l)):=by simp [Hid,qd,h0]
  go_enter Tryz.func65,Tryz.ntmps65
  go_wp2
  go_loop [3,5,11] (fun q _ i=>∃ k:Nat,k≤l.length∧i=.int .i64 k∧q=.int .i64 (nS l k)∧Hid (∀ j,j < k→seenAt l j=true)) (fun _ _ i=>l.length - (intOf i).toNat)
  case atStart=>exact ⟨0,Nat.zero_le _,rfl,rfl,fun j hj=>absurd hj (Nat.not_lt_zero _)⟩
  case round =>
   obtain ⟨k,hk,rfl,rfl,hA⟩:=hrel
   by_cases hlt:k < l.length
   ·obtain ⟨x,hx⟩:∃ x,l[k]?=some x:=⟨l[k],aK hlt⟩
    obtain ⟨b,off,cap',hv',hlb,d0,i0⟩:=dS.cell HV.out k x hx
    simp only [Value.slice.injEq,true_and] at hv'
    obtain ⟨rfl,rfl⟩:=hv'
    have hp:=Pm hk hA.out
    have HD:Hid (l.getD k 0=x):=by simp [Hid,List.getD,hx]
    have HE:Hid (seenAt l k=aS x (nS l k+1) 1000000):=by show seenAt l k=_;unfold seenAt;rw [HD.out]
    generalize hQ:nS l k=q at hp HE
    clear hQ
    obtain ⟨hp0,hp1,-⟩:=hp
    have hcall:=jJ x (q+1) 1000000
    generalize hX:aS x (q+1) 1000000=X at hcall HE
    clear hX hx
    cases X with
    | true =>
     go_wp2_with (go_at_call 64;refine (hcall _).mono ?_;rintro e w' ⟨rfl,rfl⟩)
     go_round
     case rel =>
      refine ⟨k+1,by omega,by go_num,by simp only [nS];rw [HD.out],(show Hid _ from fun j hj=>?_)⟩
      by_cases e:j=k
      ·subst e;exact HE.out
      ·exact hA.out j (by omega)
     case measure=>simp [intOf];omega
    | false =>
     go_wp2_with (go_at_call 64;refine (hcall _).mono ?_;rintro e w' ⟨rfl,rfl⟩)
     go_ret
     exact ⟨aR (by rw [HS.out];exact iq k hlt HE.out),rfl⟩
   ·obtain rfl:k=l.length:=by omega
    go_wp2
    go_ret
    exact ⟨aR (by rw [HS.out];exact uE hA.out),rfl⟩
 ·have HS:Hid (qd l=false):=by simp [Hid,qd,h0]
  go_enter Tryz.func65,Tryz.ntmps65
  go_wp2
  go_ret
  exact ⟨aR HS.out,rfl⟩
theorem abC (v:Value) (x:aD) (w:World) (hv:bK w v x) (hn0:1≤x.next) (hn1:x.next≤1000000) :
  Calls Tryz.prog 102 #[v] w fun e w'=>e=.returned (.bool (qg x))∧Below w.heap.size w w':=by
 obtain ⟨u0,u1,u2,rfl,g0,g1,g2,i0,i1,i2,i3⟩:=hv
 have H0:Hid (∀ wi,Below w.heap.size w wi→Bs wi u0 x.name∧bY wi u1 x.ah∧bO wi u2 x.au):=fun wi h=>⟨g0.below h,g1.below eU h,g2.below dY h⟩
 obtain ⟨a0,n0,c0,rfl⟩:=g0.aG
 obtain ⟨a1,c1,rfl,m0,m1⟩:=g1.form
 obtain ⟨a2,c2,rfl,m2,m3⟩:=g2.form
 clear g0 g1 g2
 have kA:=aV w (.cells #[.slice a0 n0 c0,.int .i64 x.valid,.int .i64 x.next,.int .i64 x.seq,.slice a1 x.ah.length c1,.slice a2 x.au.length c2,.int .i64 x.lost] 37)
 have X:Below w.heap.size w (w.alloc (.cells #[.slice a0 n0 c0,.int .i64 x.valid,.int .i64 x.next,.int .i64 x.seq,.slice a1 x.ah.length c1,.slice a2 x.au.length c2,.int .i64 x.lost] 37)):=bn _ _
 by_cases h0:x.ah.length≤12
 ·have HS:Hid (qg x=(List.range x.ah.length).all (nT x)):=by simp [Hid,qg,h0]
  have HK:Hid ((w.alloc (.cells #[.slice a0 n0 c0,.int .i64 x.valid,.int .i64 x.next,.int .i64 x.seq,.slice a1 x.ah.length c1,.slice a2 x.au.length c2,.int .i64 x.lost] 37)).heap[w.heap.size]?=some (.cells #[.slice a0 n0 c0,.int .i64 x.valid,.int .i64 x.next,.int .i64 x.seq,.slice a1 x.ah.length c1,.slice a2 x.au.length c2,.int .i64 x.lost] 37)):=kA
  have HX:Hid (Below w.heap.size w (w.alloc (.cells #[.slice a0 n0 c0,.int .i64 x.valid,.int .i64 x.next,.int .i64 x.seq,.slice a1 x.ah.length c1,.slice a2 x.au.length c2,.int .i64 x.lost] 37))):=X
  clear kA X
  go_enter Tryz.func102,Tryz.ntmps102
  go_wp2
  go_loopw [3,5,13] (fun q _ i wr=>∃ k:Nat,k≤x.ah.length∧i=.int .i64 k∧q=.int .i64 (mg x.ah k)∧Hid (∀ j,j < k→nT x j=true)∧Hid (wr.heap[w.heap.size]?=some (.cells #[.slice a0 n0 c0,.int .i64 x.valid,.int .i64 x.next,.int .i64 x.seq,.slice a1 x.ah.length c1,.slice a2 x.au.length c2,.int .i64 x.lost] 37))∧Hid (Below w.heap.size w wr)) (fun _ _ i _=>x.ah.length - (intOf i).toNat)
  case atStart=>exact ⟨0,Nat.zero_le _,rfl,rfl,(fun j hj=>absurd hj (Nat.not_lt_zero _)),HK,HX⟩
  case round =>
   obtain ⟨k,hk,rfl,rfl,hA,hK,hB⟩:=hrel
   by_cases hlt:k < x.ah.length
   ·obtain ⟨m,hm⟩:∃ m,x.ah[k]?=some m:=⟨x.ah[k],aK hlt⟩
    obtain ⟨b,off,cap',u,hv',hlb,d0,d1,d2,d3,hu,j0,j1,j2⟩:=bY.cell (H0.out wr hB.out).2.1 k m hm
    simp only [Value.slice.injEq,true_and] at hv'
    obtain ⟨rfl,rfl⟩:=hv'
    obtain ⟨ua,un,uc,rfl⟩:=hu.aG
    have hp:=Pn hn1 hk hA.out
    have HE:Hid (nT x k=(aS m.uid (mg x.ah k+1) (x.next - 1) && (aS m.flags 0 31 && (aS m.seq 1 x.seq && fD m.text)))):=by simp [Hid,nT,hm]
    have jw:Hid (mg x.ah (k+1)=m.uid):=by simp [Hid,mg,hm]
    generalize hQ:mg x.ah k=q at hp HE
    clear hQ hm
    obtain ⟨hp0,hp1⟩:=hp
    obtain ⟨uid,flags,seq,text⟩:=m
    simp only at d0 d1 d2 d3 hu j0 j1 j2 HE jw
    have c1':=jJ uid (q+1) (x.next - 1)
    have c2':=jJ flags 0 31
    have c3':=jJ seq 1 x.seq
    generalize aS uid (q+1) (x.next - 1)=X1 at c1' HE
    generalize aS flags 0 31=X2 at c2' HE
    generalize aS seq 1 x.seq=X3 at c3' HE
    have ab:Below wr.heap.size wr (wr.alloc (.cells #[.int .i64 uid,.int .i64 flags,.int .i64 seq,.slice ua un uc] 124)):=bn _ _
    have Ak:=Sk _ text _ (hu.below ab)
    generalize fD text=X4 at Ak HE
    have GH:=hK.out
    obtain ⟨e0,e1,e2,e3,e4,e5,e6⟩:=bF GH
    have hlA:=lt_of_heap GH
    have tL:Hid ((wr.alloc (.cells #[.int .i64 uid,.int .i64 flags,.int .i64 seq,.slice ua un uc] 124)).heap[wr.heap.size]?=some (.cells #[.int .i64 uid,.int .i64 flags,.int .i64 seq,.slice ua un uc] 124)):=aV wr _
    have gU:Hid ((wr.alloc (.cells #[.int .i64 uid,.int .i64 flags,.int .i64 seq,.slice ua un uc] 124)).heap[w.heap.size]?=some (.cells #[.slice a0 n0 c0,.int .i64 x.valid,.int .i64 x.next,.int .i64 x.seq,.slice (some ⟨b,off,none⟩) x.ah.length c1,.slice a2 x.au.length c2,.int .i64 x.lost] 37)):=uq GH _
    have HB1:Hid (Below w.heap.size w (wr.alloc (.cells #[.int .i64 uid,.int .i64 flags,.int .i64 seq,.slice ua un uc] 124))):=Below.step hB.out ab
    clear GH hu ab hK hB
    go_wp2_with fail
    refine (c1' _).mono ?_
    rintro e w' ⟨rfl,rfl⟩
    cases X1 with
    | false =>
     go_wp2
     go_ret
     exact ⟨aR (by rw [HS.out];exact iq k hlt HE.out),HB1.out⟩
    | true =>
    go_wp2_with fail
    refine (c2' _).mono ?_
    rintro e w' ⟨rfl,rfl⟩
    cases X2 with
    | false =>
     go_wp2
     go_ret
     exact ⟨aR (by rw [HS.out];exact iq k hlt HE.out),HB1.out⟩
    | true =>
    go_wp2_with fail
    refine (c3' _).mono ?_
    rintro e w' ⟨rfl,rfl⟩
    cases X3 with
    | false =>
     go_wp2
     go_ret
     exact ⟨aR (by rw [HS.out];exact iq k hlt HE.out),HB1.out⟩
    | true =>
    go_wp2_with fail
    refine Ak.mono ?_
    rintro e w2 ⟨rfl,B⟩
    have HB2:Hid (Below w.heap.size w w2):=Below.step HB1.out B
    have nG:Hid (w2.heap[w.heap.size]?=some (.cells #[.slice a0 n0 c0,.int .i64 x.valid,.int .i64 x.next,.int .i64 x.seq,.slice (some ⟨b,off,none⟩) x.ah.length c1,.slice a2 x.au.length c2,.int .i64 x.lost] 37)):=ay B gU.out
    obtain ⟨t0,t1,t2,t3⟩:=gF (ay B tL.out)
    clear B HB1 gU tL
    cases X4 with
    | false =>
     go_wp2
     go_ret
     exact ⟨aR (by rw [HS.out];exact iq k hlt HE.out),HB2.out⟩
    | true =>
    go_wp2
    go_roundw
    case rel =>
     refine ⟨k+1,by omega,by go_num,by rw [jw.out],(show Hid _ from fun j hj=>?_),nG,HB2⟩
     by_cases e:j=k
     ·subst e;exact HE.out
     ·exact hA.out j (by omega)
    case measure=>simp [intOf];omega
   ·obtain rfl:k=x.ah.length:=by omega
    go_wp2
    go_ret
    exact ⟨aR (by rw [HS.out];exact uE hA.out),hB.out⟩
 ·have HS:Hid (qg x=false):=by simp [Hid,qg,h0]
  go_enter Tryz.func102,Tryz.ntmps102
  go_wp2
  go_ret
  exact ⟨aR HS.out,X⟩
/- What aix of package impl do. -/
open Go.RowKit Go.Shelf
theorem Rd.GI {α:Type} {sz:Nat} {E:World→List Value→α→Prop} {w:World} {a:Option Addr} {n cap:Nat} {l:List α} (h:Rd sz E w (.slice a n cap) l) (k:Nat) (hk:k≤l.length):Rd sz E w (.slice a k cap) (l.take k):=by
 obtain ⟨a',cap',cs,hv,h1,h2,h3,h4,h5⟩:=h
 simp only [Value.slice.injEq] at hv
 obtain ⟨rfl,-,rfl⟩:=hv
 have hl:(l.take k).length=k:=by simp;omega
 refine ⟨a,cap,cs,by rw [hl],by rw [hl];omega,h2,h3,fun i x hx=>?_,fun hp=>?_⟩
 ·rw [List.getElem?_take] at hx
  split at hx
  ·exact h4 i x hx
  ·cases hx
 ·rw [hl] at hp
  obtain ⟨b,off,ha,hlt,hc⟩:=h5 (by omega)
  exact ⟨b,off,ha,hlt,fun i j u hi hu=>hc i j u (by rw [hl] at hi;omega) hu⟩
theorem Sl (u:Value) (m:aF) (bg:Nat) (CX:Int) (w:World) (hu:gK w u m) (hc:w.cell? ⟨bg,0,none⟩=some (.int .i64 CX)) (hb:bg < w.heap.size) :
  Calls Tryz.prog 130 #[u,.pointer (some ⟨bg,0,none⟩)] w fun e w'=>e=.returned (.bool (decide (m.uid=CX)))∧Below w.heap.size w w':=by
 obtain ⟨u,rfl,h,-⟩:=hu
 obtain ⟨ua,un,uc,rfl⟩:=h.aG
 clear h
 obtain ⟨uid,flags,seq,text⟩:=m
 simp only
 go_enter Tryz.func130,Tryz.ntmps130
 go_wp2
 go_ret
 exact ⟨aR (by rw [Bool.eq_iff_iff];simp),bn _ _⟩
theorem Sm (u:Value) (m:bf) (bg:Nat) (CX:Int) (w:World) (hu:Ce w u m) (hc:w.cell? ⟨bg,0,none⟩=some (.int .i64 CX)) (hb:bg < w.heap.size) :
  Calls Tryz.prog 132 #[u,.pointer (some ⟨bg,0,none⟩)] w fun e w'=>e=.returned (.bool (decide (m.uid=CX)))∧Below w.heap.size w w':=by
 unfold Ce at hu
 subst hu
 obtain ⟨uid,seq⟩:=m
 simp only
 go_enter Tryz.func132,Tryz.ntmps132
 go_wp2
 go_ret
 exact ⟨aR (by rw [Bool.eq_iff_iff];simp),bn _ _⟩
theorem abD (v:Value) (x:aD) (w:World) (hv:bK w v x) (hn0:1≤x.next) (hn1:x.next≤1000000) :
  Calls Tryz.prog 103 #[v] w fun e w'=>e=.returned (.bool (oK x))∧Below w.heap.size w w':=by
 obtain ⟨u0,u1,u2,rfl,g0,g1,g2,i0,i1,i2,i3⟩:=hv
 have H0:Hid (∀ wi,Below w.heap.size w wi→Bs wi u0 x.name∧bY wi u1 x.ah∧bO wi u2 x.au):=fun wi h=>⟨g0.below h,g1.below eU h,g2.below dY h⟩
 obtain ⟨a0,n0,c0,rfl⟩:=g0.aG
 obtain ⟨a1,c1,rfl,m0,m1⟩:=g1.form
 obtain ⟨a2,c2,rfl,m2,m3⟩:=g2.form
 clear g0 g1 g2
 have kA:=aV w (.cells #[.slice a0 n0 c0,.int .i64 x.valid,.int .i64 x.next,.int .i64 x.seq,.slice a1 x.ah.length c1,.slice a2 x.au.length c2,.int .i64 x.lost] 37)
 have X:Below w.heap.size w (w.alloc (.cells #[.slice a0 n0 c0,.int .i64 x.valid,.int .i64 x.next,.int .i64 x.seq,.slice a1 x.ah.length c1,.slice a2 x.au.length c2,.int .i64 x.lost] 37)):=bn _ _
 by_cases h0:x.au.length≤40
 ·have HS:Hid (oK x=(List.range x.au.length).all (mh x)):=by simp [Hid,oK,h0]
  have HK:Hid ((w.alloc (.cells #[.slice a0 n0 c0,.int .i64 x.valid,.int .i64 x.next,.int .i64 x.seq,.slice a1 x.ah.length c1,.slice a2 x.au.length c2,.int .i64 x.lost] 37)).heap[w.heap.size]?=some (.cells #[.slice a0 n0 c0,.int .i64 x.valid,.int .i64 x.next,.int .i64 x.seq,.slice a1 x.ah.length c1,.slice a2 x.au.length c2,.int .i64 x.lost] 37)):=kA
  have HX:Hid (Below w.heap.size w (w.alloc (.cells #[.slice a0 n0 c0,.int .i64 x.valid,.int .i64 x.next,.int .i64 x.seq,.slice a1 x.ah.length c1,.slice a2 x.au.length c2,.int .i64 x.lost] 37))):=X
  clear kA X
  by_cases hml:1 < x.lost
  ·have aiy:Hid True:=trivial
   go_enter Tryz.func103,Tryz.ntmps103
   go_wp2
   go_loopw [3,4,5,16] (fun q _ _ i wr=>∃ k:Nat,k≤x.au.length∧i=.int .i64 k∧q=.int .i64 (minS x k)∧Hid (∀ j,j < k→mh x j=true)∧Hid (wr.heap[w.heap.size]?=some (.cells #[.slice a0 n0 c0,.int .i64 x.valid,.int .i64 x.next,.int .i64 x.seq,.slice a1 x.ah.length c1,.slice a2 x.au.length c2,.int .i64 x.lost] 37))∧Hid (Below w.heap.size w wr)) (fun _ _ _ i _=>x.au.length - (intOf i).toNat)
   case atStart=>exact ⟨0,Nat.zero_le _,rfl,by simp [minS] <;> omega,(fun j hj=>absurd hj (Nat.not_lt_zero _)),HK,HX⟩
   case round =>
    obtain ⟨k,hk,rfl,rfl,hA,hK,hB⟩:=hrel
    by_cases hlt:k < x.au.length
    ·obtain ⟨m,hm⟩:∃ m,x.au[k]?=some m:=⟨x.au[k],aK hlt⟩
     obtain ⟨b,off,cap',hv',hlb,d0,d1,j0,j1⟩:=bO.cell (H0.out wr hB.out).2.2 k m hm
     simp only [Value.slice.injEq,true_and] at hv'
     obtain ⟨rfl,rfl⟩:=hv'
     have HE:Hid (mh x k=(aS m.uid 1 (x.next - 1) && (aS m.seq (minS x k) x.seq && (!(x.ah.any fun o=>decide (o.uid=m.uid)) && !((x.au.take k).any fun o=>decide (o.uid=m.uid)))))):=by simp [Hid,mh,hm]
     have jw:Hid (minS x (k+1)=m.seq):=by simp [Hid,minS,hm]
     generalize hQ:minS x k=q at HE
     clear hQ hm
     obtain ⟨uid,seq⟩:=m
     simp only at d0 d1 j0 j1 HE jw
     have c1':=jJ uid 1 (x.next - 1)
     have c2':=jJ seq q x.seq
     generalize aS uid 1 (x.next - 1)=X1 at c1' HE
     generalize aS seq q x.seq=X2 at c2' HE
     have ku:Hid ((wr.alloc (.cells #[.int .i64 uid,.int .i64 seq] 126)).heap[wr.heap.size]?=some (.cells #[.int .i64 uid,.int .i64 seq] 126)):=aV wr _
     have gU:Hid ((wr.alloc (.cells #[.int .i64 uid,.int .i64 seq] 126)).heap[w.heap.size]?=some (.cells #[.slice a0 n0 c0,.int .i64 x.valid,.int .i64 x.next,.int .i64 x.seq,.slice a1 x.ah.length c1,.slice (some ⟨b,off,none⟩) x.au.length c2,.int .i64 x.lost] 37)):=uq hK.out _
     have HB1:Hid (Below w.heap.size w (wr.alloc (.cells #[.int .i64 uid,.int .i64 seq] 126))):=Below.step hB.out (bn _ _)
     have c3':=Qd 130 #[.pointer (some ⟨wr.heap.size,0,none⟩)] (fun o=>decide (o.uid=uid)) _ x.ah _ (H0.out _ HB1.out).2.1 (fun args w=>by kernel_rfl) (fun wi o u hbi hu=>Sl u o wr.heap.size uid wi hu (oI (ay hbi ku.out)).1 (lt_of_heap (ay hbi ku.out)))
     have qX:Hid (∀ wi,Below (wr.alloc (.cells #[.int .i64 uid,.int .i64 seq] 126)).heap.size (wr.alloc (.cells #[.int .i64 uid,.int .i64 seq] 126)) wi→Calls Tryz.prog 131 #[.slice (some ⟨b,off,none⟩) k c2,.func (.func 132) #[] #[.pointer (some ⟨wr.heap.size,0,none⟩)]] wi fun e w'=>e=.returned (.bool ((x.au.take k).any fun o=>decide (o.uid=uid)))∧Below wi.heap.size wi w'):=fun wi hbi =>
      Qe 132 #[.pointer (some ⟨wr.heap.size,0,none⟩)] (fun o=>decide (o.uid=uid)) _ (x.au.take k) _ (((H0.out _ (Below.step HB1.out hbi)).2.2).GI k hk) (fun args w=>by kernel_rfl) (fun wj o u hbj hu=>Sm u o wr.heap.size uid wj hu (oI (ay hbj (ay hbi ku.out))).1 (lt_of_heap (ay hbj (ay hbi ku.out))))
     generalize (x.ah.any fun o=>decide (o.uid=uid))=X3 at c3' HE
     generalize ((x.au.take k).any fun o=>decide (o.uid=uid))=X4 at qX HE
     obtain ⟨e0,e1,e2,e3,e4,e5,e6⟩:=bF hK.out
     have hlA:=lt_of_heap hK.out
     clear hK hB
     go_wp2_with fail
     refine (c1' _).mono ?_
     rintro e w' ⟨rfl,rfl⟩
     cases X1 with
     | false =>
      go_wp2
      go_ret
      exact ⟨aR (by rw [HS.out];exact iq k hlt HE.out),HB1.out⟩
     | true =>
     go_wp2_with fail
     refine (c2' _).mono ?_
     rintro e w' ⟨rfl,rfl⟩
     cases X2 with
     | false =>
      go_wp2
      go_ret
      exact ⟨aR (by rw [HS.out];exact iq k hlt HE.out),HB1.out⟩
     | true =>
     go_wp2_with fail
     refine c3'.mono ?_
     rintro e w2 ⟨rfl,B⟩
     have HB2:Hid (Below w.heap.size w w2):=Below.step HB1.out B
     have nG:Hid (w2.heap[w.heap.size]?=some (.cells #[.slice a0 n0 c0,.int .i64 x.valid,.int .i64 x.next,.int .i64 x.seq,.slice a1 x.ah.length c1,.slice (some ⟨b,off,none⟩) x.au.length c2,.int .i64 x.lost] 37)):=ay B gU.out
     have yS:Hid (w2.heap[wr.heap.size]?=some (.cells #[.int .i64 uid,.int .i64 seq] 126)):=ay B ku.out
     have Ak:=qX.out w2 B
     obtain ⟨t0,t1⟩:=oI yS.out
     obtain ⟨s0,s1,s2,s3,s4,s5,s6⟩:=bF nG.out
     clear B HB1 gU ku qX e0 e1 e2 e3 e4 e5 e6
     cases X3 with
     | true =>
      go_wp2
      go_ret
      exact ⟨aR (by rw [HS.out];exact iq k hlt HE.out),HB2.out⟩
     | false =>
     go_wp2_with fail
     refine Ak.mono ?_
     rintro e w3 ⟨rfl,B⟩
     have HB3:Hid (Below w.heap.size w w3):=Below.step HB2.out B
     have yT:Hid (w3.heap[w.heap.size]?=some (.cells #[.slice a0 n0 c0,.int .i64 x.valid,.int .i64 x.next,.int .i64 x.seq,.slice a1 x.ah.length c1,.slice (some ⟨b,off,none⟩) x.au.length c2,.int .i64 x.lost] 37)):=ay B nG.out
     clear t0 t1 s0 s1 s2 s3 s4 s5 s6
     obtain ⟨t0,t1⟩:=oI (ay B yS.out)
     clear B HB2 nG yS
     cases X4 with
     | true =>
      go_wp2
      go_ret
      exact ⟨aR (by rw [HS.out];exact iq k hlt HE.out),HB3.out⟩
     | false =>
     go_wp2
     go_roundw
     case rel =>
      refine ⟨k+1,by omega,by go_num,by rw [jw.out],(show Hid _ from fun j hj=>?_),yT,HB3⟩
      by_cases e:j=k
      ·subst e;exact HE.out
      ·exact hA.out j (by omega)
     case measure=>simp [intOf];omega
    ·obtain rfl:k=x.au.length:=by omega
     go_wp2
     go_ret
     exact ⟨aR (by rw [HS.out];exact uE hA.out),hB.out⟩
  ·have hml':x.lost≤1:=by omega
   clear hml
   go_enter Tryz.func103,Tryz.ntmps103
   go_wp2
   go_loopw [3,4,5,16] (fun q _ _ i wr=>∃ k:Nat,k≤x.au.length∧i=.int .i64 k∧q=.int .i64 (minS x k)∧Hid (∀ j,j < k→mh x j=true)∧Hid (wr.heap[w.heap.size]?=some (.cells #[.slice a0 n0 c0,.int .i64 x.valid,.int .i64 x.next,.int .i64 x.seq,.slice a1 x.ah.length c1,.slice a2 x.au.length c2,.int .i64 x.lost] 37))∧Hid (Below w.heap.size w wr)) (fun _ _ _ i _=>x.au.length - (intOf i).toNat)
   case atStart=>exact ⟨0,Nat.zero_le _,rfl,by simp [minS] <;> omega,(fun j hj=>absurd hj (Nat.not_lt_zero _)),HK,HX⟩
   case round =>
    obtain ⟨k,hk,rfl,rfl,hA,hK,hB⟩:=hrel
    by_cases hlt:k < x.au.length
    ·obtain ⟨m,hm⟩:∃ m,x.au[k]?=some m:=⟨x.au[k],aK hlt⟩
     obtain ⟨b,off,cap',hv',hlb,d0,d1,j0,j1⟩:=bO.cell (H0.out wr hB.out).2.2 k m hm
     simp only [Value.slice.injEq,true_and] at hv'
     obtain ⟨rfl,rfl⟩:=hv'
     have HE:Hid (mh x k=(aS m.uid 1 (x.next - 1) && (aS m.seq (minS x k) x.seq && (!(x.ah.any fun o=>decide (o.uid=m.uid)) && !((x.au.take k).any fun o=>decide (o.uid=m.uid)))))):=by simp [Hid,mh,hm]
     have jw:Hid (minS x (k+1)=m.seq):=by simp [Hid,minS,hm]
     generalize hQ:minS x k=q at HE
     clear hQ hm
     obtain ⟨uid,seq⟩:=m
     simp only at d0 d1 j0 j1 HE jw
     have c1':=jJ uid 1 (x.next - 1)
     have c2':=jJ seq q x.seq
     generalize aS uid 1 (x.next - 1)=X1 at c1' HE
     generalize aS seq q x.seq=X2 at c2' HE
     have ku:Hid ((wr.alloc (.cells #[.int .i64 uid,.int .i64 seq] 126)).heap[wr.heap.size]?=some (.cells #[.int .i64 uid,.int .i64 seq] 126)):=aV wr _
     have gU:Hid ((wr.alloc (.cells #[.int .i64 uid,.int .i64 seq] 126)).heap[w.heap.size]?=some (.cells #[.slice a0 n0 c0,.int .i64 x.valid,.int .i64 x.next,.int .i64 x.seq,.slice a1 x.ah.length c1,.slice (some ⟨b,off,none⟩) x.au.length c2,.int .i64 x.lost] 37)):=uq hK.out _
     have HB1:Hid (Below w.heap.size w (wr.alloc (.cells #[.int .i64 uid,.int .i64 seq] 126))):=Below.step hB.out (bn _ _)
     have c3':=Qd 130 #[.pointer (some ⟨wr.heap.size,0,none⟩)] (fun o=>decide (o.uid=uid)) _ x.ah _ (H0.out _ HB1.out).2.1 (fun args w=>by kernel_rfl) (fun wi o u hbi hu=>Sl u o wr.heap.size uid wi hu (oI (ay hbi ku.out)).1 (lt_of_heap (ay hbi ku.out)))
     have qX:Hid (∀ wi,Below (wr.alloc (.cells #[.int .i64 uid,.int .i64 seq] 126)).heap.size (wr.alloc (.cells #[.int .i64 uid,.int .i64 seq] 126)) wi→Calls Tryz.prog 131 #[.slice (some ⟨b,off,none⟩) k c2,.func (.func 132) #[] #[.pointer (some ⟨wr.heap.size,0,none⟩)]] wi fun e w'=>e=.returned (.bool ((x.au.take k).any fun o=>decide (o.uid=uid)))∧Below wi.heap.size wi w'):=fun wi hbi =>
      Qe 132 #[.pointer (some ⟨wr.heap.size,0,none⟩)] (fun o=>decide (o.uid=uid)) _ (x.au.take k) _ (((H0.out _ (Below.step HB1.out hbi)).2.2).GI k hk) (fun args w=>by kernel_rfl) (fun wj o u hbj hu=>Sm u o wr.heap.size uid wj hu (oI (ay hbj (ay hbi ku.out))).1 (lt_of_heap (ay hbj (ay hbi ku.out))))
     generalize (x.ah.any fun o=>decide (o.uid=uid))=X3 at c3' HE
     generalize ((x.au.take k).any fun o=>decide (o.uid=uid))=X4 at qX HE
     obtain ⟨e0,e1,e2,e3,e4,e5,e6⟩:=bF hK.out
     have hlA:=lt_of_heap hK.out
     clear hK hB
     go_wp2_with fail
     refine (c1' _).mono ?_
     rintro e w' ⟨rfl,rfl⟩
     cases X1 with
     | false =>
      go_wp2
      go_ret
      exact ⟨aR (by rw [HS.out];exact iq k hlt HE.out),HB1.out⟩
     | true =>
     go_wp2_with fail
     refine (c2' _).mono ?_
     rintro e w' ⟨rfl,rfl⟩
     cases X2 with
     | false =>
      go_wp2
      go_ret
      exact ⟨aR (by rw [HS.out];exact iq k hlt HE.out),HB1.out⟩
     | true =>
     go_wp2_with fail
     refine c3'.mono ?_
     rintro e w2 ⟨rfl,B⟩
     have HB2:Hid (Below w.heap.size w w2):=Below.step HB1.out B
     have nG:Hid (w2.heap[w.heap.size]?=some (.cells #[.slice a0 n0 c0,.int .i64 x.valid,.int .i64 x.next,.int .i64 x.seq,.slice a1 x.ah.length c1,.slice (some ⟨b,off,none⟩) x.au.length c2,.int .i64 x.lost] 37)):=ay B gU.out
     have yS:Hid (w2.heap[wr.heap.size]?=some (.cells #[.int .i64 uid,.int .i64 seq] 126)):=ay B ku.out
     have Ak:=qX.out w2 B
     obtain ⟨t0,t1⟩:=oI yS.out
     obtain ⟨s0,s1,s2,s3,s4,s5,s6⟩:=bF nG.out
     clear B HB1 gU ku qX e0 e1 e2 e3 e4 e5 e6
     cases X3 with
     | true =>
      go_wp2
      go_ret
      exact ⟨aR (by rw [HS.out];exact iq k hlt HE.out),HB2.out⟩
     | false =>
     go_wp2_with fail
     refine Ak.mono ?_
     rintro e w3 ⟨rfl,B⟩
     have HB3:Hid (Below w.heap.size w w3):=Below.step HB2.out B
     have yT:Hid (w3.heap[w.heap.size]?=some (.cells #[.slice a0 n0 c0,.int .i64 x.valid,.int .i64 x.next,.int .i64 x.seq,.slice a1 x.ah.length c1,.slice (some ⟨b,off,none⟩) x.au.length c2,.int .i64 x.lost] 37)):=ay B nG.out
     clear t0 t1 s0 s1 s2 s3 s4 s5 s6
     obtain ⟨t0,t1⟩:=oI (ay B yS.out)
     clear B HB2 nG yS
     cases X4 with
     | true =>
      go_wp2
      go_ret
      exact ⟨aR (by rw [HS.out];exact iq k hlt HE.out),HB3.out⟩
     | false =>
     go_wp2
     go_roundw
     case rel =>
      refine ⟨k+1,by omega,by go_num,by rw [jw.out],(show Hid _ from fun j hj=>?_),yT,HB3⟩
      by_cases e:j=k
      ·subst e;exact HE.out
      ·exact hA.out j (by omega)
     case measure=>simp [intOf];omega
    ·obtain rfl:k=x.au.length:=by omega
     go_wp2
     go_ret
     exact ⟨aR (by rw [HS.out];exact uE hA.out),hB.out⟩
 ·have HS:Hid (oK x=false):=by simp [Hid,oK,h0]
  go_enter Tryz.func103,Tryz.ntmps103
  go_wp2
  go_ret
  exact ⟨aR HS.out,X⟩
end Go.Proofs.YtlneebmlhblleaaGreat
