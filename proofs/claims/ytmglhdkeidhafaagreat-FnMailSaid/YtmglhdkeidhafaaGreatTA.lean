/- The proof's texts, part 36. -/
import Derived.Test.YtmglhdkeidhafaaGreatTz
namespace Go.Proofs.YtmglhdkeidhafaaGreat
open Go.RowKit
set_option linter.unusedVariables false
set_option linter.unusedSimpArgs false
set_option maxHeartbeats 8000000
set_option maxRecDepth 100000
/- remove of package oU gP. -/
theorem acf:(Tryz.f42.body.bind (bR 4)).all (fun o=>dW o 6 [0,1,2,3,4,5] [5] [5,6] 8)=true:=by kernel_rfl
theorem acg (wt w:World) (S:Nat→Prop) (gd g n k gb cap:Nat) (a:aF) (b:aA) (u0 u1:Value) (E:aU) (h:aT wt w S gd g n a u0 u1 E) (hb:a.boxes[k]?=some b) (hn:n≤1000000) (h12:b.ah.length≤12) (res:aF × dI) (hres:res=(⟨a.valid,a.boxes.take k ++ a.boxes.drop (k+1),a.seen⟩,aN 0 0)) :
  Calls Tryz.prog 42 #[.pointer (some ⟨gd,0,none⟩),.int .i64 b.valid] w fun e w'=>∃ v,e=.returned v∧dX w' w.heap.size w'.heap.size v res.2∧Left wt w w' S gd g n u1 res.1:=by
 obtain ⟨kV,kR,A2⟩:=iX w (.cells #[.int .i64 b.valid] 3) (.cells #[.int .i64 0,.int .i64 0,.slice none 0 0,.int .i64 0,.int .i64 0,.int .i64 0,.slice none 0 0,.slice none 0 0,.int .i64 0,.slice none 0 0] 37)
 have bJ:=ak hres
 have HD:=ak (h.below A2)
 have HA:=ak A2
 have pO:=ak kV
 have aQ:=ak kR
 have HSL:Hid (∀ k,S k→k < w.heap.size):=fun k hk=>(h.low k hk).2.1
 have xZ:Hid (gd < w.heap.size∧g < w.heap.size):=⟨lt_of_heap h.cells,h.map.lt⟩
 have hw0:=h.base.size
 have hkl:=(gs1 hb).1
 obtain ⟨_,_,_,_,_,-,-,-,-,-,-,-,-,-,-,j0,-⟩:=h.read hb
 have HJ:=ak j0
 have hzz:w.heap.size+2≤((w.alloc (.cells #[.int .i64 b.valid] 3)).alloc (.cells #[.int .i64 0,.int .i64 0,.slice none 0 0,.int .i64 0,.int .i64 0,.int .i64 0,.slice none 0 0,.slice none 0 0,.int .i64 0,.slice none 0 0] 37)).heap.size:=by simp
 clear h A2 kV kR hres j0
 go_enter Tryz.func42,Tryz.ntmps42
 go_upto_region 1 with fail
 generalize (w.alloc (.cells #[.int .i64 b.valid] 3)).alloc (.cells #[.int .i64 0,.int .i64 0,.slice none 0 0,.int .i64 0,.int .i64 0,.int .i64 0,.slice none 0 0,.slice none 0 0,.int .i64 0,.slice none 0 0] 37)=w1 at HD HA pO aQ hzz ⊢
 have hE:=HD.out.ents b (List.mem_of_getElem? hb)
 have DR:Below w1.heap.size w1 w1.drew:=(bd _ _)
 have HS:Hid (∀ w',Below w1.heap.size w1 w'→w'.cell? ⟨gd,2,none⟩=some (.map (some g))∧w'.cell? ⟨w.heap.size,0,none⟩=some (.int .i64 b.valid)):=fun w' hw=>⟨(cell_of_row _ gd 2 _ _ (0,0) (HD.out.below hw).cells).trans rfl,(cell_of_row _ _ 0 _ _ (0,0) (aB hw pO.out)).trans rfl⟩
 have HC:Hid (Calls Tryz.prog 70 #[.map (some g),.int .i64 b.valid] w1.drew fun e w'=>∃ oa gk cp,e=.returned (.slice oa b.ah.length cp)∧Below w1.heap.size w1 w'∧(b.ah≠[]→oa=some ⟨gk,0,none⟩∧bP 103 2 fB w' gk cp [] ((b.ah.map fun m=>m.uid).map fun u=>(b.valid,u)) 0)):=by
  refine (Ip g n E b.valid (b.ah.map fun m=>m.uid) w1.drew ((HD.out.below DR).map.mm (HD.out.below DR).base) (by omega) HJ.out (List.pairwise_map.2 hE.sorted) hE.mem (by simpa using h12)).mono ?_
  rintro e w' ⟨kv,rfl,zk,B2,hown⟩
  obtain ⟨oa,gk,cp,rfl,-,-,-,hoa⟩:=SE zk B2 hown
  exact ⟨oa,gk,cp,by simp,Below.step DR B2,fun hne=>hoa (by simpa using hne)⟩
 clear hE
 have hl1:gd < w1.drew.heap.size:=lt_of_heap HD.out.cells
 have hl2:w.heap.size < w1.drew.heap.size:=lt_of_heap pO.out
 go_region_held3 (fun w'=>w'.cell? ⟨gd,2,none⟩=some (.map (some g))∧w'.cell? ⟨w.heap.size,0,none⟩=some (.int .i64 b.valid))
  (first | exact HS.out _ DR | exact HS.out _ B1 | go_keep)
  ((go_at_call 70;refine HC.out.mono ?_;rintro e w2 ⟨oa,gk,cp,rfl,B1,hoa⟩))
 have HD2:=ak (HD.out.below B1)
 have HA2:=ak (Below.step HA.out B1)
 have ach:=ak (aB B1 pO.out)
 have cB:=ak (aB B1 aQ.out)
 have Db:=ak hoa
 have hs2:=B1.size
 clear hoa B1 HC HS HD HA pO aQ hl1 hl2 DR
 go_wp2
 go_loopw [6,14] (fun _ iv wr=>∃ j:Nat,j≤b.ah.length∧iv=.int .i64 j∧Hid (∃ E',aT wt wr S gd g n (aH a k ⟨b.name,b.valid,b.next,b.seq,b.ah.drop j,b.au,b.lost⟩) u0 u1 E')∧Hid (w2.grownBy wr (some g))) (fun _ iv _=>b.ah.length - (intOf iv).toNat)
 case atStart=>exact ⟨0,Nat.zero_le _,rfl,⟨E,(show aT _ _ _ _ _ _ _ _ _ _ by rw [show aH a k ⟨b.name,b.valid,b.next,b.seq,b.ah.drop 0,b.au,b.lost⟩=a from Fv hb];exact HD2.out)⟩,World.grownBy.refl _ _⟩
 case round =>
  obtain ⟨j,hj,rfl,hX,hG⟩:=hrel
  by_cases hlt:j < b.ah.length
  ·obtain ⟨m,hm⟩:∃ m,b.ah[j]?=some m:=⟨_,aL hlt⟩
   obtain ⟨rfl,qZ⟩:=Db.out (fun e=>by rw [e] at hlt;simp at hlt)
   obtain ⟨E',hD⟩:=hX.out
   have sW:gk≠g:=by
    obtain ⟨cur,hc,-⟩:=qZ
    exact (HD2.out.off hc (by decide) (by decide)).2.1
   have yF:=qZ.same (hG.out.block gk qZ.lt (fun e=>sW (Option.some.inj e)))
   have hK1:((b.ah.map fun m=>m.uid).map fun u=>(b.valid,u))[j]?=some (b.valid,m.uid):=by rw [List.map_map,List.getElem?_map,hm];rfl
   have q0:wr.cell? ⟨gk,j * 2,none⟩=some (.int .i64 b.valid):=yF.at hK1 (k:=0) rfl
   have q1:wr.cell? ⟨gk,j * 2+1,none⟩=some (.int .i64 m.uid):=yF.at hK1 (k:=1) rfl
   have hlr:=yF.lt
   have hji:(j:Int) < b.ah.length:=by omega
   have A5:Below wr.heap.size wr (wr.alloc (.cells #[.int .i64 b.valid,.int .i64 m.uid] 103)).drew:=(bn _ _).drew
   have h5:=hD.below A5
   have hkk:(wr.alloc (.cells #[.int .i64 b.valid,.int .i64 m.uid] 103)).drew.heap[wr.heap.size]?=some (.cells #[.int .i64 b.valid,.int .i64 m.uid] 103 (0,0)):=aW wr _
   have qQ:Hid ((wr.alloc (.cells #[.int .i64 b.valid,.int .i64 m.uid] 103)).drew |> fun w'=>w'.cell? ⟨gd,2,none⟩=some (.map (some g))∧w'.rangeAt wr.heap.size 0 [.int .i64 b.valid,.int .i64 m.uid]):=⟨(cell_of_row _ gd 2 _ _ (0,0) h5.cells).trans rfl,nk hkk⟩
   have hbj:(aH a k ⟨b.name,b.valid,b.next,b.seq,b.ah.drop j,b.au,b.lost⟩).boxes[k]?=some ⟨b.name,b.valid,b.next,b.seq,b.ah.drop j,b.au,b.lost⟩:=List.getElem?_set_self hkl
   have LA:=h5.ents _ (List.mem_of_getElem? hbj)
   have hm0:(b.ah.drop j)[0]?=some m:=by rw [List.getElem?_drop];simpa using hm
   obtain ⟨w6,hrun,hM,fJ⟩:=h5.map.drop HJ.out (LA.i64 m (List.mem_of_getElem? hm0)) 0
   have sP:=ak hrun
   have h6:=h5.mapped hbj fJ hM (ms:=b.ah.drop (j+1)) (by have:=LA.del hm0;simpa using this) (fun v ms hne he=>he.Pn hne) (fun e he=>h5.high e (List.mem_filter.1 he).1)
   have qC:Hid (∃ E',aT wt w6 S gd g n (aH a k ⟨b.name,b.valid,b.next,b.seq,b.ah.drop (j+1),b.au,b.lost⟩) u0 u1 E'):=⟨_,by
    have e:aH (aH a k ⟨b.name,b.valid,b.next,b.seq,b.ah.drop j,b.au,b.lost⟩) k ⟨b.name,b.valid,b.next,b.seq,b.ah.drop (j+1),b.au,b.lost⟩=aH a k ⟨b.name,b.valid,b.next,b.seq,b.ah.drop (j+1),b.au,b.lost⟩:=by simp only [aH,List.set_set]
    rw [← e]
    exact h6⟩
   have El:=ak (((xC hG.out A5)).trans fJ)
   have bE:=lt_of_heap h5.cells
   have R9:gd < (wr.alloc (.cells #[.int .i64 b.valid,.int .i64 m.uid] 103)).heap.size:=bE
   clear hX hD qZ yF hK1 sW h5 hkk hbj LA hm0 hrun hM fJ h6 A5 hm
   go_upto_region 4 with fail
   refine eO 5 (S:=fun w'=>w'.cell? ⟨gd,2,none⟩=some (.map (some g))∧w'.rangeAt wr.heap.size 0 [.int .i64 b.valid,.int .i64 m.uid]) (eH (by kernel_rfl) acf) (by kernel_rfl) qQ.out (fun aj hHeld=>?_)
   refine tks 0 0 18 aj hHeld ?_
   refine tks 1 1 19 aj hHeld ?_
   refine tks 2 2 20 aj hHeld ?_
   refine tks 3 3 21 aj hHeld ?_
   refine qp 4 4 22 103 (.tmp 6) wr.heap.size 0 [.int .i64 b.valid,.int .i64 m.uid] aj hHeld (fun w h=>h.2) pE ?_
   refine gH (S':=fun w'=>True) 5 6 aj (by decide) trivial (fun hHeld=>?_)
   refine cls 5 5 aj (by decide) rfl rfl (fun K hK=>?_)
   refine R4 _ _ rfl rfl rfl rfl sP.out ?_
   refine hK.out _ _ trivial (fun hHeld=>?_)
   clear hK K
   refine eP aj ?_
   clear qQ sP q0 q1 hlr bE R9
   go_wp2
   go_roundw
   case rel=>exact ⟨j+1,by omega,by go_num,qC.out,El.out⟩
   case measure=>simp [intOf];omega
  ·obtain rfl:j=b.ah.length:=by omega
   obtain ⟨E',hD⟩:=hX.out
   generalize hbL:(⟨b.name,b.valid,b.next,b.seq,b.ah.drop b.ah.length,b.au,b.lost⟩:aA)=bL at hD
   have hv:bL.valid=b.valid:=by rw [← hbL]
   have hbk:(aH a k bL).boxes[k]?=some bL:=List.getElem?_set_self hkl
   have hfl:((aH a k bL).boxes.filter fun x=>!(x.valid == b.valid))=a.boxes.take k ++ a.boxes.drop (k+1):=by
    have:=abh hD.dist hbk
    rw [hv] at this
    rw [this]
    simp only [aH]
    rw [← List.eraseIdx_eq_take_drop_succ,← List.eraseIdx_eq_take_drop_succ,List.eraseIdx_set_eq]
   have SN:=pI hG.out ach.out (by have:=xZ.out.2;omega)
   have SQ:=pI hG.out cB.out (by have:=xZ.out.2;omega)
   obtain ⟨dJ,cap',hu0,fE,LB⟩:=abf wr S u0 (aH a k bL).boxes b.valid w.heap.size hD.boxes (fun e=>by rw [e] at hbk;simp at hbk) (fun q hq=>(hD.low q hq).2.1) SN (fun hq=>by have:=HSL.out _ hq;omega)
   rw [hfl] at LB
   have hlow:=hD.low dJ fE
   have hgw:=HSL.out _ fE
   have d1:wr.cell? ⟨gd,1,none⟩=some u0:=(cell_of_row _ gd 1 _ _ (0,0) hD.cells).trans rfl
   have bE:=lt_of_heap hD.cells
   have hll:(aH a k bL).boxes.length=a.boxes.length:=by simp [aH]
   rw [hll] at hu0
   subst hu0
   have Dc:=ak LB
   have HD:=ak hD
   have yh:=ak hfl
   have HT:=ak (Fu (fZ HA2.out (S:=S) (gd:=gd) (g:=g)) hG.out)
   have cK:=ak SQ
   have hji:¬ (b.ah.length:Int) < b.ah.length:=by omega
   clear hX hD hbL hv hbk hfl SN SQ LB Db
   go_wp2_with fail
   refine Dc.out.mono ?_
   rintro e w5 ⟨rfl,iW,qd⟩
   have Df:=pI qd HD.out.cells (fun e=>hlow.2.2.1 e.symm)
   obtain ⟨x0,x1,x2,x3⟩:=iZ Df
   have xz:=(aZ Df).1
   have xl:=lt_of_heap Df
   generalize hNL:a.boxes.take k ++ a.boxes.drop (k+1)=NL at bJ yh iW ⊢
   clear hNL
   generalize hNN:NL.length=NN at iW ⊢
   clear hNN
   have fJ:∀ q,q≠gd→(w5.setCell ⟨gd,1,none⟩ (.slice (some ⟨dJ,0,none⟩) NN cap')).heap[q]?=w5.heap[q]?:=fun q hq=>Below.heap_setCell _ _ _ _ hq
   have hty:=HD.out.ty.2
   have hb5:Below wt.heap.size wt w5:=HD.out.base.grown qd HD.out.base.size (fun q hq=>by cases hq;exact hlow.1)
   have HD6:=ak (HD.out.CU (w':=w5.setCell ⟨gd,1,none⟩ (.slice (some ⟨dJ,0,none⟩) NN cap')) (S':=S) (u2:=(.slice (some ⟨dJ,0,none⟩) NN cap')) (v:=a.valid) (l:=NL) (hb5.setCell (p:=⟨gd,1,none⟩) HD.out.nH.1 (.slice (some ⟨dJ,0,none⟩) NN cap')) (by rw [bf];exact qd.size) (aJ (i:=1) (v:=(.slice (some ⟨dJ,0,none⟩) NN cap')) Df)
    (iW.frame mG fun q hq _=>fJ q (fun e=>(HD.out.low q hq).2.2.1 e))
    ((fJ g (fun e=>hty e.symm)).trans (qd.block g HD.out.map.lt (fun e=>hlow.2.2.2.1 (Option.some.inj e).symm)))
    (fun q hq hlt=>(fJ q (fun e=>by
     subst e
     rcases xO HD.out.seen with ⟨e',-⟩ | ⟨gs,e',_,_,ht⟩
     ·rw [e'] at hq;simp [Value.ownBlock] at hq
     ·rw [e'] at hq
      cases hq
      rw [HD.out.cells] at ht
      cases ht)).trans (qd.block q hlt (fun e=>by cases e;exact hlow.2.2.2.2 hq)))
    (fun q hq=>.inl hq) (fun x hx=>HD.out.ents x (by rw [← yh.out] at hx;exact (List.mem_filter.1 hx).1)) HD.out.high (by rw [← yh.out];exact HD.out.dist.sublist List.filter_sublist) HD.out.i64)
   have kU:Hid (iV w (w5.setCell ⟨gd,1,none⟩ (.slice (some ⟨dJ,0,none⟩) NN cap')) S gd g):=⟨by rw [bf];exact Nat.le_trans HT.out.1 qd.size,fun q h1 h2 h3 h4=>(fJ q h2).trans ((qd.block q (Nat.lt_of_lt_of_le h1 HT.out.1) (fun e=>h4 (by cases e;exact fE))).trans (HT.out.2.1 q h1 h2 h3 h4)),qd.os.trans HT.out.2.2.1,qd.tape.trans HT.out.2.2.2.1,qd.output.trans HT.out.2.2.2.2⟩
   have iU:=ak ((fJ _ (by have:=xZ.out.1;omega)).trans (pI qd cK.out (by omega)))
   clear fJ hty hb5 iW qd Df Dc HD HT cK
   go_upto_region 7 with fail
   clear x0 x1 x2 x3 xz xl d1
   generalize w5.setCell ⟨gd,1,none⟩ (.slice (some ⟨dJ,0,none⟩) NN cap')=w6 at HD6 kU iU ⊢
   have HF:=ak (HD6.out.done (n:=n) (fun k hk=>.inl hk) kU.out (by omega) iU.out (fun hS=>by have:=HSL.out _ hS;omega) hw0 (by omega) (c:=0) (x:=0) ⟨by decide,by decide⟩ aI)
   obtain ⟨yz,yl,y0,y1,y2,y3,y4,y5,y6,y7,y8,y9⟩:=gG iU.out
   go_wp2
   have ff:=aO HF.out.1
   refine bodyPost_ret (v:=aY 0 0) (by simp [results,Tryz.results42,aY,go_sem,ff]) rfl ⟨aY 0 0,rfl,?_⟩
   rw [bJ.out]
   exact HF.out.2
/- Fz of package oU gP. -/
open Go.RowKit Go.Shelf
theorem acn:(Tryz.f45.body.bind (bR 1)).all (fun o=>dW o 12 [0,1,2,3,4,5,6,7,9,8,10,11] [9,10] [12] 0)=true:=by kernel_rfl
theorem SS:∀ args w,(callFunc 77 args).run Tryz.prog w=.ok (.enter 77 args) w:=enters_of Tryz.func77 (by kernel_rfl) rfl
theorem aco (l:List bB):∀ lost:Int,(dw lost l).2.length≤40:=by
 induction l with
 | nil=>intro _;simp [dw]
 | cons x l ih =>
  intro lost
  rw [dw]
  split
  ·exact ih x.seq
  ·simp only [List.length_cons];omega
/-- What ag1 has done to a box so far, and what is left to go. -/
structure Exp (b bk:aA) (us:List Int) (k:Nat):Prop where
 eq:bk=(us.take k).foldl xM b
 valid:bk.valid=b.valid
 seq:bk.seq=b.seq
 au:bk.au.length≤1000
 left:∀ u ∈ us.drop k,∃ m ∈ bk.ah,m.uid=u
theorem Exp.step {b bk:aA} {us:List Int} {k j:Nat} {m:aC} (h:Exp b bk us k) (hs:mF bk.ah) (om:us.Pairwise (· < ·)) (hu:us[k]?=some m.uid) (hm:bk.ah[j]?=some m):Exp b (aV bk j) us (k+1):=by
 have hd:aV bk j=⟨bk.name,bk.valid,bk.next,bk.seq,bk.ah.take j ++ bk.ah.drop (j+1),(dw bk.lost (bk.au ++ [⟨m.uid,bk.seq⟩])).2,(dw bk.lost (bk.au ++ [⟨m.uid,bk.seq⟩])).1⟩:=by unfold aV;rw [hm]
 refine ⟨?_,by rw [hd];exact h.valid,by rw [hd];exact h.seq,by rw [hd];exact Nat.le_trans (aco _ _) (by omega),fun u hu'=>?_⟩
 ·rw [List.take_add_one,hu,List.foldl_append,← h.eq]
  exact (Pp hs hm).symm
 ·obtain ⟨x,hx,rfl⟩:=h.left u (by
   rw [← List.drop_drop] at hu'
   exact List.mem_of_mem_drop hu')
  refine ⟨x,?_,rfl⟩
  rw [IV hm,← List.eraseIdx_eq_take_drop_succ]
  obtain ⟨q,hq⟩:=List.mem_iff_getElem?.1 hx
  refine List.mem_eraseIdx_iff_getElem?.2 ⟨q,fun e=>?_,hq⟩
  subst e
  rw [hm] at hq
  cases hq
  obtain ⟨hk,e⟩:=gs1 hu
  obtain ⟨z,hz,e2⟩:=List.getElem_of_mem hu'
  rw [List.getElem_drop] at e2
  rw [List.length_drop] at hz
  have:=List.pairwise_iff_getElem.1 om k (k+1+z) hk (by omega) (by omega)
  omega
theorem acp {b:aA} (h:mF b.ah):gD b.ah.length (aX b) 0=((b.ah.filter fD).map fun m=>m.uid).foldl xM (aX b):=IW b.ah.length (aX b) 0 h rfl
theorem acr (wt w:World) (S:Nat→Prop) (gd g n i gb cap:Nat) (a:aF) (b:aA) (u0 u1:Value) (E:aU) (h:aT wt w S gd g n a u0 u1 E) (hb:a.boxes[i]?=some b) (hu:u0=.slice (some ⟨gb,0,none⟩) a.boxes.length cap) (hn:n≤1000000) (h12:b.ah.length≤12) (hgl:b.au.length≤1000) (qL:b.seq≤1000000) (res:aF × dI) (hres:res=(aH a i (gF b).1,(gF b).2)) :
  Calls Tryz.prog 45 #[.pointer (some ⟨gd,0,none⟩),.pointer (some ⟨gb,i * 7,none⟩)] w fun e w'=>∃ v,e=.returned v∧dX w' w.heap.size w'.heap.size v res.2∧Left wt w w' S gd g n u1 res.1:=by
 obtain ⟨kD,kR,A2⟩:=iX w (.cells #[.pointer (some ⟨gd,0,none⟩)] 48) (.cells #[.int .i64 0,.int .i64 0,.slice none 0 0,.int .i64 0,.int .i64 0,.int .i64 0,.slice none 0 0,.slice none 0 0,.int .i64 0,.slice none 0 0] 37)
 have bH:=ak hres
 have HD:=ak (h.below A2)
 have HA:=ak A2
 have j6:=ak kD
 have aQ:=ak kR
 have HSL:Hid (∀ k,S k→k < w.heap.size):=fun k hk=>(h.low k hk).2.1
 have hw0:=h.base.size
 have hzz:w.heap.size+2≤((w.alloc (.cells #[.pointer (some ⟨gd,0,none⟩)] 48)).alloc (.cells #[.int .i64 0,.int .i64 0,.slice none 0 0,.int .i64 0,.int .i64 0,.int .i64 0,.slice none 0 0,.slice none 0 0,.int .i64 0,.slice none 0 0] 37)).heap.size:=by simp
 clear h A2 kD kR hres
 go_enter Tryz.func45,Tryz.ntmps45
 go_upto_region 1 with fail
 generalize (w.alloc (.cells #[.pointer (some ⟨gd,0,none⟩)] 48)).alloc (.cells #[.int .i64 0,.int .i64 0,.slice none 0 0,.int .i64 0,.int .i64 0,.int .i64 0,.slice none 0 0,.slice none 0 0,.int .i64 0,.slice none 0 0] 37)=w1 at HD HA j6 aQ hzz ⊢
 obtain ⟨dJ,cap',v0,v5,f,e1,-,-,hlb,-,-,⟨-,c1,-⟩,-,-,-,j0,-⟩:=HD.out.read hb
 rw [hu] at e1
 simp only [Value.slice.injEq,Option.some.injEq,Addr.mk.injEq,and_true,true_and] at e1
 obtain ⟨rfl,rfl⟩:=e1
 have hE:=HD.out.ents b (List.mem_of_getElem? hb)
 have HE:=ak hE
 have D1:Below w1.heap.size w1 w1.drew:=(bd _ _)
 have dF:Hid (∀ w',Below w1.heap.size w1 w'→w'.cell? ⟨w.heap.size,0,none⟩=some (.pointer (some ⟨gd,0,none⟩))∧w'.cell? ⟨gd,2,none⟩=some (.map (some g))∧w'.cell? ⟨gb,i * 7+1,none⟩=some (.int .i64 b.valid)):=fun w' hw=>⟨(cell_of_row _ _ 0 _ _ (0,0) (aB hw j6.out)).trans rfl,(cell_of_row _ gd 2 _ _ (0,0) (HD.out.below hw).cells).trans rfl,(hw.cell (p:=⟨gb,_,none⟩) hlb).trans c1⟩
 have pX:=ak (Ip g n E b.valid (b.ah.map fun m=>m.uid) w1.drew ((HD.out.below D1).map.mm (HD.out.below D1).base) (by omega) j0 (List.pairwise_map.2 hE.sorted) hE.mem (by simpa using h12))
 have lg:Hid (∀ w2 gk wi x,Below w1.heap.size w1 w2→w1.heap.size≤gk→w2.grownBy wi (some gk)→x ∈ ((b.ah.map fun m=>m.uid).map fun u=>(b.valid,u))→Calls Tryz.prog 77 (#[.agg #[.int .i64 x.1,.int .i64 x.2]] ++ #[.pointer (some ⟨w.heap.size,0,none⟩)]) wi fun e w'=>e=.returned (.bool (sV E x))∧Below wi.heap.size wi w'):=by
  intro w2 gk wi x hb2 sW hw hx
  have hbi:Below w1.heap.size w1 wi:=hb2.grown hw hb2.size (fun k hk=>by cases hk;exact sW)
  obtain ⟨u,hu',rfl⟩:=List.mem_map.1 hx
  obtain ⟨m,hm,rfl⟩:=List.mem_map.1 hu'
  exact abU wi w.heap.size gd g n E b.valid b.ah m (dF.out wi hbi).1 (fun w' hw'=>⟨(dF.out w' (Below.step hbi hw')).2.1,(dF.out w' (Below.step hbi hw')).1,(HD.out.below (Below.step hbi hw')).map.mm (HD.out.below (Below.step hbi hw')).base⟩) hE hm
 clear c1 j0 hE
 refine eO 12 (S:=fun w'=>w'.cell? ⟨w.heap.size,0,none⟩=some (.pointer (some ⟨gd,0,none⟩))∧w'.cell? ⟨gd,2,none⟩=some (.map (some g))∧w'.cell? ⟨gb,i * 7+1,none⟩=some (.int .i64 b.valid)) (eH (by kernel_rfl) acn) (by kernel_rfl) (dF.out _ D1) (fun aj ahz=>?_)
 refine tks 0 0 8 aj ahz ?_
 refine tks 1 1 9 aj ahz ?_
 refine tks 2 2 10 aj ahz ?_
 refine tks 3 3 11 aj ahz ?_
 refine tks 4 4 12 aj ahz ?_
 refine tks 5 5 13 aj ahz ?_
 refine tks 6 6 14 aj ahz ?_
 refine tks 7 7 15 aj ahz ?_
 refine tks 8 9 17 aj ahz ?_
 refine cls 9 8 aj (by decide) rfl rfl (fun K hK=>?_)
 go_simp
 refine pX.out.mono ?_
 rintro e w2 ⟨kv,rfl,zk,B2,hown⟩
 obtain ⟨oa,gk,cp,rfl,sW,hlc,hcm,hoa⟩:=SE zk B2 hown
 have Dg:=Below.step D1 B2
 refine hK.out _ _ (dF.out _ Dg) (fun ahz=>?_)
 clear hK K
 have HP:=lg.out w2 gk
 have FZ:=abN 77 #[.pointer (some ⟨w.heap.size,0,none⟩)] (sV E) oa gk cp ((b.ah.map fun m=>m.uid).map fun u=>(b.valid,u)) w2 hoa hlc hcm SS (fun wi x hw hx=>HP wi x Dg sW hw hx)
 have SV:=abO 77 #[.pointer (some ⟨w.heap.size,0,none⟩)] (sV E) oa gk cp ((b.ah.map fun m=>m.uid).map fun u=>(b.valid,u)) w2 hoa hlc hcm SS (fun wi x hw hx=>HP wi x Dg sW hw hx)
 have zT:=SV FZ
 have hge:=abS HE.out
 rw [hge] at zT
 generalize om:(b.ah.filter fD).map (fun m=>m.uid)=us at zT hge
 simp only [List.length_map] at zT
 have LC:=ak om
 have mK:Hid (b.ah.countP fD=us.length):=by show _=_;rw [← om,List.length_map,List.countP_eq_length_filter]
 have hlu:us.length≤12:=by rw [← om,List.length_map];exact Nat.le_trans (List.length_filter_le _ _) h12
 have SX:=ak hge
 generalize hg0:us.length=L at zT mK hlu
 have HL:=ak hg0
 have Dc:=ak zT
 clear om hge hg0
 have Db:=ak hoa
 have LD:=ak Dg
 clear HP FZ SV zT hoa hown zk B2 Dg hlc hcm
 refine cls 10 10 aj (by decide) rfl rfl (fun K hK=>?_)
 go_simp
 refine Dc.out.mono ?_
 rintro e w3 ⟨rfl,qZ,hG3⟩
 have lU:=LD.out.grown hG3 LD.out.size (fun k hk=>by cases hk;exact sW)
 refine hK.out _ _ (dF.out _ lU) (fun ahz=>?_)
 clear hK K
 refine tks 11 11 5 aj ahz ?_
 refine eP aj ?_
 go_upto_region 2 with fail
 have HD3:=ak (HD.out.below lU)
 have dZ:=ak (Below.step HA.out lU)
 have cK:=ak (aB lU aQ.out)
 have SY:=ak (aB lU j6.out)
 have hs3:=lU.size
 have Ta:Hid (us≠[]→oa=some ⟨gk,0,none⟩∧bP 103 2 fB w3 gk cp (us.map fun u=>(b.valid,u)) [] 0):=fun hne=>by
  have hk:((b.ah.map fun m=>m.uid).map fun u=>(b.valid,u))≠[]:=fun e=>hne (by have hge:=SX.out;rw [e] at hge;simpa using hge.symm)
  exact ⟨(Db.out hk).1,qZ hk⟩
 have ag2:w1.heap.size≤gk:=sW
 clear qZ hG3 Dc Db LD lU lg pX dF HD HA aQ j6 SX hlb D1 sW
 by_cases hL0:L=0
 ·have e0:((L:Int) == 0)=true:=by simp [hL0]
  have bJ:Hid (res=(a,aN 0 0)):=by
   show _=_
   rw [bH.out]
   unfold gF
   rw [if_pos (by rw [mK.out];exact hL0)]
   exact Prod.ext (Fv hb) rfl
  clear hL0
  have HF:=ak (HD3.out.done (n:=n) (fun k hk=>.inl hk) (fZ dZ.out) (by omega) cK.out (fun hS=>by have:=HSL.out _ hS;omega) hw0 (by omega) (c:=0) (x:=0) ⟨by decide,by decide⟩ aI)
  obtain ⟨yz,yl,y0,y1,y2,y3,y4,y5,y6,y7,y8,y9⟩:=gG cK.out
  go_wp2
  have ff:=aO HF.out.1
  refine bodyPost_ret (v:=aY 0 0) (by simp [results,Tryz.results45,aY,go_sem,ff]) rfl ⟨aY 0 0,rfl,?_⟩
  rw [bJ.out]
  exact HF.out.2
 ·have e0:((L:Int) == 0)=false:=by simpa using hL0
  obtain ⟨dJ,cap',yx,vJ,f',gY,-,-,hlb,hgs,fz,⟨-,-,-,c3,-⟩,-,-,-,-,-,jq,-⟩:=HD3.out.read hb
  rw [hu] at gY
  simp only [Value.slice.injEq,Option.some.injEq,Addr.mk.injEq,and_true,true_and] at gY
  obtain ⟨rfl,rfl⟩:=gY
  by_cases hq:b.seq=1000000
  ·have e2:(b.seq == 1000000)=true:=by simpa using hq
   have bJ:Hid (res=(a,aN 3 0)):=by
    show _=_
    rw [bH.out]
    unfold gF
    rw [if_neg (by rw [mK.out];exact hL0),if_pos (by omega)]
    exact Prod.ext (Fv hb) rfl
   clear hL0 hq
   have HF:=ak (HD3.out.done (n:=n) (fun k hk=>.inl hk) (fZ dZ.out) (by omega) cK.out (fun hS=>by have:=HSL.out _ hS;omega) hw0 (by omega) (c:=3) (x:=0) ⟨by decide,by decide⟩ aI)
   obtain ⟨yz,yl,y0,y1,y2,y3,y4,y5,y6,y7,y8,y9⟩:=gG cK.out
   go_wp2
   have ff:=aO HF.out.1
   refine bodyPost_ret (v:=aY 3 0) (by simp [results,Tryz.results45,aY,go_sem,ff]) rfl ⟨aY 3 0,rfl,?_⟩
   rw [bJ.out]
   exact HF.out.2
  ·have e2:(b.seq == 1000000)=false:=by simpa using hq
   have bJ:Hid (res=(aH a i (us.foldl xM (aX b)),aN 0 L)):=by
    show _=_
    rw [bH.out]
    unfold gF
    rw [if_neg (by rw [mK.out];exact hL0),if_neg (by omega),mK.out,acp HE.out.sorted,LC.out]
   obtain ⟨rfl,qZ⟩:=Ta.out (fun e=>hL0 (by rw [← HL.out,e];rfl))
   have hil:=(gs1 hb).1
   have jl:=jq.1
   have j3:ay (b.seq+1):=⟨by omega,by omega⟩
   have hgw:=HSL.out _ hgs
   have HD4:=ak (HD3.out.su hb hu j3)
   have gu:=ak (yj (v:=.int .i64 (b.seq+1)) (j:=i * 7+3) HD3.out hu hil (fun k hk=>.inl hk) (fZ dZ.out (S:=S) (gd:=gd) (g:=g)))
   have fF:=ak (cO (k:=gb) (i:=i * 7+3) (v:=.int .i64 (b.seq+1)) cK.out (by omega))
   have LG:=ak (cO (k:=gb) (i:=i * 7+3) (v:=.int .i64 (b.seq+1)) SY.out (by omega))
   have LH:Hid (bP 103 2 fB (w3.setCell ⟨gb,i * 7+3,none⟩ (.int .i64 (b.seq+1))) gk cp (us.map fun u=>(b.valid,u)) [] 0):=qZ.same (Below.heap_setCell _ _ _ _ (show gk≠gb by omega))
   have sM:(w3.setCell ⟨gb,i * 7+3,none⟩ (.int .i64 (b.seq+1))).heap.size=w3.heap.size:=bf
   have acu:gk < w3.heap.size:=qZ.lt
   clear qZ Ta hL0 hq bH mK hgs
   go_upto_region 7 with fail
   clear c3 fz hlb
   generalize w3.setCell ⟨gb,i * 7+3,none⟩ (.int .i64 (b.seq+1))=w4 at HD4 gu fF LG LH sM ⊢
   have HX0:Hid (Exp (aX b) (aX b) us 0):=⟨rfl,rfl,rfl,hgl,fun u hu=>by
    rw [List.drop_zero,← LC.out] at hu
    obtain ⟨m,hm,rfl⟩:=List.mem_map.1 hu
    exact ⟨m,(List.mem_filter.1 hm).1,rfl⟩⟩
   have HPW:Hid (us.Pairwise (· < ·)):=by
    show _
    rw [← LC.out]
    exact List.pairwise_map.2 (HE.out.sorted.sublist List.filter_sublist)
   clear HD3 dZ cK SY
   go_wp2
   go_loopw [7,38] (fun _ iv wr=>∃ k:Nat,k≤L∧iv=.int .i64 k∧Hid (∃ S' E' bk,aT wt wr S' gd g n (aH a i bk) u0 u1 E'∧(∀ q,S' q→S q∨w3.heap.size≤q)∧Exp (aX b) bk us k)∧Hid (iV w wr S gd g)∧Hid (bP 103 2 fB wr gk cp (us.map fun u=>(b.valid,u)) [] 0)∧Hid (wr.heap[w.heap.size]?=some (.cells #[.pointer (some ⟨gd,0,none⟩)] 48 (0,0)))∧Hid (wr.heap[w.heap.size+1]?=some (.cells #[.int .i64 0,.int .i64 0,.slice none 0 0,.int .i64 0,.int .i64 0,.int .i64 0,.slice none 0 0,.slice none 0 0,.int .i64 0,.slice none 0 0] 37 (0,0)))∧w3.heap.size≤wr.heap.size) (fun _ iv _=>L - (intOf iv).toNat)
   case atStart=>exact ⟨0,Nat.zero_le _,rfl,⟨S,E,aX b,HD4.out,fun q hq=>.inl hq,HX0.out⟩,gu.out,LH.out,LG.out,fF.out,by omega⟩
   case round =>
    obtain ⟨k,LJ,rfl,hX,hT,j5,zU,F6,hsz⟩:=hrel
    clear HD4 gu LH LG fF
    by_cases hlt:k < L
    ·obtain ⟨S',E',bk,hD,hS',p9⟩:=hX.out
     have Dh:us[k]?=some (us[k]'(by rw [HL.out];exact hlt)):=aL _
     generalize us[k]'(by rw [HL.out];exact hlt)=u at Dh
     obtain ⟨m,hmm,rfl⟩:=p9.left u (by rw [List.drop_eq_getElem_cons (by rw [HL.out];exact hlt)];have:=(gs1 Dh).2;rw [this];exact List.mem_cons_self ..)
     obtain ⟨j,hj⟩:=List.mem_iff_getElem?.1 hmm
     have hbk:(aH a i bk).boxes[i]?=some bk:=List.getElem?_set_self hil
     have hso:=(hD.ents bk (List.mem_of_getElem? hbk)).sorted
     have A5:Below wr.heap.size wr (wr.alloc (.cells #[.int .i64 b.valid,.int .i64 m.uid] 103)):=bn _ _
     have LK:=R5 wt _ S' gd g n i j gb cap (aH a i bk) bk m u0 u1 E' (hD.below A5) hbk (by rw [hu];simp [aH]) hj p9.au
     rw [show bk.valid=b.valid from p9.valid] at LK
     have yD:=ak LK
     have hK1:(us.map fun u=>(b.valid,u))[k]?=some (b.valid,m.uid):=by rw [List.getElem?_map,Dh];rfl
     have q0:wr.cell? ⟨gk,k * 2,none⟩=some (.int .i64 b.valid):=j5.out.Oi hK1 (k:=0) rfl
     have q1:wr.cell? ⟨gk,k * 2+1,none⟩=some (.int .i64 m.uid):=j5.out.Oi hK1 (k:=1) rfl
     have acw:=j5.out.lt
     have hkd:=aB A5 zU.out
     have p0:(wr.alloc (.cells #[.int .i64 b.valid,.int .i64 m.uid] 103)).cell? ⟨w.heap.size,0,none⟩=some (.pointer (some ⟨gd,0,none⟩)):=(cell_of_row _ _ 0 _ _ (0,0) hkd).trans rfl
     have lT:=ak A5
     have HST:=ak (p9.step hso HPW.out Dh hj)
     have yZ:=ak hS'
     have nN:=ak (hD.below A5)
     have hki:(k:Int) < L:=by omega
     have zO:(wr.alloc (.cells #[.int .i64 b.valid,.int .i64 m.uid] 103)).heap.size=wr.heap.size+1:=by simp
     have mX:=ak (aB A5 F6.out)
     have LM:=ak hkd
     have LP:=ak (j5.out.same (A5.block gk acw))
     obtain ⟨t0,t1⟩:=qy (aW wr (.cells #[.int .i64 b.valid,.int .i64 m.uid] 103))
     have htl:=lt_of_heap (aW wr (.cells #[.int .i64 b.valid,.int .i64 m.uid] 103))
     clear hX p9 hD hS' LK hK1 hbk hso Dh hmm hj A5 hkd F6 zU
     go_upto_region 10 with fail
     generalize wr.alloc (.cells #[.int .i64 b.valid,.int .i64 m.uid] 103)=w5 at yD p0 lT nN zO mX LM LP t0 t1 htl ⊢
     go_wp2_with fail
     refine yD.out.mono ?_
     rintro e w6 ⟨rfl,S6,hD6,Tc,qR⟩
     have hoth:∀ q (o:Obj),w5.heap[q]?=some o→q≠gd→q≠g→w.heap.size≤q→q < w3.heap.size→w6.heap[q]?=some o:=fun q o hq h1 h2 h3 h4=>(qR.2.1 q (lt_of_heap hq) h1 h2 (fun hS=>(yZ.out q hS).elim (fun h=>by have:=HSL.out q h;omega) (by omega))).trans hq
     have o1:=nN.out.off mX.out (by decide) (by decide)
     have o2:=nN.out.off LM.out (by decide) (by decide)
     obtain ⟨cur,uy,-⟩:=LP.out
     have o3:=nN.out.off uy (by decide) (by decide)
     have iU:=ak (hoth _ _ mX.out o1.1 o1.2.1 (by omega) (by omega))
     have acy:=ak (hoth _ _ LM.out o2.1 o2.2.1 (by omega) (by omega))
     have acz:=ak (LP.out.same ((hoth _ _ uy o3.1 o3.2.1 (by omega) acu).trans uy.symm))
     have qC:Hid (∃ S' E' bk,aT wt w6 S' gd g n (aH a i bk) u0 u1 E'∧(∀ q,S' q→S q∨w3.heap.size≤q)∧Exp (aX b) bk us (k+1)):=by
      have e:aH (aH a i bk) i (aV bk j)=aH a i (aV bk j):=by simp only [aH,List.set_set]
      rw [e] at hD6
      exact ⟨S6,_,_,hD6,fun q hq=>(Tc q hq).elim (yZ.out q) (fun h=>.inr (by omega)),HST.out⟩
     have kU:=ak ((hT.out.trans (fZ lT.out) (S':=S) (fun k hk=>.inl hk)).trans qR (fun q hq=>(yZ.out q hq).imp id (by omega)))
     have hs6:=qR.1
     clear hD6 Tc qR hoth o1 o2 o3 uy yD p0 t0 t1 htl nN yZ HST q0 q1
     go_wp2
     go_roundw
     case rel=>exact ⟨k+1,by omega,by go_num,qC.out,kU.out,acz.out,acy.out,iU.out,by omega⟩
     case measure=>simp [intOf];omega
    ·obtain rfl:k=L:=by omega
     obtain ⟨S',E',bk,hD,hS',p9⟩:=hX.out
     have hbk:bk=us.foldl xM (aX b):=by
      have:=p9.eq
      rwa [← HL.out,List.take_length] at this
     rw [hbk] at hD
     have ko:=ak hD
     have pW:=ak hS'
     have hiL:ay (k:Int):=⟨by omega,by omega⟩
     have hki:¬ (k:Int) < k:=by omega
     clear hX p9 hD hS' hbk
     have HF:=ak (ko.out.done (n:=n) (fun q hq=>(pW.out q hq).imp id (by omega)) hT.out (by omega) F6.out (fun hS=>(pW.out _ hS).elim (fun h=>by have:=HSL.out _ h;omega) (by omega)) hw0 (by omega) (c:=0) (x:=(k:Int)) ⟨by decide,by decide⟩ hiL)
     obtain ⟨yz,yl,y0,y1,y2,y3,y4,y5,y6,y7,y8,y9⟩:=gG F6.out
     go_wp2
     have ff:=aO HF.out.1
     refine bodyPost_ret (v:=aY 0 (k:Int)) (by simp [results,Tryz.results45,aY,go_sem,ff]) rfl ⟨aY 0 (k:Int),rfl,?_⟩
     rw [bJ.out]
     exact HF.out.2
end Go.Proofs.YtmglhdkeidhafaaGreat
