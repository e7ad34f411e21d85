/- The proof's texts, part 26. -/
import Derived.Test.YtlneebmlhblleaaGreatTp
namespace Go.Proofs.YtlneebmlhblleaaGreat
open Go.RowKit
set_option linter.unusedVariables false
set_option linter.unusedSimpArgs false
set_option maxHeartbeats 8000000
set_option maxRecDepth 100000
/- aiB of package impl. -/
theorem SS {P:Int→Prop} {v:Int} {ms:List aF} (hv:P v):∀ {E:aX},(∀ e ∈ E,P e.1)→∀ e ∈ lD E v ms,P e.1:=by
 unfold lD
 induction ms with
 | nil=>intro E h;exact h
 | cons m ms ih =>
  intro E h
  refine ih fun e he=>?_
  rcases List.mem_append.1 he with he | he
  ·exact h e (List.mem_filter.1 he).1
  ·rw [List.mem_singleton] at he;subst he;exact hv
theorem ab5 {E:aX} {v u:Int} (h:∀ e ∈ E,e.1≠v):cB E v u=none:=by
 unfold cB
 rw [show E.find? (isK v u)=none from List.find?_eq_none.2 fun e he=>by
  have:=h e he
  unfold isK
  simp
  omega]
 rfl
/-- The map gets other ah; the boxes at the gH have theirs. -/
theorem aW.laid {wt w w':World} {S:Nat→Prop} {gd g n n':Nat} {a:aJ} {u0 u1:Value} {E E':aX} (h:aW wt w S gd g n a u0 u1 E) (hG:w.grownBy w' (some g)) (hM:MR wt w' g n' E') (he:∀ b ∈ a.boxes,dB E' b.valid b.ah) (hh:∀ e ∈ E',e.1≤a.valid):aW wt w' S gd g n' a u0 u1 E':=by
 have hk:∀ k,k < w.heap.size→k≠g→w'.heap[k]?=w.heap[k]?:=fun k hk hne=>hG.block k hk fun e=>hne (Option.some.inj e)
 refine ⟨I6 h.base hG h.nY.2,(hk gd (lt_of_heap h.cells) h.ty.2).trans h.cells,h.boxes.frame nA fun k hs hlt=>hk k hlt (h.low k hs).2.2.2.1,hM,?_,he,hh,h.dist,fun k hs=>let ⟨h1,h2,r⟩:=h.low k hs;⟨h1,Nat.lt_of_lt_of_le h2 hG.size,r⟩,h.nY,h.i64⟩
 rcases h.seen with h' | ⟨gs,cp,cu,cs,fs,hv,hh,h1,h2,h3,h4,h5,h6,h7⟩
 ·exact .inl h'
 ·refine .inr ⟨gs,cp,cu,cs,fs,hv,(hk gs (lt_of_heap hh) fun e=>?_).trans hh,h1,h2,h3,h4,fun j x hx=>?_,h6,h7⟩
  ·subst e
   obtain ⟨D,⟨es,c,e1,-⟩,-⟩:=h.map
   rw [hh] at e1
   cases e1
  ·exact h5 j x hx
/-- A gH that was just made. -/
def ab6 (w w':World) (gd:Nat) (a:aJ):Prop:=∃ S g n u0 u1 E,aW w w' S gd g n a u0 u1 E∧n≤1000∧Below w.heap.size w w'∧w.heap.size≤gd
theorem ab7:(Tryz.f30.body.bind (bQ 5)).all (fun o=>dQ o 6 [0,1,2,3,4,5] [5] [5,6] 8)=true:=by kernel_rfl
theorem ab8:(Tryz.f30.body.bind (bQ 8)).all (fun o=>dQ o 11 [0,1,2,3,4,5,6,7,8,9,10] [6,7,10] [8,11] 8)=true:=by kernel_rfl
theorem SV:(Tryz.f30.body.bind (bQ 1)).all (fun o=>qW o 9 [0,1,3,4,2,5,6,7,8] [5,7] [4] [9] 0)=true:=by kernel_rfl
theorem ab9:(Tryz.f30.body.bind (bQ 1)).all (fun o=>qW o 9 [0,1,3,4,5,2,6,7,8] [5,7] [4] [9] 0)=true:=by kernel_rfl
theorem acd (w:World) (av:Value) (a:aJ) (hv:dM w av a) (hs:a.seen.length≤2000000) (h4:a.boxes.length≤4) (hok:∀ b ∈ a.boxes,nk b.ah∧b.ah.length≤12∧b.au.length≤1000∧b.valid≤a.valid∧b.name.length≤2000000) (hds:a.boxes.Pairwise (fun x y=>x.valid≠y.valid)) :
  Calls Tryz.prog 30 #[av] w fun e w'=>∃ gd,e=.returned (.pointer (some ⟨gd,0,none⟩))∧ab6 w w' gd a:=by
 obtain ⟨u0,u1,rfl,g0,g1,hiv⟩:=hv
 obtain ⟨ba,bc,rfl,hb1,hb2⟩:=g0.form
 obtain ⟨sa,sc,rfl,hs1,hs2⟩:=g1.form
 have A1:Below w.heap.size w (w.alloc (.cells #[.int .i64 a.valid,.slice ba a.boxes.length bc,.slice sa a.seen.length sc] 33)):=bn _ _
 have HK:=ak (aV w (.cells #[.int .i64 a.valid,.slice ba a.boxes.length bc,.slice sa a.seen.length sc] 33))
 have HA:=ak A1
 have jC:Hid (∀ w',Below w.heap.size w w'→cK w' (.slice ba a.boxes.length bc) a.boxes):=fun w' hw=>g0.below lq hw
 have ace:Hid (∀ w',Below w.heap.size w w'→dS w' (.slice sa a.seen.length sc) a.seen):=fun w' hw=>g1.below nP hw
 have wU:=ak hiv
 have qD:=ak hok
 have Lp:=ak hds
 obtain ⟨z0,hi,hz0,hz1,hz2⟩:=info_parts Jz
 obtain ⟨j0,hj,hy0,hy1,hy2⟩:=info_parts yt
 obtain ⟨i0,hx,hx0,hx1,hx2⟩:=info_parts uH
 have hl1:a.seen.length≤maxLen:=by unfold maxLen;omega
 have hl2:a.seen.length * 8≤140737488355328:=by omega
 have CQ:w.heap.size+1≤(w.alloc (.cells #[.int .i64 a.valid,.slice ba a.boxes.length bc,.slice sa a.seen.length sc] 33)).heap.size:=by simp
 clear g0 g1 A1 hiv hok hds
 go_enter Tryz.func30,Tryz.ntmps30
 go_upto_region 1 with fail
 generalize w.alloc (.cells #[.int .i64 a.valid,.slice ba a.boxes.length bc,.slice sa a.seen.length sc] 33)=w1 at HK HA CQ ⊢
 have dA:Hid (∀ w',Below w1.heap.size w1 w'→w'.cell? ⟨w.heap.size,0,none⟩=some (.int .i64 a.valid)∧w'.cell? ⟨w.heap.size,2,none⟩=some (.slice sa a.seen.length sc)):=fun w' hw=>⟨(bD (ay hw HK.out)).1,(bD (ay hw HK.out)).2.2⟩
 have yV:Hid (∀ w',Below w1.heap.size w1 w'→dS w' (.slice sa a.seen.length sc) a.seen):=fun w' hw=>ace.out w' (Below.step HA.out hw)
 have hlk:=lt_of_heap HK.out
 have D0:Below w1.heap.size w1 w1.drew:=bd _ _
 go_cut [3] (fun s wx=>∃ gd g ua un uc,s=.pointer (some ⟨gd,0,none⟩)∧Hid (wx.heap[gd]?=some (.cells #[.int .i64 a.valid,.slice none 0 0,.map (some g),.slice ua un uc] 108 (0,0)))∧Hid (MR w wx g 0 [])∧Hid (gQ wx (fun k=>w1.heap.size≤k) (.slice ua un uc) a.seen)∧Hid (Below w1.heap.size w1 wx)∧w1.heap.size≤gd∧w1.heap.size≤g∧w1.heap.size≤wx.heap.size)
 case first =>
  refine Ka 9 (S:=fun w'=>w'.cell? ⟨w.heap.size,0,none⟩=some (.int .i64 a.valid)∧w'.cell? ⟨w.heap.size,2,none⟩=some (.slice sa a.seen.length sc)) (uR (by kernel_rfl) SV) (uR (by kernel_rfl) ab9) (uR (by kernel_rfl) SV) (by kernel_rfl) (dA.out _ D0) (fun aj uX _ aks=>?_)
  have Dk:=ak aj
  have pI:=ak uX
  refine dK 0 0 7 aj aks ?_
  refine dK 1 1 8 aj aks ?_
  refine dK 2 3 10 aj aks ?_
  refine dK 3 4 11 aj aks ?_
  refine Cu 4 [2,5] (by kernel_rfl) (by decide) (by decide) (by simp) ?_
  refine (jG.cons [0,1,3,4,2,5,6,7,8] rfl (by decide) (by decide) (fun K hK=>?_) (jG.cons [0,1,3,4,5,2,6,7,8] rfl (by decide) (by decide) (fun K hK=>?_) jG.nil))
  ·clear aj uX
   have aj:=Dk.out
   go_simp
   have A2:Below w1.heap.size w1 (w1.drew.alloc (.map #[] 0)):=D0.alloc (Nat.le_refl _) _
   have hMR:=MR.made w w1.drew
   refine hK.out _ (w1.drew.alloc (.map #[] 0)) (dA.out _ A2) (fun aks=>?_)
   clear hK K
   have hgz:w1.heap.size≤w1.drew.heap.size:=Nat.le_refl _
   generalize w1.drew.alloc (.map #[] 0)=x1 at A2 hMR ⊢
   refine fU 5 5 aj (by decide) rfl rfl (fun K hK=>?_)
   refine dO (by kernel_rfl) (j5 (B:=w1.heap.size) 12 rfl (.const (.slice none 0 0)) (.tmp 11) rfl ⟨by simp,.inl ⟨rfl,rfl⟩⟩ (yV.out _ A2) (JG _) Tryz.underlying23 hi hz0 hz1 hz2 rfl (by omega) rfl rfl hl1 hl2 A2.size ?_)
   intro V x2 xs hO hX hG _
   have B2:Below x1.heap.size x1 x2:=⟨hG.os,hG.tape,hG.output,hG.size,fun k hk=>hG.block k hk (by simp [Value.ownBlock])⟩
   have hI:gQ x2 (fun k=>w1.heap.size≤k) V a.seen:=JI hO hX (fun g hg=>dJ hO hg)
   obtain ⟨ua,un,uc,rfl⟩:=sj.aG hI
   have D2:=Below.step A2 B2
   have hM2:=hMR.kept (B2.block _ hMR.lt)
   refine hK.out _ _ (dA.out _ D2) (fun aks=>?_)
   clear hK K
   have hs2:=D2.size
   refine dK 6 6 13 aj aks ?_
   have A9:Below x2.heap.size x2 (x2.alloc (.cells #[.int .i64 a.valid,.slice none 0 0,.map (some w1.drew.heap.size),.slice ua un uc] 108)):=bn _ _
   refine fU 7 7 aj (by decide) rfl rfl (fun K hK=>?_)
   go_simp
   refine hK.out _ _ (dA.out _ (Below.step D2 A9)) (fun aks=>?_)
   clear hK K
   refine dK 8 8 3 aj aks ?_
   refine wP aj ?_
   go_wp2
   go_meet
   case rel=>exact ⟨_,_,_,_,_,rfl,aV x2 _,hM2.kept (A9.block _ hM2.lt),Ow.below oH hI A9,Below.step D2 A9,hs2,hgz,(Below.step D2 A9).size⟩
  ·clear aj uX
   have aj:=pI.out
   refine dO (by kernel_rfl) (j5 (B:=w1.heap.size) 12 rfl (.const (.slice none 0 0)) (.tmp 11) rfl ⟨by simp,.inl ⟨rfl,rfl⟩⟩ (yV.out _ D0) (JG _) Tryz.underlying23 hi hz0 hz1 hz2 rfl (by omega) rfl rfl hl1 hl2 D0.size ?_)
   intro V x1 xs hO hX hG _
   have B2:Below w1.drew.heap.size w1.drew x1:=⟨hG.os,hG.tape,hG.output,hG.size,fun k hk=>hG.block k hk (by simp [Value.ownBlock])⟩
   have hI:gQ x1 (fun k=>w1.heap.size≤k) V a.seen:=JI hO hX (fun g hg=>dJ hO hg)
   obtain ⟨ua,un,uc,rfl⟩:=sj.aG hI
   have D2:=Below.step D0 B2
   refine hK.out _ _ (dA.out _ D2) (fun aks=>?_)
   clear hK K
   have A2:Below x1.heap.size x1 (x1.alloc (.map #[] 0)):=bn _ _
   have hMR:=MR.made w x1
   have hs1:=D2.size
   refine fU 5 2 aj (by decide) rfl rfl (fun K hK=>?_)
   go_simp
   refine hK.out _ (x1.alloc (.map #[] 0)) (dA.out _ (Below.step D2 A2)) (fun aks=>?_)
   clear hK K
   have hI2:=Ow.below oH hI A2
   have D3:=Below.step D2 A2
   generalize x1.alloc (.map #[] 0)=x2 at A2 hMR hI2 D3 aks ⊢
   have hs2:=D3.size
   refine dK 6 6 13 aj aks ?_
   have A9:Below x2.heap.size x2 (x2.alloc (.cells #[.int .i64 a.valid,.slice none 0 0,.map (some x1.heap.size),.slice ua un uc] 108)):=bn _ _
   refine fU 7 7 aj (by decide) rfl rfl (fun K hK=>?_)
   go_simp
   refine hK.out _ _ (dA.out _ (Below.step D3 A9)) (fun aks=>?_)
   clear hK K
   refine dK 8 8 3 aj aks ?_
   refine wP aj ?_
   go_wp2
   go_meet
   case rel=>exact ⟨_,_,_,_,_,rfl,aV x2 _,hMR.kept (A9.block _ hMR.lt),Ow.below oH hI2 A9,Below.step D3 A9,hs2,hs1,(Below.step D3 A9).size⟩
 case rest =>
  obtain ⟨gd,g,ua,un,uc,rfl,Aj,hMR,SX,hB,hgd,hgg,hsx⟩:=hcut
  have Lr:=ak (Below.step HA.out hB.out)
  obtain ⟨k0,k1,k2⟩:=bD (ay hB.out HK.out)
  have hkl:=lt_of_heap (ay hB.out HK.out)
  have HD0:Hid (aW w wc (fun _=>False) gd g 0 ⟨a.valid,[],a.seen⟩ (.slice none 0 0) (.slice ua un uc) []):=⟨Lr.out,Aj.out,.inl ⟨rfl,rfl⟩,hMR.out,Ow.mono SX.out (fun q hq=>by have:=hq;show w.heap.size≤q;omega),by simp,by simp,List.Pairwise.nil,fun q h=>h.elim,⟨by omega,by omega⟩,wU.out⟩
  have hgl:=lt_of_heap Aj.out
  clear Aj hMR SX hB dA yV D0 hlk
  go_wp2
  clear k0 k1 k2 hkl
  go_loopw [5,6,18] (fun _ _ iv wr=>∃ (k:Nat) (oa:Option Addr) (on oc n:Nat) (S:Nat→Prop) (E:aX),k≤a.boxes.length∧iv=.int .i64 k∧n≤12 * k∧Hid (aW w wr S gd g n ⟨a.valid,a.boxes.take k,a.seen⟩ (.slice oa on oc) (.slice ua un uc) E)∧Hid (∀ q,S q→wc.heap.size≤q)∧Hid (∀ e ∈ E,∃ x ∈ a.boxes.take k,e.1=x.valid)∧Hid (Below w.heap.size w wr)∧wc.heap.size≤wr.heap.size) (fun _ _ iv _=>a.boxes.length - (intOf iv).toNat)
  case atStart=>exact ⟨0,none,0,0,0,fun _=>False,[],Nat.zero_le _,rfl,by omega,by simpa using HD0,fun q h=>h.elim,(fun e he=>by cases he),Lr.out,Nat.le_refl _⟩
  case round =>
   obtain ⟨k,oa,on,oc,n,S,E,hk,rfl,hn,HD,SY,Ls,HB,hsr⟩:=hrel
   clear HD0 Lr
   by_cases hlt:k < a.boxes.length
   ·obtain ⟨b,hb⟩:∃ b,a.boxes[k]?=some b:=⟨_,aK hlt⟩
    have hki:(k:Int) < a.boxes.length:=by omega
    obtain ⟨gb,off,cap,v0,v1,v2,ev,hlb,d0,d1,d2,d3,d4,d5,d6,q0,q1,q2,ii⟩:=cK.cell (jC.out w (Below.refl _ _)) k b hb
    simp only [Value.slice.injEq,true_and] at ev
    obtain ⟨rfl,rfl⟩:=ev
    have hbv:bK w (.agg #[v0,.int .i64 b.valid,.int .i64 b.next,.int .i64 b.seq,v1,v2,.int .i64 b.lost]) b:=⟨v0,v1,v2,rfl,q0,q1,q2,ii⟩
    have wR:Hid (∀ m ∈ b.ah,aB m.uid):=fun m hm=>by
     obtain ⟨i,hi⟩:=List.mem_iff_getElem?.1 hm
     obtain ⟨_,_,_,c,-,-,⟨_,-,-,r,-⟩,-⟩:=q1.get i m hi
     exact r
    obtain ⟨na,nn,nc,rfl⟩:=q0.aG
    obtain ⟨ma,mc,rfl,-⟩:=q1.form
    obtain ⟨ga,gc,rfl,-⟩:=q2.form
    have gW:=ak hbv
    have wY:Hid (∀ w',Below w.heap.size w w'→bO w' (.slice ga b.au.length gc) b.au):=fun w' hw=>q2.below dY hw
    have Dc:=ak ii
    have hO:=qD.out b (List.mem_of_getElem? hb)
    have yR:=ak hb
    replace d0:=(HB.out.cell (p:=⟨gb,_,none⟩) hlb).trans d0
    replace d1:=(HB.out.cell (p:=⟨gb,_,none⟩) hlb).trans d1
    replace d2:=(HB.out.cell (p:=⟨gb,_,none⟩) hlb).trans d2
    replace d3:=(HB.out.cell (p:=⟨gb,_,none⟩) hlb).trans d3
    replace d4:=(HB.out.cell (p:=⟨gb,_,none⟩) hlb).trans d4
    replace d5:=(HB.out.cell (p:=⟨gb,_,none⟩) hlb).trans d5
    replace d6:=(HB.out.cell (p:=⟨gb,_,none⟩) hlb).trans d6
    have hlr:gb < wr.heap.size:=Nat.lt_of_lt_of_le hlb HB.out.size
    have A2:Below wr.heap.size wr (wr.alloc (.cells #[.slice na nn nc,.int .i64 b.valid,.int .i64 b.next,.int .i64 b.seq,.slice ma b.ah.length mc,.slice ga b.au.length gc,.int .i64 b.lost] 37)).drew:=(bn _ _).drew
    have HD2:=ak (HD.out.below A2)
    have HB2:=ak (Below.step HB.out A2)
    have hkb:(wr.alloc (.cells #[.slice na nn nc,.int .i64 b.valid,.int .i64 b.next,.int .i64 b.seq,.slice ma b.ah.length mc,.slice ga b.au.length gc,.int .i64 b.lost] 37)).drew.heap[wr.heap.size]?=some (.cells #[.slice na nn nc,.int .i64 b.valid,.int .i64 b.next,.int .i64 b.seq,.slice ma b.ah.length mc,.slice ga b.au.length gc,.int .i64 b.lost] 37 (0,0)):=aV wr _
    have Ta:=ak hkb
    have hz2:(wr.alloc (.cells #[.slice na nn nc,.int .i64 b.valid,.int .i64 b.next,.int .i64 b.seq,.slice ma b.ah.length mc,.slice ga b.au.length gc,.int .i64 b.lost] 37)).drew.heap.size=wr.heap.size+1:=(show (wr.alloc (.cells #[.slice na nn nc,.int .i64 b.valid,.int .i64 b.next,.int .i64 b.seq,.slice ma b.ah.length mc,.slice ga b.au.length gc,.int .i64 b.lost] 37)).heap.size=_ by simp)
    have Tc:=ak (Xi w g n E _ b (wr.alloc (.cells #[.slice na nn nc,.int .i64 b.valid,.int .i64 b.next,.int .i64 b.seq,.slice ma b.ah.length mc,.slice ga b.au.length gc,.int .i64 b.lost] 37)).drew HD2.out.map gW.out HB2.out (by omega) (by omega) (by omega))
    have su:Hid ((wr.alloc (.cells #[.slice na nn nc,.int .i64 b.valid,.int .i64 b.next,.int .i64 b.seq,.slice ma b.ah.length mc,.slice ga b.au.length gc,.int .i64 b.lost] 37)).drew |> fun w'=>w'.cell? ⟨gd,2,none⟩=some (.map (some g))∧w'.rangeAt wr.heap.size 0 [.slice na nn nc,.int .i64 b.valid,.int .i64 b.next,.int .i64 b.seq,.slice ma b.ah.length mc,.slice ga b.au.length gc,.int .i64 b.lost]):=⟨(cell_of_row _ gd 2 _ _ (0,0) HD2.out.cells).trans rfl,fC hkb⟩
    have acf:gd < (wr.alloc (.cells #[.slice na nn nc,.int .i64 b.valid,.int .i64 b.next,.int .i64 b.seq,.slice ma b.ah.length mc,.slice ga b.au.length gc,.int .i64 b.lost] 37)).heap.size:=lt_of_heap HD2.out.cells
    clear q0 q1 q2 ii hbv hb hkb A2
    go_upto_region 5 with fail
    clear d0 d1 d2 d3 d4 d5 d6 hlr
    refine eF 5 (S:=fun w'=>w'.cell? ⟨gd,2,none⟩=some (.map (some g))∧w'.rangeAt wr.heap.size 0 [.slice na nn nc,.int .i64 b.valid,.int .i64 b.next,.int .i64 b.seq,.slice ma b.ah.length mc,.slice ga b.au.length gc,.int .i64 b.lost]) (eB (by kernel_rfl) ab7) (by kernel_rfl) su.out (fun aj aks=>?_)
    refine tks 0 0 22 aj aks ?_
    refine tks 1 1 23 aj aks ?_
    refine tks 2 2 24 aj aks ?_
    refine tks 3 3 25 aj aks ?_
    refine pq 4 4 26 37 (.tmp 5) wr.heap.size 0 [.slice na nn nc,.int .i64 b.valid,.int .i64 b.next,.int .i64 b.seq,.slice ma b.ah.length mc,.slice ga b.au.length gc,.int .i64 b.lost] aj aks (fun w h=>h.2) Tryz.underlying37 ?_
    refine gL (S':=fun w'=>True) 5 6 aj (by decide) trivial (fun aks=>?_)
    refine cls 5 5 aj (by decide) rfl rfl (fun K hK=>?_)
    go_simp
    refine Tc.out.mono ?_
    rintro e w3 ⟨rfl,Td,hG3⟩
    refine hK.out _ _ trivial (fun aks=>?_)
    clear hK K
    refine eG aj ?_
    have HD3:=ak (HD2.out.laid hG3 Td (fun x hx=>(HD2.out.ents x hx).Y9 (fun e=>by
      obtain ⟨i,hi⟩:=List.mem_iff_getElem?.1 hx
      have hik:i < k:=by have:=(gs1 hi).1;simp at this;omega
      rw [List.getElem?_take_of_lt hik] at hi
      obtain ⟨l1,rfl⟩:=gs1 hi
      obtain ⟨l2,rfl⟩:=gs1 yR.out
      exact List.pairwise_iff_getElem.1 Lp.out i k l1 l2 hik e)) (SS (P:=fun z=>z≤a.valid) hO.2.2.2.1 HD2.out.high))
    have HB3:=ak (HB2.out.grown hG3 HB2.out.size (fun q hq=>by cases hq;omega))
    have GU:=ak (p8 hG3 Ta.out (by have:=HD2.out.map.lt;have:=HD.out.map.lt;omega))
    have hs3:=hG3.size
    have Dl:Hid (dB (lD E b.valid b.ah) b.valid b.ah∧∀ e ∈ lD E b.valid b.ah,∃ x ∈ a.boxes.take (k+1),e.1=x.valid):=by
     refine ⟨dB.lay hO.1 wR.out (fun u _=>ab5 fun e he=>?_),SS (P:=fun z=>∃ x ∈ a.boxes.take (k+1),z=x.valid) ⟨b,by rw [List.take_add_one,yR.out];simp,rfl⟩ (fun e he=>?_)⟩
     ·obtain ⟨x,hx,ee⟩:=Ls.out e he
      rw [ee]
      intro e2
      obtain ⟨i,hi⟩:=List.mem_iff_getElem?.1 hx
      have hik:i < k:=by have:=(gs1 hi).1;simp at this;omega
      rw [List.getElem?_take_of_lt hik] at hi
      obtain ⟨l1,rfl⟩:=gs1 hi
      obtain ⟨l2,rfl⟩:=gs1 yR.out
      exact List.pairwise_iff_getElem.1 Lp.out i k l1 l2 hik e2
     ·obtain ⟨x,hx,ee⟩:=Ls.out e he
      exact ⟨x,by rw [List.take_add_one];exact List.mem_append_left _ hx,ee⟩
    have mD:=ak (Bh _ b w3 (gW.out.below HB3.out) hO.2.2.2.2)
    obtain ⟨t0,t1,t2,t3,t4,t5,t6⟩:=bF GU.out
    have htl:=lt_of_heap GU.out
    clear Td hG3 Tc su HD2 HB2 Ta acf
    go_wp2_with fail
    refine mD.out.mono ?_
    rintro e w4 ⟨xa,xn,xc,rfl,oh,B4⟩
    have A5:Below w4.heap.size w4 (w4.alloc (.cells #[.slice xa xn xc,.int .i64 b.valid,.int .i64 b.next,.int .i64 b.seq,.slice none 0 0,.slice none 0 0,.int .i64 b.lost] 37)):=bn _ _
    have mW:=ak (Below.step B4 A5)
    have GV:=ak (ay (Below.step B4 A5) GU.out)
    have qJ:=ak (aV w4 (.cells #[.slice xa xn xc,.int .i64 b.valid,.int .i64 b.next,.int .i64 b.seq,.slice none 0 0,.slice none 0 0,.int .i64 b.lost] 37))
    have ko:=ak (oh.below A5)
    have hs4:=B4.size
    have wW:(w4.alloc (.cells #[.slice xa xn xc,.int .i64 b.valid,.int .i64 b.next,.int .i64 b.seq,.slice none 0 0,.slice none 0 0,.int .i64 b.lost] 37)).heap.size=w4.heap.size+1:=by simp
    have zQ:=ak hO.2.2.1
    clear oh B4 A5 mD t0 t1 t2 t3 t4 t5 t6 htl GU
    go_upto_region 7 with fail
    generalize w4.alloc (.cells #[.slice xa xn xc,.int .i64 b.valid,.int .i64 b.next,.int .i64 b.seq,.slice none 0 0,.slice none 0 0,.int .i64 b.lost] 37)=w5 at mW GV qJ ko wW ⊢
    obtain ⟨t0,t1,t2,t3,t4,t5,t6⟩:=bF GV.out
    have htl:=lt_of_heap GV.out
    have FW:w4.heap.size+1≤w5.heap.size:=by omega
    have Te:=wY.out w5 (Below.step HB3.out mW.out)
    have Tf:=ak Te
    have Tg:b.au.length≤maxLen:=by have:=zQ.out;unfold maxLen;omega
    have zP:b.au.length * 16≤140737488355328:=by have:=zQ.out;omega
    clear Te wW
    go_wp2_with (at_builtin;refine Pt (B:=w5.heap.size) rfl (.const (.slice none 0 0)) (.tmp 31) rfl ⟨by simp,.inl ⟨rfl,rfl⟩⟩ Tf.out (BG _) Tryz.underlying35 hj hy0 hy1 hy2 rfl (by omega) rfl rfl Tg zP (Nat.le_refl _) ?_)
    intro V w6 xs iw sw fE _
    have B6:Below w5.heap.size w5 w6:=⟨fE.os,fE.tape,fE.output,fE.size,fun q hq=>fE.block q hq (by simp [Value.ownBlock])⟩
    have hgo:fB w6 (In w5.heap.size w6.heap.size) V b.au:=FU iw sw (fun g hg=>iw.lt g hg)
    obtain ⟨ra,rn,rc,rfl⟩:=sj.aG hgo
    have K6:=ay B6 qJ.out
    have hs6:=B6.size
    have Ti:(w6.setCell ⟨w4.heap.size,5,none⟩ (.slice ra rn rc)).heap[w4.heap.size]?=some (.cells #[.slice xa xn xc,.int .i64 b.valid,.int .i64 b.next,.int .i64 b.seq,.slice none 0 0,.slice ra rn rc,.int .i64 b.lost] 37 (0,0)):=aP (i:=5) (v:=.slice ra rn rc) K6
    have wE:=ak ((Below.step mW.out B6).setCell (p:=⟨w4.heap.size,5,none⟩) (show w3.heap.size≤w4.heap.size from hs4) (.slice ra rn rc))
    have yU:∀ q,q≠w4.heap.size→(w6.setCell ⟨w4.heap.size,5,none⟩ (.slice ra rn rc)).heap[q]?=w6.heap[q]?:=fun q hq=>Below.heap_setCell _ _ _ _ hq
    have Am:=ak ((ko.out.below B6).frame fun q hq _=>yU q (by have:=hq.2;omega))
    have Lu:=ak (Ow.frame jB hgo fun q hq _=>yU q (by have:=hq.1;omega))
    have Dm:=ak Ti
    have wV:(w6.setCell ⟨w4.heap.size,5,none⟩ (.slice ra rn rc)).heap.size=w6.heap.size:=aZ
    obtain ⟨p0,p1,p2,p3,p4,p5,p6⟩:=bF (show w6.heap[w4.heap.size]?=some (.cells #[.slice xa xn xc,.int .i64 b.valid,.int .i64 b.next,.int .i64 b.seq,.slice none 0 0,.slice none 0 0,.int .i64 b.lost] 37 (0,0)) from K6)
    have pz:=(bR K6).1
    have pl:=lt_of_heap K6
    clear iw sw fE hgo K6 Ti yU t0 t1 t2 t3 t4 t5 t6 htl GV qJ ko B6 mW Tf
    go_upto_region 8 with fail
    clear p0 p1 p2 p3 p4 p5 p6 pz pl
    generalize w6.setCell ⟨w4.heap.size,5,none⟩ (.slice ra rn rc)=w7 at wE Am Lu Dm wV ⊢
    have aiC:w6.heap.size≤w7.heap.size:=by omega
    clear wV
    have HD7:=ak (HD3.out.below wE.out)
    have hs7:w3.heap.size≤w7.heap.size:=wE.out.size
    have DR:Below w7.heap.size w7 w7.drew:=bd _ _
    have Lv:Hid (∀ w',Below w7.heap.size w7 w'→w'.cell? ⟨gd,1,none⟩=some (.slice oa on oc)∧w'.rangeAt w4.heap.size 0 [.slice xa xn xc,.int .i64 b.valid,.int .i64 b.next,.int .i64 b.seq,.slice none 0 0,.slice ra rn rc,.int .i64 b.lost]):=fun w' hw=>⟨(cell_of_row _ gd 1 _ _ (0,0) (HD7.out.below hw).cells).trans rfl,fC (ay hw Dm.out)⟩
    have acg:gd < w7.drew.heap.size:=lt_of_heap HD7.out.cells
    refine eF 8 (S:=fun w'=>w'.cell? ⟨gd,1,none⟩=some (.slice oa on oc)∧w'.rangeAt w4.heap.size 0 [.slice xa xn xc,.int .i64 b.valid,.int .i64 b.next,.int .i64 b.seq,.slice none 0 0,.slice ra rn rc,.int .i64 b.lost]) (eB (by kernel_rfl) ab8) (by kernel_rfl) (Lv.out _ DR) (fun aj aks=>?_)
    refine tks 0 0 34 aj aks ?_
    refine tks 1 1 35 aj aks ?_
    refine tks 2 2 36 aj aks ?_
    refine tks 3 3 37 aj aks ?_
    refine tks 4 4 38 aj aks ?_
    refine pq 5 5 39 37 (.tmp 6) w4.heap.size 0 [.slice xa xn xc,.int .i64 b.valid,.int .i64 b.next,.int .i64 b.seq,.slice none 0 0,.slice ra rn rc,.int .i64 b.lost] aj aks (fun w h=>h.2) Tryz.underlying37 ?_
    have AB:Below w7.heap.size w7 (w7.drew.alloc (.cells #[.slice xa xn xc,.int .i64 b.valid,.int .i64 b.next,.int .i64 b.seq,.slice none 0 0,.slice ra rn rc,.int .i64 b.lost] 37)):=DR.alloc (Nat.le_refl _) _
    refine cls 6 6 aj (by decide) rfl rfl (fun K hK=>?_)
    go_simp
    refine hK.out _ _ (Lv.out _ AB) (fun aks=>?_)
    clear hK K
    have hMs:w3.heap.size≤(w7.drew.alloc (.cells #[.slice xa xn xc,.int .i64 b.valid,.int .i64 b.next,.int .i64 b.seq,.slice none 0 0,.slice ra rn rc,.int .i64 b.lost] 37)).heap.size:=Nat.le_trans hs7 AB.size
    have hza:w7.heap.size≤(w7.drew.alloc (.cells #[.slice xa xn xc,.int .i64 b.valid,.int .i64 b.next,.int .i64 b.seq,.slice none 0 0,.slice ra rn rc,.int .i64 b.lost] 37)).heap.size:=AB.size
    have lM:qA (w7.drew.alloc (.cells #[.slice xa xn xc,.int .i64 b.valid,.int .i64 b.next,.int .i64 b.seq,.slice none 0 0,.slice ra rn rc,.int .i64 b.lost] 37)) [.slice xa xn xc,.int .i64 b.valid,.int .i64 b.next,.int .i64 b.seq,.slice none 0 0,.slice ra rn rc,.int .i64 b.lost] b (In w3.heap.size (w7.drew.alloc (.cells #[.slice xa xn xc,.int .i64 b.valid,.int .i64 b.next,.int .i64 b.seq,.slice none 0 0,.slice ra rn rc,.int .i64 b.lost] 37)).heap.size):=⟨_,_,rfl,(Am.out.below AB).mono fun q hq=>⟨hq.1,by have:=hq.2;omega⟩,F9 (Ow.mono (Ow.below jB Lu.out AB) fun q hq=>⟨by have:=hq.1;omega,by have:=hq.2;omega⟩),Dc.out⟩
    have hl1:(a.boxes.take k).length+1≤maxLen:=by unfold maxLen;simp;omega
    have hl2:((a.boxes.take k).length+1) * 104≤140737488355328:=by simp;omega
    refine cls 7 7 aj (by decide) rfl rfl (fun K hK=>?_)
    refine dO (by kernel_rfl) (Rw 41 rfl (.tmp 38) (.tmp 40) rfl nA (B:=w.heap.size) (M:=w3.heap.size) (Ow.below nA HD7.out.boxes AB) (fun q hq=>⟨(HD3.out.low q hq).1,(HD3.out.low q hq).2.1⟩) hMs HD3.out.base.size Tryz.underlying31 hx hx0 hx1 hx2 rfl (by omega) rfl b [.slice xa xn xc,.int .i64 b.valid,.int .i64 b.next,.int .i64 b.seq,.slice none 0 0,.slice ra rn rc,.int .i64 b.lost] rfl lM ⟨w7.heap.size,0,none⟩ 1 rfl (mO w7.drew _ _) (by simp [Value.oneCell']) hl1 hl2 ?_)
    intro DV wz kr hgz eO
    obtain ⟨da,dn,dc,mX⟩:∃ x y z,DV=.slice x y z:=by
     rcases kr with ⟨e,-⟩ | ⟨_,_,_,_,_,e,-⟩
     ·exact ⟨_,_,_,e⟩
     ·exact ⟨_,_,_,e⟩
    subst mX
    have KX:=(hgz.block gd (lt_of_heap (ay AB HD7.out.cells)) (fun e=>(HD3.out.low gd (eO gd e.symm)).2.2.1 rfl)).trans (ay AB HD7.out.cells)
    have hko:wz.heap[w4.heap.size]?=some (.cells #[.slice xa xn xc,.int .i64 b.valid,.int .i64 b.next,.int .i64 b.seq,.slice none 0 0,.slice ra rn rc,.int .i64 b.lost] 37 (0,0)):=(hgz.block _ (lt_of_heap (ay AB Dm.out)) (fun e=>by have:=(HD3.out.low _ (eO _ e.symm)).2.1;omega)).trans (ay AB Dm.out)
    refine hK.out _ _ ⟨(gF KX).2.1,fC hko⟩ (fun aks=>?_)
    clear hK K
    have CO:=ak (And.intro kr (And.intro hgz eO))
    have eH:=ak AB
    obtain ⟨x0,x1,x2,x3⟩:=gF KX
    obtain ⟨xz,xl⟩:=bR KX
    refine gL (S':=fun w'=>True) 8 11 aj (by decide) trivial (fun aks=>?_)
    refine tks 8 8 42 aj aks ?_
    refine tks 9 9 43 aj aks ?_
    refine cls 10 10 aj (by decide) rfl rfl (fun K hK=>?_)
    go_simp
    refine hK.out _ _ trivial (fun aks=>?_)
    clear hK K
    refine eG aj ?_
    have rC:=ak KX
    clear x0 x1 x2 x3 xz xl KX hko lM hMs hl1 hl2 kr hgz eO AB DR Lv acg
    obtain ⟨kr,hgz,eO⟩:=CO.out
    obtain ⟨S9,Lx⟩:∃ S9:Nat→Prop,S9=fun q=>S q∨w3.heap.size≤q∧q < wz.heap.size:=⟨_,rfl⟩
    rw [← Lx] at kr
    have GX:Hid (∀ q,S9 q→S q∨(w3.heap.size≤q∧q < wz.heap.size)):=fun q hq=>by rw [Lx] at hq;exact hq
    clear Lx
    have hsz:=hgz.size
    have hsa:=eH.out.size
    have hzz:w3.heap.size≤wz.heap.size:=Nat.le_trans (Nat.le_trans hs7 hsa) hsz
    have LA:∀ q,q≠gd→(wz.setCell ⟨gd,1,none⟩ (.slice da dn dc)).heap[q]?=wz.heap[q]?:=fun q hq=>Below.heap_setCell _ _ _ _ hq
    have hkeep:∀ q,q < w3.heap.size→q≠gd→(∀ j,S j→q≠j)→(wz.setCell ⟨gd,1,none⟩ (.slice da dn dc)).heap[q]?=w3.heap[q]?:=fun q hq h1 h2=>(LA q h1).trans ((hgz.block q (Nat.lt_of_lt_of_le hq (Nat.le_trans hs7 hsa)) (fun e=>h2 q (eO q e.symm) rfl)).trans ((eH.out.block q (Nat.lt_of_lt_of_le hq hs7)).trans (wE.out.block q hq)))
    have Tj:∀ x ∈ a.boxes.take k,x.valid≠b.valid:=fun x hx e=>by
     obtain ⟨i,hi⟩:=List.mem_iff_getElem?.1 hx
     have hik:i < k:=by have:=(gs1 hi).1;simp at this;omega
     rw [List.getElem?_take_of_lt hik] at hi
     obtain ⟨l1,rfl⟩:=gs1 hi
     obtain ⟨l2,rfl⟩:=gs1 yR.out
     exact List.pairwise_iff_getElem.1 Lp.out i k l1 l2 hik e
    have aiD:=lt_of_heap HD3.out.cells
    have h9:aW w (wz.setCell ⟨gd,1,none⟩ (.slice da dn dc)) S9 gd g (n+b.ah.length) ⟨a.valid,a.boxes.take (k+1),a.seen⟩ (.slice da dn dc) (.slice ua un uc) (lD E b.valid b.ah):=by
     have e:a.boxes.take (k+1)=a.boxes.take k ++ [b]:=by rw [List.take_add_one,yR.out];rfl
     rw [e]
     exact HD3.out.CK
      (((Below.step HD7.out.base eH.out).grown hgz (Nat.le_trans HD7.out.base.size hsa) (fun q hq=>(HD3.out.low q (eO q hq)).1)).setCell (p:=⟨gd,1,none⟩) HD3.out.nY.1 _)
      (by rw [aZ];exact hzz) (aP (i:=1) (v:=.slice da dn dc) rC.out)
      (kr.frame nA fun q hq _=>LA q (fun e=>(GX.out q hq).elim (fun h=>(HD3.out.low q h).2.2.1 e) (fun h=>by omega)))
      (hkeep g HD3.out.map.lt (fun e=>HD3.out.ty.2 e.symm) (fun j hj e=>(HD3.out.low j hj).2.2.2.1 e.symm))
      (fun q hq hlt=>hkeep q hlt (fun e=>HD3.out.Ku (e ▸ hq)) (fun j hj e=>(HD3.out.low j hj).2.2.2.2 (e ▸ hq)))
      (fun q hq=>(GX.out q hq).imp id (fun h=>⟨h.1,by rw [aZ];exact h.2⟩))
      (fun x hx=>(List.mem_append.1 hx).elim (HD3.out.ents x) (fun h=>by rw [List.mem_singleton] at h;subst h;exact Dl.out.1))
      HD3.out.high
      (List.pairwise_append.2 ⟨HD3.out.dist,List.pairwise_singleton _ _,fun x hx z hz=>by rw [List.mem_singleton] at hz;subst hz;exact Tj x hx⟩) HD3.out.i64
    have Gz:=ak h9
    have oP:Hid (Below w.heap.size w (wz.setCell ⟨gd,1,none⟩ (.slice da dn dc))):=h9.base
    have HQ9:Hid (∀ q,S9 q→wc.heap.size≤q):=fun q hq=>(GX.out q hq).elim (SY.out q) (fun h=>by omega)
    have hn9:n+b.ah.length≤12 * (k+1):=by have:=hO.2.1;omega
    have qw:wc.heap.size≤(wz.setCell ⟨gd,1,none⟩ (.slice da dn dc)).heap.size:=by rw [aZ];omega
    clear h9 Tj hkeep LA kr hgz eO CO eH rC HD7 wE Am Lu Dm HD3 HD SY Ls HB HB3 GX hsz hsa
    go_wp2
    go_roundw
    case rel=>exact ⟨k+1,da,dn,dc,n+b.ah.length,S9,_,by omega,by go_num,hn9,Gz.out,HQ9.out,Dl.out.2,oP.out,qw⟩
    case measure=>simp [intOf];omega
   ·obtain rfl:k=a.boxes.length:=by omega
    have hki:¬ (a.boxes.length:Int) < a.boxes.length:=by omega
    go_wp2
    go_ret
    refine ⟨gd,rfl,S,g,n,.slice oa on oc,.slice ua un uc,E,?_,by omega,HB.out,by omega⟩
    have:=HD.out
    rw [List.take_length] at this
    exact this
end Go.Proofs.YtlneebmlhblleaaGreat
