/- The proof's texts, part 49. -/
import Derived.Test.YtmglhdkeidhafaaGreatTM
import Derived.Test.YtmglhdkeidhafaaGreatTB
import Derived.Test.YtmglhdkeidhafaaGreatTF
namespace Go.Proofs.YtmglhdkeidhafaaGreat
open Go.RowKit
set_option linter.unusedVariables false
set_option linter.unusedSimpArgs false
set_option maxHeartbeats 8000000
set_option maxRecDepth 100000
/- ahr of package impl. -/
theorem Uf {P:Int→Prop} {v:Int} {ms:List aC} (hv:P v):∀ {E:aU},(∀ e ∈ E,P e.1)→∀ e ∈ kP E v ms,P e.1:=by
 unfold kP
 induction ms with
 | nil=>intro E h;exact h
 | cons m ms ih =>
  intro E h
  refine ih fun e he=>?_
  rcases List.mem_append.1 he with he | he
  ·exact h e (List.mem_filter.1 he).1
  ·rw [List.mem_singleton] at he;subst he;exact hv
theorem ad5 {E:aU} {v u:Int} (h:∀ e ∈ E,e.1≠v):bW E v u=none:=by
 unfold bW
 rw [show E.find? (isK v u)=none from List.find?_eq_none.2 fun e he=>by
  have:=h e he
  unfold isK
  simp
  omega]
 rfl
/-- The map gets other ah; the boxes at the gP have theirs. -/
theorem aT.laid {wt w w':World} {S:Nat→Prop} {gd g n n':Nat} {a:aF} {u0 u1:Value} {E E':aU} (h:aT wt w S gd g n a u0 u1 E) (hG:w.grownBy w' (some g)) (hM:MR wt w' g n' E') (he:∀ b ∈ a.boxes,dG E' b.valid b.ah) (hh:∀ e ∈ E',e.1≤a.valid):aT wt w' S gd g n' a u0 u1 E':=by
 have hk:∀ k,k < w.heap.size→k≠g→w'.heap[k]?=w.heap[k]?:=fun k hk hne=>hG.block k hk fun e=>hne (Option.some.inj e)
 refine ⟨Ig h.base hG h.nH.2,(hk gd (lt_of_heap h.cells) h.ty.2).trans h.cells,h.boxes.frame mG fun k hs hlt=>hk k hlt (h.low k hs).2.2.2.1,hM,?_,he,hh,h.dist,fun k hs=>let ⟨h1,h2,r⟩:=h.low k hs;⟨h1,Nat.lt_of_lt_of_le h2 hG.size,r⟩,h.nH,h.i64⟩
 rcases h.seen with h' | ⟨gs,cp,cu,cs,fs,hv,hh,h1,h2,h3,h4,h5,h6,h7⟩
 ·exact .inl h'
 ·refine .inr ⟨gs,cp,cu,cs,fs,hv,(hk gs (lt_of_heap hh) fun e=>?_).trans hh,h1,h2,h3,h4,fun j x hx=>?_,h6,h7⟩
  ·subst e
   obtain ⟨D,⟨es,c,e1,-⟩,-⟩:=h.map
   rw [hh] at e1
   cases e1
  ·exact h5 j x hx
/-- A gP that was just made. -/
def ad6 (w w':World) (gd:Nat) (a:aF):Prop:=∃ S g n u0 u1 E,aT w w' S gd g n a u0 u1 E∧n≤1000∧Below w.heap.size w w'∧w.heap.size≤gd
theorem ad7:(Tryz.f14.body.bind (bR 5)).all (fun o=>dW o 6 [0,1,2,3,4,5] [5] [5,6] 8)=true:=by kernel_rfl
theorem ad8:(Tryz.f14.body.bind (bR 8)).all (fun o=>dW o 11 [0,1,2,3,4,5,6,7,8,9,10] [6,7,10] [8,11] 8)=true:=by kernel_rfl
theorem Ug:(Tryz.f14.body.bind (bR 1)).all (fun o=>qj o 9 [0,1,3,4,2,5,6,7,8] [5,7] [4] [9] 0)=true:=by kernel_rfl
theorem ad9:(Tryz.f14.body.bind (bR 1)).all (fun o=>qj o 9 [0,1,3,4,5,2,6,7,8] [5,7] [4] [9] 0)=true:=by kernel_rfl
theorem aea (w:World) (av:Value) (a:aF) (hv:iw w av a) (hs:a.seen.length≤2000000) (h4:a.boxes.length≤4) (hok:∀ b ∈ a.boxes,mF b.ah∧b.ah.length≤12∧b.au.length≤1000∧b.valid≤a.valid∧b.name.length≤2000000) (hds:a.boxes.Pairwise (fun x y=>x.valid≠y.valid)) :
  Calls Tryz.prog 14 #[av] w fun e w'=>∃ gd,e=.returned (.pointer (some ⟨gd,0,none⟩))∧ad6 w w' gd a:=by
 obtain ⟨u0,u1,rfl,g0,g1,hiv⟩:=hv
 obtain ⟨ba,bc,rfl,hb1,hb2⟩:=g0.form
 obtain ⟨sa,sc,rfl,hs1,hs2⟩:=g1.form
 have A1:Below w.heap.size w (w.alloc (.cells #[.int .i64 a.valid,.slice ba a.boxes.length bc,.slice sa a.seen.length sc] 26)):=bn _ _
 have HK:=ak (aW w (.cells #[.int .i64 a.valid,.slice ba a.boxes.length bc,.slice sa a.seen.length sc] 26))
 have HA:=ak A1
 have j4:Hid (∀ w',Below w.heap.size w w'→gJ w' (.slice ba a.boxes.length bc) a.boxes):=fun w' hw=>g0.below tK hw
 have aeb:Hid (∀ w',Below w.heap.size w w'→oZ w' (.slice sa a.seen.length sc) a.seen):=fun w' hw=>g1.below DX hw
 have wT:=ak hiv
 have p8:=ak hok
 have Mt:=ak hds
 obtain ⟨z0,hi,hz0,hz1,hz2⟩:=info_parts Hl
 obtain ⟨j0,hj,hy0,hy1,hy2⟩:=info_parts yS
 obtain ⟨i0,hx,hx0,hx1,hx2⟩:=info_parts xq
 have hl1:a.seen.length≤maxLen:=by unfold maxLen;omega
 have hl2:a.seen.length * 8≤140737488355328:=by omega
 have Dt:w.heap.size+1≤(w.alloc (.cells #[.int .i64 a.valid,.slice ba a.boxes.length bc,.slice sa a.seen.length sc] 26)).heap.size:=by simp
 clear g0 g1 A1 hiv hok hds
 go_enter Tryz.func14,Tryz.ntmps14
 go_upto_region 1 with fail
 generalize w.alloc (.cells #[.int .i64 a.valid,.slice ba a.boxes.length bc,.slice sa a.seen.length sc] 26)=w1 at HK HA Dt ⊢
 have dF:Hid (∀ w',Below w1.heap.size w1 w'→w'.cell? ⟨w.heap.size,0,none⟩=some (.int .i64 a.valid)∧w'.cell? ⟨w.heap.size,2,none⟩=some (.slice sa a.seen.length sc)):=fun w' hw=>⟨(bM (aB hw HK.out)).1,(bM (aB hw HK.out)).2.2⟩
 have yH:Hid (∀ w',Below w1.heap.size w1 w'→oZ w' (.slice sa a.seen.length sc) a.seen):=fun w' hw=>aeb.out w' (Below.step HA.out hw)
 have hlk:=lt_of_heap HK.out
 have D0:Below w1.heap.size w1 w1.drew:=(bd _ _)
 go_cut [3] (fun s wx=>∃ gd g ua un uc,s=.pointer (some ⟨gd,0,none⟩)∧Hid (wx.heap[gd]?=some (.cells #[.int .i64 a.valid,.slice none 0 0,.map (some g),.slice ua un uc] 80 (0,0)))∧Hid (MR w wx g 0 [])∧Hid (eY wx (fun k=>w1.heap.size≤k) (.slice ua un uc) a.seen)∧Hid (Below w1.heap.size w1 wx)∧w1.heap.size≤gd∧w1.heap.size≤g∧w1.heap.size≤wx.heap.size)
 case first =>
  refine G7 9 (S:=fun w'=>w'.cell? ⟨w.heap.size,0,none⟩=some (.int .i64 a.valid)∧w'.cell? ⟨w.heap.size,2,none⟩=some (.slice sa a.seen.length sc)) (tJ (by kernel_rfl) Ug) (tJ (by kernel_rfl) ad9) (tJ (by kernel_rfl) Ug) (by kernel_rfl) (dF.out _ D0) (fun aj uE _ ahz=>?_)
  have BK:=ak aj
  have oG:=ak uE
  refine dL 0 0 7 aj ahz ?_
  refine dL 1 1 8 aj ahz ?_
  refine dL 2 3 10 aj ahz ?_
  refine dL 3 4 11 aj ahz ?_
  refine Ay 4 [2,5] (by kernel_rfl) (by decide) (by decide) (by simp) ?_
  refine (jo.cons [0,1,3,4,2,5,6,7,8] rfl (by decide) (by decide) (fun K hK=>?_) (jo.cons [0,1,3,4,5,2,6,7,8] rfl (by decide) (by decide) (fun K hK=>?_) jo.nil))
  ·clear aj uE
   have aj:=BK.out
   go_simp
   have A2:Below w1.heap.size w1 (w1.drew.alloc (.map #[] 0)):=D0.alloc (Nat.le_refl _) _
   have hMR:=MR.made w w1.drew
   refine hK.out _ (w1.drew.alloc (.map #[] 0)) (dF.out _ A2) (fun ahz=>?_)
   clear hK K
   have hgz:w1.heap.size≤w1.drew.heap.size:=Nat.le_refl _
   generalize w1.drew.alloc (.map #[] 0)=x1 at A2 hMR ⊢
   refine fQ 5 5 aj (by decide) rfl rfl (fun K hK=>?_)
   refine dR (by kernel_rfl) (jX (B:=w1.heap.size) 12 rfl (.const (.slice none 0 0)) (.tmp 11) rfl ⟨by simp,.inl ⟨rfl,rfl⟩⟩ (yH.out _ A2) (OV _) Tryz.underlying24 hi hz0 hz1 hz2 rfl (by omega) rfl rfl hl1 hl2 A2.size ?_)
   intro V x2 xs hO hX hG _
   have B2:Below x1.heap.size x1 x2:=⟨hG.os,hG.tape,hG.output,hG.size,fun k hk=>hG.block k hk (by simp [Value.ownBlock])⟩
   have hI:eY x2 (fun k=>w1.heap.size≤k) V a.seen:=OX hO hX (fun g hg=>dP hO hg)
   obtain ⟨ua,un,uc,rfl⟩:=tV.aG hI
   have D2:=Below.step A2 B2
   have hM2:=hMR.kept (B2.block _ hMR.lt)
   refine hK.out _ _ (dF.out _ D2) (fun ahz=>?_)
   clear hK K
   have hs2:=D2.size
   refine dL 6 6 13 aj ahz ?_
   have A9:Below x2.heap.size x2 (x2.alloc (.cells #[.int .i64 a.valid,.slice none 0 0,.map (some w1.drew.heap.size),.slice ua un uc] 80)):=bn _ _
   refine fQ 7 7 aj (by decide) rfl rfl (fun K hK=>?_)
   go_simp
   refine hK.out _ _ (dF.out _ (Below.step D2 A9)) (fun ahz=>?_)
   clear hK K
   refine dL 8 8 3 aj ahz ?_
   refine vo aj ?_
   go_wp2
   go_meet
   case rel=>exact ⟨_,_,_,_,_,rfl,aW x2 _,hM2.kept (A9.block _ hM2.lt),Ow.below tL hI A9,Below.step D2 A9,hs2,hgz,(Below.step D2 A9).size⟩
  ·clear aj uE
   have aj:=oG.out
   refine dR (by kernel_rfl) (jX (B:=w1.heap.size) 12 rfl (.const (.slice none 0 0)) (.tmp 11) rfl ⟨by simp,.inl ⟨rfl,rfl⟩⟩ (yH.out _ D0) (OV _) Tryz.underlying24 hi hz0 hz1 hz2 rfl (by omega) rfl rfl hl1 hl2 D0.size ?_)
   intro V x1 xs hO hX hG _
   have B2:Below w1.drew.heap.size w1.drew x1:=⟨hG.os,hG.tape,hG.output,hG.size,fun k hk=>hG.block k hk (by simp [Value.ownBlock])⟩
   have hI:eY x1 (fun k=>w1.heap.size≤k) V a.seen:=OX hO hX (fun g hg=>dP hO hg)
   obtain ⟨ua,un,uc,rfl⟩:=tV.aG hI
   have D2:=Below.step D0 B2
   refine hK.out _ _ (dF.out _ D2) (fun ahz=>?_)
   clear hK K
   have A2:Below x1.heap.size x1 (x1.alloc (.map #[] 0)):=bn _ _
   have hMR:=MR.made w x1
   have hs1:=D2.size
   refine fQ 5 2 aj (by decide) rfl rfl (fun K hK=>?_)
   go_simp
   refine hK.out _ (x1.alloc (.map #[] 0)) (dF.out _ (Below.step D2 A2)) (fun ahz=>?_)
   clear hK K
   have hI2:=Ow.below tL hI A2
   have D3:=Below.step D2 A2
   generalize x1.alloc (.map #[] 0)=x2 at A2 hMR hI2 D3 ahz ⊢
   have hs2:=D3.size
   refine dL 6 6 13 aj ahz ?_
   have A9:Below x2.heap.size x2 (x2.alloc (.cells #[.int .i64 a.valid,.slice none 0 0,.map (some x1.heap.size),.slice ua un uc] 80)):=bn _ _
   refine fQ 7 7 aj (by decide) rfl rfl (fun K hK=>?_)
   go_simp
   refine hK.out _ _ (dF.out _ (Below.step D3 A9)) (fun ahz=>?_)
   clear hK K
   refine dL 8 8 3 aj ahz ?_
   refine vo aj ?_
   go_wp2
   go_meet
   case rel=>exact ⟨_,_,_,_,_,rfl,aW x2 _,hMR.kept (A9.block _ hMR.lt),Ow.below tL hI2 A9,Below.step D3 A9,hs2,hs1,(Below.step D3 A9).size⟩
 case rest =>
  obtain ⟨gd,g,ua,un,uc,rfl,zU,hMR,Uh,hB,hgd,hgg,hsx⟩:=hcut
  have Mv:=ak (Below.step HA.out hB.out)
  obtain ⟨k0,k1,k2⟩:=bM (aB hB.out HK.out)
  have hkl:=lt_of_heap (aB hB.out HK.out)
  have HD0:Hid (aT w wc (fun _=>False) gd g 0 ⟨a.valid,[],a.seen⟩ (.slice none 0 0) (.slice ua un uc) []):=⟨Mv.out,zU.out,.inl ⟨rfl,rfl⟩,hMR.out,Ow.mono Uh.out (fun q hq=>by have:=hq;show w.heap.size≤q;omega),by simp,by simp,List.Pairwise.nil,fun q h=>h.elim,⟨by omega,by omega⟩,wT.out⟩
  have hgl:=lt_of_heap zU.out
  clear zU hMR Uh hB dF yH D0 hlk
  go_wp2
  clear k0 k1 k2 hkl
  go_loopw [5,6,18] (fun _ _ iv wr=>∃ (k:Nat) (oa:Option Addr) (on oc n:Nat) (S:Nat→Prop) (E:aU),k≤a.boxes.length∧iv=.int .i64 k∧n≤12 * k∧Hid (aT w wr S gd g n ⟨a.valid,a.boxes.take k,a.seen⟩ (.slice oa on oc) (.slice ua un uc) E)∧Hid (∀ q,S q→wc.heap.size≤q)∧Hid (∀ e ∈ E,∃ x ∈ a.boxes.take k,e.1=x.valid)∧Hid (Below w.heap.size w wr)∧wc.heap.size≤wr.heap.size) (fun _ _ iv _=>a.boxes.length - (intOf iv).toNat)
  case atStart=>exact ⟨0,none,0,0,0,fun _=>False,[],Nat.zero_le _,rfl,by omega,by simpa using HD0,fun q h=>h.elim,(fun e he=>by cases he),Mv.out,Nat.le_refl _⟩
  case round =>
   obtain ⟨k,oa,on,oc,n,S,E,hk,rfl,hn,HD,Dq,Mw,HB,hsr⟩:=hrel
   clear HD0 Mv
   by_cases hlt:k < a.boxes.length
   ·obtain ⟨b,hb⟩:∃ b,a.boxes[k]?=some b:=⟨_,aL hlt⟩
    have hki:(k:Int) < a.boxes.length:=by omega
    obtain ⟨gb,off,cap,v0,v1,v2,ev,hlb,d0,d1,d2,d3,d4,d5,d6,q0,q1,q2,ii⟩:=gJ.cell (j4.out w (Below.refl _ _)) k b hb
    simp only [Value.slice.injEq,true_and] at ev
    obtain ⟨rfl,rfl⟩:=ev
    have hbv:bI w (.agg #[v0,.int .i64 b.valid,.int .i64 b.next,.int .i64 b.seq,v1,v2,.int .i64 b.lost]) b:=⟨v0,v1,v2,rfl,q0,q1,q2,ii⟩
    have wG:Hid (∀ m ∈ b.ah,ay m.uid):=fun m hm=>by
     obtain ⟨i,hi⟩:=List.mem_iff_getElem?.1 hm
     obtain ⟨_,_,_,c,-,-,⟨_,-,-,r,-⟩,-⟩:=q1.get i m hi
     exact r
    obtain ⟨na,nn,nc,rfl⟩:=q0.aG
    obtain ⟨ma,mc,rfl,-⟩:=q1.form
    obtain ⟨ga,gc,rfl,-⟩:=q2.form
    have gM:=ak hbv
    have vV:Hid (∀ w',Below w.heap.size w w'→dD w' (.slice ga b.au.length gc) b.au):=fun w' hw=>q2.below gU hw
    have CZ:=ak ii
    have hO:=p8.out b (List.mem_of_getElem? hb)
    have yG:=ak hb
    replace d0:=(HB.out.cell (p:=⟨gb,_,none⟩) hlb).trans d0
    replace d1:=(HB.out.cell (p:=⟨gb,_,none⟩) hlb).trans d1
    replace d2:=(HB.out.cell (p:=⟨gb,_,none⟩) hlb).trans d2
    replace d3:=(HB.out.cell (p:=⟨gb,_,none⟩) hlb).trans d3
    replace d4:=(HB.out.cell (p:=⟨gb,_,none⟩) hlb).trans d4
    replace d5:=(HB.out.cell (p:=⟨gb,_,none⟩) hlb).trans d5
    replace d6:=(HB.out.cell (p:=⟨gb,_,none⟩) hlb).trans d6
    have hlr:gb < wr.heap.size:=Nat.lt_of_lt_of_le hlb HB.out.size
    have A2:Below wr.heap.size wr (wr.alloc (.cells #[.slice na nn nc,.int .i64 b.valid,.int .i64 b.next,.int .i64 b.seq,.slice ma b.ah.length mc,.slice ga b.au.length gc,.int .i64 b.lost] 34)).drew:=(bn _ _).drew
    have HD2:=ak (HD.out.below A2)
    have HB2:=ak (Below.step HB.out A2)
    have hkb:(wr.alloc (.cells #[.slice na nn nc,.int .i64 b.valid,.int .i64 b.next,.int .i64 b.seq,.slice ma b.ah.length mc,.slice ga b.au.length gc,.int .i64 b.lost] 34)).drew.heap[wr.heap.size]?=some (.cells #[.slice na nn nc,.int .i64 b.valid,.int .i64 b.next,.int .i64 b.seq,.slice ma b.ah.length mc,.slice ga b.au.length gc,.int .i64 b.lost] 34 (0,0)):=aW wr _
    have Ui:=ak hkb
    have hz2:(wr.alloc (.cells #[.slice na nn nc,.int .i64 b.valid,.int .i64 b.next,.int .i64 b.seq,.slice ma b.ah.length mc,.slice ga b.au.length gc,.int .i64 b.lost] 34)).drew.heap.size=wr.heap.size+1:=(show (wr.alloc (.cells #[.slice na nn nc,.int .i64 b.valid,.int .i64 b.next,.int .i64 b.seq,.slice ma b.ah.length mc,.slice ga b.au.length gc,.int .i64 b.lost] 34)).heap.size=_ by simp)
    have Uj:=ak (VX w g n E _ b (wr.alloc (.cells #[.slice na nn nc,.int .i64 b.valid,.int .i64 b.next,.int .i64 b.seq,.slice ma b.ah.length mc,.slice ga b.au.length gc,.int .i64 b.lost] 34)).drew HD2.out.map gM.out HB2.out (by omega) (by omega) (by omega))
    have rO:Hid ((wr.alloc (.cells #[.slice na nn nc,.int .i64 b.valid,.int .i64 b.next,.int .i64 b.seq,.slice ma b.ah.length mc,.slice ga b.au.length gc,.int .i64 b.lost] 34)).drew |> fun w'=>w'.cell? ⟨gd,2,none⟩=some (.map (some g))∧w'.rangeAt wr.heap.size 0 [.slice na nn nc,.int .i64 b.valid,.int .i64 b.next,.int .i64 b.seq,.slice ma b.ah.length mc,.slice ga b.au.length gc,.int .i64 b.lost]):=⟨(cell_of_row _ gd 2 _ _ (0,0) HD2.out.cells).trans rfl,nk hkb⟩
    have aec:gd < (wr.alloc (.cells #[.slice na nn nc,.int .i64 b.valid,.int .i64 b.next,.int .i64 b.seq,.slice ma b.ah.length mc,.slice ga b.au.length gc,.int .i64 b.lost] 34)).heap.size:=lt_of_heap HD2.out.cells
    clear q0 q1 q2 ii hbv hb hkb A2
    go_upto_region 5 with fail
    clear d0 d1 d2 d3 d4 d5 d6 hlr
    refine eO 5 (S:=fun w'=>w'.cell? ⟨gd,2,none⟩=some (.map (some g))∧w'.rangeAt wr.heap.size 0 [.slice na nn nc,.int .i64 b.valid,.int .i64 b.next,.int .i64 b.seq,.slice ma b.ah.length mc,.slice ga b.au.length gc,.int .i64 b.lost]) (eH (by kernel_rfl) ad7) (by kernel_rfl) rO.out (fun aj ahz=>?_)
    refine tks 0 0 22 aj ahz ?_
    refine tks 1 1 23 aj ahz ?_
    refine tks 2 2 24 aj ahz ?_
    refine tks 3 3 25 aj ahz ?_
    refine qp 4 4 26 34 (.tmp 5) wr.heap.size 0 [.slice na nn nc,.int .i64 b.valid,.int .i64 b.next,.int .i64 b.seq,.slice ma b.ah.length mc,.slice ga b.au.length gc,.int .i64 b.lost] aj ahz (fun w h=>h.2) Tryz.underlying34 ?_
    refine gH (S':=fun w'=>True) 5 6 aj (by decide) trivial (fun ahz=>?_)
    refine cls 5 5 aj (by decide) rfl rfl (fun K hK=>?_)
    go_simp
    refine Uj.out.mono ?_
    rintro e w3 ⟨rfl,Uk,hG3⟩
    refine hK.out _ _ trivial (fun ahz=>?_)
    clear hK K
    refine eP aj ?_
    have HD3:=ak (HD2.out.laid hG3 Uk (fun x hx=>(HD2.out.ents x hx).XA (fun e=>by
      obtain ⟨i,hi⟩:=List.mem_iff_getElem?.1 hx
      have hik:i < k:=by have:=(gs1 hi).1;simp at this;omega
      rw [List.getElem?_take_of_lt hik] at hi
      obtain ⟨l1,rfl⟩:=gs1 hi
      obtain ⟨l2,rfl⟩:=gs1 yG.out
      exact List.pairwise_iff_getElem.1 Mt.out i k l1 l2 hik e)) (Uf (P:=fun z=>z≤a.valid) hO.2.2.2.1 HD2.out.high))
    have HB3:=ak (HB2.out.grown hG3 HB2.out.size (fun q hq=>by cases hq;omega))
    have Gv:=ak (pI hG3 Ui.out (by have:=HD2.out.map.lt;have:=HD.out.map.lt;omega))
    have hs3:=hG3.size
    have CG:Hid (dG (kP E b.valid b.ah) b.valid b.ah∧∀ e ∈ kP E b.valid b.ah,∃ x ∈ a.boxes.take (k+1),e.1=x.valid):=by
     refine ⟨dG.lay hO.1 wG.out (fun u _=>ad5 fun e he=>?_),Uf (P:=fun z=>∃ x ∈ a.boxes.take (k+1),z=x.valid) ⟨b,by rw [List.take_add_one,yG.out];simp,rfl⟩ (fun e he=>?_)⟩
     ·obtain ⟨x,hx,ee⟩:=Mw.out e he
      rw [ee]
      intro e2
      obtain ⟨i,hi⟩:=List.mem_iff_getElem?.1 hx
      have hik:i < k:=by have:=(gs1 hi).1;simp at this;omega
      rw [List.getElem?_take_of_lt hik] at hi
      obtain ⟨l1,rfl⟩:=gs1 hi
      obtain ⟨l2,rfl⟩:=gs1 yG.out
      exact List.pairwise_iff_getElem.1 Mt.out i k l1 l2 hik e2
     ·obtain ⟨x,hx,ee⟩:=Mw.out e he
      exact ⟨x,by rw [List.take_add_one];exact List.mem_append_left _ hx,ee⟩
    have fq:=ak (Bc _ b w3 (gM.out.below HB3.out) hO.2.2.2.2)
    obtain ⟨t0,t1,t2,t3,t4,t5,t6⟩:=bU Gv.out
    have htl:=lt_of_heap Gv.out
    clear Uk hG3 Uj rO HD2 HB2 Ui aec
    go_wp2_with fail
    refine fq.out.mono ?_
    rintro e w4 ⟨xa,xn,xc,rfl,nP,B4⟩
    have A5:Below w4.heap.size w4 (w4.alloc (.cells #[.slice xa xn xc,.int .i64 b.valid,.int .i64 b.next,.int .i64 b.seq,.slice none 0 0,.slice none 0 0,.int .i64 b.lost] 34)):=bn _ _
    have jr:=ak (Below.step B4 A5)
    have Gw:=ak (aB (Below.step B4 A5) Gv.out)
    have pX:=ak (aW w4 (.cells #[.slice xa xn xc,.int .i64 b.valid,.int .i64 b.next,.int .i64 b.seq,.slice none 0 0,.slice none 0 0,.int .i64 b.lost] 34))
    have jU:=ak (nP.below A5)
    have hs4:=B4.size
    have zO:(w4.alloc (.cells #[.slice xa xn xc,.int .i64 b.valid,.int .i64 b.next,.int .i64 b.seq,.slice none 0 0,.slice none 0 0,.int .i64 b.lost] 34)).heap.size=w4.heap.size+1:=by simp
    have Eh:=ak hO.2.2.1
    clear nP B4 A5 fq t0 t1 t2 t3 t4 t5 t6 htl Gv
    go_upto_region 7 with fail
    generalize w4.alloc (.cells #[.slice xa xn xc,.int .i64 b.valid,.int .i64 b.next,.int .i64 b.seq,.slice none 0 0,.slice none 0 0,.int .i64 b.lost] 34)=w5 at jr Gw pX jU zO ⊢
    obtain ⟨t0,t1,t2,t3,t4,t5,t6⟩:=bU Gw.out
    have htl:=lt_of_heap Gw.out
    have Ej:w4.heap.size+1≤w5.heap.size:=by omega
    have Ul:=vV.out w5 (Below.step HB3.out jr.out)
    have Um:=ak Ul
    have Rb:b.au.length≤maxLen:=by have:=Eh.out;unfold maxLen;omega
    have jL:b.au.length * 16≤140737488355328:=by have:=Eh.out;omega
    clear Ul zO
    go_wp2_with (at_builtin;refine Nb (B:=w5.heap.size) rfl (.const (.slice none 0 0)) (.tmp 31) rfl ⟨by simp,.inl ⟨rfl,rfl⟩⟩ Um.out (AO _) Tryz.underlying32 hj hy0 hy1 hy2 rfl (by omega) rfl rfl Rb jL (Nat.le_refl _) ?_)
    intro V w6 xs iI rP fJ _
    have B6:Below w5.heap.size w5 w6:=⟨fJ.os,fJ.tape,fJ.output,fJ.size,fun q hq=>fJ.block q hq (by simp [Value.ownBlock])⟩
    have hgo:iY w6 (In w5.heap.size w6.heap.size) V b.au:=Ed iI rP (fun g hg=>iI.lt g hg)
    obtain ⟨ra,rn,rc,rfl⟩:=tV.aG hgo
    have K6:=aB B6 pX.out
    have hs6:=B6.size
    have Un:(w6.setCell ⟨w4.heap.size,5,none⟩ (.slice ra rn rc)).heap[w4.heap.size]?=some (.cells #[.slice xa xn xc,.int .i64 b.valid,.int .i64 b.next,.int .i64 b.seq,.slice none 0 0,.slice ra rn rc,.int .i64 b.lost] 34 (0,0)):=aJ (i:=5) (v:=.slice ra rn rc) K6
    have bY:=ak ((Below.step jr.out B6).setCell (p:=⟨w4.heap.size,5,none⟩) (show w3.heap.size≤w4.heap.size from hs4) (.slice ra rn rc))
    have yE:∀ q,q≠w4.heap.size→(w6.setCell ⟨w4.heap.size,5,none⟩ (.slice ra rn rc)).heap[q]?=w6.heap[q]?:=fun q hq=>Below.heap_setCell _ _ _ _ hq
    have zP:=ak ((jU.out.below B6).frame fun q hq _=>yE q (by have:=hq.2;omega))
    have Mx:=ak (Ow.frame nT hgo fun q hq _=>yE q (by have:=hq.1;omega))
    have Dv:=ak Un
    have zQ:(w6.setCell ⟨w4.heap.size,5,none⟩ (.slice ra rn rc)).heap.size=w6.heap.size:=bf
    obtain ⟨p0,p1,p2,p3,p4,p5,p6⟩:=bU (show w6.heap[w4.heap.size]?=some (.cells #[.slice xa xn xc,.int .i64 b.valid,.int .i64 b.next,.int .i64 b.seq,.slice none 0 0,.slice none 0 0,.int .i64 b.lost] 34 (0,0)) from K6)
    have pz:=(aZ K6).1
    have pl:=lt_of_heap K6
    clear iI rP fJ hgo K6 Un yE t0 t1 t2 t3 t4 t5 t6 htl Gw pX jU B6 jr Um
    go_upto_region 8 with fail
    clear p0 p1 p2 p3 p4 p5 p6 pz pl
    generalize w6.setCell ⟨w4.heap.size,5,none⟩ (.slice ra rn rc)=w7 at bY zP Mx Dv zQ ⊢
    have ahs:w6.heap.size≤w7.heap.size:=by omega
    clear zQ
    have HD7:=ak (HD3.out.below bY.out)
    have hs7:w3.heap.size≤w7.heap.size:=bY.out.size
    have DR:Below w7.heap.size w7 w7.drew:=(bd _ _)
    have MB:Hid (∀ w',Below w7.heap.size w7 w'→w'.cell? ⟨gd,1,none⟩=some (.slice oa on oc)∧w'.rangeAt w4.heap.size 0 [.slice xa xn xc,.int .i64 b.valid,.int .i64 b.next,.int .i64 b.seq,.slice none 0 0,.slice ra rn rc,.int .i64 b.lost]):=fun w' hw=>⟨(cell_of_row _ gd 1 _ _ (0,0) (HD7.out.below hw).cells).trans rfl,nk (aB hw Dv.out)⟩
    have Mi:gd < w7.drew.heap.size:=lt_of_heap HD7.out.cells
    refine eO 8 (S:=fun w'=>w'.cell? ⟨gd,1,none⟩=some (.slice oa on oc)∧w'.rangeAt w4.heap.size 0 [.slice xa xn xc,.int .i64 b.valid,.int .i64 b.next,.int .i64 b.seq,.slice none 0 0,.slice ra rn rc,.int .i64 b.lost]) (eH (by kernel_rfl) ad8) (by kernel_rfl) (MB.out _ DR) (fun aj ahz=>?_)
    refine tks 0 0 34 aj ahz ?_
    refine tks 1 1 35 aj ahz ?_
    refine tks 2 2 36 aj ahz ?_
    refine tks 3 3 37 aj ahz ?_
    refine tks 4 4 38 aj ahz ?_
    refine qp 5 5 39 34 (.tmp 6) w4.heap.size 0 [.slice xa xn xc,.int .i64 b.valid,.int .i64 b.next,.int .i64 b.seq,.slice none 0 0,.slice ra rn rc,.int .i64 b.lost] aj ahz (fun w h=>h.2) Tryz.underlying34 ?_
    have AB:Below w7.heap.size w7 (w7.drew.alloc (.cells #[.slice xa xn xc,.int .i64 b.valid,.int .i64 b.next,.int .i64 b.seq,.slice none 0 0,.slice ra rn rc,.int .i64 b.lost] 34)):=DR.alloc (Nat.le_refl _) _
    refine cls 6 6 aj (by decide) rfl rfl (fun K hK=>?_)
    go_simp
    refine hK.out _ _ (MB.out _ AB) (fun ahz=>?_)
    clear hK K
    have hMs:w3.heap.size≤(w7.drew.alloc (.cells #[.slice xa xn xc,.int .i64 b.valid,.int .i64 b.next,.int .i64 b.seq,.slice none 0 0,.slice ra rn rc,.int .i64 b.lost] 34)).heap.size:=Nat.le_trans hs7 AB.size
    have hza:w7.heap.size≤(w7.drew.alloc (.cells #[.slice xa xn xc,.int .i64 b.valid,.int .i64 b.next,.int .i64 b.seq,.slice none 0 0,.slice ra rn rc,.int .i64 b.lost] 34)).heap.size:=AB.size
    have nJ:pV (w7.drew.alloc (.cells #[.slice xa xn xc,.int .i64 b.valid,.int .i64 b.next,.int .i64 b.seq,.slice none 0 0,.slice ra rn rc,.int .i64 b.lost] 34)) [.slice xa xn xc,.int .i64 b.valid,.int .i64 b.next,.int .i64 b.seq,.slice none 0 0,.slice ra rn rc,.int .i64 b.lost] b (In w3.heap.size (w7.drew.alloc (.cells #[.slice xa xn xc,.int .i64 b.valid,.int .i64 b.next,.int .i64 b.seq,.slice none 0 0,.slice ra rn rc,.int .i64 b.lost] 34)).heap.size):=⟨_,_,rfl,(zP.out.below AB).mono fun q hq=>⟨hq.1,by have:=hq.2;omega⟩,EF (Ow.mono (Ow.below nT Mx.out AB) fun q hq=>⟨by have:=hq.1;omega,by have:=hq.2;omega⟩),CZ.out⟩
    have hl1:(a.boxes.take k).length+1≤maxLen:=by unfold maxLen;simp;omega
    have hl2:((a.boxes.take k).length+1) * 104≤140737488355328:=by simp;omega
    refine cls 7 7 aj (by decide) rfl rfl (fun K hK=>?_)
    refine dR (by kernel_rfl) (Ti 41 rfl (.tmp 38) (.tmp 40) rfl mG (B:=w.heap.size) (M:=w3.heap.size) (Ow.below mG HD7.out.boxes AB) (fun q hq=>⟨(HD3.out.low q hq).1,(HD3.out.low q hq).2.1⟩) hMs HD3.out.base.size Tryz.underlying23 hx hx0 hx1 hx2 rfl (by omega) rfl b [.slice xa xn xc,.int .i64 b.valid,.int .i64 b.next,.int .i64 b.seq,.slice none 0 0,.slice ra rn rc,.int .i64 b.lost] rfl nJ ⟨w7.heap.size,0,none⟩ 1 rfl (kH w7.drew _ _) (by simp [Value.oneCell']) hl1 hl2 ?_)
    intro DV wz jV hgz fP
    obtain ⟨da,dn,dc,og⟩:∃ x y z,DV=.slice x y z:=by
     rcases jV with ⟨e,-⟩ | ⟨_,_,_,_,_,e,-⟩
     ·exact ⟨_,_,_,e⟩
     ·exact ⟨_,_,_,e⟩
    subst og
    have KX:=(hgz.block gd (lt_of_heap (aB AB HD7.out.cells)) (fun e=>(HD3.out.low gd (fP gd e.symm)).2.2.1 rfl)).trans (aB AB HD7.out.cells)
    have hko:wz.heap[w4.heap.size]?=some (.cells #[.slice xa xn xc,.int .i64 b.valid,.int .i64 b.next,.int .i64 b.seq,.slice none 0 0,.slice ra rn rc,.int .i64 b.lost] 34 (0,0)):=(hgz.block _ (lt_of_heap (aB AB Dv.out)) (fun e=>by have:=(HD3.out.low _ (fP _ e.symm)).2.1;omega)).trans (aB AB Dv.out)
    refine hK.out _ _ ⟨(iZ KX).2.1,nk hko⟩ (fun ahz=>?_)
    clear hK K
    have Dr:=ak (And.intro jV (And.intro hgz fP))
    have gK:=ak AB
    obtain ⟨x0,x1,x2,x3⟩:=iZ KX
    obtain ⟨xz,xl⟩:=aZ KX
    refine gH (S':=fun w'=>True) 8 11 aj (by decide) trivial (fun ahz=>?_)
    refine tks 8 8 42 aj ahz ?_
    refine tks 9 9 43 aj ahz ?_
    refine cls 10 10 aj (by decide) rfl rfl (fun K hK=>?_)
    go_simp
    refine hK.out _ _ trivial (fun ahz=>?_)
    clear hK K
    refine eP aj ?_
    have qW:=ak KX
    clear x0 x1 x2 x3 xz xl KX hko nJ hMs hl1 hl2 jV hgz fP AB DR MB Mi
    obtain ⟨jV,hgz,fP⟩:=Dr.out
    obtain ⟨S9,MC⟩:∃ S9:Nat→Prop,S9=fun q=>S q∨w3.heap.size≤q∧q < wz.heap.size:=⟨_,rfl⟩
    rw [← MC] at jV
    have Gx:Hid (∀ q,S9 q→S q∨(w3.heap.size≤q∧q < wz.heap.size)):=fun q hq=>by rw [MC] at hq;exact hq
    clear MC
    have hsz:=hgz.size
    have hsa:=gK.out.size
    have hzz:w3.heap.size≤wz.heap.size:=Nat.le_trans (Nat.le_trans hs7 hsa) hsz
    have ME:∀ q,q≠gd→(wz.setCell ⟨gd,1,none⟩ (.slice da dn dc)).heap[q]?=wz.heap[q]?:=fun q hq=>Below.heap_setCell _ _ _ _ hq
    have hkeep:∀ q,q < w3.heap.size→q≠gd→(∀ j,S j→q≠j)→(wz.setCell ⟨gd,1,none⟩ (.slice da dn dc)).heap[q]?=w3.heap[q]?:=fun q hq h1 h2=>(ME q h1).trans ((hgz.block q (Nat.lt_of_lt_of_le hq (Nat.le_trans hs7 hsa)) (fun e=>h2 q (fP q e.symm) rfl)).trans ((gK.out.block q (Nat.lt_of_lt_of_le hq hs7)).trans (bY.out.block q hq)))
    have Uo:∀ x ∈ a.boxes.take k,x.valid≠b.valid:=fun x hx e=>by
     obtain ⟨i,hi⟩:=List.mem_iff_getElem?.1 hx
     have hik:i < k:=by have:=(gs1 hi).1;simp at this;omega
     rw [List.getElem?_take_of_lt hik] at hi
     obtain ⟨l1,rfl⟩:=gs1 hi
     obtain ⟨l2,rfl⟩:=gs1 yG.out
     exact List.pairwise_iff_getElem.1 Mt.out i k l1 l2 hik e
    have aht:=lt_of_heap HD3.out.cells
    have h9:aT w (wz.setCell ⟨gd,1,none⟩ (.slice da dn dc)) S9 gd g (n+b.ah.length) ⟨a.valid,a.boxes.take (k+1),a.seen⟩ (.slice da dn dc) (.slice ua un uc) (kP E b.valid b.ah):=by
     have e:a.boxes.take (k+1)=a.boxes.take k ++ [b]:=by rw [List.take_add_one,yG.out];rfl
     rw [e]
     exact HD3.out.CU
      (((Below.step HD7.out.base gK.out).grown hgz (Nat.le_trans HD7.out.base.size hsa) (fun q hq=>(HD3.out.low q (fP q hq)).1)).setCell (p:=⟨gd,1,none⟩) HD3.out.nH.1 _)
      (by rw [bf];exact hzz) (aJ (i:=1) (v:=.slice da dn dc) qW.out)
      (jV.frame mG fun q hq _=>ME q (fun e=>(Gx.out q hq).elim (fun h=>(HD3.out.low q h).2.2.1 e) (fun h=>by omega)))
      (hkeep g HD3.out.map.lt (fun e=>HD3.out.ty.2 e.symm) (fun j hj e=>(HD3.out.low j hj).2.2.2.1 e.symm))
      (fun q hq hlt=>hkeep q hlt (fun e=>HD3.out.Mk (e ▸ hq)) (fun j hj e=>(HD3.out.low j hj).2.2.2.2 (e ▸ hq)))
      (fun q hq=>(Gx.out q hq).imp id (fun h=>⟨h.1,by rw [bf];exact h.2⟩))
      (fun x hx=>(List.mem_append.1 hx).elim (HD3.out.ents x) (fun h=>by rw [List.mem_singleton] at h;subst h;exact CG.out.1))
      HD3.out.high
      (List.pairwise_append.2 ⟨HD3.out.dist,List.pairwise_singleton _ _,fun x hx z hz=>by rw [List.mem_singleton] at hz;subst hz;exact Uo x hx⟩) HD3.out.i64
    have FY:=ak h9
    have lI:Hid (Below w.heap.size w (wz.setCell ⟨gd,1,none⟩ (.slice da dn dc))):=h9.base
    have HQ9:Hid (∀ q,S9 q→wc.heap.size≤q):=fun q hq=>(Gx.out q hq).elim (Dq.out q) (fun h=>by omega)
    have hn9:n+b.ah.length≤12 * (k+1):=by have:=hO.2.1;omega
    have rU:wc.heap.size≤(wz.setCell ⟨gd,1,none⟩ (.slice da dn dc)).heap.size:=by rw [bf];omega
    clear h9 Uo hkeep ME jV hgz fP Dr gK qW HD7 bY zP Mx Dv HD3 HD Dq Mw HB HB3 Gx hsz hsa
    go_wp2
    go_roundw
    case rel=>exact ⟨k+1,da,dn,dc,n+b.ah.length,S9,_,by omega,by go_num,hn9,FY.out,HQ9.out,CG.out.2,lI.out,rU⟩
    case measure=>simp [intOf];omega
   ·obtain rfl:k=a.boxes.length:=by omega
    have hki:¬ (a.boxes.length:Int) < a.boxes.length:=by omega
    go_wp2
    go_ret
    refine ⟨gd,rfl,S,g,n,.slice oa on oc,.slice ua un uc,E,?_,by omega,HB.out,by omega⟩
    have:=HD.out
    rw [List.take_length] at this
    exact this
/- Do of package impl. -/
/-- An account and a reply of the call's own, apart. -/
def Dw (w w':World) (v1 v2:Value) (r:aF × dI):Prop :=
 ∃ bv sv T1 T2,v1=.agg #[.int .i64 r.1.valid,bv,sv]∧eY w' (In w.heap.size T1) sv r.1.seen∧dX w' T1 T2 v2 r.2∧wZ w' (In T2 w'.heap.size) bv r.1.boxes∧w.heap.size≤T1∧T1≤T2∧T2≤w'.heap.size∧ay r.1.valid
theorem aef {w:World} {S P:Nat→Prop} {v:Value} {l:List Int} (h:eY w S v l) (hP:∀ g,v.ownBlock=some g→P g):eY w P v l:=by
 rcases h with h | ⟨g,cap,cur,cs,fs,hv,hh,h1,h2,h3,h4,h5,h6,h7⟩
 ·exact .inl h
 ·exact .inr ⟨g,cap,cur,cs,fun _ _=>False,hv,hh,h1,h2,h3,hP g (by rw [hv];rfl),fun i x hx=>h5 i x hx,fun _ _ _ h=>h.elim,fun _ _ _ _ _ _ h=>h.elim⟩
theorem aeg:(Tryz.f5.body.bind (bR 5)).all (fun o=>dW o 5 [0,2,1,3,4] [2,3,4] [5] 0)=true:=by kernel_rfl
theorem aeh {a:aF} (h:fA a=true):a.seen.length≤2000000:=by
 simp only [fA,nU,Bool.and_eq_true,decide_eq_true_eq] at h
 have:=h.2.2.1.1
 omega
theorem aei (w:World) (av cv:Value) (a:aF) (c:dS) (hv:iw w av a) (hc:iQ w cv c.k c.bx c.tt c.uid c.mode c.fl c.si c.tx) :
  Calls Tryz.prog 5 #[av,cv] w fun e w'=>∃ v1 v2,e=.returned (.tuple #[v1,v2])∧Dw w w' v1 v2 (kF a c)∧Below w.heap.size w w':=by
 have kT:Hid (∀ w',Below w.heap.size w w'→iw w' av a):=fun w' hw=>hv.below hw
 have qO:Hid (∀ w',Below w.heap.size w w'→iQ w' cv c.k c.bx c.tt c.uid c.mode c.fl c.si c.tx):=fun w' hw=>hc.below hw
 obtain ⟨u0,u1,rfl,g0,g1,hiv⟩:=hv
 obtain ⟨ba,bc,rfl,-⟩:=g0.form
 obtain ⟨sa,sc,rfl,-⟩:=g1.form
 obtain ⟨q0,q1,q2,rfl,r0,r1,r2,-⟩:=hc
 obtain ⟨x0,m0,z0,rfl⟩:=r0.aG
 obtain ⟨x1,m1,z1,rfl⟩:=r1.aG
 obtain ⟨x2,m2,z2,rfl⟩:=r2.aG
 obtain ⟨kA,kC,X1⟩:=iX w (.cells #[.int .i64 a.valid,.slice ba a.boxes.length bc,.slice sa a.seen.length sc] 26) (.cells #[.int .i64 c.k,.slice x0 m0 z0,.slice x1 m1 z1,.int .i64 c.uid,.int .i64 c.mode,.int .i64 c.fl,.int .i64 c.si,.slice x2 m2 z2] 28)
 obtain ⟨kZ,kR,X2⟩:=iX ((w.alloc (.cells #[.int .i64 a.valid,.slice ba a.boxes.length bc,.slice sa a.seen.length sc] 26)).alloc (.cells #[.int .i64 c.k,.slice x0 m0 z0,.slice x1 m1 z1,.int .i64 c.uid,.int .i64 c.mode,.int .i64 c.fl,.int .i64 c.si,.slice x2 m2 z2] 28)) (.cells #[.int .i64 0,.slice none 0 0,.slice none 0 0] 26) (.cells #[.int .i64 0,.int .i64 0,.slice none 0 0,.int .i64 0,.int .i64 0,.int .i64 0,.slice none 0 0,.slice none 0 0,.int .i64 0,.slice none 0 0] 37)
 have hz:((w.alloc (.cells #[.int .i64 a.valid,.slice ba a.boxes.length bc,.slice sa a.seen.length sc] 26)).alloc (.cells #[.int .i64 c.k,.slice x0 m0 z0,.slice x1 m1 z1,.int .i64 c.uid,.int .i64 c.mode,.int .i64 c.fl,.int .i64 c.si,.slice x2 m2 z2] 28)).heap.size=w.heap.size+2:=by simp
 rw [hz] at kZ kR
 have fT:=ak (aB X2 kA)
 have bO:=ak (aB X2 kC)
 have jD:=ak kZ
 have aQ:Hid (((((w.alloc (.cells #[.int .i64 a.valid,.slice ba a.boxes.length bc,.slice sa a.seen.length sc] 26)).alloc (.cells #[.int .i64 c.k,.slice x0 m0 z0,.slice x1 m1 z1,.int .i64 c.uid,.int .i64 c.mode,.int .i64 c.fl,.int .i64 c.si,.slice x2 m2 z2] 28)).alloc (.cells #[.int .i64 0,.slice none 0 0,.slice none 0 0] 26)).alloc (.cells #[.int .i64 0,.int .i64 0,.slice none 0 0,.int .i64 0,.int .i64 0,.int .i64 0,.slice none 0 0,.slice none 0 0,.int .i64 0,.slice none 0 0] 37)).heap[w.heap.size+3]?=some (.cells #[.int .i64 0,.int .i64 0,.slice none 0 0,.int .i64 0,.int .i64 0,.int .i64 0,.slice none 0 0,.slice none 0 0,.int .i64 0,.slice none 0 0] 37 (0,0))):=kR
 have HA:=ak (Below.step X1 X2)
 have sM:w.heap.size+4≤((((w.alloc (.cells #[.int .i64 a.valid,.slice ba a.boxes.length bc,.slice sa a.seen.length sc] 26)).alloc (.cells #[.int .i64 c.k,.slice x0 m0 z0,.slice x1 m1 z1,.int .i64 c.uid,.int .i64 c.mode,.int .i64 c.fl,.int .i64 c.si,.slice x2 m2 z2] 28)).alloc (.cells #[.int .i64 0,.slice none 0 0,.slice none 0 0] 26)).alloc (.cells #[.int .i64 0,.int .i64 0,.slice none 0 0,.int .i64 0,.int .i64 0,.int .i64 0,.slice none 0 0,.slice none 0 0,.int .i64 0,.slice none 0 0] 37)).heap.size:=by simp
 clear g0 g1 hiv r0 r1 r2 kA kC kZ kR X1 X2 hz
 go_enter Tryz.func5,Tryz.ntmps5
 go_upto_region 1 with fail
 simp only [Nat.add_assoc,Nat.reduceAdd]
 generalize (((w.alloc (.cells #[.int .i64 a.valid,.slice ba a.boxes.length bc,.slice sa a.seen.length sc] 26)).alloc (.cells #[.int .i64 c.k,.slice x0 m0 z0,.slice x1 m1 z1,.int .i64 c.uid,.int .i64 c.mode,.int .i64 c.fl,.int .i64 c.si,.slice x2 m2 z2] 28)).alloc (.cells #[.int .i64 0,.slice none 0 0,.slice none 0 0] 26)).alloc (.cells #[.int .i64 0,.int .i64 0,.slice none 0 0,.int .i64 0,.int .i64 0,.int .i64 0,.slice none 0 0,.slice none 0 0,.int .i64 0,.slice none 0 0] 37)=w1 at fT bO jD aQ HA sM ⊢
 have Uq:=ak (Te _ a w1 (kT.out w1 HA.out))
 obtain ⟨y0,y1,y2⟩:=bM fT.out
 have yl:=lt_of_heap fT.out
 go_wp2_with fail
 refine Uq.out.mono ?_
 rintro e w2 ⟨rfl,B2⟩
 have HA2:=ak (Below.step HA.out B2)
 have Ur:=ak (aB B2 fT.out)
 have ku:=ak (aB B2 bO.out)
 have Dx:=ak (aB B2 jD.out)
 have cB:=ak (aB B2 aQ.out)
 have hs2:=B2.size
 clear B2 Uq y0 y1 y2 yl HA fT bO jD aQ
 have wE:=ak (ac6 _ c.k c.bx c.tt c.uid c.mode c.fl c.si c.tx w2 (qO.out w2 HA2.out))
 cases hacc:fA a with
 | false =>
  have bJ:Hid (kF a c=(⟨0,[],[]⟩,aN 5 0)):=by show _=_;unfold kF;rw [if_neg (by simp [hacc])]
  obtain ⟨y0,y1,y2⟩:=bM Dx.out
  obtain ⟨yz,yl⟩:=aZ Dx.out
  obtain ⟨rz,rl,r0,r1,r2,r3,r4,r5,r6,r7,r8,r9⟩:=gG cB.out
  have HF:=ak (Ue Dx.out cB.out HA2.out (.int .i64 0) (.slice none 0 0) (.slice none 0 0) (.int .i64 5) (.int .i64 0) (.slice none 0 0) (.int .i64 0) (.int .i64 0) (.int .i64 0) (.slice none 0 0) (.slice none 0 0) (.int .i64 0) (.slice none 0 0))
  go_wp2
  have ff:=aO HF.out.1
  obtain ⟨e0,e1,e2⟩:=bM HF.out.2.1
  refine bodyPost_ret (v:=.tuple #[.agg #[.int .i64 0,.slice none 0 0,.slice none 0 0],aY 5 0]) (by simp [results,Tryz.results5,aY,go_sem,e0,e1,e2,ff]) rfl ⟨_,_,rfl,?_,HF.out.2.2.1⟩
  rw [bJ.out]
  exact ⟨_,_,w.heap.size,w.heap.size,rfl,.inl ⟨rfl,rfl⟩,vZ _ _ _ ⟨by decide,by decide⟩ aI (Nat.le_refl _),.inl ⟨rfl,rfl⟩,Nat.le_refl _,Nat.le_refl _,HF.out.2.2.1.size,aI⟩
 | true =>
  obtain ⟨o0,o1,o2,o3,o4,o5,o6,o7,o8⟩:=bQ ku.out
  go_wp2_with fail
  refine wE.out.mono ?_
  rintro e w3 ⟨rfl,B3⟩
  have dZ:=ak (Below.step HA2.out B3)
  have MF:=ak (aB B3 Ur.out)
  have nO:=ak (aB B3 ku.out)
  have Dy:=ak (aB B3 Dx.out)
  have cK:=ak (aB B3 cB.out)
  have hs3:=B3.size
  clear B3 wE o0 o1 o2 o3 o4 o5 o6 o7 o8 HA2 Ur ku Dx cB
  cases wU:dK c.k c.bx c.tt c.uid c.mode c.fl c.si c.tx with
  | false =>
   have bJ:Hid (kF a c=(⟨0,[],[]⟩,aN 5 0)):=by show _=_;unfold kF;rw [if_neg (by simp [hacc,wU])]
   obtain ⟨y0,y1,y2⟩:=bM Dy.out
   obtain ⟨yz,yl⟩:=aZ Dy.out
   obtain ⟨rz,rl,r0,r1,r2,r3,r4,r5,r6,r7,r8,r9⟩:=gG cK.out
   have HF:=ak (Ue Dy.out cK.out dZ.out (.int .i64 0) (.slice none 0 0) (.slice none 0 0) (.int .i64 5) (.int .i64 0) (.slice none 0 0) (.int .i64 0) (.int .i64 0) (.int .i64 0) (.slice none 0 0) (.slice none 0 0) (.int .i64 0) (.slice none 0 0))
   go_wp2
   have ff:=aO HF.out.1
   obtain ⟨e0,e1,e2⟩:=bM HF.out.2.1
   refine bodyPost_ret (v:=.tuple #[.agg #[.int .i64 0,.slice none 0 0,.slice none 0 0],aY 5 0]) (by simp [results,Tryz.results5,aY,go_sem,e0,e1,e2,ff]) rfl ⟨_,_,rfl,?_,HF.out.2.2.1⟩
   rw [bJ.out]
   exact ⟨_,_,w.heap.size,w.heap.size,rfl,.inl ⟨rfl,rfl⟩,vZ _ _ _ ⟨by decide,by decide⟩ aI (Nat.le_refl _),.inl ⟨rfl,rfl⟩,Nat.le_refl _,Nat.le_refl _,HF.out.2.2.1.size,aI⟩
  | true =>
   obtain ⟨hG,hP,hI,hds,hok⟩:=Ud hacc
   obtain ⟨ck,cb,ct⟩:=ad3 wU
   have bJ:Hid (kF a c=dA a c):=by show _=_;unfold kF;rw [if_pos (by simp [hacc,wU])]
   have HG:=ak hG
   have jT:=ak (ad2 (KQ (c:=c) hI cb ct) (abz (c:=c) hP))
   have MH:Hid ((dA a c).1.boxes.length≤4):=(KQ (c:=c) hI cb ct).1
   have Us:=ak (aea w3 _ a (kT.out w3 dZ.out) (aeh hacc) hG.b4 hok hds)
   have Ut:=ak (And.intro ck cb)
   obtain ⟨y0,y1,y2⟩:=bM MF.out
   have yl:=lt_of_heap MF.out
   clear hG hP hI hds hok ck cb ct hacc wU
   go_wp2_with fail
   refine Us.out.mono ?_
   rintro e w4 ⟨gd,rfl,S,g,n,u0,u1,E,hD,hn,hB4,hgd⟩
   have HD4:=ak hD
   have gX:=ak (Below.step dZ.out hB4)
   have FP:=ak (aB hB4 nO.out)
   have aej:=ak (aB hB4 Dy.out)
   have fF:=ak (aB hB4 cK.out)
   have hs4:=hB4.size
   have kW:Hid (∀ q,u1.ownBlock=some q→q < w4.heap.size):=fun q hq=>by
    rcases xO hD.seen with ⟨e',-⟩ | ⟨gs,e',_,_,ht⟩
    ·rw [e'] at hq;simp [Value.ownBlock] at hq
    ·rw [e'] at hq
     cases hq
     exact lt_of_heap ht
   have Uu:=ak (ad1 w3 w4 S gd g n a u0 u1 _ E c hD HG.out (by omega) (qO.out w3 dZ.out) (by have:=Ut.out.2;omega) Ut.out.1)
   obtain ⟨o0,o1,o2,o3,o4,o5,o6,o7,o8⟩:=bQ FP.out
   clear hD hB4 Us y0 y1 y2 yl MF nO Dy cK
   go_wp2_with fail
   refine Uu.out.mono ?_
   rintro e w5 ⟨v,rfl,lu,S5,u5,n5,E5,hD5,hS5,yI,hn5⟩
   obtain ⟨a0,n0,k0,a1,n1,k1,a2,n2,k2,a3,n3,k3,rfl⟩:=lu.form
   obtain ⟨A',hA'⟩:∃ A',A'=dA a c:=⟨_,rfl⟩
   rw [← hA'] at bJ jT MH lu hD5 ⊢
   clear hA'
   obtain ⟨X,Y⟩:=A'
   simp only at jT MH lu hD5 ⊢
   have hoth:∀ q,q < w3.heap.size→w5.heap[q]?=w4.heap[q]?:=fun q hq=>yI.2.1 q (by omega) (by omega) (by have:=HD4.out.nH.2;omega) (fun h=>by have:=(HD4.out.low q h).1;omega)
   have Uv:=(hoth _ (by omega)).trans aej.out
   have Uw:=(hoth _ (by omega)).trans fF.out
   have lT:Hid (Below w.heap.size w w5):=⟨yI.2.2.1.trans gX.out.os,yI.2.2.2.1.trans gX.out.tape,yI.2.2.2.2.trans gX.out.output,Nat.le_trans gX.out.size yI.1,fun q hq=>(hoth q (by omega)).trans (gX.out.block q hq)⟩
   have hs5:=yI.1
   have A6:Below w5.heap.size w5 (w5.alloc (.cells #[.int .i64 Y.code,.int .i64 Y.num,.slice a0 n0 k0,.int .i64 Y.box.valid,.int .i64 Y.box.next,.int .i64 Y.box.seq,.slice a1 n1 k1,.slice a2 n2 k2,.int .i64 Y.box.lost,.slice a3 n3 k3] 37)):=bn _ _
   have HD6:=ak (hD5.below A6)
   have jF:=ak (Below.step lT.out A6)
   have Ux:=ak (aB A6 Uv)
   have iU:=ak (aB A6 Uw)
   have pO:=ak (aW w5 (.cells #[.int .i64 Y.code,.int .i64 Y.num,.slice a0 n0 k0,.int .i64 Y.box.valid,.int .i64 Y.box.next,.int .i64 Y.box.seq,.slice a1 n1 k1,.slice a2 n2 k2,.int .i64 Y.box.lost,.slice a3 n3 k3] 37))
   have Uy:=ak (lu.below A6)
   have yH:=ak (aef (hD5.below A6).seen (P:=In w3.heap.size w4.heap.size) (fun q hq=>⟨by
    rcases xO (hD5.below A6).seen with ⟨e',-⟩ | ⟨gs,e',_,_,ht⟩
    ·rw [e'] at hq;simp [Value.ownBlock] at hq
    ·have h3:w3.heap.size≤q:=by
      rcases hD5.seen with ⟨e2,-⟩ | ⟨g2,_,_,_,_,e2,_,_,_,_,h4,_⟩
      ·rw [e2] at hq;simp [Value.ownBlock] at hq
      ·rw [e2] at hq;simp only [Value.ownBlock,Option.some.injEq] at hq;subst hq;exact h4
     exact h3,kW.out q hq⟩))
   have Uz:(w5.alloc (.cells #[.int .i64 Y.code,.int .i64 Y.num,.slice a0 n0 k0,.int .i64 Y.box.valid,.int .i64 Y.box.next,.int .i64 Y.box.seq,.slice a1 n1 k1,.slice a2 n2 k2,.int .i64 Y.box.lost,.slice a3 n3 k3] 37)).heap.size=w5.heap.size+1:=by simp
   clear lu hD5 hS5 yI hoth Uv Uw A6 Uu o0 o1 o2 o3 o4 o5 o6 o7 o8
   go_upto_region 5 with fail
   generalize w5.alloc (.cells #[.int .i64 Y.code,.int .i64 Y.num,.slice a0 n0 k0,.int .i64 Y.box.valid,.int .i64 Y.box.next,.int .i64 Y.box.seq,.slice a1 n1 k1,.slice a2 n2 k2,.int .i64 Y.box.lost,.slice a3 n3 k3] 37)=w6 at HD6 jF Ux iU pO Uy yH Uz ⊢
   have ahv:w5.heap.size+1≤w6.heap.size:=by omega
   clear Uz
   have DR:Below w6.heap.size w6 w6.drew:=(bd _ _)
   have UA:=ak (SB w3 w6.drew S5 gd g n5 X u5 u1 E5 (HD6.out.below DR) (by omega) jT.out (by have:=MH.out;omega))
   obtain ⟨sa',uW,sc',rfl⟩:∃ x y z,u1=.slice x y z:=by
    rcases yH.out with ⟨e,-⟩ | ⟨_,_,_,_,_,e,-⟩
    ·exact ⟨_,_,_,e⟩
    ·exact ⟨_,_,_,e⟩
   have FZ:=ak HD6.out.i64
   refine eO 5 (S:=fun w'=>w'.rangeAt w5.heap.size 0 [.int .i64 Y.code,.int .i64 Y.num,.slice a0 n0 k0,.int .i64 Y.box.valid,.int .i64 Y.box.next,.int .i64 Y.box.seq,.slice a1 n1 k1,.slice a2 n2 k2,.int .i64 Y.box.lost,.slice a3 n3 k3]) (eH (by kernel_rfl) aeg) (by kernel_rfl) (nk (aB DR pO.out)) (fun aj ahz=>?_)
   refine tks 0 0 23 aj ahz ?_
   refine qp 1 2 25 37 (.tmp 7) w5.heap.size 0 [.int .i64 Y.code,.int .i64 Y.num,.slice a0 n0 k0,.int .i64 Y.box.valid,.int .i64 Y.box.next,.int .i64 Y.box.seq,.slice a1 n1 k1,.slice a2 n2 k2,.int .i64 Y.box.lost,.slice a3 n3 k3] aj ahz (fun w h=>h) Tryz.underlying37 ?_
   refine cls 2 1 aj (by decide) rfl rfl (fun K hK=>?_)
   go_simp
   refine UA.out.mono ?_
   rintro e w7 ⟨bv,rfl,MI,B7⟩
   obtain ⟨xa,xn,xc,rfl⟩:∃ x y z,bv=.slice x y z:=by
    rcases MI with ⟨e,-⟩ | ⟨_,_,_,_,_,e,-⟩
    ·exact ⟨_,_,_,e⟩
    ·exact ⟨_,_,_,e⟩
   have yJ:=Below.step DR B7
   have MJ:=aB yJ pO.out
   have Dz:=aB yJ Ux.out
   have wK:=aB yJ iU.out
   refine hK.out _ _ (nk MJ) (fun ahz=>?_)
   clear hK K
   have hs7:=yJ.size
   have UC:(((w7.setCell ⟨w.heap.size+2,0,none⟩ (.int .i64 X.valid)).setCell ⟨w.heap.size+2,1,none⟩ (.slice xa xn xc)).setCell ⟨w.heap.size+2,2,none⟩ (.slice sa' uW sc')).heap[w.heap.size+2]?=some (.cells #[.int .i64 X.valid,.slice xa xn xc,.slice sa' uW sc'] 26 (0,0)):=aJ (i:=2) (v:=.slice sa' uW sc') (aJ (i:=1) (v:=.slice xa xn xc) (aJ (i:=0) (v:=.int .i64 X.valid) Dz))
   have h8:∀ q,q≠w.heap.size+2→(((w7.setCell ⟨w.heap.size+2,0,none⟩ (.int .i64 X.valid)).setCell ⟨w.heap.size+2,1,none⟩ (.slice xa xn xc)).setCell ⟨w.heap.size+2,2,none⟩ (.slice sa' uW sc')).heap[q]?=w7.heap[q]?:=fun q hq=>by
    rw [Below.heap_setCell _ _ _ _ (show q≠w.heap.size+2 from hq),Below.heap_setCell _ _ _ _ (show q≠w.heap.size+2 from hq),Below.heap_setCell _ _ _ _ (show q≠w.heap.size+2 from hq)]
   have DC:(((w7.setCell ⟨w.heap.size+2,0,none⟩ (.int .i64 X.valid)).setCell ⟨w.heap.size+2,1,none⟩ (.slice xa xn xc)).setCell ⟨w.heap.size+2,2,none⟩ (.slice sa' uW sc')).heap.size=w7.heap.size:=by rw [bf,bf,bf]
   have UD:=(h8 _ (by omega)).trans MJ
   have zR:=(h8 _ (by omega)).trans wK
   have B8:Below w.heap.size w (((w7.setCell ⟨w.heap.size+2,0,none⟩ (.int .i64 X.valid)).setCell ⟨w.heap.size+2,1,none⟩ (.slice xa xn xc)).setCell ⟨w.heap.size+2,2,none⟩ (.slice sa' uW sc')):=(((Below.step jF.out yJ).setCell (p:=⟨w.heap.size+2,0,none⟩) (show w.heap.size≤w.heap.size+2 by omega) _).setCell (p:=⟨w.heap.size+2,1,none⟩) (show w.heap.size≤w.heap.size+2 by omega) _).setCell (p:=⟨w.heap.size+2,2,none⟩) (show w.heap.size≤w.heap.size+2 by omega) _
   have HBO:=ak MI
   have UE:=ak yJ
   have H8:=ak h8
   have UF:=ak DC
   have tC:=ak (And.intro UC (And.intro UD (And.intro zR B8)))
   obtain ⟨y0,y1,y2⟩:=bM Dz
   have yz:=(aZ Dz).1
   have yl:=lt_of_heap Dz
   clear MI B7 yJ MJ wK Dz UC h8 DC UD zR B8 UA
   refine cls 3 3 aj (by decide) rfl rfl (fun K hK=>?_)
   go_simp
   refine hK.out _ _ (nk tC.out.2.1) (fun ahz=>?_)
   clear hK K y0 y1 y2 yz yl
   generalize ((w7.setCell ⟨w.heap.size+2,0,none⟩ (.int .i64 X.valid)).setCell ⟨w.heap.size+2,1,none⟩ (.slice xa xn xc)).setCell ⟨w.heap.size+2,2,none⟩ (.slice sa' uW sc')=w8 at H8 UF tC ahz ⊢
   have HF:=ak (oJ tC.out.2.2.1 (.int .i64 Y.code) (.int .i64 Y.num) (.slice a0 n0 k0) (.int .i64 Y.box.valid) (.int .i64 Y.box.next) (.int .i64 Y.box.seq) (.slice a1 n1 k1) (.slice a2 n2 k2) (.int .i64 Y.box.lost) (.slice a3 n3 k3))
   obtain ⟨rz,rl,r0,r1,r2,r3,r4,r5,r6,r7,r8,r9⟩:=gG tC.out.2.2.1
   have uh:Hid ((oK w8 (w.heap.size+3) (.int .i64 Y.code) (.int .i64 Y.num) (.slice a0 n0 k0) (.int .i64 Y.box.valid) (.int .i64 Y.box.next) (.int .i64 Y.box.seq) (.slice a1 n1 k1) (.slice a2 n2 k2) (.int .i64 Y.box.lost) (.slice a3 n3 k3)).rangeAt w5.heap.size 0 [.int .i64 Y.code,.int .i64 Y.num,.slice a0 n0 k0,.int .i64 Y.box.valid,.int .i64 Y.box.next,.int .i64 Y.box.seq,.slice a1 n1 k1,.slice a2 n2 k2,.int .i64 Y.box.lost,.slice a3 n3 k3]):=nk ((HF.out.2.2.2 w5.heap.size (by omega)).trans tC.out.2.1)
   refine cls 4 4 aj (by decide) rfl rfl (fun K hK=>?_)
   go_simp
   refine hK.out _ _ uh.out (fun ahz=>?_)
   clear hK K rz rl r0 r1 r2 r3 r4 r5 r6 r7 r8 r9
   refine eP aj ?_
   clear ahz uh
   go_wp2
   have ff:=aO HF.out.1
   obtain ⟨e0,e1,e2⟩:=bM ((HF.out.2.2.2 (w.heap.size+2) (by omega)).trans tC.out.1)
   refine bodyPost_ret (v:=.tuple #[.agg #[.int .i64 X.valid,.slice xa xn xc,.slice sa' uW sc'],.agg #[.int .i64 Y.code,.int .i64 Y.num,.slice a0 n0 k0,.int .i64 Y.box.valid,.int .i64 Y.box.next,.int .i64 Y.box.seq,.slice a1 n1 k1,.slice a2 n2 k2,.int .i64 Y.box.lost,.slice a3 n3 k3]]) (by simp [results,Tryz.results5,go_sem,e0,e1,e2,ff]) rfl ⟨_,_,rfl,?_,sO tC.out.2.2.2 HF.out.2.1 HF.out.2.2.1 HF.out.2.2.2 (show w.heap.size≤w.heap.size+3 by omega)⟩
   rw [bJ.out]
   have jf:=HF.out.2.1
   have DC:=UF.out
   have ahw:=UE.out.size
   have hfr:∀ q,w3.heap.size≤q→q < w6.heap.size→(oK w8 (w.heap.size+3) (.int .i64 Y.code) (.int .i64 Y.num) (.slice a0 n0 k0) (.int .i64 Y.box.valid) (.int .i64 Y.box.next) (.int .i64 Y.box.seq) (.slice a1 n1 k1) (.slice a2 n2 k2) (.int .i64 Y.box.lost) (.slice a3 n3 k3)).heap[q]?=w6.heap[q]?:=fun q h1 h2=>(HF.out.2.2.2 q (by omega)).trans ((H8.out q (by omega)).trans (UE.out.block q h2))
   have hbo:wZ w7 (In w6.heap.size w7.heap.size) (.slice xa xn xc) X.boxes:=HBO.out
   refine ⟨.slice xa xn xc,.slice sa' uW sc',w4.heap.size,w5.heap.size,rfl,?_,?_,?_,by omega,hs5,by rw [jf,DC];omega,FZ.out⟩
   ·exact Ow.mono (Ow.frame tL yH.out fun q hq hl=>hfr q hq.1 hl) fun q hq=>⟨by have:=hq.1;omega,hq.2⟩
   ·obtain ⟨p0,p1,p2,p3,T0,t0,t1,t2,t3,t4,t5⟩:=Uy.out
    exact ⟨p0,p1,p2,p3,T0,t0,jN _ _ _ _ _ t1 fun q hq hl=>hfr q (by have:=hq.1;omega) hl,t2.frame mW fun q hq hl=>hfr q (by have:=hq.1;omega) hl,t3,t4,t5⟩
   ·rw [jf,DC]
    exact Ow.mono (Ow.frame jN hbo fun q hq _=>(HF.out.2.2.2 q (by have:=hq.1;omega)).trans (H8.out q (by have:=hq.1;omega))) fun q hq=>⟨by have:=hq.1;omega,hq.2⟩
/- What Do answers is small. -/
/-- A reply as commands give one. -/
def UG (r:dI):Prop:=eG r.box∧r.names.length≤4∧∀ n ∈ r.names,n.length≤6
theorem UG.code (c n:Int):UG (aN c n):=⟨⟨by simp [aN,pR],by simp [aN,pR],by simp [aN,pR],by simp [aN,pR]⟩,by simp [aN],by simp [aN]⟩
theorem eG.part {b:aA} {ms:List aC} {gs:List bB} (h:eG b) (hm:ms.Sublist b.ah) (hg:gs.Sublist b.au):eG ⟨b.name,b.valid,b.next,b.seq,ms,gs,b.lost⟩ :=
 ⟨h.1,Nat.le_trans hm.length_le h.2.1,fun m hx=>h.2.2.1 m (hm.subset hx),Nat.le_trans hg.length_le h.2.2.2⟩
end Go.Proofs.YtmglhdkeidhafaaGreat
