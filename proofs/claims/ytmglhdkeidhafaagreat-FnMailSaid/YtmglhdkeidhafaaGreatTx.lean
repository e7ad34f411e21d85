/- The proof's texts, part 33. -/
import Derived.Test.YtmglhdkeidhafaaGreatTt
import Derived.Test.YtmglhdkeidhafaaGreatTw
namespace Go.Proofs.YtmglhdkeidhafaaGreat
open Go.RowKit
set_option linter.unusedSimpArgs false
set_option linter.unusedVariables false
set_option maxHeartbeats 8000000
set_option maxRecDepth 100000
/- What commands leave of an account has numbers of changes above 0, on lists. -/
structure iP (b:aA):Prop where
 seq:0≤b.seq
 ms:∀ m ∈ b.ah,0 < m.seq
 gs:∀ x ∈ b.au,0 < x.seq
def sU (a:aF):Prop:=∀ b ∈ a.boxes,iP b
theorem sU.set {a:aF} {k:Nat} {b:aA} (h:sU a) (hb:iP b):sU (aH a k b):=fun x hx=>by
 rcases List.mem_or_eq_of_mem_set hx with hx | rfl
 ·exact h x hx
 ·exact hb
theorem abx (l:List bB):∀ (lost:Int) (x:bB),x ∈ (dw lost l).2→x ∈ l:=by
 induction l with
 | nil=>intro _ x h;simp [dw] at h
 | cons y l ih =>
  intro lost x h
  rw [dw] at h
  split at h
  ·exact List.mem_cons_of_mem _ (ih _ _ h)
  ·exact h
theorem iP.aX {b:aA} (h:iP b):iP (aX b):=⟨by show 0≤b.seq+1;have:=h.seq;omega,h.ms,h.gs⟩
theorem iP.drop {b:aA} {i:Nat} (h:iP b) (hs:0 < b.seq):iP (aV b i)∧(aV b i).seq=b.seq:=by
 unfold aV
 cases hm:b.ah[i]? with
 | none=>exact ⟨h,rfl⟩
 | some m =>
  refine ⟨⟨h.seq,fun x hx=>?_,fun x hx=>?_⟩,rfl⟩
  ·rcases List.mem_append.1 hx with hx | hx
   ·exact h.ms x (List.mem_of_mem_take hx)
   ·exact h.ms x (List.mem_of_mem_drop hx)
  ·rcases List.mem_append.1 (abx _ _ _ hx) with hx | hx
   ·exact h.gs x hx
   ·rw [List.mem_singleton] at hx
    subst hx
    exact hs
theorem iP.add {b:aA} {fl:Int} {tx:List Int} (h:iP b):iP (jA b fl tx):=by
 have:=h.seq
 refine ⟨by show 0≤b.seq+1;omega,fun m hx=>?_,h.gs⟩
 simp only [jA,List.mem_append,List.mem_singleton] at hx
 rcases hx with hx | rfl
 ·exact h.ms m hx
 ·show 0 < b.seq+1
  omega
theorem iP.store {b:aA} {uid mode fl si:Int} (h:iP b):iP (iD b uid mode fl si).1:=by
 have h0:=h.seq
 unfold iD
 split
 ·exact h
 ·split
  ·exact h
  ·split
   ·exact h
   ·split
    ·exact h
    ·split
     ·exact h
     ·refine ⟨by show 0≤b.seq+1;omega,fun m hx=>?_,h.gs⟩
      rcases List.mem_or_eq_of_mem_set hx with hx | rfl
      ·exact h.ms m hx
      ·show 0 < b.seq+1
       omega
theorem iP.exp:∀ (n:Nat) (b:aA) (i:Nat),iP b→0 < b.seq→iP (gD n b i)
 | 0,b,i,h,_=>h
 | n+1,b,i,h,hs=>by
  unfold gD
  split
  ·exact h
  ·split
   ·obtain ⟨h1,h2⟩:=h.drop (i:=i) hs
    exact iP.exp n _ i h1 (by rw [h2];exact hs)
   ·exact iP.exp n b (i+1) h hs
theorem iP.Fz {b:aA} (h:iP b):iP (gF b).1:=by
 have h0:=h.seq
 unfold gF
 split
 ·exact h
 ·split
  ·exact h
  ·exact iP.exp _ _ _ h.aX (show 0 < b.seq+1 by omega)
theorem aby {a:aF} {k:Nat} {b:aA} {tt:List Int} {uid mode:Int} (h:sU a) (hb:iP b):sU (kS a k b tt uid mode).1:=by
 have h0:=hb.seq
 cases h1:b.ah.findIdx? (fun m=>decide (m.uid=uid)) with
 | none=>rw [FL h1];exact h
 | some i =>
  cases h2:a.boxes.findIdx? (fun x=>decide (x.name=tt)) with
  | none=>rw [FM h2];exact h
  | some t =>
   have h3:=aL (List.findIdx?_eq_some_iff_getElem.1 h1).1
   have h4:=aL (List.findIdx?_eq_some_iff_getElem.1 h2).1
   generalize a.boxes[t]'(List.findIdx?_eq_some_iff_getElem.1 h2).1=bt at h4
   obtain ⟨rm,hrm⟩:∃ rm,rm=dh bt (if decide (mode=1)=true∧t=k then 0 else 1):=⟨_,rfl⟩
   obtain ⟨fu,hfu⟩:∃ fu,fu=(decide (mode=1) && decide (999999≤b.seq)):=⟨_,rfl⟩
   rw [copy_eq h1 h2 h3 h4 rfl hrm hfu]
   by_cases hc:rm=false∨fu=true
   ·rw [if_pos hc]
    exact h
   ·rw [if_neg hc]
    have ha1:sU (if decide (mode=1)=true then aH a k (aV (Go.Proofs.YtmglhdkeidhafaaGreat.aX b) i) else a):=by
     split
     ·exact h.set (hb.aX.drop (show 0 < b.seq+1 by omega)).1
     ·exact h
    generalize (if decide (mode=1)=true then aH a k (aV (Go.Proofs.YtmglhdkeidhafaaGreat.aX b) i) else a)=a1 at ha1
    cases hbu:a1.boxes[t]? with
    | none=>exact ha1
    | some bu=>exact ha1.set (ha1 bu (List.mem_of_getElem? hbu)).add
theorem abz {a:aF} {c:dS} (h:sU a):sU (dA a c).1:=by
 unfold dA
 split
 ·unfold nE
  split
  ·exact h
  ·split
   ·exact h
   ·intro x hx
    rcases List.mem_append.1 hx with hx | hx
    ·exact h x (List.takeWhile_sublist _ |>.mem hx)
    ·rcases List.mem_cons.1 hx with rfl | hx
     ·exact ⟨Int.le_refl _,by simp,by simp⟩
     ·exact h x (List.dropWhile_sublist _ |>.mem hx)
 ·split
  ·exact h
  ·split
   ·exact h
   ·split
    ·exact h
    ·rename_i k _ b hb
     have hbx:=h b (List.mem_of_getElem? hb)
     split
     ·intro x hx
      rcases List.mem_append.1 hx with hx | hx
      ·exact h x (List.mem_of_mem_take hx)
      ·exact h x (List.mem_of_mem_drop hx)
     ·split
      ·split
       ·exact h.set hbx.add
       ·exact h
      ·split
       ·exact h.set hbx.store
       ·split
        ·exact h.set hbx.Fz
        ·split
         ·exact aby h hbx
         ·split
          ·exact h
          ·split
           ·exact h
           ·split <;> exact h
/- fetch of package oU gP. -/
theorem abA:(Tryz.f46.body.bind (bR 1)).all (fun o=>dW o 17 [0,1,2,3,4,5,6,7,8,9,10,11,12,13,14,15,16] [14,15] [17] 0)=true:=by kernel_rfl
def CX (b:aA) (uid:Int):dI:=match b.ah.findIdx? (fun m:aC=>decide (m.uid=uid)) with
 | none=>aN 1 0
 | some i=>⟨0,uid,⟨b.name,b.valid,b.next,b.seq,(b.ah.drop i).take 1,[],b.lost⟩,[]⟩
theorem drop_one {α:Type} {l:List α} {j:Nat} {x:α} (h:l[j]?=some x):(l.drop j).take 1=[x]:=by
 obtain ⟨h1,rfl⟩:=gs1 h
 rw [List.drop_eq_getElem_cons h1]
 rfl
/-- One dV in a block of its own. -/
theorem abB {w:World} {S f:Nat→Prop} {g:Nat} {c0 c1 c2 c3:Value} {m:aC} (hg:w.heap[g]?=some (.cells #[c0,c1,c2,c3] 72 (0,0))) (hm:mQ w [c0,c1,c2,c3] m f) (hS:S g) (hf:∀ k,f k→S k∧k≠g):wY w S (.slice (some ⟨g,0,none⟩) 1 1) [m]:=by
 refine .inr ⟨g,1,_,fun _=>[c0,c1,c2,c3],fun _=>f,rfl,hg,Nat.le_refl _,by decide,rfl,hS,fun i x hx=>?_,fun i k _ hk=>hf k hk,fun i j k hi hj hne=>absurd hne (by simp at hi hj;omega)⟩
 have hi:i=0:=by have:=(gs1 hx).1;simp at this;omega
 subst hi
 cases hx
 refine ⟨hm,rfl,fun j u hu=>?_⟩
 simpa using hu
theorem abC (wt w:World) (S:Nat→Prop) (gd g n i gb cap:Nat) (a:aF) (b:aA) (u0 u1:Value) (E:aU) (uid:Int) (h:aT wt w S gd g n a u0 u1 E) (hb:a.boxes[i]?=some b) (hu:u0=.slice (some ⟨gb,0,none⟩) a.boxes.length cap) (hf:Fit b) (Sy:ay uid) (res:dI) (hres:res=CX b uid) :
  Calls Tryz.prog 46 #[.pointer (some ⟨gd,0,none⟩),.pointer (some ⟨gb,i * 7,none⟩),.int .i64 uid] w fun e w'=>∃ v,e=.returned v∧dX w' w.heap.size w'.heap.size v res∧Below w.heap.size w w':=by
 have A1:Below w.heap.size w (w.alloc (.cells #[.int .i64 0,.int .i64 0,.slice none 0 0,.int .i64 0,.int .i64 0,.int .i64 0,.slice none 0 0,.slice none 0 0,.int .i64 0,.slice none 0 0] 37)):=bn _ _
 have HK:=ak (aW w (.cells #[.int .i64 0,.int .i64 0,.slice none 0 0,.int .i64 0,.int .i64 0,.int .i64 0,.slice none 0 0,.slice none 0 0,.int .i64 0,.slice none 0 0] 37))
 have HD:=ak (h.below A1)
 have HA:=ak A1
 have HF:=ak hf
 have bH:=ak hres
 have hz1:(w.alloc (.cells #[.int .i64 0,.int .i64 0,.slice none 0 0,.int .i64 0,.int .i64 0,.int .i64 0,.slice none 0 0,.slice none 0 0,.int .i64 0,.slice none 0 0] 37)).heap.size=w.heap.size+1:=by simp
 clear h A1 hf hres
 go_enter Tryz.func46,Tryz.ntmps46
 go_upto_region 1 with fail
 generalize w.alloc (.cells #[.int .i64 0,.int .i64 0,.slice none 0 0,.int .i64 0,.int .i64 0,.int .i64 0,.slice none 0 0,.slice none 0 0,.int .i64 0,.slice none 0 0] 37)=w1 at HK HD HA hz1 ⊢
 obtain ⟨dJ,cap',v0,v5,f,e1,-,-,hlb,-,-,⟨-,c1,-⟩,-,-,-,j0,-⟩:=HD.out.read hb
 rw [hu] at e1
 simp only [Value.slice.injEq,Option.some.injEq,Addr.mk.injEq,and_true,true_and] at e1
 obtain ⟨rfl,rfl⟩:=e1
 obtain ⟨p0,p1,p2,p3,p4,p5,qX,uO⟩:=HD.out.map.looked j0 Sy (HD.out.ents b (List.mem_of_getElem? hb))
 generalize hok:(b.ah.findIdx? fun m=>decide (m.uid=uid)).isSome=ok at qX
 have p8:=ak hok
 have qU:=ak uO
 have dF:Hid (∀ w',Below w1.heap.size w1 w'→w'.cell? ⟨gd,2,none⟩=some (.map (some g))∧w'.cell? ⟨gb,i * 7+1,none⟩=some (.int .i64 b.valid)∧(Instr.lookup 78 (.map (some g)) (.agg #[.int .i64 b.valid,.int .i64 uid]) true).run Tryz.prog w'=.ok (.tuple #[.agg #[.int .i64 p0,.int .i64 p1,.int .i64 p2,.slice p3 p4 p5],.bool ok]) w'):=fun w' hw=>⟨(cell_of_row _ gd 2 _ _ (0,0) (HD.out.below hw).cells).trans rfl,(hw.cell (p:=⟨gb,_,none⟩) hlb).trans c1,qX w' (hw.block g HD.out.map.lt)⟩
 have D1:Below w1.heap.size w1 w1.drew:=(bd _ _)
 have A3:Below w1.heap.size w1 (w1.drew.alloc (.cells #[.int .i64 0,.int .i64 0,.int .i64 0,.slice none 0 0] 72)):=D1.alloc (Nat.le_refl _) _
 have CY:Below w1.heap.size w1 (w1.alloc (.cells #[.int .i64 p0,.int .i64 p1,.int .i64 p2,.slice p3 p4 p5] 72)).drew:=(bn _ _).drew
 clear uO qX c1 hok
 refine eO 17 (S:=fun w'=>w'.cell? ⟨gd,2,none⟩=some (.map (some g))∧w'.cell? ⟨gb,i * 7+1,none⟩=some (.int .i64 b.valid)∧(Instr.lookup 78 (.map (some g)) (.agg #[.int .i64 b.valid,.int .i64 uid]) true).run Tryz.prog w'=.ok (.tuple #[.agg #[.int .i64 p0,.int .i64 p1,.int .i64 p2,.slice p3 p4 p5],.bool ok]) w') (eH (by kernel_rfl) abA) (by kernel_rfl) (dF.out _ D1) (fun aj ahz=>?_)
 refine tks 0 0 11 aj ahz ?_
 refine tks 1 1 12 aj ahz ?_
 refine tks 2 2 13 aj ahz ?_
 refine tks 3 3 14 aj ahz ?_
 refine tks 4 4 15 aj ahz ?_
 refine tks 5 5 16 aj ahz ?_
 refine tks 6 6 17 aj ahz ?_
 refine tks 7 7 18 aj ahz ?_
 refine tks 8 8 19 aj ahz ?_
 refine tks 9 9 20 aj ahz ?_
 refine tks 10 10 21 aj ahz ?_
 refine tks 11 11 10 aj ahz ?_
 refine tks 12 12 22 aj ahz ?_
 refine tks 13 13 23 aj ahz ?_
 refine cls 14 14 aj (by decide) rfl rfl (fun K hK=>?_)
 go_simp
 refine hK.out _ _ (dF.out _ A3) (fun ahz=>?_)
 clear hK K
 refine cls 15 15 aj (by decide) rfl rfl (fun K hK=>?_)
 go_simp
 refine hK.out _ _ (dF.out _ CY) (fun ahz=>?_)
 clear hK K
 refine tks 16 16 8 aj ahz ?_
 refine eP aj ?_
 go_upto_region 2 with fail
 have HD2:=ak (HD.out.below CY)
 have HA2:=ak (Below.step HA.out CY)
 have dB:=ak (aB CY HK.out)
 have jE:Hid ((w1.alloc (.cells #[.int .i64 p0,.int .i64 p1,.int .i64 p2,.slice p3 p4 p5] 72)).drew.heap[w.heap.size+1]?=some (.cells #[.int .i64 p0,.int .i64 p1,.int .i64 p2,.slice p3 p4 p5] 72 (0,0))):=by rw [← hz1];exact aW w1 _
 have hz2:(w1.alloc (.cells #[.int .i64 p0,.int .i64 p1,.int .i64 p2,.slice p3 p4 p5] 72)).drew.heap.size=w.heap.size+2:=by rw [← show w1.heap.size+1=w.heap.size+2 by omega];exact (show (w1.alloc (.cells #[.int .i64 p0,.int .i64 p1,.int .i64 p2,.slice p3 p4 p5] 72)).heap.size=w1.heap.size+1 by simp)
 clear dF A3 CY D1 HD HA HK hlb
 generalize (w1.alloc (.cells #[.int .i64 p0,.int .i64 p1,.int .i64 p2,.slice p3 p4 p5] 72)).drew=w2 at HD2 HA2 dB jE hz2 ⊢
 cases hfi:b.ah.findIdx? (fun m=>decide (m.uid=uid)) with
 | none =>
  obtain rfl:ok=false:=by rw [← p8.out,hfi];rfl
  have bJ:Hid (res=aN 1 0):=by
   show _=_
   rw [bH.out,CX,hfi]
  clear hfi
  have HF:=ak (aam dB.out HA2.out (c:=1) (y:=0) ⟨by decide,by decide⟩ aI)
  obtain ⟨yz,yl,y0,y1,y2,y3,y4,y5,y6,y7,y8,y9⟩:=gG dB.out
  go_wp2
  have ff:=aO HF.out.1
  refine bodyPost_ret (v:=aY 1 0) (by simp [results,Tryz.results46,aY,go_sem,ff]) rfl ⟨aY 1 0,rfl,?_⟩
  rw [bJ.out]
  exact HF.out.2
 | some j =>
  obtain rfl:ok=true:=by rw [← p8.out,hfi];rfl
  obtain ⟨m,hm⟩:∃ m,b.ah[j]?=some m:=⟨_,aL (List.findIdx?_eq_some_iff_getElem.1 hfi).1⟩
  obtain ⟨rfl,rfl,rfl,hmu,htb,ou⟩:=qU.out j m hfi hm
  have Ck:=ak ou
  have Fj:=ak (HF.out.tx m (List.mem_of_getElem? hm))
  have bJ:Hid (res=⟨0,uid,⟨b.name,b.valid,b.next,b.seq,[m],[],b.lost⟩,[]⟩):=by
   show _=_
   rw [bH.out,CX,hfi]
   simp only [drop_one hm]
  have oG:=ak htb
  obtain ⟨dJ,cap',yx,vJ,f',gY,-,-,hlb,-,-,⟨c0,c1,c2,c3,c4,c5,c6⟩,r0,r5,-,ii⟩:=HD2.out.read hb
  rw [hu] at gY
  simp only [Value.slice.injEq,Option.some.injEq,Addr.mk.injEq,and_true,true_and] at gY
  obtain ⟨rfl,rfl⟩:=gY
  have hbv:bI w2 (.agg #[yx,.int .i64 b.valid,.int .i64 b.next,.int .i64 b.seq,.slice none 0 0,vJ,.int .i64 b.lost]) (wF b):=⟨yx,.slice none 0 0,vJ,rfl,r0.bs,Rd.nil _,r5.1,ii⟩
  have fq:=ak (Bc _ ⟨b.name,b.valid,b.next,b.seq,[],b.au,b.lost⟩ _ hbv HF.out.nm)
  have CZ:=ak ii
  obtain ⟨na,nn,nc,rfl⟩:=r0.bs.aG
  obtain ⟨ga,gc,rfl,-⟩:=r5.1.form
  clear hfi hm ou htb hmu hbv r0 r5 ii bH qU
  go_wp2_with fail
  refine fq.out.mono ?_
  rintro e w3 ⟨xa,xn,xc,rfl,nP,hB3⟩
  have A4:Below w3.heap.size w3 (w3.alloc (.cells #[.slice xa xn xc,.int .i64 b.valid,.int .i64 b.next,.int .i64 b.seq,.slice none 0 0,.slice none 0 0,.int .i64 b.lost] 34)):=bn _ _
  have C9:=Below.step hB3 A4
  have HD4:=ak (HD2.out.below C9)
  have gX:=ak (Below.step HA2.out C9)
  have ji:=ak (aB C9 dB.out)
  have oV:=ak (aB C9 jE.out)
  have Lm:=ak (aW w3 (.cells #[.slice xa xn xc,.int .i64 b.valid,.int .i64 b.next,.int .i64 b.seq,.slice none 0 0,.slice none 0 0,.int .i64 b.lost] 34))
  have jU:=ak (nP.below A4)
  have hs3:=hB3.size
  have sM:(w3.alloc (.cells #[.slice xa xn xc,.int .i64 b.valid,.int .i64 b.next,.int .i64 b.seq,.slice none 0 0,.slice none 0 0,.int .i64 b.lost] 34)).heap.size=w3.heap.size+1:=by simp
  clear nP hB3 A4 C9 fq c0 c1 c2 c3 c4 c5 c6 hlb HD2 HA2 dB jE
  go_upto_region 5 with fail
  generalize w3.alloc (.cells #[.slice xa xn xc,.int .i64 b.valid,.int .i64 b.next,.int .i64 b.seq,.slice none 0 0,.slice none 0 0,.int .i64 b.lost] 34)=w4 at HD4 gX ji oV Lm jU sM ⊢
  have HCM:=ak (Ou (.agg #[.int .i64 m.uid,.int .i64 m.flags,.int .i64 m.seq,.slice p3 p4 p5]) m w4 ⟨_,rfl,oG.out.below HD4.out.base,Ck.out⟩ Fj.out)
  obtain ⟨n0,n1,n2,n3⟩:=iZ oV.out
  have nl:=lt_of_heap oV.out
  go_wp2_with fail
  refine HCM.out.mono ?_
  rintro e w5 ⟨ta,tn,tc,rfl,Bf,iW⟩
  have Da:=aB iW Lm.out
  have K5:=aB iW ji.out
  have hs5:=iW.size
  have Sz:(w5.setCell ⟨w3.heap.size,4,none⟩ (.slice (some ⟨w5.heap.size,0,none⟩) 1 1)).heap[w3.heap.size]?=some (.cells #[.slice xa xn xc,.int .i64 b.valid,.int .i64 b.next,.int .i64 b.seq,.slice (some ⟨w5.heap.size,0,none⟩) 1 1,.slice none 0 0,.int .i64 b.lost] 34 (0,0)):=aJ (i:=4) (v:=.slice (some ⟨w5.heap.size,0,none⟩) 1 1) Da
  have K6:=cO (k:=w3.heap.size) (i:=4) (v:=.slice (some ⟨w5.heap.size,0,none⟩) 1 1) K5 (by omega)
  have X6:=(Below.step gX.out iW).setCell (p:=⟨w3.heap.size,4,none⟩) (show w.heap.size≤w3.heap.size by omega) (.slice (some ⟨w5.heap.size,0,none⟩) 1 1)
  have A7:Below (w5.setCell ⟨w3.heap.size,4,none⟩ (.slice (some ⟨w5.heap.size,0,none⟩) 1 1)).heap.size (w5.setCell ⟨w3.heap.size,4,none⟩ (.slice (some ⟨w5.heap.size,0,none⟩) 1 1)) ((w5.setCell ⟨w3.heap.size,4,none⟩ (.slice (some ⟨w5.heap.size,0,none⟩) 1 1)).alloc (.cells #[.int .i64 m.uid,.int .i64 m.flags,.int .i64 m.seq,.slice ta tn tc] 72)):=bn _ _
  have Lp:=ak (aB A7 Sz)
  have gQ:=ak (aB A7 K6)
  have eZ:=ak (Below.step X6 A7)
  have SA:Hid (((w5.setCell ⟨w3.heap.size,4,none⟩ (.slice (some ⟨w5.heap.size,0,none⟩) 1 1)).alloc (.cells #[.int .i64 m.uid,.int .i64 m.flags,.int .i64 m.seq,.slice ta tn tc] 72)).heap[w5.heap.size]?=some (.cells #[.int .i64 m.uid,.int .i64 m.flags,.int .i64 m.seq,.slice ta tn tc] 72 (0,0))):=by
   have:=aW (w5.setCell ⟨w3.heap.size,4,none⟩ (.slice (some ⟨w5.heap.size,0,none⟩) 1 1)) (.cells #[.int .i64 m.uid,.int .i64 m.flags,.int .i64 m.seq,.slice ta tn tc] 72)
   rw [bf] at this
   exact this
  have yE:∀ k,k≠w3.heap.size→k < w5.heap.size→((w5.setCell ⟨w3.heap.size,4,none⟩ (.slice (some ⟨w5.heap.size,0,none⟩) 1 1)).alloc (.cells #[.int .i64 m.uid,.int .i64 m.flags,.int .i64 m.seq,.slice ta tn tc] 72)).heap[k]?=w5.heap[k]?:=fun k hk hlt=>(A7.block k (by rw [bf];exact hlt)).trans (Below.heap_setCell _ _ _ _ hk)
  have Bg:=ak (qw _ _ _ _ _ Bf fun k hk hlt=>yE k (by have:=hk.1;omega) hk.2)
  have zP:=ak ((jU.out.below iW).frame fun k hk hlt=>yE k (by have:=hk.2;omega) hlt)
  have zQ:((w5.setCell ⟨w3.heap.size,4,none⟩ (.slice (some ⟨w5.heap.size,0,none⟩) 1 1)).alloc (.cells #[.int .i64 m.uid,.int .i64 m.flags,.int .i64 m.seq,.slice ta tn tc] 72)).heap.size=w5.heap.size+1:=by simp [bf]
  obtain ⟨t0,t1,t2,t3,t4,t5,t6⟩:=bU (show w5.heap[w3.heap.size]?=some (.cells #[.slice xa xn xc,.int .i64 b.valid,.int .i64 b.next,.int .i64 b.seq,.slice none 0 0,.slice none 0 0,.int .i64 b.lost] 34 (0,0)) from Da)
  have tz:=(aZ Da).1
  have tl:=lt_of_heap Da
  clear Bf iW HCM Da K5 Sz K6 X6 A7 yE n0 n1 n2 n3 nl HD4 gX ji oV Lm jU
  go_upto_region 6 with fail
  clear t0 t1 t2 t3 t4 t5 t6 tz tl
  generalize (w5.setCell ⟨w3.heap.size,4,none⟩ (.slice (some ⟨w5.heap.size,0,none⟩) 1 1)).alloc (.cells #[.int .i64 m.uid,.int .i64 m.flags,.int .i64 m.seq,.slice ta tn tc] 72)=w7 at Lp gQ eZ SA Bg zP zQ ⊢
  have hE:fI w7 [.slice xa xn xc,.int .i64 b.valid,.int .i64 b.next,.int .i64 b.seq,.slice (some ⟨w5.heap.size,0,none⟩) 1 1,.slice none 0 0,.int .i64 b.lost] ⟨b.name,b.valid,b.next,b.seq,[m],[],b.lost⟩ (In (w.heap.size+1) w7.heap.size) :=
   ⟨_,_,_,In w2.heap.size w3.heap.size,In w4.heap.size w7.heap.size,fun _=>False,rfl,zP.out,abB SA.out Bg.out ⟨by omega,by omega⟩ (fun k hk=>⟨⟨hk.1,by have:=hk.2;omega⟩,by have:=hk.2;omega⟩),.inl ⟨rfl,rfl⟩,fun k hk=>⟨⟨by have:=hk.1;omega,by have:=hk.2;omega⟩,fun h=>by have:=h.1;have:=hk.2;omega,fun h=>h⟩,fun k hk=>⟨⟨by have:=hk.1;omega,hk.2⟩,fun h=>h⟩,fun k h=>h.elim,CZ.out⟩
  have HF:=ak (aal gQ.out eZ.out hE rfl rfl rfl rfl (c:=0) (y:=uid) ⟨by decide,by decide⟩ Sy)
  obtain ⟨t0,t1,t2,t3,t4,t5,t6⟩:=bU (show w7.heap[w3.heap.size]?=some (.cells #[.slice xa xn xc,.int .i64 b.valid,.int .i64 b.next,.int .i64 b.seq,.slice (some ⟨w5.heap.size,0,none⟩) 1 1,.slice none 0 0,.int .i64 b.lost] 34 (0,0)) from Lp.out)
  obtain ⟨yz,yl,y0,y1,y2,y3,y4,y5,y6,y7,y8,y9⟩:=gG gQ.out
  have tl:=lt_of_heap Lp.out
  clear hE
  go_wp2
  have ff:=aO HF.out.1
  refine bodyPost_ret (v:=.agg #[.int .i64 0,.int .i64 uid,.slice xa xn xc,.int .i64 b.valid,.int .i64 b.next,.int .i64 b.seq,.slice (some ⟨w5.heap.size,0,none⟩) 1 1,.slice none 0 0,.int .i64 b.lost,.slice none 0 0]) (by simp [results,Tryz.results46,go_sem,ff]) rfl ⟨_,rfl,?_⟩
  rw [bJ.out]
  exact HF.out.2
/- changes and aaZ of package oU gP. -/
theorem xk.form {w:World} {S:Nat→Prop} {v:Value} {b:aA} (h:xk w S v b):∃ a0 n0 k0 a1 n1 k1 a2 n2 k2,v=.agg #[.slice a0 n0 k0,.int .i64 b.valid,.int .i64 b.next,.int .i64 b.seq,.slice a1 n1 k1,.slice a2 n2 k2,.int .i64 b.lost]:=by
 obtain ⟨u0,u1,u2,rfl,g0,g1,g2,-⟩:=h.v
 obtain ⟨a0,n0,k0,rfl⟩:=g0.aG
 obtain ⟨a1,k1,rfl,-⟩:=g1.form
 obtain ⟨a2,k2,rfl,-⟩:=g2.form
 exact ⟨_,_,_,_,_,_,_,_,_,rfl⟩
theorem abD (b:aA) (si:Int) (h:¬ si < b.lost):nD b si=⟨0,0,CW b si,[]⟩:=by
 unfold nD
 rw [if_neg h]
 rfl
theorem abE (b:aA) (si:Int) (h:si < b.lost):nD b si=aN 4 b.lost:=by
 unfold nD
 rw [if_pos h]
 rfl
theorem abF (wt w:World) (S:Nat→Prop) (gd g n i gb cap:Nat) (a:aF) (b:aA) (u0 u1:Value) (E:aU) (si:Int) (h:aT wt w S gd g n a u0 u1 E) (hb:a.boxes[i]?=some b) (hu:u0=.slice (some ⟨gb,0,none⟩) a.boxes.length cap) (hn:n≤2000000) (hf:Fit b) :
  Calls Tryz.prog 49 #[.pointer (some ⟨gd,0,none⟩),.pointer (some ⟨gb,i * 7,none⟩),.int .i64 si] w fun e w'=>∃ v,e=.returned v∧dX w' w.heap.size w'.heap.size v (nD b si)∧Below w.heap.size w w':=by
 have A1:Below w.heap.size w (w.alloc (.cells #[.int .i64 0,.int .i64 0,.slice none 0 0,.int .i64 0,.int .i64 0,.int .i64 0,.slice none 0 0,.slice none 0 0,.int .i64 0,.slice none 0 0] 37)):=bn _ _
 have HK:=ak (aW w (.cells #[.int .i64 0,.int .i64 0,.slice none 0 0,.int .i64 0,.int .i64 0,.int .i64 0,.slice none 0 0,.slice none 0 0,.int .i64 0,.slice none 0 0] 37))
 have h1:=h.below A1
 obtain ⟨dJ,cap',v0,v5,f,e1,-,-,hlb,-,fz,⟨c0,c1,c2,c3,c4,c5,c6⟩,-,-,-,ii⟩:=h1.read hb
 rw [hu] at e1
 simp only [Value.slice.injEq,Option.some.injEq,Addr.mk.injEq,and_true,true_and] at e1
 obtain ⟨rfl,rfl⟩:=e1
 have HL:=ak ii.2.2.2
 have qG:=ak (Sm wt _ S gd g n i gb cap a b u0 u1 E si h1 hb hu hn hf)
 have HA:=ak A1
 have hz1:(w.alloc (.cells #[.int .i64 0,.int .i64 0,.slice none 0 0,.int .i64 0,.int .i64 0,.int .i64 0,.slice none 0 0,.slice none 0 0,.int .i64 0,.slice none 0 0] 37)).heap.size=w.heap.size+1:=by simp
 clear h h1 A1 ii hf
 go_enter Tryz.func49,Tryz.ntmps49
 go_upto_region 1 with fail
 generalize w.alloc (.cells #[.int .i64 0,.int .i64 0,.slice none 0 0,.int .i64 0,.int .i64 0,.int .i64 0,.slice none 0 0,.slice none 0 0,.int .i64 0,.slice none 0 0] 37)=w1 at HK qG HA hz1 c0 c1 c2 c3 c4 c5 c6 fz hlb ⊢
 by_cases hlt:si < b.lost
 ·have HQ:=ak hlt
  have HF:=ak (oJ HK.out (.int .i64 4) (.int .i64 b.lost) (.slice none 0 0) (.int .i64 0) (.int .i64 0) (.int .i64 0) (.slice none 0 0) (.slice none 0 0) (.int .i64 0) (.slice none 0 0))
  obtain ⟨y0,y1,y2,y3,y4,y5,y6,y7,y8,y9⟩:=aO HK.out
  have yz:=(aZ HK.out).1
  have yl:=lt_of_heap HK.out
  go_wp2
  have ff:=aO HF.out.1
  have hs0:=HF.out.2.1
  have hR:∀ W:World,∀ T,w.heap.size≤T→dX W w.heap.size T (aY 4 b.lost) (nD b si):=fun W T hT=>by
   rw [abE b si HQ.out]
   exact vZ W _ _ (c:=4) (x:=b.lost) ⟨by decide,by decide⟩ HL.out hT
  refine bodyPost_ret (v:=aY 4 b.lost) (by simp [results,Tryz.results49,aY,go_sem,ff]) rfl ⟨aY 4 b.lost,rfl,hR _ _ ?_,sO HA.out hs0 HF.out.2.2.1 HF.out.2.2.2 (Nat.le_refl _)⟩
  rw [hs0,hz1]
  exact Nat.le_succ _
 ·have HQ:=ak hlt
  go_wp2_with fail
  refine qG.out.mono ?_
  rintro e w2 ⟨v,rfl,hO,hB2⟩
  have hfm:=hO.form
  simp only [CW] at hfm
  obtain ⟨a0,n0,k0,a1,n1,k1,a2,n2,k2,rfl⟩:=hfm
  have dB:=ak (aB hB2 HK.out)
  have HF:=ak (oJ dB.out (.int .i64 0) (.int .i64 0) (.slice a0 n0 k0) (.int .i64 b.valid) (.int .i64 b.next) (.int .i64 b.seq) (.slice a1 n1 k1) (.slice a2 n2 k2) (.int .i64 b.lost) (.slice none 0 0))
  have HO:=ak hO
  have HB:=ak hB2
  have hs2:=hB2.size
  rw [hz1] at hs2
  obtain ⟨y0,y1,y2,y3,y4,y5,y6,y7,y8,y9⟩:=aO dB.out
  have yz:=(aZ dB.out).1
  have yl:=lt_of_heap dB.out
  clear hO hB2 qG c0 c1 c2 c3 c4 c5 c6 fz hlb
  go_wp2
  have ff:=aO HF.out.1
  refine bodyPost_ret (v:=.agg #[.int .i64 0,.int .i64 0,.slice a0 n0 k0,.int .i64 b.valid,.int .i64 b.next,.int .i64 b.seq,.slice a1 n1 k1,.slice a2 n2 k2,.int .i64 b.lost,.slice none 0 0]) (by simp [results,Tryz.results49,aY,go_sem,ff]) rfl ⟨_,rfl,?_,sO (Below.step HA.out HB.out) HF.out.2.1 HF.out.2.2.1 HF.out.2.2.2 (Nat.le_refl _)⟩
  rw [abD b si (by have:=HQ.out;omega),HF.out.2.1]
  obtain ⟨c,ec,hE⟩:=HO.out
  have hE':=jN _ _ _ _ _ hE fun k hk _=>HF.out.2.2.2 k (by have:=hk.1;rw [hz1] at this;omega)
  have Lr:c=[.slice a0 n0 k0,.int .i64 b.valid,.int .i64 b.next,.int .i64 b.seq,.slice a1 n1 k1,.slice a2 n2 k2,.int .i64 b.lost]:=by
   simp only [Value.agg.injEq] at ec
   have:=congrArg Array.toList ec
   simpa using this.symm
  subst Lr
  exact ⟨_,_,_,_,w2.heap.size,rfl,hE'.wide fun k hk=>⟨by have:=hk.1;omega,hk.2⟩,.inl ⟨rfl,rfl⟩,by omega,Nat.le_refl _,aI,aI⟩
/- account of package oU gP: what the gP stands for, in memory of its own. -/
theorem abG:(Tryz.f16.body.bind (bR 1)).all (fun o=>dW o 11 [0,1,2,3,4,5,6,7,8,9,10] [9,10] [10,11] 8)=true:=by kernel_rfl
theorem abH:(Tryz.f16.body.bind (bR 5)).all (fun o=>dW o 14 [0,1,2,3,4,5,6,7,8,9,10,11,12,13] [9,10,11,13] [12,14] 8)=true:=by kernel_rfl
theorem abI {b:aA} (h1:∀ m ∈ b.ah,0 < m.seq) (h2:∀ x ∈ b.au,0 < x.seq):CW b 0=b:=by
 unfold CW
 rw [List.filter_eq_self.2 (fun m hm=>by simpa using h1 m hm),List.filter_eq_self.2 (fun x hx=>by simpa using h2 x hx)]
theorem abJ {w w':World} {B:Nat} {v:Value} {c:List Value} {b:aA} (h:xk w (In B w.heap.size) v b) (hb:Below w.heap.size w w') (hv:v=.agg c.toArray) (hs:w.heap.size≤w'.heap.size):fI w' c b (In B w'.heap.size):=by
 obtain ⟨c',e,hE⟩:=h
 rw [hv] at e
 have:c=c':=by simpa using e
 subst this
 exact (jN _ _ _ _ _ hE fun k _ hlt=>hb.block k hlt).wide fun k hk=>⟨hk.1,Nat.lt_of_lt_of_le hk.2 hs⟩
theorem SB (wt w:World) (S:Nat→Prop) (gd g n:Nat) (a:aF) (u0 u1:Value) (E:aU) (h:aT wt w S gd g n a u0 u1 E) (hn:n≤2000000) (hf:∀ b ∈ a.boxes,Fit b∧(∀ m ∈ b.ah,0 < m.seq)∧∀ x ∈ b.au,0 < x.seq) (h4:a.boxes.length≤1000) :
  Calls Tryz.prog 16 #[.pointer (some ⟨gd,0,none⟩)] w fun e w'=>∃ bv,e=.returned (.agg #[.int .i64 a.valid,bv,u1])∧wZ w' (In w.heap.size w'.heap.size) bv a.boxes∧Below w.heap.size w w':=by
 have A1:Below w.heap.size w (w.alloc (.cells #[.int .i64 0,.slice none 0 0,.slice none 0 0] 26)):=bn _ _
 have HK:=ak (aW w (.cells #[.int .i64 0,.slice none 0 0,.slice none 0 0] 26))
 have HD:=ak (h.below A1)
 have HA:=ak A1
 have HF:=ak hf
 have HD0:=ak h
 obtain ⟨z0,hi,hz0,hz1,hz2⟩:=info_parts xq
 obtain ⟨sa,sn,sc,rfl⟩:∃ a n c,u1=.slice a n c:=by
  rcases h.seen with ⟨e,-⟩ | ⟨_,_,_,_,_,e,-⟩
  ·exact ⟨_,_,_,e⟩
  ·exact ⟨_,_,_,e⟩
 obtain ⟨va,vc,rfl,hm1,hm2⟩:∃ va vc,u0=.slice va a.boxes.length vc∧a.boxes.length≤vc∧vc≤maxLen:=by
  obtain ⟨x,y,e,k1,k2⟩:=h.boxes.v.form
  rw [List.length_map] at e k1
  exact ⟨x,y,e,k1,k2⟩
 have hz:(w.alloc (.cells #[.int .i64 0,.slice none 0 0,.slice none 0 0] 26)).heap.size=w.heap.size+1:=by simp
 have hgl:=lt_of_heap h.cells
 clear h A1 hf
 go_enter Tryz.func16,Tryz.ntmps16
 go_upto_region 1 with fail
 generalize w.alloc (.cells #[.int .i64 0,.slice none 0 0,.slice none 0 0] 26)=w1 at HK HD HA hz ⊢
 have hw1:w.heap.size+1≤w1.heap.size:=by omega
 have HZ:=ak hz
 clear hz
 have D1:Below w1.heap.size w1 w1.drew:=(bd _ _)
 have A3:Below w1.heap.size w1 (w1.drew.alloc (.cells #[.int .i64 0,.slice none 0 0,.slice none 0 0] 26)):=D1.alloc (Nat.le_refl _) _
 have dF:Hid (∀ w',Below w1.heap.size w1 w'→w'.cell? ⟨gd,0,none⟩=some (.int .i64 a.valid)∧w'.cell? ⟨gd,3,none⟩=some (.slice sa sn sc)):=fun w' hw=>⟨(cell_of_row _ gd 0 _ _ (0,0) (HD.out.below hw).cells).trans rfl,(cell_of_row _ gd 3 _ _ (0,0) (HD.out.below hw).cells).trans rfl⟩
 refine eO 10 (S:=fun w'=>w'.cell? ⟨gd,0,none⟩=some (.int .i64 a.valid)∧w'.cell? ⟨gd,3,none⟩=some (.slice sa sn sc)) (eH (by kernel_rfl) abG) (by kernel_rfl) (dF.out _ D1) (fun aj ahz=>?_)
 refine tks 0 0 5 aj ahz ?_
 refine tks 1 1 6 aj ahz ?_
 refine tks 2 2 7 aj ahz ?_
 refine tks 3 3 8 aj ahz ?_
 refine tks 4 4 9 aj ahz ?_
 refine tks 5 5 10 aj ahz ?_
 refine tks 6 6 11 aj ahz ?_
 refine tks 7 7 12 aj ahz ?_
 refine tks 8 8 13 aj ahz ?_
 refine cls 9 9 aj (by decide) rfl rfl (fun K hK=>?_)
 go_simp
 refine hK.out _ _ (dF.out _ A3) (fun ahz=>?_)
 clear hK K
 refine gH (S':=fun w'=>True) 10 11 aj (by decide) (trivial) (fun ahz=>?_)
 refine cls 10 10 aj (by decide) rfl rfl (fun K hK=>?_)
 go_simp
 refine hK.out _ _ (trivial) (fun ahz=>?_)
 clear hK K
 refine eP aj ?_
 go_upto_region 2 with fail
 have A2:Below w1.heap.size w1 (w1.alloc (.cells #[.int .i64 a.valid,.slice none 0 0,.slice sa sn sc] 26)).drew:=(bn _ _).drew
 have HD2:=ak (HD.out.below A2)
 have HA2:=ak (Below.step HA.out A2)
 have dB:=ak (aB A2 HK.out)
 have pK:Hid ((w1.alloc (.cells #[.int .i64 a.valid,.slice none 0 0,.slice sa sn sc] 26)).drew.heap[w1.heap.size]?=some (.cells #[.int .i64 a.valid,.slice none 0 0,.slice sa sn sc] 26 (0,0))):=aW w1 _
 have SC:w1.heap.size+1≤(w1.alloc (.cells #[.int .i64 a.valid,.slice none 0 0,.slice sa sn sc] 26)).drew.heap.size:=(show w1.heap.size+1≤(w1.alloc (.cells #[.int .i64 a.valid,.slice none 0 0,.slice sa sn sc] 26)).heap.size by simp)
 clear dF A2 A3 D1 HD HA HK
 generalize (w1.alloc (.cells #[.int .i64 a.valid,.slice none 0 0,.slice sa sn sc] 26)).drew=w2 at HD2 HA2 dB pK SC ⊢
 have d1:w2.cell? ⟨gd,1,none⟩=some (.slice va a.boxes.length vc):=(cell_of_row _ gd 1 _ _ (0,0) HD2.out.cells).trans rfl
 have QU:=lt_of_heap HD2.out.cells
 go_wp2
 clear d1 QU
 go_loopw [4,19] (fun _ iv wr=>∃ (k:Nat) (la:Option Addr) (ln lc:Nat),k≤a.boxes.length∧iv=.int .i64 k∧Hid (Below w.heap.size w wr)∧Hid (wr.heap[w.heap.size]?=some (.cells #[.int .i64 0,.slice none 0 0,.slice none 0 0] 26 (0,0)))∧Hid (wr.heap[w1.heap.size]?=some (.cells #[.int .i64 a.valid,.slice la ln lc,.slice sa sn sc] 26 (0,0)))∧Hid (wZ wr (In (w1.heap.size+1) wr.heap.size) (.slice la ln lc) (a.boxes.take k))∧w1.heap.size+1≤wr.heap.size) (fun _ iv _=>a.boxes.length - (intOf iv).toNat)
 case atStart=>exact ⟨0,none,0,0,Nat.zero_le _,rfl,HA2.out,dB.out,pK.out,.inl ⟨rfl,by simp⟩,SC⟩
 case round =>
  obtain ⟨k,la,ln,lc,hk,rfl,HA,HK,HX,HO,hs⟩:=hrel
  have HD:=ak (HD0.out.below HA.out)
  clear HD2 HA2 dB pK
  by_cases hlt:k < a.boxes.length
  ·obtain ⟨b,hb⟩:∃ b,a.boxes[k]?=some b:=⟨_,aL hlt⟩
   obtain ⟨gb,cap,_,_,_,e1,-⟩:=HD.out.read hb
   simp only [Value.slice.injEq,true_and] at e1
   obtain ⟨rfl,rfl⟩:=e1
   have hki:(k:Int) < a.boxes.length:=by omega
   have DR:Below wr.heap.size wr wr.drew:=(bd _ _)
   have FU:=HF.out b (List.mem_of_getElem? hb)
   have Fx:=ak (abI FU.2.1 FU.2.2)
   have qG:=ak (Sm wt wr.drew S gd g n k gb vc a b _ (.slice sa sn sc) E 0 (HD.out.below DR) hb rfl hn FU.1)
   have rO:Hid (∀ w',Below wr.heap.size wr w'→w'.cell? ⟨w1.heap.size,1,none⟩=some (.slice la ln lc)∧w'.cell? ⟨gd,1,none⟩=some (.slice (some ⟨gb,0,none⟩) a.boxes.length vc)):=fun w' hw=>⟨(bM (aB hw HX.out)).2.1,(cell_of_row _ gd 1 _ _ (0,0) (HD.out.below hw).cells).trans rfl⟩
   have fq:=ak hb
   have abK:∀ (a0 a1 a2:Option Addr) (k0 c0 k1 c1 k2 c2:Nat),∀ u ∈ [Value.slice a0 k0 c0,.int .i64 b.valid,.int .i64 b.next,.int .i64 b.seq,.slice a1 k1 c1,.slice a2 k2 c2,.int .i64 b.lost],u.oneCell'=true:=by
    intro a0 a1 a2 k0 c0 k1 c1 k2 c2 u hu
    simp only [List.mem_cons,List.not_mem_nil,or_false] at hu
    rcases hu with rfl | rfl | rfl | rfl | rfl | rfl | rfl <;> rfl
   have abL:=lt_of_heap HD.out.cells
   clear hb FU
   go_upto_region 5 with fail
   refine eO 12 (S:=fun w'=>w'.cell? ⟨w1.heap.size,1,none⟩=some (.slice la ln lc)∧w'.cell? ⟨gd,1,none⟩=some (.slice (some ⟨gb,0,none⟩) a.boxes.length vc)) (eH (by kernel_rfl) abH) (by kernel_rfl) (rO.out _ DR) (fun aj ahz=>?_)
   refine tks 0 0 22 aj ahz ?_
   refine tks 1 1 23 aj ahz ?_
   refine tks 2 2 24 aj ahz ?_
   refine tks 3 3 25 aj ahz ?_
   refine tks 4 4 26 aj ahz ?_
   refine tks 5 5 27 aj ahz ?_
   refine tks 6 6 28 aj ahz ?_
   refine tks 7 7 29 aj ahz ?_
   refine tks 8 8 30 aj ahz ?_
   refine cls 9 9 aj (by decide) rfl rfl (fun K hK=>?_)
   go_simp
   refine qG.out.mono ?_
   rintro e w4 ⟨v,rfl,hO4,hB4⟩
   rw [Fx.out] at hO4
   obtain ⟨a0,k0,c0,a1,k1,c1,a2,k2,c2,rfl⟩:=hO4.form
   have qQ:=ak (rO.out _ (Below.step DR hB4))
   have gL:=ak (Below.step DR hB4)
   have nC:=ak hO4
   have hs4:wr.heap.size≤w4.heap.size:=hB4.size
   clear hO4 hB4
   refine hK.out _ _ (qQ.out) (fun ahz=>?_)
   clear hK K
   refine cls 10 10 aj (by decide) rfl rfl (fun K hK=>?_)
   go_simp
   have AB:Below w4.heap.size w4 (w4.alloc (.cells #[.slice a0 k0 c0,.int .i64 b.valid,.int .i64 b.next,.int .i64 b.seq,.slice a1 k1 c1,.slice a2 k2 c2,.int .i64 b.lost] 34)):=bn _ _
   refine hK.out _ _ (rO.out _ (Below.step gL.out AB)) (fun ahz=>?_)
   clear hK K
   refine cls 11 11 aj (by decide) rfl rfl (fun K hK=>?_)
   have hMs:wr.heap.size≤(w4.alloc (.cells #[.slice a0 k0 c0,.int .i64 b.valid,.int .i64 b.next,.int .i64 b.seq,.slice a1 k1 c1,.slice a2 k2 c2,.int .i64 b.lost] 34)).heap.size:=by simp;omega
   have nJ:fI (w4.alloc (.cells #[.slice a0 k0 c0,.int .i64 b.valid,.int .i64 b.next,.int .i64 b.seq,.slice a1 k1 c1,.slice a2 k2 c2,.int .i64 b.lost] 34)) [.slice a0 k0 c0,.int .i64 b.valid,.int .i64 b.next,.int .i64 b.seq,.slice a1 k1 c1,.slice a2 k2 c2,.int .i64 b.lost] b (In wr.heap.size (w4.alloc (.cells #[.slice a0 k0 c0,.int .i64 b.valid,.int .i64 b.next,.int .i64 b.seq,.slice a1 k1 c1,.slice a2 k2 c2,.int .i64 b.lost] 34)).heap.size):=abJ nC.out AB rfl (by simp)
   have hl1:(a.boxes.take k).length+1≤maxLen:=by unfold maxLen;simp;omega
   have hl2:((a.boxes.take k).length+1) * 104≤140737488355328:=by simp;omega
   refine dR (by kernel_rfl) (AA 33 rfl (.tmp 23) (.tmp 32) rfl jN (B:=w1.heap.size+1) (M:=wr.heap.size) (Ow.below jN (Ow.below jN HO.out gL.out) AB) hMs hs Tryz.underlying23 hi hz0 hz1 hz2 rfl (by omega) rfl b [.slice a0 k0 c0,.int .i64 b.valid,.int .i64 b.next,.int .i64 b.seq,.slice a1 k1 c1,.slice a2 k2 c2,.int .i64 b.lost] rfl nJ ⟨w4.heap.size,0,none⟩ 1 rfl (kH w4 _ _) (abK _ _ _ _ _ _ _ _ _) hl1 hl2 ?_)
   intro DV wz jV hgz fP
   obtain ⟨da,dn,dc,og⟩:=cZ.aG jV
   subst og
   have hge:∀ j,(Value.slice la ln lc).ownBlock=some j→w1.heap.size+1≤j:=fun j hj=>(fP j hj).1
   have KX:=l5 hgz hge (aB (Below.step gL.out AB) HX.out) (by omega)
   have jw:Hid (Below (w1.heap.size+1) wr wz):=rD ((Below.step gL.out AB).mono hs) hgz hge (Nat.le_refl _) (by simp;omega)
   have sM:w4.heap.size+1≤wz.heap.size:=by have:=hgz.size;simpa using this
   have qY:Hid (wz.cell? ⟨w1.heap.size,1,none⟩=some (.slice la ln lc)∧wz.cell? ⟨gd,1,none⟩=some (.slice (some ⟨gb,0,none⟩) a.boxes.length vc)):=⟨(bM KX).2.1,(jw.out.cell (p:=⟨gd,1,none⟩) (show gd < w1.heap.size+1 by omega)).trans (rO.out wr (Below.refl _ _)).2⟩
   refine hK.out _ _ (qY.out) (fun ahz=>?_)
   clear hK K
   refine gH (S':=fun w'=>True) 12 14 aj (by decide) (trivial) (fun ahz=>?_)
   obtain ⟨zx,zl⟩:=aZ KX
   obtain ⟨d0,d1,d2⟩:=bM KX
   refine tks 12 12 34 aj ahz ?_
   refine cls 13 13 aj (by decide) rfl rfl (fun K hK=>?_)
   go_simp
   refine hK.out _ _ (trivial) (fun ahz=>?_)
   clear hK K
   refine eP aj ?_
   have vC:Hid (Below w1.heap.size wr (wz.setCell ⟨w1.heap.size,1,none⟩ (.slice da dn dc))):=(jw.out.mono (Nat.le_succ _)).setCell (p:=⟨w1.heap.size,1,none⟩) (Nat.le_refl _) _
   have jF:=ak (HA.out.trans (vC.out.mono (show w.heap.size≤w1.heap.size by omega)))
   have yg:=ak ((vC.out.block _ (show w.heap.size < w1.heap.size by omega)).trans HK.out)
   have qC:Hid ((wz.setCell ⟨w1.heap.size,1,none⟩ (.slice da dn dc)).heap[w1.heap.size]?=some (.cells #[.int .i64 a.valid,.slice da dn dc,.slice sa sn sc] 26 (0,0))):=aJ (i:=1) (v:=.slice da dn dc) KX
   have nZ:Hid (wZ (wz.setCell ⟨w1.heap.size,1,none⟩ (.slice da dn dc)) (In (w1.heap.size+1) (wz.setCell ⟨w1.heap.size,1,none⟩ (.slice da dn dc)).heap.size) (.slice da dn dc) (a.boxes.take (k+1))):=by
    rw [List.take_add_one,fq.out,bf]
    exact Ow.frame jN jV fun q hq _=>Below.heap_setCell _ _ _ _ (show q≠w1.heap.size by have:=hq.1;omega)
   have hs6:w1.heap.size+1≤(wz.setCell ⟨w1.heap.size,1,none⟩ (.slice da dn dc)).heap.size:=by rw [bf];omega
   clear KX jw qY jV hgz fP hge AB hMs nJ hl1 hl2 nC gL qQ qG Fx rO zx zl d0 d1 d2 HA HK HX HO HD abL
   go_wp2
   go_roundw
   case rel=>exact ⟨k+1,da,dn,dc,by omega,by go_num,jF.out,yg.out,qC.out,nZ.out,hs6⟩
   case measure=>simp [intOf];omega
  ·obtain rfl:k=a.boxes.length:=by omega
   have hki:¬ (a.boxes.length:Int) < a.boxes.length:=by omega
   obtain ⟨x0,x1,x2⟩:=bM HX.out
   have xl:=lt_of_heap HX.out
   obtain ⟨y0,y1,y2⟩:=bM HK.out
   have yz:=(aZ HK.out).1
   have yl:=lt_of_heap HK.out
   have KF:(((wr.setCell ⟨w.heap.size,0,none⟩ (.int .i64 a.valid)).setCell ⟨w.heap.size,1,none⟩ (.slice la ln lc)).setCell ⟨w.heap.size,2,none⟩ (.slice sa sn sc)).heap[w.heap.size]?=some (.cells #[.int .i64 a.valid,.slice la ln lc,.slice sa sn sc] 26 (0,0)):=aJ (i:=2) (v:=.slice sa sn sc) (aJ (i:=1) (v:=.slice la ln lc) (aJ (i:=0) (v:=.int .i64 a.valid) HK.out))
   have Bu:=ak KF
   have HBF:=ak (((HA.out.setCell (p:=⟨w.heap.size,0,none⟩) (Nat.le_refl _) (.int .i64 a.valid)).setCell (p:=⟨w.heap.size,1,none⟩) (Nat.le_refl _) (.slice la ln lc)).setCell (p:=⟨w.heap.size,2,none⟩) (Nat.le_refl _) (.slice sa sn sc))
   have FB:Hid (wZ (((wr.setCell ⟨w.heap.size,0,none⟩ (.int .i64 a.valid)).setCell ⟨w.heap.size,1,none⟩ (.slice la ln lc)).setCell ⟨w.heap.size,2,none⟩ (.slice sa sn sc)) (In w.heap.size (((wr.setCell ⟨w.heap.size,0,none⟩ (.int .i64 a.valid)).setCell ⟨w.heap.size,1,none⟩ (.slice la ln lc)).setCell ⟨w.heap.size,2,none⟩ (.slice sa sn sc)).heap.size) (.slice la ln lc) a.boxes):=by
    have:=HO.out
    rw [List.take_length] at this
    rw [bf,bf,bf]
    refine Ow.mono (Ow.frame jN this fun q hq _=>?_) fun q hq=>⟨by have:=hq.1;omega,hq.2⟩
    have hne:q≠w.heap.size:=by have:=hq.1;omega
    rw [Below.heap_setCell _ _ _ _ (show q≠w.heap.size from hne),Below.heap_setCell _ _ _ _ (show q≠w.heap.size from hne),Below.heap_setCell _ _ _ _ (show q≠w.heap.size from hne)]
   clear KF HO HD
   go_wp2
   obtain ⟨f0,f1,f2⟩:=bM Bu.out
   refine bodyPost_ret (v:=.agg #[.int .i64 a.valid,.slice la ln lc,.slice sa sn sc]) (by simp [results,Tryz.results16,go_sem,f0,f1,f2]) rfl ⟨_,rfl,FB.out,HBF.out⟩
end Go.Proofs.YtmglhdkeidhafaaGreat
