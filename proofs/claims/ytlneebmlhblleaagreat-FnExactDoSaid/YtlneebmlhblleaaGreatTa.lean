/- The proof's texts, part 10. -/
import Derived.Test.YtlneebmlhblleaaGreatT8
import Derived.Test.YtlneebmlhblleaaGreatT9
namespace Go.Proofs.YtlneebmlhblleaaGreat
open Go.RowKit
set_option linter.unusedVariables false
set_option linter.unusedSimpArgs false
set_option maxHeartbeats 8000000
set_option maxRecDepth 100000
/- What ahM of package spec does: an account is copied, with all that it leads to. -/
theorem YR:(Tryz.f23.body.bind (bQ 5)).all (fun o=>dQ o 12 [0,1,2,3,4,5,6,7,8,9,10,11] [7,8,9,11] [10,12] 0)=true:=by kernel_rfl
theorem JG:∀ (w:World) (c:List Value) (x:Int),Fp w c x→∀ y ∈ c,y.oneCell'=true:=by
 rintro w c x ⟨rfl,-⟩ y hy
 simp at hy
 subst hy
 rfl
theorem YS {a0 a1 a2:Option Addr} {n0 n1 n2 c0 c1 c2:Nat} {i j k m:Int}:∀ u ∈ [Value.slice a0 n0 c0,.int .i64 i,.int .i64 j,.int .i64 k,.slice a1 n1 c1,.slice a2 n2 c2,.int .i64 m],Value.oneCell' u=true:=by
 intro u hu
 simp only [List.mem_cons,List.not_mem_nil,or_false] at hu
 rcases hu with rfl | rfl | rfl | rfl | rfl | rfl | rfl <;> rfl
theorem JH {w:World} {c:List Value} {b:aD} {S:Nat→Prop} (h:dh w c b S):∃ a0 n0 c0 a1 n1 c1 a2 n2 c2,c=[.slice a0 n0 c0,.int .i64 b.valid,.int .i64 b.next,.int .i64 b.seq,.slice a1 n1 c1,.slice a2 n2 c2,.int .i64 b.lost]:=by
 obtain ⟨u0,u1,u2,S0,S1,S2,rfl,h0,h1,h2,-⟩:=h
 obtain ⟨a0,n0,c0,rfl⟩:=h0.bs.aG
 obtain ⟨a1,n1,c1,rfl⟩:=sj.aG h1
 obtain ⟨a2,n2,c2,rfl⟩:=sj.aG h2
 exact ⟨_,_,_,_,_,_,_,_,_,rfl⟩
theorem JI {w w0:World} {B:Nat} {v:Value} {l:List Int} {xs:List Value} {S:Nat→Prop} (h:w.ownsRow B 3 1 v l.length xs) (hx:∀ i x,l[i]?=some x→∃ c,c.length=1∧Fp w0 c x∧∀ j y,c[j]?=some y→xs[i * 1+j]?=some y) (hS:∀ g,v.ownBlock=some g→S g):gQ w S v l:=by
 rcases h.2 with ⟨hn,hl⟩ | ⟨g,cap,cur,hv,hg,hh,h1,h2,h3,h4⟩
 ·exact .inl ⟨hn,List.eq_nil_of_length_eq_zero hl⟩
 ·refine .inr ⟨g,cap,cur,fun i=>match l[i]? with | some x=>[.int .i64 x] | none=>[],fun _ _=>False,hv,hh,h1,h2,h3,hS g (by rw [hv];rfl),fun i x hi=>?_,by simp,by simp⟩
  obtain ⟨c,-,⟨hc,Jj⟩,hj⟩:=hx i x hi
  simp only [hi]
  refine ⟨⟨rfl,Jj⟩,rfl,fun j y hy=>?_⟩
  rw [← hc] at hy
  have:=hj j y hy
  rw [← h4,List.getElem?_take] at this
  split at this
  ·simpa using this
  ·cases this
theorem P6 {w w':World} {S:Nat→Prop} {v:Value} {l:List Int} (h:gQ w S v l) (hw:∀ k,Ty w k 3→w'.heap[k]?=w.heap[k]?):gQ w' S v l:=by
 rcases h with h | ⟨k,cap,cur,cs,fs,hv,hh,r⟩
 ·exact .inl h
 ·exact .inr ⟨k,cap,cur,cs,fs,hv,(hw k ⟨_,_,hh⟩).trans hh,r⟩
theorem YT {w:World} {v:Value} {l:List Int} {N:Nat} (h:gQ w (fun k=>N≤k) v l):vX w N w.heap.size v l:=by
 rcases h with h | ⟨k,cap,cur,cs,fs,hv,hh,h1,h2,h3,h4,h5,h6,h7⟩
 ·exact .inl h
 ·exact .inr ⟨k,cap,cur,cs,fun _ _=>False,hv,hh,h1,h2,h3,⟨h4,lt_of_heap hh⟩,fun i x hx=>⟨(h5 i x hx).1,(h5 i x hx).2⟩,by simp,by simp⟩
/-- Three cells are set. -/
theorem YU {x w0:World} {r:Nat} {d0 d1 d2:Value} (h:x.heap[r]?=some (.cells #[d0,d1,d2] 33 (0,0))) (D:Below w0.heap.size w0 x) (q:w0.heap.size≤r) (c0 c1 c2:Value) :
  (((x.setCell ⟨r,0,none⟩ c0).setCell ⟨r,1,none⟩ c1).setCell ⟨r,2,none⟩ c2).heap[r]?=some (.cells #[c0,c1,c2] 33 (0,0))∧Below w0.heap.size w0 (((x.setCell ⟨r,0,none⟩ c0).setCell ⟨r,1,none⟩ c1).setCell ⟨r,2,none⟩ c2)∧∀ k,k≠r→(((x.setCell ⟨r,0,none⟩ c0).setCell ⟨r,1,none⟩ c1).setCell ⟨r,2,none⟩ c2).heap[k]?=x.heap[k]? :=
 ⟨aP (i:=2) (v:=c2) (aP (i:=1) (v:=c1) (aP (i:=0) (v:=c0) h)),((D.setCell (p:=⟨r,0,none⟩) q c0).setCell (p:=⟨r,1,none⟩) q c1).setCell (p:=⟨r,2,none⟩) q c2,fun k hk=>by
  rw [Below.heap_setCell _ _ _ _ (show k≠r from hk),Below.heap_setCell _ _ _ _ (show k≠r from hk),Below.heap_setCell _ _ _ _ (show k≠r from hk)]⟩
theorem YV (v:Value) (a:aJ) (w:World) (hv:dM w v a) (hs:jf a.boxes≤2000000) (hl:a.seen.length≤2000000) :
  Calls Tryz.prog 23 #[v] w fun e w'=>∃ u,e=.returned u∧jY w' (In w.heap.size w'.heap.size) u a∧Below w.heap.size w w':=by
 obtain ⟨u0,u1,rfl,g0,g1,hint⟩:=hv
 have wB:Hid (aB a.valid):=hint
 have Jq:Hid (cK w u0 a.boxes):=g0
 have Jr:Hid (∀ wi,Below w.heap.size w wi→dS wi u1 a.seen):=fun wi h=>g1.below nP h
 have ahN:a.boxes.length≤2000000:=by have:=Fu a.boxes;omega
 obtain ⟨a0,dF,rfl,hml,-⟩:=g0.form
 obtain ⟨a1,gu,rfl,-⟩:=g1.form
 obtain ⟨i0,hi,hz0,hz1,hz2⟩:=info_parts uH
 obtain ⟨i1,hj,hy0,hy1,hy2⟩:=info_parts Jz
 have hl3:a.seen.length≤maxLen:=by unfold maxLen;omega
 have hl4:a.seen.length * 8≤140737488355328:=by omega
 obtain ⟨kA,kR,X⟩:=gJ w (.cells #[.int .i64 a.valid,.slice a0 a.boxes.length dF,.slice a1 a.seen.length gu] 33) (.cells #[.int .i64 0,.slice none 0 0,.slice none 0 0] 33)
 have HX:Hid _:=X
 have bU:Hid _:=kA
 have aO:Hid _:=kR
 have hs0:((w.alloc (.cells #[.int .i64 a.valid,.slice a0 a.boxes.length dF,.slice a1 a.seen.length gu] 33)).alloc (.cells #[.int .i64 0,.slice none 0 0,.slice none 0 0] 33)).heap.size=w.heap.size+2:=by simp
 have eY:Hid _:=hs0
 clear g0 g1 hint X kA kR hs0
 go_enter Tryz.func23,Tryz.ntmps23
 go_upto_region 1 with fail
 generalize hw0:(w.alloc (.cells #[.int .i64 a.valid,.slice a0 a.boxes.length dF,.slice a1 a.seen.length gu] 33)).alloc (.cells #[.int .i64 0,.slice none 0 0,.slice none 0 0] 33)=w0 at *
 clear hw0
 obtain ⟨N,hNe⟩:∃ N,N=w.heap.size+2:=⟨_,rfl⟩
 have mU:Hid (N=w.heap.size+2):=hNe
 clear hNe
 go_cut [3] (fun s wx=>∃ bx ga gn gc,s=.pointer (some ⟨bx,0,none⟩)∧Hid (wx.heap[bx]?=some (.cells #[.int .i64 a.valid,.slice none 0 0,.slice ga gn gc] 33 (0,0)))∧Hid (gQ wx (fun k=>N≤k) (.slice ga gn gc) a.seen)∧N≤bx∧Hid (Below w0.heap.size w0 wx))
 case first =>
  have HS:Hid (∀ w',Below w0.heap.size w0 w'→w'.cell? ⟨w.heap.size,0,none⟩=some (.int .i64 a.valid)∧w'.cell? ⟨w.heap.size,2,none⟩=some (.slice a1 a.seen.length gu)):=fun w' h=>by
   obtain ⟨c0,c1,c2⟩:=bD (ay h bU.out)
   exact ⟨c0,c2⟩
  have zQ:Hid (∀ w',Below w0.heap.size w0 w'→dS w' (.slice a1 a.seen.length gu) a.seen):=fun w' h=>Jr.out w' (Below.step HX.out h)
  have hN0:N≤w0.drew.heap.size:=by have:=eY.out;have:=mU.out;show N≤w0.heap.size;omega
  have D0:Hid (Below w0.heap.size w0 w0.drew):=bd _ _
  clear eY mU
  refine wp_region_held_drew (S:=fun w'=>w'.cell? ⟨w.heap.size,0,none⟩=some (.int .i64 a.valid)∧w'.cell? ⟨w.heap.size,2,none⟩=some (.slice a1 a.seen.length gu)) (by kernel_rfl) (HS.out _ D0.out) (fun aks=>(show wpAnyH _ _ _ _ _ 9 #[false,false,false,false,false,false,false,false,false] _ _ from ?_))
  refine tq 0 5 aks ?_
  refine tq 1 6 aks ?_
  refine tq 3 8 aks ?_
  refine tq 4 9 aks ?_
  generalize w0.drew=x at *
  have hN:=hN0
  have D:=D0
  clear hN0 D0
  repeat' (first
   | exact AllReadyH.nil
   | refine AllReadyH.cons rfl (fun K hK=>?_) ?_
   | refine tq 6 11 aks ?_
   | refine wpAnyH_ready (rs:=[2,7]) (by decide +kernel) (by simp) ?_
   | refine wpAnyH_ready (rs:=[5,7]) (by decide +kernel) (by simp) ?_
   | refine wpAnyH_ready (rs:=[2]) (by decide +kernel) (by simp) ?_
   | refine wpAnyH_ready (rs:=[5]) (by decide +kernel) (by simp) ?_
   | refine wpAnyH_ready (rs:=[7]) (by decide +kernel) (by simp) ?_
   | (
     refine wpAnyH_ready (rs:=[8]) (by decide +kernel) (by simp) ?_
     refine AllReadyH.cons rfl (fun K hK=>?_) AllReadyH.nil
     obtain ⟨zx,zl⟩:=bR jh.out
     obtain ⟨q0,q1,q2⟩:=bD jh.out
     have HF:=ak (YU jh.out D.out hbx (.int .i64 a.valid) (.slice none 0 0) (.slice ga gn gc))
     have GF:=ak (P6 oN.out fun k hk=>HF.out.2.2 k fun e=>by subst e;exact kN jh.out hk (by decide))
     go_simp
     refine hK.out _ _ (HS.out _ HF.out.2.1) (fun aks=>?_)
     clear hK K
     refine wpAnyH_done (by kernel_rfl) ?_ _
     go_wp2
     go_meet
     case rel=>exact ⟨_,_,_,_,rfl,HF.out.1,GF.out,Js,HF.out.2.1⟩)
   | (
     refine dO (by kernel_rfl) (j5 (B:=N) 10 rfl (.tmp 7) (.tmp 9) rfl mV.out (zQ.out _ D.out) (JG _) Tryz.underlying23 hj hy0 hy1 hy2 rfl (by omega) rfl rfl hl3 hl4 hN ?_)
     intro V y xs hO hX hG hB
     have hG':x.grownBy y (some e1):=hG
     have KE:=qR mV.out
     try replace jh:Hid _:=BK hG' jh.out KE (by decide)
     replace D:Hid (Below w0.heap.size w0 y):=kP D.out hG' he1
     replace hN:N≤y.heap.size:=Nat.le_trans hN hG'.size
     have hR:gQ y (fun k=>N≤k) V a.seen:=JI hO hX (fun g hg=>dJ hO hg)
     obtain ⟨ga,gn,gc,hV⟩:=sj.aG hR
     subst hV
     have oN:Hid (gQ y (fun k=>N≤k) (.slice ga gn gc) a.seen):=hR
     refine hK.out _ _ (HS.out _ D.out) (fun aks=>?_)
     clear hK K hO hX hG hG' hB KE hR mV
     conv=>arg 8;simp only [Act.put,sA,s0,sS]
     generalize y=x at *)
   | (
     go_simp
     have AB:Below x.heap.size x (x.alloc (.cells #[] 3)):=bn _ _
     have he1:=D.out.size
     have mV:Hid _:=kK x 3 1 N hN
     try replace jh:Hid _:=ay AB jh.out
     replace D:Hid (Below w0.heap.size w0 (x.alloc (.cells #[] 3))):=Below.step D.out AB
     replace hN:N≤(x.alloc (.cells #[] 3)).heap.size:=Nat.le_trans hN AB.size
     refine hK.out _ (x.alloc (.cells #[] 3)) (HS.out _ D.out) (fun aks=>?_)
     clear hK K AB
     generalize x.heap.size=e1 at *
     generalize hw:x.alloc (.cells #[] 3)=x at *
     clear hw)
   | (
     go_simp
     have AB:Below x.heap.size x (x.alloc (.cells #[.int .i64 0,.slice none 0 0,.slice none 0 0] 33)):=bn _ _
     have hbx:=D.out.size
     have Js:=hN
     have jh:=ak (aV x (.cells #[.int .i64 0,.slice none 0 0,.slice none 0 0] 33))
     try replace mV:Hid _:=own_below mV.out AB
     try replace oN:Hid _:=Ow.below oH oN.out AB
     replace D:Hid (Below w0.heap.size w0 (x.alloc (.cells #[.int .i64 0,.slice none 0 0,.slice none 0 0] 33))):=Below.step D.out AB
     replace hN:N≤(x.alloc (.cells #[.int .i64 0,.slice none 0 0,.slice none 0 0] 33)).heap.size:=Nat.le_trans hN AB.size
     refine hK.out _ (x.alloc (.cells #[.int .i64 0,.slice none 0 0,.slice none 0 0] 33)) (HS.out _ D.out) (fun aks=>?_)
     clear hK K AB
     generalize x.heap.size=bx at *
     generalize hw:x.alloc (.cells #[.int .i64 0,.slice none 0 0,.slice none 0 0] 33)=x at *
     clear hw))
 case rest =>
  obtain ⟨bx,ga,gn,gc,rfl,nU,qj,hbx,HD⟩:=hcut
  have hs2:w0.heap.size=w.heap.size+2:=eY.out
  have hNe:=mU.out
  subst hNe
  have HB0:Hid (Below w.heap.size w wc):=Below.step HX.out HD.out
  have BN:Hid (wc.heap[w.heap.size]?=some (.cells #[.int .i64 a.valid,.slice a0 a.boxes.length dF,.slice a1 a.seen.length gu] 33 (0,0))):=ay HD.out bU.out
  have bW:Hid (wc.heap[w.heap.size+1]?=some (.cells #[.int .i64 0,.slice none 0 0,.slice none 0 0] 33 (0,0))):=ay HD.out aO.out
  have BO:Hid (vX wc (w.heap.size+2) wc.heap.size (.slice ga gn gc) a.seen):=YT qj.out
  have hlx:=lt_of_heap nU.out
  have hwc:w.heap.size+2≤wc.heap.size:=by omega
  clear HD HX bU aO qj eY mU hs2
  go_wp2
  go_loopw [4] (fun i wr=>∃ (k:Nat) (va:Option Addr) (vn vc:Nat),k≤a.boxes.length∧i=.int .i64 k∧Hid (Below w.heap.size w wr)∧Hid (wr.heap[w.heap.size]?=some (.cells #[.int .i64 a.valid,.slice a0 a.boxes.length dF,.slice a1 a.seen.length gu] 33 (0,0)))∧Hid (wr.heap[w.heap.size+1]?=some (.cells #[.int .i64 0,.slice none 0 0,.slice none 0 0] 33 (0,0)))∧Hid (wr.heap[bx]?=some (.cells #[.int .i64 a.valid,.slice va vn vc,.slice ga gn gc] 33 (0,0)))∧Hid (vX wr (w.heap.size+2) wc.heap.size (.slice ga gn gc) a.seen)∧wc.heap.size≤wr.heap.size∧Hid (xV wr wc.heap.size wr.heap.size (.slice va vn vc) (a.boxes.take k))) (fun i _=>a.boxes.length - (intOf i).toNat)
  case atStart=>exact ⟨0,none,0,0,Nat.zero_le _,rfl,HB0,BN,bW,nU,BO,Nat.le_refl _,.inl ⟨rfl,rfl⟩⟩
  case round =>
   obtain ⟨k,va,vn,vc,hk,rfl,HB,bU,aO,HX,HG,hs,HO⟩:=hrel
   clear HB0 BN bW nU BO
   obtain ⟨c0,c1,c2⟩:=bD bU.out
   have lA:=lt_of_heap bU.out
   obtain ⟨y0,y1,y2⟩:=bD HX.out
   have lX:=lt_of_heap HX.out
   by_cases hlt:k < a.boxes.length
   ·obtain ⟨x,hx⟩:∃ x,a.boxes[k]?=some x:=⟨a.boxes[k],aK hlt⟩
    have hsx:bA x≤2000000:=by have:=Fq (List.mem_of_getElem? hx);omega
    obtain ⟨bb,off,cp,t0,t1,t2,hv',hlb,e0,e1,e2,e3,e4,e5,e6,ht0,ht1,ht2,hxi⟩:=cK.cell Jq.out k x hx
    simp only [Value.slice.injEq,true_and] at hv'
    obtain ⟨rfl,rfl⟩:=hv'
    have F3:bK w (.agg #[t0,.int .i64 x.valid,.int .i64 x.next,.int .i64 x.seq,t1,t2,.int .i64 x.lost]) x:=⟨_,_,_,rfl,ht0,ht1,ht2,hxi⟩
    obtain ⟨s0,JJ,JK,rfl⟩:=ht0.aG
    obtain ⟨s1,JL,rfl,-⟩:=ht1.form
    obtain ⟨s2,JM,rfl,-⟩:=ht2.form
    obtain ⟨JN,hn1⟩:∃ n,n=x.ah.length:=⟨_,rfl⟩
    obtain ⟨JO,hn2⟩:∃ n,n=x.au.length:=⟨_,rfl⟩
    rw [← hn1] at F3 e4
    rw [← hn2] at F3 e5
    have jC:Hid (bK wr (.agg #[.slice s0 JJ JK,.int .i64 x.valid,.int .i64 x.next,.int .i64 x.seq,.slice s1 JN JL,.slice s2 JO JM,.int .i64 x.lost]) x):=F3.below HB.out
    have lK:Hid (a.boxes[k]?=some x):=hx
    clear ht0 ht1 ht2 hxi hn1 hn2 F3 hx
    have HS:Hid (∀ w',Below wr.heap.size wr w'→(w'.cell? ⟨bx,1,none⟩=some (.slice va vn vc)∧w'.cell? ⟨w.heap.size,1,none⟩=some (.slice (some ⟨bb,off,none⟩) a.boxes.length dF))∧w'.cell? ⟨bb,off+k * 7,none⟩=some (.slice s0 JJ JK)∧w'.cell? ⟨bb,off+k * 7+1,none⟩=some (.int .i64 x.valid)∧w'.cell? ⟨bb,off+k * 7+2,none⟩=some (.int .i64 x.next)∧w'.cell? ⟨bb,off+k * 7+3,none⟩=some (.int .i64 x.seq)∧w'.cell? ⟨bb,off+k * 7+4,none⟩=some (.slice s1 JN JL)∧w'.cell? ⟨bb,off+k * 7+5,none⟩=some (.slice s2 JO JM)∧w'.cell? ⟨bb,off+k * 7+6,none⟩=some (.int .i64 x.lost)):=fun w' h=>⟨⟨cell_later h y1,cell_later h c1⟩,cell_later h (cell_later HB.out e0),cell_later h (cell_later HB.out e1),cell_later h (cell_later HB.out e2),cell_later h (cell_later HB.out e3),cell_later h (cell_later HB.out e4),cell_later h (cell_later HB.out e5),cell_later h (cell_later HB.out e6)⟩
    have DR:Below wr.heap.size wr wr.drew:=bd _ _
    have hki:(k:Int) < a.boxes.length:=by omega
    go_upto_region 5 with fail
    clear c0 c1 c2 y0 y1 y2
    refine eF 10 (S:=fun w'=>(w'.cell? ⟨bx,1,none⟩=some (.slice va vn vc)∧w'.cell? ⟨w.heap.size,1,none⟩=some (.slice (some ⟨bb,off,none⟩) a.boxes.length dF))∧w'.cell? ⟨bb,off+k * 7,none⟩=some (.slice s0 JJ JK)∧w'.cell? ⟨bb,off+k * 7+1,none⟩=some (.int .i64 x.valid)∧w'.cell? ⟨bb,off+k * 7+2,none⟩=some (.int .i64 x.next)∧w'.cell? ⟨bb,off+k * 7+3,none⟩=some (.int .i64 x.seq)∧w'.cell? ⟨bb,off+k * 7+4,none⟩=some (.slice s1 JN JL)∧w'.cell? ⟨bb,off+k * 7+5,none⟩=some (.slice s2 JO JM)∧w'.cell? ⟨bb,off+k * 7+6,none⟩=some (.int .i64 x.lost)) (eB (by kernel_rfl) YR) (by kernel_rfl) (HS.out _ DR) (fun aj aks=>?_)
    refine tks 0 0 19 aj aks ?_
    refine tks 1 1 20 aj aks ?_
    refine tks 2 2 21 aj aks ?_
    refine tks 3 3 22 aj aks ?_
    refine tks 4 4 23 aj aks ?_
    refine tks 5 5 24 aj aks ?_
    refine tks 6 6 25 aj aks ?_
    refine cls 7 7 aj (by decide) rfl rfl (fun K hK=>?_)
    go_simp
    refine (Jp _ x _ (jC.out.below DR) hsx).mono ?_
    rintro e w4 ⟨u,rfl,⟨cs,hcs,hE⟩,B4⟩
    subst hcs
    obtain ⟨o0,iy,jD,o1,iA,jE,o2,iB,jF,rfl⟩:=JH hE
    have D4:Below wr.heap.size wr w4:=Below.step DR B4
    have P7:Hid (dh w4 [.slice o0 iy jD,.int .i64 x.valid,.int .i64 x.next,.int .i64 x.seq,.slice o1 iA jE,.slice o2 iB jF,.int .i64 x.lost] x (In wr.heap.size w4.heap.size)):=hE
    have P8:=ak (ay D4 HX.out)
    have P9:=ak (ay D4 bU.out)
    have dW:=ak (ay D4 aO.out)
    have lH:Hid (Below w.heap.size w w4):=Below.step HB.out D4
    have Qa:Hid (vX w4 (w.heap.size+2) wc.heap.size (.slice ga gn gc) a.seen):=bE.below HG.out D4
    have lG:Hid (xV w4 wc.heap.size wr.heap.size (.slice va vn vc) (a.boxes.take k)):=bE.below HO.out D4
    have hs4:wr.heap.size≤w4.heap.size:=D4.size
    clear hE B4 HX bU aO HB HG HO
    refine hK.out _ _ (HS.out _ D4) (fun aks=>?_)
    clear hK K
    refine cls 8 8 aj (by decide) rfl rfl (fun K hK=>?_)
    go_simp
    have AB:Below w4.heap.size w4 (w4.alloc (.cells #[.slice o0 iy jD,.int .i64 x.valid,.int .i64 x.next,.int .i64 x.seq,.slice o1 iA jE,.slice o2 iB jF,.int .i64 x.lost] 37)):=bn _ _
    refine hK.out _ _ (HS.out _ (Below.step D4 AB)) (fun aks=>?_)
    clear hK K
    refine cls 9 9 aj (by decide) rfl rfl (fun K hK=>?_)
    have hMs:wr.heap.size≤(w4.alloc (.cells #[.slice o0 iy jD,.int .i64 x.valid,.int .i64 x.next,.int .i64 x.seq,.slice o1 iA jE,.slice o2 iB jF,.int .i64 x.lost] 37)).heap.size:=by simp;omega
    have lM:dh (w4.alloc (.cells #[.slice o0 iy jD,.int .i64 x.valid,.int .i64 x.next,.int .i64 x.seq,.slice o1 iA jE,.slice o2 iB jF,.int .i64 x.lost] 37)) [.slice o0 iy jD,.int .i64 x.valid,.int .i64 x.next,.int .i64 x.seq,.slice o1 iA jE,.slice o2 iB jF,.int .i64 x.lost] x (In wr.heap.size (w4.alloc (.cells #[.slice o0 iy jD,.int .i64 x.valid,.int .i64 x.next,.int .i64 x.seq,.slice o1 iA jE,.slice o2 iB jF,.int .i64 x.lost] 37)).heap.size):=dh.wide (gq _ _ _ _ _ P7.out fun b _ hlt=>AB.block b hlt) (fun y hy=>⟨hy.1,by have:=hy.2;simp;omega⟩)
    have htk:(a.boxes.take k).length=k:=by simp;omega
    have hp1:(a.boxes.take k).length+1≤maxLen:=by unfold maxLen;omega
    have hp2:((a.boxes.take k).length+1) * 104≤140737488355328:=by omega
    refine dO (by kernel_rfl) (Bd 28 rfl (.tmp 20) (.tmp 27) rfl gq (B:=wc.heap.size) (M:=wr.heap.size) (bE.below lG.out AB) hMs hs Tryz.underlying31 hi hz0 hz1 hz2 rfl (by omega) rfl x [.slice o0 iy jD,.int .i64 x.valid,.int .i64 x.next,.int .i64 x.seq,.slice o1 iA jE,.slice o2 iB jF,.int .i64 x.lost] rfl lM ⟨w4.heap.size,0,none⟩ 1 rfl (mO w4 _ _) YS hp1 hp2 ?_)
    intro DV wz hO hgz eO
    obtain ⟨da,dn,dc,mX⟩:=bE.aG hO
    subst mX
    clear htk
    have hge:∀ j,(Value.slice va vn vc).ownBlock=some j→wc.heap.size≤j:=fun j hj=>(eO j hj).1
    have KX:=lF hgz hge (ay AB P8.out) (by omega)
    have nW:=ak (lF hgz hge (ay AB P9.out) (by omega))
    have nX:=ak (lF hgz hge (ay AB dW.out) (by omega))
    have fO:Hid (Below w.heap.size w wz):=rX (Below.step lH.out AB) hgz hge (by omega) (by have:=AB.size;omega)
    have BQ:Hid (vX wz (w.heap.size+2) wc.heap.size (.slice ga gn gc) a.seen):=bE.Jk (bE.below Qa.out AB) hgz hge
    have sz:w4.heap.size+1≤wz.heap.size:=by have:=hgz.size;simpa using this
    obtain ⟨zx,zl⟩:=bR KX
    obtain ⟨d0,d1,d2⟩:=bD KX
    refine hK.out _ _ (⟨⟨d1,(bD nW.out).2.1⟩,cell_later fO.out e0,cell_later fO.out e1,cell_later fO.out e2,cell_later fO.out e3,cell_later fO.out e4,cell_later fO.out e5,cell_later fO.out e6⟩) (fun aks=>?_)
    clear hK K
    refine gL (S':=fun w'=>True) 10 12 aj (by decide) (trivial) (fun aks=>?_)
    refine tks 10 10 29 aj aks ?_
    refine cls 11 11 aj (by decide) rfl rfl (fun K hK=>?_)
    go_simp
    refine hK.out _ _ (trivial) (fun aks=>?_)
    clear hK K
    refine eG aj ?_
    have uL:Hid ((wz.setCell ⟨bx,1,none⟩ (.slice da dn dc)).heap[bx]?=some (.cells #[.int .i64 a.valid,.slice da dn dc,.slice ga gn gc] 33 (0,0))):=aP KX
    have yA:=ak (bP (k:=bx) (i:=1) (v:=.slice da dn dc) nW.out (by omega))
    have qp:=ak (bP (k:=bx) (i:=1) (v:=.slice da dn dc) nX.out (by omega))
    have oP:Hid (Below w.heap.size w (wz.setCell ⟨bx,1,none⟩ (.slice da dn dc))):=fO.out.setCell (p:=⟨bx,1,none⟩) (show w.heap.size≤bx by omega) _
    have Ju:Hid (vX (wz.setCell ⟨bx,1,none⟩ (.slice da dn dc)) (w.heap.size+2) wc.heap.size (.slice ga gn gc) a.seen):=P6 BQ.out (fun k hk=>Below.heap_setCell _ _ _ _ (show k≠bx from fun e=>by subst e;exact kN KX hk (by decide)))
    have oQ:Hid (xV (wz.setCell ⟨bx,1,none⟩ (.slice da dn dc)) wc.heap.size (wz.setCell ⟨bx,1,none⟩ (.slice da dn dc)).heap.size (.slice da dn dc) (a.boxes.take (k+1))):=by show xV _ _ _ _ _;rw [aZ,yu lK.out];exact bE.set hO (.inl (by omega))
    have qw:wc.heap.size≤(wz.setCell ⟨bx,1,none⟩ (.slice da dn dc)).heap.size:=by rw [aZ];omega
    clear KX nW nX fO BQ P8 P9 dW lH Qa lG P7 lM hO hgz eO hge AB D4 DR HS jC e0 e1 e2 e3 e4 e5 e6
    go_wp2
    go_roundw
    case rel=>exact ⟨k+1,da,dn,dc,by omega,by go_num,oP,yA,qp,uL,Ju,qw,oQ⟩
    case measure=>simp [intOf];omega
   ·obtain rfl:k=a.boxes.length:=by omega
    obtain ⟨r0,r1,r2⟩:=bD aO.out
    obtain ⟨rz,rl⟩:=bR aO.out
    have Jv:Hid (Below w.heap.size w (((wr.setCell ⟨w.heap.size+1,0,none⟩ (.int .i64 a.valid)).setCell ⟨w.heap.size+1,1,none⟩ (.slice va vn vc)).setCell ⟨w.heap.size+1,2,none⟩ (.slice ga gn gc))):=(((HB.out.setCell (p:=⟨w.heap.size+1,0,none⟩) (by simp) (.int .i64 a.valid)).setCell (p:=⟨w.heap.size+1,1,none⟩) (by simp) (.slice va vn vc)).setCell (p:=⟨w.heap.size+1,2,none⟩) (by simp) (.slice ga gn gc))
    have Jw:Hid (vX (((wr.setCell ⟨w.heap.size+1,0,none⟩ (.int .i64 a.valid)).setCell ⟨w.heap.size+1,1,none⟩ (.slice va vn vc)).setCell ⟨w.heap.size+1,2,none⟩ (.slice ga gn gc)) (w.heap.size+2) wc.heap.size (.slice ga gn gc) a.seen):=(bE.set (i:=2) (x:=.slice ga gn gc) (bE.set (i:=1) (x:=.slice va vn vc) (bE.set (i:=0) (x:=.int .i64 a.valid) HG.out (.inl (by omega))) (.inl (by omega))) (.inl (by omega)))
    have Jy:Hid (xV (((wr.setCell ⟨w.heap.size+1,0,none⟩ (.int .i64 a.valid)).setCell ⟨w.heap.size+1,1,none⟩ (.slice va vn vc)).setCell ⟨w.heap.size+1,2,none⟩ (.slice ga gn gc)) wc.heap.size wr.heap.size (.slice va vn vc) a.boxes):=by
      have h:xV wr wc.heap.size wr.heap.size (.slice va vn vc) a.boxes:=by have:=HO.out;rwa [List.take_length] at this
      exact (bE.set (i:=2) (x:=.slice ga gn gc) (bE.set (i:=1) (x:=.slice va vn vc) (bE.set (i:=0) (x:=.int .i64 a.valid) h (.inl (by omega))) (.inl (by omega))) (.inl (by omega)))
    have KF:=(aP (i:=2) (v:=.slice ga gn gc) (aP (i:=1) (v:=.slice va vn vc) (aP (i:=0) (v:=.int .i64 a.valid) aO.out)))
    obtain ⟨f0,f1,f2⟩:=bD KF
    have zU:Hid ((((wr.setCell ⟨w.heap.size+1,0,none⟩ (.int .i64 a.valid)).setCell ⟨w.heap.size+1,1,none⟩ (.slice va vn vc)).setCell ⟨w.heap.size+1,2,none⟩ (.slice ga gn gc)).heap.size=wr.heap.size):=by show _=_;simp only [aZ]
    clear KF
    go_wp2
    refine bodyPost_ret (v:=.agg #[.int .i64 a.valid,.slice va vn vc,.slice ga gn gc]) (by simp [results,Tryz.results23,go_sem,f0,f1,f2]) rfl ⟨_,rfl,?_,Jv.out⟩
    exact ⟨_,_,In wc.heap.size wr.heap.size,In (w.heap.size+2) wc.heap.size,rfl,Jy.out,Jw.out,(fun x hx=>⟨⟨by have:=hx.1;omega,by have:=hx.2;rw [zU.out];omega⟩,fun h=>by have:=hx.1;have:=h.2;omega⟩),(fun x hx=>⟨by have:=hx.1;omega,by have:=hx.2;rw [zU.out];omega⟩),wB.out⟩
/- Fj of a list of the call's own whose texts lie in memory that was there. -/
theorem F4 {i j:Int}:∀ u ∈ [Value.int .i64 i,.int .i64 j],Value.oneCell' u=true:=by
 intro u hu
 simp only [List.mem_cons,List.not_mem_nil,or_false] at hu
 rcases hu with rfl | rfl <;> rfl
/-- Fj whose texts lie where they lay in w. -/
def F5 (w:World) (_:World) (c:List Value) (m:aF) (_:Nat→Prop):Prop:=zH w c m
theorem Cc (w:World):Frames (F5 w):=fun _ _ _ _ _ h _=>h
def mZ (w:World) (wr:World) (B T:Nat) (v:Value) (l:List aF):Prop:=Ow 124 4 (F5 w) wr (In B T) v l
theorem mZ.v {w wr:World} {B T:Nat} {v:Value} {l:List aF} (h:mZ w wr B T v l) (hb:Below w.heap.size w wr):bY wr v l:=by
 rcases h with ⟨rfl,rfl⟩ | ⟨g,cap,cur,cs,fs,hv,hh,h1,h2,h3,h4,h5,h6,h7⟩
 ·exact Rd.nil wr
 ·refine ⟨some ⟨g,0,none⟩,cap,cs,hv,h1,h2,(fun h=>by cases h),fun i x hx=>⟨eU _ _ _ _ hb (h5 i x hx).1,(h5 i x hx).2.1⟩,fun hp=>⟨g,0,rfl,lt_of_heap hh,fun i j u hi hu=>?_⟩⟩
  rw [Nat.zero_add,cell_of_row wr g _ cur _ (0,0) hh]
  exact (h5 i l[i] (aK hi)).2.2 j u hu
theorem Qb {w wr:World} {B T g i:Nat} {v x:Value} {l:List aF} (h:mZ w wr B T v l) (hd:g < B∨T≤g):mZ w (wr.setCell ⟨g,i,none⟩ x) B T v l :=
 Ow.frame (Cc w) h fun b hb _=>Below.heap_setCell _ _ _ _ (show b≠g by have:=hb.1;have:=hb.2;omega)
theorem YW {w wr wr':World} {B T:Nat} {row:Option Nat} {v:Value} {l:List aF} (h:Ow 124 4 (F5 w) wr (In B T) v l) (hw:wr.grownBy wr' row) (hd:∀ j,row=some j→T≤j):mZ w wr' B T v l :=
 Ow.frame (Cc w) h fun b hb hlt=>hw.block b hlt fun e=>by have:=hd b e.symm;have:=hb.2;omega
theorem aI:aB 0:=⟨by decide,by decide⟩
theorem Qc:aB 4:=⟨by decide,by decide⟩
theorem ng (w:World):Bs w (.slice none 0 0) []:=(RO.nil w (fun _=>True)).bs
end Go.Proofs.YtlneebmlhblleaaGreat
