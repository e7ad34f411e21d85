/- The proof's texts, part 6. -/
import Derived.Test.YtmglhdkeidhafaaGreatT5
import Derived.Deep.DeepCutAuto
namespace Go.Proofs.YtmglhdkeidhafaaGreat
open Go.RowKit
set_option linter.unusedVariables false
set_option linter.unusedSimpArgs false
set_option maxHeartbeats 8000000
set_option maxRecDepth 100000
/- What aeX of package spec does: a box is copied, with all that it leads to. -/
theorem tV.aG {α:Type} {t:TypeId} {sz:Nat} {E:World→List Value→α→(Nat→Prop)→Prop} {w:World} {S:Nat→Prop} {v:Value} {l:List α} (h:Ow t sz E w S v l):∃ a n cap,v=.slice a n cap:=by
 rcases h with ⟨rfl,_⟩ | ⟨g,cap,cur,cs,fs,hv,_⟩
 ·exact ⟨_,_,_,rfl⟩
 ·exact ⟨_,_,_,hv⟩
section
variable {w w' : World} {B sz n : Nat} {e t : TypeId} {v : Value} {xs : List Value} {g : Nat} {S : Nat → Prop}
/-- The block's cells bear a type. -/
def Ty (w:World) (g:Nat) (t:TypeId):Prop:=∃ cs fz,w.heap[g]?=some (.cells cs t fz)
theorem dO {cs:Array Value} {fz:Nat × Nat} (h:w.heap[g]?=some (.cells cs t fz)) (h2:Ty w g e) (hne:t≠e):False:=by
 obtain ⟨cs',fz',h3⟩:=h2
 rw [h] at h3
 simp only [Option.some.injEq,Obj.cells.injEq] at h3
 exact hne h3.2.1
theorem own_below (h:w.ownsRow B e sz v n xs) (hb:Below w.heap.size w w'):w'.ownsRow B e sz v n xs:=by
 refine ⟨h.1,?_⟩
 rcases h.2 with hn | ⟨g,cap,cur,hv,hg,hh,r⟩
 ·exact .inl hn
 ·exact .inr ⟨g,cap,cur,hv,hg,aB hb hh,r⟩
theorem rJ {a:Addr} {m c:Nat} (h:w.ownsRow B e sz (.slice (some a) m c) n xs):Ty w a.block e:=by
 rcases h.2 with ⟨hn,_⟩ | ⟨g,cap,cur,hv,hg,hh,r⟩
 ·cases hn
 ·simp only [Value.slice.injEq,Option.some.injEq] at hv
  rw [hv.1]
  exact ⟨_,_,hh⟩
theorem dP (h:w.ownsRow B e sz v n xs) {k:Nat} (hk:v.ownBlock=some k):B≤k:=by
 rcases h.2 with ⟨hn,_⟩ | ⟨g,cap,cur,hv,hg,hh,r⟩
 ·rw [hn] at hk;simp [Value.ownBlock] at hk
 ·rw [hv] at hk;simp only [Value.ownBlock,Option.some.injEq] at hk;omega
theorem vB (h:w.ownsRow B e sz v n xs) (hg:w.grownBy w' (some g)) (ht:Ty w g t) (hne:e≠t):w'.ownsRow B e sz v n xs:=by
 refine ⟨h.1,?_⟩
 rcases h.2 with hn | ⟨k,cap,cur,hv,hk,hh,r⟩
 ·exact .inl hn
 ·exact .inr ⟨k,cap,cur,hv,hk,tT hg hh (fun e2=>by subst e2;exact dO hh ht hne),r⟩
theorem Ef {cs:Array Value} {fz:Nat × Nat} {k:Nat} (hg:w.grownBy w' (some g)) (h:w.heap[k]?=some (.cells cs e fz)) (ht:Ty w g t) (hne:e≠t):w'.heap[k]?=some (.cells cs e fz):=tT hg h (fun e2=>by subst e2;exact dO h ht hne)
theorem jP {l:List Int} (h:RO w S v l) (hw:∀ k,Ty w k 5→w'.heap[k]?=w.heap[k]?):RO w' S v l:=by
 refine ⟨h.1,⟨h.2.1.1,?_⟩,h.2.2⟩
 rcases h.2.1.2 with hn | ⟨k,cap,cur,hv,hk,hh,r⟩
 ·exact .inl hn
 ·exact .inr ⟨k,cap,cur,hv,hk,(hw k ⟨_,_,hh⟩).trans hh,r⟩
theorem Vp {l:List Int} (h:RO w S v l) (hg:w.grownBy w' (some g)) (ht:Ty w g t) (hne:5≠t):RO w' S v l :=
 ⟨h.1,vB h.2.1 hg ht hne,h.2.2⟩
theorem Ni {l:List bB} (h:iY w S v l) (hw:∀ k,Ty w k 70→w'.heap[k]?=w.heap[k]?):iY w' S v l:=by
 rcases h with h | ⟨k,cap,cur,cs,fs,hv,hh,r⟩
 ·exact .inl h
 ·exact .inr ⟨k,cap,cur,cs,fs,hv,(hw k ⟨_,_,hh⟩).trans hh,r⟩
theorem Vq {l:List bB} (h:iY w S v l) (hg:w.grownBy w' (some g)) (ht:Ty w g t) (hne:70≠t):iY w' S v l:=by
 rcases h with h | ⟨k,cap,cur,cs,fs,hv,hh,r⟩
 ·exact .inl h
 ·exact .inr ⟨k,cap,cur,cs,fs,hv,tT hg hh (fun e2=>by subst e2;exact dO hh ht hne),r⟩
theorem kK {w0:World} (h:Below w0.heap.size w0 w) (hg:w.grownBy w' (some g)) (h0:w0.heap.size≤g):Below w0.heap.size w0 w' :=
 ⟨hg.os.trans h.os,hg.tape.trans h.tape,hg.output.trans h.output,Nat.le_trans h.size hg.size,fun k hk=>(hg.block k (Nat.lt_of_lt_of_le hk h.size) fun e=>by simp only [Option.some.injEq] at e;omega).trans (h.block k hk)⟩
theorem Ht {l:List Int} {N:Nat} (h:RO w (fun k=>N≤k) v l):RO w (In N w.heap.size) v l:=by
 refine ⟨h.1,h.2.1,fun g hg=>⟨h.2.2 g hg,?_⟩⟩
 rcases h.2.1.2 with ⟨hn,_⟩ | ⟨k,cap,cur,hv,hk,hh,r⟩
 ·rw [hn] at hg;simp [Value.ownBlock] at hg
 ·rw [hv] at hg;simp only [Value.ownBlock,Option.some.injEq] at hg;rw [← hg];exact lt_of_heap hh
theorem Vr {l:List bB} {N:Nat} (h:iY w (fun k=>N≤k) v l):lZ w N w.heap.size v l:=by
 rcases h with h | ⟨k,cap,cur,cs,fs,hv,hh,h1,h2,h3,h4,h5,h6,h7⟩
 ·exact .inl h
 ·exact .inr ⟨k,cap,cur,cs,fun _ _=>False,hv,hh,h1,h2,h3,⟨h4,lt_of_heap hh⟩,fun i x hx=>⟨(h5 i x hx).1,(h5 i x hx).2⟩,by simp,by simp⟩
theorem Vs {l:List Int} {N M:Nat} (h:RO w (In N M) v l) (hg:w.grownBy w' (some g)) (hd:g < N∨M≤g):RO w' (In N M) v l :=
 h.frame fun b hb hlt=>hg.block b hlt fun e=>by have:=hb.1;have:=hb.2;simp only [Option.some.injEq] at e;omega
theorem tX {l:List Int} {N M i:Nat} {x:Value} (h:RO w (In N M) v l) (hd:g < N∨M≤g):RO (w.setCell ⟨g,i,none⟩ x) (In N M) v l :=
 h.frame fun b hb _=>Below.heap_setCell _ _ _ _ (show b≠g by have:=hb.1;have:=hb.2;omega)
theorem Vt {l:List Int} {N M:Nat} {row:Option Nat} (h:RO w (In N M) v l) (hg:w.grownBy w' row) (hd:∀ j,row=some j→M≤j):RO w' (In N M) v l :=
 h.frame fun b hb hlt=>hg.block b hlt fun e=>by have:=hd b e.symm;have:=hb.2;omega
theorem Vu {l:List Int} (h:RO w S v l):RO w (fun k=>S k∧v.ownBlock=some k) v l:=⟨h.1,h.2.1,fun g hg=>⟨h.2.2 g hg,hg⟩⟩
theorem Vv {l:List Int} {k:Nat} (h:RO w S v l) (hk:v.ownBlock=some k):Ty w k 5:=by
 rcases h.2.1.2 with ⟨hn,_⟩ | ⟨g,cap,cur,hv,_,hh,r⟩
 ·rw [hn] at hk;simp [Value.ownBlock] at hk
 ·rw [hv] at hk;simp only [Value.ownBlock,Option.some.injEq] at hk;rw [← hk];exact ⟨_,_,hh⟩
theorem Vw {l:List bB} (h:iY w S v l):iY w (fun k=>S k∧Ty w k 70) v l:=by
 rcases h with h | ⟨k,cap,cur,cs,fs,hv,hh,h1,h2,h3,h4,h5,h6,h7⟩
 ·exact .inl h
 ·exact .inr ⟨k,cap,cur,cs,fun _ _=>False,hv,hh,h1,h2,h3,⟨h4,_,_,hh⟩,fun i x hx=>⟨(h5 i x hx).1,(h5 i x hx).2⟩,by simp,by simp⟩
end
theorem AR {a:Option Addr} {n c:Nat} {i j k:Int}:∀ u ∈ [Value.int .i64 i,.int .i64 j,.int .i64 k,.slice a n c],Value.oneCell' u=true:=by
 intro u hu
 simp only [List.mem_cons,List.not_mem_nil,or_false] at hu
 rcases hu with rfl | rfl | rfl | rfl <;> rfl
theorem ak {p:Prop} (h:p):Hid p:=h
theorem yV {α:Type} {l:List α} {k:Nat} {x:α} (h:l[k]?=some x):l.take (k+1)=l.take k ++ [x]:=by
 rw [List.take_add_one,h];rfl
theorem Nj (v:Value) (b:aA) (w:World) (hv:bI w v b) (hs:bT b≤2000000) :
  Calls Tryz.prog 94 #[v] w fun e w'=>∃ u,e=.returned u∧xk w' (In w.heap.size w'.heap.size) u b∧Below w.heap.size w w':=by
 have HV:Hid (∀ wi,Below w.heap.size w wi→bI wi v b):=fun wi h=>hv.below h
 obtain ⟨u0,u1,u2,rfl,g0,g1,g2,hint⟩:=hv
 have yX:Hid (ay b.valid∧ay b.next∧ay b.seq∧ay b.lost):=hint
 have Vx:Hid (Oct b.name):=g0.1
 have Vy:Hid (∀ wi,Below w.heap.size w wi→Bs wi u0 b.name):=fun wi h=>g0.below h
 have Vz:Hid (∀ wi,Below w.heap.size w wi→eT wi u1 b.ah):=fun wi h=>g1.below iG h
 have VA:Hid (∀ wi,Below w.heap.size w wi→dD wi u2 b.au):=fun wi h=>g2.below gU h
 have hsz:b.name.length≤2000000∧iB b.ah≤2000000∧b.au.length≤2000000:=by unfold bT at hs;omega
 obtain ⟨a0,eU,eX,rfl⟩:=g0.aG
 obtain ⟨a1,jI,rfl,hml,-⟩:=g1.form
 obtain ⟨a2,iT,rfl,-⟩:=g2.form
 obtain ⟨i0,hi,hz0,hz1,hz2⟩:=info_parts info5
 obtain ⟨i1,hj,hy0,hy1,hy2⟩:=info_parts yS
 obtain ⟨i2,hq,hv0,hv1,hv2⟩:=info_parts AJ
 have VB:b.ah.length≤2000000:=by have:=lF b.ah;omega
 have hl1:b.name.length≤maxLen:=by unfold maxLen;omega
 have hl2:b.name.length * 1≤140737488355328:=by omega
 have hl3:b.au.length≤maxLen:=by unfold maxLen;omega
 have hl4:b.au.length * 16≤140737488355328:=by omega
 obtain ⟨kA,kR,X⟩:=iX w (.cells #[.slice a0 eU eX,.int .i64 b.valid,.int .i64 b.next,.int .i64 b.seq,.slice a1 b.ah.length jI,.slice a2 b.au.length iT,.int .i64 b.lost] 34) (.cells #[.slice none 0 0,.int .i64 0,.int .i64 0,.int .i64 0,.slice none 0 0,.slice none 0 0,.int .i64 0] 34)
 have HX:Hid _:=X
 have fT:Hid _:=kA
 have aQ:Hid _:=kR
 have hs0:((w.alloc (.cells #[.slice a0 eU eX,.int .i64 b.valid,.int .i64 b.next,.int .i64 b.seq,.slice a1 b.ah.length jI,.slice a2 b.au.length iT,.int .i64 b.lost] 34)).alloc (.cells #[.slice none 0 0,.int .i64 0,.int .i64 0,.int .i64 0,.slice none 0 0,.slice none 0 0,.int .i64 0] 34)).heap.size=w.heap.size+2:=by simp
 have qB:Hid _:=hs0
 clear g0 g1 g2 hint X kA kR hs0 hs
 go_enter Tryz.func94,Tryz.ntmps94
 go_upto_region 1 with fail
 generalize hw0:(w.alloc (.cells #[.slice a0 eU eX,.int .i64 b.valid,.int .i64 b.next,.int .i64 b.seq,.slice a1 b.ah.length jI,.slice a2 b.au.length iT,.int .i64 b.lost] 34)).alloc (.cells #[.slice none 0 0,.int .i64 0,.int .i64 0,.int .i64 0,.slice none 0 0,.slice none 0 0,.int .i64 0] 34)=w0 at *
 clear hw0
 obtain ⟨N,hNe⟩:∃ N,N=w.heap.size+2:=⟨_,rfl⟩
 have rM:Hid (N=w.heap.size+2):=hNe
 clear hNe
 go_cut [3] (fun s wx=>∃ bx na nn nc ga gn gc,s=.pointer (some ⟨bx,0,none⟩)∧Hid (wx.heap[bx]?=some (.cells #[.slice na nn nc,.int .i64 b.valid,.int .i64 b.next,.int .i64 b.seq,.slice none 0 0,.slice ga gn gc,.int .i64 b.lost] 34 (0,0)))∧Hid (RO wx (fun k=>N≤k) (.slice na nn nc) b.name)∧Hid (iY wx (fun k=>N≤k) (.slice ga gn gc) b.au)∧N≤bx∧Hid (Below w0.heap.size w0 wx))
 case first =>
  have HS:Hid (∀ w',Below w0.heap.size w0 w'→w'.cell? ⟨w.heap.size,0,none⟩=some (.slice a0 eU eX)∧w'.cell? ⟨w.heap.size,1,none⟩=some (.int .i64 b.valid)∧w'.cell? ⟨w.heap.size,2,none⟩=some (.int .i64 b.next)∧w'.cell? ⟨w.heap.size,3,none⟩=some (.int .i64 b.seq)∧w'.cell? ⟨w.heap.size,5,none⟩=some (.slice a2 b.au.length iT)∧w'.cell? ⟨w.heap.size,6,none⟩=some (.int .i64 b.lost)):=fun w' h=>by
   obtain ⟨c0,c1,c2,c3,c4,c5,c6⟩:=bU (aB h fT.out)
   exact ⟨c0,c1,c2,c3,c5,c6⟩
  have lH:Hid (∀ w',Below w0.heap.size w0 w'→Bs w' (.slice a0 eU eX) b.name):=fun w' h=>Vy.out w' (Below.step HX.out h)
  have Eh:Hid (∀ w',Below w0.heap.size w0 w'→dD w' (.slice a2 b.au.length iT) b.au):=fun w' h=>VA.out w' (Below.step HX.out h)
  have hN0:N≤w0.drew.heap.size:=by have:=qB.out;have:=rM.out;show N≤w0.heap.size;omega
  have D0:Hid (Below w0.heap.size w0 w0.drew):=(bd _ _)
  clear qB rM
  refine wp_region_held_drew (S:=fun w'=>w'.cell? ⟨w.heap.size,0,none⟩=some (.slice a0 eU eX)∧w'.cell? ⟨w.heap.size,1,none⟩=some (.int .i64 b.valid)∧w'.cell? ⟨w.heap.size,2,none⟩=some (.int .i64 b.next)∧w'.cell? ⟨w.heap.size,3,none⟩=some (.int .i64 b.seq)∧w'.cell? ⟨w.heap.size,5,none⟩=some (.slice a2 b.au.length iT)∧w'.cell? ⟨w.heap.size,6,none⟩=some (.int .i64 b.lost)) (by kernel_rfl) (HS.out _ D0.out) (fun ahz=>(show wpAnyH _ _ _ _ _ 19 #[false,false,false,false,false,false,false,false,false,false,false,false,false,false,false,false,false,false,false] _ _ from ?_))
  refine tq 1 7 ahz ?_
  refine tq 2 8 ahz ?_
  refine tq 4 10 ahz ?_
  refine tq 5 11 ahz ?_
  refine tq 6 12 ahz ?_
  refine tq 7 13 ahz ?_
  refine tq 8 14 ahz ?_
  refine tq 9 15 ahz ?_
  refine tq 11 17 ahz ?_
  refine tq 12 18 ahz ?_
  refine tq 14 20 ahz ?_
  refine tq 15 21 ahz ?_
  generalize w0.drew=x at *
  have hN:=hN0
  have D:=D0
  clear hN0 D0
  repeat' (first
   | exact AllReadyH.nil
   | refine AllReadyH.cons rfl (fun K hK=>?_) ?_
   | refine tq 16 22 ahz ?_
   | refine wpAnyH_ready (rs:=[0,10,17]) (by decide +kernel) (by simp) ?_
   | refine wpAnyH_ready (rs:=[3,10,17]) (by decide +kernel) (by simp) ?_
   | refine wpAnyH_ready (rs:=[10,17]) (by decide +kernel) (by simp) ?_
   | refine wpAnyH_ready (rs:=[0,17]) (by decide +kernel) (by simp) ?_
   | refine wpAnyH_ready (rs:=[0,10]) (by decide +kernel) (by simp) ?_
   | refine wpAnyH_ready (rs:=[3,17]) (by decide +kernel) (by simp) ?_
   | refine wpAnyH_ready (rs:=[3,10]) (by decide +kernel) (by simp) ?_
   | refine wpAnyH_ready (rs:=[13,17]) (by decide +kernel) (by simp) ?_
   | refine wpAnyH_ready (rs:=[17]) (by decide +kernel) (by simp) ?_
   | refine wpAnyH_ready (rs:=[10]) (by decide +kernel) (by simp) ?_
   | refine wpAnyH_ready (rs:=[3]) (by decide +kernel) (by simp) ?_
   | refine wpAnyH_ready (rs:=[0]) (by decide +kernel) (by simp) ?_
   | refine wpAnyH_ready (rs:=[13]) (by decide +kernel) (by simp) ?_
   | refine wpAnyH_ready (rs:=[18]) (by decide +kernel) (by simp) ?_
   | (
     refine dR (by kernel_rfl) (jX (B:=N) 9 rfl (.tmp 6) (.tmp 8) rfl tY.out (Bs.rF (lH.out _ D.out)) (one_byte _) Tryz.underlying22 hi hz0 hz1 hz2 rfl (by omega) rfl rfl hl1 hl2 hN ?_)
     intro V y xs hO hX hG hB
     have hG':x.grownBy y (some e0):=hG
     have KE:=rJ tY.out
     try replace tZ:Hid _:=vB tZ.out hG' KE (by decide)
     try replace uf:Hid _:=Vq uf.out hG' KE (by decide)
     try replace nX:Hid _:=Ef hG' nX.out KE (by decide)
     replace D:Hid (Below w0.heap.size w0 y):=kK D.out hG' he0
     replace hN:N≤y.heap.size:=Nat.le_trans hN hG'.size
     have hR:RO y (fun k=>N≤k) V b.name:=rG Vx.out hO hX (fun g hg=>dP hO hg)
     obtain ⟨na,nn,nc,hV⟩:=hR.bs.aG
     subst hV
     have ug:Hid (RO y (fun k=>N≤k) (.slice na nn nc) b.name):=hR
     refine hK.out _ _ (HS.out _ D.out) (fun ahz=>?_)
     clear hK K hO hX hG hG' hB KE hR tY
     conv=>arg 8;simp only [Act.put,sA,s0,sS]
     generalize y=x at *)
   | (
     refine dR (by kernel_rfl) (jX (B:=N) 19 rfl (.tmp 16) (.tmp 18) rfl tZ.out (Eh.out _ D.out) (AO _) Tryz.underlying32 hj hy0 hy1 hy2 rfl (by omega) rfl rfl hl3 hl4 hN ?_)
     intro V y xs hO hX hG hB
     have hG':x.grownBy y (some e1):=hG
     have KE:=rJ tZ.out
     try replace tY:Hid _:=vB tY.out hG' KE (by decide)
     try replace ug:Hid _:=Vp ug.out hG' KE (by decide)
     try replace nX:Hid _:=Ef hG' nX.out KE (by decide)
     replace D:Hid (Below w0.heap.size w0 y):=kK D.out hG' he1
     replace hN:N≤y.heap.size:=Nat.le_trans hN hG'.size
     have hR:iY y (fun k=>N≤k) V b.au:=Ed hO hX (fun g hg=>dP hO hg)
     obtain ⟨ga,gn,gc,hV⟩:=tV.aG hR
     subst hV
     have uf:Hid (iY y (fun k=>N≤k) (.slice ga gn gc) b.au):=hR
     refine hK.out _ _ (HS.out _ D.out) (fun ahz=>?_)
     clear hK K hO hX hG hG' hB KE hR tZ
     conv=>arg 8;simp only [Act.put,sA,s0,sS]
     generalize y=x at *)
   | (
     go_simp
     have AB:Below x.heap.size x (x.alloc (.cells #[] 5)):=bn _ _
     have he0:=D.out.size
     have ne0:=hN
     have tY:Hid _:=kJ x 5 1 N hN
     try replace tZ:Hid _:=own_below tZ.out AB
     try replace ug:Hid _:=RO.below ug.out AB
     try replace uf:Hid _:=Ow.below nT uf.out AB
     try replace nX:Hid _:=aB AB nX.out
     replace D:Hid (Below w0.heap.size w0 (x.alloc (.cells #[] 5))):=Below.step D.out AB
     replace hN:N≤(x.alloc (.cells #[] 5)).heap.size:=Nat.le_trans hN AB.size
     refine hK.out _ (x.alloc (.cells #[] 5)) (HS.out _ D.out) (fun ahz=>?_)
     clear hK K AB
     generalize x.heap.size=e0 at *
     generalize hw:x.alloc (.cells #[] 5)=x at *
     clear hw)
   | (
     go_simp
     have AB:Below x.heap.size x (x.alloc (.cells #[] 70)):=bn _ _
     have he1:=D.out.size
     have ne1:=hN
     have tZ:Hid _:=kJ x 70 2 N hN
     try replace tY:Hid _:=own_below tY.out AB
     try replace ug:Hid _:=RO.below ug.out AB
     try replace uf:Hid _:=Ow.below nT uf.out AB
     try replace nX:Hid _:=aB AB nX.out
     replace D:Hid (Below w0.heap.size w0 (x.alloc (.cells #[] 70))):=Below.step D.out AB
     replace hN:N≤(x.alloc (.cells #[] 70)).heap.size:=Nat.le_trans hN AB.size
     refine hK.out _ (x.alloc (.cells #[] 70)) (HS.out _ D.out) (fun ahz=>?_)
     clear hK K AB
     generalize x.heap.size=e1 at *
     generalize hw:x.alloc (.cells #[] 70)=x at *
     clear hw)
   | (
     go_simp
     have AB:Below x.heap.size x (x.alloc (.cells #[.slice none 0 0,.int .i64 0,.int .i64 0,.int .i64 0,.slice none 0 0,.slice none 0 0,.int .i64 0] 34)):=bn _ _
     have hbx:=D.out.size
     have VD:=hN
     have nX:Hid ((x.alloc (.cells #[.slice none 0 0,.int .i64 0,.int .i64 0,.int .i64 0,.slice none 0 0,.slice none 0 0,.int .i64 0] 34)).heap[x.heap.size]?=some (.cells #[.slice none 0 0,.int .i64 0,.int .i64 0,.int .i64 0,.slice none 0 0,.slice none 0 0,.int .i64 0] 34 (0,0))):=aW x _
     try replace tY:Hid _:=own_below tY.out AB
     try replace tZ:Hid _:=own_below tZ.out AB
     try replace ug:Hid _:=RO.below ug.out AB
     try replace uf:Hid _:=Ow.below nT uf.out AB
     replace D:Hid (Below w0.heap.size w0 (x.alloc (.cells #[.slice none 0 0,.int .i64 0,.int .i64 0,.int .i64 0,.slice none 0 0,.slice none 0 0,.int .i64 0] 34))):=Below.step D.out AB
     replace hN:N≤(x.alloc (.cells #[.slice none 0 0,.int .i64 0,.int .i64 0,.int .i64 0,.slice none 0 0,.slice none 0 0,.int .i64 0] 34)).heap.size:=Nat.le_trans hN AB.size
     refine hK.out _ (x.alloc (.cells #[.slice none 0 0,.int .i64 0,.int .i64 0,.int .i64 0,.slice none 0 0,.slice none 0 0,.int .i64 0] 34)) (HS.out _ D.out) (fun ahz=>?_)
     clear hK K AB
     generalize x.heap.size=bx at *
     generalize hw:x.alloc (.cells #[.slice none 0 0,.int .i64 0,.int .i64 0,.int .i64 0,.slice none 0 0,.slice none 0 0,.int .i64 0] 34)=x at *
     clear hw)
   | (
     obtain ⟨zx,zl⟩:=aZ nX.out
     obtain ⟨q0,q1,q2,q3,q4,q5,q6⟩:=bU nX.out
     have KF:=(aJ (i:=6) (v:=.int .i64 b.lost) (aJ (i:=5) (v:=.slice ga gn gc) (aJ (i:=4) (v:=.slice none 0 0) (aJ (i:=3) (v:=.int .i64 b.seq) (aJ (i:=2) (v:=.int .i64 b.next) (aJ (i:=1) (v:=.int .i64 b.valid) (aJ (i:=0) (v:=.slice na nn nc) nX.out)))))))
     have DF:=(((((((D.out.setCell (p:=⟨bx,0,none⟩) hbx (.slice na nn nc)).setCell (p:=⟨bx,1,none⟩) hbx (.int .i64 b.valid)).setCell (p:=⟨bx,2,none⟩) hbx (.int .i64 b.next)).setCell (p:=⟨bx,3,none⟩) hbx (.int .i64 b.seq)).setCell (p:=⟨bx,4,none⟩) hbx (.slice none 0 0)).setCell (p:=⟨bx,5,none⟩) hbx (.slice ga gn gc)).setCell (p:=⟨bx,6,none⟩) hbx (.int .i64 b.lost))
     obtain ⟨Z,hZ⟩:∃ Z,Z=(((((((x.setCell ⟨bx,0,none⟩ (.slice na nn nc)).setCell ⟨bx,1,none⟩ (.int .i64 b.valid)).setCell ⟨bx,2,none⟩ (.int .i64 b.next)).setCell ⟨bx,3,none⟩ (.int .i64 b.seq)).setCell ⟨bx,4,none⟩ (.slice none 0 0)).setCell ⟨bx,5,none⟩ (.slice ga gn gc)).setCell ⟨bx,6,none⟩ (.int .i64 b.lost)):=⟨_,rfl⟩
     rw [← hZ] at KF DF
     have hoth:∀ k,k≠bx→Z.heap[k]?=x.heap[k]?:=fun k hk=>by rw [hZ,Below.heap_setCell _ _ _ _ (show k≠bx from hk),Below.heap_setCell _ _ _ _ (show k≠bx from hk),Below.heap_setCell _ _ _ _ (show k≠bx from hk),Below.heap_setCell _ _ _ _ (show k≠bx from hk),Below.heap_setCell _ _ _ _ (show k≠bx from hk),Below.heap_setCell _ _ _ _ (show k≠bx from hk),Below.heap_setCell _ _ _ _ (show k≠bx from hk)]
     have RF:RO Z (fun k=>N≤k) (.slice na nn nc) b.name:=jP ug.out (fun k hk=>hoth k fun e=>by subst e;exact dO nX.out hk (by decide))
     have GF:iY Z (fun k=>N≤k) (.slice ga gn gc) b.au:=Ni uf.out (fun k hk=>hoth k fun e=>by subst e;exact dO nX.out hk (by decide))
     subst hZ
     go_simp
     refine hK.out _ _ (HS.out _ DF) (fun ahz=>?_)
     clear hK K
     refine wpAnyH_done (by kernel_rfl) ?_ _
     go_wp2
     go_meet
     case rel=>exact ⟨_,_,_,_,_,_,_,rfl,KF,RF,GF,VD,DF⟩))
 case rest =>
  obtain ⟨bx,na,nn,nc,ga,gn,gc,rfl,nY,AU,uh,hbx,HD⟩:=hcut
  have hs2:w0.heap.size=w.heap.size+2:=qB.out
  have hNe:=rM.out
  subst hNe
  have HB0:Hid (Below w.heap.size w wc):=Below.step HX.out HD.out
  have Nk:Hid (wc.heap[w.heap.size]?=some (.cells #[.slice a0 eU eX,.int .i64 b.valid,.int .i64 b.next,.int .i64 b.seq,.slice a1 b.ah.length jI,.slice a2 b.au.length iT,.int .i64 b.lost] 34 (0,0))):=aB HD.out fT.out
  have bX:Hid (wc.heap[w.heap.size+1]?=some (.cells #[.slice none 0 0,.int .i64 0,.int .i64 0,.int .i64 0,.slice none 0 0,.slice none 0 0,.int .i64 0] 34 (0,0))):=aB HD.out aQ.out
  have Nl:Hid (RO wc (In (w.heap.size+2) wc.heap.size) (.slice na nn nc) b.name):=Ht AU.out
  have Nn:Hid (lZ wc (w.heap.size+2) wc.heap.size (.slice ga gn gc) b.au):=Vr uh.out
  have hlx:=lt_of_heap nY.out
  have hwc:w.heap.size+2≤wc.heap.size:=by omega
  clear HD HX fT aQ AU uh qB rM hs2
  go_wp2
  go_loopw [4] (fun i wr=>∃ (k:Nat) (va:Option Addr) (vn vc:Nat),k≤b.ah.length∧i=.int .i64 k∧Hid (Below w.heap.size w wr)∧Hid (wr.heap[w.heap.size]?=some (.cells #[.slice a0 eU eX,.int .i64 b.valid,.int .i64 b.next,.int .i64 b.seq,.slice a1 b.ah.length jI,.slice a2 b.au.length iT,.int .i64 b.lost] 34 (0,0)))∧Hid (wr.heap[w.heap.size+1]?=some (.cells #[.slice none 0 0,.int .i64 0,.int .i64 0,.int .i64 0,.slice none 0 0,.slice none 0 0,.int .i64 0] 34 (0,0)))∧Hid (wr.heap[bx]?=some (.cells #[.slice na nn nc,.int .i64 b.valid,.int .i64 b.next,.int .i64 b.seq,.slice va vn vc,.slice ga gn gc,.int .i64 b.lost] 34 (0,0)))∧Hid (RO wr (In (w.heap.size+2) wc.heap.size) (.slice na nn nc) b.name)∧Hid (lZ wr (w.heap.size+2) wc.heap.size (.slice ga gn gc) b.au)∧wc.heap.size≤wr.heap.size∧Hid (vw wr wc.heap.size wr.heap.size (.slice va vn vc) (b.ah.take k))) (fun i _=>b.ah.length - (intOf i).toNat)
  case atStart=>exact ⟨0,none,0,0,Nat.zero_le _,rfl,HB0,Nk,bX,nY,Nl,Nn,Nat.le_refl _,.inl ⟨rfl,rfl⟩⟩
  case round =>
   obtain ⟨k,va,vn,vc,hk,rfl,HB,fT,aQ,HX,HN,HG,hs,HO⟩:=hrel
   clear HB0 Nk bX nY Nl Nn
   obtain ⟨c0,c1,c2,c3,c4,c5,c6⟩:=bU fT.out
   have lA:=lt_of_heap fT.out
   have lX:=lt_of_heap HX.out
   by_cases hlt:k < b.ah.length
   ·obtain ⟨m,hm⟩:∃ m,b.ah[k]?=some m:=⟨b.ah[k],aL hlt⟩
    have hmem:m ∈ b.ah:=List.mem_of_getElem? hm
    have hmt:m.text.length+1≤iB b.ah:=He hmem
    obtain ⟨bb,off,cp,t,hv',hlb,d0,d1,d2,d3,ht,hi3⟩:=eT.cell (Vz.out wr HB.out) k m hm
    simp only [Value.slice.injEq,true_and] at hv'
    obtain ⟨rfl,rfl⟩:=hv'
    have HT:Hid (Bs wr t m.text):=ht
    have HI3:Hid (ay m.uid∧ay m.flags∧ay m.seq):=hi3
    obtain ⟨ta,tn,tc,rfl⟩:=ht.aG
    have HM:Hid (b.ah[k]?=some m):=hm
    have hki:(k:Int) < b.ah.length:=by omega
    clear ht hi3 hm hmem
    go_upto_region 6 with fail
    have AB:Below wr.heap.size wr (wr.alloc (.cells #[.int .i64 m.uid,.int .i64 m.flags,.int .i64 m.seq,.slice ta tn tc] 72)):=bn _ _
    have KM:=aW wr (.cells #[.int .i64 m.uid,.int .i64 m.flags,.int .i64 m.seq,.slice ta tn tc] 72)
    have jr:Hid (Below w.heap.size w (wr.alloc (.cells #[.int .i64 m.uid,.int .i64 m.flags,.int .i64 m.seq,.slice ta tn tc] 72))):=Below.step HB.out AB
    have o9:Hid (Bs (wr.alloc (.cells #[.int .i64 m.uid,.int .i64 m.flags,.int .i64 m.seq,.slice ta tn tc] 72)) (.slice ta tn tc) m.text):=HT.out.below AB
    have Np:=ak (aB AB fT.out)
    have mX:=ak (aB AB aQ.out)
    have iC:=ak (aB AB HX.out)
    have Ei:Hid (RO (wr.alloc (.cells #[.int .i64 m.uid,.int .i64 m.flags,.int .i64 m.seq,.slice ta tn tc] 72)) (In (w.heap.size+2) wc.heap.size) (.slice na nn nc) b.name):=HN.out.below AB
    have AV:Hid (lZ (wr.alloc (.cells #[.int .i64 m.uid,.int .i64 m.flags,.int .i64 m.seq,.slice ta tn tc] 72)) (w.heap.size+2) wc.heap.size (.slice ga gn gc) b.au):=cZ.below HG.out AB
    have yY:Hid (vw (wr.alloc (.cells #[.int .i64 m.uid,.int .i64 m.flags,.int .i64 m.seq,.slice ta tn tc] 72)) wc.heap.size wr.heap.size (.slice va vn vc) (b.ah.take k)):=cZ.below HO.out AB
    have rO:Hid ((wr.alloc (.cells #[.int .i64 m.uid,.int .i64 m.flags,.int .i64 m.seq,.slice ta tn tc] 72)).heap.size=wr.heap.size+1):=by show _=_;simp
    generalize Ej:wr.alloc (.cells #[.int .i64 m.uid,.int .i64 m.flags,.int .i64 m.seq,.slice ta tn tc] 72)=w5 at *
    clear Ej AB HB HT fT aQ HX HN HG HO c0 c1 c2 c3 c4 c5 c6 d0 d1 d2 d3 lA lX hlb
    obtain ⟨m0,m1,m2,m3⟩:=iZ KM
    obtain ⟨mz,ml⟩:=aZ KM
    have h5:wr.heap.size+1≤w5.heap.size:=by have:=rO.out;omega
    have AE:Below w5.heap.size w5 (w5.alloc (.cells #[] 5)):=bn _ _
    have hE:=kJ w5 5 1 w5.heap.size (Nat.le_refl _)
    have Nq:=Bs.rF (o9.out.below AE)
    have ht1:m.text.length≤maxLen:=by unfold maxLen;omega
    have ht2:m.text.length * 1≤140737488355328:=by omega
    have Nr:w5.heap.size≤(w5.alloc (.cells #[] 5)).heap.size:=AE.size
    go_wp2_with (at_builtin;refine Nb (B:=w5.heap.size) rfl (.tmp 35) (.tmp 37) rfl hE Nq (one_byte _) Tryz.underlying22 hi hz0 hz1 hz2 rfl (by omega) rfl rfl ht1 ht2 Nr ?_)
    intro TV w6 xs iI rP fJ kL
    have rQ:(w5.alloc (.cells #[] 5)).grownBy w6 (some w5.heap.size):=fJ
    have vC:Hid (Below w.heap.size w w6):=kK (Below.step jr.out AE) rQ (by omega)
    have xu:=tT rQ (aB AE KM) (by omega)
    have Ns:=ak (tT rQ (aB AE Np.out) (by omega))
    have iU:=ak (tT rQ (aB AE mX.out) (by omega))
    have qC:=ak (tT rQ (aB AE iC.out) (by omega))
    have Nt:Hid (RO w6 (In (w.heap.size+2) wc.heap.size) (.slice na nn nc) b.name):=Vs (Ei.out.below AE) rQ (.inr (by omega))
    have El:Hid (lZ w6 (w.heap.size+2) wc.heap.size (.slice ga gn gc) b.au):=cZ.gr (cZ.below AV.out AE) rQ (.inr (by omega))
    have nZ:Hid (vw w6 wc.heap.size wr.heap.size (.slice va vn vc) (b.ah.take k)):=cZ.gr (cZ.below yY.out AE) rQ (.inr (by omega))
    have RT:RO w6 (fun k=>w5.heap.size≤k) TV m.text:=rG (w0:=w5.alloc (.cells #[] 5)) o9.out.1 iI (fun i x h=>by obtain ⟨c,h1,h2,h3⟩:=rP i x h;exact ⟨c,h1,h2,fun j y hy=>by rw [Nat.mul_one];exact h3 j y hy⟩) (fun g hg=>dP iI hg)
    obtain ⟨xa,xn,xc,VE⟩:=RT.bs.aG
    subst VE
    have Nu:Hid (RO w6 (In w5.heap.size w6.heap.size) (.slice xa xn xc) m.text):=Ht RT
    have h6:w5.heap.size≤w6.heap.size:=by have:=rQ.size;omega
    clear fJ rQ kL iI rP RT hE Nq AE m0 m1 m2 m3 mz ml KM jr o9 Np mX iC Ei AV yY Nr
    obtain ⟨m0,m1,m2,m3⟩:=iZ xu
    obtain ⟨mz,ml⟩:=aZ xu
    go_upto_region 7 with fail
    have Hu:(w6.setCell ⟨wr.heap.size,3,none⟩ (.slice xa xn xc)).heap[wr.heap.size]?=some (.cells #[.int .i64 m.uid,.int .i64 m.flags,.int .i64 m.seq,.slice xa xn xc] 72 (0,0)):=aJ xu
    have bY:Hid (Below w.heap.size w (w6.setCell ⟨wr.heap.size,3,none⟩ (.slice xa xn xc))):=vC.out.setCell (p:=⟨wr.heap.size,3,none⟩) (show w.heap.size≤wr.heap.size by omega) _
    have Nv:=ak (cO (k:=wr.heap.size) (i:=3) (v:=.slice xa xn xc) Ns.out (by omega))
    have qD:=ak (cO (k:=wr.heap.size) (i:=3) (v:=.slice xa xn xc) iU.out (by omega))
    have eZ:=ak (cO (k:=wr.heap.size) (i:=3) (v:=.slice xa xn xc) qC.out (by omega))
    have Nw:Hid (RO (w6.setCell ⟨wr.heap.size,3,none⟩ (.slice xa xn xc)) (In (w.heap.size+2) wc.heap.size) (.slice na nn nc) b.name):=tX Nt.out (.inr (by omega))
    have Ny:Hid (lZ (w6.setCell ⟨wr.heap.size,3,none⟩ (.slice xa xn xc)) (w.heap.size+2) wc.heap.size (.slice ga gn gc) b.au):=cZ.set El.out (.inr (by omega))
    have Nz:Hid (vw (w6.setCell ⟨wr.heap.size,3,none⟩ (.slice xa xn xc)) wc.heap.size wr.heap.size (.slice va vn vc) (b.ah.take k)):=cZ.set nZ.out (.inr (by omega))
    have NA:Hid (RO (w6.setCell ⟨wr.heap.size,3,none⟩ (.slice xa xn xc)) (In w5.heap.size w6.heap.size) (.slice xa xn xc) m.text):=tX Nu.out (.inl (by omega))
    have jv:Hid ((w6.setCell ⟨wr.heap.size,3,none⟩ (.slice xa xn xc)).heap.size=w6.heap.size):=bf
    clear m0 m1 m2 m3 mz ml xu vC Ns iU qC Nt El nZ Nu
    generalize hw7:w6.setCell ⟨wr.heap.size,3,none⟩ (.slice xa xn xc)=w7 at *
    clear hw7
    obtain ⟨m0,m1,m2,m3⟩:=iZ Hu
    have ml:=lt_of_heap Hu
    obtain ⟨y0,y1,y2,y3,y4,y5,y6⟩:=bU eZ.out
    have lX:=lt_of_heap eZ.out
    have AP:Below w7.heap.size w7 (w7.alloc (.cells #[.int .i64 m.uid,.int .i64 m.flags,.int .i64 m.seq,.slice xa xn xc] 72)):=bn _ _
    have hsp:(w7.alloc (.cells #[.int .i64 m.uid,.int .i64 m.flags,.int .i64 m.seq,.slice xa xn xc] 72)).heap.size=w7.heap.size+1:=by simp
    have HE:Hid (mQ (w7.alloc (.cells #[.int .i64 m.uid,.int .i64 m.flags,.int .i64 m.seq,.slice xa xn xc] 72)) [.int .i64 m.uid,.int .i64 m.flags,.int .i64 m.seq,.slice xa xn xc] m (In wr.heap.size (w7.alloc (.cells #[.int .i64 m.uid,.int .i64 m.flags,.int .i64 m.seq,.slice xa xn xc] 72)).heap.size)):=⟨_,rfl,(NA.out.below AP).mono (fun b hb=>⟨by have:=hb.1;omega,by have:=hb.2;have:=jv.out;omega⟩),HI3.out⟩
    have hMs:wr.heap.size≤(w7.alloc (.cells #[.int .i64 m.uid,.int .i64 m.flags,.int .i64 m.seq,.slice xa xn xc] 72)).heap.size:=by have:=jv.out;omega
    have yZ:Hid _:=hsp
    clear hsp
    have mY:Hid _:=cZ.below Nz.out AP
    have htk:Hid ((b.ah.take k).length=k):=by show _=_;simp;omega
    have hp1:(b.ah.take k).length+1≤maxLen:=by have:=htk.out;unfold maxLen;have:=lF b.ah;omega
    have hp2:((b.ah.take k).length+1) * 48≤140737488355328:=by have:=htk.out;have:=lF b.ah;omega
    go_wp2_with (at_builtin;refine yR rfl (.tmp 41) (.tmp 43) rfl qw (B:=wc.heap.size) (M:=wr.heap.size) mY.out hMs hs Tryz.underlying31 hq hv0 hv1 hv2 rfl (by omega) rfl m [.int .i64 m.uid,.int .i64 m.flags,.int .i64 m.seq,.slice xa xn xc] rfl HE.out ⟨w7.heap.size,0,none⟩ 1 rfl (kH w7 _ _) AR hp1 hp2 ?_)
    intro DV wz hO hgz fP
    obtain ⟨da,dn,dc,og⟩:=cZ.aG hO
    subst og
    have hge:∀ j,(Value.slice va vn vc).ownBlock=some j→wc.heap.size≤j:=fun j hj=>(fP j hj).1
    have KX:=l5 hgz hge (aB AP eZ.out) (by omega)
    have rR:=ak (l5 hgz hge (aB AP Nv.out) (by omega))
    have qE:=ak (l5 hgz hge (aB AP qD.out) (by omega))
    have jw:Hid (Below w.heap.size w wz):=rD (Below.step bY.out AP) hgz hge (by omega) (by have:=AP.size;omega)
    have NC:Hid (RO wz (In (w.heap.size+2) wc.heap.size) (.slice na nn nc) b.name):=Vt (Nw.out.below AP) hgz hge
    have ND:Hid (lZ wz (w.heap.size+2) wc.heap.size (.slice ga gn gc) b.au):=cZ.Nf (cZ.below Ny.out AP) hgz hge
    have sz:=hgz.size
    have S7o:=jv.out
    have SPo:=yZ.out
    obtain ⟨zx,zl⟩:=aZ KX
    obtain ⟨e0,e1,e2,e3,e4,e5,e6⟩:=bU KX
    have pq:Hid ((wz.setCell ⟨bx,4,none⟩ (.slice da dn dc)).heap[bx]?=some (.cells #[.slice na nn nc,.int .i64 b.valid,.int .i64 b.next,.int .i64 b.seq,.slice da dn dc,.slice ga gn gc,.int .i64 b.lost] 34 (0,0))):=aJ KX
    have AX:=ak (cO (k:=bx) (i:=4) (v:=.slice da dn dc) rR.out (by omega))
    have rT:=ak (cO (k:=bx) (i:=4) (v:=.slice da dn dc) qE.out (by omega))
    have lI:Hid (Below w.heap.size w (wz.setCell ⟨bx,4,none⟩ (.slice da dn dc))):=jw.out.setCell (p:=⟨bx,4,none⟩) (show w.heap.size≤bx by omega) _
    have VF:Hid (RO (wz.setCell ⟨bx,4,none⟩ (.slice da dn dc)) (In (w.heap.size+2) wc.heap.size) (.slice na nn nc) b.name):=jP NC.out (fun k hk=>Below.heap_setCell _ _ _ _ (show k≠bx from fun e=>by subst e;exact dO KX hk (by decide)))
    have VG:Hid (lZ (wz.setCell ⟨bx,4,none⟩ (.slice da dn dc)) (w.heap.size+2) wc.heap.size (.slice ga gn gc) b.au):=Ni ND.out (fun k hk=>Below.heap_setCell _ _ _ _ (show k≠bx from fun e=>by subst e;exact dO KX hk (by decide)))
    have qF:Hid (vw (wz.setCell ⟨bx,4,none⟩ (.slice da dn dc)) wc.heap.size (wz.setCell ⟨bx,4,none⟩ (.slice da dn dc)).heap.size (.slice da dn dc) (b.ah.take (k+1))):=by show vw _ _ _ _ _;rw [bf,yV HM.out];exact cZ.set hO (.inl (by omega))
    have rU:wc.heap.size≤(wz.setCell ⟨bx,4,none⟩ (.slice da dn dc)).heap.size:=by rw [bf];omega
    clear KX rR qE jw NC ND eZ Nv qD bY Nw Ny Nz NA Hu HE mY hO hgz fP hge AP m0 m1 m2 m3 y0 y1 y2 y3 y4 y5 y6
    go_wp2
    go_roundw
    case rel=>exact ⟨k+1,da,dn,dc,by omega,by go_num,lI,AX,rT,pq,VF,VG,rU,qF⟩
    case measure=>simp [intOf];omega
   ·obtain rfl:k=b.ah.length:=by omega
    obtain ⟨d0,d1,d2,d3,d4,d5,d6⟩:=bU HX.out
    obtain ⟨r0,r1,r2,r3,r4,r5,r6⟩:=bU aQ.out
    obtain ⟨rz,rl⟩:=aZ aQ.out
    have VH:Hid (Below w.heap.size w (((((((wr.setCell ⟨w.heap.size+1,0,none⟩ (.slice na nn nc)).setCell ⟨w.heap.size+1,1,none⟩ (.int .i64 b.valid)).setCell ⟨w.heap.size+1,2,none⟩ (.int .i64 b.next)).setCell ⟨w.heap.size+1,3,none⟩ (.int .i64 b.seq)).setCell ⟨w.heap.size+1,4,none⟩ (.slice va vn vc)).setCell ⟨w.heap.size+1,5,none⟩ (.slice ga gn gc)).setCell ⟨w.heap.size+1,6,none⟩ (.int .i64 b.lost))):=(((((((HB.out.setCell (p:=⟨w.heap.size+1,0,none⟩) (by simp) (.slice na nn nc)).setCell (p:=⟨w.heap.size+1,1,none⟩) (by simp) (.int .i64 b.valid)).setCell (p:=⟨w.heap.size+1,2,none⟩) (by simp) (.int .i64 b.next)).setCell (p:=⟨w.heap.size+1,3,none⟩) (by simp) (.int .i64 b.seq)).setCell (p:=⟨w.heap.size+1,4,none⟩) (by simp) (.slice va vn vc)).setCell (p:=⟨w.heap.size+1,5,none⟩) (by simp) (.slice ga gn gc)).setCell (p:=⟨w.heap.size+1,6,none⟩) (by simp) (.int .i64 b.lost))
    have NG:Hid (RO (((((((wr.setCell ⟨w.heap.size+1,0,none⟩ (.slice na nn nc)).setCell ⟨w.heap.size+1,1,none⟩ (.int .i64 b.valid)).setCell ⟨w.heap.size+1,2,none⟩ (.int .i64 b.next)).setCell ⟨w.heap.size+1,3,none⟩ (.int .i64 b.seq)).setCell ⟨w.heap.size+1,4,none⟩ (.slice va vn vc)).setCell ⟨w.heap.size+1,5,none⟩ (.slice ga gn gc)).setCell ⟨w.heap.size+1,6,none⟩ (.int .i64 b.lost)) (In (w.heap.size+2) wc.heap.size) (.slice na nn nc) b.name):=(tX (g:=w.heap.size+1) (i:=6) (x:=.int .i64 b.lost) (tX (g:=w.heap.size+1) (i:=5) (x:=.slice ga gn gc) (tX (g:=w.heap.size+1) (i:=4) (x:=.slice va vn vc) (tX (g:=w.heap.size+1) (i:=3) (x:=.int .i64 b.seq) (tX (g:=w.heap.size+1) (i:=2) (x:=.int .i64 b.next) (tX (g:=w.heap.size+1) (i:=1) (x:=.int .i64 b.valid) (tX (g:=w.heap.size+1) (i:=0) (x:=.slice na nn nc) HN.out (.inl (by omega))) (.inl (by omega))) (.inl (by omega))) (.inl (by omega))) (.inl (by omega))) (.inl (by omega))) (.inl (by omega)))
    have VI:Hid (lZ (((((((wr.setCell ⟨w.heap.size+1,0,none⟩ (.slice na nn nc)).setCell ⟨w.heap.size+1,1,none⟩ (.int .i64 b.valid)).setCell ⟨w.heap.size+1,2,none⟩ (.int .i64 b.next)).setCell ⟨w.heap.size+1,3,none⟩ (.int .i64 b.seq)).setCell ⟨w.heap.size+1,4,none⟩ (.slice va vn vc)).setCell ⟨w.heap.size+1,5,none⟩ (.slice ga gn gc)).setCell ⟨w.heap.size+1,6,none⟩ (.int .i64 b.lost)) (w.heap.size+2) wc.heap.size (.slice ga gn gc) b.au):=(cZ.set (i:=6) (x:=.int .i64 b.lost) (cZ.set (i:=5) (x:=.slice ga gn gc) (cZ.set (i:=4) (x:=.slice va vn vc) (cZ.set (i:=3) (x:=.int .i64 b.seq) (cZ.set (i:=2) (x:=.int .i64 b.next) (cZ.set (i:=1) (x:=.int .i64 b.valid) (cZ.set (i:=0) (x:=.slice na nn nc) HG.out (.inl (by omega))) (.inl (by omega))) (.inl (by omega))) (.inl (by omega))) (.inl (by omega))) (.inl (by omega))) (.inl (by omega)))
    have VJ:Hid (vw (((((((wr.setCell ⟨w.heap.size+1,0,none⟩ (.slice na nn nc)).setCell ⟨w.heap.size+1,1,none⟩ (.int .i64 b.valid)).setCell ⟨w.heap.size+1,2,none⟩ (.int .i64 b.next)).setCell ⟨w.heap.size+1,3,none⟩ (.int .i64 b.seq)).setCell ⟨w.heap.size+1,4,none⟩ (.slice va vn vc)).setCell ⟨w.heap.size+1,5,none⟩ (.slice ga gn gc)).setCell ⟨w.heap.size+1,6,none⟩ (.int .i64 b.lost)) wc.heap.size wr.heap.size (.slice va vn vc) b.ah):=by
      have h:vw wr wc.heap.size wr.heap.size (.slice va vn vc) b.ah:=by have:=HO.out;rwa [List.take_length] at this
      exact (cZ.set (i:=6) (x:=.int .i64 b.lost) (cZ.set (i:=5) (x:=.slice ga gn gc) (cZ.set (i:=4) (x:=.slice va vn vc) (cZ.set (i:=3) (x:=.int .i64 b.seq) (cZ.set (i:=2) (x:=.int .i64 b.next) (cZ.set (i:=1) (x:=.int .i64 b.valid) (cZ.set (i:=0) (x:=.slice na nn nc) h (.inl (by omega))) (.inl (by omega))) (.inl (by omega))) (.inl (by omega))) (.inl (by omega))) (.inl (by omega))) (.inl (by omega)))
    have KF:=(aJ (i:=6) (v:=.int .i64 b.lost) (aJ (i:=5) (v:=.slice ga gn gc) (aJ (i:=4) (v:=.slice va vn vc) (aJ (i:=3) (v:=.int .i64 b.seq) (aJ (i:=2) (v:=.int .i64 b.next) (aJ (i:=1) (v:=.int .i64 b.valid) (aJ (i:=0) (v:=.slice na nn nc) aQ.out)))))))
    obtain ⟨f0,f1,f2,f3,f4,f5,f6⟩:=bU KF
    have Hw:Hid ((((((((wr.setCell ⟨w.heap.size+1,0,none⟩ (.slice na nn nc)).setCell ⟨w.heap.size+1,1,none⟩ (.int .i64 b.valid)).setCell ⟨w.heap.size+1,2,none⟩ (.int .i64 b.next)).setCell ⟨w.heap.size+1,3,none⟩ (.int .i64 b.seq)).setCell ⟨w.heap.size+1,4,none⟩ (.slice va vn vc)).setCell ⟨w.heap.size+1,5,none⟩ (.slice ga gn gc)).setCell ⟨w.heap.size+1,6,none⟩ (.int .i64 b.lost)).heap.size=wr.heap.size):=by show _=_;simp only [bf]
    clear KF c0 c1 c2 c3 c5 c6 fT
    go_wp2
    refine bodyPost_ret (v:=.agg #[.slice na nn nc,.int .i64 b.valid,.int .i64 b.next,.int .i64 b.seq,.slice va vn vc,.slice ga gn gc,.int .i64 b.lost]) (by simp [results,Tryz.results94,go_sem,f0,f1,f2,f3,f4,f5,f6]) rfl ⟨_,rfl,?_,VH.out⟩
    exact ⟨_,rfl,_,_,_,(fun x=>In (w.heap.size+2) wc.heap.size x∧(Value.slice na nn nc).ownBlock=some x),In wc.heap.size wr.heap.size,(fun x=>In (w.heap.size+2) wc.heap.size x∧Ty (((((((wr.setCell ⟨w.heap.size+1,0,none⟩ (.slice na nn nc)).setCell ⟨w.heap.size+1,1,none⟩ (.int .i64 b.valid)).setCell ⟨w.heap.size+1,2,none⟩ (.int .i64 b.next)).setCell ⟨w.heap.size+1,3,none⟩ (.int .i64 b.seq)).setCell ⟨w.heap.size+1,4,none⟩ (.slice va vn vc)).setCell ⟨w.heap.size+1,5,none⟩ (.slice ga gn gc)).setCell ⟨w.heap.size+1,6,none⟩ (.int .i64 b.lost)) x 70),rfl,Vu NG.out,VJ.out,Vw VI.out,(fun x hx=>⟨⟨by have:=hx.1.1;omega,by have:=hx.1.2;rw [Hw.out];omega⟩,fun h=>by have:=hx.1.2;have:=h.1;omega,fun h=>by obtain ⟨cs,fz,h3⟩:=Vv NG.out hx.2;exact dO h3 h.2 (by decide)⟩),(fun x hx=>⟨⟨by have:=hx.1;omega,by have:=hx.2;rw [Hw.out];omega⟩,fun h=>by have:=hx.1;have:=h.1.2;omega⟩),(fun x hx=>⟨by have:=hx.1.1;omega,by have:=hx.1.2;rw [Hw.out];omega⟩),yX.out⟩
end Go.Proofs.YtmglhdkeidhafaaGreat
