/- The proof's texts, part 8. -/
import Derived.Test.YtlneebmlhblleaaGreatT7
import Derived.Deep.DeepCutAuto
namespace Go.Proofs.YtlneebmlhblleaaGreat
open Go.RowKit
set_option linter.unusedVariables false
set_option linter.unusedSimpArgs false
set_option maxHeartbeats 8000000
set_option maxRecDepth 100000
/- What ahE of package spec does: a box is copied, with all that it leads to. -/
theorem sj.aG {α:Type} {t:TypeId} {sz:Nat} {E:World→List Value→α→(Nat→Prop)→Prop} {w:World} {S:Nat→Prop} {v:Value} {l:List α} (h:Ow t sz E w S v l):∃ a n cap,v=.slice a n cap:=by
 rcases h with ⟨rfl,_⟩ | ⟨g,cap,cur,cs,fs,hv,_⟩
 ·exact ⟨_,_,_,rfl⟩
 ·exact ⟨_,_,_,hv⟩
section
variable {w w' : World} {B sz n : Nat} {e t : TypeId} {v : Value} {xs : List Value} {g : Nat} {S : Nat → Prop}
/-- The block's cells bear a type. -/
def Ty (w:World) (g:Nat) (t:TypeId):Prop:=∃ cs fz,w.heap[g]?=some (.cells cs t fz)
theorem kN {cs:Array Value} {fz:Nat × Nat} (h:w.heap[g]?=some (.cells cs t fz)) (h2:Ty w g e) (hne:t≠e):False:=by
 obtain ⟨cs',fz',h3⟩:=h2
 rw [h] at h3
 simp only [Option.some.injEq,Obj.cells.injEq] at h3
 exact hne h3.2.1
theorem own_below (h:w.ownsRow B e sz v n xs) (hb:Below w.heap.size w w'):w'.ownsRow B e sz v n xs:=by
 refine ⟨h.1,?_⟩
 rcases h.2 with hn | ⟨g,cap,cur,hv,hg,hh,r⟩
 ·exact .inl hn
 ·exact .inr ⟨g,cap,cur,hv,hg,ay hb hh,r⟩
theorem qR {a:Addr} {m c:Nat} (h:w.ownsRow B e sz (.slice (some a) m c) n xs):Ty w a.block e:=by
 rcases h.2 with ⟨hn,_⟩ | ⟨g,cap,cur,hv,hg,hh,r⟩
 ·cases hn
 ·simp only [Value.slice.injEq,Option.some.injEq] at hv
  rw [hv.1]
  exact ⟨_,_,hh⟩
theorem dJ (h:w.ownsRow B e sz v n xs) {k:Nat} (hk:v.ownBlock=some k):B≤k:=by
 rcases h.2 with ⟨hn,_⟩ | ⟨g,cap,cur,hv,hg,hh,r⟩
 ·rw [hn] at hk;simp [Value.ownBlock] at hk
 ·rw [hv] at hk;simp only [Value.ownBlock,Option.some.injEq] at hk;omega
theorem wu (h:w.ownsRow B e sz v n xs) (hg:w.grownBy w' (some g)) (ht:Ty w g t) (hne:e≠t):w'.ownsRow B e sz v n xs:=by
 refine ⟨h.1,?_⟩
 rcases h.2 with hn | ⟨k,cap,cur,hv,hk,hh,r⟩
 ·exact .inl hn
 ·exact .inr ⟨k,cap,cur,hv,hk,uG hg hh (fun e2=>by subst e2;exact kN hh ht hne),r⟩
theorem BK {cs:Array Value} {fz:Nat × Nat} {k:Nat} (hg:w.grownBy w' (some g)) (h:w.heap[k]?=some (.cells cs e fz)) (ht:Ty w g t) (hne:e≠t):w'.heap[k]?=some (.cells cs e fz):=uG hg h (fun e2=>by subst e2;exact kN h ht hne)
theorem mR {l:List Int} (h:RO w S v l) (hw:∀ k,Ty w k 5→w'.heap[k]?=w.heap[k]?):RO w' S v l:=by
 refine ⟨h.1,⟨h.2.1.1,?_⟩,h.2.2⟩
 rcases h.2.1.2 with hn | ⟨k,cap,cur,hv,hk,hh,r⟩
 ·exact .inl hn
 ·exact .inr ⟨k,cap,cur,hv,hk,(hw k ⟨_,_,hh⟩).trans hh,r⟩
theorem Yr {l:List Int} (h:RO w S v l) (hg:w.grownBy w' (some g)) (ht:Ty w g t) (hne:5≠t):RO w' S v l :=
 ⟨h.1,wu h.2.1 hg ht hne,h.2.2⟩
theorem Px {l:List bf} (h:fB w S v l) (hw:∀ k,Ty w k 126→w'.heap[k]?=w.heap[k]?):fB w' S v l:=by
 rcases h with h | ⟨k,cap,cur,cs,fs,hv,hh,r⟩
 ·exact .inl h
 ·exact .inr ⟨k,cap,cur,cs,fs,hv,(hw k ⟨_,_,hh⟩).trans hh,r⟩
theorem Yt {l:List bf} (h:fB w S v l) (hg:w.grownBy w' (some g)) (ht:Ty w g t) (hne:126≠t):fB w' S v l:=by
 rcases h with h | ⟨k,cap,cur,cs,fs,hv,hh,r⟩
 ·exact .inl h
 ·exact .inr ⟨k,cap,cur,cs,fs,hv,uG hg hh (fun e2=>by subst e2;exact kN hh ht hne),r⟩
theorem kP {w0:World} (h:Below w0.heap.size w0 w) (hg:w.grownBy w' (some g)) (h0:w0.heap.size≤g):Below w0.heap.size w0 w' :=
 ⟨hg.os.trans h.os,hg.tape.trans h.tape,hg.output.trans h.output,Nat.le_trans h.size hg.size,fun k hk=>(hg.block k (Nat.lt_of_lt_of_le hk h.size) fun e=>by simp only [Option.some.injEq] at e;omega).trans (h.block k hk)⟩
theorem Jo {l:List Int} {N:Nat} (h:RO w (fun k=>N≤k) v l):RO w (In N w.heap.size) v l:=by
 refine ⟨h.1,h.2.1,fun g hg=>⟨h.2.2 g hg,?_⟩⟩
 rcases h.2.1.2 with ⟨hn,_⟩ | ⟨k,cap,cur,hv,hk,hh,r⟩
 ·rw [hn] at hg;simp [Value.ownBlock] at hg
 ·rw [hv] at hg;simp only [Value.ownBlock,Option.some.injEq] at hg;rw [← hg];exact lt_of_heap hh
theorem Yu {l:List bf} {N:Nat} (h:fB w (fun k=>N≤k) v l):l8 w N w.heap.size v l:=by
 rcases h with h | ⟨k,cap,cur,cs,fs,hv,hh,h1,h2,h3,h4,h5,h6,h7⟩
 ·exact .inl h
 ·exact .inr ⟨k,cap,cur,cs,fun _ _=>False,hv,hh,h1,h2,h3,⟨h4,lt_of_heap hh⟩,fun i x hx=>⟨(h5 i x hx).1,(h5 i x hx).2⟩,by simp,by simp⟩
theorem Yv {l:List Int} {N M:Nat} (h:RO w (In N M) v l) (hg:w.grownBy w' (some g)) (hd:g < N∨M≤g):RO w' (In N M) v l :=
 h.frame fun b hb hlt=>hg.block b hlt fun e=>by have:=hb.1;have:=hb.2;simp only [Option.some.injEq] at e;omega
theorem uI {l:List Int} {N M i:Nat} {x:Value} (h:RO w (In N M) v l) (hd:g < N∨M≤g):RO (w.setCell ⟨g,i,none⟩ x) (In N M) v l :=
 h.frame fun b hb _=>Below.heap_setCell _ _ _ _ (show b≠g by have:=hb.1;have:=hb.2;omega)
theorem Yw {l:List Int} {N M:Nat} {row:Option Nat} (h:RO w (In N M) v l) (hg:w.grownBy w' row) (hd:∀ j,row=some j→M≤j):RO w' (In N M) v l :=
 h.frame fun b hb hlt=>hg.block b hlt fun e=>by have:=hd b e.symm;have:=hb.2;omega
theorem Yx {l:List Int} (h:RO w S v l):RO w (fun k=>S k∧v.ownBlock=some k) v l:=⟨h.1,h.2.1,fun g hg=>⟨h.2.2 g hg,hg⟩⟩
theorem Yy {l:List Int} {k:Nat} (h:RO w S v l) (hk:v.ownBlock=some k):Ty w k 5:=by
 rcases h.2.1.2 with ⟨hn,_⟩ | ⟨g,cap,cur,hv,_,hh,r⟩
 ·rw [hn] at hk;simp [Value.ownBlock] at hk
 ·rw [hv] at hk;simp only [Value.ownBlock,Option.some.injEq] at hk;rw [← hk];exact ⟨_,_,hh⟩
theorem Yz {l:List bf} (h:fB w S v l):fB w (fun k=>S k∧Ty w k 126) v l:=by
 rcases h with h | ⟨k,cap,cur,cs,fs,hv,hh,h1,h2,h3,h4,h5,h6,h7⟩
 ·exact .inl h
 ·exact .inr ⟨k,cap,cur,cs,fun _ _=>False,hv,hh,h1,h2,h3,⟨h4,_,_,hh⟩,fun i x hx=>⟨(h5 i x hx).1,(h5 i x hx).2⟩,by simp,by simp⟩
end
theorem BL {a:Option Addr} {n c:Nat} {i j k:Int}:∀ u ∈ [Value.int .i64 i,.int .i64 j,.int .i64 k,.slice a n c],Value.oneCell' u=true:=by
 intro u hu
 simp only [List.mem_cons,List.not_mem_nil,or_false] at hu
 rcases hu with rfl | rfl | rfl | rfl <;> rfl
theorem ak {p:Prop} (h:p):Hid p:=h
theorem yu {α:Type} {l:List α} {k:Nat} {x:α} (h:l[k]?=some x):l.take (k+1)=l.take k ++ [x]:=by
 rw [List.take_add_one,h];rfl
theorem Jp (v:Value) (b:aD) (w:World) (hv:bK w v b) (hs:bA b≤2000000) :
  Calls Tryz.prog 53 #[v] w fun e w'=>∃ u,e=.returned u∧pV w' (In w.heap.size w'.heap.size) u b∧Below w.heap.size w w':=by
 have HV:Hid (∀ wi,Below w.heap.size w wi→bK wi v b):=fun wi h=>hv.below h
 obtain ⟨u0,u1,u2,rfl,g0,g1,g2,hint⟩:=hv
 have wB:Hid (aB b.valid∧aB b.next∧aB b.seq∧aB b.lost):=hint
 have YA:Hid (Oct b.name):=g0.1
 have YB:Hid (∀ wi,Below w.heap.size w wi→Bs wi u0 b.name):=fun wi h=>g0.below h
 have Jq:Hid (∀ wi,Below w.heap.size w wi→bY wi u1 b.ah):=fun wi h=>g1.below eU h
 have Jr:Hid (∀ wi,Below w.heap.size w wi→bO wi u2 b.au):=fun wi h=>g2.below dY h
 have hsz:b.name.length≤2000000∧dG b.ah≤2000000∧b.au.length≤2000000:=by unfold bA at hs;omega
 obtain ⟨a0,dZ,dF,rfl⟩:=g0.aG
 obtain ⟨a1,gu,rfl,hml,-⟩:=g1.form
 obtain ⟨a2,iP,rfl,-⟩:=g2.form
 obtain ⟨i0,hi,hz0,hz1,hz2⟩:=info_parts info5
 obtain ⟨i1,hj,hy0,hy1,hy2⟩:=info_parts yt
 obtain ⟨i2,hq,hv0,hv1,hv2⟩:=info_parts zO
 have YC:b.ah.length≤2000000:=by have:=jZ b.ah;omega
 have hl1:b.name.length≤maxLen:=by unfold maxLen;omega
 have hl2:b.name.length * 1≤140737488355328:=by omega
 have hl3:b.au.length≤maxLen:=by unfold maxLen;omega
 have hl4:b.au.length * 16≤140737488355328:=by omega
 obtain ⟨kA,kR,X⟩:=gJ w (.cells #[.slice a0 dZ dF,.int .i64 b.valid,.int .i64 b.next,.int .i64 b.seq,.slice a1 b.ah.length gu,.slice a2 b.au.length iP,.int .i64 b.lost] 37) (.cells #[.slice none 0 0,.int .i64 0,.int .i64 0,.int .i64 0,.slice none 0 0,.slice none 0 0,.int .i64 0] 37)
 have HX:Hid _:=X
 have bU:Hid _:=kA
 have aO:Hid _:=kR
 have hs0:((w.alloc (.cells #[.slice a0 dZ dF,.int .i64 b.valid,.int .i64 b.next,.int .i64 b.seq,.slice a1 b.ah.length gu,.slice a2 b.au.length iP,.int .i64 b.lost] 37)).alloc (.cells #[.slice none 0 0,.int .i64 0,.int .i64 0,.int .i64 0,.slice none 0 0,.slice none 0 0,.int .i64 0] 37)).heap.size=w.heap.size+2:=by simp
 have eY:Hid _:=hs0
 clear g0 g1 g2 hint X kA kR hs0 hs
 go_enter Tryz.func53,Tryz.ntmps53
 go_upto_region 1 with fail
 generalize hw0:(w.alloc (.cells #[.slice a0 dZ dF,.int .i64 b.valid,.int .i64 b.next,.int .i64 b.seq,.slice a1 b.ah.length gu,.slice a2 b.au.length iP,.int .i64 b.lost] 37)).alloc (.cells #[.slice none 0 0,.int .i64 0,.int .i64 0,.int .i64 0,.slice none 0 0,.slice none 0 0,.int .i64 0] 37)=w0 at *
 clear hw0
 obtain ⟨N,hNe⟩:∃ N,N=w.heap.size+2:=⟨_,rfl⟩
 have mU:Hid (N=w.heap.size+2):=hNe
 clear hNe
 go_cut [3] (fun s wx=>∃ bx na nn nc ga gn gc,s=.pointer (some ⟨bx,0,none⟩)∧Hid (wx.heap[bx]?=some (.cells #[.slice na nn nc,.int .i64 b.valid,.int .i64 b.next,.int .i64 b.seq,.slice none 0 0,.slice ga gn gc,.int .i64 b.lost] 37 (0,0)))∧Hid (RO wx (fun k=>N≤k) (.slice na nn nc) b.name)∧Hid (fB wx (fun k=>N≤k) (.slice ga gn gc) b.au)∧N≤bx∧Hid (Below w0.heap.size w0 wx))
 case first =>
  have HS:Hid (∀ w',Below w0.heap.size w0 w'→w'.cell? ⟨w.heap.size,0,none⟩=some (.slice a0 dZ dF)∧w'.cell? ⟨w.heap.size,1,none⟩=some (.int .i64 b.valid)∧w'.cell? ⟨w.heap.size,2,none⟩=some (.int .i64 b.next)∧w'.cell? ⟨w.heap.size,3,none⟩=some (.int .i64 b.seq)∧w'.cell? ⟨w.heap.size,5,none⟩=some (.slice a2 b.au.length iP)∧w'.cell? ⟨w.heap.size,6,none⟩=some (.int .i64 b.lost)):=fun w' h=>by
   obtain ⟨c0,c1,c2,c3,c4,c5,c6⟩:=bF (ay h bU.out)
   exact ⟨c0,c1,c2,c3,c5,c6⟩
  have mo:Hid (∀ w',Below w0.heap.size w0 w'→Bs w' (.slice a0 dZ dF) b.name):=fun w' h=>YB.out w' (Below.step HX.out h)
  have zQ:Hid (∀ w',Below w0.heap.size w0 w'→bO w' (.slice a2 b.au.length iP) b.au):=fun w' h=>Jr.out w' (Below.step HX.out h)
  have hN0:N≤w0.drew.heap.size:=by have:=eY.out;have:=mU.out;show N≤w0.heap.size;omega
  have D0:Hid (Below w0.heap.size w0 w0.drew):=bd _ _
  clear eY mU
  refine wp_region_held_drew (S:=fun w'=>w'.cell? ⟨w.heap.size,0,none⟩=some (.slice a0 dZ dF)∧w'.cell? ⟨w.heap.size,1,none⟩=some (.int .i64 b.valid)∧w'.cell? ⟨w.heap.size,2,none⟩=some (.int .i64 b.next)∧w'.cell? ⟨w.heap.size,3,none⟩=some (.int .i64 b.seq)∧w'.cell? ⟨w.heap.size,5,none⟩=some (.slice a2 b.au.length iP)∧w'.cell? ⟨w.heap.size,6,none⟩=some (.int .i64 b.lost)) (by kernel_rfl) (HS.out _ D0.out) (fun aks=>(show wpAnyH _ _ _ _ _ 19 #[false,false,false,false,false,false,false,false,false,false,false,false,false,false,false,false,false,false,false] _ _ from ?_))
  refine tq 1 7 aks ?_
  refine tq 2 8 aks ?_
  refine tq 4 10 aks ?_
  refine tq 5 11 aks ?_
  refine tq 6 12 aks ?_
  refine tq 7 13 aks ?_
  refine tq 8 14 aks ?_
  refine tq 9 15 aks ?_
  refine tq 11 17 aks ?_
  refine tq 12 18 aks ?_
  refine tq 14 20 aks ?_
  refine tq 15 21 aks ?_
  generalize w0.drew=x at *
  have hN:=hN0
  have D:=D0
  clear hN0 D0
  repeat' (first
   | exact AllReadyH.nil
   | refine AllReadyH.cons rfl (fun K hK=>?_) ?_
   | refine tq 16 22 aks ?_
   | refine wpAnyH_ready (rs:=[0,10,17]) (by decide +kernel) (by simp) ?_
   | refine wpAnyH_ready (rs:=[3,10,17]) (by decide +kernel) (by simp) ?_
   | refine wpAnyH_ready (rs:=[10,17]) (by decide +kernel) (by simp) ?_
   | refine wpAnyH_ready (rs:=[0,17]) (by decide +kernel) (by simp) ?_
   | refine wpAnyH_ready (rs:=[0,10]) (by decide +kernel) (by simp) ?_
   | refine wpAnyH_ready (rs:=[3,17]) (by decide +kernel) (by simp) ?_
   | refine wpAnyH_ready (rs:=[3,10]) (by decide +kernel) (by simp) ?_
   | refine wpAnyH_ready (rs:=[13,17]) (by decide +kernel) (by simp) ?_
   | refine wpAnyH_ready (rs:=[17]) (by decide +kernel) (by simp) ?_
   | refine wpAnyH_ready (rs:=[10]) (by decide +kernel) (by simp) ?_
   | refine wpAnyH_ready (rs:=[3]) (by decide +kernel) (by simp) ?_
   | refine wpAnyH_ready (rs:=[0]) (by decide +kernel) (by simp) ?_
   | refine wpAnyH_ready (rs:=[13]) (by decide +kernel) (by simp) ?_
   | refine wpAnyH_ready (rs:=[18]) (by decide +kernel) (by simp) ?_
   | (
     refine dO (by kernel_rfl) (j5 (B:=N) 9 rfl (.tmp 6) (.tmp 8) rfl uJ.out (Bs.rY (mo.out _ D.out)) (one_byte _) Tryz.underlying26 hi hz0 hz1 hz2 rfl (by omega) rfl rfl hl1 hl2 hN ?_)
     intro V y xs hO hX hG hB
     have hG':x.grownBy y (some e0):=hG
     have KE:=qR uJ.out
     try replace mV:Hid _:=wu mV.out hG' KE (by decide)
     try replace oN:Hid _:=Yt oN.out hG' KE (by decide)
     try replace jh:Hid _:=BK hG' jh.out KE (by decide)
     replace D:Hid (Below w0.heap.size w0 y):=kP D.out hG' he0
     replace hN:N≤y.heap.size:=Nat.le_trans hN hG'.size
     have hR:RO y (fun k=>N≤k) V b.name:=rZ YA.out hO hX (fun g hg=>dJ hO hg)
     obtain ⟨na,nn,nc,hV⟩:=hR.bs.aG
     subst hV
     have uK:Hid (RO y (fun k=>N≤k) (.slice na nn nc) b.name):=hR
     refine hK.out _ _ (HS.out _ D.out) (fun aks=>?_)
     clear hK K hO hX hG hG' hB KE hR uJ
     conv=>arg 8;simp only [Act.put,sA,s0,sS]
     generalize y=x at *)
   | (
     refine dO (by kernel_rfl) (j5 (B:=N) 19 rfl (.tmp 16) (.tmp 18) rfl mV.out (zQ.out _ D.out) (BG _) Tryz.underlying35 hj hy0 hy1 hy2 rfl (by omega) rfl rfl hl3 hl4 hN ?_)
     intro V y xs hO hX hG hB
     have hG':x.grownBy y (some e1):=hG
     have KE:=qR mV.out
     try replace uJ:Hid _:=wu uJ.out hG' KE (by decide)
     try replace uK:Hid _:=Yr uK.out hG' KE (by decide)
     try replace jh:Hid _:=BK hG' jh.out KE (by decide)
     replace D:Hid (Below w0.heap.size w0 y):=kP D.out hG' he1
     replace hN:N≤y.heap.size:=Nat.le_trans hN hG'.size
     have hR:fB y (fun k=>N≤k) V b.au:=FU hO hX (fun g hg=>dJ hO hg)
     obtain ⟨ga,gn,gc,hV⟩:=sj.aG hR
     subst hV
     have oN:Hid (fB y (fun k=>N≤k) (.slice ga gn gc) b.au):=hR
     refine hK.out _ _ (HS.out _ D.out) (fun aks=>?_)
     clear hK K hO hX hG hG' hB KE hR mV
     conv=>arg 8;simp only [Act.put,sA,s0,sS]
     generalize y=x at *)
   | (
     go_simp
     have AB:Below x.heap.size x (x.alloc (.cells #[] 5)):=bn _ _
     have he0:=D.out.size
     have ne0:=hN
     have uJ:Hid _:=kK x 5 1 N hN
     try replace mV:Hid _:=own_below mV.out AB
     try replace uK:Hid _:=RO.below uK.out AB
     try replace oN:Hid _:=Ow.below jB oN.out AB
     try replace jh:Hid _:=ay AB jh.out
     replace D:Hid (Below w0.heap.size w0 (x.alloc (.cells #[] 5))):=Below.step D.out AB
     replace hN:N≤(x.alloc (.cells #[] 5)).heap.size:=Nat.le_trans hN AB.size
     refine hK.out _ (x.alloc (.cells #[] 5)) (HS.out _ D.out) (fun aks=>?_)
     clear hK K AB
     generalize x.heap.size=e0 at *
     generalize hw:x.alloc (.cells #[] 5)=x at *
     clear hw)
   | (
     go_simp
     have AB:Below x.heap.size x (x.alloc (.cells #[] 126)):=bn _ _
     have he1:=D.out.size
     have ne1:=hN
     have mV:Hid _:=kK x 126 2 N hN
     try replace uJ:Hid _:=own_below uJ.out AB
     try replace uK:Hid _:=RO.below uK.out AB
     try replace oN:Hid _:=Ow.below jB oN.out AB
     try replace jh:Hid _:=ay AB jh.out
     replace D:Hid (Below w0.heap.size w0 (x.alloc (.cells #[] 126))):=Below.step D.out AB
     replace hN:N≤(x.alloc (.cells #[] 126)).heap.size:=Nat.le_trans hN AB.size
     refine hK.out _ (x.alloc (.cells #[] 126)) (HS.out _ D.out) (fun aks=>?_)
     clear hK K AB
     generalize x.heap.size=e1 at *
     generalize hw:x.alloc (.cells #[] 126)=x at *
     clear hw)
   | (
     go_simp
     have AB:Below x.heap.size x (x.alloc (.cells #[.slice none 0 0,.int .i64 0,.int .i64 0,.int .i64 0,.slice none 0 0,.slice none 0 0,.int .i64 0] 37)):=bn _ _
     have hbx:=D.out.size
     have Js:=hN
     have jh:Hid ((x.alloc (.cells #[.slice none 0 0,.int .i64 0,.int .i64 0,.int .i64 0,.slice none 0 0,.slice none 0 0,.int .i64 0] 37)).heap[x.heap.size]?=some (.cells #[.slice none 0 0,.int .i64 0,.int .i64 0,.int .i64 0,.slice none 0 0,.slice none 0 0,.int .i64 0] 37 (0,0))):=aV x _
     try replace uJ:Hid _:=own_below uJ.out AB
     try replace mV:Hid _:=own_below mV.out AB
     try replace uK:Hid _:=RO.below uK.out AB
     try replace oN:Hid _:=Ow.below jB oN.out AB
     replace D:Hid (Below w0.heap.size w0 (x.alloc (.cells #[.slice none 0 0,.int .i64 0,.int .i64 0,.int .i64 0,.slice none 0 0,.slice none 0 0,.int .i64 0] 37))):=Below.step D.out AB
     replace hN:N≤(x.alloc (.cells #[.slice none 0 0,.int .i64 0,.int .i64 0,.int .i64 0,.slice none 0 0,.slice none 0 0,.int .i64 0] 37)).heap.size:=Nat.le_trans hN AB.size
     refine hK.out _ (x.alloc (.cells #[.slice none 0 0,.int .i64 0,.int .i64 0,.int .i64 0,.slice none 0 0,.slice none 0 0,.int .i64 0] 37)) (HS.out _ D.out) (fun aks=>?_)
     clear hK K AB
     generalize x.heap.size=bx at *
     generalize hw:x.alloc (.cells #[.slice none 0 0,.int .i64 0,.int .i64 0,.int .i64 0,.slice none 0 0,.slice none 0 0,.int .i64 0] 37)=x at *
     clear hw)
   | (
     obtain ⟨zx,zl⟩:=bR jh.out
     obtain ⟨q0,q1,q2,q3,q4,q5,q6⟩:=bF jh.out
     have KF:=(aP (i:=6) (v:=.int .i64 b.lost) (aP (i:=5) (v:=.slice ga gn gc) (aP (i:=4) (v:=.slice none 0 0) (aP (i:=3) (v:=.int .i64 b.seq) (aP (i:=2) (v:=.int .i64 b.next) (aP (i:=1) (v:=.int .i64 b.valid) (aP (i:=0) (v:=.slice na nn nc) jh.out)))))))
     have DF:=(((((((D.out.setCell (p:=⟨bx,0,none⟩) hbx (.slice na nn nc)).setCell (p:=⟨bx,1,none⟩) hbx (.int .i64 b.valid)).setCell (p:=⟨bx,2,none⟩) hbx (.int .i64 b.next)).setCell (p:=⟨bx,3,none⟩) hbx (.int .i64 b.seq)).setCell (p:=⟨bx,4,none⟩) hbx (.slice none 0 0)).setCell (p:=⟨bx,5,none⟩) hbx (.slice ga gn gc)).setCell (p:=⟨bx,6,none⟩) hbx (.int .i64 b.lost))
     obtain ⟨Z,hZ⟩:∃ Z,Z=(((((((x.setCell ⟨bx,0,none⟩ (.slice na nn nc)).setCell ⟨bx,1,none⟩ (.int .i64 b.valid)).setCell ⟨bx,2,none⟩ (.int .i64 b.next)).setCell ⟨bx,3,none⟩ (.int .i64 b.seq)).setCell ⟨bx,4,none⟩ (.slice none 0 0)).setCell ⟨bx,5,none⟩ (.slice ga gn gc)).setCell ⟨bx,6,none⟩ (.int .i64 b.lost)):=⟨_,rfl⟩
     rw [← hZ] at KF DF
     have hoth:∀ k,k≠bx→Z.heap[k]?=x.heap[k]?:=fun k hk=>by rw [hZ,Below.heap_setCell _ _ _ _ (show k≠bx from hk),Below.heap_setCell _ _ _ _ (show k≠bx from hk),Below.heap_setCell _ _ _ _ (show k≠bx from hk),Below.heap_setCell _ _ _ _ (show k≠bx from hk),Below.heap_setCell _ _ _ _ (show k≠bx from hk),Below.heap_setCell _ _ _ _ (show k≠bx from hk),Below.heap_setCell _ _ _ _ (show k≠bx from hk)]
     have RF:RO Z (fun k=>N≤k) (.slice na nn nc) b.name:=mR uK.out (fun k hk=>hoth k fun e=>by subst e;exact kN jh.out hk (by decide))
     have GF:fB Z (fun k=>N≤k) (.slice ga gn gc) b.au:=Px oN.out (fun k hk=>hoth k fun e=>by subst e;exact kN jh.out hk (by decide))
     subst hZ
     go_simp
     refine hK.out _ _ (HS.out _ DF) (fun aks=>?_)
     clear hK K
     refine wpAnyH_done (by kernel_rfl) ?_ _
     go_wp2
     go_meet
     case rel=>exact ⟨_,_,_,_,_,_,_,rfl,KF,RF,GF,Js,DF⟩))
 case rest =>
  obtain ⟨bx,na,nn,nc,ga,gn,gc,rfl,nU,BM,qj,hbx,HD⟩:=hcut
  have hs2:w0.heap.size=w.heap.size+2:=eY.out
  have hNe:=mU.out
  subst hNe
  have HB0:Hid (Below w.heap.size w wc):=Below.step HX.out HD.out
  have BN:Hid (wc.heap[w.heap.size]?=some (.cells #[.slice a0 dZ dF,.int .i64 b.valid,.int .i64 b.next,.int .i64 b.seq,.slice a1 b.ah.length gu,.slice a2 b.au.length iP,.int .i64 b.lost] 37 (0,0))):=ay HD.out bU.out
  have bW:Hid (wc.heap[w.heap.size+1]?=some (.cells #[.slice none 0 0,.int .i64 0,.int .i64 0,.int .i64 0,.slice none 0 0,.slice none 0 0,.int .i64 0] 37 (0,0))):=ay HD.out aO.out
  have Py:Hid (RO wc (In (w.heap.size+2) wc.heap.size) (.slice na nn nc) b.name):=Jo BM.out
  have BO:Hid (l8 wc (w.heap.size+2) wc.heap.size (.slice ga gn gc) b.au):=Yu qj.out
  have hlx:=lt_of_heap nU.out
  have hwc:w.heap.size+2≤wc.heap.size:=by omega
  clear HD HX bU aO BM qj eY mU hs2
  go_wp2
  go_loopw [4] (fun i wr=>∃ (k:Nat) (va:Option Addr) (vn vc:Nat),k≤b.ah.length∧i=.int .i64 k∧Hid (Below w.heap.size w wr)∧Hid (wr.heap[w.heap.size]?=some (.cells #[.slice a0 dZ dF,.int .i64 b.valid,.int .i64 b.next,.int .i64 b.seq,.slice a1 b.ah.length gu,.slice a2 b.au.length iP,.int .i64 b.lost] 37 (0,0)))∧Hid (wr.heap[w.heap.size+1]?=some (.cells #[.slice none 0 0,.int .i64 0,.int .i64 0,.int .i64 0,.slice none 0 0,.slice none 0 0,.int .i64 0] 37 (0,0)))∧Hid (wr.heap[bx]?=some (.cells #[.slice na nn nc,.int .i64 b.valid,.int .i64 b.next,.int .i64 b.seq,.slice va vn vc,.slice ga gn gc,.int .i64 b.lost] 37 (0,0)))∧Hid (RO wr (In (w.heap.size+2) wc.heap.size) (.slice na nn nc) b.name)∧Hid (l8 wr (w.heap.size+2) wc.heap.size (.slice ga gn gc) b.au)∧wc.heap.size≤wr.heap.size∧Hid (uz wr wc.heap.size wr.heap.size (.slice va vn vc) (b.ah.take k))) (fun i _=>b.ah.length - (intOf i).toNat)
  case atStart=>exact ⟨0,none,0,0,Nat.zero_le _,rfl,HB0,BN,bW,nU,Py,BO,Nat.le_refl _,.inl ⟨rfl,rfl⟩⟩
  case round =>
   obtain ⟨k,va,vn,vc,hk,rfl,HB,bU,aO,HX,HN,HG,hs,HO⟩:=hrel
   clear HB0 BN bW nU Py BO
   obtain ⟨c0,c1,c2,c3,c4,c5,c6⟩:=bF bU.out
   have lA:=lt_of_heap bU.out
   have lX:=lt_of_heap HX.out
   by_cases hlt:k < b.ah.length
   ·obtain ⟨m,hm⟩:∃ m,b.ah[k]?=some m:=⟨b.ah[k],aK hlt⟩
    have hmem:m ∈ b.ah:=List.mem_of_getElem? hm
    have hmt:m.text.length+1≤dG b.ah:=zI hmem
    obtain ⟨bb,off,cp,t,hv',hlb,d0,d1,d2,d3,ht,hi3⟩:=bY.cell (Jq.out wr HB.out) k m hm
    simp only [Value.slice.injEq,true_and] at hv'
    obtain ⟨rfl,rfl⟩:=hv'
    have HT:Hid (Bs wr t m.text):=ht
    have HI3:Hid (aB m.uid∧aB m.flags∧aB m.seq):=hi3
    obtain ⟨ta,tn,tc,rfl⟩:=ht.aG
    have HM:Hid (b.ah[k]?=some m):=hm
    have hki:(k:Int) < b.ah.length:=by omega
    clear ht hi3 hm hmem
    go_upto_region 6 with fail
    have AB:Below wr.heap.size wr (wr.alloc (.cells #[.int .i64 m.uid,.int .i64 m.flags,.int .i64 m.seq,.slice ta tn tc] 124)):=bn _ _
    have KM:=aV wr (.cells #[.int .i64 m.uid,.int .i64 m.flags,.int .i64 m.seq,.slice ta tn tc] 124)
    have mW:Hid (Below w.heap.size w (wr.alloc (.cells #[.int .i64 m.uid,.int .i64 m.flags,.int .i64 m.seq,.slice ta tn tc] 124))):=Below.step HB.out AB
    have qm:Hid (Bs (wr.alloc (.cells #[.int .i64 m.uid,.int .i64 m.flags,.int .i64 m.seq,.slice ta tn tc] 124)) (.slice ta tn tc) m.text):=HT.out.below AB
    have Pz:=ak (ay AB bU.out)
    have kQ:=ak (ay AB aO.out)
    have zR:=ak (ay AB HX.out)
    have PD:Hid (RO (wr.alloc (.cells #[.int .i64 m.uid,.int .i64 m.flags,.int .i64 m.seq,.slice ta tn tc] 124)) (In (w.heap.size+2) wc.heap.size) (.slice na nn nc) b.name):=HN.out.below AB
    have BP:Hid (l8 (wr.alloc (.cells #[.int .i64 m.uid,.int .i64 m.flags,.int .i64 m.seq,.slice ta tn tc] 124)) (w.heap.size+2) wc.heap.size (.slice ga gn gc) b.au):=bE.below HG.out AB
    have zS:Hid (uz (wr.alloc (.cells #[.int .i64 m.uid,.int .i64 m.flags,.int .i64 m.seq,.slice ta tn tc] 124)) wc.heap.size wr.heap.size (.slice va vn vc) (b.ah.take k)):=bE.below HO.out AB
    have su:Hid ((wr.alloc (.cells #[.int .i64 m.uid,.int .i64 m.flags,.int .i64 m.seq,.slice ta tn tc] 124)).heap.size=wr.heap.size+1):=by show _=_;simp
    generalize FW:wr.alloc (.cells #[.int .i64 m.uid,.int .i64 m.flags,.int .i64 m.seq,.slice ta tn tc] 124)=w5 at *
    clear FW AB HB HT bU aO HX HN HG HO c0 c1 c2 c3 c4 c5 c6 d0 d1 d2 d3 lA lX hlb
    obtain ⟨m0,m1,m2,m3⟩:=gF KM
    obtain ⟨mz,ml⟩:=bR KM
    have h5:wr.heap.size+1≤w5.heap.size:=by have:=su.out;omega
    have AE:Below w5.heap.size w5 (w5.alloc (.cells #[] 5)):=bn _ _
    have hE:=kK w5 5 1 w5.heap.size (Nat.le_refl _)
    have PE:=Bs.rY (qm.out.below AE)
    have ht1:m.text.length≤maxLen:=by unfold maxLen;omega
    have ht2:m.text.length * 1≤140737488355328:=by omega
    have PG:w5.heap.size≤(w5.alloc (.cells #[] 5)).heap.size:=AE.size
    go_wp2_with (at_builtin;refine Pt (B:=w5.heap.size) rfl (.tmp 35) (.tmp 37) rfl hE PE (one_byte _) Tryz.underlying26 hi hz0 hz1 hz2 rfl (by omega) rfl rfl ht1 ht2 PG ?_)
    intro TV w6 xs iw sw fE lJ
    have sD:(w5.alloc (.cells #[] 5)).grownBy w6 (some w5.heap.size):=fE
    have wC:Hid (Below w.heap.size w w6):=kP (Below.step mW.out AE) sD (by omega)
    have yw:=uG sD (ay AE KM) (by omega)
    have PI:=ak (uG sD (ay AE Pz.out) (by omega))
    have iQ:=ak (uG sD (ay AE kQ.out) (by omega))
    have wD:=ak (uG sD (ay AE zR.out) (by omega))
    have PK:Hid (RO w6 (In (w.heap.size+2) wc.heap.size) (.slice na nn nc) b.name):=Yv (PD.out.below AE) sD (.inr (by omega))
    have FX:Hid (l8 w6 (w.heap.size+2) wc.heap.size (.slice ga gn gc) b.au):=bE.gr (bE.below BP.out AE) sD (.inr (by omega))
    have oO:Hid (uz w6 wc.heap.size wr.heap.size (.slice va vn vc) (b.ah.take k)):=bE.gr (bE.below zS.out AE) sD (.inr (by omega))
    have RT:RO w6 (fun k=>w5.heap.size≤k) TV m.text:=rZ (w0:=w5.alloc (.cells #[] 5)) qm.out.1 iw (fun i x h=>by obtain ⟨c,h1,h2,h3⟩:=sw i x h;exact ⟨c,h1,h2,fun j y hy=>by rw [Nat.mul_one];exact h3 j y hy⟩) (fun g hg=>dJ iw hg)
    obtain ⟨xa,xn,xc,YD⟩:=RT.bs.aG
    subst YD
    have PL:Hid (RO w6 (In w5.heap.size w6.heap.size) (.slice xa xn xc) m.text):=Jo RT
    have h6:w5.heap.size≤w6.heap.size:=by have:=sD.size;omega
    clear fE sD lJ iw sw RT hE PE AE m0 m1 m2 m3 mz ml KM mW qm Pz kQ zR PD BP zS PG
    obtain ⟨m0,m1,m2,m3⟩:=gF yw
    obtain ⟨mz,ml⟩:=bR yw
    go_upto_region 7 with fail
    have Jt:(w6.setCell ⟨wr.heap.size,3,none⟩ (.slice xa xn xc)).heap[wr.heap.size]?=some (.cells #[.int .i64 m.uid,.int .i64 m.flags,.int .i64 m.seq,.slice xa xn xc] 124 (0,0)):=aP yw
    have wE:Hid (Below w.heap.size w (w6.setCell ⟨wr.heap.size,3,none⟩ (.slice xa xn xc))):=wC.out.setCell (p:=⟨wr.heap.size,3,none⟩) (show w.heap.size≤wr.heap.size by omega) _
    have PN:=ak (bP (k:=wr.heap.size) (i:=3) (v:=.slice xa xn xc) PI.out (by omega))
    have nV:=ak (bP (k:=wr.heap.size) (i:=3) (v:=.slice xa xn xc) iQ.out (by omega))
    have yx:=ak (bP (k:=wr.heap.size) (i:=3) (v:=.slice xa xn xc) wD.out (by omega))
    have PO:Hid (RO (w6.setCell ⟨wr.heap.size,3,none⟩ (.slice xa xn xc)) (In (w.heap.size+2) wc.heap.size) (.slice na nn nc) b.name):=uI PK.out (.inr (by omega))
    have PS:Hid (l8 (w6.setCell ⟨wr.heap.size,3,none⟩ (.slice xa xn xc)) (w.heap.size+2) wc.heap.size (.slice ga gn gc) b.au):=bE.set FX.out (.inr (by omega))
    have PU:Hid (uz (w6.setCell ⟨wr.heap.size,3,none⟩ (.slice xa xn xc)) wc.heap.size wr.heap.size (.slice va vn vc) (b.ah.take k)):=bE.set oO.out (.inr (by omega))
    have PV:Hid (RO (w6.setCell ⟨wr.heap.size,3,none⟩ (.slice xa xn xc)) (In w5.heap.size w6.heap.size) (.slice xa xn xc) m.text):=uI PL.out (.inl (by omega))
    have kS:Hid ((w6.setCell ⟨wr.heap.size,3,none⟩ (.slice xa xn xc)).heap.size=w6.heap.size):=aZ
    clear m0 m1 m2 m3 mz ml yw wC PI iQ wD PK FX oO PL
    generalize hw7:w6.setCell ⟨wr.heap.size,3,none⟩ (.slice xa xn xc)=w7 at *
    clear hw7
    obtain ⟨m0,m1,m2,m3⟩:=gF Jt
    have ml:=lt_of_heap Jt
    obtain ⟨y0,y1,y2,y3,y4,y5,y6⟩:=bF yx.out
    have lX:=lt_of_heap yx.out
    have AP:Below w7.heap.size w7 (w7.alloc (.cells #[.int .i64 m.uid,.int .i64 m.flags,.int .i64 m.seq,.slice xa xn xc] 124)):=bn _ _
    have hsp:(w7.alloc (.cells #[.int .i64 m.uid,.int .i64 m.flags,.int .i64 m.seq,.slice xa xn xc] 124)).heap.size=w7.heap.size+1:=by simp
    have HE:Hid (je (w7.alloc (.cells #[.int .i64 m.uid,.int .i64 m.flags,.int .i64 m.seq,.slice xa xn xc] 124)) [.int .i64 m.uid,.int .i64 m.flags,.int .i64 m.seq,.slice xa xn xc] m (In wr.heap.size (w7.alloc (.cells #[.int .i64 m.uid,.int .i64 m.flags,.int .i64 m.seq,.slice xa xn xc] 124)).heap.size)):=⟨_,rfl,(PV.out.below AP).mono (fun b hb=>⟨by have:=hb.1;omega,by have:=hb.2;have:=kS.out;omega⟩),HI3.out⟩
    have hMs:wr.heap.size≤(w7.alloc (.cells #[.int .i64 m.uid,.int .i64 m.flags,.int .i64 m.seq,.slice xa xn xc] 124)).heap.size:=by have:=kS.out;omega
    have zT:Hid _:=hsp
    clear hsp
    have nR:Hid _:=bE.below PU.out AP
    have htk:Hid ((b.ah.take k).length=k):=by show _=_;simp;omega
    have hp1:(b.ah.take k).length+1≤maxLen:=by have:=htk.out;unfold maxLen;have:=jZ b.ah;omega
    have hp2:((b.ah.take k).length+1) * 48≤140737488355328:=by have:=htk.out;have:=jZ b.ah;omega
    go_wp2_with (at_builtin;refine Bf rfl (.tmp 41) (.tmp 43) rfl kI (B:=wc.heap.size) (M:=wr.heap.size) nR.out hMs hs Tryz.underlying34 hq hv0 hv1 hv2 rfl (by omega) rfl m [.int .i64 m.uid,.int .i64 m.flags,.int .i64 m.seq,.slice xa xn xc] rfl HE.out ⟨w7.heap.size,0,none⟩ 1 rfl (mO w7 _ _) BL hp1 hp2 ?_)
    intro DV wz hO hgz eO
    obtain ⟨da,dn,dc,mX⟩:=bE.aG hO
    subst mX
    have hge:∀ j,(Value.slice va vn vc).ownBlock=some j→wc.heap.size≤j:=fun j hj=>(eO j hj).1
    have KX:=lF hgz hge (ay AP yx.out) (by omega)
    have nW:=ak (lF hgz hge (ay AP PN.out) (by omega))
    have nX:=ak (lF hgz hge (ay AP nV.out) (by omega))
    have fO:Hid (Below w.heap.size w wz):=rX (Below.step wE.out AP) hgz hge (by omega) (by have:=AP.size;omega)
    have PW:Hid (RO wz (In (w.heap.size+2) wc.heap.size) (.slice na nn nc) b.name):=Yw (PO.out.below AP) hgz hge
    have BQ:Hid (l8 wz (w.heap.size+2) wc.heap.size (.slice ga gn gc) b.au):=bE.Jk (bE.below PS.out AP) hgz hge
    have sz:=hgz.size
    have S7o:=kS.out
    have SPo:=zT.out
    obtain ⟨zx,zl⟩:=bR KX
    obtain ⟨e0,e1,e2,e3,e4,e5,e6⟩:=bF KX
    have uL:Hid ((wz.setCell ⟨bx,4,none⟩ (.slice da dn dc)).heap[bx]?=some (.cells #[.slice na nn nc,.int .i64 b.valid,.int .i64 b.next,.int .i64 b.seq,.slice da dn dc,.slice ga gn gc,.int .i64 b.lost] 37 (0,0))):=aP KX
    have yA:=ak (bP (k:=bx) (i:=4) (v:=.slice da dn dc) nW.out (by omega))
    have qp:=ak (bP (k:=bx) (i:=4) (v:=.slice da dn dc) nX.out (by omega))
    have oP:Hid (Below w.heap.size w (wz.setCell ⟨bx,4,none⟩ (.slice da dn dc))):=fO.out.setCell (p:=⟨bx,4,none⟩) (show w.heap.size≤bx by omega) _
    have YE:Hid (RO (wz.setCell ⟨bx,4,none⟩ (.slice da dn dc)) (In (w.heap.size+2) wc.heap.size) (.slice na nn nc) b.name):=mR PW.out (fun k hk=>Below.heap_setCell _ _ _ _ (show k≠bx from fun e=>by subst e;exact kN KX hk (by decide)))
    have Ju:Hid (l8 (wz.setCell ⟨bx,4,none⟩ (.slice da dn dc)) (w.heap.size+2) wc.heap.size (.slice ga gn gc) b.au):=Px BQ.out (fun k hk=>Below.heap_setCell _ _ _ _ (show k≠bx from fun e=>by subst e;exact kN KX hk (by decide)))
    have oQ:Hid (uz (wz.setCell ⟨bx,4,none⟩ (.slice da dn dc)) wc.heap.size (wz.setCell ⟨bx,4,none⟩ (.slice da dn dc)).heap.size (.slice da dn dc) (b.ah.take (k+1))):=by show uz _ _ _ _ _;rw [aZ,yu HM.out];exact bE.set hO (.inl (by omega))
    have qw:wc.heap.size≤(wz.setCell ⟨bx,4,none⟩ (.slice da dn dc)).heap.size:=by rw [aZ];omega
    clear KX nW nX fO PW BQ yx PN nV wE PO PS PU PV Jt HE nR hO hgz eO hge AP m0 m1 m2 m3 y0 y1 y2 y3 y4 y5 y6
    go_wp2
    go_roundw
    case rel=>exact ⟨k+1,da,dn,dc,by omega,by go_num,oP,yA,qp,uL,YE,Ju,qw,oQ⟩
    case measure=>simp [intOf];omega
   ·obtain rfl:k=b.ah.length:=by omega
    obtain ⟨d0,d1,d2,d3,d4,d5,d6⟩:=bF HX.out
    obtain ⟨r0,r1,r2,r3,r4,r5,r6⟩:=bF aO.out
    obtain ⟨rz,rl⟩:=bR aO.out
    have Jv:Hid (Below w.heap.size w (((((((wr.setCell ⟨w.heap.size+1,0,none⟩ (.slice na nn nc)).setCell ⟨w.heap.size+1,1,none⟩ (.int .i64 b.valid)).setCell ⟨w.heap.size+1,2,none⟩ (.int .i64 b.next)).setCell ⟨w.heap.size+1,3,none⟩ (.int .i64 b.seq)).setCell ⟨w.heap.size+1,4,none⟩ (.slice va vn vc)).setCell ⟨w.heap.size+1,5,none⟩ (.slice ga gn gc)).setCell ⟨w.heap.size+1,6,none⟩ (.int .i64 b.lost))):=(((((((HB.out.setCell (p:=⟨w.heap.size+1,0,none⟩) (by simp) (.slice na nn nc)).setCell (p:=⟨w.heap.size+1,1,none⟩) (by simp) (.int .i64 b.valid)).setCell (p:=⟨w.heap.size+1,2,none⟩) (by simp) (.int .i64 b.next)).setCell (p:=⟨w.heap.size+1,3,none⟩) (by simp) (.int .i64 b.seq)).setCell (p:=⟨w.heap.size+1,4,none⟩) (by simp) (.slice va vn vc)).setCell (p:=⟨w.heap.size+1,5,none⟩) (by simp) (.slice ga gn gc)).setCell (p:=⟨w.heap.size+1,6,none⟩) (by simp) (.int .i64 b.lost))
    have PX:Hid (RO (((((((wr.setCell ⟨w.heap.size+1,0,none⟩ (.slice na nn nc)).setCell ⟨w.heap.size+1,1,none⟩ (.int .i64 b.valid)).setCell ⟨w.heap.size+1,2,none⟩ (.int .i64 b.next)).setCell ⟨w.heap.size+1,3,none⟩ (.int .i64 b.seq)).setCell ⟨w.heap.size+1,4,none⟩ (.slice va vn vc)).setCell ⟨w.heap.size+1,5,none⟩ (.slice ga gn gc)).setCell ⟨w.heap.size+1,6,none⟩ (.int .i64 b.lost)) (In (w.heap.size+2) wc.heap.size) (.slice na nn nc) b.name):=(uI (g:=w.heap.size+1) (i:=6) (x:=.int .i64 b.lost) (uI (g:=w.heap.size+1) (i:=5) (x:=.slice ga gn gc) (uI (g:=w.heap.size+1) (i:=4) (x:=.slice va vn vc) (uI (g:=w.heap.size+1) (i:=3) (x:=.int .i64 b.seq) (uI (g:=w.heap.size+1) (i:=2) (x:=.int .i64 b.next) (uI (g:=w.heap.size+1) (i:=1) (x:=.int .i64 b.valid) (uI (g:=w.heap.size+1) (i:=0) (x:=.slice na nn nc) HN.out (.inl (by omega))) (.inl (by omega))) (.inl (by omega))) (.inl (by omega))) (.inl (by omega))) (.inl (by omega))) (.inl (by omega)))
    have Jw:Hid (l8 (((((((wr.setCell ⟨w.heap.size+1,0,none⟩ (.slice na nn nc)).setCell ⟨w.heap.size+1,1,none⟩ (.int .i64 b.valid)).setCell ⟨w.heap.size+1,2,none⟩ (.int .i64 b.next)).setCell ⟨w.heap.size+1,3,none⟩ (.int .i64 b.seq)).setCell ⟨w.heap.size+1,4,none⟩ (.slice va vn vc)).setCell ⟨w.heap.size+1,5,none⟩ (.slice ga gn gc)).setCell ⟨w.heap.size+1,6,none⟩ (.int .i64 b.lost)) (w.heap.size+2) wc.heap.size (.slice ga gn gc) b.au):=(bE.set (i:=6) (x:=.int .i64 b.lost) (bE.set (i:=5) (x:=.slice ga gn gc) (bE.set (i:=4) (x:=.slice va vn vc) (bE.set (i:=3) (x:=.int .i64 b.seq) (bE.set (i:=2) (x:=.int .i64 b.next) (bE.set (i:=1) (x:=.int .i64 b.valid) (bE.set (i:=0) (x:=.slice na nn nc) HG.out (.inl (by omega))) (.inl (by omega))) (.inl (by omega))) (.inl (by omega))) (.inl (by omega))) (.inl (by omega))) (.inl (by omega)))
    have Jy:Hid (uz (((((((wr.setCell ⟨w.heap.size+1,0,none⟩ (.slice na nn nc)).setCell ⟨w.heap.size+1,1,none⟩ (.int .i64 b.valid)).setCell ⟨w.heap.size+1,2,none⟩ (.int .i64 b.next)).setCell ⟨w.heap.size+1,3,none⟩ (.int .i64 b.seq)).setCell ⟨w.heap.size+1,4,none⟩ (.slice va vn vc)).setCell ⟨w.heap.size+1,5,none⟩ (.slice ga gn gc)).setCell ⟨w.heap.size+1,6,none⟩ (.int .i64 b.lost)) wc.heap.size wr.heap.size (.slice va vn vc) b.ah):=by
      have h:uz wr wc.heap.size wr.heap.size (.slice va vn vc) b.ah:=by have:=HO.out;rwa [List.take_length] at this
      exact (bE.set (i:=6) (x:=.int .i64 b.lost) (bE.set (i:=5) (x:=.slice ga gn gc) (bE.set (i:=4) (x:=.slice va vn vc) (bE.set (i:=3) (x:=.int .i64 b.seq) (bE.set (i:=2) (x:=.int .i64 b.next) (bE.set (i:=1) (x:=.int .i64 b.valid) (bE.set (i:=0) (x:=.slice na nn nc) h (.inl (by omega))) (.inl (by omega))) (.inl (by omega))) (.inl (by omega))) (.inl (by omega))) (.inl (by omega))) (.inl (by omega)))
    have KF:=(aP (i:=6) (v:=.int .i64 b.lost) (aP (i:=5) (v:=.slice ga gn gc) (aP (i:=4) (v:=.slice va vn vc) (aP (i:=3) (v:=.int .i64 b.seq) (aP (i:=2) (v:=.int .i64 b.next) (aP (i:=1) (v:=.int .i64 b.valid) (aP (i:=0) (v:=.slice na nn nc) aO.out)))))))
    obtain ⟨f0,f1,f2,f3,f4,f5,f6⟩:=bF KF
    have zU:Hid ((((((((wr.setCell ⟨w.heap.size+1,0,none⟩ (.slice na nn nc)).setCell ⟨w.heap.size+1,1,none⟩ (.int .i64 b.valid)).setCell ⟨w.heap.size+1,2,none⟩ (.int .i64 b.next)).setCell ⟨w.heap.size+1,3,none⟩ (.int .i64 b.seq)).setCell ⟨w.heap.size+1,4,none⟩ (.slice va vn vc)).setCell ⟨w.heap.size+1,5,none⟩ (.slice ga gn gc)).setCell ⟨w.heap.size+1,6,none⟩ (.int .i64 b.lost)).heap.size=wr.heap.size):=by show _=_;simp only [aZ]
    clear KF c0 c1 c2 c3 c5 c6 bU
    go_wp2
    refine bodyPost_ret (v:=.agg #[.slice na nn nc,.int .i64 b.valid,.int .i64 b.next,.int .i64 b.seq,.slice va vn vc,.slice ga gn gc,.int .i64 b.lost]) (by simp [results,Tryz.results53,go_sem,f0,f1,f2,f3,f4,f5,f6]) rfl ⟨_,rfl,?_,Jv.out⟩
    exact ⟨_,rfl,_,_,_,(fun x=>In (w.heap.size+2) wc.heap.size x∧(Value.slice na nn nc).ownBlock=some x),In wc.heap.size wr.heap.size,(fun x=>In (w.heap.size+2) wc.heap.size x∧Ty (((((((wr.setCell ⟨w.heap.size+1,0,none⟩ (.slice na nn nc)).setCell ⟨w.heap.size+1,1,none⟩ (.int .i64 b.valid)).setCell ⟨w.heap.size+1,2,none⟩ (.int .i64 b.next)).setCell ⟨w.heap.size+1,3,none⟩ (.int .i64 b.seq)).setCell ⟨w.heap.size+1,4,none⟩ (.slice va vn vc)).setCell ⟨w.heap.size+1,5,none⟩ (.slice ga gn gc)).setCell ⟨w.heap.size+1,6,none⟩ (.int .i64 b.lost)) x 126),rfl,Yx PX.out,Jy.out,Yz Jw.out,(fun x hx=>⟨⟨by have:=hx.1.1;omega,by have:=hx.1.2;rw [zU.out];omega⟩,fun h=>by have:=hx.1.2;have:=h.1;omega,fun h=>by obtain ⟨cs,fz,h3⟩:=Yy PX.out hx.2;exact kN h3 h.2 (by decide)⟩),(fun x hx=>⟨⟨by have:=hx.1;omega,by have:=hx.2;rw [zU.out];omega⟩,fun h=>by have:=hx.1;have:=h.1.2;omega⟩),(fun x hx=>⟨by have:=hx.1.1;omega,by have:=hx.1.2;rw [zU.out];omega⟩),wB.out⟩
end Go.Proofs.YtlneebmlhblleaaGreat
