/- The proof's texts, part 7. -/
import Derived.Test.YtfabngnaejjcmaaGreatDoorT4
import Derived.Test.YtfabngnaejjcmaaGreatDoorT5
import Derived.Deep.DeepCutAuto
namespace Go.Proofs.YtfabngnaejjcmaaGreatDoor
open Go.RowKit
set_option linter.unusedVariables false
set_option linter.unusedSimpArgs false
set_option maxHeartbeats 8000000
set_option maxRecDepth 100000
/- What ajR of package spec does: a box is copied, with all that it leads to. -/
theorem Aq.aP {α:Type} {t:TypeId} {sz:Nat} {E:World->List Value->α->(Nat->Prop)->Prop} {w:World} {S:Nat->Prop} {v:Value} {l:List α} (h:Ow t sz E w S v l):∃a n cap,v=.slice a n cap:=by
 rcases h with⟨rfl,_⟩ | ⟨g,cap,cur,cs,fs,hv,_⟩
 ·exact⟨_,_,_,rfl⟩
 ·exact⟨_,_,_,hv⟩
section
variable {w w' : World} {B sz n : Nat} {e t : TypeId} {v : Value} {xs : List Value} {g : Nat} {S : Nat -> Prop}
/-- The block's cells bear a type. -/
def Ty (w:World) (g:Nat) (t:TypeId):Prop:=∃cs fz,w.heap[g]?=some (.cells cs t fz)
theorem dX {cs:Array Value} {fz:Nat × Nat} (h:w.heap[g]?=some (.cells cs t fz)) (h2:Ty w g e) (hne:t≠e):False:=by
 obtain⟨cs',fz',h3⟩:=h2;rw[h] at h3;simp only[Option.some.injEq,Obj.cells.injEq] at h3;exact hne h3.2.1
theorem own_below (h:w.ownsRow B e sz v n xs) (hb:Below w.heap.size w w'):w'.ownsRow B e sz v n xs:=by
 refine⟨h.1,?_⟩;rcases h.2 with hn | ⟨g,cap,cur,hv,hg,hh,r⟩
 ·exact .inl hn
 ·exact .inr ⟨g,cap,cur,hv,hg,aA hb hh,r⟩
theorem rZ {a:Addr} {m c:Nat} (h:w.ownsRow B e sz (.slice (some a) m c) n xs):Ty w a.block e:=by
 rcases h.2 with⟨hn,_⟩ | ⟨g,cap,cur,hv,hg,hh,r⟩
 ·cases hn
 ·simp only[Value.slice.injEq,Option.some.injEq] at hv
  rw[hv.1];exact⟨_,_,hh⟩
theorem dS (h:w.ownsRow B e sz v n xs) {k:Nat} (hk:v.ownBlock=some k):B<=k:=by
 rcases h.2 with⟨hn,_⟩ | ⟨g,cap,cur,hv,hg,hh,r⟩
 ·rw[hn] at hk;simp[Value.ownBlock] at hk
 ·rw[hv] at hk;simp only[Value.ownBlock,Option.some.injEq] at hk;omega
theorem wh (h:w.ownsRow B e sz v n xs) (hg:w.grownBy w' (some g)) (ht:Ty w g t) (hne:e≠t):w'.ownsRow B e sz v n xs:=by
 refine⟨h.1,?_⟩;rcases h.2 with hn | ⟨k,cap,cur,hv,hk,hh,r⟩
 ·exact .inl hn
 ·exact .inr ⟨k,cap,cur,hv,hk,uf hg hh (λe2=>by subst e2;exact dX hh ht hne),r⟩
theorem Hq {cs:Array Value} {fz:Nat × Nat} {k:Nat} (hg:w.grownBy w' (some g)) (h:w.heap[k]?=some (.cells cs e fz)) (ht:Ty w g t) (hne:e≠t):w'.heap[k]?=some (.cells cs e fz):=uf hg h (λe2=>by subst e2;exact dX h ht hne)
theorem lM {l:List Int} (h:RO w S v l) (hw:∀k,Ty w k 5->w'.heap[k]?=w.heap[k]?):RO w' S v l:=by
 refine⟨h.1,⟨h.2.1.1,?_⟩,h.2.2⟩;rcases h.2.1.2 with hn | ⟨k,cap,cur,hv,hk,hh,r⟩
 ·exact .inl hn
 ·exact .inr ⟨k,cap,cur,hv,hk,(hw k ⟨_,_,hh⟩).trans hh,r⟩
theorem Z9 {l:List Int} (h:RO w S v l) (hg:w.grownBy w' (some g)) (ht:Ty w g t) (hne:5≠t):RO w' S v l :=
 ⟨h.1,wh h.2.1 hg ht hne,h.2.2⟩
theorem Q8 {l:List bE} (h:lI w S v l) (hw:∀k,Ty w k 115->w'.heap[k]?=w.heap[k]?):lI w' S v l:=by
 rcases h with h | ⟨k,cap,cur,cs,fs,hv,hh,r⟩
 ·exact .inl h
 ·exact .inr ⟨k,cap,cur,cs,fs,hv,(hw k ⟨_,_,hh⟩).trans hh,r⟩
theorem aac {l:List bE} (h:lI w S v l) (hg:w.grownBy w' (some g)) (ht:Ty w g t) (hne:115≠t):lI w' S v l:=by
 rcases h with h | ⟨k,cap,cur,cs,fs,hv,hh,r⟩
 ·exact .inl h
 ·exact .inr ⟨k,cap,cur,cs,fs,hv,uf hg hh (λe2=>by subst e2;exact dX hh ht hne),r⟩
theorem lQ {w0:World} (h:Below w0.heap.size w0 w) (hg:w.grownBy w' (some g)) (h0:w0.heap.size<=g):Below w0.heap.size w0 w' :=
 ⟨hg.os.trans h.os,hg.tape.trans h.tape,hg.output.trans h.output,Nat.le_trans h.size hg.size,λk hk=>(hg.block k (Nat.lt_of_lt_of_le hk h.size) λe=>by simp only[Option.some.injEq] at e;omega).trans (h.block k hk)⟩
theorem La {l:List Int} {N:Nat} (h:RO w (λk=>N<=k) v l):RO w (In N w.heap.size) v l:=by
 refine⟨h.1,h.2.1,λg hg=>⟨h.2.2 g hg,?_⟩⟩;rcases h.2.1.2 with⟨hn,_⟩ | ⟨k,cap,cur,hv,hk,hh,r⟩
 ·rw[hn] at hg;simp[Value.ownBlock] at hg
 ·rw[hv] at hg;simp only[Value.ownBlock,Option.some.injEq] at hg;rw[← hg];exact lt_of_heap hh
theorem aad {l:List bE} {N:Nat} (h:lI w (λk=>N<=k) v l):ni w N w.heap.size v l:=by
 rcases h with h | ⟨k,cap,cur,cs,fs,hv,hh,h1,h2,h3,h4,h5,h6,h7⟩
 ·exact .inl h
 ·exact .inr ⟨k,cap,cur,cs,λ_ _=>False,hv,hh,h1,h2,h3,⟨h4,lt_of_heap hh⟩,λi x hx=>⟨(h5 i x hx).1,(h5 i x hx).2⟩,by simp,by simp⟩
theorem aae {l:List Int} {N M:Nat} (h:RO w (In N M) v l) (hg:w.grownBy w' (some g)) (hd:g < N\/M<=g):RO w' (In N M) v l :=
 h.frame λb hb hlt=>hg.block b hlt λe=>by have:=hb.1;have:=hb.2;simp only[Option.some.injEq] at e;omega
theorem um {l:List Int} {N M i:Nat} {x:Value} (h:RO w (In N M) v l) (hd:g < N\/M<=g):RO (w.setCell ⟨g,i,none⟩ x) (In N M) v l :=
 h.frame λb hb _=>Below.heap_setCell _ _ _ _ (show b≠g by have:=hb.1;have:=hb.2;omega)
theorem aaf {l:List Int} {N M:Nat} {row:Option Nat} (h:RO w (In N M) v l) (hg:w.grownBy w' row) (hd:∀j,row=some j->M<=j):RO w' (In N M) v l :=
 h.frame λb hb hlt=>hg.block b hlt λe=>by have:=hd b e.symm;have:=hb.2;omega
theorem aag {l:List Int} (h:RO w S v l):RO w (λk=>S k/\v.ownBlock=some k) v l:=⟨h.1,h.2.1,λg hg=>⟨h.2.2 g hg,hg⟩⟩
theorem aah {l:List Int} {k:Nat} (h:RO w S v l) (hk:v.ownBlock=some k):Ty w k 5:=by
 rcases h.2.1.2 with⟨hn,_⟩ | ⟨g,cap,cur,hv,_,hh,r⟩
 ·rw[hn] at hk;simp[Value.ownBlock] at hk
 ·rw[hv] at hk;simp only[Value.ownBlock,Option.some.injEq] at hk;rw[← hk];exact⟨_,_,hh⟩
theorem aai {l:List bE} (h:lI w S v l):lI w (λk=>S k/\Ty w k 115) v l:=by
 rcases h with h | ⟨k,cap,cur,cs,fs,hv,hh,h1,h2,h3,h4,h5,h6,h7⟩
 ·exact .inl h
 ·exact .inr ⟨k,cap,cur,cs,λ_ _=>False,hv,hh,h1,h2,h3,⟨h4,_,_,hh⟩,λi x hx=>⟨(h5 i x hx).1,(h5 i x hx).2⟩,by simp,by simp⟩
end
theorem Dp {a:Option Addr} {n c:Nat} {i j k:Int}:∀u ∈ [Value.int .i64 i,.int .i64 j,.int .i64 k,.slice a n c],Value.oneCell' u=true:=by
 intro u hu;simp only[List.mem_cons,List.not_mem_nil,or_false] at hu;rcases hu with rfl | rfl | rfl | rfl <;> rfl
theorem aU {p:Prop} (h:p):Hid p:=h
theorem Ar {α:Type} {l:List α} {k:Nat} {x:α} (h:l[k]?=some x):l.take (k+1)=l.take k ++ [x]:=by
 rw[List.take_add_one,h];rfl
theorem Q9 (v:Value) (b:aB) (w:World) (hv:bT w v b) (hs:bG b<=2000000) :
  Calls Tryz.prog 74 #[v] w λe w'=>∃u,e=.returned u/\KO w' (In w.heap.size w'.heap.size) u b/\Below w.heap.size w w':=by
 have HV:Hid (∀wi,Below w.heap.size w wi->bT wi v b):=λwi h=>hv.below h;obtain⟨u0,u1,u2,rfl,g0,g1,g2,hint⟩:=hv;have Au:Hid (av b.valid/\av b.next/\av b.seq/\av b.lost):=hint;have aaj:Hid (Oct b.name):=g0.1;have aak:Hid (∀wi,Below w.heap.size w wi->Bs wi u0 b.name):=λwi h=>g0.below h;have aal:Hid (∀wi,Below w.heap.size w wi->jE wi u1 b.ah):=λwi h=>g1.below kP h;have aam:Hid (∀wi,Below w.heap.size w wi->jF wi u2 b.au):=λwi h=>g2.below kN h;have hsz:b.name.length<=2000000/\iq b.ah<=2000000/\b.au.length<=2000000:=by unfold bG at hs;omega
 obtain⟨a0,eP,eT,rfl⟩:=g0.aP;obtain⟨a1,jT,rfl,hml,-⟩:=g1.form;obtain⟨a2,iW,rfl,-⟩:=g2.form;obtain⟨i0,hi,hz0,hz1,hz2⟩:=info_parts info5;obtain⟨i1,hj,hy0,hy1,hy2⟩:=info_parts GQ;obtain⟨i2,hq,hv0,hv1,hv2⟩:=info_parts GN;have aan:b.ah.length<=2000000:=by have:=mG b.ah;omega
 have hl1:b.name.length<=maxLen:=by unfold maxLen;omega
 have hl2:b.name.length * 1<=140737488355328:=by omega
 have hl3:b.au.length<=maxLen:=by unfold maxLen;omega
 have hl4:b.au.length * 16<=140737488355328:=by omega
 obtain⟨kA,kR,X⟩:=mE w (.cells #[.slice a0 eP eT,.int .i64 b.valid,.int .i64 b.next,.int .i64 b.seq,.slice a1 b.ah.length jT,.slice a2 b.au.length iW,.int .i64 b.lost] 70) (.cells #[.slice none 0 0,.int .i64 0,.int .i64 0,.int .i64 0,.slice none 0 0,.slice none 0 0,.int .i64 0] 70);have HX:Hid _:=X;have iJ:Hid _:=kA;have aR:Hid _:=kR
 have hs0:((w.alloc (.cells #[.slice a0 eP eT,.int .i64 b.valid,.int .i64 b.next,.int .i64 b.seq,.slice a1 b.ah.length jT,.slice a2 b.au.length iW,.int .i64 b.lost] 70)).alloc (.cells #[.slice none 0 0,.int .i64 0,.int .i64 0,.int .i64 0,.slice none 0 0,.slice none 0 0,.int .i64 0] 70)).heap.size=w.heap.size+2:=by simp
 have wm:Hid _:=hs0;clear g0 g1 g2 hint X kA kR hs0 hs
 go_enter Tryz.func74,Tryz.ntmps74;go_upto_region 1 with fail
 generalize hw0:(w.alloc (.cells #[.slice a0 eP eT,.int .i64 b.valid,.int .i64 b.next,.int .i64 b.seq,.slice a1 b.ah.length jT,.slice a2 b.au.length iW,.int .i64 b.lost] 70)).alloc (.cells #[.slice none 0 0,.int .i64 0,.int .i64 0,.int .i64 0,.slice none 0 0,.slice none 0 0,.int .i64 0] 70)=w0 at *
 clear hw0;obtain⟨N,hNe⟩:∃N,N=w.heap.size+2:=⟨_,rfl⟩;have sj:Hid (N=w.heap.size+2):=hNe;clear hNe
 go_cut [3] (λs wx=>∃bx na nn nc ga gn gc,s=.pointer (some ⟨bx,0,none⟩)/\Hid (wx.heap[bx]?=some (.cells #[.slice na nn nc,.int .i64 b.valid,.int .i64 b.next,.int .i64 b.seq,.slice none 0 0,.slice ga gn gc,.int .i64 b.lost] 70 (0,0)))/\Hid (RO wx (λk=>N<=k) (.slice na nn nc) b.name)/\Hid (lI wx (λk=>N<=k) (.slice ga gn gc) b.au)/\N<=bx/\Hid (Below w0.heap.size w0 wx))
 case first =>
  have HS:Hid (∀w',Below w0.heap.size w0 w'->w'.cell? ⟨w.heap.size,0,none⟩=some (.slice a0 eP eT)/\w'.cell? ⟨w.heap.size,1,none⟩=some (.int .i64 b.valid)/\w'.cell? ⟨w.heap.size,2,none⟩=some (.int .i64 b.next)/\w'.cell? ⟨w.heap.size,3,none⟩=some (.int .i64 b.seq)/\w'.cell? ⟨w.heap.size,5,none⟩=some (.slice a2 b.au.length iW)/\w'.cell? ⟨w.heap.size,6,none⟩=some (.int .i64 b.lost)):=λw' h=>by
   obtain⟨c0,c1,c2,c3,c4,c5,c6⟩:=fV (aA h iJ.out);exact⟨c0,c1,c2,c3,c5,c6⟩
  have qD:Hid (∀w',Below w0.heap.size w0 w'->Bs w' (.slice a0 eP eT) b.name):=λw' h=>aak.out w' (Below.step HX.out h);have HGN:Hid (∀w',Below w0.heap.size w0 w'->jF w' (.slice a2 b.au.length iW) b.au):=λw' h=>aam.out w' (Below.step HX.out h);have hN0:N<=w0.drew.heap.size:=by have:=wm.out;have:=sj.out;show N<=w0.heap.size;omega
  have D0:Hid (Below w0.heap.size w0 w0.drew):=(bd _ _);clear wm sj
  refine wp_region_held_drew (S:=λw'=>w'.cell? ⟨w.heap.size,0,none⟩=some (.slice a0 eP eT)/\w'.cell? ⟨w.heap.size,1,none⟩=some (.int .i64 b.valid)/\w'.cell? ⟨w.heap.size,2,none⟩=some (.int .i64 b.next)/\w'.cell? ⟨w.heap.size,3,none⟩=some (.int .i64 b.seq)/\w'.cell? ⟨w.heap.size,5,none⟩=some (.slice a2 b.au.length iW)/\w'.cell? ⟨w.heap.size,6,none⟩=some (.int .i64 b.lost)) (by kernel_rfl) (HS.out _ D0.out) (λal3=>(show wpAnyH _ _ _ _ _ 19 #[false,false,false,false,false,false,false,false,false,false,false,false,false,false,false,false,false,false,false] _ _ from ?_));refine tq 1 7 al3 ?_
  refine tq 2 8 al3 ?_;refine tq 4 10 al3 ?_;refine tq 5 11 al3 ?_;refine tq 6 12 al3 ?_;refine tq 7 13 al3 ?_;refine tq 8 14 al3 ?_;refine tq 9 15 al3 ?_;refine tq 11 17 al3 ?_;refine tq 12 18 al3 ?_;refine tq 14 20 al3 ?_;refine tq 15 21 al3 ?_;generalize w0.drew=x at *
  have hN:=hN0;have D:=D0;clear hN0 D0
  repeat' (first
   | exact AllReadyH.nil
   | refine AllReadyH.cons rfl (λK hK=>?_) ?_
   | refine tq 16 22 al3 ?_
   | refine wpAnyH_ready (rs:=[0,10,17]) (by decide +kernel) (by simp) ?_
   | refine wpAnyH_ready (rs:=[3,10,17]) (by decide +kernel) (by simp) ?_
   | refine wpAnyH_ready (rs:=[10,17]) (by decide +kernel) (by simp) ?_
   | refine wpAnyH_ready (rs:=[0,17]) (by decide +kernel) (by simp) ?_
   | refine wpAnyH_ready (rs:=[0,10]) (by decide +kernel) (by simp) ?_
   | refine wpAnyH_ready (rs:=[3,17]) (by decide +kernel) (by simp) ?_
   | refine wpAnyH_ready (rs:=[3,10]) (by decide +kernel) (by simp) ?_
   | refine wpAnyH_ready (rs:=[13,17]) (by decide +kernel) (by simp) ?_
   | refine wpAnyH_ready (rs:=[17]) (by decide +kernel) (by simp) ?_
   | refine wpAnyH_ready (rs:=[10]) (by decide +kernel) (by simp) ?_
   | refine wpAnyH_ready (rs:=[3]) (by decide +kernel) (by simp) ?_
   | refine wpAnyH_ready (rs:=[0]) (by decide +kernel) (by simp) ?_
   | refine wpAnyH_ready (rs:=[13]) (by decide +kernel) (by simp) ?_
   | refine wpAnyH_ready (rs:=[18]) (by decide +kernel) (by simp) ?_
   | (
     refine eZ (by kernel_rfl) (mI (B:=N) 9 rfl (.tmp 6) (.tmp 8) rfl uo.out (Bs.rV (qD.out _ D.out)) (one_byte _) Tryz.underlying22 hi hz0 hz1 hz2 rfl (by omega) rfl rfl hl1 hl2 hN ?_);intro V y xs hO hX hG hB;have hG':x.grownBy y (some e0):=hG;have KE:=rZ uo.out
     try replace uq:Hid _:=wh uq.out hG' KE (by decide)
     try replace uw:Hid _:=aac uw.out hG' KE (by decide)
     try replace oV:Hid _:=Hq hG' oV.out KE (by decide)
     replace D:Hid (Below w0.heap.size w0 y):=lQ D.out hG' he0;replace hN:N<=y.heap.size:=Nat.le_trans hN hG'.size;have hR:RO y (λk=>N<=k) V b.name:=rW aaj.out hO hX (λg hg=>dS hO hg);obtain⟨na,nn,nc,hV⟩:=hR.bs.aP;subst hV;have uz:Hid (RO y (λk=>N<=k) (.slice na nn nc) b.name):=hR;refine hK.out _ _ (HS.out _ D.out) (λal3=>?_);clear hK K hO hX hG hG' hB KE hR uo
     conv=>arg 8;simp only[Act.put,sA,s0,sS]
     generalize y=x at *)
   | (
     refine eZ (by kernel_rfl) (mI (B:=N) 19 rfl (.tmp 16) (.tmp 18) rfl uq.out (HGN.out _ D.out) (GV _) Tryz.underlying68 hj hy0 hy1 hy2 rfl (by omega) rfl rfl hl3 hl4 hN ?_);intro V y xs hO hX hG hB;have hG':x.grownBy y (some e1):=hG;have KE:=rZ uq.out
     try replace uo:Hid _:=wh uo.out hG' KE (by decide)
     try replace uz:Hid _:=Z9 uz.out hG' KE (by decide)
     try replace oV:Hid _:=Hq hG' oV.out KE (by decide)
     replace D:Hid (Below w0.heap.size w0 y):=lQ D.out hG' he1;replace hN:N<=y.heap.size:=Nat.le_trans hN hG'.size;have hR:lI y (λk=>N<=k) V b.au:=K3 hO hX (λg hg=>dS hO hg);obtain⟨ga,gn,gc,hV⟩:=Aq.aP hR;subst hV;have uw:Hid (lI y (λk=>N<=k) (.slice ga gn gc) b.au):=hR;refine hK.out _ _ (HS.out _ D.out) (λal3=>?_);clear hK K hO hX hG hG' hB KE hR uq
     conv=>arg 8;simp only[Act.put,sA,s0,sS]
     generalize y=x at *)
   | (
     go_simp;have AB:Below x.heap.size x (x.alloc (.cells #[] 5)):=bn _ _;have he0:=D.out.size;have ne0:=hN;have uo:Hid _:=lK x 5 1 N hN
     try replace uq:Hid _:=own_below uq.out AB
     try replace uz:Hid _:=RO.below uz.out AB
     try replace uw:Hid _:=Ow.below xZ uw.out AB
     try replace oV:Hid _:=aA AB oV.out
     replace D:Hid (Below w0.heap.size w0 (x.alloc (.cells #[] 5))):=Below.step D.out AB;replace hN:N<=(x.alloc (.cells #[] 5)).heap.size:=Nat.le_trans hN AB.size;refine hK.out _ (x.alloc (.cells #[] 5)) (HS.out _ D.out) (λal3=>?_);clear hK K AB;generalize x.heap.size=e0 at *
     generalize hw:x.alloc (.cells #[] 5)=x at *
     clear hw)
   | (
     go_simp;have AB:Below x.heap.size x (x.alloc (.cells #[] 115)):=bn _ _;have he1:=D.out.size;have ne1:=hN;have uq:Hid _:=lK x 115 2 N hN
     try replace uo:Hid _:=own_below uo.out AB
     try replace uz:Hid _:=RO.below uz.out AB
     try replace uw:Hid _:=Ow.below xZ uw.out AB
     try replace oV:Hid _:=aA AB oV.out
     replace D:Hid (Below w0.heap.size w0 (x.alloc (.cells #[] 115))):=Below.step D.out AB;replace hN:N<=(x.alloc (.cells #[] 115)).heap.size:=Nat.le_trans hN AB.size;refine hK.out _ (x.alloc (.cells #[] 115)) (HS.out _ D.out) (λal3=>?_);clear hK K AB;generalize x.heap.size=e1 at *
     generalize hw:x.alloc (.cells #[] 115)=x at *
     clear hw)
   | (
     go_simp;have AB:Below x.heap.size x (x.alloc (.cells #[.slice none 0 0,.int .i64 0,.int .i64 0,.int .i64 0,.slice none 0 0,.slice none 0 0,.int .i64 0] 70)):=bn _ _;have hbx:=D.out.size;have nbx:=hN;have oV:Hid ((x.alloc (.cells #[.slice none 0 0,.int .i64 0,.int .i64 0,.int .i64 0,.slice none 0 0,.slice none 0 0,.int .i64 0] 70)).heap[x.heap.size]?=some (.cells #[.slice none 0 0,.int .i64 0,.int .i64 0,.int .i64 0,.slice none 0 0,.slice none 0 0,.int .i64 0] 70 (0,0))):=aW x _
     try replace uo:Hid _:=own_below uo.out AB
     try replace uq:Hid _:=own_below uq.out AB
     try replace uz:Hid _:=RO.below uz.out AB
     try replace uw:Hid _:=Ow.below xZ uw.out AB
     replace D:Hid (Below w0.heap.size w0 (x.alloc (.cells #[.slice none 0 0,.int .i64 0,.int .i64 0,.int .i64 0,.slice none 0 0,.slice none 0 0,.int .i64 0] 70))):=Below.step D.out AB;replace hN:N<=(x.alloc (.cells #[.slice none 0 0,.int .i64 0,.int .i64 0,.int .i64 0,.slice none 0 0,.slice none 0 0,.int .i64 0] 70)).heap.size:=Nat.le_trans hN AB.size;refine hK.out _ (x.alloc (.cells #[.slice none 0 0,.int .i64 0,.int .i64 0,.int .i64 0,.slice none 0 0,.slice none 0 0,.int .i64 0] 70)) (HS.out _ D.out) (λal3=>?_);clear hK K AB;generalize x.heap.size=bx at *
     generalize hw:x.alloc (.cells #[.slice none 0 0,.int .i64 0,.int .i64 0,.int .i64 0,.slice none 0 0,.slice none 0 0,.int .i64 0] 70)=x at *
     clear hw)
   | (
     obtain⟨zx,zl⟩:=aO oV.out;obtain⟨q0,q1,q2,q3,q4,q5,q6⟩:=fV oV.out;have KF:=(aD (i:=6) (v:=.int .i64 b.lost) (aD (i:=5) (v:=.slice ga gn gc) (aD (i:=4) (v:=.slice none 0 0) (aD (i:=3) (v:=.int .i64 b.seq) (aD (i:=2) (v:=.int .i64 b.next) (aD (i:=1) (v:=.int .i64 b.valid) (aD (i:=0) (v:=.slice na nn nc) oV.out)))))))
     have DF:=(((((((D.out.setCell (p:=⟨bx,0,none⟩) hbx (.slice na nn nc)).setCell (p:=⟨bx,1,none⟩) hbx (.int .i64 b.valid)).setCell (p:=⟨bx,2,none⟩) hbx (.int .i64 b.next)).setCell (p:=⟨bx,3,none⟩) hbx (.int .i64 b.seq)).setCell (p:=⟨bx,4,none⟩) hbx (.slice none 0 0)).setCell (p:=⟨bx,5,none⟩) hbx (.slice ga gn gc)).setCell (p:=⟨bx,6,none⟩) hbx (.int .i64 b.lost))
     obtain⟨Z,hZ⟩:∃Z,Z=(((((((x.setCell ⟨bx,0,none⟩ (.slice na nn nc)).setCell ⟨bx,1,none⟩ (.int .i64 b.valid)).setCell ⟨bx,2,none⟩ (.int .i64 b.next)).setCell ⟨bx,3,none⟩ (.int .i64 b.seq)).setCell ⟨bx,4,none⟩ (.slice none 0 0)).setCell ⟨bx,5,none⟩ (.slice ga gn gc)).setCell ⟨bx,6,none⟩ (.int .i64 b.lost)):=⟨_,rfl⟩;rw[← hZ] at KF DF
     have hoth:∀k,k≠bx->Z.heap[k]?=x.heap[k]?:=λk hk=>by rw[hZ,Below.heap_setCell _ _ _ _ (show k≠bx from hk),Below.heap_setCell _ _ _ _ (show k≠bx from hk),Below.heap_setCell _ _ _ _ (show k≠bx from hk),Below.heap_setCell _ _ _ _ (show k≠bx from hk),Below.heap_setCell _ _ _ _ (show k≠bx from hk),Below.heap_setCell _ _ _ _ (show k≠bx from hk),Below.heap_setCell _ _ _ _ (show k≠bx from hk)]
     have RF:RO Z (λk=>N<=k) (.slice na nn nc) b.name:=lM uz.out (λk hk=>hoth k λe=>by subst e;exact dX oV.out hk (by decide));have GF:lI Z (λk=>N<=k) (.slice ga gn gc) b.au:=Q8 uw.out (λk hk=>hoth k λe=>by subst e;exact dX oV.out hk (by decide));subst hZ;go_simp;refine hK.out _ _ (HS.out _ DF) (λal3=>?_);clear hK K;refine wpAnyH_done (by kernel_rfl) ?_ _;go_wp2;go_meet
     case rel=>exact⟨_,_,_,_,_,_,_,rfl,KF,RF,GF,nbx,DF⟩))
 case rest =>
  obtain⟨bx,na,nn,nc,ga,gn,gc,rfl,su,Dq,Ra,hbx,HD⟩:=hcut;have hs2:w0.heap.size=w.heap.size+2:=wm.out;have hNe:=sj.out;subst hNe;have HB0:Hid (Below w.heap.size w wc):=Below.step HX.out HD.out;have Rb:Hid (wc.heap[w.heap.size]?=some (.cells #[.slice a0 eP eT,.int .i64 b.valid,.int .i64 b.next,.int .i64 b.seq,.slice a1 b.ah.length jT,.slice a2 b.au.length iW,.int .i64 b.lost] 70 (0,0))):=aA HD.out iJ.out;have bN:Hid (wc.heap[w.heap.size+1]?=some (.cells #[.slice none 0 0,.int .i64 0,.int .i64 0,.int .i64 0,.slice none 0 0,.slice none 0 0,.int .i64 0] 70 (0,0))):=aA HD.out aR.out
  have Rc:Hid (RO wc (In (w.heap.size+2) wc.heap.size) (.slice na nn nc) b.name):=La Dq.out;have Rf:Hid (ni wc (w.heap.size+2) wc.heap.size (.slice ga gn gc) b.au):=aad Ra.out;have hlx:=lt_of_heap su.out;have hwc:w.heap.size+2<=wc.heap.size:=by omega
  clear HD HX iJ aR Dq Ra wm sj hs2;go_wp2
  go_loopw [4] (λi wr=>∃(k:Nat) (va:Option Addr) (vn vc:Nat),k<=b.ah.length/\i=.int .i64 k/\Hid (Below w.heap.size w wr)/\Hid (wr.heap[w.heap.size]?=some (.cells #[.slice a0 eP eT,.int .i64 b.valid,.int .i64 b.next,.int .i64 b.seq,.slice a1 b.ah.length jT,.slice a2 b.au.length iW,.int .i64 b.lost] 70 (0,0)))/\Hid (wr.heap[w.heap.size+1]?=some (.cells #[.slice none 0 0,.int .i64 0,.int .i64 0,.int .i64 0,.slice none 0 0,.slice none 0 0,.int .i64 0] 70 (0,0)))/\Hid (wr.heap[bx]?=some (.cells #[.slice na nn nc,.int .i64 b.valid,.int .i64 b.next,.int .i64 b.seq,.slice va vn vc,.slice ga gn gc,.int .i64 b.lost] 70 (0,0)))/\Hid (RO wr (In (w.heap.size+2) wc.heap.size) (.slice na nn nc) b.name)/\Hid (ni wr (w.heap.size+2) wc.heap.size (.slice ga gn gc) b.au)/\wc.heap.size<=wr.heap.size/\Hid (vS wr wc.heap.size wr.heap.size (.slice va vn vc) (b.ah.take k))) (λi _=>b.ah.length - (intOf i).toNat)
  case atStart=>exact⟨0,none,0,0,Nat.zero_le _,rfl,HB0,Rb,bN,su,Rc,Rf,Nat.le_refl _,.inl ⟨rfl,rfl⟩⟩
  case round =>
   obtain⟨k,va,vn,vc,hk,rfl,HB,iJ,aR,HX,HN,HG,hs,HO⟩:=hrel;clear HB0 Rb bN su Rc Rf;obtain⟨c0,c1,c2,c3,c4,c5,c6⟩:=fV iJ.out;have lA:=lt_of_heap iJ.out;have lX:=lt_of_heap HX.out
   by_cases hlt:k < b.ah.length
   ·obtain⟨m,hm⟩:∃m,b.ah[k]?=some m:=⟨b.ah[k],bK hlt⟩
    have hmem:m ∈ b.ah:=List.mem_of_getElem? hm;have hmt:m.text.length+1<=iq b.ah:=KP hmem;obtain⟨bb,off,cp,t,hv',hlb,d0,d1,d2,d3,ht,hi3⟩:=jE.cell (aal.out wr HB.out) k m hm;simp only[Value.slice.injEq,true_and] at hv';obtain⟨rfl,rfl⟩:=hv';have HT:Hid (Bs wr t m.text):=ht;have HI3:Hid (av m.uid/\av m.flags/\av m.seq):=hi3;obtain⟨ta,tn,tc,rfl⟩:=ht.aP;have HM:Hid (b.ah[k]?=some m):=hm;have hki:(k:Int) < b.ah.length:=by omega
    clear ht hi3 hm hmem;go_upto_region 6 with fail
    have AB:Below wr.heap.size wr (wr.alloc (.cells #[.int .i64 m.uid,.int .i64 m.flags,.int .i64 m.seq,.slice ta tn tc] 77)):=bn _ _;have KM:=aW wr (.cells #[.int .i64 m.uid,.int .i64 m.flags,.int .i64 m.seq,.slice ta tn tc] 77);have oW:Hid (Below w.heap.size w (wr.alloc (.cells #[.int .i64 m.uid,.int .i64 m.flags,.int .i64 m.seq,.slice ta tn tc] 77))):=Below.step HB.out AB;have oZ:Hid (Bs (wr.alloc (.cells #[.int .i64 m.uid,.int .i64 m.flags,.int .i64 m.seq,.slice ta tn tc] 77)) (.slice ta tn tc) m.text):=HT.out.below AB;have Rh:=aU (aA AB iJ.out);have Ri:=aU (aA AB aR.out)
    have fq:=aU (aA AB HX.out);have Hr:Hid (RO (wr.alloc (.cells #[.int .i64 m.uid,.int .i64 m.flags,.int .i64 m.seq,.slice ta tn tc] 77)) (In (w.heap.size+2) wc.heap.size) (.slice na nn nc) b.name):=HN.out.below AB;have Rj:Hid (ni (wr.alloc (.cells #[.int .i64 m.uid,.int .i64 m.flags,.int .i64 m.seq,.slice ta tn tc] 77)) (w.heap.size+2) wc.heap.size (.slice ga gn gc) b.au):=aZ.below HG.out AB;have wo:Hid (vS (wr.alloc (.cells #[.int .i64 m.uid,.int .i64 m.flags,.int .i64 m.seq,.slice ta tn tc] 77)) wc.heap.size wr.heap.size (.slice va vn vc) (b.ah.take k)):=aZ.below HO.out AB
    have uD:Hid ((wr.alloc (.cells #[.int .i64 m.uid,.int .i64 m.flags,.int .i64 m.seq,.slice ta tn tc] 77)).heap.size=wr.heap.size+1):=by show _=_;simp
    generalize Lb:wr.alloc (.cells #[.int .i64 m.uid,.int .i64 m.flags,.int .i64 m.seq,.slice ta tn tc] 77)=w5 at *
    clear Lb AB HB HT iJ aR HX HN HG HO c0 c1 c2 c3 c4 c5 c6 d0 d1 d2 d3 lA lX hlb;obtain⟨m0,m1,m2,m3⟩:=Ac KM;obtain⟨mz,ml⟩:=aO KM;have h5:wr.heap.size+1<=w5.heap.size:=by have:=uD.out;omega
    have AE:Below w5.heap.size w5 (w5.alloc (.cells #[] 5)):=bn _ _;have hE:=lK w5 5 1 w5.heap.size (Nat.le_refl _);have Rk:=Bs.rV (oZ.out.below AE);have ht1:m.text.length<=maxLen:=by unfold maxLen;omega
    have ht2:m.text.length * 1<=140737488355328:=by omega
    have Rm:w5.heap.size<=(w5.alloc (.cells #[] 5)).heap.size:=AE.size;go_wp2_with (at_builtin;refine ZG (B:=w5.heap.size) rfl (.tmp 35) (.tmp 37) rfl hE Rk (one_byte _) Tryz.underlying22 hi hz0 hz1 hz2 rfl (by omega) rfl rfl ht1 ht2 Rm ?_)
    intro TV w6 xs gH yD je uE;have sw:(w5.alloc (.cells #[] 5)).grownBy w6 (some w5.heap.size):=je;have Rn:Hid (Below w.heap.size w w6):=lQ (Below.step oW.out AE) sw (by omega);have Ht:=uf sw (aA AE KM) (by omega);have Ro:=aU (uf sw (aA AE Rh.out) (by omega));have Av:=aU (uf sw (aA AE Ri.out) (by omega));have lS:=aU (uf sw (aA AE fq.out) (by omega));have Rp:Hid (RO w6 (In (w.heap.size+2) wc.heap.size) (.slice na nn nc) b.name):=aae (Hr.out.below AE) sw (.inr (by omega));have Rq:Hid (ni w6 (w.heap.size+2) wc.heap.size (.slice ga gn gc) b.au):=aZ.gr (aZ.below Rj.out AE) sw (.inr (by omega))
    have pq:Hid (vS w6 wc.heap.size wr.heap.size (.slice va vn vc) (b.ah.take k)):=aZ.gr (aZ.below wo.out AE) sw (.inr (by omega));have RT:RO w6 (λk=>w5.heap.size<=k) TV m.text:=rW (w0:=w5.alloc (.cells #[] 5)) oZ.out.1 gH (λi x h=>by obtain⟨c,h1,h2,h3⟩:=yD i x h;exact⟨c,h1,h2,λj y hy=>by rw[Nat.mul_one];exact h3 j y hy⟩) (λg hg=>dS gH hg);obtain⟨xa,xn,xc,hTV⟩:=RT.bs.aP;subst hTV;have Rt:Hid (RO w6 (In w5.heap.size w6.heap.size) (.slice xa xn xc) m.text):=La RT;have h6:w5.heap.size<=w6.heap.size:=by have:=sw.size;omega
    clear je sw uE gH yD RT hE Rk AE m0 m1 m2 m3 mz ml KM oW oZ Rh Ri fq Hr Rj wo Rm;obtain⟨m0,m1,m2,m3⟩:=Ac Ht;obtain⟨mz,ml⟩:=aO Ht;go_upto_region 7 with fail
    have Lc:(w6.setCell ⟨wr.heap.size,3,none⟩ (.slice xa xn xc)).heap[wr.heap.size]?=some (.cells #[.int .i64 m.uid,.int .i64 m.flags,.int .i64 m.seq,.slice xa xn xc] 77 (0,0)):=aD Ht;have bM:Hid (Below w.heap.size w (w6.setCell ⟨wr.heap.size,3,none⟩ (.slice xa xn xc))):=Rn.out.setCell (p:=⟨wr.heap.size,3,none⟩) (show w.heap.size<=wr.heap.size by omega) _;have Ru:=aU (eB (k:=wr.heap.size) (i:=3) (v:=.slice xa xn xc) Ro.out (by omega));have Rv:=aU (eB (k:=wr.heap.size) (i:=3) (v:=.slice xa xn xc) Av.out (by omega))
    have aX:=aU (eB (k:=wr.heap.size) (i:=3) (v:=.slice xa xn xc) lS.out (by omega));have Rw:Hid (RO (w6.setCell ⟨wr.heap.size,3,none⟩ (.slice xa xn xc)) (In (w.heap.size+2) wc.heap.size) (.slice na nn nc) b.name):=um Rp.out (.inr (by omega));have Rx:Hid (ni (w6.setCell ⟨wr.heap.size,3,none⟩ (.slice xa xn xc)) (w.heap.size+2) wc.heap.size (.slice ga gn gc) b.au):=aZ.set Rq.out (.inr (by omega));have Ry:Hid (vS (w6.setCell ⟨wr.heap.size,3,none⟩ (.slice xa xn xc)) wc.heap.size wr.heap.size (.slice va vn vc) (b.ah.take k)):=aZ.set pq.out (.inr (by omega))
    have Rz:Hid (RO (w6.setCell ⟨wr.heap.size,3,none⟩ (.slice xa xn xc)) (In w5.heap.size w6.heap.size) (.slice xa xn xc) m.text):=um Rt.out (.inl (by omega));have bQ:Hid ((w6.setCell ⟨wr.heap.size,3,none⟩ (.slice xa xn xc)).heap.size=w6.heap.size):=dW;clear m0 m1 m2 m3 mz ml Ht Rn Ro Av lS Rp Rq pq Rt;generalize hw7:w6.setCell ⟨wr.heap.size,3,none⟩ (.slice xa xn xc)=w7 at *
    clear hw7;obtain⟨m0,m1,m2,m3⟩:=Ac Lc;have ml:=lt_of_heap Lc;obtain⟨y0,y1,y2,y3,y4,y5,y6⟩:=fV aX.out;have lX:=lt_of_heap aX.out;have AP:Below w7.heap.size w7 (w7.alloc (.cells #[.int .i64 m.uid,.int .i64 m.flags,.int .i64 m.seq,.slice xa xn xc] 77)):=bn _ _;have hsp:(w7.alloc (.cells #[.int .i64 m.uid,.int .i64 m.flags,.int .i64 m.seq,.slice xa xn xc] 77)).heap.size=w7.heap.size+1:=by simp
    have HE:Hid (rQ (w7.alloc (.cells #[.int .i64 m.uid,.int .i64 m.flags,.int .i64 m.seq,.slice xa xn xc] 77)) [.int .i64 m.uid,.int .i64 m.flags,.int .i64 m.seq,.slice xa xn xc] m (In wr.heap.size (w7.alloc (.cells #[.int .i64 m.uid,.int .i64 m.flags,.int .i64 m.seq,.slice xa xn xc] 77)).heap.size)):=⟨_,rfl,(Rz.out.below AP).mono (λb hb=>⟨by have:=hb.1;omega,by have:=hb.2;have:=bQ.out;omega⟩),HI3.out⟩;have hMs:wr.heap.size<=(w7.alloc (.cells #[.int .i64 m.uid,.int .i64 m.flags,.int .i64 m.seq,.slice xa xn xc] 77)).heap.size:=by have:=bQ.out;omega
    have HSP:Hid _:=hsp;clear hsp;have RA:Hid _:=aZ.below Ry.out AP;have htk:Hid ((b.ah.take k).length=k):=by show _=_;simp;omega
    have hp1:(b.ah.take k).length+1<=maxLen:=by have:=htk.out;unfold maxLen;have:=mG b.ah;omega
    have hp2:((b.ah.take k).length+1) * 48<=140737488355328:=by have:=htk.out;have:=mG b.ah;omega
    go_wp2_with (at_builtin;refine GL rfl (.tmp 41) (.tmp 43) rfl KN (B:=wc.heap.size) (M:=wr.heap.size) RA.out hMs hs Tryz.underlying67 hq hv0 hv1 hv2 rfl (by omega) rfl m [.int .i64 m.uid,.int .i64 m.flags,.int .i64 m.seq,.slice xa xn xc] rfl HE.out ⟨w7.heap.size,0,none⟩ 1 rfl (oU w7 _ _) Dp hp1 hp2 ?_)
    intro DV wz hO hgz qP;obtain⟨da,dn,dc,yE⟩:=aZ.aP hO;subst yE;have hge:∀j,(Value.slice va vn vc).ownBlock=some j->wc.heap.size<=j:=λj hj=>(qP j hj).1;have KX:=mH hgz hge (aA AP aX.out) (by omega);have sD:=aU (mH hgz hge (aA AP Ru.out) (by omega));have qQ:=aU (mH hgz hge (aA AP Rv.out) (by omega));have lT:Hid (Below w.heap.size w wz):=Ad (Below.step bM.out AP) hgz hge (by omega) (by have:=AP.size;omega);have RD:Hid (RO wz (In (w.heap.size+2) wc.heap.size) (.slice na nn nc) b.name):=aaf (Rw.out.below AP) hgz hge
    have RG:Hid (ni wz (w.heap.size+2) wc.heap.size (.slice ga gn gc) b.au):=aZ.QK (aZ.below Rx.out AP) hgz hge;have sz:=hgz.size;have S7o:=bQ.out;have SPo:=HSP.out;obtain⟨zx,zl⟩:=aO KX;obtain⟨e0,e1,e2,e3,e4,e5,e6⟩:=fV KX;have mK:Hid ((wz.setCell ⟨bx,4,none⟩ (.slice da dn dc)).heap[bx]?=some (.cells #[.slice na nn nc,.int .i64 b.valid,.int .i64 b.next,.int .i64 b.seq,.slice da dn dc,.slice ga gn gc,.int .i64 b.lost] 70 (0,0))):=aD KX;have Dr:=aU (eB (k:=bx) (i:=4) (v:=.slice da dn dc) sD.out (by omega));have yF:=aU (eB (k:=bx) (i:=4) (v:=.slice da dn dc) qQ.out (by omega))
    have ou:Hid (Below w.heap.size w (wz.setCell ⟨bx,4,none⟩ (.slice da dn dc))):=lT.out.setCell (p:=⟨bx,4,none⟩) (show w.heap.size<=bx by omega) _;have HN9:Hid (RO (wz.setCell ⟨bx,4,none⟩ (.slice da dn dc)) (In (w.heap.size+2) wc.heap.size) (.slice na nn nc) b.name):=lM RD.out (λk hk=>Below.heap_setCell _ _ _ _ (show k≠bx from λe=>by subst e;exact dX KX hk (by decide)))
    have HG9:Hid (ni (wz.setCell ⟨bx,4,none⟩ (.slice da dn dc)) (w.heap.size+2) wc.heap.size (.slice ga gn gc) b.au):=Q8 RG.out (λk hk=>Below.heap_setCell _ _ _ _ (show k≠bx from λe=>by subst e;exact dX KX hk (by decide)));have qR:Hid (vS (wz.setCell ⟨bx,4,none⟩ (.slice da dn dc)) wc.heap.size (wz.setCell ⟨bx,4,none⟩ (.slice da dn dc)).heap.size (.slice da dn dc) (b.ah.take (k+1))):=by show vS _ _ _ _ _;rw[dW,Ar HM.out];exact aZ.set hO (.inl (by omega))
    have yG:wc.heap.size<=(wz.setCell ⟨bx,4,none⟩ (.slice da dn dc)).heap.size:=by rw[dW];omega
    clear KX sD qQ lT RD RG aX Ru Rv bM Rw Rx Ry Rz Lc HE RA hO hgz qP hge AP m0 m1 m2 m3 y0 y1 y2 y3 y4 y5 y6;go_wp2;go_roundw
    case rel=>exact⟨k+1,da,dn,dc,by omega,by go_num,ou,Dr,yF,mK,HN9,HG9,yG,qR⟩
    case measure=>simp[intOf];omega
   ·obtain rfl:k=b.ah.length:=by omega
    obtain⟨d0,d1,d2,d3,d4,d5,d6⟩:=fV HX.out;obtain⟨r0,r1,r2,r3,r4,r5,r6⟩:=fV aR.out;obtain⟨rz,rl⟩:=aO aR.out
    have HDf:Hid (Below w.heap.size w (((((((wr.setCell ⟨w.heap.size+1,0,none⟩ (.slice na nn nc)).setCell ⟨w.heap.size+1,1,none⟩ (.int .i64 b.valid)).setCell ⟨w.heap.size+1,2,none⟩ (.int .i64 b.next)).setCell ⟨w.heap.size+1,3,none⟩ (.int .i64 b.seq)).setCell ⟨w.heap.size+1,4,none⟩ (.slice va vn vc)).setCell ⟨w.heap.size+1,5,none⟩ (.slice ga gn gc)).setCell ⟨w.heap.size+1,6,none⟩ (.int .i64 b.lost))):=(((((((HB.out.setCell (p:=⟨w.heap.size+1,0,none⟩) (by simp) (.slice na nn nc)).setCell (p:=⟨w.heap.size+1,1,none⟩) (by simp) (.int .i64 b.valid)).setCell (p:=⟨w.heap.size+1,2,none⟩) (by simp) (.int .i64 b.next)).setCell (p:=⟨w.heap.size+1,3,none⟩) (by simp) (.int .i64 b.seq)).setCell (p:=⟨w.heap.size+1,4,none⟩) (by simp) (.slice va vn vc)).setCell (p:=⟨w.heap.size+1,5,none⟩) (by simp) (.slice ga gn gc)).setCell (p:=⟨w.heap.size+1,6,none⟩) (by simp) (.int .i64 b.lost))
    have RH:Hid (RO (((((((wr.setCell ⟨w.heap.size+1,0,none⟩ (.slice na nn nc)).setCell ⟨w.heap.size+1,1,none⟩ (.int .i64 b.valid)).setCell ⟨w.heap.size+1,2,none⟩ (.int .i64 b.next)).setCell ⟨w.heap.size+1,3,none⟩ (.int .i64 b.seq)).setCell ⟨w.heap.size+1,4,none⟩ (.slice va vn vc)).setCell ⟨w.heap.size+1,5,none⟩ (.slice ga gn gc)).setCell ⟨w.heap.size+1,6,none⟩ (.int .i64 b.lost)) (In (w.heap.size+2) wc.heap.size) (.slice na nn nc) b.name):=(um (g:=w.heap.size+1) (i:=6) (x:=.int .i64 b.lost) (um (g:=w.heap.size+1) (i:=5) (x:=.slice ga gn gc) (um (g:=w.heap.size+1) (i:=4) (x:=.slice va vn vc) (um (g:=w.heap.size+1) (i:=3) (x:=.int .i64 b.seq) (um (g:=w.heap.size+1) (i:=2) (x:=.int .i64 b.next) (um (g:=w.heap.size+1) (i:=1) (x:=.int .i64 b.valid) (um (g:=w.heap.size+1) (i:=0) (x:=.slice na nn nc) HN.out (.inl (by omega))) (.inl (by omega))) (.inl (by omega))) (.inl (by omega))) (.inl (by omega))) (.inl (by omega))) (.inl (by omega)))
    have HGf:Hid (ni (((((((wr.setCell ⟨w.heap.size+1,0,none⟩ (.slice na nn nc)).setCell ⟨w.heap.size+1,1,none⟩ (.int .i64 b.valid)).setCell ⟨w.heap.size+1,2,none⟩ (.int .i64 b.next)).setCell ⟨w.heap.size+1,3,none⟩ (.int .i64 b.seq)).setCell ⟨w.heap.size+1,4,none⟩ (.slice va vn vc)).setCell ⟨w.heap.size+1,5,none⟩ (.slice ga gn gc)).setCell ⟨w.heap.size+1,6,none⟩ (.int .i64 b.lost)) (w.heap.size+2) wc.heap.size (.slice ga gn gc) b.au):=(aZ.set (i:=6) (x:=.int .i64 b.lost) (aZ.set (i:=5) (x:=.slice ga gn gc) (aZ.set (i:=4) (x:=.slice va vn vc) (aZ.set (i:=3) (x:=.int .i64 b.seq) (aZ.set (i:=2) (x:=.int .i64 b.next) (aZ.set (i:=1) (x:=.int .i64 b.valid) (aZ.set (i:=0) (x:=.slice na nn nc) HG.out (.inl (by omega))) (.inl (by omega))) (.inl (by omega))) (.inl (by omega))) (.inl (by omega))) (.inl (by omega))) (.inl (by omega)))
    have HOf:Hid (vS (((((((wr.setCell ⟨w.heap.size+1,0,none⟩ (.slice na nn nc)).setCell ⟨w.heap.size+1,1,none⟩ (.int .i64 b.valid)).setCell ⟨w.heap.size+1,2,none⟩ (.int .i64 b.next)).setCell ⟨w.heap.size+1,3,none⟩ (.int .i64 b.seq)).setCell ⟨w.heap.size+1,4,none⟩ (.slice va vn vc)).setCell ⟨w.heap.size+1,5,none⟩ (.slice ga gn gc)).setCell ⟨w.heap.size+1,6,none⟩ (.int .i64 b.lost)) wc.heap.size wr.heap.size (.slice va vn vc) b.ah):=by
      have h:vS wr wc.heap.size wr.heap.size (.slice va vn vc) b.ah:=by have:=HO.out;rwa [List.take_length] at this
      exact(aZ.set (i:=6) (x:=.int .i64 b.lost) (aZ.set (i:=5) (x:=.slice ga gn gc) (aZ.set (i:=4) (x:=.slice va vn vc) (aZ.set (i:=3) (x:=.int .i64 b.seq) (aZ.set (i:=2) (x:=.int .i64 b.next) (aZ.set (i:=1) (x:=.int .i64 b.valid) (aZ.set (i:=0) (x:=.slice na nn nc) h (.inl (by omega))) (.inl (by omega))) (.inl (by omega))) (.inl (by omega))) (.inl (by omega))) (.inl (by omega))) (.inl (by omega)))
    have KF:=(aD (i:=6) (v:=.int .i64 b.lost) (aD (i:=5) (v:=.slice ga gn gc) (aD (i:=4) (v:=.slice va vn vc) (aD (i:=3) (v:=.int .i64 b.seq) (aD (i:=2) (v:=.int .i64 b.next) (aD (i:=1) (v:=.int .i64 b.valid) (aD (i:=0) (v:=.slice na nn nc) aR.out)))))));obtain⟨f0,f1,f2,f3,f4,f5,f6⟩:=fV KF
    have Ld:Hid ((((((((wr.setCell ⟨w.heap.size+1,0,none⟩ (.slice na nn nc)).setCell ⟨w.heap.size+1,1,none⟩ (.int .i64 b.valid)).setCell ⟨w.heap.size+1,2,none⟩ (.int .i64 b.next)).setCell ⟨w.heap.size+1,3,none⟩ (.int .i64 b.seq)).setCell ⟨w.heap.size+1,4,none⟩ (.slice va vn vc)).setCell ⟨w.heap.size+1,5,none⟩ (.slice ga gn gc)).setCell ⟨w.heap.size+1,6,none⟩ (.int .i64 b.lost)).heap.size=wr.heap.size):=by show _=_;simp only[dW]
    clear KF c0 c1 c2 c3 c5 c6 iJ;go_wp2;refine bodyPost_ret (v:=.agg #[.slice na nn nc,.int .i64 b.valid,.int .i64 b.next,.int .i64 b.seq,.slice va vn vc,.slice ga gn gc,.int .i64 b.lost]) (by simp[results,Tryz.results74,go_sem,f0,f1,f2,f3,f4,f5,f6]) rfl ⟨_,rfl,?_,HDf.out⟩
    exact⟨_,rfl,_,_,_,(λx=>In (w.heap.size+2) wc.heap.size x/\(Value.slice na nn nc).ownBlock=some x),In wc.heap.size wr.heap.size,(λx=>In (w.heap.size+2) wc.heap.size x/\Ty (((((((wr.setCell ⟨w.heap.size+1,0,none⟩ (.slice na nn nc)).setCell ⟨w.heap.size+1,1,none⟩ (.int .i64 b.valid)).setCell ⟨w.heap.size+1,2,none⟩ (.int .i64 b.next)).setCell ⟨w.heap.size+1,3,none⟩ (.int .i64 b.seq)).setCell ⟨w.heap.size+1,4,none⟩ (.slice va vn vc)).setCell ⟨w.heap.size+1,5,none⟩ (.slice ga gn gc)).setCell ⟨w.heap.size+1,6,none⟩ (.int .i64 b.lost)) x 115),rfl,aag RH.out,HOf.out,aai HGf.out,(λx hx=>⟨⟨by have:=hx.1.1;omega,by have:=hx.1.2;rw[Ld.out];omega⟩,λh=>by have:=hx.1.2;have:=h.1;omega,λh=>by obtain⟨cs,fz,h3⟩:=aah RH.out hx.2;exact dX h3 h.2 (by decide)⟩),(λx hx=>⟨⟨by have:=hx.1;omega,by have:=hx.2;rw[Ld.out];omega⟩,λh=>by have:=hx.1;have:=h.1.2;omega⟩),(λx hx=>⟨by have:=hx.1.1;omega,by have:=hx.1.2;rw[Ld.out];omega⟩),Au.out⟩
end Go.Proofs.YtfabngnaejjcmaaGreatDoor
