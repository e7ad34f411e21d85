/- The proof's texts, part 21. -/
import Derived.Test.YtnlhkgoppjejeaaDoorPart20
import Derived.Test.YtnlhkgoppjejeaaDoorPart11
import Derived.Test.YtnlhkgoppjejeaaDoorPart12
import Derived.Test.YtnlhkgoppjejeaaDoorPart4
import Derived.Test.YtnlhkgoppjejeaaDoorPart14
import Derived.Deep.DeepCutAuto

/- What l3ownBox of package spec does: a box is copied, with all that it leads to. -/
namespace Go.Proofs.YtnlhkgoppjejeaaDoor
open Go.RowKit
set_option maxRecDepth 100000
set_option linter.unusedVariables false
set_option linter.unusedSimpArgs false

theorem OwF.form3 {α:Type} {t:TypeId} {sz:Nat} {E:World→List Value→α→(Nat→Prop)→Prop} {w:World} {S:Nat→Prop} {v:Value} {l:List α} (h:Ow t sz E w S v l):∃ a n cap,v=.slice a n cap:=by
 rcases h with ⟨rfl,_⟩ | ⟨g,cap,cur,cs,fs,hv,_⟩
 ·exact ⟨_,_,_,rfl⟩
 ·exact ⟨_,_,_,hv⟩
section
variable {w w' : World} {B sz n : Nat} {e t : TypeId} {v : Value} {xs : List Value} {g : Nat} {S : Nat → Prop}
/-- The block's cells bear a type. -/
def Ty (w:World) (g:Nat) (t:TypeId):Prop:=∃ cs fz,w.heap[g]?=some (.cells cs t fz)
theorem ty_ne {cs:Array Value} {fz:Nat × Nat} (h:w.heap[g]?=some (.cells cs t fz)) (h2:Ty w g e) (hne:t≠e):False:=by
 obtain ⟨cs',fz',h3⟩:=h2
 rw [h] at h3
 simp only [Option.some.injEq,Obj.cells.injEq] at h3
 exact hne h3.2.1
theorem own_below (h:w.ownsRow B e sz v n xs) (hb:Below w.heap.size w w'):w'.ownsRow B e sz v n xs:=by
 refine ⟨h.1,?_⟩
 rcases h.2 with hn | ⟨g,cap,cur,hv,hg,hh,r⟩
 ·exact .inl hn
 ·exact .inr ⟨g,cap,cur,hv,hg,box_below hb hh,r⟩
theorem own_ty {a:Addr} {m c:Nat} (h:w.ownsRow B e sz (.slice (some a) m c) n xs):Ty w a.block e:=by
 rcases h.2 with ⟨hn,_⟩ | ⟨g,cap,cur,hv,hg,hh,r⟩
 ·cases hn
 ·simp only [Value.slice.injEq,Option.some.injEq] at hv
  rw [hv.1]
  exact ⟨_,_,hh⟩
theorem own_ge (h:w.ownsRow B e sz v n xs) {k:Nat} (hk:v.ownBlock=some k):B≤k:=by
 rcases h.2 with ⟨hn,_⟩ | ⟨g,cap,cur,hv,hg,hh,r⟩
 ·rw [hn] at hk;simp [Value.ownBlock] at hk
 ·rw [hv] at hk;simp only [Value.ownBlock,Option.some.injEq] at hk;omega
theorem own_grT (h:w.ownsRow B e sz v n xs) (hg:w.grownBy w' (some g)) (ht:Ty w g t) (hne:e≠t):w'.ownsRow B e sz v n xs:=by
 refine ⟨h.1,?_⟩
 rcases h.2 with hn | ⟨k,cap,cur,hv,hk,hh,r⟩
 ·exact .inl hn
 ·exact .inr ⟨k,cap,cur,hv,hk,gr_at hg hh (fun e2=>by subst e2;exact ty_ne hh ht hne),r⟩
theorem box_grT {cs:Array Value} {fz:Nat × Nat} {k:Nat} (hg:w.grownBy w' (some g)) (h:w.heap[k]?=some (.cells cs e fz)) (ht:Ty w g t) (hne:e≠t):w'.heap[k]?=some (.cells cs e fz):=gr_at hg h (fun e2=>by subst e2;exact ty_ne h ht hne)
theorem ro_oth {l:List Int} (h:RO w S v l) (hw:∀ k,Ty w k 5→w'.heap[k]?=w.heap[k]?):RO w' S v l:=by
 refine ⟨h.1,⟨h.2.1.1,?_⟩,h.2.2⟩
 rcases h.2.1.2 with hn | ⟨k,cap,cur,hv,hk,hh,r⟩
 ·exact .inl hn
 ·exact .inr ⟨k,cap,cur,hv,hk,(hw k ⟨_,_,hh⟩).trans hh,r⟩
theorem ro_grT {l:List Int} (h:RO w S v l) (hg:w.grownBy w' (some g)) (ht:Ty w g t) (hne:5≠t):RO w' S v l :=
 ⟨h.1,own_grT h.2.1 hg ht hne,h.2.2⟩
theorem gones_oth {l:List GoneD} (h:GonesO w S v l) (hw:∀ k,Ty w k 65→w'.heap[k]?=w.heap[k]?):GonesO w' S v l:=by
 rcases h with h | ⟨k,cap,cur,cs,fs,hv,hh,r⟩
 ·exact .inl h
 ·exact .inr ⟨k,cap,cur,cs,fs,hv,(hw k ⟨_,_,hh⟩).trans hh,r⟩
theorem gones_grT {l:List GoneD} (h:GonesO w S v l) (hg:w.grownBy w' (some g)) (ht:Ty w g t) (hne:65≠t):GonesO w' S v l:=by
 rcases h with h | ⟨k,cap,cur,cs,fs,hv,hh,r⟩
 ·exact .inl h
 ·exact .inr ⟨k,cap,cur,cs,fs,hv,gr_at hg hh (fun e2=>by subst e2;exact ty_ne hh ht hne),r⟩
theorem below_gr0 {w0:World} (h:Below w0.heap.size w0 w) (hg:w.grownBy w' (some g)) (h0:w0.heap.size≤g):Below w0.heap.size w0 w' :=
 ⟨hg.os.trans h.os,hg.tape.trans h.tape,hg.output.trans h.output,Nat.le_trans h.size hg.size,fun k hk=>(hg.block k (Nat.lt_of_lt_of_le hk h.size) fun e=>by simp only [Option.some.injEq] at e;omega).trans (h.block k hk)⟩
theorem ro_in {l:List Int} {N:Nat} (h:RO w (fun k=>N≤k) v l):RO w (In N w.heap.size) v l:=by
 refine ⟨h.1,h.2.1,fun g hg=>⟨h.2.2 g hg,?_⟩⟩
 rcases h.2.1.2 with ⟨hn,_⟩ | ⟨k,cap,cur,hv,hk,hh,r⟩
 ·rw [hn] at hg;simp [Value.ownBlock] at hg
 ·rw [hv] at hg;simp only [Value.ownBlock,Option.some.injEq] at hg;rw [← hg];exact lt_of_heap hh
theorem gones_in {l:List GoneD} {N:Nat} (h:GonesO w (fun k=>N≤k) v l):GonesR w N w.heap.size v l:=by
 rcases h with h | ⟨k,cap,cur,cs,fs,hv,hh,h1,h2,h3,h4,h5,h6,h7⟩
 ·exact .inl h
 ·exact .inr ⟨k,cap,cur,cs,fun _ _=>False,hv,hh,h1,h2,h3,⟨h4,lt_of_heap hh⟩,fun i x hx=>⟨(h5 i x hx).1,(h5 i x hx).2⟩,by simp,by simp⟩
theorem ro_gr {l:List Int} {N M:Nat} (h:RO w (In N M) v l) (hg:w.grownBy w' (some g)) (hd:g < N∨M≤g):RO w' (In N M) v l :=
 h.frame fun b hb hlt=>hg.block b hlt fun e=>by have:=hb.1;have:=hb.2;simp only [Option.some.injEq] at e;omega
theorem ro_set {l:List Int} {N M i:Nat} {x:Value} (h:RO w (In N M) v l) (hd:g < N∨M≤g):RO (w.setCell ⟨g,i,none⟩ x) (In N M) v l :=
 h.frame fun b hb _=>Below.heap_setCell _ _ _ _ (show b≠g by have:=hb.1;have:=hb.2;omega)
theorem ro_gr' {l:List Int} {N M:Nat} {row:Option Nat} (h:RO w (In N M) v l) (hg:w.grownBy w' row) (hd:∀ j,row=some j→M≤j):RO w' (In N M) v l :=
 h.frame fun b hb hlt=>hg.block b hlt fun e=>by have:=hd b e.symm;have:=hb.2;omega
theorem ro_self {l:List Int} (h:RO w S v l):RO w (fun k=>S k∧v.ownBlock=some k) v l:=⟨h.1,h.2.1,fun g hg=>⟨h.2.2 g hg,hg⟩⟩
theorem ro_ty {l:List Int} {k:Nat} (h:RO w S v l) (hk:v.ownBlock=some k):Ty w k 5:=by
 rcases h.2.1.2 with ⟨hn,_⟩ | ⟨g,cap,cur,hv,_,hh,r⟩
 ·rw [hn] at hk;simp [Value.ownBlock] at hk
 ·rw [hv] at hk;simp only [Value.ownBlock,Option.some.injEq] at hk;rw [← hk];exact ⟨_,_,hh⟩
theorem gones_self {l:List GoneD} (h:GonesO w S v l):GonesO w (fun k=>S k∧Ty w k 65) v l:=by
 rcases h with h | ⟨k,cap,cur,cs,fs,hv,hh,h1,h2,h3,h4,h5,h6,h7⟩
 ·exact .inl h
 ·exact .inr ⟨k,cap,cur,cs,fun _ _=>False,hv,hh,h1,h2,h3,⟨h4,_,_,hh⟩,fun i x hx=>⟨(h5 i x hx).1,(h5 i x hx).2⟩,by simp,by simp⟩
end
theorem one4' {a:Option Addr} {n c:Nat} {i j k:Int}:∀ u ∈ [Value.int .i64 i,.int .i64 j,.int .i64 k,.slice a n c],Value.oneCell' u=true:=by
 intro u hu
 simp only [List.mem_cons,List.not_mem_nil,or_false] at hu
 rcases hu with rfl | rfl | rfl | rfl <;> rfl
theorem hidm' {p:Prop} (h:p):Hid p:=h
theorem take_snoc {α:Type} {l:List α} {k:Nat} {x:α} (h:l[k]?=some x):l.take (k+1)=l.take k ++ [x]:=by
 rw [List.take_add_one,h];rfl

set_option maxRecDepth 100000 in
set_option maxHeartbeats 8000000 in
theorem l3ownBox_r (v:Value) (b:BoxD) (w:World) (hv:BoxV w v b) (hs:szX b≤2000000) :
  Calls Tryd.prog 75 #[v] w fun e w'=>∃ u,e=.returned u∧BoxO w' (In w.heap.size w'.heap.size) u b∧Below w.heap.size w w':=by
 have HV:Hid (∀ wi,Below w.heap.size w wi→BoxV wi v b):=fun wi h=>hv.below h
 obtain ⟨u0,u1,u2,rfl,g0,g1,g2,hint⟩:=hv
 have HINT:Hid (I64 b.valid∧I64 b.next∧I64 b.seq∧I64 b.lost):=hint
 have HNM0:Hid (Oct b.name):=g0.1
 have HNM1:Hid (∀ wi,Below w.heap.size w wi→Bs wi u0 b.name):=fun wi h=>g0.below h
 have HMM1:Hid (∀ wi,Below w.heap.size w wi→MailsV wi u1 b.mails):=fun wi h=>g1.below keepsMail h
 have HGN1:Hid (∀ wi,Below w.heap.size w wi→GonesV wi u2 b.gones):=fun wi h=>g2.below keepsGone h
 have hsz:b.name.length≤2000000∧szM b.mails≤2000000∧b.gones.length≤2000000:=by unfold szX at hs;omega
 obtain ⟨a0,an0,ac0,rfl⟩:=g0.form3
 obtain ⟨a1,ac1,rfl,hml,-⟩:=g1.form
 obtain ⟨a2,ac2,rfl,-⟩:=g2.form
 obtain ⟨i0,hi,hz0,hz1,hz2⟩:=info_parts info5
 obtain ⟨i1,hj,hy0,hy1,hy2⟩:=info_parts infoGone
 obtain ⟨i2,hq,hv0,hv1,hv2⟩:=info_parts infoMail
 have hmlen:b.mails.length≤2000000:=by have:=szM_len b.mails;omega
 have hl1:b.name.length≤maxLen:=by unfold maxLen;omega
 have hl2:b.name.length * 1≤140737488355328:=by omega
 have hl3:b.gones.length≤maxLen:=by unfold maxLen;omega
 have hl4:b.gones.length * 16≤140737488355328:=by omega
 obtain ⟨kA,kR,X⟩:=boxes2 w (.cells #[.slice a0 an0 ac0,.int .i64 b.valid,.int .i64 b.next,.int .i64 b.seq,.slice a1 b.mails.length ac1,.slice a2 b.gones.length ac2,.int .i64 b.lost] 44) (.cells #[.slice none 0 0,.int .i64 0,.int .i64 0,.int .i64 0,.slice none 0 0,.slice none 0 0,.int .i64 0] 44)
 have HX:Hid _:=X
 have HKA:Hid _:=kA
 have HKR:Hid _:=kR
 have hs0:((w.alloc (.cells #[.slice a0 an0 ac0,.int .i64 b.valid,.int .i64 b.next,.int .i64 b.seq,.slice a1 b.mails.length ac1,.slice a2 b.gones.length ac2,.int .i64 b.lost] 44)).alloc (.cells #[.slice none 0 0,.int .i64 0,.int .i64 0,.int .i64 0,.slice none 0 0,.slice none 0 0,.int .i64 0] 44)).heap.size=w.heap.size+2:=by simp
 have HS0:Hid _:=hs0
 clear g0 g1 g2 hint X kA kR hs0 hs
 go_enter Tryd.func75,Tryd.ntmps75
 go_upto_region 1 with fail
 generalize hw0:(w.alloc (.cells #[.slice a0 an0 ac0,.int .i64 b.valid,.int .i64 b.next,.int .i64 b.seq,.slice a1 b.mails.length ac1,.slice a2 b.gones.length ac2,.int .i64 b.lost] 44)).alloc (.cells #[.slice none 0 0,.int .i64 0,.int .i64 0,.int .i64 0,.slice none 0 0,.slice none 0 0,.int .i64 0] 44)=w0 at *
 clear hw0
 obtain ⟨N,hNe⟩:∃ N,N=w.heap.size+2:=⟨_,rfl⟩
 have HNE:Hid (N=w.heap.size+2):=hNe
 clear hNe
 go_cut [3] (fun s wx=>∃ bx na nn nc ga gn gc,s=.pointer (some ⟨bx,0,none⟩)∧Hid (wx.heap[bx]?=some (.cells #[.slice na nn nc,.int .i64 b.valid,.int .i64 b.next,.int .i64 b.seq,.slice none 0 0,.slice ga gn gc,.int .i64 b.lost] 44 (0,0)))∧Hid (RO wx (fun k=>N≤k) (.slice na nn nc) b.name)∧Hid (GonesO wx (fun k=>N≤k) (.slice ga gn gc) b.gones)∧N≤bx∧Hid (Below w0.heap.size w0 wx))
 case first =>
  have HS:Hid (∀ w',Below w0.heap.size w0 w'→w'.cell? ⟨w.heap.size,0,none⟩=some (.slice a0 an0 ac0)∧w'.cell? ⟨w.heap.size,1,none⟩=some (.int .i64 b.valid)∧w'.cell? ⟨w.heap.size,2,none⟩=some (.int .i64 b.next)∧w'.cell? ⟨w.heap.size,3,none⟩=some (.int .i64 b.seq)∧w'.cell? ⟨w.heap.size,5,none⟩=some (.slice a2 b.gones.length ac2)∧w'.cell? ⟨w.heap.size,6,none⟩=some (.int .i64 b.lost)):=fun w' h=>by
   obtain ⟨c0,c1,c2,c3,c4,c5,c6⟩:=bx7 (box_below h HKA.out)
   exact ⟨c0,c1,c2,c3,c5,c6⟩
  have HNM:Hid (∀ w',Below w0.heap.size w0 w'→Bs w' (.slice a0 an0 ac0) b.name):=fun w' h=>HNM1.out w' (Below.step HX.out h)
  have HGN:Hid (∀ w',Below w0.heap.size w0 w'→GonesV w' (.slice a2 b.gones.length ac2) b.gones):=fun w' h=>HGN1.out w' (Below.step HX.out h)
  have hN0:N≤w0.drew.heap.size:=by have:=HS0.out;have:=HNE.out;show N≤w0.heap.size;omega
  have D0:Hid (Below w0.heap.size w0 w0.drew):=(Below.refl _ _).drew
  clear HS0 HNE
  refine wp_region_held_drew (S:=fun w'=>w'.cell? ⟨w.heap.size,0,none⟩=some (.slice a0 an0 ac0)∧w'.cell? ⟨w.heap.size,1,none⟩=some (.int .i64 b.valid)∧w'.cell? ⟨w.heap.size,2,none⟩=some (.int .i64 b.next)∧w'.cell? ⟨w.heap.size,3,none⟩=some (.int .i64 b.seq)∧w'.cell? ⟨w.heap.size,5,none⟩=some (.slice a2 b.gones.length ac2)∧w'.cell? ⟨w.heap.size,6,none⟩=some (.int .i64 b.lost)) (by kernel_rfl) (HS.out _ D0.out) (fun hHeld=>(show wpAnyH _ _ _ _ _ 19 #[false,false,false,false,false,false,false,false,false,false,false,false,false,false,false,false,false,false,false] _ _ from ?_))
  refine tq 1 7 hHeld ?_
  refine tq 2 8 hHeld ?_
  refine tq 4 10 hHeld ?_
  refine tq 5 11 hHeld ?_
  refine tq 6 12 hHeld ?_
  refine tq 7 13 hHeld ?_
  refine tq 8 14 hHeld ?_
  refine tq 9 15 hHeld ?_
  refine tq 11 17 hHeld ?_
  refine tq 12 18 hHeld ?_
  refine tq 14 20 hHeld ?_
  refine tq 15 21 hHeld ?_
  generalize w0.drew=x at *
  have hN:=hN0
  have D:=D0
  clear hN0 D0
  repeat' (first
   | exact AllReadyH.nil
   | refine AllReadyH.cons rfl (fun K hK=>?_) ?_
   | refine tq 16 22 hHeld ?_
   | refine wpAnyH_ready (rs:=[0,10,17]) (by decide +kernel) (by simp) ?_
   | refine wpAnyH_ready (rs:=[3,10,17]) (by decide +kernel) (by simp) ?_
   | refine wpAnyH_ready (rs:=[10,17]) (by decide +kernel) (by simp) ?_
   | refine wpAnyH_ready (rs:=[0,17]) (by decide +kernel) (by simp) ?_
   | refine wpAnyH_ready (rs:=[0,10]) (by decide +kernel) (by simp) ?_
   | refine wpAnyH_ready (rs:=[3,17]) (by decide +kernel) (by simp) ?_
   | refine wpAnyH_ready (rs:=[3,10]) (by decide +kernel) (by simp) ?_
   | refine wpAnyH_ready (rs:=[13,17]) (by decide +kernel) (by simp) ?_
   | refine wpAnyH_ready (rs:=[17]) (by decide +kernel) (by simp) ?_
   | refine wpAnyH_ready (rs:=[10]) (by decide +kernel) (by simp) ?_
   | refine wpAnyH_ready (rs:=[3]) (by decide +kernel) (by simp) ?_
   | refine wpAnyH_ready (rs:=[0]) (by decide +kernel) (by simp) ?_
   | refine wpAnyH_ready (rs:=[13]) (by decide +kernel) (by simp) ?_
   | refine wpAnyH_ready (rs:=[18]) (by decide +kernel) (by simp) ?_
   | (
     refine ite_w (by kernel_rfl) (wp_cat (B:=N) 9 rfl (.tmp 6) (.tmp 8) rfl Fn0.out (Bs.rd1 (HNM.out _ D.out)) (one_byte _) Tryd.underlying22 hi hz0 hz1 hz2 rfl (by omega) rfl rfl hl1 hl2 hN ?_)
     intro V y xs hO hX hG hB
     have hG':x.grownBy y (some e0):=hG
     have KE:=own_ty Fn0.out
     try replace Fg0:Hid _:=own_grT Fg0.out hG' KE (by decide)
     try replace Frg:Hid _:=gones_grT Frg.out hG' KE (by decide)
     try replace Fkx:Hid _:=box_grT hG' Fkx.out KE (by decide)
     replace D:Hid (Below w0.heap.size w0 y):=below_gr0 D.out hG' he0
     replace hN:N≤y.heap.size:=Nat.le_trans hN hG'.size
     have hR:RO y (fun k=>N≤k) V b.name:=ro_of HNM0.out hO hX (fun g hg=>own_ge hO hg)
     obtain ⟨na,nn,nc,hV⟩:=hR.bs.form3
     subst hV
     have Frn:Hid (RO y (fun k=>N≤k) (.slice na nn nc) b.name):=hR
     refine hK.out _ _ (HS.out _ D.out) (fun hHeld=>?_)
     clear hK K hO hX hG hG' hB KE hR Fn0
     conv=>arg 8;simp only [Act.put,sA,s0,sS]
     generalize y=x at *)
   | (
     refine ite_w (by kernel_rfl) (wp_cat (B:=N) 19 rfl (.tmp 16) (.tmp 18) rfl Fg0.out (HGN.out _ D.out) (one_gone _) Tryd.underlying42 hj hy0 hy1 hy2 rfl (by omega) rfl rfl hl3 hl4 hN ?_)
     intro V y xs hO hX hG hB
     have hG':x.grownBy y (some e1):=hG
     have KE:=own_ty Fg0.out
     try replace Fn0:Hid _:=own_grT Fn0.out hG' KE (by decide)
     try replace Frn:Hid _:=ro_grT Frn.out hG' KE (by decide)
     try replace Fkx:Hid _:=box_grT hG' Fkx.out KE (by decide)
     replace D:Hid (Below w0.heap.size w0 y):=below_gr0 D.out hG' he1
     replace hN:N≤y.heap.size:=Nat.le_trans hN hG'.size
     have hR:GonesO y (fun k=>N≤k) V b.gones:=gones_of hO hX (fun g hg=>own_ge hO hg)
     obtain ⟨ga,gn,gc,hV⟩:=OwF.form3 hR
     subst hV
     have Frg:Hid (GonesO y (fun k=>N≤k) (.slice ga gn gc) b.gones):=hR
     refine hK.out _ _ (HS.out _ D.out) (fun hHeld=>?_)
     clear hK K hO hX hG hG' hB KE hR Fg0
     conv=>arg 8;simp only [Act.put,sA,s0,sS]
     generalize y=x at *)
   | (
     go_simp
     have AB:Below x.heap.size x (x.alloc (.cells #[] 5)):=(Below.refl _ _).alloc (Nat.le_refl _) _
     have he0:=D.out.size
     have ne0:=hN
     have Fn0:Hid _:=owns_empty x 5 1 N hN
     try replace Fg0:Hid _:=own_below Fg0.out AB
     try replace Frn:Hid _:=RO.below Frn.out AB
     try replace Frg:Hid _:=Ow.below framesGone Frg.out AB
     try replace Fkx:Hid _:=box_below AB Fkx.out
     replace D:Hid (Below w0.heap.size w0 (x.alloc (.cells #[] 5))):=Below.step D.out AB
     replace hN:N≤(x.alloc (.cells #[] 5)).heap.size:=Nat.le_trans hN AB.size
     refine hK.out _ (x.alloc (.cells #[] 5)) (HS.out _ D.out) (fun hHeld=>?_)
     clear hK K AB
     generalize x.heap.size=e0 at *
     generalize hw:x.alloc (.cells #[] 5)=x at *
     clear hw)
   | (
     go_simp
     have AB:Below x.heap.size x (x.alloc (.cells #[] 65)):=(Below.refl _ _).alloc (Nat.le_refl _) _
     have he1:=D.out.size
     have ne1:=hN
     have Fg0:Hid _:=owns_empty x 65 2 N hN
     try replace Fn0:Hid _:=own_below Fn0.out AB
     try replace Frn:Hid _:=RO.below Frn.out AB
     try replace Frg:Hid _:=Ow.below framesGone Frg.out AB
     try replace Fkx:Hid _:=box_below AB Fkx.out
     replace D:Hid (Below w0.heap.size w0 (x.alloc (.cells #[] 65))):=Below.step D.out AB
     replace hN:N≤(x.alloc (.cells #[] 65)).heap.size:=Nat.le_trans hN AB.size
     refine hK.out _ (x.alloc (.cells #[] 65)) (HS.out _ D.out) (fun hHeld=>?_)
     clear hK K AB
     generalize x.heap.size=e1 at *
     generalize hw:x.alloc (.cells #[] 65)=x at *
     clear hw)
   | (
     go_simp
     have AB:Below x.heap.size x (x.alloc (.cells #[.slice none 0 0,.int .i64 0,.int .i64 0,.int .i64 0,.slice none 0 0,.slice none 0 0,.int .i64 0] 44)):=(Below.refl _ _).alloc (Nat.le_refl _) _
     have hbx:=D.out.size
     have nbx:=hN
     have Fkx:Hid ((x.alloc (.cells #[.slice none 0 0,.int .i64 0,.int .i64 0,.int .i64 0,.slice none 0 0,.slice none 0 0,.int .i64 0] 44)).heap[x.heap.size]?=some (.cells #[.slice none 0 0,.int .i64 0,.int .i64 0,.int .i64 0,.slice none 0 0,.slice none 0 0,.int .i64 0] 44 (0,0))):=box_new x _
     try replace Fn0:Hid _:=own_below Fn0.out AB
     try replace Fg0:Hid _:=own_below Fg0.out AB
     try replace Frn:Hid _:=RO.below Frn.out AB
     try replace Frg:Hid _:=Ow.below framesGone Frg.out AB
     replace D:Hid (Below w0.heap.size w0 (x.alloc (.cells #[.slice none 0 0,.int .i64 0,.int .i64 0,.int .i64 0,.slice none 0 0,.slice none 0 0,.int .i64 0] 44))):=Below.step D.out AB
     replace hN:N≤(x.alloc (.cells #[.slice none 0 0,.int .i64 0,.int .i64 0,.int .i64 0,.slice none 0 0,.slice none 0 0,.int .i64 0] 44)).heap.size:=Nat.le_trans hN AB.size
     refine hK.out _ (x.alloc (.cells #[.slice none 0 0,.int .i64 0,.int .i64 0,.int .i64 0,.slice none 0 0,.slice none 0 0,.int .i64 0] 44)) (HS.out _ D.out) (fun hHeld=>?_)
     clear hK K AB
     generalize x.heap.size=bx at *
     generalize hw:x.alloc (.cells #[.slice none 0 0,.int .i64 0,.int .i64 0,.int .i64 0,.slice none 0 0,.slice none 0 0,.int .i64 0] 44)=x at *
     clear hw)
   | (
     obtain ⟨zx,zl⟩:=box8z Fkx.out
     obtain ⟨q0,q1,q2,q3,q4,q5,q6⟩:=bx7 Fkx.out
     have KF:=(box_set (i:=6) (v:=.int .i64 b.lost) (box_set (i:=5) (v:=.slice ga gn gc) (box_set (i:=4) (v:=.slice none 0 0) (box_set (i:=3) (v:=.int .i64 b.seq) (box_set (i:=2) (v:=.int .i64 b.next) (box_set (i:=1) (v:=.int .i64 b.valid) (box_set (i:=0) (v:=.slice na nn nc) Fkx.out)))))))
     have DF:=(((((((D.out.setCell (p:=⟨bx,0,none⟩) hbx (.slice na nn nc)).setCell (p:=⟨bx,1,none⟩) hbx (.int .i64 b.valid)).setCell (p:=⟨bx,2,none⟩) hbx (.int .i64 b.next)).setCell (p:=⟨bx,3,none⟩) hbx (.int .i64 b.seq)).setCell (p:=⟨bx,4,none⟩) hbx (.slice none 0 0)).setCell (p:=⟨bx,5,none⟩) hbx (.slice ga gn gc)).setCell (p:=⟨bx,6,none⟩) hbx (.int .i64 b.lost))
     obtain ⟨Z,hZ⟩:∃ Z,Z=(((((((x.setCell ⟨bx,0,none⟩ (.slice na nn nc)).setCell ⟨bx,1,none⟩ (.int .i64 b.valid)).setCell ⟨bx,2,none⟩ (.int .i64 b.next)).setCell ⟨bx,3,none⟩ (.int .i64 b.seq)).setCell ⟨bx,4,none⟩ (.slice none 0 0)).setCell ⟨bx,5,none⟩ (.slice ga gn gc)).setCell ⟨bx,6,none⟩ (.int .i64 b.lost)):=⟨_,rfl⟩
     rw [← hZ] at KF DF
     have hoth:∀ k,k≠bx→Z.heap[k]?=x.heap[k]?:=fun k hk=>by rw [hZ,Below.heap_setCell _ _ _ _ (show k≠bx from hk),Below.heap_setCell _ _ _ _ (show k≠bx from hk),Below.heap_setCell _ _ _ _ (show k≠bx from hk),Below.heap_setCell _ _ _ _ (show k≠bx from hk),Below.heap_setCell _ _ _ _ (show k≠bx from hk),Below.heap_setCell _ _ _ _ (show k≠bx from hk),Below.heap_setCell _ _ _ _ (show k≠bx from hk)]
     have RF:RO Z (fun k=>N≤k) (.slice na nn nc) b.name:=ro_oth Frn.out (fun k hk=>hoth k fun e=>by subst e;exact ty_ne Fkx.out hk (by decide))
     have GF:GonesO Z (fun k=>N≤k) (.slice ga gn gc) b.gones:=gones_oth Frg.out (fun k hk=>hoth k fun e=>by subst e;exact ty_ne Fkx.out hk (by decide))
     subst hZ
     go_simp
     refine hK.out _ _ (HS.out _ DF) (fun hHeld=>?_)
     clear hK K
     refine wpAnyH_done (by kernel_rfl) ?_ _
     go_wp2
     go_meet
     case rel=>exact ⟨_,_,_,_,_,_,_,rfl,KF,RF,GF,nbx,DF⟩))
 case rest =>
  obtain ⟨bx,na,nn,nc,ga,gn,gc,rfl,HX3,HRN,HRG,hbx,HD⟩:=hcut
  have hs2:w0.heap.size=w.heap.size+2:=HS0.out
  have hNe:=HNE.out
  subst hNe
  have HB0:Hid (Below w.heap.size w wc):=Below.step HX.out HD.out
  have HKA1:Hid (wc.heap[w.heap.size]?=some (.cells #[.slice a0 an0 ac0,.int .i64 b.valid,.int .i64 b.next,.int .i64 b.seq,.slice a1 b.mails.length ac1,.slice a2 b.gones.length ac2,.int .i64 b.lost] 44 (0,0))):=box_below HD.out HKA.out
  have HKR1:Hid (wc.heap[w.heap.size+1]?=some (.cells #[.slice none 0 0,.int .i64 0,.int .i64 0,.int .i64 0,.slice none 0 0,.slice none 0 0,.int .i64 0] 44 (0,0))):=box_below HD.out HKR.out
  have HRN1:Hid (RO wc (In (w.heap.size+2) wc.heap.size) (.slice na nn nc) b.name):=ro_in HRN.out
  have HRG1:Hid (GonesR wc (w.heap.size+2) wc.heap.size (.slice ga gn gc) b.gones):=gones_in HRG.out
  have hlx:=lt_of_heap HX3.out
  have hwc:w.heap.size+2≤wc.heap.size:=by omega
  clear HD HX HKA HKR HRN HRG HS0 HNE hs2
  go_wp2
  go_loopw [4] (fun i wr=>∃ (k:Nat) (va:Option Addr) (vn vc:Nat),k≤b.mails.length∧i=.int .i64 k∧Hid (Below w.heap.size w wr)∧Hid (wr.heap[w.heap.size]?=some (.cells #[.slice a0 an0 ac0,.int .i64 b.valid,.int .i64 b.next,.int .i64 b.seq,.slice a1 b.mails.length ac1,.slice a2 b.gones.length ac2,.int .i64 b.lost] 44 (0,0)))∧Hid (wr.heap[w.heap.size+1]?=some (.cells #[.slice none 0 0,.int .i64 0,.int .i64 0,.int .i64 0,.slice none 0 0,.slice none 0 0,.int .i64 0] 44 (0,0)))∧Hid (wr.heap[bx]?=some (.cells #[.slice na nn nc,.int .i64 b.valid,.int .i64 b.next,.int .i64 b.seq,.slice va vn vc,.slice ga gn gc,.int .i64 b.lost] 44 (0,0)))∧Hid (RO wr (In (w.heap.size+2) wc.heap.size) (.slice na nn nc) b.name)∧Hid (GonesR wr (w.heap.size+2) wc.heap.size (.slice ga gn gc) b.gones)∧wc.heap.size≤wr.heap.size∧Hid (MailsR wr wc.heap.size wr.heap.size (.slice va vn vc) (b.mails.take k))) (fun i _=>b.mails.length - (intOf i).toNat)
  case atStart=>exact ⟨0,none,0,0,Nat.zero_le _,rfl,HB0,HKA1,HKR1,HX3,HRN1,HRG1,Nat.le_refl _,.inl ⟨rfl,rfl⟩⟩
  case round =>
   obtain ⟨k,va,vn,vc,hk,rfl,HB,HKA,HKR,HX,HN,HG,hs,HO⟩:=hrel
   clear HB0 HKA1 HKR1 HX3 HRN1 HRG1
   obtain ⟨c0,c1,c2,c3,c4,c5,c6⟩:=bx7 HKA.out
   have lA:=lt_of_heap HKA.out
   have lX:=lt_of_heap HX.out
   by_cases hlt:k < b.mails.length
   ·obtain ⟨m,hm⟩:∃ m,b.mails[k]?=some m:=⟨b.mails[k],List.getElem?_eq_getElem hlt⟩
    have hmem:m ∈ b.mails:=List.mem_of_getElem? hm
    have hmt:m.text.length+1≤szM b.mails:=szM_mem hmem
    obtain ⟨bb,off,cp,t,hv',hlb,d0,d1,d2,d3,ht,hi3⟩:=MailsV.cell (HMM1.out wr HB.out) k m hm
    simp only [Value.slice.injEq,true_and] at hv'
    obtain ⟨rfl,rfl⟩:=hv'
    have HT:Hid (Bs wr t m.text):=ht
    have HI3:Hid (I64 m.uid∧I64 m.flags∧I64 m.seq):=hi3
    obtain ⟨ta,tn,tc,rfl⟩:=ht.form3
    have HM:Hid (b.mails[k]?=some m):=hm
    have hki:(k:Int) < b.mails.length:=by omega
    clear ht hi3 hm hmem
    go_upto_region 6 with fail
    have AB:Below wr.heap.size wr (wr.alloc (.cells #[.int .i64 m.uid,.int .i64 m.flags,.int .i64 m.seq,.slice ta tn tc] 67)):=(Below.refl _ _).alloc (Nat.le_refl _) _
    have KM:=box_new wr (.cells #[.int .i64 m.uid,.int .i64 m.flags,.int .i64 m.seq,.slice ta tn tc] 67)
    have HB5:Hid (Below w.heap.size w (wr.alloc (.cells #[.int .i64 m.uid,.int .i64 m.flags,.int .i64 m.seq,.slice ta tn tc] 67))):=Below.step HB.out AB
    have HT5:Hid (Bs (wr.alloc (.cells #[.int .i64 m.uid,.int .i64 m.flags,.int .i64 m.seq,.slice ta tn tc] 67)) (.slice ta tn tc) m.text):=HT.out.below AB
    have HKA5:=hidm' (box_below AB HKA.out)
    have HKR5:=hidm' (box_below AB HKR.out)
    have HX5:=hidm' (box_below AB HX.out)
    have HN5:Hid (RO (wr.alloc (.cells #[.int .i64 m.uid,.int .i64 m.flags,.int .i64 m.seq,.slice ta tn tc] 67)) (In (w.heap.size+2) wc.heap.size) (.slice na nn nc) b.name):=HN.out.below AB
    have HG5:Hid (GonesR (wr.alloc (.cells #[.int .i64 m.uid,.int .i64 m.flags,.int .i64 m.seq,.slice ta tn tc] 67)) (w.heap.size+2) wc.heap.size (.slice ga gn gc) b.gones):=OwR.below HG.out AB
    have HO5:Hid (MailsR (wr.alloc (.cells #[.int .i64 m.uid,.int .i64 m.flags,.int .i64 m.seq,.slice ta tn tc] 67)) wc.heap.size wr.heap.size (.slice va vn vc) (b.mails.take k)):=OwR.below HO.out AB
    have HS5:Hid ((wr.alloc (.cells #[.int .i64 m.uid,.int .i64 m.flags,.int .i64 m.seq,.slice ta tn tc] 67)).heap.size=wr.heap.size+1):=by show _=_;simp
    generalize hw5:wr.alloc (.cells #[.int .i64 m.uid,.int .i64 m.flags,.int .i64 m.seq,.slice ta tn tc] 67)=w5 at *
    clear hw5 AB HB HT HKA HKR HX HN HG HO c0 c1 c2 c3 c4 c5 c6 d0 d1 d2 d3 lA lX hlb
    obtain ⟨m0,m1,m2,m3⟩:=bx4 KM
    obtain ⟨mz,ml⟩:=box8z KM
    have h5:wr.heap.size+1≤w5.heap.size:=by have:=HS5.out;omega
    have AE:Below w5.heap.size w5 (w5.alloc (.cells #[] 5)):=(Below.refl _ _).alloc (Nat.le_refl _) _
    have hE:=owns_empty w5 5 1 w5.heap.size (Nat.le_refl _)
    have HTE:=Bs.rd1 (HT5.out.below AE)
    have ht1:m.text.length≤maxLen:=by unfold maxLen;omega
    have ht2:m.text.length * 1≤140737488355328:=by omega
    have hBE:w5.heap.size≤(w5.alloc (.cells #[] 5)).heap.size:=AE.size
    go_wp2_with (at_builtin;refine wpList_cat (B:=w5.heap.size) rfl (.tmp 35) (.tmp 37) rfl hE HTE (one_byte _) Tryd.underlying22 hi hz0 hz1 hz2 rfl (by omega) rfl rfl ht1 ht2 hBE ?_)
    intro TV w6 xs hO6 hX6 hG6 hB6
    have hG6':(w5.alloc (.cells #[] 5)).grownBy w6 (some w5.heap.size):=hG6
    have HB6:Hid (Below w.heap.size w w6):=below_gr0 (Below.step HB5.out AE) hG6' (by omega)
    have KM6:=gr_at hG6' (box_below AE KM) (by omega)
    have HKA6:=hidm' (gr_at hG6' (box_below AE HKA5.out) (by omega))
    have HKR6:=hidm' (gr_at hG6' (box_below AE HKR5.out) (by omega))
    have HX6:=hidm' (gr_at hG6' (box_below AE HX5.out) (by omega))
    have HN6:Hid (RO w6 (In (w.heap.size+2) wc.heap.size) (.slice na nn nc) b.name):=ro_gr (HN5.out.below AE) hG6' (.inr (by omega))
    have HG6:Hid (GonesR w6 (w.heap.size+2) wc.heap.size (.slice ga gn gc) b.gones):=OwR.gr (OwR.below HG5.out AE) hG6' (.inr (by omega))
    have HO6:Hid (MailsR w6 wc.heap.size wr.heap.size (.slice va vn vc) (b.mails.take k)):=OwR.gr (OwR.below HO5.out AE) hG6' (.inr (by omega))
    have RT:RO w6 (fun k=>w5.heap.size≤k) TV m.text:=ro_of (w0:=w5.alloc (.cells #[] 5)) HT5.out.1 hO6 (fun i x h=>by obtain ⟨c,h1,h2,h3⟩:=hX6 i x h;exact ⟨c,h1,h2,fun j y hy=>by rw [Nat.mul_one];exact h3 j y hy⟩) (fun g hg=>own_ge hO6 hg)
    obtain ⟨xa,xn,xc,hTV⟩:=RT.bs.form3
    subst hTV
    have HRT:Hid (RO w6 (In w5.heap.size w6.heap.size) (.slice xa xn xc) m.text):=ro_in RT
    have h6:w5.heap.size≤w6.heap.size:=by have:=hG6'.size;omega
    clear hG6 hG6' hB6 hO6 hX6 RT hE HTE AE m0 m1 m2 m3 mz ml KM HB5 HT5 HKA5 HKR5 HX5 HN5 HG5 HO5 hBE
    obtain ⟨m0,m1,m2,m3⟩:=bx4 KM6
    obtain ⟨mz,ml⟩:=box8z KM6
    go_upto_region 7 with fail
    have KM7:(w6.setCell ⟨wr.heap.size,3,none⟩ (.slice xa xn xc)).heap[wr.heap.size]?=some (.cells #[.int .i64 m.uid,.int .i64 m.flags,.int .i64 m.seq,.slice xa xn xc] 67 (0,0)):=box_set KM6
    have HB7:Hid (Below w.heap.size w (w6.setCell ⟨wr.heap.size,3,none⟩ (.slice xa xn xc))):=HB6.out.setCell (p:=⟨wr.heap.size,3,none⟩) (show w.heap.size≤wr.heap.size by omega) _
    have HKA7:=hidm' (box_other (k:=wr.heap.size) (i:=3) (v:=.slice xa xn xc) HKA6.out (by omega))
    have HKR7:=hidm' (box_other (k:=wr.heap.size) (i:=3) (v:=.slice xa xn xc) HKR6.out (by omega))
    have HX7:=hidm' (box_other (k:=wr.heap.size) (i:=3) (v:=.slice xa xn xc) HX6.out (by omega))
    have HN7:Hid (RO (w6.setCell ⟨wr.heap.size,3,none⟩ (.slice xa xn xc)) (In (w.heap.size+2) wc.heap.size) (.slice na nn nc) b.name):=ro_set HN6.out (.inr (by omega))
    have HG7:Hid (GonesR (w6.setCell ⟨wr.heap.size,3,none⟩ (.slice xa xn xc)) (w.heap.size+2) wc.heap.size (.slice ga gn gc) b.gones):=OwR.set HG6.out (.inr (by omega))
    have HO7:Hid (MailsR (w6.setCell ⟨wr.heap.size,3,none⟩ (.slice xa xn xc)) wc.heap.size wr.heap.size (.slice va vn vc) (b.mails.take k)):=OwR.set HO6.out (.inr (by omega))
    have HRT7:Hid (RO (w6.setCell ⟨wr.heap.size,3,none⟩ (.slice xa xn xc)) (In w5.heap.size w6.heap.size) (.slice xa xn xc) m.text):=ro_set HRT.out (.inl (by omega))
    have HS7:Hid ((w6.setCell ⟨wr.heap.size,3,none⟩ (.slice xa xn xc)).heap.size=w6.heap.size):=box_size
    clear m0 m1 m2 m3 mz ml KM6 HB6 HKA6 HKR6 HX6 HN6 HG6 HO6 HRT
    generalize hw7:w6.setCell ⟨wr.heap.size,3,none⟩ (.slice xa xn xc)=w7 at *
    clear hw7
    obtain ⟨m0,m1,m2,m3⟩:=bx4 KM7
    have ml:=lt_of_heap KM7
    obtain ⟨y0,y1,y2,y3,y4,y5,y6⟩:=bx7 HX7.out
    have lX:=lt_of_heap HX7.out
    have AP:Below w7.heap.size w7 (w7.alloc (.cells #[.int .i64 m.uid,.int .i64 m.flags,.int .i64 m.seq,.slice xa xn xc] 67)):=(Below.refl _ _).alloc (Nat.le_refl _) _
    have hsp:(w7.alloc (.cells #[.int .i64 m.uid,.int .i64 m.flags,.int .i64 m.seq,.slice xa xn xc] 67)).heap.size=w7.heap.size+1:=by simp
    have HE:Hid (MailE (w7.alloc (.cells #[.int .i64 m.uid,.int .i64 m.flags,.int .i64 m.seq,.slice xa xn xc] 67)) [.int .i64 m.uid,.int .i64 m.flags,.int .i64 m.seq,.slice xa xn xc] m (In wr.heap.size (w7.alloc (.cells #[.int .i64 m.uid,.int .i64 m.flags,.int .i64 m.seq,.slice xa xn xc] 67)).heap.size)):=⟨_,rfl,(HRT7.out.below AP).mono (fun b hb=>⟨by have:=hb.1;omega,by have:=hb.2;have:=HS7.out;omega⟩),HI3.out⟩
    have hMs:wr.heap.size≤(w7.alloc (.cells #[.int .i64 m.uid,.int .i64 m.flags,.int .i64 m.seq,.slice xa xn xc] 67)).heap.size:=by have:=HS7.out;omega
    have HSP:Hid _:=hsp
    clear hsp
    have HOp:Hid _:=OwR.below HO7.out AP
    have htk:Hid ((b.mails.take k).length=k):=by show _=_;simp;omega
    have hp1:(b.mails.take k).length+1≤maxLen:=by have:=htk.out;unfold maxLen;have:=szM_len b.mails;omega
    have hp2:((b.mails.take k).length+1) * 48≤140737488355328:=by have:=htk.out;have:=szM_len b.mails;omega
    go_wp2_with (at_builtin;refine wpList_push rfl (.tmp 41) (.tmp 43) rfl framesMail (B:=wc.heap.size) (M:=wr.heap.size) HOp.out hMs hs Tryd.underlying41 hq hv0 hv1 hv2 rfl (by omega) rfl m [.int .i64 m.uid,.int .i64 m.flags,.int .i64 m.seq,.slice xa xn xc] rfl HE.out ⟨w7.heap.size,0,none⟩ 1 rfl (cells_new w7 _ _) one4' hp1 hp2 ?_)
    intro DV wz hO hgz hvz
    obtain ⟨da,dn,dc,hDV⟩:=OwR.form3 hO
    subst hDV
    have hge:∀ j,(Value.slice va vn vc).ownBlock=some j→wc.heap.size≤j:=fun j hj=>(hvz j hj).1
    have KX:=grown_at hgz hge (box_below AP HX7.out) (by omega)
    have HKAz:=hidm' (grown_at hgz hge (box_below AP HKA7.out) (by omega))
    have HKRz:=hidm' (grown_at hgz hge (box_below AP HKR7.out) (by omega))
    have HBz:Hid (Below w.heap.size w wz):=grown_below (Below.step HB7.out AP) hgz hge (by omega) (by have:=AP.size;omega)
    have HNz:Hid (RO wz (In (w.heap.size+2) wc.heap.size) (.slice na nn nc) b.name):=ro_gr' (HN7.out.below AP) hgz hge
    have HGz:Hid (GonesR wz (w.heap.size+2) wc.heap.size (.slice ga gn gc) b.gones):=OwR.gr' (OwR.below HG7.out AP) hgz hge
    have sz:=hgz.size
    have S7o:=HS7.out
    have SPo:=HSP.out
    obtain ⟨zx,zl⟩:=box8z KX
    obtain ⟨e0,e1,e2,e3,e4,e5,e6⟩:=bx7 KX
    have HX9:Hid ((wz.setCell ⟨bx,4,none⟩ (.slice da dn dc)).heap[bx]?=some (.cells #[.slice na nn nc,.int .i64 b.valid,.int .i64 b.next,.int .i64 b.seq,.slice da dn dc,.slice ga gn gc,.int .i64 b.lost] 44 (0,0))):=box_set KX
    have HKA9:=hidm' (box_other (k:=bx) (i:=4) (v:=.slice da dn dc) HKAz.out (by omega))
    have HKR9:=hidm' (box_other (k:=bx) (i:=4) (v:=.slice da dn dc) HKRz.out (by omega))
    have HB9:Hid (Below w.heap.size w (wz.setCell ⟨bx,4,none⟩ (.slice da dn dc))):=HBz.out.setCell (p:=⟨bx,4,none⟩) (show w.heap.size≤bx by omega) _
    have HN9:Hid (RO (wz.setCell ⟨bx,4,none⟩ (.slice da dn dc)) (In (w.heap.size+2) wc.heap.size) (.slice na nn nc) b.name):=ro_oth HNz.out (fun k hk=>Below.heap_setCell _ _ _ _ (show k≠bx from fun e=>by subst e;exact ty_ne KX hk (by decide)))
    have HG9:Hid (GonesR (wz.setCell ⟨bx,4,none⟩ (.slice da dn dc)) (w.heap.size+2) wc.heap.size (.slice ga gn gc) b.gones):=gones_oth HGz.out (fun k hk=>Below.heap_setCell _ _ _ _ (show k≠bx from fun e=>by subst e;exact ty_ne KX hk (by decide)))
    have HO9:Hid (MailsR (wz.setCell ⟨bx,4,none⟩ (.slice da dn dc)) wc.heap.size (wz.setCell ⟨bx,4,none⟩ (.slice da dn dc)).heap.size (.slice da dn dc) (b.mails.take (k+1))):=by show MailsR _ _ _ _ _;rw [box_size,take_snoc HM.out];exact OwR.set hO (.inl (by omega))
    have hs9:wc.heap.size≤(wz.setCell ⟨bx,4,none⟩ (.slice da dn dc)).heap.size:=by rw [box_size];omega
    clear KX HKAz HKRz HBz HNz HGz HX7 HKA7 HKR7 HB7 HN7 HG7 HO7 HRT7 KM7 HE HOp hO hgz hvz hge AP m0 m1 m2 m3 y0 y1 y2 y3 y4 y5 y6
    go_wp2
    go_roundw
    case rel=>exact ⟨k+1,da,dn,dc,by omega,by go_num,HB9,HKA9,HKR9,HX9,HN9,HG9,hs9,HO9⟩
    case measure=>simp [intOf];omega
   ·obtain rfl:k=b.mails.length:=by omega
    obtain ⟨d0,d1,d2,d3,d4,d5,d6⟩:=bx7 HX.out
    obtain ⟨r0,r1,r2,r3,r4,r5,r6⟩:=bx7 HKR.out
    obtain ⟨rz,rl⟩:=box8z HKR.out
    have HDf:Hid (Below w.heap.size w (((((((wr.setCell ⟨w.heap.size+1,0,none⟩ (.slice na nn nc)).setCell ⟨w.heap.size+1,1,none⟩ (.int .i64 b.valid)).setCell ⟨w.heap.size+1,2,none⟩ (.int .i64 b.next)).setCell ⟨w.heap.size+1,3,none⟩ (.int .i64 b.seq)).setCell ⟨w.heap.size+1,4,none⟩ (.slice va vn vc)).setCell ⟨w.heap.size+1,5,none⟩ (.slice ga gn gc)).setCell ⟨w.heap.size+1,6,none⟩ (.int .i64 b.lost))):=(((((((HB.out.setCell (p:=⟨w.heap.size+1,0,none⟩) (by simp) (.slice na nn nc)).setCell (p:=⟨w.heap.size+1,1,none⟩) (by simp) (.int .i64 b.valid)).setCell (p:=⟨w.heap.size+1,2,none⟩) (by simp) (.int .i64 b.next)).setCell (p:=⟨w.heap.size+1,3,none⟩) (by simp) (.int .i64 b.seq)).setCell (p:=⟨w.heap.size+1,4,none⟩) (by simp) (.slice va vn vc)).setCell (p:=⟨w.heap.size+1,5,none⟩) (by simp) (.slice ga gn gc)).setCell (p:=⟨w.heap.size+1,6,none⟩) (by simp) (.int .i64 b.lost))
    have HNf:Hid (RO (((((((wr.setCell ⟨w.heap.size+1,0,none⟩ (.slice na nn nc)).setCell ⟨w.heap.size+1,1,none⟩ (.int .i64 b.valid)).setCell ⟨w.heap.size+1,2,none⟩ (.int .i64 b.next)).setCell ⟨w.heap.size+1,3,none⟩ (.int .i64 b.seq)).setCell ⟨w.heap.size+1,4,none⟩ (.slice va vn vc)).setCell ⟨w.heap.size+1,5,none⟩ (.slice ga gn gc)).setCell ⟨w.heap.size+1,6,none⟩ (.int .i64 b.lost)) (In (w.heap.size+2) wc.heap.size) (.slice na nn nc) b.name):=(ro_set (g:=w.heap.size+1) (i:=6) (x:=.int .i64 b.lost) (ro_set (g:=w.heap.size+1) (i:=5) (x:=.slice ga gn gc) (ro_set (g:=w.heap.size+1) (i:=4) (x:=.slice va vn vc) (ro_set (g:=w.heap.size+1) (i:=3) (x:=.int .i64 b.seq) (ro_set (g:=w.heap.size+1) (i:=2) (x:=.int .i64 b.next) (ro_set (g:=w.heap.size+1) (i:=1) (x:=.int .i64 b.valid) (ro_set (g:=w.heap.size+1) (i:=0) (x:=.slice na nn nc) HN.out (.inl (by omega))) (.inl (by omega))) (.inl (by omega))) (.inl (by omega))) (.inl (by omega))) (.inl (by omega))) (.inl (by omega)))
    have HGf:Hid (GonesR (((((((wr.setCell ⟨w.heap.size+1,0,none⟩ (.slice na nn nc)).setCell ⟨w.heap.size+1,1,none⟩ (.int .i64 b.valid)).setCell ⟨w.heap.size+1,2,none⟩ (.int .i64 b.next)).setCell ⟨w.heap.size+1,3,none⟩ (.int .i64 b.seq)).setCell ⟨w.heap.size+1,4,none⟩ (.slice va vn vc)).setCell ⟨w.heap.size+1,5,none⟩ (.slice ga gn gc)).setCell ⟨w.heap.size+1,6,none⟩ (.int .i64 b.lost)) (w.heap.size+2) wc.heap.size (.slice ga gn gc) b.gones):=(OwR.set (i:=6) (x:=.int .i64 b.lost) (OwR.set (i:=5) (x:=.slice ga gn gc) (OwR.set (i:=4) (x:=.slice va vn vc) (OwR.set (i:=3) (x:=.int .i64 b.seq) (OwR.set (i:=2) (x:=.int .i64 b.next) (OwR.set (i:=1) (x:=.int .i64 b.valid) (OwR.set (i:=0) (x:=.slice na nn nc) HG.out (.inl (by omega))) (.inl (by omega))) (.inl (by omega))) (.inl (by omega))) (.inl (by omega))) (.inl (by omega))) (.inl (by omega)))
    have HOf:Hid (MailsR (((((((wr.setCell ⟨w.heap.size+1,0,none⟩ (.slice na nn nc)).setCell ⟨w.heap.size+1,1,none⟩ (.int .i64 b.valid)).setCell ⟨w.heap.size+1,2,none⟩ (.int .i64 b.next)).setCell ⟨w.heap.size+1,3,none⟩ (.int .i64 b.seq)).setCell ⟨w.heap.size+1,4,none⟩ (.slice va vn vc)).setCell ⟨w.heap.size+1,5,none⟩ (.slice ga gn gc)).setCell ⟨w.heap.size+1,6,none⟩ (.int .i64 b.lost)) wc.heap.size wr.heap.size (.slice va vn vc) b.mails):=by
      have h:MailsR wr wc.heap.size wr.heap.size (.slice va vn vc) b.mails:=by have:=HO.out;rwa [List.take_length] at this
      exact (OwR.set (i:=6) (x:=.int .i64 b.lost) (OwR.set (i:=5) (x:=.slice ga gn gc) (OwR.set (i:=4) (x:=.slice va vn vc) (OwR.set (i:=3) (x:=.int .i64 b.seq) (OwR.set (i:=2) (x:=.int .i64 b.next) (OwR.set (i:=1) (x:=.int .i64 b.valid) (OwR.set (i:=0) (x:=.slice na nn nc) h (.inl (by omega))) (.inl (by omega))) (.inl (by omega))) (.inl (by omega))) (.inl (by omega))) (.inl (by omega))) (.inl (by omega)))
    have KF:=(box_set (i:=6) (v:=.int .i64 b.lost) (box_set (i:=5) (v:=.slice ga gn gc) (box_set (i:=4) (v:=.slice va vn vc) (box_set (i:=3) (v:=.int .i64 b.seq) (box_set (i:=2) (v:=.int .i64 b.next) (box_set (i:=1) (v:=.int .i64 b.valid) (box_set (i:=0) (v:=.slice na nn nc) HKR.out)))))))
    obtain ⟨f0,f1,f2,f3,f4,f5,f6⟩:=bx7 KF
    have hszf:Hid ((((((((wr.setCell ⟨w.heap.size+1,0,none⟩ (.slice na nn nc)).setCell ⟨w.heap.size+1,1,none⟩ (.int .i64 b.valid)).setCell ⟨w.heap.size+1,2,none⟩ (.int .i64 b.next)).setCell ⟨w.heap.size+1,3,none⟩ (.int .i64 b.seq)).setCell ⟨w.heap.size+1,4,none⟩ (.slice va vn vc)).setCell ⟨w.heap.size+1,5,none⟩ (.slice ga gn gc)).setCell ⟨w.heap.size+1,6,none⟩ (.int .i64 b.lost)).heap.size=wr.heap.size):=by show _=_;simp only [box_size]
    clear KF c0 c1 c2 c3 c5 c6 HKA
    go_wp2
    refine bodyPost_ret (v:=.agg #[.slice na nn nc,.int .i64 b.valid,.int .i64 b.next,.int .i64 b.seq,.slice va vn vc,.slice ga gn gc,.int .i64 b.lost]) (by simp [results,Tryd.results75,go_sem,f0,f1,f2,f3,f4,f5,f6]) rfl ⟨_,rfl,?_,HDf.out⟩
    exact ⟨_,rfl,_,_,_,(fun x=>In (w.heap.size+2) wc.heap.size x∧(Value.slice na nn nc).ownBlock=some x),In wc.heap.size wr.heap.size,(fun x=>In (w.heap.size+2) wc.heap.size x∧Ty (((((((wr.setCell ⟨w.heap.size+1,0,none⟩ (.slice na nn nc)).setCell ⟨w.heap.size+1,1,none⟩ (.int .i64 b.valid)).setCell ⟨w.heap.size+1,2,none⟩ (.int .i64 b.next)).setCell ⟨w.heap.size+1,3,none⟩ (.int .i64 b.seq)).setCell ⟨w.heap.size+1,4,none⟩ (.slice va vn vc)).setCell ⟨w.heap.size+1,5,none⟩ (.slice ga gn gc)).setCell ⟨w.heap.size+1,6,none⟩ (.int .i64 b.lost)) x 65),rfl,ro_self HNf.out,HOf.out,gones_self HGf.out,(fun x hx=>⟨⟨by have:=hx.1.1;omega,by have:=hx.1.2;rw [hszf.out];omega⟩,fun h=>by have:=hx.1.2;have:=h.1;omega,fun h=>by obtain ⟨cs,fz,h3⟩:=ro_ty HNf.out hx.2;exact ty_ne h3 h.2 (by decide)⟩),(fun x hx=>⟨⟨by have:=hx.1;omega,by have:=hx.2;rw [hszf.out];omega⟩,fun h=>by have:=hx.1;have:=h.1.2;omega⟩),(fun x hx=>⟨by have:=hx.1.1;omega,by have:=hx.1.2;rw [hszf.out];omega⟩),HINT.out⟩

end Go.Proofs.YtnlhkgoppjejeaaDoor
