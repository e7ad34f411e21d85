/- The proof's texts, part 45. -/
import Derived.Test.YtnlhkgoppjejeaaDoorPart44

/- What a bend leaves of an account: names in blocks that are closed behind them, a number put anew, gones and numbers put behind others. -/
namespace Go.Proofs.YtnlhkgoppjejeaaDoor
open Go.RowKit
set_option linter.unusedVariables false
set_option linter.unusedSimpArgs false

def InvXB (x:BoxD):Prop:=x.name.length≤7∧x.mails.length≤12∧(∀ m ∈ x.mails,m.text.length≤30)∧x.gones.length≤41
def InvB (a:AccD):Prop:=a.boxes.length≤4∧∀ x ∈ a.boxes,InvXB x
theorem InvX.b {x:BoxD} (h:InvX x):InvXB x:=⟨by have:=h.1;omega,h.2.1,h.2.2.1,by have:=h.2.2.2;omega⟩
theorem InvA.b {a:AccD} (h:InvA a):InvB a:=⟨h.1,fun x hx=>(h.2 x hx).b⟩
theorem InvB.set {a:AccD} {k:Nat} {b:BoxD} (h:InvB a) (hb:InvXB b):InvB (setB a k b):=by
 refine ⟨by simpa [setB] using h.1,fun x hx=>?_⟩
 rcases List.mem_or_eq_of_mem_set hx with hx | rfl
 ·exact h.2 x hx
 ·exact hb
theorem InvB.sz {a:AccD} (h:InvB a):szXs a.boxes≤2000000:=by
 have h1:∀ b,b ∈ a.boxes→szX b≤500:=fun b hb=>by
  obtain ⟨k0,k1,k2,k3⟩:=h.2 b hb
  have:=szM_le30 k2
  unfold szX
  omega
 have h2:=szXs_le 500 a.boxes h1
 have:=h.1
 omega

/-- A box whose name may lie in a block that is closed behind it. -/
def BoxWE (w:World) (c:List Value) (b:BoxD) (S:Nat→Prop):Prop :=
 ∃ u0 u1 u2,c=[u0,.int .i64 b.valid,.int .i64 b.next,.int .i64 b.seq,u1,u2,.int .i64 b.lost]∧(RO w Any u0 b.name∨∃ q,OwnQ w q u0 b.name)∧MailsQ w S u1 b.mails∧GonesQ w S u2 b.gones∧I64 b.valid∧I64 b.next∧I64 b.seq∧I64 b.lost
abbrev BoxesW:=Ow 44 7 BoxWE
section
variable {w w' : World} {S : Nat → Prop} {v : Value} {l : List BoxD}
theorem boxes_w (h:BoxesQ w S v l):BoxesW w S v l:=by
 rcases h with h | ⟨g,cap,cur,cs,fs,hv,hh,h1,h2,h3,h4,h5,h6,h7⟩
 ·exact .inl h
 ·exact .inr ⟨g,cap,cur,cs,fs,hv,hh,h1,h2,h3,h4,fun i x hx=>⟨let ⟨u0,u1,u2,e,r,k⟩:=(h5 i x hx).1;⟨u0,u1,u2,e,.inl r,k⟩,(h5 i x hx).2⟩,h6,h7⟩
theorem boxew_oth {c:List Value} {b:BoxD} (h:BoxWE w c b S) (hm:∀ k,S k→k < w.heap.size→w'.heap[k]?=w.heap[k]?) (ht:StayT w w' 5) (hg:StayT w w' 65):BoxWE w' c b S:=by
 obtain ⟨u0,u1,u2,e,r,m,g,k⟩:=h
 refine ⟨u0,u1,u2,e,r.imp (fun r=>ro_oth r ht) fun ⟨q,o⟩=>⟨q,o.frame (ht q ?_)⟩,mails_oth m hm ht,gonesq_oth g hg,k⟩
 obtain ⟨-,cap,cur,fz,-,hh,-⟩:=o
 exact ⟨_,_,hh⟩
theorem boxesw_oth (h:BoxesW w S v l) (hm:∀ k,S k→k < w.heap.size→w'.heap[k]?=w.heap[k]?) (ht:StayT w w' 5) (hg:StayT w w' 65):BoxesW w' S v l:=by
 rcases h with h | ⟨g,cap,cur,cs,fs,hv,hh,h1,h2,h3,h4,h5,h6,h7⟩
 ·exact .inl h
 ·exact .inr ⟨g,cap,cur,cs,fs,hv,(hm g h4 (lt_of_heap hh)).trans hh,h1,h2,h3,h4,fun i x hx=>⟨boxew_oth (h5 i x hx).1 (fun k hk=>hm k (h6 i k (List.getElem?_eq_some_iff.1 hx).1 hk).1) ht hg,(h5 i x hx).2⟩,h6,h7⟩
theorem boxesw_v (h:BoxesW w S v l):BoxesV w v l :=
 Ow.rd (fun _ _ _ _ ⟨u0,u1,u2,e,r,m,g,k⟩=>⟨u0,u1,u2,e,r.elim RO.bs fun ⟨_,o⟩=>o.bs,m.v,g.1,k⟩) h
/-- One box gets another name. -/
theorem boxesw_name (h:BoxesQ w S v l) {i:Nat} {b:BoxD} (hb:l[i]?=some b) {g n cap:Nat} (hv:v=.slice (some ⟨g,0,none⟩) n cap) {u:Value} {nm:List Int} {q:Nat} (hq:OwnQ w q u nm) :
  BoxesW (w.setCell ⟨g,i * 7,none⟩ u) S v (l.set i ⟨nm,b.valid,b.next,b.seq,b.mails,b.gones,b.lost⟩):=by
 have hi:i < l.length:=(List.getElem?_eq_some_iff.1 hb).1
 rcases h with ⟨-,h⟩ | ⟨g',cap',cur,cs,fs,hv',hh,h1,h2,h3,h4,h5,h6,h7⟩
 ·subst h;simp at hb
 rw [hv'] at hv
 simp only [Value.slice.injEq,Option.some.injEq,Addr.mk.injEq,and_true] at hv
 obtain ⟨rfl,-,-⟩:=hv
 have hty:Ty w g' 44:=⟨_,_,hh⟩
 have hqg:q≠g':=fun e=>by
  subst e
  obtain ⟨-,_,_,_,-,hq,-⟩:=hq
  exact ty_ne hq hty (by decide)
 have hk:∀ k,k≠g'→(w.setCell ⟨g',i * 7,none⟩ u).heap[k]?=w.heap[k]?:=fun k h=>Below.heap_setCell _ _ _ _ h
 refine .inr ⟨g',cap',_,fun j=>if j=i then (cs i).set 0 u else cs j,fs,by rw [List.length_set];exact hv',box_set hh,by rw [List.length_set];exact h1,h2,by rw [Array.size_setIfInBounds];exact h3,h4,fun j y hy=>?_,fun j k hj=>h6 j k (by simpa using hj),fun j m k hj hm=>h7 j m k (by simpa using hj) (by simpa using hm)⟩
 by_cases e:j=i
 ·subst e
  rw [List.getElem?_set_self hi] at hy
  cases hy
  simp only [if_pos]
  obtain ⟨⟨u0,u1,u2,ec,r,m,gq,kk⟩,hl,hcell⟩:=h5 j b hb
  refine ⟨⟨u,u1,u2,by rw [ec];rfl,.inr ⟨q,hq.frame (hk q hqg)⟩,mails_oth m (fun k hk' _=>hk k (h6 j k hi hk').2) (stay_set hty (by decide)),gonesq_oth gq (stay_set hty (by decide)),kk⟩,by rw [List.length_set];exact hl,fun k z hz=>?_⟩
  by_cases ek:k=0
  ·subst ek
   rw [List.getElem?_set_self (by omega)] at hz
   cases hz
   rw [Nat.add_zero,Array.getElem?_setIfInBounds_self_of_lt (by omega)]
  ·rw [List.getElem?_set_ne (Ne.symm ek)] at hz
   rw [Array.getElem?_setIfInBounds_ne (by omega)]
   exact hcell k z hz
 ·rw [List.getElem?_set_ne (Ne.symm e)] at hy
  simp only [if_neg e]
  obtain ⟨⟨u0,u1,u2,ec,r,m,gq,kk⟩,q1,q2⟩:=h5 j y hy
  have hj:=(List.getElem?_eq_some_iff.1 hy).1
  refine ⟨⟨u0,u1,u2,ec,.inl (ro_oth r (stay_set hty (by decide))),mails_oth m (fun k hk' _=>hk k (h6 j k hj hk').2) (stay_set hty (by decide)),gonesq_oth gq (stay_set hty (by decide)),kk⟩,q1,fun k z hz=>?_⟩
  have hk:k < 7:=by have:=(List.getElem?_eq_some_iff.1 hz).1;omega
  rw [Array.getElem?_setIfInBounds_ne (by rcases Nat.lt_or_gt_of_ne e with e | e <;> omega)]
  exact q2 k z hz
end

/-- None of its blocks is an account's variable. -/
theorem boxesw_cut {w:World} {S:Nat→Prop} {v:Value} {l:List BoxD} (h:BoxesW w S v l):BoxesW w (fun k=>S k∧¬ Ty w k 26) v l:=by
 have hn:∀ {k cs t fz},w.heap[k]?=some (.cells cs t fz)→t≠26→¬ Ty w k 26:=fun hh ht hT=>ty_ne hh hT ht
 rcases h with h | ⟨g,cap,cur,cs,fs,hv,hh,h1,h2,h3,h4,h5,h6,h7⟩
 ·exact .inl h
 ·refine .inr ⟨g,cap,cur,cs,fun i k=>fs i k∧¬ Ty w k 26,hv,hh,h1,h2,h3,⟨h4,hn hh (by decide)⟩,fun i x hx=>⟨?_,(h5 i x hx).2⟩,fun i k hi hk=>⟨⟨(h6 i k hi hk.1).1,hk.2⟩,(h6 i k hi hk.1).2⟩,fun i j k hi hj hne hk hk'=>h7 i j k hi hj hne hk.1 hk'.1⟩
  obtain ⟨u0,u1,u2,e,e1,e2,e3,r⟩:=(h5 i x hx).1
  refine ⟨u0,u1,u2,e,e1,?_,⟨e3.1,fun a n c e=>let ⟨k1,cur,hh,k⟩:=e3.2 a n c e;⟨⟨k1,hn hh (by decide)⟩,cur,hh,k⟩⟩,r⟩
  rcases e2 with h | ⟨m,cap,cu,cs,fs,hv,hm,k1,k2,k3,k4,k5,k6,k7⟩
  ·exact .inl h
  ·exact .inr ⟨m,cap,cu,cs,fun _ _=>False,hv,hm,k1,k2,k3,⟨k4,hn hm (by decide)⟩,k5,by simp,by simp⟩
/-- It reads as an account wherever all but accounts' variables stay. -/
def AccT (w:World) (u:Value) (a:AccD):Prop:=∀ w':World,w.heap.size≤w'.heap.size→(∀ k,k < w.heap.size→¬ Ty w k 26→w'.heap[k]?=w.heap[k]?)→AccV w' u a
/-- Where l3bent stands at its end: the account behind the variable ga, the result's variable. -/
def ESt (w0 wI w:World) (g ga:Nat) (cv:Value) (L:List Int):Prop:=∃ (a:AccD) (S:Nat→Prop) (u0 u1:Value),w.heap[ga]?=some (.cells #[.int .i64 a.valid,u0,u1] 26 (0,0))∧BoxesW w S u0 a.boxes∧IntsO w Any u1 a.seen∧I64 a.valid∧InvB a∧(∀ k,S k→wI.heap.size < k)∧wI.heap.size < ga∧Cur w0 w g cv L∧w.heap[wI.heap.size]?=some (.cells #[.int .i64 0,.slice none 0 0,.slice none 0 0] 26 (0,0))
theorem ESt.out {w0 wI w:World} {g ga:Nat} {cv:Value} {L:List Int} (h:ESt w0 wI w g ga cv L) (hg:g < wI.heap.size):∃ (a:AccD) (a0 a1:Option Addr) (c0 n1 c1:Nat),wI.heap.size < ga∧w.heap[ga]?=some (.cells #[.int .i64 a.valid,.slice a0 a.boxes.length c0,.slice a1 n1 c1] 26 (0,0))∧w.heap[wI.heap.size]?=some (.cells #[.int .i64 0,.slice none 0 0,.slice none 0 0] 26 (0,0)) ∧
  Hid ((((w.setCell ⟨wI.heap.size,0,none⟩ (.int .i64 a.valid)).setCell ⟨wI.heap.size,1,none⟩ (.slice a0 a.boxes.length c0)).setCell ⟨wI.heap.size,2,none⟩ (.slice a1 n1 c1)).heap[wI.heap.size]?=some (.cells #[.int .i64 a.valid,.slice a0 a.boxes.length c0,.slice a1 n1 c1] 26 (0,0))∧AccT (((w.setCell ⟨wI.heap.size,0,none⟩ (.int .i64 a.valid)).setCell ⟨wI.heap.size,1,none⟩ (.slice a0 a.boxes.length c0)).setCell ⟨wI.heap.size,2,none⟩ (.slice a1 n1 c1)) (.agg #[.int .i64 a.valid,.slice a0 a.boxes.length c0,.slice a1 n1 c1]) a∧InvB a∧Cur w0 (((w.setCell ⟨wI.heap.size,0,none⟩ (.int .i64 a.valid)).setCell ⟨wI.heap.size,1,none⟩ (.slice a0 a.boxes.length c0)).setCell ⟨wI.heap.size,2,none⟩ (.slice a1 n1 c1)) g cv L):=by
 obtain ⟨a,S,u0,u1,hk,hq,hs,hi,hI,hlow,hga,hC,hr⟩:=h
 obtain ⟨a0,c0,rfl,-⟩:=(boxesw_v hq).form
 obtain ⟨a1,n1,c1,rfl⟩:∃ ua un uc,u1=.slice ua un uc:=by
  rcases hs with ⟨h,-⟩ | ⟨q,cap,cur,cs,fs,h,-⟩ <;> exact ⟨_,_,_,h⟩
 have G:w.grownBy (((w.setCell ⟨wI.heap.size,0,none⟩ (.int .i64 a.valid)).setCell ⟨wI.heap.size,1,none⟩ (.slice a0 a.boxes.length c0)).setCell ⟨wI.heap.size,2,none⟩ (.slice a1 n1 c1)) (some wI.heap.size):=gbs 2 _ (gbs 1 _ (gbs 0 _ (World.grownBy.refl w (some wI.heap.size))))
 have b3:Below wI.heap.size w (((w.setCell ⟨wI.heap.size,0,none⟩ (.int .i64 a.valid)).setCell ⟨wI.heap.size,1,none⟩ (.slice a0 a.boxes.length c0)).setCell ⟨wI.heap.size,2,none⟩ (.slice a1 n1 c1)):=(((Below.refl wI.heap.size w).setCell (p:=⟨wI.heap.size,0,none⟩) (Nat.le_refl _) _).setCell (p:=⟨wI.heap.size,1,none⟩) (Nat.le_refl _) _).setCell (p:=⟨wI.heap.size,2,none⟩) (Nat.le_refl _) _
 have hW:(((w.setCell ⟨wI.heap.size,0,none⟩ (.int .i64 a.valid)).setCell ⟨wI.heap.size,1,none⟩ (.slice a0 a.boxes.length c0)).setCell ⟨wI.heap.size,2,none⟩ (.slice a1 n1 c1)).heap.size=w.heap.size:=by simp only [box_size]
 have hoth:∀ k,k < w.heap.size→¬ Ty w k 26→(((w.setCell ⟨wI.heap.size,0,none⟩ (.int .i64 a.valid)).setCell ⟨wI.heap.size,1,none⟩ (.slice a0 a.boxes.length c0)).setCell ⟨wI.heap.size,2,none⟩ (.slice a1 n1 c1)).heap[k]?=w.heap[k]?∧¬ Ty (((w.setCell ⟨wI.heap.size,0,none⟩ (.int .i64 a.valid)).setCell ⟨wI.heap.size,1,none⟩ (.slice a0 a.boxes.length c0)).setCell ⟨wI.heap.size,2,none⟩ (.slice a1 n1 c1)) k 26:=fun k hk hT=>by
  have e:(((w.setCell ⟨wI.heap.size,0,none⟩ (.int .i64 a.valid)).setCell ⟨wI.heap.size,1,none⟩ (.slice a0 a.boxes.length c0)).setCell ⟨wI.heap.size,2,none⟩ (.slice a1 n1 c1)).heap[k]?=w.heap[k]?:=G.block k hk (by
   simp only [ne_eq,Option.some.injEq]
   intro e
   exact hT (e ▸ ⟨_,_,hr⟩))
  exact ⟨e,fun h=>hT (by obtain ⟨cs,fz,h⟩:=h;exact ⟨cs,fz,e.symm.trans h⟩)⟩
 refine ⟨a,a0,a1,c0,n1,c1,hga,hk,hr,box_set (i:=2) (v:=.slice a1 n1 c1) (box_set (i:=1) (v:=.slice a0 a.boxes.length c0) (box_set (i:=0) (v:=.int .i64 a.valid) hr)),fun w' hs' hk'=>?_,hI,cur_to hC b3 hg⟩
 have hall:∀ k,k < w.heap.size→¬ Ty w k 26→w'.heap[k]?=w.heap[k]?:=fun k h1 h2=>(hk' k (by rw [hW];exact h1) (hoth k h1 h2).2).trans (hoth k h1 h2).1
 have hst:∀ t,t≠26→StayT w w' t:=fun t ht k hk=>hall k (ty_lt hk) fun h=>by
  obtain ⟨cs,fz,hk⟩:=hk
  exact ty_ne hk h ht
 exact ⟨_,_,rfl,boxesw_v (boxesw_oth (boxesw_cut hq) (fun k h1 h2=>hall k h2 h1.2) (hst _ (by decide)) (hst _ (by decide))),Ow.rd (fun _ _ _ _ h=>h) (intsp_oth hs fun k _ _ hT=>hst _ (by decide) k hT),hi⟩

/-- Where l3bent stands ahead of a bend. -/
structure BSt (w0 wI w:World) (g ga:Nat) (cv:Value) (L:List Int) (a:AccD) (S:Nat→Prop):Prop where
 cur:Cur w0 w g cv L
 res:w.heap[wI.heap.size]?=some (.cells #[.int .i64 0,.slice none 0 0,.slice none 0 0] 26 (0,0))
 acc:AccP w S ga a
 inv:InvA a
 low:∀ k,S k→wI.heap.size < k
 high:∀ k,S k→k < w.heap.size
 pl:wI.heap.size < ga
 sn:∃ u0 u1:Value,w.heap[ga]?=some (.cells #[.int .i64 a.valid,u0,u1] 26 (0,0))∧IntsO w (In (wI.heap.size+1) w.heap.size) u1 a.seen
/-- A cell that stays while others turn. -/
def CellS (w:World) (k i:Nat) (v:Value):Prop:=w.cell? ⟨k,i,none⟩=some v
theorem CellS.gb {w w':World} {k i K:Nat} {v:Value} (h:CellS w k i v) (hG:w.grownBy w' (some K)) (hk:k < w.heap.size) (hne:k≠K):CellS w' k i v:=by
 unfold CellS World.cell? at h ⊢
 rw [hG.block k hk (by simpa using hne)]
 exact h
section
variable {w0 wI w w' : World} {g ga gb cap i : Nat} {cv : Value} {L : List Int} {a a' : AccD} {b b' : BoxD} {S S' : Nat → Prop}
theorem BSt.ne (h:BSt w0 wI w g ga cv L a S) (hg:g < wI.heap.size):g≠ga∧¬ S g:=⟨by have:=h.pl;omega,fun hs=>by have:=h.low _ hs;omega⟩
theorem BSt.draw (h:BSt w0 wI w g ga cv L a S) (hg:g < wI.heap.size) (hC:Cur w0 w' g cv L) (hG:w.grownBy w' (some g)):BSt w0 wI w' g ga cv L a S:=by
 have hp:=h.pl
 obtain ⟨u0,u1,hk,hs⟩:=h.sn
 exact ⟨hC,(hG.block _ (lt_of_heap h.res) (by simp;omega)).trans h.res,h.acc.draw h.cur hG (h.ne hg).2,h.inv,h.low,fun k hk=>Nat.lt_of_lt_of_le (h.high k hk) hG.size,hp,u0,u1,(hG.block _ (lt_of_heap hk) (by simp;omega)).trans hk,Ow.mono (intsp_oth hs fun k h1 h2 _=>hG.block k h2 (by have:=h1.1;simp;omega)) fun k h=>⟨h.1,Nat.lt_of_lt_of_le h.2 hG.size⟩⟩
theorem BSt.below (h:BSt w0 wI w g ga cv L a S) (hb:Below w.heap.size w w'):BSt w0 wI w' g ga cv L a S:=by
 obtain ⟨u0,u1,hk,hs⟩:=h.sn
 exact ⟨h.cur.below hb,box_below hb h.res,h.acc.below hb,h.inv,h.low,fun k hk=>Nat.lt_of_lt_of_le (h.high k hk) hb.size,h.pl,u0,u1,box_below hb hk,Ow.mono (intsp_oth hs fun k _ h2 _=>hb.block k h2) fun k h=>⟨h.1,Nat.lt_of_lt_of_le h.2 hb.size⟩⟩
theorem ESt.of (hA:AccP w S ga a) (hI:InvB a) (hlow:∀ k,S k→wI.heap.size < k) (hga:wI.heap.size < ga) (hC:Cur w0 w g cv L) (hr:w.heap[wI.heap.size]?=some (.cells #[.int .i64 0,.slice none 0 0,.slice none 0 0] 26 (0,0))):ESt w0 wI w g ga cv L :=
 let ⟨_,u0,u1,h0,h1,h2,r⟩:=hA
 ⟨a,S,u0,u1,h0,boxes_w h1,Ow.mono h2 fun _ _=>trivial,r,hI,hlow,hga,hC,hr⟩
theorem BSt.fin (h:BSt w0 wI w g ga cv L a S):ESt w0 wI w g ga cv L:=ESt.of h.acc h.inv.b h.low h.pl h.cur h.res
theorem BSt.turn (h:BSt w0 wI w g ga cv L a S) (hg:g < wI.heap.size) (hT:TurnsA w w' S ga) (hA:AccP w' S' ga a') (hS:∀ k,S' k→S k∨w.heap.size≤k) (hI:InvB a'):ESt w0 wI w' g ga cv L:=by
 have hp:=h.pl
 have hl:=h.acc.lt
 have h0:=h.cur.1
 have hn:=h.ne hg
 have hlow:=h.low
 refine ESt.of hA hI (fun k hk=>?_) hp (h.cur.turns hT hn.1 hn.2 (by omega) (fun k hk=>by have:=hlow k hk;omega)) ((hT.2.1 _ (lt_of_heap h.res) (by omega) (fun hs=>by have:=hlow _ hs;omega)).trans h.res)
 rcases hS k hk with hk | hk
 ·exact hlow k hk
 ·omega
theorem BSt.valid (h:BSt w0 wI w g ga cv L a S) (hg:g < wI.heap.size) {n:Int} (hn:I64 n):ESt w0 wI (w.setCell ⟨ga,0,none⟩ (.int .i64 n)) g ga cv L :=
 h.turn hg (TurnsA.set (S:=S) h.acc) (h.acc.setValid hn) (fun _ h=>.inl h) h.inv.b
/-- A number of the i-th box is put anew, or a mail of it turned. -/
theorem BSt.bend (h:BSt w0 wI w g ga cv L a S) (hg:g < wI.heap.size) (hb:a.boxes[i]?=some b) (hx:CellS w ga 1 (.slice (some ⟨gb,0,none⟩) a.boxes.length cap)) (hq:∀ S1,BoxP w S1 gb (i * 7) b→∃ S1',BoxP w' S1' gb (i * 7) b'∧Turns w w' S1 gb (i * 7)∧∀ k,S1' k→S1 k∨w.heap.size≤k) (hI:InvXB b'):ESt w0 wI w' g ga cv L:=by
 obtain ⟨gb',cap',S1,hc,hSg,hP,hS1,hR⟩:=h.acc.at hb
 rw [show w.cell? ⟨ga,1,none⟩=_ from hx] at hc
 simp only [Option.some.injEq,Value.slice.injEq,Addr.mk.injEq,true_and,and_true] at hc
 obtain ⟨rfl,rfl⟩:=hc
 obtain ⟨S1',hP',hT,hS⟩:=hq S1 hP
 exact h.turn hg (TurnsA.box hT hSg fun k hk=>(hS1 k hk).1) (hR w' b' S1' hT hP' hS) (fun k hk=>hk) (h.inv.b.set hI)
theorem BoxP.setValid {o:Nat} (h:BoxP w S g o b) (n:Int) (hn:I64 n):BoxP (w.setCell ⟨g,o+1,none⟩ (.int .i64 n)) S g o ⟨b.name,n,b.next,b.seq,b.mails,b.gones,b.lost⟩ :=
 h.put 1 (by omega) _ fun c ⟨u0,u1,u2,e,h1,h2,h3,i0,i1,i2,i3⟩ _=>⟨u0,u1,u2,by rw [e];rfl,set_ro h.ty h1,set_ms h.ty h2,set_gs h.ty h3,hn,i1,i2,i3⟩
theorem BSt.name (h:BSt w0 wI w g ga cv L a S) (hg:g < wI.heap.size) (hb:a.boxes[i]?=some b) (hx:CellS w ga 1 (.slice (some ⟨gb,0,none⟩) a.boxes.length cap)) {u:Value} {nm:List Int} {q:Nat} (hq:OwnQ w q u nm) (hl:nm.length≤7):ESt w0 wI (w.setCell ⟨gb,i * 7,none⟩ u) g ga cv L:=by
 obtain ⟨gb',cap',S1,hc,hSg,hP,hS1,-⟩:=h.acc.at hb
 rw [show w.cell? ⟨ga,1,none⟩=_ from hx] at hc
 simp only [Option.some.injEq,Value.slice.injEq,Addr.mk.injEq,true_and,and_true] at hc
 obtain ⟨rfl,rfl⟩:=hc
 have hp:=h.pl
 have hn:=h.ne hg
 have hlow:=h.low
 have h0:=h.cur.1
 have hbx:=h.inv.2 b (List.mem_of_getElem? hb)
 have hty:=hP.ty
 have hT:TurnsA w (w.setCell ⟨gb,i * 7,none⟩ u) S ga:=TurnsA.box (turns_set (j:=0) (S':=S1) hP (by omega)) hSg fun k hk=>(hS1 k hk).1
 obtain ⟨hSn,u0,u1,hk,hbq,hs,hi⟩:=h.acc
 have hgg:gb≠ga:=fun e=>hSn (e ▸ hSg)
 have e0:u0=.slice (some ⟨gb,0,none⟩) a.boxes.length cap:=by
  have:=(bx3 hk).2.1
  rw [show w.cell? ⟨ga,1,none⟩=_ from hx] at this
  exact (Option.some.inj this).symm
 refine ⟨setB a i ⟨nm,b.valid,b.next,b.seq,b.mails,b.gones,b.lost⟩,S,u0,u1,(Below.heap_setCell _ _ _ _ (show ga≠gb from Ne.symm hgg)).trans hk,boxesw_name hbq hb e0 hq,Ow.mono (intsp_oth hs fun k _ _ hY=>Below.heap_setCell _ _ _ _ (show k≠gb from fun e=>by obtain ⟨cs,fz,hY⟩:=hY;rw [e] at hY;exact ty_ne hY hty (by decide))) fun _ _=>trivial,hi,h.inv.b.set ⟨hl,hbx.2.1,hbx.2.2.1,by have:=hbx.2.2.2;simp only;omega⟩,hlow,hp,h.cur.turns hT hn.1 hn.2 (by omega) (fun k hk=>by have:=hlow k hk;omega),(hT.2.1 _ (lt_of_heap h.res) (by omega) (fun hs=>by have:=hlow _ hs;omega)).trans h.res⟩
/-- A mail's flags. -/
theorem BSt.flags (h:BSt w0 wI w g ga cv L a S) (hg:g < wI.heap.size) (hb:a.boxes[i]?=some b) (hx:CellS w ga 1 (.slice (some ⟨gb,0,none⟩) a.boxes.length cap)) {m:MailD} (hm:b.mails[0]?=some m) {mb mc:Nat} (hy:CellS w gb (i * 7+4) (.slice (some ⟨mb,0,none⟩) b.mails.length mc)) {fl:Int} (hf:I64 fl):ESt w0 wI (w.setCell ⟨mb,1,none⟩ (.int .i64 fl)) g ga cv L:=by
 have hbx:=h.inv.2 b (List.mem_of_getElem? hb)
 refine h.bend hg hb hx (b':=⟨b.name,b.valid,b.next,b.seq,b.mails.set 0 ⟨m.uid,fl,m.seq,m.text⟩,b.gones,b.lost⟩) (fun S1 hP=>?_) ⟨by have:=hbx.1;simp only;omega,by simpa using hbx.2.1,fun x hx=>?_,by have:=hbx.2.2.2;simp only;omega⟩
 ·obtain ⟨mb',cap',hc,-,-,hS,hty,-,-,-,hF,-⟩:=hP.mail hm
  rw [show w.cell? ⟨gb,i * 7+4,none⟩=_ from hy] at hc
  simp only [Option.some.injEq,Value.slice.injEq,Addr.mk.injEq,true_and,and_true] at hc
  obtain ⟨rfl,rfl⟩:=hc
  exact ⟨S1,by simpa using hF fl hf,turns_mail hty (.inl hS),fun _ h=>.inl h⟩
 ·rcases List.mem_or_eq_of_mem_set hx with hx | rfl
  ·exact hbx.2.2.1 x hx
  ·exact hbx.2.2.1 m (List.mem_of_getElem? hm)
/-- The cursor stays where none but K turn. -/
theorem Cur.but {K:Nat→Prop} (h:Cur w0 w g cv L) (hs:w.heap.size≤w'.heap.size) (ho:w'.os=w.os) (ht:w'.tape=w.tape) (hu:w'.output=w.output) (hk:∀ k,k < w.heap.size→¬ K k→w'.heap[k]?=w.heap[k]?) (hg:¬ K g) (h0:∀ k,K k→w0.heap.size≤k):Cur w0 w' g cv L:=by
 obtain ⟨h1,hb,h3,i,q,h4,h5,hh⟩:=h
 have hz:=hb.size
 exact ⟨h1,⟨ho.trans hb.os,ht.trans hb.tape,hu.trans hb.output,Nat.le_trans hz hs,fun k hk'=>(hk k (by omega) (fun h=>by have:=h0 k h;omega)).trans (hb.block k hk')⟩,h3,i,q,h4,h5,(hk g (lt_of_heap hh) hg).trans hh⟩
/-- One more that it has seen. -/
theorem BSt.push {w1 w2:World} {u0 u1 v:Value} {x:Int} (h:BSt w0 wI w g ga cv L a S) (hg:g < wI.heap.size) (hu:w.heap[ga]?=some (.cells #[.int .i64 a.valid,u0,u1] 26 (0,0))) (hb:Below w.heap.size w w1) {B:Nat} (hO:IntsO w2 (In B w2.heap.size) v (a.seen ++ [x])) (hG:w1.grownBy w2 u1.ownBlock) (hv:∀ g,u1.ownBlock=some g→wI.heap.size+1≤g):ESt w0 wI (w2.setCell ⟨ga,2,none⟩ v) g ga cv L∧w2.heap[ga]?=some (.cells #[.int .i64 a.valid,u0,u1] 26 (0,0)):=by
 have hp:=h.pl
 have hlow:=h.low
 have h0:=h.cur.1
 obtain ⟨hS,u0',u1',hk,hq,hs,hi⟩:=h.acc
 rw [hu] at hk
 simp only [Option.some.injEq,Obj.cells.injEq,Array.mk.injEq,List.cons.injEq,true_and,and_true] at hk
 obtain ⟨rfl,rfl⟩:=hk
 have hown:∀ q,u1.ownBlock=some q→¬ S q∧Ty w q 3:=fun q e=>by
  rcases hs with ⟨rfl,-⟩ | ⟨q',cap',cur,cs,fs,rfl,hh,-,-,-,hn,-⟩
  ·cases e
  ·simp only [Value.ownBlock,Option.some.injEq] at e
   subst e
   exact ⟨hn.1,_,_,hh⟩
 have hoth:∀ k,k < w.heap.size→u1.ownBlock≠some k→w2.heap[k]?=w.heap[k]?:=fun k h1 h2=>(hG.block k (Nat.lt_of_lt_of_le h1 hb.size) fun e=>h2 e.symm).trans (hb.block k h1)
 have hga:w2.heap[ga]?=some (.cells #[.int .i64 a.valid,u0,u1] 26 (0,0)):=(hoth ga (lt_of_heap hu) fun e=>by obtain ⟨cs,fz,hT⟩:=(hown _ e).2;exact ty_ne hT ⟨_,_,hu⟩ (by decide)).trans hu
 have hset:∀ k,k≠ga→(w2.setCell ⟨ga,2,none⟩ v).heap[k]?=w2.heap[k]?:=fun k h=>Below.heap_setCell _ _ _ _ h
 have hst:∀ t,t≠26→t≠3→StayT w (w2.setCell ⟨ga,2,none⟩ v) t:=fun t h1 h2 k hk=>by
  obtain ⟨cs,fz,hk⟩:=hk
  refine (hset k fun e=>by subst e;exact ty_ne hk ⟨_,_,hu⟩ h1).trans (hoth k (lt_of_heap hk) fun e=>?_)
  exact ty_ne hk (hown _ e).2 h2
 have hz:w.heap.size≤w2.heap.size:=Nat.le_trans hb.size hG.size
 have hne:=h.ne hg
 refine ⟨⟨⟨a.valid,a.boxes,a.seen ++ [x]⟩,S,u0,v,box_set (i:=2) (v:=v) hga,boxesw_oth (boxes_w hq) (fun k h1 h2=>(hset k fun e=>hS (e ▸ h1)).trans (hoth k h2 fun e=>(hown _ e).1 h1)) (hst _ (by decide) (by decide)) (hst _ (by decide) (by decide)),Ow.mono (intsp_oth hO fun k _ _ hT=>hset k fun e=>by subst e;obtain ⟨cs,fz,hT⟩:=hT;exact ty_ne hT ⟨_,_,hga⟩ (by decide)) fun _ _=>trivial,hi,h.inv.b,hlow,hp,h.cur.but (K:=fun k=>k=ga∨u1.ownBlock=some k) (by rw [box_size];exact hz) (hG.os.trans hb.os) (hG.tape.trans hb.tape) (hG.output.trans hb.output) (fun k h1 h2=>(hset k fun e=>h2 (.inl e)).trans (hoth k h1 fun e=>h2 (.inr e))) (fun h=>h.elim hne.1 fun h=>by have:=hv _ h;omega) (fun k h=>h.elim (fun h=>by omega) fun h=>by have:=hv _ h;omega),?_⟩,hga⟩
 exact (hset _ (by omega)).trans ((hoth _ (lt_of_heap h.res) fun e=>by have:=hv _ e;omega).trans h.res)
end

section
variable {w w' : World} {S : Nat → Prop} {v : Value}
theorem gonesq_frame {l:List GoneD} (h:GonesQ w S v l) (hm:∀ k,S k→k < w.heap.size→w'.heap[k]?=w.heap[k]?):GonesQ w' S v l:=by
 obtain ⟨⟨a,cap,cs,hv,h1,h2,h3,h4,h5⟩,hty⟩:=h
 refine ⟨⟨a,cap,cs,hv,h1,h2,h3,h4,fun hp=>?_⟩,fun a n c e=>let ⟨h1,cur,hh,r⟩:=hty a n c e;⟨h1,cur,(hm _ h1 (lt_of_heap hh)).trans hh,r⟩⟩
 obtain ⟨b,off,ha,hb,hc⟩:=h5 hp
 obtain ⟨k1,cells,hh,-⟩:=hty ⟨b,off,none⟩ l.length cap (by rw [hv,ha])
 have hh':=(hm b k1 (lt_of_heap hh)).trans hh
 refine ⟨b,off,ha,lt_of_heap hh',fun i j u hi hu=>?_⟩
 have:=hc i j u hi hu
 rw [cell_of_row w b _ cells _ (0,0) hh] at this
 rw [cell_of_row w' b _ cells _ (0,0) hh']
 exact this
/-- One more that went, put behind in place. -/
theorem gones_room {l:List GoneD} {q off n c:Nat} {x0 x1:Int} (h:GonesQ w S (.slice (some ⟨q,off,none⟩) n c) l) (hn:n=l.length) (hc:n+1≤c) (i0:I64 x0) (i1:I64 x1) :
  GonesQ ((w.setCell ⟨q,off+n * 2,none⟩ (.int .i64 x0)).setCell ⟨q,off+n * 2+1,none⟩ (.int .i64 x1)) S (.slice (some ⟨q,off,none⟩) (n+1) c) (l ++ [⟨x0,x1⟩]):=by
 obtain ⟨⟨a,cap,cs,hv,h1,h2,h3,h4,h5⟩,hty⟩:=h
 simp only [Value.slice.injEq] at hv
 obtain ⟨rfl,-,rfl⟩:=hv
 obtain ⟨hS,cur,hh,-,hs⟩:=hty ⟨q,off,none⟩ n c rfl
 simp only at hS hh hs
 have hk:=box_set (i:=off+n * 2+1) (v:=.int .i64 x1) (box_set (i:=off+n * 2) (v:=.int .i64 x0) hh)
 refine ⟨⟨some ⟨q,off,none⟩,c,fun i=>if i=n then [.int .i64 x0,.int .i64 x1] else cs i,by rw [List.length_append];simp [hn],by rw [List.length_append];simp;omega,h2,(fun e=>by cases e),fun i x hx=>?_,fun _=>⟨q,off,rfl,lt_of_heap hk,fun i j u hi hu=>?_⟩⟩,fun a n' c' e=>?_⟩
 ·by_cases e:i=n
  ·subst e
   rw [hn,List.getElem?_append_right (Nat.le_refl _),Nat.sub_self] at hx
   simp only [List.getElem?_cons_zero,Option.some.injEq] at hx
   subst hx
   simp only [if_pos]
   exact ⟨⟨rfl,i0,i1⟩,rfl⟩
  ·have hlt:i < l.length:=by
    have:=(List.getElem?_eq_some_iff.1 hx).1
    rw [List.length_append] at this
    simp at this
    omega
   rw [List.getElem?_append_left hlt] at hx
   simp only [if_neg e]
   exact h4 i x hx
 ·rw [List.length_append] at hi
  simp at hi
  rw [cell_of_row _ q _ _ _ (0,0) hk]
  by_cases e:i=n
  ·subst e
   simp only [if_pos] at hu
   match j,hu with
   | 0,hu =>
    simp only [List.getElem?_cons_zero,Option.some.injEq] at hu
    subst hu
    rw [Array.getElem?_setIfInBounds_ne (by omega),Nat.add_zero,Array.getElem?_setIfInBounds_self_of_lt (by omega)]
   | 1,hu =>
    simp only [List.getElem?_cons_succ,List.getElem?_cons_zero,Option.some.injEq] at hu
    subst hu
    rw [Array.getElem?_setIfInBounds_self_of_lt (by rw [Array.size_setIfInBounds];omega)]
   | j+2,hu=>simp at hu
  ·simp only [if_neg e] at hu
   have hil:i < l.length:=by omega
   obtain ⟨b,off',ha,-,hcell⟩:=h5 (by omega)
   simp only [Option.some.injEq,Addr.mk.injEq,and_true] at ha
   obtain ⟨rfl,rfl⟩:=ha
   have hjl:j < 2:=by
    have h6:=(List.getElem?_eq_some_iff.1 hu).1
    have h7:=(h4 i l[i] (List.getElem?_eq_getElem hil)).2
    omega
   have:=hcell i j u hil hu
   rw [cell_of_row w q _ cur _ (0,0) hh] at this
   rw [Array.getElem?_setIfInBounds_ne (by omega),Array.getElem?_setIfInBounds_ne (by omega)]
   exact this
 ·simp only [Value.slice.injEq,Option.some.injEq] at e
  obtain ⟨rfl,-,rfl⟩:=e
  exact ⟨hS,_,hk,rfl,by simp only [Array.size_setIfInBounds];exact hs⟩
/-- .. of one box of a list. -/
theorem boxesw_room {l:List BoxD} (h:BoxesQ w S v l) {i:Nat} {b:BoxD} (hb:l[i]?=some b) {g n cap q off m c:Nat} (hv:v=.slice (some ⟨g,0,none⟩) n cap) (hgc:w.cell? ⟨g,i * 7+5,none⟩=some (.slice (some ⟨q,off,none⟩) m c)) (hm:m=b.gones.length) (hc:m+1≤c) {x0 x1:Int} (i0:I64 x0) (i1:I64 x1) :
  S q∧S g∧q≠g∧Ty w q 65∧Ty w g 44∧BoxesW (((w.setCell ⟨q,off+m * 2,none⟩ (.int .i64 x0)).setCell ⟨q,off+m * 2+1,none⟩ (.int .i64 x1)).setCell ⟨g,i * 7+5,none⟩ (.slice (some ⟨q,off,none⟩) (m+1) c)) S v (l.set i ⟨b.name,b.valid,b.next,b.seq,b.mails,b.gones ++ [⟨x0,x1⟩],b.lost⟩):=by
 have hi:i < l.length:=(List.getElem?_eq_some_iff.1 hb).1
 rcases h with ⟨-,h⟩ | ⟨g',cap',cur,cs,fs,hv',hh,h1,h2,h3,h4,h5,h6,h7⟩
 ·subst h;simp at hb
 rw [hv'] at hv
 simp only [Value.slice.injEq,Option.some.injEq,Addr.mk.injEq,and_true] at hv
 obtain ⟨rfl,-,-⟩:=hv
 have hty:Ty w g' 44:=⟨_,_,hh⟩
 obtain ⟨⟨u0,u1,u2,ec,r,ms,gq,kk⟩,hl,hcell⟩:=h5 i b hb
 have e2:u2=.slice (some ⟨q,off,none⟩) m c:=by
  have:=hcell 5 u2 (by rw [ec];rfl)
  rw [cell_of_row w g' _ cur _ (0,0) hh,this] at hgc
  exact Option.some.inj hgc
 subst e2
 obtain ⟨hfq,gcur,hgh,-,-⟩:=gq.2 ⟨q,off,none⟩ m c rfl
 simp only at hfq hgh
 have htq:Ty w q 65:=⟨_,_,hgh⟩
 have hqg:q≠g':=(h6 i q hi hfq).2
 obtain ⟨W1,hW1⟩:∃ W1,W1=(w.setCell ⟨q,off+m * 2,none⟩ (.int .i64 x0)).setCell ⟨q,off+m * 2+1,none⟩ (.int .i64 x1):=⟨_,rfl⟩
 have hgr:=gones_room (x0:=x0) (x1:=x1) gq hm hc i0 i1
 rw [← hW1] at hgr ⊢
 have k1:∀ k,k≠q→W1.heap[k]?=w.heap[k]?:=fun k h=>by rw [hW1,Below.heap_setCell _ _ _ _ (show k≠q from h),Below.heap_setCell _ _ _ _ (show k≠q from h)]
 have k2:∀ k,k≠g'→(W1.setCell ⟨g',i * 7+5,none⟩ (.slice (some ⟨q,off,none⟩) (m+1) c)).heap[k]?=W1.heap[k]?:=fun k h=>Below.heap_setCell _ _ _ _ h
 have k3:∀ k,k≠q→k≠g'→(W1.setCell ⟨g',i * 7+5,none⟩ (.slice (some ⟨q,off,none⟩) (m+1) c)).heap[k]?=w.heap[k]?:=fun k h h'=>(k2 k h').trans (k1 k h)
 have hst:∀ t,t≠65→t≠44→StayT w (W1.setCell ⟨g',i * 7+5,none⟩ (.slice (some ⟨q,off,none⟩) (m+1) c)) t:=fun t t1 t2 k hk=>by
  obtain ⟨cs,fz,hk⟩:=hk
  exact k3 k (fun e=>by subst e;exact ty_ne hk htq t1) (fun e=>by subst e;exact ty_ne hk hty t2)
 refine ⟨(h6 i q hi hfq).1,h4,hqg,htq,hty,.inr ⟨g',cap',_,fun j=>if j=i then (cs i).set 5 (.slice (some ⟨q,off,none⟩) (m+1) c) else cs j,fs,by rw [List.length_set];exact hv',box_set ((k1 g' (Ne.symm hqg)).trans hh),by rw [List.length_set];exact h1,h2,by rw [Array.size_setIfInBounds];exact h3,h4,fun j y hy=>?_,fun j k hj=>h6 j k (by simpa using hj),fun j m k hj hm=>h7 j m k (by simpa using hj) (by simpa using hm)⟩⟩
 by_cases e:j=i
 ·subst e
  rw [List.getElem?_set_self hi] at hy
  cases hy
  simp only [if_pos]
  refine ⟨⟨u0,u1,_,by rw [ec];rfl,.inl (ro_oth r (hst _ (by decide) (by decide))),?_,gonesq_frame hgr fun k hk _=>k2 k (h6 j k hi hk).2,kk⟩,by rw [List.length_set];exact hl,fun k z hz=>?_⟩
  ·rcases ms with ms | ⟨mg,mc,mcur,mcs,mfs,mv,mh,m1,m2,m3,m4,m5,m6,m7⟩
   ·exact .inl ms
   ·exact .inr ⟨mg,mc,mcur,mcs,mfs,mv,(k3 mg (fun e=>by subst e;exact ty_ne mh htq (by decide)) (h6 j mg hi m4).2).trans mh,m1,m2,m3,m4,fun p y hy=>⟨mail_oth (m5 p y hy).1 (hst _ (by decide) (by decide)),(m5 p y hy).2⟩,m6,m7⟩
  ·by_cases ek:k=5
   ·subst ek
    rw [List.getElem?_set_self (by omega)] at hz
    cases hz
    rw [Array.getElem?_setIfInBounds_self_of_lt (by omega)]
   ·rw [List.getElem?_set_ne (Ne.symm ek)] at hz
    rw [Array.getElem?_setIfInBounds_ne (by omega)]
    exact hcell k z hz
 ·rw [List.getElem?_set_ne (Ne.symm e)] at hy
  simp only [if_neg e]
  obtain ⟨⟨v0,v1,v2,ec',r',ms',gq',kk'⟩,q1,q2⟩:=h5 j y hy
  have hj:=(List.getElem?_eq_some_iff.1 hy).1
  have hfs:∀ k,fs j k→k < w.heap.size→(W1.setCell ⟨g',i * 7+5,none⟩ (.slice (some ⟨q,off,none⟩) (m+1) c)).heap[k]?=w.heap[k]?:=fun k hk _=>k3 k (fun e'=>by subst e';exact h7 j i k hj hi e hk hfq) (h6 j k hj hk).2
  refine ⟨⟨v0,v1,v2,ec',.inl (ro_oth r' (hst _ (by decide) (by decide))),mails_oth ms' hfs (hst _ (by decide) (by decide)),gonesq_frame gq' hfs,kk'⟩,q1,fun k z hz=>?_⟩
  have hk:k < 7:=by have:=(List.getElem?_eq_some_iff.1 hz).1;omega
  rw [Array.getElem?_setIfInBounds_ne (by rcases Nat.lt_or_gt_of_ne e with e | e <;> omega)]
  exact q2 k z hz
end
section
variable {w0 wI w w' : World} {g ga gb cap i : Nat} {cv : Value} {L : List Int} {a a' : AccD} {b b' : BoxD} {S S' : Nat → Prop}
theorem BSt.room (h:BSt w0 wI w g ga cv L a S) (hg:g < wI.heap.size) (hb:a.boxes[i]?=some b) (hx:CellS w ga 1 (.slice (some ⟨gb,0,none⟩) a.boxes.length cap)) {q off m c:Nat} (hgc:w.cell? ⟨gb,i * 7+5,none⟩=some (.slice (some ⟨q,off,none⟩) m c)) (hm:m=b.gones.length) (hc:m+1≤c) {x0 x1:Int} (i0:I64 x0) (i1:I64 x1) :
  ESt w0 wI (((w.setCell ⟨q,off+m * 2,none⟩ (.int .i64 x0)).setCell ⟨q,off+m * 2+1,none⟩ (.int .i64 x1)).setCell ⟨gb,i * 7+5,none⟩ (.slice (some ⟨q,off,none⟩) (m+1) c)) g ga cv L:=by
 have hp:=h.pl
 have hn:=h.ne hg
 have hlow:=h.low
 have h0:=h.cur.1
 have hbx:=h.inv.2 b (List.mem_of_getElem? hb)
 obtain ⟨hSn,u0,u1,hk,hbq,hs,hi⟩:=h.acc
 have e0:u0=.slice (some ⟨gb,0,none⟩) a.boxes.length cap:=by
  have:=(bx3 hk).2.1
  rw [show w.cell? ⟨ga,1,none⟩=_ from hx] at this
  exact (Option.some.inj this).symm
 obtain ⟨hSq,hSg,-,htq,htg,hW⟩:=boxesw_room hbq hb e0 hgc hm hc i0 i1
 have hoth:∀ k,k≠q→k≠gb→(((w.setCell ⟨q,off+m * 2,none⟩ (.int .i64 x0)).setCell ⟨q,off+m * 2+1,none⟩ (.int .i64 x1)).setCell ⟨gb,i * 7+5,none⟩ (.slice (some ⟨q,off,none⟩) (m+1) c)).heap[k]?=w.heap[k]?:=fun k h1 h2=>by rw [Below.heap_setCell _ _ _ _ (show k≠gb from h2),Below.heap_setCell _ _ _ _ (show k≠q from h1),Below.heap_setCell _ _ _ _ (show k≠q from h1)]
 refine ⟨setB a i ⟨b.name,b.valid,b.next,b.seq,b.mails,b.gones ++ [(⟨x0,x1⟩:GoneD)],b.lost⟩,S,u0,u1,(hoth ga (fun e=>hSn (e ▸ hSq)) (fun e=>hSn (e ▸ hSg))).trans hk,hW,Ow.mono (intsp_oth hs fun k _ _ hT=>hoth k (fun e=>by subst e;obtain ⟨cs,fz,hT⟩:=hT;exact ty_ne hT htq (by decide)) (fun e=>by subst e;obtain ⟨cs,fz,hT⟩:=hT;exact ty_ne hT htg (by decide))) fun _ _=>trivial,hi,h.inv.b.set ⟨by have:=hbx.1;simp only;omega,hbx.2.1,hbx.2.2.1,by have:=hbx.2.2.2;simp;omega⟩,hlow,hp,h.cur.but (K:=S) (by simp only [box_size];exact Nat.le_refl _) rfl rfl rfl (fun k _ h2=>hoth k (fun e=>h2 (e ▸ hSq)) (fun e=>h2 (e ▸ hSg))) hn.2 (fun k hk=>by have:=hlow k hk;omega),(hoth _ (fun e=>by have:=hlow _ (e ▸ hSq);omega) (fun e=>by have:=hlow _ (e ▸ hSg);omega)).trans h.res⟩
/-- .. put behind a copy. -/
theorem BSt.grow {w1 w2:World} {v:Value} {gs:List GoneD} (h:BSt w0 wI w g ga cv L a S) (hg:g < wI.heap.size) (hb:a.boxes[i]?=some b) (hx:CellS w ga 1 (.slice (some ⟨gb,0,none⟩) a.boxes.length cap)) (hw:Below w.heap.size w w2) (hO:GonesO w2 (fun k=>w.heap.size≤k) v gs) (hl:gs.length≤41):ESt w0 wI (w2.setCell ⟨gb,i * 7+5,none⟩ v) g ga cv L:=by
 have hbx:=h.inv.2 b (List.mem_of_getElem? hb)
 refine h.bend hg hb hx (b':=⟨b.name,b.valid,b.next,b.seq,b.mails,gs,b.lost⟩) (fun S1 hP=>?_) ⟨by have:=hbx.1;simp only;omega,hbx.2.1,hbx.2.2.1,hl⟩
 have hP2:=(hP.below hw).mono (S':=fun k=>S1 k∨w.heap.size≤k) fun _ h=>.inl h
 exact ⟨_,hP2.setGones ((gones_q hO).mono fun _ h=>.inr h),(turns_below hw).trans (turns_set (S':=S1) hP2 (by omega)) (fun _ h=>.inl h),fun _ h=>h⟩
end

end Go.Proofs.YtnlhkgoppjejeaaDoor
