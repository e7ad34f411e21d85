/- The proof's texts, part 44. -/
import Derived.Test.YtmglhdkeidhafaaGreatTH
namespace Go.Proofs.YtmglhdkeidhafaaGreat
open Go.RowKit
set_option linter.unusedVariables false
set_option linter.unusedSimpArgs false
/- What a wS leaves of an account: names in blocks that are closed behind them, a number put anew, au and numbers put behind others. -/
def Gn (x:aA):Prop:=x.name.length≤7∧x.ah.length≤12∧(∀ m ∈ x.ah,m.text.length≤30)∧x.au.length≤41
def ru (a:aF):Prop:=a.boxes.length≤4∧∀ x ∈ a.boxes,Gn x
theorem eG.b {x:aA} (h:eG x):Gn x:=⟨by have:=h.1;omega,h.2.1,h.2.2.1,by have:=h.2.2.2;omega⟩
theorem kY.b {a:aF} (h:kY a):ru a:=⟨h.1,fun x hx=>(h.2 x hx).b⟩
theorem ru.set {a:aF} {k:Nat} {b:aA} (h:ru a) (hb:Gn b):ru (aH a k b):=by
 refine ⟨by simpa [aH] using h.1,fun x hx=>?_⟩
 rcases List.mem_or_eq_of_mem_set hx with hx | rfl
 ·exact h.2 x hx
 ·exact hb
theorem ru.sz {a:aF} (h:ru a):DY a.boxes≤2000000:=by
 have h1:∀ b,b ∈ a.boxes→bT b≤500:=fun b hb=>by
  obtain ⟨k0,k1,k2,k3⟩:=h.2 b hb
  have:=RP k2
  unfold bT
  omega
 have h2:=Nc 500 a.boxes h1
 have:=h.1
 omega
/-- A box whose name may lie in a block that is closed behind it. -/
def Mc (w:World) (c:List Value) (b:aA) (S:Nat→Prop):Prop :=
 ∃ u0 u1 u2,c=[u0,.int .i64 b.valid,.int .i64 b.next,.int .i64 b.seq,u1,u2,.int .i64 b.lost]∧(RO w Any u0 b.name∨∃ q,bZ w q u0 b.name)∧jc w S u1 b.ah∧fM w S u2 b.au∧ay b.valid∧ay b.next∧ay b.seq∧ay b.lost
abbrev uU:=Ow 34 7 Mc
section
variable {w w' : World} {S : Nat → Prop} {v : Value} {l : List aA}
theorem Md (h:iK w S v l):uU w S v l:=by
 rcases h with h | ⟨g,cap,cur,cs,fs,hv,hh,h1,h2,h3,h4,h5,h6,h7⟩
 ·exact .inl h
 ·exact .inr ⟨g,cap,cur,cs,fs,hv,hh,h1,h2,h3,h4,fun i x hx=>⟨let ⟨u0,u1,u2,e,r,k⟩:=(h5 i x hx).1;⟨u0,u1,u2,e,.inl r,k⟩,(h5 i x hx).2⟩,h6,h7⟩
theorem ado {c:List Value} {b:aA} (h:Mc w c b S) (hm:∀ k,S k→k < w.heap.size→w'.heap[k]?=w.heap[k]?) (ht:bD w w' 5) (hg:bD w w' 70):Mc w' c b S:=by
 obtain ⟨u0,u1,u2,e,r,m,g,k⟩:=h
 refine ⟨u0,u1,u2,e,r.imp (fun r=>jP r ht) fun ⟨q,o⟩=>⟨q,o.frame (ht q ?_)⟩,xJ m hm ht,uw g hg,k⟩
 obtain ⟨-,cap,cur,fz,-,hh,-⟩:=o
 exact ⟨_,_,hh⟩
theorem Me (h:uU w S v l) (hm:∀ k,S k→k < w.heap.size→w'.heap[k]?=w.heap[k]?) (ht:bD w w' 5) (hg:bD w w' 70):uU w' S v l:=by
 rcases h with h | ⟨g,cap,cur,cs,fs,hv,hh,h1,h2,h3,h4,h5,h6,h7⟩
 ·exact .inl h
 ·exact .inr ⟨g,cap,cur,cs,fs,hv,(hm g h4 (lt_of_heap hh)).trans hh,h1,h2,h3,h4,fun i x hx=>⟨ado (h5 i x hx).1 (fun k hk=>hm k (h6 i k (gs1 hx).1 hk).1) ht hg,(h5 i x hx).2⟩,h6,h7⟩
theorem TK (h:uU w S v l):gJ w v l :=
 Ow.rd (fun _ _ _ _ ⟨u0,u1,u2,e,r,m,g,k⟩=>⟨u0,u1,u2,e,r.elim RO.bs fun ⟨_,o⟩=>o.bs,m.v,g.1,k⟩) h
/-- One box gets another name. -/
theorem adp (h:iK w S v l) {i:Nat} {b:aA} (hb:l[i]?=some b) {g n cap:Nat} (hv:v=.slice (some ⟨g,0,none⟩) n cap) {u:Value} {nm:List Int} {q:Nat} (hq:bZ w q u nm) :
  uU (w.setCell ⟨g,i * 7,none⟩ u) S v (l.set i ⟨nm,b.valid,b.next,b.seq,b.ah,b.au,b.lost⟩):=by
 have hi:i < l.length:=(gs1 hb).1
 rcases h with ⟨-,h⟩ | ⟨g',cap',cur,cs,fs,hv',hh,h1,h2,h3,h4,h5,h6,h7⟩
 ·subst h;simp at hb
 rw [hv'] at hv
 simp only [Value.slice.injEq,Option.some.injEq,Addr.mk.injEq,and_true] at hv
 obtain ⟨rfl,-,-⟩:=hv
 have hty:Ty w g' 34:=⟨_,_,hh⟩
 have hqg:q≠g':=fun e=>by
  subst e
  obtain ⟨-,_,_,_,-,hq,-⟩:=hq
  exact dO hq hty (by decide)
 have hk:∀ k,k≠g'→(w.setCell ⟨g',i * 7,none⟩ u).heap[k]?=w.heap[k]?:=fun k h=>Below.heap_setCell _ _ _ _ h
 refine .inr ⟨g',cap',_,fun j=>if j=i then (cs i).set 0 u else cs j,fs,by rw [List.length_set];exact hv',aJ hh,by rw [List.length_set];exact h1,h2,by rw [Array.size_setIfInBounds];exact h3,h4,fun j y hy=>?_,fun j k hj=>h6 j k (by simpa using hj),fun j m k hj hm=>h7 j m k (by simpa using hj) (by simpa using hm)⟩
 by_cases e:j=i
 ·subst e
  rw [List.getElem?_set_self hi] at hy
  cases hy
  simp only [if_pos]
  obtain ⟨⟨u0,u1,u2,ec,r,m,gq,kk⟩,hl,hcell⟩:=h5 j b hb
  refine ⟨⟨u,u1,u2,by rw [ec];rfl,.inr ⟨q,hq.frame (hk q hqg)⟩,xJ m (fun k hk' _=>hk k (h6 j k hi hk').2) (fV hty (by decide)),uw gq (fV hty (by decide)),kk⟩,by rw [List.length_set];exact hl,fun k z hz=>?_⟩
  by_cases ek:k=0
  ·subst ek
   rw [List.getElem?_set_self (by omega)] at hz
   cases hz
   rw [Nat.add_zero,Array.getElem?_setIfInBounds_self_of_lt (by omega)]
  ·rw [List.getElem?_set_ne (Ne.symm ek)] at hz
   rw [Array.getElem?_setIfInBounds_ne (by omega)]
   exact hcell k z hz
 ·rw [List.getElem?_set_ne (Ne.symm e)] at hy
  simp only [if_neg e]
  obtain ⟨⟨u0,u1,u2,ec,r,m,gq,kk⟩,q1,q2⟩:=h5 j y hy
  have hj:=(gs1 hy).1
  refine ⟨⟨u0,u1,u2,ec,.inl (jP r (fV hty (by decide))),xJ m (fun k hk' _=>hk k (h6 j k hj hk').2) (fV hty (by decide)),uw gq (fV hty (by decide)),kk⟩,q1,fun k z hz=>?_⟩
  have hk:k < 7:=by have:=(gs1 hz).1;omega
  rw [Array.getElem?_setIfInBounds_ne (by rcases Nat.lt_or_gt_of_ne e with e | e <;> omega)]
  exact q2 k z hz
end
/-- Variables that hold no part of what an account reads. -/
def sZ (w:World) (k:Nat):Prop:=Ty w k 26∨Ty w k 63∨Ty w k 28
theorem Gp {w:World} {k:Nat} {cs:Array Value} {t:TypeId} {fz:Nat × Nat} (hh:w.heap[k]?=some (.cells cs t fz)) (h:t≠26∧t≠63∧t≠28):¬ sZ w k:=fun e=>by
 rcases e with e | e | e
 ·exact dO hh e h.1
 ·exact dO hh e h.2.1
 ·exact dO hh e h.2.2
theorem ext_eq {w w':World} {k:Nat} (h:w'.heap[k]?=w.heap[k]?) (he:sZ w' k):sZ w k:=by
 rcases he with ⟨cs,fz,e⟩ | ⟨cs,fz,e⟩ | ⟨cs,fz,e⟩
 ·exact .inl ⟨cs,fz,h.symm.trans e⟩
 ·exact .inr (.inl ⟨cs,fz,h.symm.trans e⟩)
 ·exact .inr (.inr ⟨cs,fz,h.symm.trans e⟩)
/-- None of its blocks is such a variable. -/
theorem adq {w:World} {S:Nat→Prop} {v:Value} {l:List aA} (h:uU w S v l):uU w (fun k=>S k∧¬ sZ w k) v l:=by
 rcases h with h | ⟨g,cap,cur,cs,fs,hv,hh,h1,h2,h3,h4,h5,h6,h7⟩
 ·exact .inl h
 ·refine .inr ⟨g,cap,cur,cs,fun i k=>fs i k∧¬ sZ w k,hv,hh,h1,h2,h3,⟨h4,Gp hh (by decide)⟩,fun i x hx=>⟨?_,(h5 i x hx).2⟩,fun i k hi hk=>⟨⟨(h6 i k hi hk.1).1,hk.2⟩,(h6 i k hi hk.1).2⟩,fun i j k hi hj hne hk hk'=>h7 i j k hi hj hne hk.1 hk'.1⟩
  obtain ⟨u0,u1,u2,e,e1,e2,e3,r⟩:=(h5 i x hx).1
  refine ⟨u0,u1,u2,e,e1,?_,⟨e3.1,fun a n c e=>let ⟨k1,cur,hh,k⟩:=e3.2 a n c e;⟨⟨k1,Gp hh (by decide)⟩,cur,hh,k⟩⟩,r⟩
  rcases e2 with h | ⟨m,cap,cu,cs,fs,hv,hm,k1,k2,k3,k4,k5,k6,k7⟩
  ·exact .inl h
  ·exact .inr ⟨m,cap,cu,cs,fun _ _=>False,hv,hm,k1,k2,k3,⟨k4,Gp hm (by decide)⟩,k5,by simp,by simp⟩
/-- It reads as an account wherever all but ahd variables stay. -/
def Mf (w:World) (u:Value) (a:aF):Prop:=∀ w':World,w.heap.size≤w'.heap.size→(∀ k,k < w.heap.size→¬ sZ w k→w'.heap[k]?=w.heap[k]?)→iw w' u a
/-- Where TL stands at its end: the account behind the variable ga, the result's variable. -/
def kE (w0 wI w:World) (g ga:Nat) (cv:Value) (L:List Int):Prop:=∃ (a:aF) (S:Nat→Prop) (u0 u1:Value),w.heap[ga]?=some (.cells #[.int .i64 a.valid,u0,u1] 26 (0,0))∧uU w S u0 a.boxes∧eY w Any u1 a.seen∧ay a.valid∧ru a∧(∀ k,S k→wI.heap.size < k)∧wI.heap.size < ga∧bN w0 w g cv L∧w.heap[wI.heap.size]?=some (.cells #[.int .i64 0,.slice none 0 0,.slice none 0 0] 26 (0,0))
theorem kE.out {w0 wI w:World} {g ga:Nat} {cv:Value} {L:List Int} (h:kE w0 wI w g ga cv L) (hg:g < wI.heap.size):∃ (a:aF) (a0 a1:Option Addr) (c0 n1 c1:Nat),wI.heap.size < ga∧w.heap[ga]?=some (.cells #[.int .i64 a.valid,.slice a0 a.boxes.length c0,.slice a1 n1 c1] 26 (0,0))∧w.heap[wI.heap.size]?=some (.cells #[.int .i64 0,.slice none 0 0,.slice none 0 0] 26 (0,0)) ∧
  Hid ((((w.setCell ⟨wI.heap.size,0,none⟩ (.int .i64 a.valid)).setCell ⟨wI.heap.size,1,none⟩ (.slice a0 a.boxes.length c0)).setCell ⟨wI.heap.size,2,none⟩ (.slice a1 n1 c1)).heap[wI.heap.size]?=some (.cells #[.int .i64 a.valid,.slice a0 a.boxes.length c0,.slice a1 n1 c1] 26 (0,0))∧Mf (((w.setCell ⟨wI.heap.size,0,none⟩ (.int .i64 a.valid)).setCell ⟨wI.heap.size,1,none⟩ (.slice a0 a.boxes.length c0)).setCell ⟨wI.heap.size,2,none⟩ (.slice a1 n1 c1)) (.agg #[.int .i64 a.valid,.slice a0 a.boxes.length c0,.slice a1 n1 c1]) a∧ru a∧bN w0 (((w.setCell ⟨wI.heap.size,0,none⟩ (.int .i64 a.valid)).setCell ⟨wI.heap.size,1,none⟩ (.slice a0 a.boxes.length c0)).setCell ⟨wI.heap.size,2,none⟩ (.slice a1 n1 c1)) g cv L):=by
 obtain ⟨a,S,u0,u1,hk,hq,hs,hi,hI,hlow,hga,hC,hr⟩:=h
 obtain ⟨a0,c0,rfl,-⟩:=(TK hq).form
 obtain ⟨a1,n1,c1,rfl⟩:∃ ua un uc,u1=.slice ua un uc:=by
  rcases hs with ⟨h,-⟩ | ⟨q,cap,cur,cs,fs,h,-⟩ <;> exact ⟨_,_,_,h⟩
 have G:w.grownBy (((w.setCell ⟨wI.heap.size,0,none⟩ (.int .i64 a.valid)).setCell ⟨wI.heap.size,1,none⟩ (.slice a0 a.boxes.length c0)).setCell ⟨wI.heap.size,2,none⟩ (.slice a1 n1 c1)) (some wI.heap.size):=jk 2 _ (jk 1 _ (jk 0 _ (World.grownBy.refl w (some wI.heap.size))))
 have b3:Below wI.heap.size w (((w.setCell ⟨wI.heap.size,0,none⟩ (.int .i64 a.valid)).setCell ⟨wI.heap.size,1,none⟩ (.slice a0 a.boxes.length c0)).setCell ⟨wI.heap.size,2,none⟩ (.slice a1 n1 c1)):=(((Below.refl wI.heap.size w).setCell (p:=⟨wI.heap.size,0,none⟩) (Nat.le_refl _) _).setCell (p:=⟨wI.heap.size,1,none⟩) (Nat.le_refl _) _).setCell (p:=⟨wI.heap.size,2,none⟩) (Nat.le_refl _) _
 have hW:(((w.setCell ⟨wI.heap.size,0,none⟩ (.int .i64 a.valid)).setCell ⟨wI.heap.size,1,none⟩ (.slice a0 a.boxes.length c0)).setCell ⟨wI.heap.size,2,none⟩ (.slice a1 n1 c1)).heap.size=w.heap.size:=by simp only [bf]
 have hoth:∀ k,k < w.heap.size→¬ sZ w k→(((w.setCell ⟨wI.heap.size,0,none⟩ (.int .i64 a.valid)).setCell ⟨wI.heap.size,1,none⟩ (.slice a0 a.boxes.length c0)).setCell ⟨wI.heap.size,2,none⟩ (.slice a1 n1 c1)).heap[k]?=w.heap[k]?∧¬ sZ (((w.setCell ⟨wI.heap.size,0,none⟩ (.int .i64 a.valid)).setCell ⟨wI.heap.size,1,none⟩ (.slice a0 a.boxes.length c0)).setCell ⟨wI.heap.size,2,none⟩ (.slice a1 n1 c1)) k:=fun k hk hT=>by
  have e:(((w.setCell ⟨wI.heap.size,0,none⟩ (.int .i64 a.valid)).setCell ⟨wI.heap.size,1,none⟩ (.slice a0 a.boxes.length c0)).setCell ⟨wI.heap.size,2,none⟩ (.slice a1 n1 c1)).heap[k]?=w.heap[k]?:=G.block k hk (by
   simp only [ne_eq,Option.some.injEq]
   intro e
   exact hT (e ▸ .inl ⟨_,_,hr⟩))
  exact ⟨e,fun h=>hT (ext_eq e h)⟩
 refine ⟨a,a0,a1,c0,n1,c1,hga,hk,hr,aJ (i:=2) (v:=.slice a1 n1 c1) (aJ (i:=1) (v:=.slice a0 a.boxes.length c0) (aJ (i:=0) (v:=.int .i64 a.valid) hr)),fun w' hs' hk'=>?_,hI,Gj hC b3 hg⟩
 have hall:∀ k,k < w.heap.size→¬ sZ w k→w'.heap[k]?=w.heap[k]?:=fun k h1 h2=>(hk' k (by rw [hW];exact h1) (hoth k h1 h2).2).trans (hoth k h1 h2).1
 have hst:∀ t,t≠26∧t≠63∧t≠28→bD w w' t:=fun t ht k hk=>hall k (jS hk) (by
  obtain ⟨cs,fz,hk⟩:=hk
  exact Gp hk ht)
 exact ⟨_,_,rfl,TK (Me (adq hq) (fun k h1 h2=>hall k h2 h1.2) (hst _ (by decide)) (hst _ (by decide))),Ow.rd (fun _ _ _ _ h=>h) (jd hs fun k _ _ hT=>hst _ (by decide) k hT),hi⟩
/-- Where TL stands ahead of a wS. -/
structure fH (w0 wI w:World) (g ga:Nat) (cv:Value) (L:List Int) (a:aF) (S:Nat→Prop):Prop where
 cur:bN w0 w g cv L
 res:w.heap[wI.heap.size]?=some (.cells #[.int .i64 0,.slice none 0 0,.slice none 0 0] 26 (0,0))
 acc:aS w S ga a
 inv:kY a
 low:∀ k,S k→wI.heap.size < k
 high:∀ k,S k→k < w.heap.size
 pl:wI.heap.size < ga
 sn:∃ u0 u1:Value,w.heap[ga]?=some (.cells #[.int .i64 a.valid,u0,u1] 26 (0,0))∧eY w (In (wI.heap.size+1) w.heap.size) u1 a.seen
/-- A cell that stays while others turn. -/
def jm (w:World) (k i:Nat) (v:Value):Prop:=w.cell? ⟨k,i,none⟩=some v
theorem jm.gb {w w':World} {k i K:Nat} {v:Value} (h:jm w k i v) (hG:w.grownBy w' (some K)) (hk:k < w.heap.size) (hne:k≠K):jm w' k i v:=by
 unfold jm World.cell? at h ⊢
 rw [hG.block k hk (by simpa using hne)]
 exact h
section
variable {w0 wI w w' : World} {g ga gb cap i : Nat} {cv : Value} {L : List Int} {a a' : aF} {b b' : aA} {S S' : Nat → Prop}
theorem fH.ne (h:fH w0 wI w g ga cv L a S) (hg:g < wI.heap.size):g≠ga∧¬ S g:=⟨by have:=h.pl;omega,fun hs=>by have:=h.low _ hs;omega⟩
theorem fH.draw (h:fH w0 wI w g ga cv L a S) (hg:g < wI.heap.size) (hC:bN w0 w' g cv L) (hG:w.grownBy w' (some g)):fH w0 wI w' g ga cv L a S:=by
 have hp:=h.pl
 obtain ⟨u0,u1,hk,hs⟩:=h.sn
 exact ⟨hC,(hG.block _ (lt_of_heap h.res) (by simp;omega)).trans h.res,h.acc.draw h.cur hG (h.ne hg).2,h.inv,h.low,fun k hk=>Nat.lt_of_lt_of_le (h.high k hk) hG.size,hp,u0,u1,(hG.block _ (lt_of_heap hk) (by simp;omega)).trans hk,Ow.mono (jd hs fun k h1 h2 _=>hG.block k h2 (by have:=h1.1;simp;omega)) fun k h=>⟨h.1,Nat.lt_of_lt_of_le h.2 hG.size⟩⟩
theorem fH.below (h:fH w0 wI w g ga cv L a S) (hb:Below w.heap.size w w'):fH w0 wI w' g ga cv L a S:=by
 obtain ⟨u0,u1,hk,hs⟩:=h.sn
 exact ⟨h.cur.below hb,aB hb h.res,h.acc.below hb,h.inv,h.low,fun k hk=>Nat.lt_of_lt_of_le (h.high k hk) hb.size,h.pl,u0,u1,aB hb hk,Ow.mono (jd hs fun k _ h2 _=>hb.block k h2) fun k h=>⟨h.1,Nat.lt_of_lt_of_le h.2 hb.size⟩⟩
theorem kE.of (hA:aS w S ga a) (hI:ru a) (hlow:∀ k,S k→wI.heap.size < k) (hga:wI.heap.size < ga) (hC:bN w0 w g cv L) (hr:w.heap[wI.heap.size]?=some (.cells #[.int .i64 0,.slice none 0 0,.slice none 0 0] 26 (0,0))):kE w0 wI w g ga cv L :=
 let ⟨_,u0,u1,h0,h1,h2,r⟩:=hA
 ⟨a,S,u0,u1,h0,Md h1,Ow.mono h2 fun _ _=>trivial,r,hI,hlow,hga,hC,hr⟩
theorem fH.fin (h:fH w0 wI w g ga cv L a S):kE w0 wI w g ga cv L:=kE.of h.acc h.inv.b h.low h.pl h.cur h.res
theorem fH.turn (h:fH w0 wI w g ga cv L a S) (hg:g < wI.heap.size) (hT:aR w w' S ga) (hA:aS w' S' ga a') (hS:∀ k,S' k→S k∨w.heap.size≤k) (hI:ru a'):kE w0 wI w' g ga cv L:=by
 have hp:=h.pl
 have hl:=h.acc.lt
 have h0:=h.cur.1
 have hn:=h.ne hg
 have hlow:=h.low
 refine kE.of hA hI (fun k hk=>?_) hp (h.cur.turns hT hn.1 hn.2 (by omega) (fun k hk=>by have:=hlow k hk;omega)) ((hT.2.1 _ (lt_of_heap h.res) (by omega) (fun hs=>by have:=hlow _ hs;omega)).trans h.res)
 rcases hS k hk with hk | hk
 ·exact hlow k hk
 ·omega
theorem fH.valid (h:fH w0 wI w g ga cv L a S) (hg:g < wI.heap.size) {n:Int} (hn:ay n):kE w0 wI (w.setCell ⟨ga,0,none⟩ (.int .i64 n)) g ga cv L :=
 h.turn hg (aR.set (S:=S) h.acc) (h.acc.zw hn) (fun _ h=>.inl h) h.inv.b
/-- A number of the i-th box is put anew, or a dV of it turned. -/
theorem fH.wS (h:fH w0 wI w g ga cv L a S) (hg:g < wI.heap.size) (hb:a.boxes[i]?=some b) (hx:jm w ga 1 (.slice (some ⟨gb,0,none⟩) a.boxes.length cap)) (hq:∀ S1,aK w S1 gb (i * 7) b→∃ mE,aK w' mE gb (i * 7) b'∧Turns w w' S1 gb (i * 7)∧∀ k,mE k→S1 k∨w.heap.size≤k) (hI:Gn b'):kE w0 wI w' g ga cv L:=by
 obtain ⟨dJ,cap',S1,hc,fE,hP,hS1,hR⟩:=h.acc.at hb
 rw [show w.cell? ⟨ga,1,none⟩=_ from hx] at hc
 simp only [Option.some.injEq,Value.slice.injEq,Addr.mk.injEq,true_and,and_true] at hc
 obtain ⟨rfl,rfl⟩:=hc
 obtain ⟨mE,hP',hT,hS⟩:=hq S1 hP
 exact h.turn hg (aR.box hT fE fun k hk=>(hS1 k hk).1) (hR w' b' mE hT hP' hS) (fun k hk=>hk) (h.inv.b.set hI)
theorem aK.zw {o:Nat} (h:aK w S g o b) (n:Int) (hn:ay n):aK (w.setCell ⟨g,o+1,none⟩ (.int .i64 n)) S g o ⟨b.name,n,b.next,b.seq,b.ah,b.au,b.lost⟩ :=
 h.put 1 (by omega) _ fun c ⟨u0,u1,u2,e,h1,h2,h3,i0,i1,i2,i3⟩ _=>⟨u0,u1,u2,by rw [e];rfl,zo h.ty h1,zq h.ty h2,zu h.ty h3,hn,i1,i2,i3⟩
theorem fH.name (h:fH w0 wI w g ga cv L a S) (hg:g < wI.heap.size) (hb:a.boxes[i]?=some b) (hx:jm w ga 1 (.slice (some ⟨gb,0,none⟩) a.boxes.length cap)) {u:Value} {nm:List Int} {q:Nat} (hq:bZ w q u nm) (hl:nm.length≤7):kE w0 wI (w.setCell ⟨gb,i * 7,none⟩ u) g ga cv L:=by
 obtain ⟨dJ,cap',S1,hc,fE,hP,hS1,-⟩:=h.acc.at hb
 rw [show w.cell? ⟨ga,1,none⟩=_ from hx] at hc
 simp only [Option.some.injEq,Value.slice.injEq,Addr.mk.injEq,true_and,and_true] at hc
 obtain ⟨rfl,rfl⟩:=hc
 have hp:=h.pl
 have hn:=h.ne hg
 have hlow:=h.low
 have h0:=h.cur.1
 have hbx:=h.inv.2 b (List.mem_of_getElem? hb)
 have hty:=hP.ty
 have hT:aR w (w.setCell ⟨gb,i * 7,none⟩ u) S ga:=aR.box (lK (j:=0) (S':=S1) hP (by omega)) fE fun k hk=>(hS1 k hk).1
 obtain ⟨Dm,u0,u1,hk,hbq,hs,hi⟩:=h.acc
 have hgg:gb≠ga:=fun e=>Dm (e ▸ fE)
 have e0:u0=.slice (some ⟨gb,0,none⟩) a.boxes.length cap:=by
  have:=(bM hk).2.1
  rw [show w.cell? ⟨ga,1,none⟩=_ from hx] at this
  exact (Option.some.inj this).symm
 refine ⟨aH a i ⟨nm,b.valid,b.next,b.seq,b.ah,b.au,b.lost⟩,S,u0,u1,(Below.heap_setCell _ _ _ _ (show ga≠gb from Ne.symm hgg)).trans hk,adp hbq hb e0 hq,Ow.mono (jd hs fun k _ _ hY=>Below.heap_setCell _ _ _ _ (show k≠gb from fun e=>by obtain ⟨cs,fz,hY⟩:=hY;rw [e] at hY;exact dO hY hty (by decide))) fun _ _=>trivial,hi,h.inv.b.set ⟨hl,hbx.2.1,hbx.2.2.1,by have:=hbx.2.2.2;simp only;omega⟩,hlow,hp,h.cur.turns hT hn.1 hn.2 (by omega) (fun k hk=>by have:=hlow k hk;omega),(hT.2.1 _ (lt_of_heap h.res) (by omega) (fun hs=>by have:=hlow _ hs;omega)).trans h.res⟩
/-- A H9 flags. -/
theorem fH.flags (h:fH w0 wI w g ga cv L a S) (hg:g < wI.heap.size) (hb:a.boxes[i]?=some b) (hx:jm w ga 1 (.slice (some ⟨gb,0,none⟩) a.boxes.length cap)) {m:aC} (hm:b.ah[0]?=some m) {mb mc:Nat} (hy:jm w gb (i * 7+4) (.slice (some ⟨mb,0,none⟩) b.ah.length mc)) {fl:Int} (hf:ay fl):kE w0 wI (w.setCell ⟨mb,1,none⟩ (.int .i64 fl)) g ga cv L:=by
 have hbx:=h.inv.2 b (List.mem_of_getElem? hb)
 refine h.wS hg hb hx (b':=⟨b.name,b.valid,b.next,b.seq,b.ah.set 0 ⟨m.uid,fl,m.seq,m.text⟩,b.au,b.lost⟩) (fun S1 hP=>?_) ⟨by have:=hbx.1;simp only;omega,by simpa using hbx.2.1,fun x hx=>?_,by have:=hbx.2.2.2;simp only;omega⟩
 ·obtain ⟨mb',cap',hc,-,-,hS,hty,-,-,-,hF,-⟩:=hP.dV hm
  rw [show w.cell? ⟨gb,i * 7+4,none⟩=_ from hy] at hc
  simp only [Option.some.injEq,Value.slice.injEq,Addr.mk.injEq,true_and,and_true] at hc
  obtain ⟨rfl,rfl⟩:=hc
  exact ⟨S1,by simpa using hF fl hf,IE hty (.inl hS),fun _ h=>.inl h⟩
 ·rcases List.mem_or_eq_of_mem_set hx with hx | rfl
  ·exact hbx.2.2.1 x hx
  ·exact hbx.2.2.1 m (List.mem_of_getElem? hm)
/-- The cursor stays where none but K turn. -/
theorem bN.but {K:Nat→Prop} (h:bN w0 w g cv L) (hs:w.heap.size≤w'.heap.size) (ho:w'.os=w.os) (ht:w'.tape=w.tape) (hu:w'.output=w.output) (hk:∀ k,k < w.heap.size→¬ K k→w'.heap[k]?=w.heap[k]?) (hg:¬ K g) (h0:∀ k,K k→w0.heap.size≤k):bN w0 w' g cv L:=by
 obtain ⟨h1,hb,h3,i,q,h4,h5,hh⟩:=h
 have hz:=hb.size
 exact ⟨h1,⟨ho.trans hb.os,ht.trans hb.tape,hu.trans hb.output,Nat.le_trans hz hs,fun k hk'=>(hk k (by omega) (fun h=>by have:=h0 k h;omega)).trans (hb.block k hk')⟩,h3,i,q,h4,h5,(hk g (lt_of_heap hh) hg).trans hh⟩
/-- One more that it has seen. -/
theorem fH.push {w1 w2:World} {u0 u1 v:Value} {x:Int} (h:fH w0 wI w g ga cv L a S) (hg:g < wI.heap.size) (hu:w.heap[ga]?=some (.cells #[.int .i64 a.valid,u0,u1] 26 (0,0))) (hb:Below w.heap.size w w1) {B:Nat} (hO:eY w2 (In B w2.heap.size) v (a.seen ++ [x])) (hG:w1.grownBy w2 u1.ownBlock) (hv:∀ g,u1.ownBlock=some g→wI.heap.size+1≤g):kE w0 wI (w2.setCell ⟨ga,2,none⟩ v) g ga cv L∧w2.heap[ga]?=some (.cells #[.int .i64 a.valid,u0,u1] 26 (0,0)):=by
 have hp:=h.pl
 have hlow:=h.low
 have h0:=h.cur.1
 obtain ⟨hS,EM,PD,hk,hq,hs,hi⟩:=h.acc
 rw [hu] at hk
 simp only [Option.some.injEq,Obj.cells.injEq,Array.mk.injEq,List.cons.injEq,true_and,and_true] at hk
 obtain ⟨rfl,rfl⟩:=hk
 have hown:∀ q,u1.ownBlock=some q→¬ S q∧Ty w q 3:=fun q e=>by
  rcases hs with ⟨rfl,-⟩ | ⟨q',cap',cur,cs,fs,rfl,hh,-,-,-,hn,-⟩
  ·cases e
  ·simp only [Value.ownBlock,Option.some.injEq] at e
   subst e
   exact ⟨hn.1,_,_,hh⟩
 have hoth:∀ k,k < w.heap.size→u1.ownBlock≠some k→w2.heap[k]?=w.heap[k]?:=fun k h1 h2=>(hG.block k (Nat.lt_of_lt_of_le h1 hb.size) fun e=>h2 e.symm).trans (hb.block k h1)
 have hga:w2.heap[ga]?=some (.cells #[.int .i64 a.valid,u0,u1] 26 (0,0)):=(hoth ga (lt_of_heap hu) fun e=>by obtain ⟨cs,fz,hT⟩:=(hown _ e).2;exact dO hT ⟨_,_,hu⟩ (by decide)).trans hu
 have hset:∀ k,k≠ga→(w2.setCell ⟨ga,2,none⟩ v).heap[k]?=w2.heap[k]?:=fun k h=>Below.heap_setCell _ _ _ _ h
 have hst:∀ t,t≠26→t≠3→bD w (w2.setCell ⟨ga,2,none⟩ v) t:=fun t h1 h2 k hk=>by
  obtain ⟨cs,fz,hk⟩:=hk
  refine (hset k fun e=>by subst e;exact dO hk ⟨_,_,hu⟩ h1).trans (hoth k (lt_of_heap hk) fun e=>?_)
  exact dO hk (hown _ e).2 h2
 have hz:w.heap.size≤w2.heap.size:=Nat.le_trans hb.size hG.size
 have hne:=h.ne hg
 refine ⟨⟨⟨a.valid,a.boxes,a.seen ++ [x]⟩,S,u0,v,aJ (i:=2) (v:=v) hga,Me (Md hq) (fun k h1 h2=>(hset k fun e=>hS (e ▸ h1)).trans (hoth k h2 fun e=>(hown _ e).1 h1)) (hst _ (by decide) (by decide)) (hst _ (by decide) (by decide)),Ow.mono (jd hO fun k _ _ hT=>hset k fun e=>by subst e;obtain ⟨cs,fz,hT⟩:=hT;exact dO hT ⟨_,_,hga⟩ (by decide)) fun _ _=>trivial,hi,h.inv.b,hlow,hp,h.cur.but (K:=fun k=>k=ga∨u1.ownBlock=some k) (by rw [bf];exact hz) (hG.os.trans hb.os) (hG.tape.trans hb.tape) (hG.output.trans hb.output) (fun k h1 h2=>(hset k fun e=>h2 (.inl e)).trans (hoth k h1 fun e=>h2 (.inr e))) (fun h=>h.elim hne.1 fun h=>by have:=hv _ h;omega) (fun k h=>h.elim (fun h=>by omega) fun h=>by have:=hv _ h;omega),?_⟩,hga⟩
 exact (hset _ (by omega)).trans ((hoth _ (lt_of_heap h.res) fun e=>by have:=hv _ e;omega).trans h.res)
end
section
variable {w w' : World} {S : Nat → Prop} {v : Value}
/-- .. of one box of a list. -/
theorem adr {l:List aA} (h:iK w S v l) {i:Nat} {b:aA} (hb:l[i]?=some b) {g n cap q off m c:Nat} (hv:v=.slice (some ⟨g,0,none⟩) n cap) (hgc:w.cell? ⟨g,i * 7+5,none⟩=some (.slice (some ⟨q,off,none⟩) m c)) (hm:m=b.au.length) (hc:m+1≤c) {x0 x1:Int} (i0:ay x0) (i1:ay x1) :
  S q∧S g∧q≠g∧Ty w q 70∧Ty w g 34∧uU (((w.setCell ⟨q,off+m * 2,none⟩ (.int .i64 x0)).setCell ⟨q,off+m * 2+1,none⟩ (.int .i64 x1)).setCell ⟨g,i * 7+5,none⟩ (.slice (some ⟨q,off,none⟩) (m+1) c)) S v (l.set i ⟨b.name,b.valid,b.next,b.seq,b.ah,b.au ++ [⟨x0,x1⟩],b.lost⟩):=by
 have hi:i < l.length:=(gs1 hb).1
 rcases h with ⟨-,h⟩ | ⟨g',cap',cur,cs,fs,hv',hh,h1,h2,h3,h4,h5,h6,h7⟩
 ·subst h;simp at hb
 rw [hv'] at hv
 simp only [Value.slice.injEq,Option.some.injEq,Addr.mk.injEq,and_true] at hv
 obtain ⟨rfl,-,-⟩:=hv
 have hty:Ty w g' 34:=⟨_,_,hh⟩
 obtain ⟨⟨u0,u1,u2,ec,r,ms,gq,kk⟩,hl,hcell⟩:=h5 i b hb
 have e2:u2=.slice (some ⟨q,off,none⟩) m c:=by
  have:=hcell 5 u2 (by rw [ec];rfl)
  rw [cell_of_row w g' _ cur _ (0,0) hh,this] at hgc
  exact Option.some.inj hgc
 subst e2
 obtain ⟨Gq,ads,hgh,-,-⟩:=gq.2 ⟨q,off,none⟩ m c rfl
 simp only at Gq hgh
 have Dn:Ty w q 70:=⟨_,_,hgh⟩
 have hqg:q≠g':=(h6 i q hi Gq).2
 obtain ⟨W1,hW1⟩:∃ W1,W1=(w.setCell ⟨q,off+m * 2,none⟩ (.int .i64 x0)).setCell ⟨q,off+m * 2+1,none⟩ (.int .i64 x1):=⟨_,rfl⟩
 have hgr:=Ph (x0:=x0) (x1:=x1) gq hm hc i0 i1
 rw [← hW1] at hgr ⊢
 have k1:∀ k,k≠q→W1.heap[k]?=w.heap[k]?:=fun k h=>by rw [hW1,Below.heap_setCell _ _ _ _ (show k≠q from h),Below.heap_setCell _ _ _ _ (show k≠q from h)]
 have k2:∀ k,k≠g'→(W1.setCell ⟨g',i * 7+5,none⟩ (.slice (some ⟨q,off,none⟩) (m+1) c)).heap[k]?=W1.heap[k]?:=fun k h=>Below.heap_setCell _ _ _ _ h
 have k3:∀ k,k≠q→k≠g'→(W1.setCell ⟨g',i * 7+5,none⟩ (.slice (some ⟨q,off,none⟩) (m+1) c)).heap[k]?=w.heap[k]?:=fun k h h'=>(k2 k h').trans (k1 k h)
 have hst:∀ t,t≠70→t≠34→bD w (W1.setCell ⟨g',i * 7+5,none⟩ (.slice (some ⟨q,off,none⟩) (m+1) c)) t:=fun t t1 t2 k hk=>by
  obtain ⟨cs,fz,hk⟩:=hk
  exact k3 k (fun e=>by subst e;exact dO hk Dn t1) (fun e=>by subst e;exact dO hk hty t2)
 refine ⟨(h6 i q hi Gq).1,h4,hqg,Dn,hty,.inr ⟨g',cap',_,fun j=>if j=i then (cs i).set 5 (.slice (some ⟨q,off,none⟩) (m+1) c) else cs j,fs,by rw [List.length_set];exact hv',aJ ((k1 g' (Ne.symm hqg)).trans hh),by rw [List.length_set];exact h1,h2,by rw [Array.size_setIfInBounds];exact h3,h4,fun j y hy=>?_,fun j k hj=>h6 j k (by simpa using hj),fun j m k hj hm=>h7 j m k (by simpa using hj) (by simpa using hm)⟩⟩
 by_cases e:j=i
 ·subst e
  rw [List.getElem?_set_self hi] at hy
  cases hy
  simp only [if_pos]
  refine ⟨⟨u0,u1,_,by rw [ec];rfl,.inl (jP r (hst _ (by decide) (by decide))),?_,IL hgr fun k hk _=>k2 k (h6 j k hi hk).2,kk⟩,by rw [List.length_set];exact hl,fun k z hz=>?_⟩
  ·rcases ms with ms | ⟨mg,mc,adt,mcs,mfs,mv,mh,m1,m2,m3,m4,m5,m6,m7⟩
   ·exact .inl ms
   ·exact .inr ⟨mg,mc,adt,mcs,mfs,mv,(k3 mg (fun e=>by subst e;exact dO mh Dn (by decide)) (h6 j mg hi m4).2).trans mh,m1,m2,m3,m4,fun p y hy=>⟨uq (m5 p y hy).1 (hst _ (by decide) (by decide)),(m5 p y hy).2⟩,m6,m7⟩
  ·by_cases ek:k=5
   ·subst ek
    rw [List.getElem?_set_self (by omega)] at hz
    cases hz
    rw [Array.getElem?_setIfInBounds_self_of_lt (by omega)]
   ·rw [List.getElem?_set_ne (Ne.symm ek)] at hz
    rw [Array.getElem?_setIfInBounds_ne (by omega)]
    exact hcell k z hz
 ·rw [List.getElem?_set_ne (Ne.symm e)] at hy
  simp only [if_neg e]
  obtain ⟨⟨v0,v1,v2,Lr,r',ms',gq',kk'⟩,q1,q2⟩:=h5 j y hy
  have hj:=(gs1 hy).1
  have hfs:∀ k,fs j k→k < w.heap.size→(W1.setCell ⟨g',i * 7+5,none⟩ (.slice (some ⟨q,off,none⟩) (m+1) c)).heap[k]?=w.heap[k]?:=fun k hk _=>k3 k (fun e'=>by subst e';exact h7 j i k hj hi e hk Gq) (h6 j k hj hk).2
  refine ⟨⟨v0,v1,v2,Lr,.inl (jP r' (hst _ (by decide) (by decide))),xJ ms' hfs (hst _ (by decide) (by decide)),IL gq' hfs,kk'⟩,q1,fun k z hz=>?_⟩
  have hk:k < 7:=by have:=(gs1 hz).1;omega
  rw [Array.getElem?_setIfInBounds_ne (by rcases Nat.lt_or_gt_of_ne e with e | e <;> omega)]
  exact q2 k z hz
end
section
variable {w0 wI w w' : World} {g ga gb cap i : Nat} {cv : Value} {L : List Int} {a a' : aF} {b b' : aA} {S S' : Nat → Prop}
theorem fH.room (h:fH w0 wI w g ga cv L a S) (hg:g < wI.heap.size) (hb:a.boxes[i]?=some b) (hx:jm w ga 1 (.slice (some ⟨gb,0,none⟩) a.boxes.length cap)) {q off m c:Nat} (hgc:w.cell? ⟨gb,i * 7+5,none⟩=some (.slice (some ⟨q,off,none⟩) m c)) (hm:m=b.au.length) (hc:m+1≤c) {x0 x1:Int} (i0:ay x0) (i1:ay x1) :
  kE w0 wI (((w.setCell ⟨q,off+m * 2,none⟩ (.int .i64 x0)).setCell ⟨q,off+m * 2+1,none⟩ (.int .i64 x1)).setCell ⟨gb,i * 7+5,none⟩ (.slice (some ⟨q,off,none⟩) (m+1) c)) g ga cv L:=by
 have hp:=h.pl
 have hn:=h.ne hg
 have hlow:=h.low
 have h0:=h.cur.1
 have hbx:=h.inv.2 b (List.mem_of_getElem? hb)
 obtain ⟨Dm,u0,u1,hk,hbq,hs,hi⟩:=h.acc
 have e0:u0=.slice (some ⟨gb,0,none⟩) a.boxes.length cap:=by
  have:=(bM hk).2.1
  rw [show w.cell? ⟨ga,1,none⟩=_ from hx] at this
  exact (Option.some.inj this).symm
 obtain ⟨Mg,fE,-,Dn,htg,hW⟩:=adr hbq hb e0 hgc hm hc i0 i1
 have hoth:∀ k,k≠q→k≠gb→(((w.setCell ⟨q,off+m * 2,none⟩ (.int .i64 x0)).setCell ⟨q,off+m * 2+1,none⟩ (.int .i64 x1)).setCell ⟨gb,i * 7+5,none⟩ (.slice (some ⟨q,off,none⟩) (m+1) c)).heap[k]?=w.heap[k]?:=fun k h1 h2=>by rw [Below.heap_setCell _ _ _ _ (show k≠gb from h2),Below.heap_setCell _ _ _ _ (show k≠q from h1),Below.heap_setCell _ _ _ _ (show k≠q from h1)]
 refine ⟨aH a i ⟨b.name,b.valid,b.next,b.seq,b.ah,b.au ++ [(⟨x0,x1⟩:bB)],b.lost⟩,S,u0,u1,(hoth ga (fun e=>Dm (e ▸ Mg)) (fun e=>Dm (e ▸ fE))).trans hk,hW,Ow.mono (jd hs fun k _ _ hT=>hoth k (fun e=>by subst e;obtain ⟨cs,fz,hT⟩:=hT;exact dO hT Dn (by decide)) (fun e=>by subst e;obtain ⟨cs,fz,hT⟩:=hT;exact dO hT htg (by decide))) fun _ _=>trivial,hi,h.inv.b.set ⟨by have:=hbx.1;simp only;omega,hbx.2.1,hbx.2.2.1,by have:=hbx.2.2.2;simp;omega⟩,hlow,hp,h.cur.but (K:=S) (by simp only [bf];exact Nat.le_refl _) rfl rfl rfl (fun k _ h2=>hoth k (fun e=>h2 (e ▸ Mg)) (fun e=>h2 (e ▸ fE))) hn.2 (fun k hk=>by have:=hlow k hk;omega),(hoth _ (fun e=>by have:=hlow _ (e ▸ Mg);omega) (fun e=>by have:=hlow _ (e ▸ fE);omega)).trans h.res⟩
/-- .. put behind a copy. -/
theorem fH.grow {w1 w2:World} {v:Value} {gs:List bB} (h:fH w0 wI w g ga cv L a S) (hg:g < wI.heap.size) (hb:a.boxes[i]?=some b) (hx:jm w ga 1 (.slice (some ⟨gb,0,none⟩) a.boxes.length cap)) (hw:Below w.heap.size w w2) (hO:iY w2 (fun k=>w.heap.size≤k) v gs) (hl:gs.length≤41):kE w0 wI (w2.setCell ⟨gb,i * 7+5,none⟩ v) g ga cv L:=by
 have hbx:=h.inv.2 b (List.mem_of_getElem? hb)
 refine h.wS hg hb hx (b':=⟨b.name,b.valid,b.next,b.seq,b.ah,gs,b.lost⟩) (fun S1 hP=>?_) ⟨by have:=hbx.1;simp only;omega,hbx.2.1,hbx.2.2.1,hl⟩
 have hP2:=(hP.below hw).mono (S':=fun k=>S1 k∨w.heap.size≤k) fun _ h=>.inl h
 exact ⟨_,hP2.IG ((EF hO).mono fun _ h=>.inr h),(nG hw).trans (lK (S':=S1) hP2 (by omega)) (fun _ h=>.inl h),fun _ h=>h⟩
end
end Go.Proofs.YtmglhdkeidhafaaGreat
