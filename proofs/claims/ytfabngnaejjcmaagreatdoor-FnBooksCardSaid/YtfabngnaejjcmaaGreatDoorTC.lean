/- The proof's texts, part 38. -/
import Derived.Test.YtfabngnaejjcmaaGreatDoorTB
namespace Go.Proofs.YtfabngnaejjcmaaGreatDoor
open Go.RowKit
set_option linter.unusedVariables false
set_option linter.unusedSimpArgs false
set_option maxHeartbeats 8000000
set_option maxRecDepth 100000
/- What a xU leaves of an account: names in blocks that are closed behind them, a number put anew, au and numbers put behind others. -/
def J6 (x:aB):Prop:=x.name.length<=7/\x.ah.length<=12/\(∀m ∈ x.ah,m.text.length<=30)/\x.au.length<=41
def rJ (a:aT):Prop:=a.boxes.length<=4/\∀x ∈ a.boxes,J6 x
theorem fI.b {x:aB} (h:fI x):J6 x:=⟨by have:=h.1;omega,h.2.1,h.2.2.1,by have:=h.2.2.2;omega⟩
theorem nZ.b {a:aT} (h:nZ a):rJ a:=⟨h.1,λx hx=>(h.2 x hx).b⟩
theorem rJ.set {a:aT} {k:Nat} {b:aB} (h:rJ a) (hb:J6 b):rJ (eY a k b):=by
 refine⟨by simpa [eY] using h.1,λx hx=>?_⟩;rcases List.mem_or_eq_of_mem_set hx with hx | rfl
 ·exact h.2 x hx
 ·exact hb
theorem rJ.sz {a:aT} (h:rJ a):GK a.boxes<=2000000:=by
 have h1:∀b,b ∈ a.boxes->bG b<=500:=λb hb=>by
  obtain⟨k0,k1,k2,k3⟩:=h.2 b hb;have:=WZ k2;unfold bG;omega
 have h2:=QJ 500 a.boxes h1;have:=h.1;omega
/-- A box whose name may lie in a block that is closed behind it. -/
def Pz (w:World) (c:List Value) (b:aB) (S:Nat->Prop):Prop :=
 ∃u0 u1 u2,c=[u0,.int .i64 b.valid,.int .i64 b.next,.int .i64 b.seq,u1,u2,.int .i64 b.lost]/\(RO w Any u0 b.name\/∃q,bL w q u0 b.name)/\jq w S u1 b.ah/\iR w S u2 b.au/\av b.valid/\av b.next/\av b.seq/\av b.lost
abbrev tY:=Ow 70 7 Pz
section
variable {w w' : World} {S : Nat -> Prop} {v : Value} {l : List aB}
theorem J7 (h:iT w S v l):tY w S v l:=by
 rcases h with h | ⟨g,cap,cur,cs,fs,hv,hh,h1,h2,h3,h4,h5,h6,h7⟩
 ·exact .inl h
 ·exact .inr ⟨g,cap,cur,cs,fs,hv,hh,h1,h2,h3,h4,λi x hx=>⟨let ⟨u0,u1,u2,e,r,k⟩:=(h5 i x hx).1;⟨u0,u1,u2,e,.inl r,k⟩,(h5 i x hx).2⟩,h6,h7⟩
theorem agt {c:List Value} {b:aB} (h:Pz w c b S) (hm:∀k,S k->k < w.heap.size->w'.heap[k]?=w.heap[k]?) (ht:aY w w' 5) (hg:aY w w' 115):Pz w' c b S:=by
 obtain⟨u0,u1,u2,e,r,m,g,k⟩:=h;refine⟨u0,u1,u2,e,r.imp (λr=>lM r ht) λ⟨q,o⟩=>⟨q,o.frame (ht q ?_)⟩,zo m hm ht,xu g hg,k⟩;obtain⟨-,cap,cur,fz,-,hh,-⟩:=o;exact⟨_,_,hh⟩
theorem J8 (h:tY w S v l) (hm:∀k,S k->k < w.heap.size->w'.heap[k]?=w.heap[k]?) (ht:aY w w' 5) (hg:aY w w' 115):tY w' S v l:=by
 rcases h with h | ⟨g,cap,cur,cs,fs,hv,hh,h1,h2,h3,h4,h5,h6,h7⟩
 ·exact .inl h
 ·exact .inr ⟨g,cap,cur,cs,fs,hv,(hm g h4 (lt_of_heap hh)).trans hh,h1,h2,h3,h4,λi x hx=>⟨agt (h5 i x hx).1 (λk hk=>hm k (h6 i k (gs1 hx).1 hk).1) ht hg,(h5 i x hx).2⟩,h6,h7⟩
theorem PD (h:tY w S v l):lH w v l :=
 Ow.rd (λ_ _ _ _ ⟨u0,u1,u2,e,r,m,g,k⟩=>⟨u0,u1,u2,e,r.elim RO.bs λ⟨_,o⟩=>o.bs,m.v,g.1,k⟩) h
/-- One box gets another name. -/
theorem agu (h:iT w S v l) {i:Nat} {b:aB} (hb:l[i]?=some b) {g n cap:Nat} (hv:v=.slice (some ⟨g,0,none⟩) n cap) {u:Value} {nm:List Int} {q:Nat} (hq:bL w q u nm) :
  tY (w.setCell ⟨g,i * 7,none⟩ u) S v (l.set i ⟨nm,b.valid,b.next,b.seq,b.ah,b.au,b.lost⟩):=by
 have hi:i < l.length:=(gs1 hb).1;rcases h with⟨-,h⟩ | ⟨g',cap',cur,cs,fs,hv',hh,h1,h2,h3,h4,h5,h6,h7⟩
 ·subst h;simp at hb
 rw[hv'] at hv;simp only[Value.slice.injEq,Option.some.injEq,Addr.mk.injEq,and_true] at hv;obtain⟨rfl,-,-⟩:=hv;have hty:Ty w g' 70:=⟨_,_,hh⟩;have hqg:q≠g':=λe=>by
  subst e;obtain⟨-,_,_,_,-,hq,-⟩:=hq;exact dX hq hty (by decide)
 have hk:∀k,k≠g'->(w.setCell ⟨g',i * 7,none⟩ u).heap[k]?=w.heap[k]?:=λk h=>Below.heap_setCell _ _ _ _ h;refine .inr ⟨g',cap',_,λj=>if j=i then (cs i).set 0 u else cs j,fs,by rw[List.length_set];exact hv',aD hh,by rw[List.length_set];exact h1,h2,by rw[Array.size_setIfInBounds];exact h3,h4,λj y hy=>?_,λj k hj=>h6 j k (by simpa using hj),λj m k hj hm=>h7 j m k (by simpa using hj) (by simpa using hm)⟩
 by_cases e:j=i
 ·subst e
  rw[List.getElem?_set_self hi] at hy;cases hy
  simp only[if_pos];obtain⟨⟨u0,u1,u2,ec,r,m,gq,kk⟩,hl,hcell⟩:=h5 j b hb;refine⟨⟨u,u1,u2,by rw[ec];rfl,.inr ⟨q,hq.frame (hk q hqg)⟩,zo m (λk hk' _=>hk k (h6 j k hi hk').2) (gJ hty (by decide)),xu gq (gJ hty (by decide)),kk⟩,by rw[List.length_set];exact hl,λk z hz=>?_⟩
  by_cases ek:k=0
  ·subst ek
   rw[List.getElem?_set_self (by omega)] at hz;cases hz
   rw[Nat.add_zero,Array.getElem?_setIfInBounds_self_of_lt (by omega)]
  ·rw[List.getElem?_set_ne (Ne.symm ek)] at hz
   rw[Array.getElem?_setIfInBounds_ne (by omega)];exact hcell k z hz
 ·rw[List.getElem?_set_ne (Ne.symm e)] at hy
  simp only[if_neg e];obtain⟨⟨u0,u1,u2,ec,r,m,gq,kk⟩,q1,q2⟩:=h5 j y hy;have hj:=(gs1 hy).1;refine⟨⟨u0,u1,u2,ec,.inl (lM r (gJ hty (by decide))),zo m (λk hk' _=>hk k (h6 j k hj hk').2) (gJ hty (by decide)),xu gq (gJ hty (by decide)),kk⟩,q1,λk z hz=>?_⟩;have hk:k < 7:=by have:=(gs1 hz).1;omega
  rw[Array.getElem?_setIfInBounds_ne (by rcases Nat.lt_or_gt_of_ne e with e | e <;> omega)];exact q2 k z hz
end
/-- None of its blocks is such a variable. -/
theorem XH {w:World} {S:Nat->Prop} {v:Value} {l:List aB} (h:tY w S v l):tY w (λk=>S k/\¬jM w k) v l:=by
 rcases h with h | ⟨g,cap,cur,cs,fs,hv,hh,h1,h2,h3,h4,h5,h6,h7⟩
 ·exact .inl h
 ·refine .inr ⟨g,cap,cur,cs,λi k=>fs i k/\¬jM w k,hv,hh,h1,h2,h3,⟨h4,BU hh (by decide)⟩,λi x hx=>⟨?_,(h5 i x hx).2⟩,λi k hi hk=>⟨⟨(h6 i k hi hk.1).1,hk.2⟩,(h6 i k hi hk.1).2⟩,λi j k hi hj hne hk hk'=>h7 i j k hi hj hne hk.1 hk'.1⟩
  obtain⟨u0,u1,u2,e,e1,e2,e3,r⟩:=(h5 i x hx).1;refine⟨u0,u1,u2,e,e1,?_,⟨e3.1,λa n c e=>let ⟨k1,cur,hh,k⟩:=e3.2 a n c e;⟨⟨k1,BU hh (by decide)⟩,cur,hh,k⟩⟩,r⟩;rcases e2 with h | ⟨m,cap,cu,cs,fs,hv,hm,k1,k2,k3,k4,k5,k6,k7⟩
  ·exact .inl h
  ·exact .inr ⟨m,cap,cu,cs,λ_ _=>False,hv,hm,k1,k2,k3,⟨k4,BU hm (by decide)⟩,k5,by simp,by simp⟩
theorem agv {w:World} {S:Nat->Prop} {u0 u1:Value} {a:aT} (hq:tY w S u0 a.boxes) (hs:gQ w Any u1 a.seen) (hi:av a.valid):pQ w (.agg #[.int .i64 a.valid,u0,u1]) a:=λw' hall=>by
 have hst:∀t,t≠39/\t≠81/\t≠35/\t≠41->aY w w' t:=λt ht k hk=>hall k (kK hk) (by
  obtain⟨cs,fz,hk⟩:=hk;exact BU hk ht)
 exact⟨_,_,rfl,PD (J8 (XH hq) (λk h1 h2=>hall k h2 h1.2) (hst _ (by decide)) (hst _ (by decide))),Ow.rd (λ_ _ _ _ h=>h) (jc hs λk _ _ hT=>hst _ (by decide) k hT),hi⟩
/-- Where XI stands at its end: the account behind the variable ga, the result's variable. -/
def lF (w0 wI w:World) (g ga:Nat) (cv:Value) (L:List Int):Prop:=∃(a:aT) (S:Nat->Prop) (u0 u1:Value),w.heap[ga]?=some (.cells #[.int .i64 a.valid,u0,u1] 39 (0,0))/\tY w S u0 a.boxes/\gQ w Any u1 a.seen/\av a.valid/\rJ a/\(∀k,S k->wI.heap.size < k)/\wI.heap.size < ga/\(aS w0 w g cv L/\wI.grownBy w (some g))/\w.heap[wI.heap.size]?=some (.cells #[.int .i64 0,.slice none 0 0,.slice none 0 0] 39 (0,0))
theorem zQ {wI w w':World} {g:Nat} {K:Nat->Prop} (h:wI.grownBy w (some g)) (hs:w.heap.size<=w'.heap.size) (ho:w'.os=w.os) (ht:w'.tape=w.tape) (hu:w'.output=w.output) (hk:∀k,k < w.heap.size->¬K k->w'.heap[k]?=w.heap[k]?) (h0:∀k,K k->wI.heap.size<=k):wI.grownBy w' (some g) :=
 ⟨ho.trans h.os,ht.trans h.tape,hu.trans h.output,Nat.le_trans h.size hs,λk hk' hne=>(hk k (Nat.lt_of_lt_of_le hk' h.size) (λe=>by have:=h0 k e;omega)).trans (h.block k hk' hne)⟩
theorem lF.out {w0 wI w:World} {g ga:Nat} {cv:Value} {L:List Int} (h:lF w0 wI w g ga cv L) (hg:g < wI.heap.size):∃(a:aT) (a0 a1:Option Addr) (c0 n1 c1:Nat),wI.heap.size < ga/\w.heap[ga]?=some (.cells #[.int .i64 a.valid,.slice a0 a.boxes.length c0,.slice a1 n1 c1] 39 (0,0))/\w.heap[wI.heap.size]?=some (.cells #[.int .i64 0,.slice none 0 0,.slice none 0 0] 39 (0,0)) /\
  Hid ((((w.setCell ⟨wI.heap.size,0,none⟩ (.int .i64 a.valid)).setCell ⟨wI.heap.size,1,none⟩ (.slice a0 a.boxes.length c0)).setCell ⟨wI.heap.size,2,none⟩ (.slice a1 n1 c1)).heap[wI.heap.size]?=some (.cells #[.int .i64 a.valid,.slice a0 a.boxes.length c0,.slice a1 n1 c1] 39 (0,0))/\pQ (((w.setCell ⟨wI.heap.size,0,none⟩ (.int .i64 a.valid)).setCell ⟨wI.heap.size,1,none⟩ (.slice a0 a.boxes.length c0)).setCell ⟨wI.heap.size,2,none⟩ (.slice a1 n1 c1)) (.agg #[.int .i64 a.valid,.slice a0 a.boxes.length c0,.slice a1 n1 c1]) a/\rJ a/\aS w0 (((w.setCell ⟨wI.heap.size,0,none⟩ (.int .i64 a.valid)).setCell ⟨wI.heap.size,1,none⟩ (.slice a0 a.boxes.length c0)).setCell ⟨wI.heap.size,2,none⟩ (.slice a1 n1 c1)) g cv L/\wI.grownBy (((w.setCell ⟨wI.heap.size,0,none⟩ (.int .i64 a.valid)).setCell ⟨wI.heap.size,1,none⟩ (.slice a0 a.boxes.length c0)).setCell ⟨wI.heap.size,2,none⟩ (.slice a1 n1 c1)) (some g)):=by
 obtain⟨a,S,u0,u1,hk,hq,hs,hi,hI,hlow,hga,⟨hC,hGI⟩,hr⟩:=h;obtain⟨a0,c0,rfl,-⟩:=(PD hq).form;obtain⟨a1,n1,c1,rfl⟩:∃ua un uc,u1=.slice ua un uc:=by
  rcases hs with⟨h,-⟩ | ⟨q,cap,cur,cs,fs,h,-⟩ <;> exact⟨_,_,_,h⟩
 have G:w.grownBy (((w.setCell ⟨wI.heap.size,0,none⟩ (.int .i64 a.valid)).setCell ⟨wI.heap.size,1,none⟩ (.slice a0 a.boxes.length c0)).setCell ⟨wI.heap.size,2,none⟩ (.slice a1 n1 c1)) (some wI.heap.size):=jl 2 _ (jl 1 _ (jl 0 _ (World.grownBy.refl w (some wI.heap.size))))
 have b3:Below wI.heap.size w (((w.setCell ⟨wI.heap.size,0,none⟩ (.int .i64 a.valid)).setCell ⟨wI.heap.size,1,none⟩ (.slice a0 a.boxes.length c0)).setCell ⟨wI.heap.size,2,none⟩ (.slice a1 n1 c1)):=(((Below.refl wI.heap.size w).setCell (p:=⟨wI.heap.size,0,none⟩) (Nat.le_refl _) _).setCell (p:=⟨wI.heap.size,1,none⟩) (Nat.le_refl _) _).setCell (p:=⟨wI.heap.size,2,none⟩) (Nat.le_refl _) _
 have hW:(((w.setCell ⟨wI.heap.size,0,none⟩ (.int .i64 a.valid)).setCell ⟨wI.heap.size,1,none⟩ (.slice a0 a.boxes.length c0)).setCell ⟨wI.heap.size,2,none⟩ (.slice a1 n1 c1)).heap.size=w.heap.size:=by simp only[dW]
 have hoth:∀k,k < w.heap.size->¬jM w k->(((w.setCell ⟨wI.heap.size,0,none⟩ (.int .i64 a.valid)).setCell ⟨wI.heap.size,1,none⟩ (.slice a0 a.boxes.length c0)).setCell ⟨wI.heap.size,2,none⟩ (.slice a1 n1 c1)).heap[k]?=w.heap[k]?/\¬jM (((w.setCell ⟨wI.heap.size,0,none⟩ (.int .i64 a.valid)).setCell ⟨wI.heap.size,1,none⟩ (.slice a0 a.boxes.length c0)).setCell ⟨wI.heap.size,2,none⟩ (.slice a1 n1 c1)) k:=λk hk hT=>by
  have e:(((w.setCell ⟨wI.heap.size,0,none⟩ (.int .i64 a.valid)).setCell ⟨wI.heap.size,1,none⟩ (.slice a0 a.boxes.length c0)).setCell ⟨wI.heap.size,2,none⟩ (.slice a1 n1 c1)).heap[k]?=w.heap[k]?:=G.block k hk (by
   simp only[ne_eq,Option.some.injEq];intro e;exact hT (e ▸ .inl ⟨_,_,hr⟩))
  exact⟨e,λh=>hT (ext_eq e h)⟩
 refine⟨a,a0,a1,c0,n1,c1,hga,hk,hr,aD (i:=2) (v:=.slice a1 n1 c1) (aD (i:=1) (v:=.slice a0 a.boxes.length c0) (aD (i:=0) (v:=.int .i64 a.valid) hr)),λw' hk'=>?_,hI,vk hC b3 hg,zQ (K:=λk=>k=wI.heap.size) hGI (by rw[hW];exact Nat.le_refl _) G.os G.tape G.output (λk h1 h2=>G.block k h1 (by simpa using h2)) (λk h=>by omega)⟩;have hall:∀k,k < w.heap.size->¬jM w k->w'.heap[k]?=w.heap[k]?:=λk h1 h2=>(hk' k (by rw[hW];exact h1) (hoth k h1 h2).2).trans (hoth k h1 h2).1;have hst:∀t,t≠39/\t≠81/\t≠35/\t≠41->aY w w' t:=λt ht k hk=>hall k (kK hk) (by
  obtain⟨cs,fz,hk⟩:=hk;exact BU hk ht)
 exact⟨_,_,rfl,PD (J8 (XH hq) (λk h1 h2=>hall k h2 h1.2) (hst _ (by decide)) (hst _ (by decide))),Ow.rd (λ_ _ _ _ h=>h) (jc hs λk _ _ hT=>hst _ (by decide) k hT),hi⟩
/-- Where XI stands ahead of a xU. -/
structure fF (w0 wI w:World) (g ga:Nat) (cv:Value) (L:List Int) (a:aT) (S:Nat->Prop):Prop where
 gb:wI.grownBy w (some g)
 cur:aS w0 w g cv L
 res:w.heap[wI.heap.size]?=some (.cells #[.int .i64 0,.slice none 0 0,.slice none 0 0] 39 (0,0))
 acc:aJ w S ga a
 inv:nZ a
 low:∀k,S k->wI.heap.size < k
 high:∀k,S k->k < w.heap.size
 pl:wI.heap.size < ga
 sn:∃u0 u1:Value,w.heap[ga]?=some (.cells #[.int .i64 a.valid,u0,u1] 39 (0,0))/\gQ w (In (wI.heap.size+1) w.heap.size) u1 a.seen
/-- A cell that stays while others turn. -/
def jA (w:World) (k i:Nat) (v:Value):Prop:=w.cell? ⟨k,i,none⟩=some v
theorem jA.gb {w w':World} {k i K:Nat} {v:Value} (h:jA w k i v) (hG:w.grownBy w' (some K)) (hk:k < w.heap.size) (hne:k≠K):jA w' k i v:=by
 unfold jA World.cell? at h ⊢;rw[hG.block k hk (by simpa using hne)];exact h
section
variable {w0 wI w w' : World} {g ga gb cap i : Nat} {cv : Value} {L : List Int} {a a' : aT} {b b' : aB} {S S' : Nat -> Prop}
theorem fF.ne (h:fF w0 wI w g ga cv L a S) (hg:g < wI.heap.size):g≠ga/\¬S g:=⟨by have:=h.pl;omega,λhs=>by have:=h.low _ hs;omega⟩
theorem fF.draw (h:fF w0 wI w g ga cv L a S) (hg:g < wI.heap.size) (hC:aS w0 w' g cv L) (hG:w.grownBy w' (some g)):fF w0 wI w' g ga cv L a S:=by
 have hp:=h.pl;obtain⟨u0,u1,hk,hs⟩:=h.sn;exact⟨nM h.gb hG,hC,(hG.block _ (lt_of_heap h.res) (by simp;omega)).trans h.res,h.acc.draw h.cur hG (h.ne hg).2,h.inv,h.low,λk hk=>Nat.lt_of_lt_of_le (h.high k hk) hG.size,hp,u0,u1,(hG.block _ (lt_of_heap hk) (by simp;omega)).trans hk,Ow.mono (jc hs λk h1 h2 _=>hG.block k h2 (by have:=h1.1;simp;omega)) λk h=>⟨h.1,Nat.lt_of_lt_of_le h.2 hG.size⟩⟩
theorem fF.below (h:fF w0 wI w g ga cv L a S) (hb:Below w.heap.size w w'):fF w0 wI w' g ga cv L a S:=by
 obtain⟨u0,u1,hk,hs⟩:=h.sn;exact⟨zQ (K:=λ_=>False) h.gb hb.size hb.os hb.tape hb.output (λk h1 _=>hb.block k h1) (λk h=>h.elim),h.cur.below hb,aA hb h.res,h.acc.below hb,h.inv,h.low,λk hk=>Nat.lt_of_lt_of_le (h.high k hk) hb.size,h.pl,u0,u1,aA hb hk,Ow.mono (jc hs λk _ h2 _=>hb.block k h2) λk h=>⟨h.1,Nat.lt_of_lt_of_le h.2 hb.size⟩⟩
theorem lF.of (hA:aJ w S ga a) (hI:rJ a) (hlow:∀k,S k->wI.heap.size < k) (hga:wI.heap.size < ga) (hC:aS w0 w g cv L/\wI.grownBy w (some g)) (hr:w.heap[wI.heap.size]?=some (.cells #[.int .i64 0,.slice none 0 0,.slice none 0 0] 39 (0,0))):lF w0 wI w g ga cv L :=
 let ⟨_,u0,u1,h0,h1,h2,r⟩:=hA
 ⟨a,S,u0,u1,h0,J7 h1,Ow.mono h2 λ_ _=>trivial,r,hI,hlow,hga,hC,hr⟩
theorem fF.fin (h:fF w0 wI w g ga cv L a S):lF w0 wI w g ga cv L:=lF.of h.acc h.inv.b h.low h.pl ⟨h.cur,h.gb⟩ h.res
theorem fF.turn (h:fF w0 wI w g ga cv L a S) (hg:g < wI.heap.size) (hT:aI w w' S ga) (hA:aJ w' S' ga a') (hS:∀k,S' k->S k\/w.heap.size<=k) (hI:rJ a'):lF w0 wI w' g ga cv L:=by
 have hp:=h.pl;have hl:=h.acc.lt;have h0:=h.cur.1;have hn:=h.ne hg;have hlow:=h.low;refine lF.of hA hI (λk hk=>?_) hp ⟨h.cur.turns hT hn.1 hn.2 (by omega) (λk hk=>by have:=hlow k hk;omega),Pw h.gb hT (by omega) (λk hk=>by have:=hlow k hk;omega)⟩ ((hT.2.1 _ (lt_of_heap h.res) (by omega) (λhs=>by have:=hlow _ hs;omega)).trans h.res);rcases hS k hk with hk | hk
 ·exact hlow k hk
 ·omega
theorem fF.valid (h:fF w0 wI w g ga cv L a S) (hg:g < wI.heap.size) {n:Int} (hn:av n):lF w0 wI (w.setCell ⟨ga,0,none⟩ (.int .i64 n)) g ga cv L :=
 h.turn hg (aI.set (S:=S) h.acc) (h.acc.Jv hn) (λ_ h=>.inl h) h.inv.b
/-- A number of the i-th box is put anew, or a jC of it turned. -/
theorem fF.xU (h:fF w0 wI w g ga cv L a S) (hg:g < wI.heap.size) (hb:a.boxes[i]?=some b) (hx:jA w ga 1 (.slice (some ⟨gb,0,none⟩) a.boxes.length cap)) (hq:∀S1,aG w S1 gb (i * 7) b->∃nT,aG w' nT gb (i * 7) b'/\Turns w w' S1 gb (i * 7)/\∀k,nT k->S1 k\/w.heap.size<=k) (hI:J6 b'):lF w0 wI w' g ga cv L:=by
 obtain⟨vO,cap',S1,hc,jv,hP,hS1,hR⟩:=h.acc.at hb;rw[show w.cell? ⟨ga,1,none⟩=_ from hx] at hc;simp only[Option.some.injEq,Value.slice.injEq,Addr.mk.injEq,true_and,and_true] at hc;obtain⟨rfl,rfl⟩:=hc;obtain⟨nT,hP',hT,hS⟩:=hq S1 hP;exact h.turn hg (aI.box hT jv λk hk=>(hS1 k hk).1) (hR w' b' nT hT hP' hS) (λk hk=>hk) (h.inv.b.set hI)
theorem aG.Jv {o:Nat} (h:aG w S g o b) (n:Int) (hn:av n):aG (w.setCell ⟨g,o+1,none⟩ (.int .i64 n)) S g o ⟨b.name,n,b.next,b.seq,b.ah,b.au,b.lost⟩ :=
 h.put 1 (by omega) _ λc ⟨u0,u1,u2,e,h1,h2,h3,i0,i1,i2,i3⟩ _=>⟨u0,u1,u2,by rw[e];rfl,Cc h.ty h1,Ce h.ty h2,Cg h.ty h3,hn,i1,i2,i3⟩
theorem fF.name (h:fF w0 wI w g ga cv L a S) (hg:g < wI.heap.size) (hb:a.boxes[i]?=some b) (hx:jA w ga 1 (.slice (some ⟨gb,0,none⟩) a.boxes.length cap)) {u:Value} {nm:List Int} {q:Nat} (hq:bL w q u nm) (hl:nm.length<=7):lF w0 wI (w.setCell ⟨gb,i * 7,none⟩ u) g ga cv L:=by
 obtain⟨vO,cap',S1,hc,jv,hP,hS1,-⟩:=h.acc.at hb;rw[show w.cell? ⟨ga,1,none⟩=_ from hx] at hc;simp only[Option.some.injEq,Value.slice.injEq,Addr.mk.injEq,true_and,and_true] at hc;obtain⟨rfl,rfl⟩:=hc;have hp:=h.pl;have hn:=h.ne hg;have hlow:=h.low;have h0:=h.cur.1;have hbx:=h.inv.2 b (List.mem_of_getElem? hb);have hty:=hP.ty;have hT:aI w (w.setCell ⟨gb,i * 7,none⟩ u) S ga:=aI.box (mR (j:=0) (S':=S1) hP (by omega)) jv λk hk=>(hS1 k hk).1;obtain⟨Ga,u0,u1,hk,hbq,hs,hi⟩:=h.acc;have hgg:gb≠ga:=λe=>Ga (e ▸ jv);have e0:u0=.slice (some ⟨gb,0,none⟩) a.boxes.length cap:=by
  have:=(fU hk).2.1;rw[show w.cell? ⟨ga,1,none⟩=_ from hx] at this;exact(Option.some.inj this).symm
 refine⟨eY a i ⟨nm,b.valid,b.next,b.seq,b.ah,b.au,b.lost⟩,S,u0,u1,(Below.heap_setCell _ _ _ _ (show ga≠gb from Ne.symm hgg)).trans hk,agu hbq hb e0 hq,Ow.mono (jc hs λk _ _ hY=>Below.heap_setCell _ _ _ _ (show k≠gb from λe=>by obtain⟨cs,fz,hY⟩:=hY;rw[e] at hY;exact dX hY hty (by decide))) λ_ _=>trivial,hi,h.inv.b.set ⟨hl,hbx.2.1,hbx.2.2.1,by have:=hbx.2.2.2;simp only;omega⟩,hlow,hp,⟨h.cur.turns hT hn.1 hn.2 (by omega) (λk hk=>by have:=hlow k hk;omega),Pw h.gb hT (by omega) (λk hk=>by have:=hlow k hk;omega)⟩,(hT.2.1 _ (lt_of_heap h.res) (by omega) (λhs=>by have:=hlow _ hs;omega)).trans h.res⟩
/-- A alr flags. -/
theorem fF.flags (h:fF w0 wI w g ga cv L a S) (hg:g < wI.heap.size) (hb:a.boxes[i]?=some b) (hx:jA w ga 1 (.slice (some ⟨gb,0,none⟩) a.boxes.length cap)) {m:aL} (hm:b.ah[0]?=some m) {mb mc:Nat} (hy:jA w gb (i * 7+4) (.slice (some ⟨mb,0,none⟩) b.ah.length mc)) {fl:Int} (hf:av fl):lF w0 wI (w.setCell ⟨mb,1,none⟩ (.int .i64 fl)) g ga cv L:=by
 have hbx:=h.inv.2 b (List.mem_of_getElem? hb);refine h.xU hg hb hx (b':=⟨b.name,b.valid,b.next,b.seq,b.ah.set 0 ⟨m.uid,fl,m.seq,m.text⟩,b.au,b.lost⟩) (λS1 hP=>?_) ⟨by have:=hbx.1;simp only;omega,by simpa using hbx.2.1,λx hx=>?_,by have:=hbx.2.2.2;simp only;omega⟩
 ·obtain⟨mb',cap',hc,-,-,hS,hty,-,-,-,hF,-⟩:=hP.jC hm
  rw[show w.cell? ⟨gb,i * 7+4,none⟩=_ from hy] at hc;simp only[Option.some.injEq,Value.slice.injEq,Addr.mk.injEq,true_and,and_true] at hc;obtain⟨rfl,rfl⟩:=hc;exact⟨S1,by simpa using hF fl hf,MZ hty (.inl hS),λ_ h=>.inl h⟩
 ·rcases List.mem_or_eq_of_mem_set hx with hx | rfl
  ·exact hbx.2.2.1 x hx
  ·exact hbx.2.2.1 m (List.mem_of_getElem? hm)
/-- The cursor stays where none but K turn. -/
theorem aS.but {K:Nat->Prop} (h:aS w0 w g cv L) (hs:w.heap.size<=w'.heap.size) (ho:w'.os=w.os) (ht:w'.tape=w.tape) (hu:w'.output=w.output) (hk:∀k,k < w.heap.size->¬K k->w'.heap[k]?=w.heap[k]?) (hg:¬K g) (h0:∀k,K k->w0.heap.size<=k):aS w0 w' g cv L:=by
 obtain⟨h1,hb,h3,i,q,h4,h5,hh⟩:=h;have hz:=hb.size;exact⟨h1,⟨ho.trans hb.os,ht.trans hb.tape,hu.trans hb.output,Nat.le_trans hz hs,λk hk'=>(hk k (by omega) (λh=>by have:=h0 k h;omega)).trans (hb.block k hk')⟩,h3,i,q,h4,h5,(hk g (lt_of_heap hh) hg).trans hh⟩
/-- One more that it has seen. -/
theorem fF.push {w1 w2:World} {u0 u1 v:Value} {x:Int} (h:fF w0 wI w g ga cv L a S) (hg:g < wI.heap.size) (hu:w.heap[ga]?=some (.cells #[.int .i64 a.valid,u0,u1] 39 (0,0))) (hb:Below w.heap.size w w1) {B:Nat} (hO:gQ w2 (In B w2.heap.size) v (a.seen ++ [x])) (hG:w1.grownBy w2 u1.ownBlock) (hv:∀g,u1.ownBlock=some g->wI.heap.size+1<=g):lF w0 wI (w2.setCell ⟨ga,2,none⟩ v) g ga cv L/\w2.heap[ga]?=some (.cells #[.int .i64 a.valid,u0,u1] 39 (0,0)):=by
 have hp:=h.pl;have hlow:=h.low;have h0:=h.cur.1;obtain⟨hS,U9,Va,hk,hq,hs,hi⟩:=h.acc;rw[hu] at hk;simp only[Option.some.injEq,Obj.cells.injEq,Array.mk.injEq,List.cons.injEq,true_and,and_true] at hk;obtain⟨rfl,rfl⟩:=hk;have hown:∀q,u1.ownBlock=some q->¬S q/\Ty w q 3:=λq e=>by
  rcases hs with⟨rfl,-⟩ | ⟨q',cap',cur,cs,fs,rfl,hh,-,-,-,hn,-⟩
  ·cases e
  ·simp only[Value.ownBlock,Option.some.injEq] at e
   subst e;exact⟨hn.1,_,_,hh⟩
 have hoth:∀k,k < w.heap.size->u1.ownBlock≠some k->w2.heap[k]?=w.heap[k]?:=λk h1 h2=>(hG.block k (Nat.lt_of_lt_of_le h1 hb.size) λe=>h2 e.symm).trans (hb.block k h1);have hga:w2.heap[ga]?=some (.cells #[.int .i64 a.valid,u0,u1] 39 (0,0)):=(hoth ga (lt_of_heap hu) λe=>by obtain⟨cs,fz,hT⟩:=(hown _ e).2;exact dX hT ⟨_,_,hu⟩ (by decide)).trans hu;have hset:∀k,k≠ga->(w2.setCell ⟨ga,2,none⟩ v).heap[k]?=w2.heap[k]?:=λk h=>Below.heap_setCell _ _ _ _ h;have hst:∀t,t≠39->t≠3->aY w (w2.setCell ⟨ga,2,none⟩ v) t:=λt h1 h2 k hk=>by
  obtain⟨cs,fz,hk⟩:=hk;refine(hset k λe=>by subst e;exact dX hk ⟨_,_,hu⟩ h1).trans (hoth k (lt_of_heap hk) λe=>?_);exact dX hk (hown _ e).2 h2
 have hz:w.heap.size<=w2.heap.size:=Nat.le_trans hb.size hG.size;have hne:=h.ne hg
 refine⟨⟨⟨a.valid,a.boxes,a.seen ++ [x]⟩,S,u0,v,aD (i:=2) (v:=v) hga,J8 (J7 hq) (λk h1 h2=>(hset k λe=>hS (e ▸ h1)).trans (hoth k h2 λe=>(hown _ e).1 h1)) (hst _ (by decide) (by decide)) (hst _ (by decide) (by decide)),Ow.mono (jc hO λk _ _ hT=>hset k λe=>by subst e;obtain⟨cs,fz,hT⟩:=hT;exact dX hT ⟨_,_,hga⟩ (by decide)) λ_ _=>trivial,hi,h.inv.b,hlow,hp,⟨h.cur.but (K:=λk=>k=ga\/u1.ownBlock=some k) (by rw[dW];exact hz) (hG.os.trans hb.os) (hG.tape.trans hb.tape) (hG.output.trans hb.output) (λk h1 h2=>(hset k λe=>h2 (.inl e)).trans (hoth k h1 λe=>h2 (.inr e))) (λh=>h.elim hne.1 λh=>by have:=hv _ h;omega) (λk h=>h.elim (λh=>by omega) λh=>by have:=hv _ h;omega),zQ (K:=λk=>k=ga\/u1.ownBlock=some k) h.gb (by rw[dW];exact hz) (hG.os.trans hb.os) (hG.tape.trans hb.tape) (hG.output.trans hb.output) (λk h1 h2=>(hset k λe=>h2 (.inl e)).trans (hoth k h1 λe=>h2 (.inr e))) (λk h=>h.elim (λh=>by omega) λh=>by have:=hv _ h;omega)⟩,?_⟩,hga⟩
 exact(hset _ (by omega)).trans ((hoth _ (lt_of_heap h.res) λe=>by have:=hv _ e;omega).trans h.res)
end
section
variable {w w' : World} {S : Nat -> Prop} {v : Value}
/-- .. of one box of a list. -/
theorem agx {l:List aB} (h:iT w S v l) {i:Nat} {b:aB} (hb:l[i]?=some b) {g n cap q off m c:Nat} (hv:v=.slice (some ⟨g,0,none⟩) n cap) (hgc:w.cell? ⟨g,i * 7+5,none⟩=some (.slice (some ⟨q,off,none⟩) m c)) (hm:m=b.au.length) (hc:m+1<=c) {x0 x1:Int} (i0:av x0) (i1:av x1) :
  S q/\S g/\q≠g/\Ty w q 115/\Ty w g 70/\tY (((w.setCell ⟨q,off+m * 2,none⟩ (.int .i64 x0)).setCell ⟨q,off+m * 2+1,none⟩ (.int .i64 x1)).setCell ⟨g,i * 7+5,none⟩ (.slice (some ⟨q,off,none⟩) (m+1) c)) S v (l.set i ⟨b.name,b.valid,b.next,b.seq,b.ah,b.au ++ [⟨x0,x1⟩],b.lost⟩):=by
 have hi:i < l.length:=(gs1 hb).1;rcases h with⟨-,h⟩ | ⟨g',cap',cur,cs,fs,hv',hh,h1,h2,h3,h4,h5,h6,h7⟩
 ·subst h;simp at hb
 rw[hv'] at hv;simp only[Value.slice.injEq,Option.some.injEq,Addr.mk.injEq,and_true] at hv;obtain⟨rfl,-,-⟩:=hv;have hty:Ty w g' 70:=⟨_,_,hh⟩;obtain⟨⟨u0,u1,u2,ec,r,ms,gq,kk⟩,hl,hcell⟩:=h5 i b hb;have e2:u2=.slice (some ⟨q,off,none⟩) m c:=by
  have:=hcell 5 u2 (by rw[ec];rfl);rw[cell_of_row w g' _ cur _ (0,0) hh,this] at hgc;exact Option.some.inj hgc
 subst e2;obtain⟨J9,agy,hgh,-,-⟩:=gq.2 ⟨q,off,none⟩ m c rfl;simp only at J9 hgh;have Gb:Ty w q 115:=⟨_,_,hgh⟩;have hqg:q≠g':=(h6 i q hi J9).2;obtain⟨W1,hW1⟩:∃W1,W1=(w.setCell ⟨q,off+m * 2,none⟩ (.int .i64 x0)).setCell ⟨q,off+m * 2+1,none⟩ (.int .i64 x1):=⟨_,rfl⟩;have hgr:=afF (x0:=x0) (x1:=x1) gq hm hc i0 i1;rw[← hW1] at hgr ⊢;have k1:∀k,k≠q->W1.heap[k]?=w.heap[k]?:=λk h=>by rw[hW1,Below.heap_setCell _ _ _ _ (show k≠q from h),Below.heap_setCell _ _ _ _ (show k≠q from h)]
 have k2:∀k,k≠g'->(W1.setCell ⟨g',i * 7+5,none⟩ (.slice (some ⟨q,off,none⟩) (m+1) c)).heap[k]?=W1.heap[k]?:=λk h=>Below.heap_setCell _ _ _ _ h;have k3:∀k,k≠q->k≠g'->(W1.setCell ⟨g',i * 7+5,none⟩ (.slice (some ⟨q,off,none⟩) (m+1) c)).heap[k]?=w.heap[k]?:=λk h h'=>(k2 k h').trans (k1 k h);have hst:∀t,t≠115->t≠70->aY w (W1.setCell ⟨g',i * 7+5,none⟩ (.slice (some ⟨q,off,none⟩) (m+1) c)) t:=λt t1 t2 k hk=>by
  obtain⟨cs,fz,hk⟩:=hk;exact k3 k (λe=>by subst e;exact dX hk Gb t1) (λe=>by subst e;exact dX hk hty t2)
 refine⟨(h6 i q hi J9).1,h4,hqg,Gb,hty,.inr ⟨g',cap',_,λj=>if j=i then (cs i).set 5 (.slice (some ⟨q,off,none⟩) (m+1) c) else cs j,fs,by rw[List.length_set];exact hv',aD ((k1 g' (Ne.symm hqg)).trans hh),by rw[List.length_set];exact h1,h2,by rw[Array.size_setIfInBounds];exact h3,h4,λj y hy=>?_,λj k hj=>h6 j k (by simpa using hj),λj m k hj hm=>h7 j m k (by simpa using hj) (by simpa using hm)⟩⟩
 by_cases e:j=i
 ·subst e
  rw[List.getElem?_set_self hi] at hy;cases hy
  simp only[if_pos];refine⟨⟨u0,u1,_,by rw[ec];rfl,.inl (lM r (hst _ (by decide) (by decide))),?_,W9 hgr λk hk _=>k2 k (h6 j k hi hk).2,kk⟩,by rw[List.length_set];exact hl,λk z hz=>?_⟩
  ·rcases ms with ms | ⟨mg,mc,agz,mcs,mfs,mv,mh,m1,m2,m3,m4,m5,m6,m7⟩
   ·exact .inl ms
   ·exact .inr ⟨mg,mc,agz,mcs,mfs,mv,(k3 mg (λe=>by subst e;exact dX mh Gb (by decide)) (h6 j mg hi m4).2).trans mh,m1,m2,m3,m4,λp y hy=>⟨vB (m5 p y hy).1 (hst _ (by decide) (by decide)),(m5 p y hy).2⟩,m6,m7⟩
  ·by_cases ek:k=5
   ·subst ek
    rw[List.getElem?_set_self (by omega)] at hz;cases hz
    rw[Array.getElem?_setIfInBounds_self_of_lt (by omega)]
   ·rw[List.getElem?_set_ne (Ne.symm ek)] at hz
    rw[Array.getElem?_setIfInBounds_ne (by omega)];exact hcell k z hz
 ·rw[List.getElem?_set_ne (Ne.symm e)] at hy
  simp only[if_neg e];obtain⟨⟨v0,v1,v2,ec',r',ms',gq',kk'⟩,q1,q2⟩:=h5 j y hy;have hj:=(gs1 hy).1;have hfs:∀k,fs j k->k < w.heap.size->(W1.setCell ⟨g',i * 7+5,none⟩ (.slice (some ⟨q,off,none⟩) (m+1) c)).heap[k]?=w.heap[k]?:=λk hk _=>k3 k (λe'=>by subst e';exact h7 j i k hj hi e hk J9) (h6 j k hj hk).2;refine⟨⟨v0,v1,v2,ec',.inl (lM r' (hst _ (by decide) (by decide))),zo ms' hfs (hst _ (by decide) (by decide)),W9 gq' hfs,kk'⟩,q1,λk z hz=>?_⟩;have hk:k < 7:=by have:=(gs1 hz).1;omega
  rw[Array.getElem?_setIfInBounds_ne (by rcases Nat.lt_or_gt_of_ne e with e | e <;> omega)];exact q2 k z hz
end
section
variable {w0 wI w w' : World} {g ga gb cap i : Nat} {cv : Value} {L : List Int} {a a' : aT} {b b' : aB} {S S' : Nat -> Prop}
theorem fF.room (h:fF w0 wI w g ga cv L a S) (hg:g < wI.heap.size) (hb:a.boxes[i]?=some b) (hx:jA w ga 1 (.slice (some ⟨gb,0,none⟩) a.boxes.length cap)) {q off m c:Nat} (hgc:w.cell? ⟨gb,i * 7+5,none⟩=some (.slice (some ⟨q,off,none⟩) m c)) (hm:m=b.au.length) (hc:m+1<=c) {x0 x1:Int} (i0:av x0) (i1:av x1) :
  lF w0 wI (((w.setCell ⟨q,off+m * 2,none⟩ (.int .i64 x0)).setCell ⟨q,off+m * 2+1,none⟩ (.int .i64 x1)).setCell ⟨gb,i * 7+5,none⟩ (.slice (some ⟨q,off,none⟩) (m+1) c)) g ga cv L:=by
 have hp:=h.pl;have hn:=h.ne hg;have hlow:=h.low;have h0:=h.cur.1;have hbx:=h.inv.2 b (List.mem_of_getElem? hb);obtain⟨Ga,u0,u1,hk,hbq,hs,hi⟩:=h.acc;have e0:u0=.slice (some ⟨gb,0,none⟩) a.boxes.length cap:=by
  have:=(fU hk).2.1;rw[show w.cell? ⟨ga,1,none⟩=_ from hx] at this;exact(Option.some.inj this).symm
 obtain⟨Ka,jv,-,Gb,htg,hW⟩:=agx hbq hb e0 hgc hm hc i0 i1;have hoth:∀k,k≠q->k≠gb->(((w.setCell ⟨q,off+m * 2,none⟩ (.int .i64 x0)).setCell ⟨q,off+m * 2+1,none⟩ (.int .i64 x1)).setCell ⟨gb,i * 7+5,none⟩ (.slice (some ⟨q,off,none⟩) (m+1) c)).heap[k]?=w.heap[k]?:=λk h1 h2=>by rw[Below.heap_setCell _ _ _ _ (show k≠gb from h2),Below.heap_setCell _ _ _ _ (show k≠q from h1),Below.heap_setCell _ _ _ _ (show k≠q from h1)]
 refine⟨eY a i ⟨b.name,b.valid,b.next,b.seq,b.ah,b.au ++ [(⟨x0,x1⟩:bE)],b.lost⟩,S,u0,u1,(hoth ga (λe=>Ga (e ▸ Ka)) (λe=>Ga (e ▸ jv))).trans hk,hW,Ow.mono (jc hs λk _ _ hT=>hoth k (λe=>by subst e;obtain⟨cs,fz,hT⟩:=hT;exact dX hT Gb (by decide)) (λe=>by subst e;obtain⟨cs,fz,hT⟩:=hT;exact dX hT htg (by decide))) λ_ _=>trivial,hi,h.inv.b.set ⟨by have:=hbx.1;simp only;omega,hbx.2.1,hbx.2.2.1,by have:=hbx.2.2.2;simp;omega⟩,hlow,hp,⟨h.cur.but (K:=S) (by simp only[dW];exact Nat.le_refl _) rfl rfl rfl (λk _ h2=>hoth k (λe=>h2 (e ▸ Ka)) (λe=>h2 (e ▸ jv))) hn.2 (λk hk=>by have:=hlow k hk;omega),zQ (K:=S) h.gb (by simp only[dW];exact Nat.le_refl _) rfl rfl rfl (λk _ h2=>hoth k (λe=>h2 (e ▸ Ka)) (λe=>h2 (e ▸ jv))) (λk hk=>by have:=hlow k hk;omega)⟩,(hoth _ (λe=>by have:=hlow _ (e ▸ Ka);omega) (λe=>by have:=hlow _ (e ▸ jv);omega)).trans h.res⟩
/-- .. put behind a copy. -/
theorem fF.grow {w1 w2:World} {v:Value} {gs:List bE} (h:fF w0 wI w g ga cv L a S) (hg:g < wI.heap.size) (hb:a.boxes[i]?=some b) (hx:jA w ga 1 (.slice (some ⟨gb,0,none⟩) a.boxes.length cap)) (hw:Below w.heap.size w w2) (hO:lI w2 (λk=>w.heap.size<=k) v gs) (hl:gs.length<=41):lF w0 wI (w2.setCell ⟨gb,i * 7+5,none⟩ v) g ga cv L:=by
 have hbx:=h.inv.2 b (List.mem_of_getElem? hb);refine h.xU hg hb hx (b':=⟨b.name,b.valid,b.next,b.seq,b.ah,gs,b.lost⟩) (λS1 hP=>?_) ⟨by have:=hbx.1;simp only;omega,hbx.2.1,hbx.2.2.1,hl⟩;have hP2:=(hP.below hw).mono (S':=λk=>S1 k\/w.heap.size<=k) λ_ h=>.inl h;exact⟨_,hP2.M4 ((UR hO).mono λ_ h=>.inr h),(oH hw).trans (mR (S':=S1) hP2 (by omega)) (λ_ h=>.inl h),λ_ h=>h⟩
end
/- A record that is drawn: als of package spec. -/
/-- Where it is for a book it is plain. -/
def XJ (house:Bool) (cs:List Value) (r:RecD):Prop:=house=false->∃kd us n:Int,av kd/\av us/\av n/\r=rA kd us n/\cs=[.int .i64 kd,.int .i64 us,.int .i64 n,.int .i64 0,.slice none 0 0,.slice none 0 0,.int .i64 0,.int .i64 0,.int .i64 0,.int .i64 0,.slice none 0 0,.int .i64 0,.slice none 0 0,.slice none 0 0]
/-- A variable's world: the record in k, the result in q. -/
structure mZ (w0 w wx:World) (g:Nat) (cv:Value) (L:List Int) (k:Nat) (r:RecD):Prop where
 cur:aS w0 wx g cv L
 gb:w.grownBy wx (some g)
 rp:dZ wx k r
 res:wx.heap[w.heap.size]?=some (.cells #[.int .i64 0,.int .i64 0,.int .i64 0,.int .i64 0,.slice none 0 0,.slice none 0 0,.int .i64 0,.int .i64 0,.int .i64 0,.int .i64 0,.slice none 0 0,.int .i64 0,.slice none 0 0,.slice none 0 0] 41 (0,0))
section
variable {w0 w w1 wx wy : World} {g k : Nat} {cv : Value} {L : List Int} {r r' : RecD}
theorem mZ.draw (h:mZ w0 w wx g cv L k r) (hg:g < w.heap.size) (hk:w.heap.size < k) (hC:aS w0 wy g cv L) (hG:wx.grownBy wy (some g)):mZ w0 w wy g cv L k r :=
 ⟨hC,nM h.gb hG,h.rp.gb hG h.cur.ext (by omega),(hG.block _ (lt_of_heap h.res) (by simp;omega)).trans h.res⟩
theorem mZ.below (h:mZ w0 w wx g cv L k r) (hB:Below wx.heap.size wx wy):mZ w0 w wy g cv L k r:=⟨h.cur.below hB,eX h.gb hB,h.rp.below hB,aA hB h.res⟩
theorem mZ.put (h:mZ w0 w wx g cv L k r) (hg:g < w.heap.size) (hk:w.heap.size < k) (hB:Below k wx wy) (hr:dZ wy k r'):mZ w0 w wy g cv L k r' :=
 ⟨vk h.cur hB (by omega),wZ h.gb hB (by omega),hr,(hB.block _ (by omega)).trans h.res⟩
end
theorem XK (w0 w:World) (g:Nat) (cv:Value) (L:List Int) (house:Bool) (hc:aS w0 w g cv L) :
  Calls Tryz.prog 9 #[.pointer (some ⟨g,0,none⟩),.bool house] w λe w'=>∃cs:List Value,e=.returned (.agg cs.toArray)/\∃r:RecD,oG w' cs r/\aS w0 w' g cv L/\w.grownBy w' (some g)/\XJ house cs r:=by
 have hgl:=hc.lt.2;have AB:Below w.heap.size w (w.alloc (.cells #[.int .i64 0,.int .i64 0,.int .i64 0,.int .i64 0,.slice none 0 0,.slice none 0 0,.int .i64 0,.int .i64 0,.int .i64 0,.int .i64 0,.slice none 0 0,.int .i64 0,.slice none 0 0,.slice none 0 0] 41)):=bn _ _;have HC:=ay (hc.below AB);have HG:=ay (eX (World.grownBy.refl w (some g)) AB);have HK:=ay (aW w (.cells #[.int .i64 0,.int .i64 0,.int .i64 0,.int .i64 0,.slice none 0 0,.slice none 0 0,.int .i64 0,.int .i64 0,.int .i64 0,.int .i64 0,.slice none 0 0,.int .i64 0,.slice none 0 0,.slice none 0 0] 41))
 have hs1:(w.alloc (.cells #[.int .i64 0,.int .i64 0,.int .i64 0,.int .i64 0,.slice none 0 0,.slice none 0 0,.int .i64 0,.int .i64 0,.int .i64 0,.int .i64 0,.slice none 0 0,.int .i64 0,.slice none 0 0,.slice none 0 0] 41)).heap.size=w.heap.size+1:=by simp
 clear hc AB
 go_enter Tryz.func9,Tryz.ntmps9;go_upto_region 1 with fail
 generalize (w.alloc (.cells #[.int .i64 0,.int .i64 0,.int .i64 0,.int .i64 0,.slice none 0 0,.slice none 0 0,.int .i64 0,.int .i64 0,.int .i64 0,.int .i64 0,.slice none 0 0,.int .i64 0,.slice none 0 0,.slice none 0 0] 41))=w1 at HC HG HK hs1 ⊢;go_wp2_with fail
 refine(iH w0 w1 g cv L 3 HC.out (by omega) (by omega)).mono ?_;rintro e w2 ⟨us,rfl,hu0,hu1,C2,G2⟩;have vP:=ay C2;have HG2:=ay (nM HG.out G2);have jJ:=ay ((G2.block _ (lt_of_heap HK.out) (by simp;omega)).trans HK.out);have hz2:=G2.size;clear HC HG HK C2 G2;go_wp2_with fail
 refine(iH w0 w2 g cv L 4 vP.out (by omega) (by omega)).mono ?_;rintro e w3 ⟨n,rfl,hn0,hn1,C3,G3⟩;have qd:Below w3.heap.size w3 (w3.alloc (.cells #[.int .i64 0,.int .i64 us,.int .i64 (1+n),.int .i64 0,.slice none 0 0,.slice none 0 0,.int .i64 0,.int .i64 0,.int .i64 0,.int .i64 0,.slice none 0 0,.int .i64 0,.slice none 0 0,.slice none 0 0] 41)):=bn _ _;have HR3:=aW w3 (.cells #[.int .i64 0,.int .i64 us,.int .i64 (1+n),.int .i64 0,.slice none 0 0,.slice none 0 0,.int .i64 0,.int .i64 0,.int .i64 0,.int .i64 0,.slice none 0 0,.int .i64 0,.slice none 0 0,.slice none 0 0] 41)
 have HS:Hid (mZ w0 w (w3.alloc (.cells #[.int .i64 0,.int .i64 us,.int .i64 (1+n),.int .i64 0,.slice none 0 0,.slice none 0 0,.int .i64 0,.int .i64 0,.int .i64 0,.int .i64 0,.slice none 0 0,.int .i64 0,.slice none 0 0,.slice none 0 0] 41)) g cv L w3.heap.size (rA 0 us (1+n))):=⟨C3.below qd,eX (nM HG2.out G3) qd,MP HR3 ⟨by omega,by omega⟩ ⟨by omega,by omega⟩ ⟨by omega,by omega⟩,aA qd ((G3.block _ (lt_of_heap jJ.out) (by simp;omega)).trans jJ.out)⟩;have HX:=ay HR3;have hz3:=G3.size;clear vP HG2 jJ C3 G3 qd HR3;go_upto_region 2 with fail
 generalize w3.alloc (.cells #[.int .i64 0,.int .i64 us,.int .i64 (1+n),.int .i64 0,.slice none 0 0,.slice none 0 0,.int .i64 0,.int .i64 0,.int .i64 0,.int .i64 0,.slice none 0 0,.int .i64 0,.slice none 0 0,.slice none 0 0] 41)=w4 at HS HX ⊢;obtain⟨k,hk⟩:∃k,k=w3.heap.size:=⟨_,rfl⟩;rw[← hk] at HS HX ⊢;have hk1:w.heap.size < k:=by omega
 clear hk hz3 hz2 hs1 w1 w2 w3;cases house with
 | false =>
  go_wp2_with fail
  refine(iH w0 w4 g cv L 3 HS.out.cur (by omega) (by omega)).mono ?_;rintro e w5 ⟨x,rfl,hx0,hx1,C5,G5⟩;have fq:=ay ((G5.block _ (lt_of_heap HX.out) (by simp;omega)).trans HX.out);have uD:=ay (HS.out.draw hgl hk1 C5 G5);obtain⟨r0,-,r2,-,-,-,-,-,-,-,-,-,-,-,lk⟩:=yH fq.out;have fk:=(aO fq.out).1;have lS:=ay (aD (i:=2) (v:=.int .i64 0) (aD (i:=0) (v:=.int .i64 (6+x)) fq.out));have W6:Below k w5 ((w5.setCell ⟨k,0,none⟩ (.int .i64 (6+x))).setCell ⟨k,2,none⟩ (.int .i64 0)):=((Below.refl k w5).setCell (p:=⟨k,0,none⟩) (Nat.le_refl _) _).setCell (p:=⟨k,2,none⟩) (Nat.le_refl _) _
  have jB:=ay (uD.out.put hgl hk1 W6 (MP (kd:=6+x) (us:=us) (n:=0) lS.out ⟨by omega,by omega⟩ ⟨by omega,by omega⟩ ⟨by omega,by omega⟩));clear HS HX C5 G5 fq uD W6
  go_upto_if 21 with fail
  clear r0 r2 fk lk;generalize (w5.setCell ⟨k,0,none⟩ (.int .i64 (6+x))).setCell ⟨k,2,none⟩ (.int .i64 0)=w6 at jB lS ⊢
  go_cut [] (λwx=>∃kd n':Int,av kd/\av n'/\Hid (wx.heap[k]?=some (.cells #[.int .i64 kd,.int .i64 us,.int .i64 n',.int .i64 0,.slice none 0 0,.slice none 0 0,.int .i64 0,.int .i64 0,.int .i64 0,.int .i64 0,.slice none 0 0,.int .i64 0,.slice none 0 0,.slice none 0 0] 41 (0,0)))/\Hid (mZ w0 w wx g cv L k (rA kd us n')))
  case first =>
   cases hq:((6+x:Int) == 6) with
   | true =>
    go_wp2_with fail
    refine(iH w0 _ g cv L 3 jB.out.cur (by omega) (by omega)).mono ?_;rintro e w7 ⟨y,rfl,hy0,hy1,C7,G7⟩;have aX:=ay ((G7.block k (lt_of_heap lS.out) (by simp;omega)).trans lS.out);have bQ:=ay (jB.out.draw hgl hk1 C7 G7);have jd:=ay (aD (i:=2) (v:=.int .i64 y) aX.out);have lG:=ay (bQ.out.put hgl hk1 ((Below.refl k w7).setCell (p:=⟨k,2,none⟩) (Nat.le_refl _) (.int .i64 y)) (MP (kd:=6+x) (us:=us) (n:=y) jd.out ⟨by omega,by omega⟩ ⟨by omega,by omega⟩ ⟨by omega,by omega⟩));have lk7:=lt_of_heap aX.out;have fk7:=(aO aX.out).1;obtain⟨-,-,r2,-⟩:=oC aX.out;clear jB lS aX bQ C7 G7;go_wp2;go_meet
    case rel=>exact⟨6+x,y,⟨by omega,by omega⟩,⟨by omega,by omega⟩,jd,lG⟩
   | false =>
    go_wp2;go_meet
    case rel=>exact⟨6+x,0,⟨by omega,by omega⟩,⟨by omega,by omega⟩,lS,jB⟩
  case rest =>
  obtain⟨kd,n',i0,i1,HX,HS⟩:=hcut;have HU:Hid (av us):=⟨by omega,by omega⟩;have qN:Hid (oG wc [.int .i64 kd,.int .i64 us,.int .i64 n',.int .i64 0,.slice none 0 0,.slice none 0 0,.int .i64 0,.int .i64 0,.int .i64 0,.int .i64 0,.slice none 0 0,.int .i64 0,.slice none 0 0,.slice none 0 0] (rA kd us n')):=⟨rfl,by intro v hv;simp only[List.mem_cons,List.not_mem_nil,or_false] at hv;rcases hv with rfl | rfl | rfl | rfl | rfl | rfl | rfl | rfl | rfl | rfl | rfl | rfl | rfl | rfl <;> rfl,MO wc i0 HU.out i1⟩
  have XL:Hid (XJ false [.int .i64 kd,.int .i64 us,.int .i64 n',.int .i64 0,.slice none 0 0,.slice none 0 0,.int .i64 0,.int .i64 0,.int .i64 0,.int .i64 0,.slice none 0 0,.int .i64 0,.slice none 0 0,.slice none 0 0] (rA kd us n')):=λ_=>⟨kd,us,n',i0,HU.out,i1,rfl,rfl⟩;obtain⟨cs,hcs⟩:∃cs:List Value,cs=[.int .i64 kd,.int .i64 us,.int .i64 n',.int .i64 0,.slice none 0 0,.slice none 0 0,.int .i64 0,.int .i64 0,.int .i64 0,.int .i64 0,.slice none 0 0,.int .i64 0,.slice none 0 0,.slice none 0 0]:=⟨_,rfl⟩;have oN:Hid (wc.heap[k]?=some (.cells cs.toArray 41 (0,0))):=by rw[hcs];exact HX.out
  rw[← hcs] at qN XL;have HC:=ay HS.out.cur;have HG:=ay HS.out.gb;have HK:=ay HS.out.res;clear hcs HX HS jB lS;obtain⟨f0,f1,f2,f3,f4,f5,f6⟩:=qN.out.fin oN.out HK.out rfl;have HF:=ay (And.intro f2 (And.intro f3 (And.intro (vk HC.out (tZ w.heap.size (Nat.le_refl _) cs 0 wc (Below.refl _ _)) hgl) (wZ HG.out (tZ w.heap.size (Nat.le_refl _) cs 0 wc (Below.refl _ _)) (Nat.le_refl _)))));go_upto_region 7 with fail
  refine wp_region_list ?_;refine wpList_load_mid rfl 41 (.tmp 5) rfl k 0 rfl cs _ f0 Tryz.underlying41 rfl f4 ?_;refine wpList_store_mid rfl 41 (.tmp 4) (.tmp 25) rfl w.heap.size 0 cs.toArray rfl rfl f1 f5 f6 ?_;clear f0 f1 f2 f3 qN oN HK HC HG;generalize wc.setCells w.heap.size 0 cs.toArray.toList=w9 at HF ⊢;go_wp2;refine bodyPost_ret (results_cell_row Tryz.results9 _ _ (w.heap.size) _ _ _ _ rfl HF.out.1 Tryz.underlying41 rfl f5) rfl ⟨cs,rfl,_,HF.out.2.1,HF.out.2.2.1,HF.out.2.2.2,XL.out⟩
 | true =>
  have AB:Below w4.heap.size w4 (w4.alloc (.cells #[.int .i64 0,.int .i64 0,.int .i64 0,.int .i64 0,.int .i64 1,.int .i64 2,.int .i64 3,.int .i64 4,.int .i64 5] 3)):=bn _ _;have HI:Hid (jD (w4.alloc (.cells #[.int .i64 0,.int .i64 0,.int .i64 0,.int .i64 0,.int .i64 1,.int .i64 2,.int .i64 3,.int .i64 4,.int .i64 5] 3)) (.slice (some ⟨w4.heap.size,0,none⟩) 9 9) g 9 0 5):=by simpa [Hid] using ko w4 g [0,0,0,0,1,2,3,4,5] 3 0 5 HS.out.cur.lt.2 (by simp) (by simp) (by intro x hx;simp at hx;omega)
  have HS2:=ay (HS.out.below AB);clear HS HX AB;go_wp2_with fail
  refine(kg w0 _ g 9 _ _ L 0 5 HS2.out.cur HI.out).mono ?_;rintro e w5 ⟨x,rfl,hx0,hx1,C5,G5⟩;have uD:=ay (HS2.out.draw hgl hk1 C5 G5);clear HS2 HI C5 G5;obtain⟨a0,n0,c0,a1,n1,c1,a2,n2,c2,a3,n3,c3,a4,n4,c4,fq,-⟩:=uD.out.rp;obtain⟨r0,-,-,-,-,-,-,-,-,-,-,-,-,-,lk⟩:=yH fq;have fk:=(aO fq).1;have jB:=ay (uD.out.put hgl hk1 ((Below.refl k w5).setCell (p:=⟨k,0,none⟩) (Nat.le_refl _) (.int .i64 x)) (uD.out.rp.set0 (x:=x) ⟨by omega,by omega⟩));clear fq uD;go_upto_region 9 with fail
  clear r0 fk lk;generalize w5.setCell ⟨k,0,none⟩ (.int .i64 x)=w6 at jB ⊢
  go_cut [31] (λs31 wx=>s31=.int .i64 x/\∃r,Hid (mZ w0 w wx g cv L k r))
  case first =>
   obtain⟨a0,n0,c0,a1,n1,c1,a2,n2,c2,a3,n3,c3,a4,n4,c4,lS,-⟩:=jB.out.rp;have q0:w6.cell? ⟨k,0,none⟩=some (.int .i64 x):=(oC lS).1;have q1:=lt_of_heap lS;clear lS;go_wp2;go_meet
   case rel=>exact⟨rfl,_,jB⟩
  case rest =>
  clear jB;obtain⟨rfl,r5,jB⟩:=hcut;clear w6
  rename World=>w6
  go_step
  go_cut [] (λwx=>∃r,Hid (mZ w0 w wx g cv L k r))
  case first =>
   obtain rfl | hx:x=0\/x≠0:=by omega
   ·go_wp2_with fail
    refine(MI w0 _ g cv L jB.out.cur).mono ?_;rintro e w7 ⟨u,rfl,c,hcv,-,C7,G7,hW⟩;have HT:=ay (UA hW hcv);obtain⟨b0,m0,d0,b1,m1,d1,b2,m2,d2,rfl⟩:=HT.out.form;have bQ:=ay (jB.out.draw hgl hk1 C7 G7);clear hcv C7 G7 hW jB;obtain⟨a0,n0,c0,a1,n1,c1,a2,n2,c2,a3,n3,c3,a4,n4,c4,aX,-⟩:=bQ.out.rp;obtain⟨-,-,-,r3,r4,r5,r6,r7,r8,r9,lg,-,-,-,lk⟩:=yH aX;have fk:=(aO aX).1
    have lG:=ay (bQ.out.put hgl hk1 (((((((((Below.refl k w7).setCell (p:=⟨k,3,none⟩) (Nat.le_refl _) (.int .i64 c.k)).setCell (p:=⟨k,4,none⟩) (Nat.le_refl _) (.slice b0 m0 d0)).setCell (p:=⟨k,5,none⟩) (Nat.le_refl _) (.slice b1 m1 d1)).setCell (p:=⟨k,6,none⟩) (Nat.le_refl _) (.int .i64 c.uid)).setCell (p:=⟨k,7,none⟩) (Nat.le_refl _) (.int .i64 c.mode)).setCell (p:=⟨k,8,none⟩) (Nat.le_refl _) (.int .i64 c.fl)).setCell (p:=⟨k,9,none⟩) (Nat.le_refl _) (.int .i64 c.si)).setCell (p:=⟨k,10,none⟩) (Nat.le_refl _) (.slice b2 m2 d2)) (bQ.out.rp.UE HT.out));clear aX bQ HT
    go_upto_region 12 with fail
    clear r3 r4 r5 r6 r7 r8 r9 lg lk fk;generalize ((((((((w7.setCell ⟨k,3,none⟩ (.int .i64 c.k)).setCell ⟨k,4,none⟩ (.slice b0 m0 d0)).setCell ⟨k,5,none⟩ (.slice b1 m1 d1)).setCell ⟨k,6,none⟩ (.int .i64 c.uid)).setCell ⟨k,7,none⟩ (.int .i64 c.mode)).setCell ⟨k,8,none⟩ (.int .i64 c.fl)).setCell ⟨k,9,none⟩ (.int .i64 c.si)).setCell ⟨k,10,none⟩ (.slice b2 m2 d2))=w8 at lG ⊢;go_wp2_with fail
    refine(iH w0 _ g cv L 30 lG.out.cur (by omega) (by omega)).mono ?_;rintro e w9 ⟨y,rfl,hy0,hy1,C9,G9⟩;have Kc:=ay (lG.out.draw hgl hk1 C9 G9);clear lG C9 G9;obtain⟨a0,n0,c0,a1,n1,c1,a2,n2,c2,a3,n3,c3,a4,n4,c4,mK,-⟩:=Kc.out.rp;obtain⟨-,-,r2,-,-,-,-,-,-,-,-,-,-,-,lk⟩:=yH mK;have fk:=(aO mK).1;have agH:=ay (Kc.out.put hgl hk1 ((Below.refl k w9).setCell (p:=⟨k,2,none⟩) (Nat.le_refl _) (.int .i64 (1+y))) (Kc.out.rp.set2 (x:=1+y) ⟨by omega,by omega⟩));clear mK Kc;go_wp2;go_meet
    case rel=>exact⟨_,agH⟩
   ·obtain rfl | hx3:x=3\/x≠3:=by omega
    ·go_wp2_with fail
     refine(XF w0 _ g cv L jB.out.cur).mono ?_;rintro e w7 ⟨a,S,b0,b1,rfl,hq,hs,hi,-,-,C7,G7,-⟩;have HT:=ay (agv (J7 hq) (Ow.mono hs λ_ _=>trivial) hi);obtain⟨b3,m3,d3,b4,m4,d4,e⟩:=HT.out.form;simp only[Value.agg.injEq,Array.mk.injEq,List.cons.injEq,true_and,and_true] at e;obtain⟨rfl,rfl⟩:=e;have bQ:=ay (jB.out.draw hgl hk1 C7 G7);clear hq hs hi C7 G7 jB;obtain⟨a0,n0,c0,a1,n1,c1,a2,n2,c2,a3,n3,c3,a4,n4,c4,aX,-⟩:=bQ.out.rp;obtain⟨-,-,-,-,-,-,-,-,-,-,-,zf,zh,BQ,lk⟩:=yH aX;have fk:=(aO aX).1
     have lG:=ay (bQ.out.put hgl hk1 ((((Below.refl k w7).setCell (p:=⟨k,11,none⟩) (Nat.le_refl _) (.int .i64 a.valid)).setCell (p:=⟨k,12,none⟩) (Nat.le_refl _) (.slice b3 m3 d3)).setCell (p:=⟨k,13,none⟩) (Nat.le_refl _) (.slice b4 m4 d4)) (bQ.out.rp.UF HT.out));clear aX bQ HT;go_wp2;go_meet
     case rel=>exact⟨_,lG⟩
    ·go_wp2
     go_meet
     case rel=>exact⟨_,jB⟩
  case rest =>
  obtain⟨r,HS⟩:=hcut;obtain⟨cs,f,RC⟩:=HS.out.rp.cs;have qN:=ay RC;have oN:=ay f;have HC:=ay HS.out.cur;have HG:=ay HS.out.gb;have HK:=ay HS.out.res;clear f RC HS jB;obtain⟨f0,f1,f2,f3,f4,f5,f6⟩:=qN.out.fin oN.out HK.out rfl;have HF:=ay (And.intro f2 (And.intro f3 (And.intro (vk HC.out (tZ w.heap.size (Nat.le_refl _) cs 0 wc (Below.refl _ _)) hgl) (wZ HG.out (tZ w.heap.size (Nat.le_refl _) cs 0 wc (Below.refl _ _)) (Nat.le_refl _)))));go_upto_region 15 with fail
  refine wp_region_list ?_;refine wpList_load_mid rfl 41 (.tmp 5) rfl k 0 rfl cs _ f0 Tryz.underlying41 rfl f4 ?_;refine wpList_store_mid rfl 41 (.tmp 4) (.tmp 46) rfl w.heap.size 0 cs.toArray rfl rfl f1 f5 f6 ?_;clear f0 f1 f2 f3 qN oN HK HC HG;generalize wc.setCells w.heap.size 0 cs.toArray.toList=w9 at HF ⊢;go_wp2;refine bodyPost_ret (results_cell_row Tryz.results9 _ _ (w.heap.size) _ _ _ _ rfl HF.out.1 Tryz.underlying41 rfl f5) rfl ⟨cs,rfl,_,HF.out.2.1,HF.out.2.2.1,HF.out.2.2.2,λh=>by cases h⟩
end Go.Proofs.YtfabngnaejjcmaaGreatDoor
