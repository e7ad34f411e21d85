/- The proof's texts, part 37. -/
import Derived.Test.YtfabngnaejjcmaaGreatDoorTA
namespace Go.Proofs.YtfabngnaejjcmaaGreatDoor
open Go.RowKit
set_option linter.unusedVariables false
set_option linter.unusedSimpArgs false
set_option maxHeartbeats 8000000
set_option maxRecDepth 100000
/- What UQ of package spec does: every command, in one contract. -/
theorem agh (ga:Nat) (a:aT) (c:gP) (S:Nat->Prop) (v:Value) (w:World) (hp:aJ w S ga a) (hc:vJ w v c) (hcl:c.bx.length<=2000000/\c.tx.length<=2000000) (hsz:∀x ∈ a.boxes,bG x<=900000) (hbl:a.boxes.length<=2000000) :
  Calls Tryz.prog 41 #[.pointer (some ⟨ga,0,none⟩),v] w (jy w S ga (lY a c)):=by
 obtain⟨u0,u1,u2,rfl,h0,h1,h2,ik,hi⟩:=hc;obtain⟨x0,n0,m0,rfl⟩:=h0.bs.aP;obtain⟨x1,n1,m1,rfl⟩:=h1.bs.aP;obtain⟨x2,n2,m2,rfl⟩:=h2.bs.aP;obtain⟨k,bx,tt,uid,mode,fl,si,tx⟩:=c;simp only at h0 h1 h2 ik hi hcl ⊢;exact af6 ga a S k uid mode fl si bx tt tx x0 x1 x2 n0 n1 n2 m0 m1 m2 w hp h0 h1 h2 hi hcl hsz hbl _ rfl
/- What a drawn command and an account that is turned have in common: the draws of accounts. -/
section
variable {w0 wI w w' : World} {g ga : Nat} {S : Nat -> Prop} {cv u v : Value} {L l : List Int} {c : gP} {a : aT}
theorem nN.stay (h:nN w v l):qM w v l:=by
 intro w' hs ht;rcases h with⟨rfl,rfl⟩ | ⟨q,h⟩
 ·exact vQ w'
 ·refine(h.frame (ht q ?_)).bs
  obtain⟨-,cap,cur,fz,-,hh,-⟩:=h;exact⟨_,_,hh⟩
/-- A command that was drawn is read wherever the bytes stay. -/
theorem agi (h:Jo wI w u c) (hv:om w u c.k c.bx c.tt c.uid c.mode c.fl c.si c.tx):vJ w u c:=by
 obtain⟨a0,n0,c0,a1,n1,c1,v2,rfl,-,-,-,-,T,o0,o1⟩:=h;obtain⟨u0,u1,u2,-,-,-,-,r⟩:=hv;refine⟨_,_,_,rfl,o0.stay,o1.stay,nN.stay ?_,r⟩;rcases T with T | ⟨q,t,-⟩
 ·exact .inl T
 ·exact .inr ⟨q,t⟩
theorem aS.ty (h:aS w0 w g cv L):Ty w g 81:=by
 obtain⟨-,-,-,i,q,-,-,hh⟩:=h;exact⟨_,_,hh⟩
/-- What stays while the cursor draws. -/
theorem aS.stay {t:TypeId} (h:aS w0 w g cv L) (hG:w.grownBy w' (some g)) (hne:t≠81):aY w w' t:=by
 intro k hk;obtain⟨cs,fz,hh⟩:=hk;refine hG.block k (lt_of_heap hh) λe=>?_;cases e
 exact dX hh h.ty hne
theorem aJ.draw (h:aJ w S ga a) (hC:aS w0 w g cv L) (hG:w.grownBy w' (some g)) (hS:¬S g):aJ w' S ga a:=by
 have hga:ga≠g:=λe=>by
  subst e;obtain⟨cs,fz,hh⟩:=h.ty;exact dX hh hC.ty (by decide)
 exact h.qL hG.size (hG.block ga h.lt (by simpa using hga)) (λk hk hl=>hG.block k hl (by simp only[ne_eq,Option.some.injEq];exact λe=>hS (e ▸ hk))) (hC.stay hG (by decide)) (hC.stay hG (by decide)) (hC.stay hG (by decide))
/-- The cursor stays while the account is turned. -/
theorem aS.turns (h:aS w0 w g cv L) (hT:aI w w' S ga) (hg:g≠ga) (hS:¬S g) (h0:w0.heap.size<=ga) (hS0:∀k,S k->w0.heap.size<=k):aS w0 w' g cv L:=by
 obtain⟨h1,hb,h3,i,q,h4,h5,hh⟩:=h;obtain⟨t1,t2,-,-,t5,t6,t7,-⟩:=hT;have hs:=hb.size;refine⟨h1,⟨t5.trans hb.os,t6.trans hb.tape,t7.trans hb.output,Nat.le_trans hs t1,λk hk=>(t2 k (by omega) (by omega) (λh=>by have:=hS0 k h;omega)).trans (hb.block k hk)⟩,h3,i,q,h4,h5,(t2 g (lt_of_heap hh) hg hS).trans hh⟩
theorem Pw (h:wI.grownBy w (some g)) (hT:aI w w' S ga) (h0:wI.heap.size<=ga) (hS0:∀k,S k->wI.heap.size<=k):wI.grownBy w' (some g):=by
 obtain⟨t1,t2,-,-,t5,t6,t7,-⟩:=hT;have hs:=h.size;exact⟨t5.trans h.os,t6.trans h.tape,t7.trans h.output,Nat.le_trans hs t1,λk hk hne=>(t2 k (by omega) (by omega) (λh=>by have:=hS0 k h;omega)).trans (h.block k hk hne)⟩
end
/-- Where agj stands: the cursor, the result's variable, the account behind it. -/
structure gV (w0 wI w:World) (g:Nat) (cv:Value) (L:List Int) (a:aT) (S:Nat->Prop):Prop where
 cur:aS w0 w g cv L
 gr:wI.grownBy w (some g)
 res:w.heap[wI.heap.size]?=some (.cells #[.int .i64 0,.slice none 0 0,.slice none 0 0] 39 (0,0))
 acc:aJ w S (wI.heap.size+1) a
 inv:nZ a
 low:∀k,S k->wI.heap.size+2<=k
 high:∀k,S k->k < w.heap.size
section
variable {w0 wI w w' : World} {g : Nat} {S S' : Nat -> Prop} {cv : Value} {L : List Int} {a a' : aT}
theorem gV.draw (h:gV w0 wI w g cv L a S) (hg:g < wI.heap.size) (hC:aS w0 w' g cv L) (hG:w.grownBy w' (some g)):gV w0 wI w' g cv L a S :=
 ⟨hC,nM h.gr hG,(hG.block _ (lt_of_heap h.res) (by simp;omega)).trans h.res,h.acc.draw h.cur hG λhs=>by have:=h.low _ hs;omega,h.inv,h.low,λk hk=>Nat.lt_of_lt_of_le (h.high k hk) hG.size⟩
theorem gV.below (h:gV w0 wI w g cv L a S) (hb:Below w.heap.size w w'):gV w0 wI w' g cv L a S :=
 ⟨h.cur.below hb,eX h.gr hb,aA hb h.res,h.acc.below hb,h.inv,h.low,λk hk=>Nat.lt_of_lt_of_le (h.high k hk) hb.size⟩
theorem gV.turn (h:gV w0 wI w g cv L a S) (hg:g < wI.heap.size) (hT:aI w w' S (wI.heap.size+1)) (hA:aJ w' S' (wI.heap.size+1) a') (hS:∀k,S' k->S k\/w.heap.size<=k) (hI:nZ a'):gV w0 wI w' g cv L a' (λk=>S' k/\k < w'.heap.size):=by
 have h0:=h.cur.1;have hl:=h.acc.lt;have hlo:=h.low;refine⟨h.cur.turns hT (by omega) (λhs=>by have:=hlo _ hs;omega) (by omega) (λk hk=>by have:=hlo _ hk;omega),Pw h.gr hT (by omega) (λk hk=>by have:=hlo _ hk;omega),(hT.2.1 _ (lt_of_heap h.res) (by omega) (λhs=>by have:=hlo _ hs;omega)).trans h.res,hA.cut,hI,λk hk=>?_,λk hk=>hk.2⟩;rcases hS k hk.1 with hk | hk
 ·exact hlo k hk
 ·omega
/-- One more that it has seen. -/
theorem gV.push {w1 w2:World} {B:Nat} {u0 u1 v:Value} {x:Int} (h:gV w0 wI w g cv L a S) (hg:g < wI.heap.size) (hu:w.heap[wI.heap.size+1]?=some (.cells #[.int .i64 a.valid,u0,u1] 39 (0,0))) (hI:gQ w (In B w.heap.size) u1 a.seen) (XC:∀k,S k->k < B) (hB:wI.heap.size+2<=B) (hB':B<=w.heap.size) (hb:Below w.heap.size w w1)
  (hO:gQ w2 (In B w2.heap.size) v (a.seen ++ [x])) (hG:w1.grownBy w2 u1.ownBlock) (hv:∀g,u1.ownBlock=some g->B<=g/\g < w.heap.size) :
  gV w0 wI (w2.setCell ⟨wI.heap.size+1,2,none⟩ v) g cv L ⟨a.valid,a.boxes,a.seen ++ [x]⟩ S/\(w2.setCell ⟨wI.heap.size+1,2,none⟩ v).heap[wI.heap.size+1]?=some (.cells #[.int .i64 a.valid,u0,v] 39 (0,0))/\gQ (w2.setCell ⟨wI.heap.size+1,2,none⟩ v) (In B (w2.setCell ⟨wI.heap.size+1,2,none⟩ v).heap.size) v (a.seen ++ [x]):=by
 have hX:Below B w w2:=Ad (hb.mono hB') hG (λg h=>(hv g h).1) (Nat.le_refl _) (Nat.le_trans hB' hb.size);have hoth:∀k,k≠wI.heap.size+1->(w2.setCell ⟨wI.heap.size+1,2,none⟩ v).heap[k]?=w2.heap[k]?:=λk h=>Below.heap_setCell _ _ _ _ h;have hlow:∀k,k < B->k≠wI.heap.size+1->(w2.setCell ⟨wI.heap.size+1,2,none⟩ v).heap[k]?=w.heap[k]?:=λk h1 h2=>(hoth k h2).trans (hX.block k h1);have hsz:(w2.setCell ⟨wI.heap.size+1,2,none⟩ v).heap.size=w2.heap.size:=dW;have h2:=(hX.block _ (by omega)).trans hu
 have hh:(w2.setCell ⟨wI.heap.size+1,2,none⟩ v).heap[wI.heap.size+1]?=some (.cells #[.int .i64 a.valid,u0,v] 39 (0,0)):=aD (i:=2) (v:=v) h2;have XD:∀t,t≠39->t≠3->aY w (w2.setCell ⟨wI.heap.size+1,2,none⟩ v) t:=λt h3 h4 k hk=>by
  obtain⟨cs,fz,hk⟩:=hk;have hne:k≠wI.heap.size+1:=λe=>by subst e;exact dX hk ⟨_,_,hu⟩ h3
  refine(hoth k hne).trans ((hG.block k (Nat.lt_of_lt_of_le (lt_of_heap hk) hb.size) λe=>?_).trans (hb.block k (lt_of_heap hk)));rcases hI with⟨rfl,-⟩ | ⟨q,cap,cur,cs',fs,rfl,hq,-⟩
  ·cases e
  ·simp only[Value.ownBlock,Option.some.injEq] at e
   subst e;exact dX hk ⟨_,_,hq⟩ h4
 have XE:gQ (w2.setCell ⟨wI.heap.size+1,2,none⟩ v) (In B (w2.setCell ⟨wI.heap.size+1,2,none⟩ v).heap.size) v (a.seen ++ [x]):=by
  rw[hsz];exact jc hO λk h1 _ _=>hoth k (by have:=h1.1;omega)
 obtain⟨hS,U9,Va,ha,hq,-,hi⟩:=h.acc;rw[hu] at ha;simp only[Option.some.injEq,Obj.cells.injEq,Array.mk.injEq,List.cons.injEq,true_and,and_true] at ha;obtain⟨rfl,rfl⟩:=ha;obtain⟨c1,c2,c3,i,q,c4,c5,c6⟩:=h.cur;have hd:Below w.heap.size w w:=Below.refl _ _
 refine⟨⟨⟨c1,?_,c3,i,q,c4,c5,(hlow g (by omega) (by omega)).trans c6⟩,?_,(hlow _ (by omega) (by omega)).trans h.res,⟨hS,u0,v,hh,zq hq (λk h1 _=>hlow k (XC k h1) λe=>hS (e ▸ h1)) (XD _ (by decide) (by decide)) (XD _ (by decide) (by decide)),Ow.mono XE λk h1=>⟨λh2=>by have:=XC k h2;have:=h1.1;omega,h1.2⟩,hi⟩,h.inv,h.low,λk hk=>by have:=h.high k hk;have:=hX.size;omega⟩,hh,XE⟩
 ·exact c2.trans ((hX.mono (by omega)).setCell (p:=⟨wI.heap.size+1,2,none⟩) (show w0.heap.size<=wI.heap.size+1 by omega) _)
 ·have hz:=hX.size
  exact⟨hX.os.trans h.gr.os,hX.tape.trans h.gr.tape,hX.output.trans h.gr.output,Nat.le_trans h.gr.size (by omega),λk hk hne=>(hlow k (by omega) (by omega)).trans (h.gr.block k hk hne)⟩
/-- It stays where one block that is not its own turns. -/
theorem gV.other {K:Nat} (h:gV w0 wI w g cv L a S) (hg:g < wI.heap.size) (hG:w.grownBy w' (some K)) (hK:wI.heap.size+2<=K) (hT:Ty w K 35) (hS:¬S K):gV w0 wI w' g cv L a S:=by
 have hb:∀k,k < w.heap.size->k≠K->w'.heap[k]?=w.heap[k]?:=λk h1 h2=>hG.block k h1 (by simpa using h2);have hs:∀t,t≠35->aY w w' t:=λt ht k hk=>hb k (kK hk) λe=>by
  subst e;obtain⟨cs,fz,hk⟩:=hk;exact dX hk hT ht
 obtain⟨c1,c2,c3,i,q,c4,c5,c6⟩:=h.cur;have hl:=h.acc.lt;have hz:=h.gr.size
 refine⟨⟨c1,⟨hG.os.trans c2.os,hG.tape.trans c2.tape,hG.output.trans c2.output,Nat.le_trans c2.size hG.size,λk hk=>(hb k (by omega) (by omega)).trans (c2.block k hk)⟩,c3,i,q,c4,c5,(hb g (by omega) (by omega)).trans c6⟩,⟨hG.os.trans h.gr.os,hG.tape.trans h.gr.tape,hG.output.trans h.gr.output,Nat.le_trans hz hG.size,λk hk hne=>(hb k (by omega) (by omega)).trans (h.gr.block k hk hne)⟩,(hb _ (lt_of_heap h.res) (by omega)).trans h.res,h.acc.qL hG.size (hb _ hl (by omega)) (λk h1 h2=>hb k h2 λe=>hS (e ▸ h1)) (hs _ (by decide)) (hs _ (by decide)) (hs _ (by decide)),h.inv,h.low,λk hk=>Nat.lt_of_lt_of_le (h.high k hk) hG.size⟩
end
/- What agj of package spec draws: an account, in blocks of its own. -/
/-- The command behind x: where it lies, how it is read. -/
def Px (w:World) (k:Nat) (c:gP):Prop:=c.bx.length<=6/\c.tx.length<=30/\∃s0 m0 q0 s1 m1 q1 s2 m2 q2,w.heap[k]?=some (.cells #[.int .i64 c.k,.slice s0 m0 q0,.slice s1 m1 q1,.int .i64 c.uid,.int .i64 c.mode,.int .i64 c.fl,.int .i64 c.si,.slice s2 m2 q2] 35 (0,0))/\vJ w (.agg #[.int .i64 c.k,.slice s0 m0 q0,.slice s1 m1 q1,.int .i64 c.uid,.int .i64 c.mode,.int .i64 c.fl,.int .i64 c.si,.slice s2 m2 q2]) c
theorem agk {k uid mode fl si:Int} {bx tt tx:List Int} (h:qO k bx tt uid mode fl si tx=true):bx.length<=6/\tx.length<=30:=by
 simp only[qO,Bool.and_eq_true] at h;obtain⟨⟨⟨⟨⟨⟨⟨-,h1⟩,-⟩,-⟩,-⟩,-⟩,-⟩,h2⟩:=h
 constructor
 ·split at h1
  ·have:=of_decide_eq_true h1;omega
  ·exact(Ze h1).2
 ·split at h2
  ·unfold jP at h2
   simp only[Bool.and_eq_true,decide_eq_true_eq] at h2;exact h2.1
  ·have:=of_decide_eq_true h2;omega
/-- Nothing that it has seen lies anywhere. -/
def og (w:World) (k:Nat):Prop:=w.cell? ⟨k,2,none⟩=some (.slice none 0 0)
theorem og.gb {w w':World} {k K:Nat} (h:og w k) (hG:w.grownBy w' (some K)) (hk:k < w.heap.size) (hne:k≠K):og w' k:=by
 unfold og World.cell? at h ⊢;rw[hG.block k hk (by simpa using hne)];exact h
/-- The account behind the variable, as it is taken. -/
theorem gV.nil {w0 wI w:World} {g:Nat} {cv:Value} {L:List Int} {a:aT} {S:Nat->Prop} {B:Nat} (h:gV w0 wI w g cv L a S) (hn:og w (wI.heap.size+1)):∃u0:Value,w.heap[wI.heap.size+1]?=some (.cells #[.int .i64 a.valid,u0,.slice none 0 0] 39 (0,0))/\gQ w (In B w.heap.size) (.slice none 0 0) a.seen/\a.seen.length=0:=by
 obtain⟨-,u0,u1,hh,-,hs,-⟩:=h.acc;have h2:=(fU hh).2.2;rw[show w.cell? ⟨wI.heap.size+1,2,none⟩=_ from hn] at h2;cases h2
 rcases hs with⟨-,h1⟩ | ⟨q,cap,cur,cs,fs,hv,-⟩
 ·exact⟨u0,hh,.inl ⟨rfl,h1⟩,by rw[h1];rfl⟩
 ·cases hv
/-- What it has seen lies in blocks made since. -/
def J5 (wI w:World) (a:aT):Prop:=∃u0 u1:Value,w.heap[wI.heap.size+1]?=some (.cells #[.int .i64 a.valid,u0,u1] 39 (0,0))/\gQ w (In (wI.heap.size+2) w.heap.size) u1 a.seen/\a.seen.length<=5
theorem J5.nil {w0 wI w:World} {g:Nat} {cv:Value} {L:List Int} {a:aT} {S:Nat->Prop} (h:gV w0 wI w g cv L a S) (hn:og w (wI.heap.size+1)):J5 wI w a :=
 let ⟨u0,h0,h1,h2⟩:=gV.nil (B:=wI.heap.size+2) h hn
 ⟨u0,_,h0,h1,by omega⟩
theorem agl {w:World} {S S':Nat->Prop} {v:Value} {l:List Int} (h:gQ w S v l) (h':gQ w S' v l):gQ w (λk=>S k/\S' k) v l:=by
 rcases h with h | ⟨g,cap,cur,cs,fs,hv,hh,h1,h2,h3,h4,h5,h6,h7⟩
 ·exact .inl h
 ·rcases h' with⟨e,-⟩ | ⟨g',cap',cur',cs',fs',hv',-,-,-,-,k4,-⟩
  ·rw[hv] at e;cases e
  ·rw[hv] at hv'
   simp only[Value.slice.injEq,Option.some.injEq,Addr.mk.injEq,true_and,and_true] at hv';obtain⟨rfl,-⟩:=hv';exact .inr ⟨g,cap,cur,cs,λ_ _=>False,hv,hh,h1,h2,h3,⟨h4,k4⟩,h5,λ_ _ _ h=>h.elim,λ_ _ _ _ _ _ h=>h.elim⟩
/-- The command that makes the first box. -/
theorem agm {w0 w w3 w4:World} {g K:Nat} {cv:Value} {L:List Int} {a:aT} {S:Nat->Prop} {e0 e1 e2 e3 e4 e5 e6 e7:Value} (hA:gV w0 w w3 g cv L a S) (hN:og w3 (w.heap.size+1)) (hgl:g < w.heap.size) (b4:Below w3.heap.size w3 w4) (hk:w4.heap[K]?=some (.cells #[e0,e1,e2,e3,e4,e5,e6,e7] 35 (0,0))) (qx:bL w4 w3.heap.size (.slice (some ⟨w3.heap.size,0,none⟩) 5 5) [105,110,98,111,120]) (hS:¬S K) (hK:w.heap.size+1 < K) (hK3:K < w3.heap.size) :
  ∃c:gP,Hid (Px ((((((((w4.setCell ⟨K,0,none⟩ (.int .i64 0)).setCell ⟨K,1,none⟩ (.slice (some ⟨w3.heap.size,0,none⟩) 5 5)).setCell ⟨K,2,none⟩ (.slice none 0 0)).setCell ⟨K,3,none⟩ (.int .i64 0)).setCell ⟨K,4,none⟩ (.int .i64 0)).setCell ⟨K,5,none⟩ (.int .i64 0)).setCell ⟨K,6,none⟩ (.int .i64 0)).setCell ⟨K,7,none⟩ (.slice none 0 0)) K c)/\Hid (gV w0 w ((((((((w4.setCell ⟨K,0,none⟩ (.int .i64 0)).setCell ⟨K,1,none⟩ (.slice (some ⟨w3.heap.size,0,none⟩) 5 5)).setCell ⟨K,2,none⟩ (.slice none 0 0)).setCell ⟨K,3,none⟩ (.int .i64 0)).setCell ⟨K,4,none⟩ (.int .i64 0)).setCell ⟨K,5,none⟩ (.int .i64 0)).setCell ⟨K,6,none⟩ (.int .i64 0)).setCell ⟨K,7,none⟩ (.slice none 0 0)) g cv L a S)/\Hid (og ((((((((w4.setCell ⟨K,0,none⟩ (.int .i64 0)).setCell ⟨K,1,none⟩ (.slice (some ⟨w3.heap.size,0,none⟩) 5 5)).setCell ⟨K,2,none⟩ (.slice none 0 0)).setCell ⟨K,3,none⟩ (.int .i64 0)).setCell ⟨K,4,none⟩ (.int .i64 0)).setCell ⟨K,5,none⟩ (.int .i64 0)).setCell ⟨K,6,none⟩ (.int .i64 0)).setCell ⟨K,7,none⟩ (.slice none 0 0)) (w.heap.size+1)):=by
 have G5:=jl 7 (.slice none 0 0) (jl 6 (.int .i64 0) (jl 5 (.int .i64 0) (jl 4 (.int .i64 0) (jl 3 (.int .i64 0) (jl 2 (.slice none 0 0) (jl 1 (.slice (some ⟨w3.heap.size,0,none⟩) 5 5) (jl 0 (.int .i64 0) (World.grownBy.refl w4 (some K)))))))))
 refine⟨⟨0,[105,110,98,111,120],[],0,0,0,0,[]⟩,⟨by decide,by decide,_,_,_,_,_,_,_,_,_,Qq hk,_,_,_,rfl,nN.stay (nN.gb (.inr ⟨_,qx⟩) G5 (by simp only[Value.ownBlock,ne_eq,Option.some.injEq];omega)),nN.stay (.inl ⟨rfl,rfl⟩),nN.stay (.inl ⟨rfl,rfl⟩),aK,aK,aK,aK,aK⟩,(hA.below b4).other hgl G5 (by omega) ⟨_,_,hk⟩ hS,og.gb (og.gb hN (eX (World.grownBy.refl w3 (some K)) b4) hA.acc.lt (by omega)) G5 (hA.below b4).acc.lt (by omega)⟩
theorem XF (w0 w:World) (g:Nat) (cv:Value) (L:List Int) (hc:aS w0 w g cv L) :
  Calls Tryz.prog 23 #[.pointer (some ⟨g,0,none⟩)] w λe w'=>∃(a:aT) (S:Nat->Prop) (u0 u1:Value),e=.returned (.agg #[.int .i64 a.valid,u0,u1])/\iT w' S u0 a.boxes/\gQ w' (λk=>(¬S k/\w.heap.size<=k)/\k < w'.heap.size) u1 a.seen/\av a.valid/\nZ a/\(∀k,S k->w.heap.size<=k)/\aS w0 w' g cv L/\w.grownBy w' (some g)/\a.seen.length<=5:=by
 have hgl:=hc.lt.2;have AB:Below w.heap.size w ((w.alloc (.cells #[.int .i64 0,.slice none 0 0,.slice none 0 0] 39)).alloc (.cells #[.int .i64 0,.slice none 0 0,.slice none 0 0] 39)):=(bn _ _).alloc (by simp) _;have zP:Hid (((w.alloc (.cells #[.int .i64 0,.slice none 0 0,.slice none 0 0] 39)).alloc (.cells #[.int .i64 0,.slice none 0 0,.slice none 0 0] 39)).heap[w.heap.size]?=some (.cells #[.int .i64 0,.slice none 0 0,.slice none 0 0] 39 (0,0))):=aA (bn _ _) (aW w _)
 have gD:Hid (((w.alloc (.cells #[.int .i64 0,.slice none 0 0,.slice none 0 0] 39)).alloc (.cells #[.int .i64 0,.slice none 0 0,.slice none 0 0] 39)).heap[w.heap.size+1]?=some (.cells #[.int .i64 0,.slice none 0 0,.slice none 0 0] 39 (0,0))):=by
  have h:=aW (w.alloc (.cells #[.int .i64 0,.slice none 0 0,.slice none 0 0] 39)) (.cells #[.int .i64 0,.slice none 0 0,.slice none 0 0] 39);rw[show(w.alloc (.cells #[.int .i64 0,.slice none 0 0,.slice none 0 0] 39)).heap.size=w.heap.size+1 by simp] at h;exact h
 have HC:=ay (hc.below AB);have HG:=ay (eX (World.grownBy.refl w (some g)) AB);clear hc AB
 go_enter Tryz.func23,Tryz.ntmps23;go_wp2_with fail
 refine(iH w0 _ g cv L 22 HC.out (by omega) (by omega)).mono ?_;rintro e w1 ⟨n,rfl,hn0,hn1,C1,G1⟩;have HA:Hid (gV w0 w w1 g cv L ⟨0,[],[]⟩ (λ_=>False)):=by
  have h1:=(G1.block (w.heap.size+1) (lt_of_heap gD.out) (by simp;omega)).trans gD.out;exact⟨C1,nM HG.out G1,(G1.block _ (lt_of_heap zP.out) (by simp;omega)).trans zP.out,⟨λh=>h,_,_,h1,.inl ⟨rfl,rfl⟩,.inl ⟨rfl,rfl⟩,aK⟩,⟨by simp,by simp⟩,λ_ h=>h.elim,λ_ h=>h.elim⟩
 have HN:Hid (og w1 (w.heap.size+1)):=(fU ((G1.block (w.heap.size+1) (lt_of_heap gD.out) (by simp;omega)).trans gD.out)).2.2;clear zP gD HC HG C1 G1;go_wp2_with fail
 go_loopw [5,6] (λiv xv wr=>∃(i:Nat) (a:aT) (S:Nat->Prop),iv=.int .i64 i/\(i:Int)<=n/\Hid (gV w0 w wr g cv L a S)/\Hid (og wr (w.heap.size+1))) (λiv xv _=>n.toNat - (intOf iv).toNat)
 case atStart=>exact⟨0,_,_,rfl,hn0,HA,HN⟩
 case round =>
  clear HA HN;obtain⟨i,a,S,rfl,hi,HA,HN⟩:=hrel
  by_cases hlt:(i:Int) < n
  ·go_wp2_with fail
   refine(MI w0 _ g cv L HA.out.cur).mono ?_;rintro e w2 ⟨u,rfl,c,hv,hcb,C2,G2,hW⟩;have Cw:=ay (agi hW hv);have hsh:=agk hcb;have HA2:=ay (HA.out.draw hgl C2 G2);have vG:=ay (HN.out.gb G2 HA.out.acc.lt (by omega));obtain⟨s0,m0,q0,s1,m1,q1,v2,rfl,-⟩:=hW;obtain⟨y0,y1,y2,e0,-,-,hb2,-⟩:=Cw.out;simp only[Value.agg.injEq,Array.mk.injEq,List.cons.injEq,and_true,true_and] at e0;obtain⟨-,-,rfl⟩:=e0;obtain⟨s2,m2,q2,rfl⟩:=hb2.bs.aP;clear hb2 hv hcb C2 G2 HA HN
   have AB:Below w2.heap.size w2 (w2.alloc (.cells #[.int .i64 c.k,.slice s0 m0 q0,.slice s1 m1 q1,.int .i64 c.uid,.int .i64 c.mode,.int .i64 c.fl,.int .i64 c.si,.slice s2 m2 q2] 35)):=bn _ _;have HX:Hid (Px (w2.alloc (.cells #[.int .i64 c.k,.slice s0 m0 q0,.slice s1 m1 q1,.int .i64 c.uid,.int .i64 c.mode,.int .i64 c.fl,.int .i64 c.si,.slice s2 m2 q2] 35)) w2.heap.size c):=⟨hsh.1,hsh.2,_,_,_,_,_,_,_,_,_,aW w2 _,Cw.out.below AB⟩;have lD:=ay (HA2.out.below AB)
   have nX:Hid (og (w2.alloc (.cells #[.int .i64 c.k,.slice s0 m0 q0,.slice s1 m1 q1,.int .i64 c.uid,.int .i64 c.mode,.int .i64 c.fl,.int .i64 c.si,.slice s2 m2 q2] 35)) (w.heap.size+1)):=(AB.cell (p:=⟨w.heap.size+1,2,none⟩) HA2.out.acc.lt).trans vG.out;have hk2:w.heap.size+1 < w2.heap.size:=HA2.out.acc.lt;have HS2:Hid (¬S w2.heap.size):=λh=>absurd (HA2.out.high _ h) (Nat.lt_irrefl _);clear Cw hsh HA2 vG AB
   go_upto_if 20 with fail
   go_cut [] (λwx=>∃c:gP,Hid (Px wx w2.heap.size c)/\Hid (gV w0 w wx g cv L a S)/\Hid (og wx (w.heap.size+1)))
   case first =>
    generalize hW3:w2.alloc (.cells #[.int .i64 c.k,.slice s0 m0 q0,.slice s1 m1 q1,.int .i64 c.uid,.int .i64 c.mode,.int .i64 c.fl,.int .i64 c.si,.slice s2 m2 q2] 35)=w3 at HX lD nX ⊢;clear hW3
    by_cases h0:i=0
    ·have Xv:((i:Int) == 0)=true:=by simp[h0]
     obtain⟨w4,hcs,qx,b4⟩:∃w',Sem.run Tryz.prog (convert 22 22 (.slice (some ⟨w3.heap.size,0,none⟩) 5 5)) (w3.alloc (.cells #[.int .u8 105,.int .u8 110,.int .u8 98,.int .u8 111,.int .u8 120] 5))=.ok (.slice (some ⟨w3.heap.size,0,none⟩) 5 5) w'/\bL w' w3.heap.size (.slice (some ⟨w3.heap.size,0,none⟩) 5 5) [105,110,98,111,120]/\Below w3.heap.size w3 w':=ME w3 [105,110,98,111,120] (by intro x hx;simp at hx;omega) (by decide);obtain⟨-,-,t0,p0,r0,t1,p1,r1,t2,p2,r2,hk,-⟩:=HX.out;have hk4:=aA b4 hk;obtain⟨f0,f1,f2,f3,f4,f5,f6,f7,f8⟩:=bP hk4;have fz:=(aO hk4).1;have HQ:=ay qx;have oh:=ay b4
     have Py:=ay hk4;have hk3:=lt_of_heap hk;clear HX hk hk4 qx b4;go_wp2;go_meet
     case rel=>exact agm lD.out nX.out hgl oh.out Py.out HQ.out HS2.out hk2 hk3
    ·have Xv:((i:Int) == 0)=false:=by simp;omega
     go_wp2;go_meet
     case rel=>exact⟨c,HX,lD,nX⟩
   case rest =>
    obtain⟨c,HX,HA,HN⟩:=hcut;obtain⟨hb6,agn,s0,m0,q0,s1,m1,q1,s2,m2,q2,hk,hcs⟩:=HX.out;have Cw:=ay hcs;obtain⟨f0,f1,f2,f3,f4,f5,f6,f7,f8⟩:=bP hk;clear hk hcs HX lD nX HS2;go_wp2_with fail
    refine(agh (w.heap.size+1) a c S _ _ HA.out.acc Cw.out ⟨by omega,by omega⟩ (λx hx=>(HA.out.inv.2 x hx).sz) (by have:=HA.out.inv.1;omega)).mono ?_;rintro e w5 ⟨u,S',rfl,-,hT,hA',hS'⟩;have F9:=ay (HA.out.turn hgl hT hA' hS' (afE HA.out.inv hb6 agn));have Hr:Hid (og w5 (w.heap.size+1)):=(hT.2.2.2.2.2.2.2 HA.out.acc.lt HA.out.acc.1).trans HN.out;clear Cw hT hA' hS' HA HN f0 f1 f2 f3 f4 f5 f6 f7 f8;go_wp2;go_roundw
    case rel=>exact⟨i+1,_,_,by go_num,by omega,F9,Hr⟩
    case measure=>simp[intOf];omega
  ·obtain rfl:n=i:=by omega
   go_wp2_with fail
   refine(xX w0 _ g cv L 3 HA.out.cur (by omega) (by omega)).mono ?_;rintro e w2 ⟨y,rfl,C2,G2⟩;have HA2:=ay (HA.out.draw hgl C2 G2);have vG:=ay (HN.out.gb G2 HA.out.acc.lt (by omega));clear HA HN C2 G2
   go_upto_if 27 with fail
   go_cut [] (λwx=>∃(a:aT) (S:Nat->Prop),Hid (gV w0 w wx g cv L a S)/\Hid (J5 w wx a))
   case first =>
    cases y
    ·go_wp2
     go_meet
     case rel=>exact⟨a,S,HA2,J5.nil HA2.out vG.out⟩
    ·go_wp2_with fail
     refine(iH w0 _ g cv L 5 HA2.out.cur (by omega) (by omega)).mono ?_;rintro e w3 ⟨m,rfl,hm0,hm1,C3,G3⟩;have lD:=ay (HA2.out.draw hgl C3 G3);have nX:=ay (vG.out.gb G3 HA2.out.acc.lt (by omega));have nY:=ay lD.out.high;obtain⟨u0,hk,hI,hz⟩:=gV.nil (B:=w3.heap.size) lD.out nX.out;have HK:=ay hk;have HI:=ay hI;have hB:w.heap.size+2<=w3.heap.size:=by have:=lD.out.acc.lt;omega
     clear HA2 vG nX C3 G3 hk hI;obtain⟨i0,hi,hz0,hz1,hz2⟩:=info_parts QD;go_wp2_with fail
     go_loopw [7,9] (λkv iv wr=>∃(k j:Nat) (a:aT) (u0 u1:Value),kv=.int .i64 k/\iv=.int .i64 j/\(j:Int)<=m/\k<=1+3 * j/\a.seen.length=j/\w3.heap.size<=wr.heap.size/\Hid (gV w0 w wr g cv L a S)/\Hid (wr.heap[w.heap.size+1]?=some (.cells #[.int .i64 a.valid,u0,u1] 39 (0,0)))/\Hid (gQ wr (In w3.heap.size wr.heap.size) u1 a.seen)) (λkv iv _=>m.toNat - (intOf iv).toNat)
     case atStart=>exact⟨1,0,a,_,_,rfl,rfl,hm0,by omega,hz,Nat.le_refl _,lD,HK,HI⟩
     case round =>
      clear lD HK HI hz;obtain⟨k,j,a,u0,u1,rfl,rfl,hj,hk,hl,hsz,HA,HK,HI⟩:=hrel
      by_cases hlt:(j:Int) < m
      ·have AB:Below wr.heap.size wr (wr.alloc (.cells #[.int .i64 k] 3)):=bn _ _
       have hO:gQ (wr.alloc (.cells #[.int .i64 k] 3)) (In w3.heap.size wr.heap.size) u1 a.seen:=jc HI.out λk _ h _=>AB.block k h;obtain⟨ua,un,uc,rfl⟩:∃ua un uc,u1=.slice ua un uc:=by
        rcases HI.out with⟨h,-⟩ | ⟨q,cap,cur,cs,fs,h,-⟩ <;> exact⟨_,_,_,h⟩
       obtain⟨f0,f1,f2⟩:=fU HK.out;have hlk:=lt_of_heap HK.out;have hM:wr.heap.size<=(wr.alloc (.cells #[.int .i64 k] 3)).heap.size:=AB.size;have hp1:a.seen.length+1<=maxLen:=by unfold maxLen;omega
       have hp2:(a.seen.length+1) * 8<=140737488355328:=by omega
       have hone:∀u ∈ [Value.int .i64 (k:Int)],u.oneCell'=true:=by simp[Value.oneCell']
       have hki:av (k:Int):=⟨by omega,by omega⟩;go_wp2_with (at_builtin;refine GL rfl (.tmp 36) (.tmp 38) rfl CX (B:=w3.heap.size) (M:=wr.heap.size) hO hM hsz Tryz.underlying37 hi hz0 hz1 hz2 rfl (by omega) rfl (k:Int) [.int .i64 k] rfl ⟨rfl,hki⟩ ⟨wr.heap.size,0,none⟩ 1 rfl (oU wr _ _) hone hp1 hp2 ?_)
       intro V w4 hO4 hG4 hv4;obtain⟨oa,on,oc,rfl⟩:∃ua un uc,V=.slice ua un uc:=by
        rcases hO4 with⟨h,-⟩ | ⟨q,cap,cur,cs,fs,h,-⟩ <;> exact⟨_,_,_,h⟩
       obtain⟨h5,h6,h7⟩:=HA.out.push hgl HK.out HI.out nY.out hB hsz AB hO4 hG4 hv4;have hsz5:w3.heap.size<=(w4.setCell ⟨w.heap.size+1,2,none⟩ (.slice oa on oc)).heap.size:=by rw[dW];have:=hG4.size;omega
       have F9:=ay h5;have rG:=ay h6;have XG:=ay h7;have hk4:w4.heap[w.heap.size+1]?=some (.cells #[.int .i64 a.valid,u0,.slice ua un uc] 39 (0,0)):=(mH hG4 (λg h=>(hv4 g h).1) (aA AB HK.out) (by omega));have fz:=(aO hk4).1;have agp:=lt_of_heap hk4;obtain⟨e0,e1,e2⟩:=fU hk4;clear h5 h6 h7 hO4 hG4 hv4 hO AB hone HA HK HI f0 f1 f2 hk4;go_wp2_with fail
       refine(iH w0 _ g cv L 3 F9.out.cur (by omega) (by omega)).mono ?_;rintro e w6 ⟨x,rfl,hx0,hx1,C6,G6⟩;have mX:=ay (F9.out.draw hgl C6 G6);have FU:=ay ((G6.block _ (lt_of_heap rG.out) (by simp;omega)).trans rG.out);have HI6:Hid (gQ w6 (In w3.heap.size w6.heap.size) (.slice oa on oc) (a.seen ++ [(k:Int)])):=Ow.mono (jc XG.out λk h1 h2 _=>G6.block k h2 (by have:=h1.1;simp;omega)) λk h=>⟨h.1,Nat.lt_of_lt_of_le h.2 G6.size⟩;have agr:=Nat.le_trans hsz5 G6.size;obtain⟨x,rfl⟩:∃n:Nat,x=n:=⟨x.toNat,by omega⟩;clear F9 rG XG C6 G6 e0 e1 e2 fz agp;go_wp2;go_roundw
       case rel=>exact⟨k+1+x,j+1,_,_,_,by go_num,by go_num,by omega,by omega,by simp;omega,agr,mX,FU,HI6⟩
       case measure=>simp[intOf];omega
      ·go_wp2
       go_meet
       case rel=>exact⟨_,_,HA,_,_,HK.out,Ow.mono HI.out λk h=>⟨by have:=h.1;omega,h.2⟩,by omega⟩
   case rest =>
    obtain⟨a,S,HA,HS⟩:=hcut;obtain⟨Ga,u0,u1,hk,hq,hs0,J3⟩:=HA.out.acc;obtain⟨v0,v1,hk',hs1,hsl⟩:=HS.out;rw[hk] at hk';simp only[Option.some.injEq,Obj.cells.injEq,Array.mk.injEq,List.cons.injEq,true_and,and_true] at hk';obtain⟨rfl,rfl⟩:=hk';have hs:=agl hs0 hs1;clear hs0 hs1 HS;obtain⟨a0,c0,rfl,-⟩:=hq.v.form;obtain⟨a1,n1,c1,rfl⟩:∃ua un uc,u1=.slice ua un uc:=by
     rcases hs with⟨h,-⟩ | ⟨q,cap,cur,cs,fs,h,-⟩ <;> exact⟨_,_,_,h⟩
    obtain⟨f0,f1,f2⟩:=fU hk;have hr:=HA.out.res;obtain⟨r0,r1,r2⟩:=fU hr;have fz:=(aO hr).1;have hlr:=lt_of_heap hr;have hlk:=lt_of_heap hk;have G:wc.grownBy (((wc.setCell ⟨w.heap.size,0,none⟩ (.int .i64 a.valid)).setCell ⟨w.heap.size,1,none⟩ (.slice a0 a.boxes.length c0)).setCell ⟨w.heap.size,2,none⟩ (.slice a1 n1 c1)) (some w.heap.size):=jl 2 _ (jl 1 _ (jl 0 _ (World.grownBy.refl wc (some w.heap.size))))
    have KF:Hid ((((wc.setCell ⟨w.heap.size,0,none⟩ (.int .i64 a.valid)).setCell ⟨w.heap.size,1,none⟩ (.slice a0 a.boxes.length c0)).setCell ⟨w.heap.size,2,none⟩ (.slice a1 n1 c1)).heap[w.heap.size]?=some (.cells #[.int .i64 a.valid,.slice a0 a.boxes.length c0,.slice a1 n1 c1] 39 (0,0))):=aD (i:=2) (v:=.slice a1 n1 c1) (aD (i:=1) (v:=.slice a0 a.boxes.length c0) (aD (i:=0) (v:=.int .i64 a.valid) hr))
    have b3:Below w.heap.size wc (((wc.setCell ⟨w.heap.size,0,none⟩ (.int .i64 a.valid)).setCell ⟨w.heap.size,1,none⟩ (.slice a0 a.boxes.length c0)).setCell ⟨w.heap.size,2,none⟩ (.slice a1 n1 c1)):=(((Below.refl w.heap.size wc).setCell (p:=⟨w.heap.size,0,none⟩) (Nat.le_refl _) _).setCell (p:=⟨w.heap.size,1,none⟩) (Nat.le_refl _) _).setCell (p:=⟨w.heap.size,2,none⟩) (Nat.le_refl _) _
    have hst:∀t,t≠39->aY wc (((wc.setCell ⟨w.heap.size,0,none⟩ (.int .i64 a.valid)).setCell ⟨w.heap.size,1,none⟩ (.slice a0 a.boxes.length c0)).setCell ⟨w.heap.size,2,none⟩ (.slice a1 n1 c1)) t:=λt ht k hk=>G.block k (kK hk) (by
     simp only[ne_eq,Option.some.injEq];intro e;subst e;obtain⟨cs,fz,hk⟩:=hk;exact dX hk ⟨_,_,hr⟩ ht)
    have HQ:=ay (zq hq (λk h1 h2=>G.block k h2 (by have:=HA.out.low k h1;simp;omega)) (hst _ (by decide)) (hst _ (by decide)))
    have HI:Hid (gQ (((wc.setCell ⟨w.heap.size,0,none⟩ (.int .i64 a.valid)).setCell ⟨w.heap.size,1,none⟩ (.slice a0 a.boxes.length c0)).setCell ⟨w.heap.size,2,none⟩ (.slice a1 n1 c1)) (λk=>(¬S k/\w.heap.size<=k)/\k < ((((wc.setCell ⟨w.heap.size,0,none⟩ (.int .i64 a.valid)).setCell ⟨w.heap.size,1,none⟩ (.slice a0 a.boxes.length c0)).setCell ⟨w.heap.size,2,none⟩ (.slice a1 n1 c1))).heap.size) (.slice a1 n1 c1) a.seen):=Ow.mono (jc hs λk _ _ hT=>hst _ (by decide) k hT) λk h=>⟨⟨h.1.1,by have:=h.2.1;omega⟩,Nat.lt_of_lt_of_le h.1.2 G.size⟩;have vN:=ay (vk HA.out.cur b3 hgl)
    have HGF:=ay (wZ HA.out.gr b3 (Nat.le_refl _));clear G b3 hst hq hs hr hk;go_wp2;obtain⟨e0,e1,e2⟩:=fU KF.out;exact bodyPost_ret (v:=.agg #[.int .i64 a.valid,.slice a0 a.boxes.length c0,.slice a1 n1 c1]) (by simp[results,Tryz.results23,go_sem,e0,e1,e2]) rfl ⟨a,S,_,_,rfl,HQ.out,HI.out,J3,HA.out.inv,λk h=>by have:=HA.out.low k h;omega,vN.out,HGF.out,hsl⟩
end Go.Proofs.YtfabngnaejjcmaaGreatDoor
