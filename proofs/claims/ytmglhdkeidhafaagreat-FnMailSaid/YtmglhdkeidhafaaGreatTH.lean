/- The proof's texts, part 43. -/
import Derived.Test.YtmglhdkeidhafaaGreatTs
import Derived.Test.YtmglhdkeidhafaaGreatTG
namespace Go.Proofs.YtmglhdkeidhafaaGreat
open Go.RowKit
set_option linter.unusedVariables false
set_option linter.unusedSimpArgs false
set_option maxHeartbeats 8000000
set_option maxRecDepth 100000
/- What O4 of package spec does: every command, in one contract. -/
theorem ac9 (ga:Nat) (a:aF) (c:dS) (S:Nat→Prop) (v:Value) (w:World) (hp:aS w S ga a) (hc:qK w v c) (hcl:c.bx.length≤2000000∧c.tx.length≤2000000) (hsz:∀ x ∈ a.boxes,bT x≤900000) (hbl:a.boxes.length≤2000000) :
  Calls Tryz.prog 60 #[.pointer (some ⟨ga,0,none⟩),v] w (jh w S ga (dA a c)):=by
 obtain ⟨u0,u1,u2,rfl,h0,h1,h2,ik,hi⟩:=hc
 obtain ⟨x0,n0,m0,rfl⟩:=h0.bs.aG
 obtain ⟨x1,n1,m1,rfl⟩:=h1.bs.aG
 obtain ⟨x2,n2,m2,rfl⟩:=h2.bs.aG
 obtain ⟨k,bx,tt,uid,mode,fl,si,tx⟩:=c
 simp only at h0 h1 h2 ik hi hcl ⊢
 exact aaC ga a S k uid mode fl si bx tt tx x0 x1 x2 n0 n1 n2 m0 m1 m2 w hp h0 h1 h2 hi hcl hsz hbl _ rfl
/- What a drawn command and an account that is turned have in common: the draws of accounts. -/
section
variable {w0 wI w w' : World} {g ga : Nat} {S : Nat → Prop} {cv u v : Value} {L l : List Int} {c : dS} {a : aF}
theorem nQ.stay (h:nQ w v l):oq w v l:=by
 intro w' hs ht
 rcases h with ⟨rfl,rfl⟩ | ⟨q,h⟩
 ·exact yN w'
 ·refine (h.frame (ht q ?_)).bs
  obtain ⟨-,cap,cur,fz,-,hh,-⟩:=h
  exact ⟨_,_,hh⟩
/-- A command that was drawn is read wherever the bytes stay. -/
theorem TF (h:L6 wI w u c) (hv:iQ w u c.k c.bx c.tt c.uid c.mode c.fl c.si c.tx):qK w u c:=by
 obtain ⟨a0,n0,c0,a1,n1,c1,v2,rfl,-,-,-,-,T,o0,o1⟩:=h
 obtain ⟨u0,u1,u2,-,-,-,-,r⟩:=hv
 refine ⟨_,_,_,rfl,o0.stay,o1.stay,nQ.stay ?_,r⟩
 rcases T with T | ⟨q,t,-⟩
 ·exact .inl T
 ·exact .inr ⟨q,t⟩
theorem bN.ty (h:bN w0 w g cv L):Ty w g 63:=by
 obtain ⟨-,-,-,i,q,-,-,hh⟩:=h
 exact ⟨_,_,hh⟩
/-- What stays while the cursor draws. -/
theorem bN.stay {t:TypeId} (h:bN w0 w g cv L) (hG:w.grownBy w' (some g)) (hne:t≠63):bD w w' t:=by
 intro k hk
 obtain ⟨cs,fz,hh⟩:=hk
 refine hG.block k (lt_of_heap hh) fun e=>?_
 cases e
 exact dO hh h.ty hne
theorem aS.draw (h:aS w S ga a) (hC:bN w0 w g cv L) (hG:w.grownBy w' (some g)) (hS:¬ S g):aS w' S ga a:=by
 have hga:ga≠g:=fun e=>by
  subst e
  obtain ⟨cs,fz,hh⟩:=h.ty
  exact dO hh hC.ty (by decide)
 exact h.pU hG.size (hG.block ga h.lt (by simpa using hga)) (fun k hk hl=>hG.block k hl (by simp only [ne_eq,Option.some.injEq];exact fun e=>hS (e ▸ hk))) (hC.stay hG (by decide)) (hC.stay hG (by decide)) (hC.stay hG (by decide))
/-- The cursor stays while the account is turned. -/
theorem bN.turns (h:bN w0 w g cv L) (hT:aR w w' S ga) (hg:g≠ga) (hS:¬ S g) (h0:w0.heap.size≤ga) (hS0:∀ k,S k→w0.heap.size≤k):bN w0 w' g cv L:=by
 obtain ⟨h1,hb,h3,i,q,h4,h5,hh⟩:=h
 obtain ⟨t1,t2,-,-,t5,t6,t7,-⟩:=hT
 have hs:=hb.size
 refine ⟨h1,⟨t5.trans hb.os,t6.trans hb.tape,t7.trans hb.output,Nat.le_trans hs t1,fun k hk=>(t2 k (by omega) (by omega) (fun h=>by have:=hS0 k h;omega)).trans (hb.block k hk)⟩,h3,i,q,h4,h5,(t2 g (lt_of_heap hh) hg hS).trans hh⟩
theorem ada (h:wI.grownBy w (some g)) (hT:aR w w' S ga) (h0:wI.heap.size≤ga) (hS0:∀ k,S k→wI.heap.size≤k):wI.grownBy w' (some g):=by
 obtain ⟨t1,t2,-,-,t5,t6,t7,-⟩:=hT
 have hs:=h.size
 exact ⟨t5.trans h.os,t6.trans h.tape,t7.trans h.output,Nat.le_trans hs t1,fun k hk hne=>(t2 k (by omega) (by omega) (fun h=>by have:=hS0 k h;omega)).trans (h.block k hk hne)⟩
end
/-- Where adb stands: the cursor, the result's variable, the account behind it. -/
structure gZ (w0 wI w:World) (g:Nat) (cv:Value) (L:List Int) (a:aF) (S:Nat→Prop):Prop where
 cur:bN w0 w g cv L
 gr:wI.grownBy w (some g)
 res:w.heap[wI.heap.size]?=some (.cells #[.int .i64 0,.slice none 0 0,.slice none 0 0] 26 (0,0))
 acc:aS w S (wI.heap.size+1) a
 inv:kY a
 low:∀ k,S k→wI.heap.size+2≤k
 high:∀ k,S k→k < w.heap.size
section
variable {w0 wI w w' : World} {g : Nat} {S S' : Nat → Prop} {cv : Value} {L : List Int} {a a' : aF}
theorem gZ.draw (h:gZ w0 wI w g cv L a S) (hg:g < wI.heap.size) (hC:bN w0 w' g cv L) (hG:w.grownBy w' (some g)):gZ w0 wI w' g cv L a S :=
 ⟨hC,wN h.gr hG,(hG.block _ (lt_of_heap h.res) (by simp;omega)).trans h.res,h.acc.draw h.cur hG fun hs=>by have:=h.low _ hs;omega,h.inv,h.low,fun k hk=>Nat.lt_of_lt_of_le (h.high k hk) hG.size⟩
theorem gZ.below (h:gZ w0 wI w g cv L a S) (hb:Below w.heap.size w w'):gZ w0 wI w' g cv L a S :=
 ⟨h.cur.below hb,gy h.gr hb,aB hb h.res,h.acc.below hb,h.inv,h.low,fun k hk=>Nat.lt_of_lt_of_le (h.high k hk) hb.size⟩
theorem gZ.turn (h:gZ w0 wI w g cv L a S) (hg:g < wI.heap.size) (hT:aR w w' S (wI.heap.size+1)) (hA:aS w' S' (wI.heap.size+1) a') (hS:∀ k,S' k→S k∨w.heap.size≤k) (hI:kY a'):gZ w0 wI w' g cv L a' (fun k=>S' k∧k < w'.heap.size):=by
 have h0:=h.cur.1
 have hl:=h.acc.lt
 have hlo:=h.low
 refine ⟨h.cur.turns hT (by omega) (fun hs=>by have:=hlo _ hs;omega) (by omega) (fun k hk=>by have:=hlo _ hk;omega),ada h.gr hT (by omega) (fun k hk=>by have:=hlo _ hk;omega),(hT.2.1 _ (lt_of_heap h.res) (by omega) (fun hs=>by have:=hlo _ hs;omega)).trans h.res,hA.cut,hI,fun k hk=>?_,fun k hk=>hk.2⟩
 rcases hS k hk.1 with hk | hk
 ·exact hlo k hk
 ·omega
/-- One more that it has seen. -/
theorem gZ.push {w1 w2:World} {B:Nat} {u0 u1 v:Value} {x:Int} (h:gZ w0 wI w g cv L a S) (hg:g < wI.heap.size) (hu:w.heap[wI.heap.size+1]?=some (.cells #[.int .i64 a.valid,u0,u1] 26 (0,0))) (hI:eY w (In B w.heap.size) u1 a.seen) (TG:∀ k,S k→k < B) (hB:wI.heap.size+2≤B) (hB':B≤w.heap.size) (hb:Below w.heap.size w w1)
  (hO:eY w2 (In B w2.heap.size) v (a.seen ++ [x])) (hG:w1.grownBy w2 u1.ownBlock) (hv:∀ g,u1.ownBlock=some g→B≤g∧g < w.heap.size) :
  gZ w0 wI (w2.setCell ⟨wI.heap.size+1,2,none⟩ v) g cv L ⟨a.valid,a.boxes,a.seen ++ [x]⟩ S∧(w2.setCell ⟨wI.heap.size+1,2,none⟩ v).heap[wI.heap.size+1]?=some (.cells #[.int .i64 a.valid,u0,v] 26 (0,0))∧eY (w2.setCell ⟨wI.heap.size+1,2,none⟩ v) (In B (w2.setCell ⟨wI.heap.size+1,2,none⟩ v).heap.size) v (a.seen ++ [x]):=by
 have hX:Below B w w2:=rD (hb.mono hB') hG (fun g h=>(hv g h).1) (Nat.le_refl _) (Nat.le_trans hB' hb.size)
 have hoth:∀ k,k≠wI.heap.size+1→(w2.setCell ⟨wI.heap.size+1,2,none⟩ v).heap[k]?=w2.heap[k]?:=fun k h=>Below.heap_setCell _ _ _ _ h
 have hlow:∀ k,k < B→k≠wI.heap.size+1→(w2.setCell ⟨wI.heap.size+1,2,none⟩ v).heap[k]?=w.heap[k]?:=fun k h1 h2=>(hoth k h2).trans (hX.block k h1)
 have hsz:(w2.setCell ⟨wI.heap.size+1,2,none⟩ v).heap.size=w2.heap.size:=bf
 have h2:=(hX.block _ (by omega)).trans hu
 have hh:(w2.setCell ⟨wI.heap.size+1,2,none⟩ v).heap[wI.heap.size+1]?=some (.cells #[.int .i64 a.valid,u0,v] 26 (0,0)):=aJ (i:=2) (v:=v) h2
 have TH:∀ t,t≠26→t≠3→bD w (w2.setCell ⟨wI.heap.size+1,2,none⟩ v) t:=fun t h3 h4 k hk=>by
  obtain ⟨cs,fz,hk⟩:=hk
  have hne:k≠wI.heap.size+1:=fun e=>by subst e;exact dO hk ⟨_,_,hu⟩ h3
  refine (hoth k hne).trans ((hG.block k (Nat.lt_of_lt_of_le (lt_of_heap hk) hb.size) fun e=>?_).trans (hb.block k (lt_of_heap hk)))
  rcases hI with ⟨rfl,-⟩ | ⟨q,cap,cur,cs',fs,rfl,hq,-⟩
  ·cases e
  ·simp only [Value.ownBlock,Option.some.injEq] at e
   subst e
   exact dO hk ⟨_,_,hq⟩ h4
 have TI:eY (w2.setCell ⟨wI.heap.size+1,2,none⟩ v) (In B (w2.setCell ⟨wI.heap.size+1,2,none⟩ v).heap.size) v (a.seen ++ [x]):=by
  rw [hsz]
  exact jd hO fun k h1 _ _=>hoth k (by have:=h1.1;omega)
 obtain ⟨hS,EM,PD,ha,hq,-,hi⟩:=h.acc
 rw [hu] at ha
 simp only [Option.some.injEq,Obj.cells.injEq,Array.mk.injEq,List.cons.injEq,true_and,and_true] at ha
 obtain ⟨rfl,rfl⟩:=ha
 obtain ⟨c1,c2,c3,i,q,c4,c5,c6⟩:=h.cur
 have hd:Below w.heap.size w w:=Below.refl _ _
 refine ⟨⟨⟨c1,?_,c3,i,q,c4,c5,(hlow g (by omega) (by omega)).trans c6⟩,?_,(hlow _ (by omega) (by omega)).trans h.res,⟨hS,u0,v,hh,xK hq (fun k h1 _=>hlow k (TG k h1) fun e=>hS (e ▸ h1)) (TH _ (by decide) (by decide)) (TH _ (by decide) (by decide)),Ow.mono TI fun k h1=>⟨fun h2=>by have:=TG k h2;have:=h1.1;omega,h1.2⟩,hi⟩,h.inv,h.low,fun k hk=>by have:=h.high k hk;have:=hX.size;omega⟩,hh,TI⟩
 ·exact c2.trans ((hX.mono (by omega)).setCell (p:=⟨wI.heap.size+1,2,none⟩) (show w0.heap.size≤wI.heap.size+1 by omega) _)
 ·have hz:=hX.size
  exact ⟨hX.os.trans h.gr.os,hX.tape.trans h.gr.tape,hX.output.trans h.gr.output,Nat.le_trans h.gr.size (by omega),fun k hk hne=>(hlow k (by omega) (by omega)).trans (h.gr.block k hk hne)⟩
/-- It stays where one block that is not its own turns. -/
theorem gZ.other {K:Nat} (h:gZ w0 wI w g cv L a S) (hg:g < wI.heap.size) (hG:w.grownBy w' (some K)) (hK:wI.heap.size+2≤K) (hT:Ty w K 28) (hS:¬ S K):gZ w0 wI w' g cv L a S:=by
 have hb:∀ k,k < w.heap.size→k≠K→w'.heap[k]?=w.heap[k]?:=fun k h1 h2=>hG.block k h1 (by simpa using h2)
 have hs:∀ t,t≠28→bD w w' t:=fun t ht k hk=>hb k (jS hk) fun e=>by
  subst e
  obtain ⟨cs,fz,hk⟩:=hk
  exact dO hk hT ht
 obtain ⟨c1,c2,c3,i,q,c4,c5,c6⟩:=h.cur
 have hl:=h.acc.lt
 have hz:=h.gr.size
 refine ⟨⟨c1,⟨hG.os.trans c2.os,hG.tape.trans c2.tape,hG.output.trans c2.output,Nat.le_trans c2.size hG.size,fun k hk=>(hb k (by omega) (by omega)).trans (c2.block k hk)⟩,c3,i,q,c4,c5,(hb g (by omega) (by omega)).trans c6⟩,⟨hG.os.trans h.gr.os,hG.tape.trans h.gr.tape,hG.output.trans h.gr.output,Nat.le_trans hz hG.size,fun k hk hne=>(hb k (by omega) (by omega)).trans (h.gr.block k hk hne)⟩,(hb _ (lt_of_heap h.res) (by omega)).trans h.res,h.acc.pU hG.size (hb _ hl (by omega)) (fun k h1 h2=>hb k h2 fun e=>hS (e ▸ h1)) (hs _ (by decide)) (hs _ (by decide)) (hs _ (by decide)),h.inv,h.low,fun k hk=>Nat.lt_of_lt_of_le (h.high k hk) hG.size⟩
end
/- What adb of package spec draws: an account, in blocks of its own. -/
/-- The command behind x: where it lies, how it is read. -/
def L9 (w:World) (k:Nat) (c:dS):Prop:=c.bx.length≤6∧c.tx.length≤30∧∃ s0 m0 q0 s1 m1 q1 s2 m2 q2,w.heap[k]?=some (.cells #[.int .i64 c.k,.slice s0 m0 q0,.slice s1 m1 q1,.int .i64 c.uid,.int .i64 c.mode,.int .i64 c.fl,.int .i64 c.si,.slice s2 m2 q2] 28 (0,0))∧qK w (.agg #[.int .i64 c.k,.slice s0 m0 q0,.slice s1 m1 q1,.int .i64 c.uid,.int .i64 c.mode,.int .i64 c.fl,.int .i64 c.si,.slice s2 m2 q2]) c
theorem ade {k uid mode fl si:Int} {bx tt tx:List Int} (h:dK k bx tt uid mode fl si tx=true):bx.length≤6∧tx.length≤30:=by
 simp only [dK,Bool.and_eq_true] at h
 obtain ⟨⟨⟨⟨⟨⟨⟨-,h1⟩,-⟩,-⟩,-⟩,-⟩,-⟩,h2⟩:=h
 constructor
 ·split at h1
  ·have:=of_decide_eq_true h1;omega
  ·exact (U2 h1).2
 ·split at h2
  ·unfold dU at h2
   simp only [Bool.and_eq_true,decide_eq_true_eq] at h2
   exact h2.1
  ·have:=of_decide_eq_true h2;omega
/-- Nothing that it has seen lies anywhere. -/
def mP (w:World) (k:Nat):Prop:=w.cell? ⟨k,2,none⟩=some (.slice none 0 0)
theorem mP.gb {w w':World} {k K:Nat} (h:mP w k) (hG:w.grownBy w' (some K)) (hk:k < w.heap.size) (hne:k≠K):mP w' k:=by
 unfold mP World.cell? at h ⊢
 rw [hG.block k hk (by simpa using hne)]
 exact h
/-- The account behind the variable, as it is taken. -/
theorem gZ.nil {w0 wI w:World} {g:Nat} {cv:Value} {L:List Int} {a:aF} {S:Nat→Prop} {B:Nat} (h:gZ w0 wI w g cv L a S) (hn:mP w (wI.heap.size+1)):∃ u0:Value,w.heap[wI.heap.size+1]?=some (.cells #[.int .i64 a.valid,u0,.slice none 0 0] 26 (0,0))∧eY w (In B w.heap.size) (.slice none 0 0) a.seen∧a.seen.length=0:=by
 obtain ⟨-,u0,u1,hh,-,hs,-⟩:=h.acc
 have h2:=(bM hh).2.2
 rw [show w.cell? ⟨wI.heap.size+1,2,none⟩=_ from hn] at h2
 cases h2
 rcases hs with ⟨-,h1⟩ | ⟨q,cap,cur,cs,fs,hv,-⟩
 ·exact ⟨u0,hh,.inl ⟨rfl,h1⟩,by rw [h1];rfl⟩
 ·cases hv
/-- What it has seen lies in blocks made since. -/
def Gm (wI w:World) (a:aF):Prop:=∃ u0 u1:Value,w.heap[wI.heap.size+1]?=some (.cells #[.int .i64 a.valid,u0,u1] 26 (0,0))∧eY w (In (wI.heap.size+2) w.heap.size) u1 a.seen∧a.seen.length≤5
theorem Gm.nil {w0 wI w:World} {g:Nat} {cv:Value} {L:List Int} {a:aF} {S:Nat→Prop} (h:gZ w0 wI w g cv L a S) (hn:mP w (wI.heap.size+1)):Gm wI w a :=
 let ⟨u0,h0,h1,h2⟩:=gZ.nil (B:=wI.heap.size+2) h hn
 ⟨u0,_,h0,h1,by omega⟩
theorem adf {w:World} {S S':Nat→Prop} {v:Value} {l:List Int} (h:eY w S v l) (h':eY w S' v l):eY w (fun k=>S k∧S' k) v l:=by
 rcases h with h | ⟨g,cap,cur,cs,fs,hv,hh,h1,h2,h3,h4,h5,h6,h7⟩
 ·exact .inl h
 ·rcases h' with ⟨e,-⟩ | ⟨g',cap',cur',cs',fs',hv',-,-,-,-,k4,-⟩
  ·rw [hv] at e;cases e
  ·rw [hv] at hv'
   simp only [Value.slice.injEq,Option.some.injEq,Addr.mk.injEq,true_and,and_true] at hv'
   obtain ⟨rfl,-⟩:=hv'
   exact .inr ⟨g,cap,cur,cs,fun _ _=>False,hv,hh,h1,h2,h3,⟨h4,k4⟩,h5,fun _ _ _ h=>h.elim,fun _ _ _ _ _ _ h=>h.elim⟩
/-- The command that makes the first box. -/
theorem adg {w0 w w3 w4:World} {g K:Nat} {cv:Value} {L:List Int} {a:aF} {S:Nat→Prop} {e0 e1 e2 e3 e4 e5 e6 e7:Value} (hA:gZ w0 w w3 g cv L a S) (hN:mP w3 (w.heap.size+1)) (hgl:g < w.heap.size) (b4:Below w3.heap.size w3 w4) (hk:w4.heap[K]?=some (.cells #[e0,e1,e2,e3,e4,e5,e6,e7] 28 (0,0))) (qx:bZ w4 w3.heap.size (.slice (some ⟨w3.heap.size,0,none⟩) 5 5) [105,110,98,111,120]) (hS:¬ S K) (hK:w.heap.size+1 < K) (hK3:K < w3.heap.size) :
  ∃ c:dS,Hid (L9 ((((((((w4.setCell ⟨K,0,none⟩ (.int .i64 0)).setCell ⟨K,1,none⟩ (.slice (some ⟨w3.heap.size,0,none⟩) 5 5)).setCell ⟨K,2,none⟩ (.slice none 0 0)).setCell ⟨K,3,none⟩ (.int .i64 0)).setCell ⟨K,4,none⟩ (.int .i64 0)).setCell ⟨K,5,none⟩ (.int .i64 0)).setCell ⟨K,6,none⟩ (.int .i64 0)).setCell ⟨K,7,none⟩ (.slice none 0 0)) K c)∧Hid (gZ w0 w ((((((((w4.setCell ⟨K,0,none⟩ (.int .i64 0)).setCell ⟨K,1,none⟩ (.slice (some ⟨w3.heap.size,0,none⟩) 5 5)).setCell ⟨K,2,none⟩ (.slice none 0 0)).setCell ⟨K,3,none⟩ (.int .i64 0)).setCell ⟨K,4,none⟩ (.int .i64 0)).setCell ⟨K,5,none⟩ (.int .i64 0)).setCell ⟨K,6,none⟩ (.int .i64 0)).setCell ⟨K,7,none⟩ (.slice none 0 0)) g cv L a S)∧Hid (mP ((((((((w4.setCell ⟨K,0,none⟩ (.int .i64 0)).setCell ⟨K,1,none⟩ (.slice (some ⟨w3.heap.size,0,none⟩) 5 5)).setCell ⟨K,2,none⟩ (.slice none 0 0)).setCell ⟨K,3,none⟩ (.int .i64 0)).setCell ⟨K,4,none⟩ (.int .i64 0)).setCell ⟨K,5,none⟩ (.int .i64 0)).setCell ⟨K,6,none⟩ (.int .i64 0)).setCell ⟨K,7,none⟩ (.slice none 0 0)) (w.heap.size+1)):=by
 have G5:=jk 7 (.slice none 0 0) (jk 6 (.int .i64 0) (jk 5 (.int .i64 0) (jk 4 (.int .i64 0) (jk 3 (.int .i64 0) (jk 2 (.slice none 0 0) (jk 1 (.slice (some ⟨w3.heap.size,0,none⟩) 5 5) (jk 0 (.int .i64 0) (World.grownBy.refl w4 (some K)))))))))
 refine ⟨⟨0,[105,110,98,111,120],[],0,0,0,0,[]⟩,⟨by decide,by decide,_,_,_,_,_,_,_,_,_,Io hk,_,_,_,rfl,nQ.stay (nQ.gb (.inr ⟨_,qx⟩) G5 (by simp only [Value.ownBlock,ne_eq,Option.some.injEq];omega)),nQ.stay (.inl ⟨rfl,rfl⟩),nQ.stay (.inl ⟨rfl,rfl⟩),aI,aI,aI,aI,aI⟩,(hA.below b4).other hgl G5 (by omega) ⟨_,_,hk⟩ hS,mP.gb (mP.gb hN (gy (World.grownBy.refl w3 (some K)) b4) hA.acc.lt (by omega)) G5 (hA.below b4).acc.lt (by omega)⟩
theorem adh (w0 w:World) (g:Nat) (cv:Value) (L:List Int) (hc:bN w0 w g cv L) :
  Calls Tryz.prog 29 #[.pointer (some ⟨g,0,none⟩)] w fun e w'=>∃ (a:aF) (S:Nat→Prop) (u0 u1:Value),e=.returned (.agg #[.int .i64 a.valid,u0,u1])∧iK w' S u0 a.boxes∧eY w' (fun k=>(¬ S k∧w.heap.size≤k)∧k < w'.heap.size) u1 a.seen∧ay a.valid∧kY a∧(∀ k,S k→w.heap.size≤k)∧bN w0 w' g cv L∧w.grownBy w' (some g)∧a.seen.length≤5:=by
 have hgl:=hc.lt.2
 have AB:Below w.heap.size w ((w.alloc (.cells #[.int .i64 0,.slice none 0 0,.slice none 0 0] 26)).alloc (.cells #[.int .i64 0,.slice none 0 0,.slice none 0 0] 26)):=(bn _ _).alloc (by simp) _
 have Ma:Hid (((w.alloc (.cells #[.int .i64 0,.slice none 0 0,.slice none 0 0] 26)).alloc (.cells #[.int .i64 0,.slice none 0 0,.slice none 0 0] 26)).heap[w.heap.size]?=some (.cells #[.int .i64 0,.slice none 0 0,.slice none 0 0] 26 (0,0))):=aB (bn _ _) (aW w _)
 have gW:Hid (((w.alloc (.cells #[.int .i64 0,.slice none 0 0,.slice none 0 0] 26)).alloc (.cells #[.int .i64 0,.slice none 0 0,.slice none 0 0] 26)).heap[w.heap.size+1]?=some (.cells #[.int .i64 0,.slice none 0 0,.slice none 0 0] 26 (0,0))):=by
  have h:=aW (w.alloc (.cells #[.int .i64 0,.slice none 0 0,.slice none 0 0] 26)) (.cells #[.int .i64 0,.slice none 0 0,.slice none 0 0] 26)
  rw [show (w.alloc (.cells #[.int .i64 0,.slice none 0 0,.slice none 0 0] 26)).heap.size=w.heap.size+1 by simp] at h
  exact h
 have HC:=aD (hc.below AB)
 have HG:=aD (gy (World.grownBy.refl w (some g)) AB)
 clear hc AB
 go_enter Tryz.func29,Tryz.ntmps29
 go_wp2_with fail
 refine (kQ w0 _ g cv L 22 HC.out (by omega) (by omega)).mono ?_
 rintro e w1 ⟨n,rfl,hn0,hn1,C1,G1⟩
 have HA:Hid (gZ w0 w w1 g cv L ⟨0,[],[]⟩ (fun _=>False)):=by
  have h1:=(G1.block (w.heap.size+1) (lt_of_heap gW.out) (by simp;omega)).trans gW.out
  exact ⟨C1,wN HG.out G1,(G1.block _ (lt_of_heap Ma.out) (by simp;omega)).trans Ma.out,⟨fun h=>h,_,_,h1,.inl ⟨rfl,rfl⟩,.inl ⟨rfl,rfl⟩,aI⟩,⟨by simp,by simp⟩,fun _ h=>h.elim,fun _ h=>h.elim⟩
 have HN:Hid (mP w1 (w.heap.size+1)):=(bM ((G1.block (w.heap.size+1) (lt_of_heap gW.out) (by simp;omega)).trans gW.out)).2.2
 clear Ma gW HC HG C1 G1
 go_wp2_with fail
 go_loopw [5,6] (fun iv xv wr=>∃ (i:Nat) (a:aF) (S:Nat→Prop),iv=.int .i64 i∧(i:Int)≤n∧Hid (gZ w0 w wr g cv L a S)∧Hid (mP wr (w.heap.size+1))) (fun iv xv _=>n.toNat - (intOf iv).toNat)
 case atStart=>exact ⟨0,_,_,rfl,hn0,HA,HN⟩
 case round =>
  clear HA HN
  obtain ⟨i,a,S,rfl,hi,HA,HN⟩:=hrel
  by_cases hlt:(i:Int) < n
  ·go_wp2_with fail
   refine (TA w0 _ g cv L HA.out.cur).mono ?_
   rintro e w2 ⟨u,rfl,c,hv,hcb,C2,G2,hW⟩
   have zZ:=aD (TF hW hv)
   have hsh:=ade hcb
   have HA2:=aD (HA.out.draw hgl C2 G2)
   have uI:=aD (HN.out.gb G2 HA.out.acc.lt (by omega))
   obtain ⟨s0,m0,q0,s1,m1,q1,v2,rfl,-⟩:=hW
   obtain ⟨y0,y1,y2,e0,-,-,hb2,-⟩:=zZ.out
   simp only [Value.agg.injEq,Array.mk.injEq,List.cons.injEq,and_true,true_and] at e0
   obtain ⟨-,-,rfl⟩:=e0
   obtain ⟨s2,m2,q2,rfl⟩:=hb2.bs.aG
   clear hb2 hv hcb C2 G2 HA HN
   have AB:Below w2.heap.size w2 (w2.alloc (.cells #[.int .i64 c.k,.slice s0 m0 q0,.slice s1 m1 q1,.int .i64 c.uid,.int .i64 c.mode,.int .i64 c.fl,.int .i64 c.si,.slice s2 m2 q2] 28)):=bn _ _
   have HX:Hid (L9 (w2.alloc (.cells #[.int .i64 c.k,.slice s0 m0 q0,.slice s1 m1 q1,.int .i64 c.uid,.int .i64 c.mode,.int .i64 c.fl,.int .i64 c.si,.slice s2 m2 q2] 28)) w2.heap.size c):=⟨hsh.1,hsh.2,_,_,_,_,_,_,_,_,_,aW w2 _,zZ.out.below AB⟩
   have dZ:=aD (HA2.out.below AB)
   have mJ:Hid (mP (w2.alloc (.cells #[.int .i64 c.k,.slice s0 m0 q0,.slice s1 m1 q1,.int .i64 c.uid,.int .i64 c.mode,.int .i64 c.fl,.int .i64 c.si,.slice s2 m2 q2] 28)) (w.heap.size+1)):=(AB.cell (p:=⟨w.heap.size+1,2,none⟩) HA2.out.acc.lt).trans uI.out
   have hk2:w.heap.size+1 < w2.heap.size:=HA2.out.acc.lt
   have HS2:Hid (¬ S w2.heap.size):=fun h=>absurd (HA2.out.high _ h) (Nat.lt_irrefl _)
   clear zZ hsh HA2 uI AB
   go_upto_if 20 with fail
   go_cut [] (fun wx=>∃ c:dS,Hid (L9 wx w2.heap.size c)∧Hid (gZ w0 w wx g cv L a S)∧Hid (mP wx (w.heap.size+1)))
   case first =>
    generalize hW3:w2.alloc (.cells #[.int .i64 c.k,.slice s0 m0 q0,.slice s1 m1 q1,.int .i64 c.uid,.int .i64 c.mode,.int .i64 c.fl,.int .i64 c.si,.slice s2 m2 q2] 28)=w3 at HX dZ mJ ⊢
    clear hW3
    by_cases h0:i=0
    ·have FD:((i:Int) == 0)=true:=by simp [h0]
     obtain ⟨w4,hcs,qx,b4⟩:∃ w',Sem.run Tryz.prog (convert 22 22 (.slice (some ⟨w3.heap.size,0,none⟩) 5 5)) (w3.alloc (.cells #[.int .u8 105,.int .u8 110,.int .u8 98,.int .u8 111,.int .u8 120] 5))=.ok (.slice (some ⟨w3.heap.size,0,none⟩) 5 5) w'∧bZ w' w3.heap.size (.slice (some ⟨w3.heap.size,0,none⟩) 5 5) [105,110,98,111,120]∧Below w3.heap.size w3 w':=LY w3 [105,110,98,111,120] (by intro x hx;simp at hx;omega) (by decide)
     obtain ⟨-,-,t0,p0,r0,t1,p1,r1,t2,p2,r2,hk,-⟩:=HX.out
     have hk4:=aB b4 hk
     obtain ⟨f0,f1,f2,f3,f4,f5,f6,f7,f8⟩:=bQ hk4
     have fz:=(aZ hk4).1
     have HQ:=aD qx
     have gL:=aD b4
     have ji:=aD hk4
     have hk3:=lt_of_heap hk
     clear HX hk hk4 qx b4
     go_wp2
     go_meet
     case rel=>exact adg dZ.out mJ.out hgl gL.out ji.out HQ.out HS2.out hk2 hk3
    ·have FD:((i:Int) == 0)=false:=by simp;omega
     go_wp2
     go_meet
     case rel=>exact ⟨c,HX,dZ,mJ⟩
   case rest =>
    obtain ⟨c,HX,HA,HN⟩:=hcut
    obtain ⟨hb6,adi,s0,m0,q0,s1,m1,q1,s2,m2,q2,hk,hcs⟩:=HX.out
    have zZ:=aD hcs
    obtain ⟨f0,f1,f2,f3,f4,f5,f6,f7,f8⟩:=bQ hk
    clear hk hcs HX dZ mJ HS2
    go_wp2_with fail
    refine (ac9 (w.heap.size+1) a c S _ _ HA.out.acc zZ.out ⟨by omega,by omega⟩ (fun x hx=>(HA.out.inv.2 x hx).sz) (by have:=HA.out.inv.1;omega)).mono ?_
    rintro e w5 ⟨u,S',rfl,-,hT,hA',hS'⟩
    have lT:=aD (HA.out.turn hgl hT hA' hS' (KQ HA.out.inv hb6 adi))
    have Ei:Hid (mP w5 (w.heap.size+1)):=(hT.2.2.2.2.2.2.2 HA.out.acc.lt HA.out.acc.1).trans HN.out
    clear zZ hT hA' hS' HA HN f0 f1 f2 f3 f4 f5 f6 f7 f8
    go_wp2
    go_roundw
    case rel=>exact ⟨i+1,_,_,by go_num,by omega,lT,Ei⟩
    case measure=>simp [intOf];omega
  ·obtain rfl:n=i:=by omega
   go_wp2_with fail
   refine (Es w0 _ g cv L 3 HA.out.cur (by omega) (by omega)).mono ?_
   rintro e w2 ⟨y,rfl,C2,G2⟩
   have HA2:=aD (HA.out.draw hgl C2 G2)
   have uI:=aD (HN.out.gb G2 HA.out.acc.lt (by omega))
   clear HA HN C2 G2
   go_upto_if 27 with fail
   go_cut [] (fun wx=>∃ (a:aF) (S:Nat→Prop),Hid (gZ w0 w wx g cv L a S)∧Hid (Gm w wx a))
   case first =>
    cases y
    ·go_wp2
     go_meet
     case rel=>exact ⟨a,S,HA2,Gm.nil HA2.out uI.out⟩
    ·go_wp2_with fail
     refine (kQ w0 _ g cv L 5 HA2.out.cur (by omega) (by omega)).mono ?_
     rintro e w3 ⟨m,rfl,hm0,hm1,C3,G3⟩
     have dZ:=aD (HA2.out.draw hgl C3 G3)
     have mJ:=aD (uI.out.gb G3 HA2.out.acc.lt (by omega))
     have kW:=aD dZ.out.high
     obtain ⟨u0,hk,hI,hz⟩:=gZ.nil (B:=w3.heap.size) dZ.out mJ.out
     have HK:=aD hk
     have HI:=aD hI
     have hB:w.heap.size+2≤w3.heap.size:=by have:=dZ.out.acc.lt;omega
     clear HA2 uI mJ C3 G3 hk hI
     obtain ⟨i0,hi,hz0,hz1,hz2⟩:=info_parts Hl
     go_wp2_with fail
     go_loopw [7,9] (fun kv iv wr=>∃ (k j:Nat) (a:aF) (u0 u1:Value),kv=.int .i64 k∧iv=.int .i64 j∧(j:Int)≤m∧k≤1+3 * j∧a.seen.length=j∧w3.heap.size≤wr.heap.size∧Hid (gZ w0 w wr g cv L a S)∧Hid (wr.heap[w.heap.size+1]?=some (.cells #[.int .i64 a.valid,u0,u1] 26 (0,0)))∧Hid (eY wr (In w3.heap.size wr.heap.size) u1 a.seen)) (fun kv iv _=>m.toNat - (intOf iv).toNat)
     case atStart=>exact ⟨1,0,a,_,_,rfl,rfl,hm0,by omega,hz,Nat.le_refl _,dZ,HK,HI⟩
     case round =>
      clear dZ HK HI hz
      obtain ⟨k,j,a,u0,u1,rfl,rfl,hj,hk,hl,hsz,HA,HK,HI⟩:=hrel
      by_cases hlt:(j:Int) < m
      ·have AB:Below wr.heap.size wr (wr.alloc (.cells #[.int .i64 k] 3)):=bn _ _
       have hO:eY (wr.alloc (.cells #[.int .i64 k] 3)) (In w3.heap.size wr.heap.size) u1 a.seen:=jd HI.out fun k _ h _=>AB.block k h
       obtain ⟨ua,un,uc,rfl⟩:∃ ua un uc,u1=.slice ua un uc:=by
        rcases HI.out with ⟨h,-⟩ | ⟨q,cap,cur,cs,fs,h,-⟩ <;> exact ⟨_,_,_,h⟩
       obtain ⟨f0,f1,f2⟩:=bM HK.out
       have hlk:=lt_of_heap HK.out
       have hM:wr.heap.size≤(wr.alloc (.cells #[.int .i64 k] 3)).heap.size:=AB.size
       have hp1:a.seen.length+1≤maxLen:=by unfold maxLen;omega
       have hp2:(a.seen.length+1) * 8≤140737488355328:=by omega
       have hone:∀ u ∈ [Value.int .i64 (k:Int)],u.oneCell'=true:=by simp [Value.oneCell']
       have hki:ay (k:Int):=⟨by omega,by omega⟩
       go_wp2_with (at_builtin;refine yR rfl (.tmp 36) (.tmp 38) rfl tL (B:=w3.heap.size) (M:=wr.heap.size) hO hM hsz Tryz.underlying24 hi hz0 hz1 hz2 rfl (by omega) rfl (k:Int) [.int .i64 k] rfl ⟨rfl,hki⟩ ⟨wr.heap.size,0,none⟩ 1 rfl (kH wr _ _) hone hp1 hp2 ?_)
       intro V w4 hO4 hG4 hv4
       obtain ⟨oa,on,oc,rfl⟩:∃ ua un uc,V=.slice ua un uc:=by
        rcases hO4 with ⟨h,-⟩ | ⟨q,cap,cur,cs,fs,h,-⟩ <;> exact ⟨_,_,_,h⟩
       obtain ⟨h5,h6,h7⟩:=HA.out.push hgl HK.out HI.out kW.out hB hsz AB hO4 hG4 hv4
       have hsz5:w3.heap.size≤(w4.setCell ⟨w.heap.size+1,2,none⟩ (.slice oa on oc)).heap.size:=by rw [bf];have:=hG4.size;omega
       have lT:=aD h5
       have sN:=aD h6
       have TJ:=aD h7
       have hk4:w4.heap[w.heap.size+1]?=some (.cells #[.int .i64 a.valid,u0,.slice ua un uc] 26 (0,0)):=(l5 hG4 (fun g h=>(hv4 g h).1) (aB AB HK.out) (by omega))
       have fz:=(aZ hk4).1
       have adj:=lt_of_heap hk4
       obtain ⟨e0,e1,e2⟩:=bM hk4
       clear h5 h6 h7 hO4 hG4 hv4 hO AB hone HA HK HI f0 f1 f2 hk4
       go_wp2_with fail
       refine (kQ w0 _ g cv L 3 lT.out.cur (by omega) (by omega)).mono ?_
       rintro e w6 ⟨x,rfl,hx0,hx1,C6,G6⟩
       have jF:=aD (lT.out.draw hgl C6 G6)
       have yg:=aD ((G6.block _ (lt_of_heap sN.out) (by simp;omega)).trans sN.out)
       have HI6:Hid (eY w6 (In w3.heap.size w6.heap.size) (.slice oa on oc) (a.seen ++ [(k:Int)])):=Ow.mono (jd TJ.out fun k h1 h2 _=>G6.block k h2 (by have:=h1.1;simp;omega)) fun k h=>⟨h.1,Nat.lt_of_lt_of_le h.2 G6.size⟩
       have adl:=Nat.le_trans hsz5 G6.size
       obtain ⟨x,rfl⟩:∃ n:Nat,x=n:=⟨x.toNat,by omega⟩
       clear lT sN TJ C6 G6 e0 e1 e2 fz adj
       go_wp2
       go_roundw
       case rel=>exact ⟨k+1+x,j+1,_,_,_,by go_num,by go_num,by omega,by omega,by simp;omega,adl,jF,yg,HI6⟩
       case measure=>simp [intOf];omega
      ·go_wp2
       go_meet
       case rel=>exact ⟨_,_,HA,_,_,HK.out,Ow.mono HI.out fun k h=>⟨by have:=h.1;omega,h.2⟩,by omega⟩
   case rest =>
    obtain ⟨a,S,HA,HS⟩:=hcut
    obtain ⟨Dm,u0,u1,hk,hq,hs0,zm⟩:=HA.out.acc
    obtain ⟨v0,v1,hk',hs1,hsl⟩:=HS.out
    rw [hk] at hk'
    simp only [Option.some.injEq,Obj.cells.injEq,Array.mk.injEq,List.cons.injEq,true_and,and_true] at hk'
    obtain ⟨rfl,rfl⟩:=hk'
    have hs:=adf hs0 hs1
    clear hs0 hs1 HS
    obtain ⟨a0,c0,rfl,-⟩:=hq.v.form
    obtain ⟨a1,n1,c1,rfl⟩:∃ ua un uc,u1=.slice ua un uc:=by
     rcases hs with ⟨h,-⟩ | ⟨q,cap,cur,cs,fs,h,-⟩ <;> exact ⟨_,_,_,h⟩
    obtain ⟨f0,f1,f2⟩:=bM hk
    have hr:=HA.out.res
    obtain ⟨r0,r1,r2⟩:=bM hr
    have fz:=(aZ hr).1
    have hlr:=lt_of_heap hr
    have hlk:=lt_of_heap hk
    have G:wc.grownBy (((wc.setCell ⟨w.heap.size,0,none⟩ (.int .i64 a.valid)).setCell ⟨w.heap.size,1,none⟩ (.slice a0 a.boxes.length c0)).setCell ⟨w.heap.size,2,none⟩ (.slice a1 n1 c1)) (some w.heap.size):=jk 2 _ (jk 1 _ (jk 0 _ (World.grownBy.refl wc (some w.heap.size))))
    have KF:Hid ((((wc.setCell ⟨w.heap.size,0,none⟩ (.int .i64 a.valid)).setCell ⟨w.heap.size,1,none⟩ (.slice a0 a.boxes.length c0)).setCell ⟨w.heap.size,2,none⟩ (.slice a1 n1 c1)).heap[w.heap.size]?=some (.cells #[.int .i64 a.valid,.slice a0 a.boxes.length c0,.slice a1 n1 c1] 26 (0,0))):=aJ (i:=2) (v:=.slice a1 n1 c1) (aJ (i:=1) (v:=.slice a0 a.boxes.length c0) (aJ (i:=0) (v:=.int .i64 a.valid) hr))
    have b3:Below w.heap.size wc (((wc.setCell ⟨w.heap.size,0,none⟩ (.int .i64 a.valid)).setCell ⟨w.heap.size,1,none⟩ (.slice a0 a.boxes.length c0)).setCell ⟨w.heap.size,2,none⟩ (.slice a1 n1 c1)):=(((Below.refl w.heap.size wc).setCell (p:=⟨w.heap.size,0,none⟩) (Nat.le_refl _) _).setCell (p:=⟨w.heap.size,1,none⟩) (Nat.le_refl _) _).setCell (p:=⟨w.heap.size,2,none⟩) (Nat.le_refl _) _
    have hst:∀ t,t≠26→bD wc (((wc.setCell ⟨w.heap.size,0,none⟩ (.int .i64 a.valid)).setCell ⟨w.heap.size,1,none⟩ (.slice a0 a.boxes.length c0)).setCell ⟨w.heap.size,2,none⟩ (.slice a1 n1 c1)) t:=fun t ht k hk=>G.block k (jS hk) (by
     simp only [ne_eq,Option.some.injEq]
     intro e
     subst e
     obtain ⟨cs,fz,hk⟩:=hk
     exact dO hk ⟨_,_,hr⟩ ht)
    have HQ:=aD (xK hq (fun k h1 h2=>G.block k h2 (by have:=HA.out.low k h1;simp;omega)) (hst _ (by decide)) (hst _ (by decide)))
    have HI:Hid (eY (((wc.setCell ⟨w.heap.size,0,none⟩ (.int .i64 a.valid)).setCell ⟨w.heap.size,1,none⟩ (.slice a0 a.boxes.length c0)).setCell ⟨w.heap.size,2,none⟩ (.slice a1 n1 c1)) (fun k=>(¬ S k∧w.heap.size≤k)∧k < ((((wc.setCell ⟨w.heap.size,0,none⟩ (.int .i64 a.valid)).setCell ⟨w.heap.size,1,none⟩ (.slice a0 a.boxes.length c0)).setCell ⟨w.heap.size,2,none⟩ (.slice a1 n1 c1))).heap.size) (.slice a1 n1 c1) a.seen):=Ow.mono (jd hs fun k _ _ hT=>hst _ (by decide) k hT) fun k h=>⟨⟨h.1.1,by have:=h.2.1;omega⟩,Nat.lt_of_lt_of_le h.1.2 G.size⟩
    have uQ:=aD (Gj HA.out.cur b3 hgl)
    have HGF:=aD (L8 HA.out.gr b3 (Nat.le_refl _))
    clear G b3 hst hq hs hr hk
    go_wp2
    obtain ⟨e0,e1,e2⟩:=bM KF.out
    exact bodyPost_ret (v:=.agg #[.int .i64 a.valid,.slice a0 a.boxes.length c0,.slice a1 n1 c1]) (by simp [results,Tryz.results29,go_sem,e0,e1,e2]) rfl ⟨a,S,_,_,rfl,HQ.out,HI.out,zm,HA.out.inv,fun k h=>by have:=HA.out.low k h;omega,uQ.out,HGF.out,hsl⟩
end Go.Proofs.YtmglhdkeidhafaaGreat
