/- The proof's texts, part 44. -/
import Derived.Test.YtnlhkgoppjejeaaDoorPart43
import Derived.Test.YtnlhkgoppjejeaaDoorPart24
import Derived.Deep.DeepCutAuto
import Derived.Deep.CutBlock

/- What l3account of package spec draws: an account, in blocks of its own. -/
namespace Go.Proofs.YtnlhkgoppjejeaaDoor
open Go.RowKit
set_option maxRecDepth 100000
set_option linter.unusedVariables false
set_option linter.unusedSimpArgs false

/-- The command behind x: where it lies, how it is read. -/
def XCmd (w:World) (k:Nat) (c:CmdD):Prop:=c.bx.length≤6∧c.tx.length≤30∧∃ s0 m0 q0 s1 m1 q1 s2 m2 q2,w.heap[k]?=some (.cells #[.int .i64 c.k,.slice s0 m0 q0,.slice s1 m1 q1,.int .i64 c.uid,.int .i64 c.mode,.int .i64 c.fl,.int .i64 c.si,.slice s2 m2 q2] 80 (0,0))∧CmdS w (.agg #[.int .i64 c.k,.slice s0 m0 q0,.slice s1 m1 q1,.int .i64 c.uid,.int .i64 c.mode,.int .i64 c.fl,.int .i64 c.si,.slice s2 m2 q2]) c
theorem cmd_short {k uid mode fl si:Int} {bx tt tx:List Int} (h:cmdB k bx tt uid mode fl si tx=true):bx.length≤6∧tx.length≤30:=by
 simp only [cmdB,Bool.and_eq_true] at h
 obtain ⟨⟨⟨⟨⟨⟨⟨-,h1⟩,-⟩,-⟩,-⟩,-⟩,-⟩,h2⟩:=h
 constructor
 ·split at h1
  ·have:=of_decide_eq_true h1;omega
  ·exact (nameB_len h1).2
 ·split at h2
  ·unfold textB at h2
   simp only [Bool.and_eq_true,decide_eq_true_eq] at h2
   exact h2.1
  ·have:=of_decide_eq_true h2;omega
/-- Nothing that it has seen lies anywhere. -/
def NilS (w:World) (k:Nat):Prop:=w.cell? ⟨k,2,none⟩=some (.slice none 0 0)
theorem NilS.gb {w w':World} {k K:Nat} (h:NilS w k) (hG:w.grownBy w' (some K)) (hk:k < w.heap.size) (hne:k≠K):NilS w' k:=by
 unfold NilS World.cell? at h ⊢
 rw [hG.block k hk (by simpa using hne)]
 exact h
/-- The account behind the variable, as it is taken. -/
theorem ASt.nil {w0 wI w:World} {g:Nat} {cv:Value} {L:List Int} {a:AccD} {S:Nat→Prop} {B:Nat} (h:ASt w0 wI w g cv L a S) (hn:NilS w (wI.heap.size+1)):∃ u0:Value,w.heap[wI.heap.size+1]?=some (.cells #[.int .i64 a.valid,u0,.slice none 0 0] 26 (0,0))∧IntsO w (In B w.heap.size) (.slice none 0 0) a.seen∧a.seen.length=0:=by
 obtain ⟨-,u0,u1,hh,-,hs,-⟩:=h.acc
 have h2:=(bx3 hh).2.2
 rw [show w.cell? ⟨wI.heap.size+1,2,none⟩=_ from hn] at h2
 cases h2
 rcases hs with ⟨-,h1⟩ | ⟨q,cap,cur,cs,fs,hv,-⟩
 ·exact ⟨u0,hh,.inl ⟨rfl,h1⟩,by rw [h1];rfl⟩
 ·cases hv

/-- What it has seen lies in blocks made since. -/
def SeenS (wI w:World) (a:AccD):Prop:=∃ u0 u1:Value,w.heap[wI.heap.size+1]?=some (.cells #[.int .i64 a.valid,u0,u1] 26 (0,0))∧IntsO w (In (wI.heap.size+2) w.heap.size) u1 a.seen∧a.seen.length≤5
theorem SeenS.nil {w0 wI w:World} {g:Nat} {cv:Value} {L:List Int} {a:AccD} {S:Nat→Prop} (h:ASt w0 wI w g cv L a S) (hn:NilS w (wI.heap.size+1)):SeenS wI w a :=
 let ⟨u0,h0,h1,h2⟩:=ASt.nil (B:=wI.heap.size+2) h hn
 ⟨u0,_,h0,h1,by omega⟩
theorem ints_and {w:World} {S S':Nat→Prop} {v:Value} {l:List Int} (h:IntsO w S v l) (h':IntsO w S' v l):IntsO w (fun k=>S k∧S' k) v l:=by
 rcases h with h | ⟨g,cap,cur,cs,fs,hv,hh,h1,h2,h3,h4,h5,h6,h7⟩
 ·exact .inl h
 ·rcases h' with ⟨e,-⟩ | ⟨g',cap',cur',cs',fs',hv',-,-,-,-,k4,-⟩
  ·rw [hv] at e;cases e
  ·rw [hv] at hv'
   simp only [Value.slice.injEq,Option.some.injEq,Addr.mk.injEq,true_and,and_true] at hv'
   obtain ⟨rfl,-⟩:=hv'
   exact .inr ⟨g,cap,cur,cs,fun _ _=>False,hv,hh,h1,h2,h3,⟨h4,k4⟩,h5,fun _ _ _ h=>h.elim,fun _ _ _ _ _ _ h=>h.elim⟩
/-- The command that makes the first box. -/
theorem inbox_end {w0 w w3 w4:World} {g K:Nat} {cv:Value} {L:List Int} {a:AccD} {S:Nat→Prop} {e0 e1 e2 e3 e4 e5 e6 e7:Value} (hA:ASt w0 w w3 g cv L a S) (hN:NilS w3 (w.heap.size+1)) (hgl:g < w.heap.size) (b4:Below w3.heap.size w3 w4) (hk:w4.heap[K]?=some (.cells #[e0,e1,e2,e3,e4,e5,e6,e7] 80 (0,0))) (qx:OwnQ w4 w3.heap.size (.slice (some ⟨w3.heap.size,0,none⟩) 5 5) [105,110,98,111,120]) (hS:¬ S K) (hK:w.heap.size+1 < K) (hK3:K < w3.heap.size) :
  ∃ c:CmdD,Hid (XCmd ((((((((w4.setCell ⟨K,0,none⟩ (.int .i64 0)).setCell ⟨K,1,none⟩ (.slice (some ⟨w3.heap.size,0,none⟩) 5 5)).setCell ⟨K,2,none⟩ (.slice none 0 0)).setCell ⟨K,3,none⟩ (.int .i64 0)).setCell ⟨K,4,none⟩ (.int .i64 0)).setCell ⟨K,5,none⟩ (.int .i64 0)).setCell ⟨K,6,none⟩ (.int .i64 0)).setCell ⟨K,7,none⟩ (.slice none 0 0)) K c)∧Hid (ASt w0 w ((((((((w4.setCell ⟨K,0,none⟩ (.int .i64 0)).setCell ⟨K,1,none⟩ (.slice (some ⟨w3.heap.size,0,none⟩) 5 5)).setCell ⟨K,2,none⟩ (.slice none 0 0)).setCell ⟨K,3,none⟩ (.int .i64 0)).setCell ⟨K,4,none⟩ (.int .i64 0)).setCell ⟨K,5,none⟩ (.int .i64 0)).setCell ⟨K,6,none⟩ (.int .i64 0)).setCell ⟨K,7,none⟩ (.slice none 0 0)) g cv L a S)∧Hid (NilS ((((((((w4.setCell ⟨K,0,none⟩ (.int .i64 0)).setCell ⟨K,1,none⟩ (.slice (some ⟨w3.heap.size,0,none⟩) 5 5)).setCell ⟨K,2,none⟩ (.slice none 0 0)).setCell ⟨K,3,none⟩ (.int .i64 0)).setCell ⟨K,4,none⟩ (.int .i64 0)).setCell ⟨K,5,none⟩ (.int .i64 0)).setCell ⟨K,6,none⟩ (.int .i64 0)).setCell ⟨K,7,none⟩ (.slice none 0 0)) (w.heap.size+1)):=by
 have G5:=gbs 7 (.slice none 0 0) (gbs 6 (.int .i64 0) (gbs 5 (.int .i64 0) (gbs 4 (.int .i64 0) (gbs 3 (.int .i64 0) (gbs 2 (.slice none 0 0) (gbs 1 (.slice (some ⟨w3.heap.size,0,none⟩) 5 5) (gbs 0 (.int .i64 0) (World.grownBy.refl w4 (some K)))))))))
 refine ⟨⟨0,[105,110,98,111,120],[],0,0,0,0,[]⟩,⟨by decide,by decide,_,_,_,_,_,_,_,_,_,heap_set8 hk,_,_,_,rfl,OwnX.stay (OwnX.gb (.inr ⟨_,qx⟩) G5 (by simp only [Value.ownBlock,ne_eq,Option.some.injEq];omega)),OwnX.stay (.inl ⟨rfl,rfl⟩),OwnX.stay (.inl ⟨rfl,rfl⟩),i64c0,i64c0,i64c0,i64c0,i64c0⟩,(hA.below b4).other hgl G5 (by omega) ⟨_,_,hk⟩ hS,NilS.gb (NilS.gb hN (gb_below' (World.grownBy.refl w3 (some K)) b4) hA.acc.lt (by omega)) G5 (hA.below b4).acc.lt (by omega)⟩

set_option maxRecDepth 100000 in
set_option maxHeartbeats 8000000 in
theorem l3account_any (w0 w:World) (g:Nat) (cv:Value) (L:List Int) (hc:Cur w0 w g cv L) :
  Calls Tryd.prog 27 #[.pointer (some ⟨g,0,none⟩)] w fun e w'=>∃ (a:AccD) (S:Nat→Prop) (u0 u1:Value),e=.returned (.agg #[.int .i64 a.valid,u0,u1])∧BoxesQ w' S u0 a.boxes∧IntsO w' (fun k=>(¬ S k∧w.heap.size≤k)∧k < w'.heap.size) u1 a.seen∧I64 a.valid∧InvA a∧(∀ k,S k→w.heap.size≤k)∧Cur w0 w' g cv L∧w.grownBy w' (some g)∧a.seen.length≤5:=by
 have hgl:=hc.lt.2
 have AB:Below w.heap.size w ((w.alloc (.cells #[.int .i64 0,.slice none 0 0,.slice none 0 0] 26)).alloc (.cells #[.int .i64 0,.slice none 0 0,.slice none 0 0] 26)):=((Below.refl _ _).alloc (Nat.le_refl _) _).alloc (by simp) _
 have HK0:Hid (((w.alloc (.cells #[.int .i64 0,.slice none 0 0,.slice none 0 0] 26)).alloc (.cells #[.int .i64 0,.slice none 0 0,.slice none 0 0] 26)).heap[w.heap.size]?=some (.cells #[.int .i64 0,.slice none 0 0,.slice none 0 0] 26 (0,0))):=box_below ((Below.refl _ _).alloc (Nat.le_refl _) _) (box_new w _)
 have HK1:Hid (((w.alloc (.cells #[.int .i64 0,.slice none 0 0,.slice none 0 0] 26)).alloc (.cells #[.int .i64 0,.slice none 0 0,.slice none 0 0] 26)).heap[w.heap.size+1]?=some (.cells #[.int .i64 0,.slice none 0 0,.slice none 0 0] 26 (0,0))):=by
  have h:=box_new (w.alloc (.cells #[.int .i64 0,.slice none 0 0,.slice none 0 0] 26)) (.cells #[.int .i64 0,.slice none 0 0,.slice none 0 0] 26)
  rw [show (w.alloc (.cells #[.int .i64 0,.slice none 0 0,.slice none 0 0] 26)).heap.size=w.heap.size+1 by simp] at h
  exact h
 have HC:=hidm (hc.below AB)
 have HG:=hidm (gb_below' (World.grownBy.refl w (some g)) AB)
 clear hc AB
 go_enter Tryd.func27,Tryd.ntmps27
 go_wp2_with fail
 refine (l1Below_any w0 _ g cv L 22 HC.out (by omega) (by omega)).mono ?_
 rintro e w1 ⟨n,rfl,hn0,hn1,C1,G1⟩
 have HA:Hid (ASt w0 w w1 g cv L ⟨0,[],[]⟩ (fun _=>False)):=by
  have h1:=(G1.block (w.heap.size+1) (lt_of_heap HK1.out) (by simp;omega)).trans HK1.out
  exact ⟨C1,gb_trans' HG.out G1,(G1.block _ (lt_of_heap HK0.out) (by simp;omega)).trans HK0.out,⟨fun h=>h,_,_,h1,.inl ⟨rfl,rfl⟩,.inl ⟨rfl,rfl⟩,i64c0⟩,⟨by simp,by simp⟩,fun _ h=>h.elim,fun _ h=>h.elim⟩
 have HN:Hid (NilS w1 (w.heap.size+1)):=(bx3 ((G1.block (w.heap.size+1) (lt_of_heap HK1.out) (by simp;omega)).trans HK1.out)).2.2
 clear HK0 HK1 HC HG C1 G1
 go_wp2_with fail
 go_loopw [5,6] (fun iv xv wr=>∃ (i:Nat) (a:AccD) (S:Nat→Prop),iv=.int .i64 i∧(i:Int)≤n∧Hid (ASt w0 w wr g cv L a S)∧Hid (NilS wr (w.heap.size+1))) (fun iv xv _=>n.toNat - (intOf iv).toNat)
 case atStart=>exact ⟨0,_,_,rfl,hn0,HA,HN⟩
 case round =>
  clear HA HN
  obtain ⟨i,a,S,rfl,hi,HA,HN⟩:=hrel
  by_cases hlt:(i:Int) < n
  ·go_wp2_with fail
   refine (l3cmd_any w0 _ g cv L HA.out.cur).mono ?_
   rintro e w2 ⟨u,rfl,c,hv,hcb,C2,G2,hW⟩
   have HCS:=hidm (cmdS_of hW hv)
   have hsh:=cmd_short hcb
   have HA2:=hidm (HA.out.draw hgl C2 G2)
   have HN2:=hidm (HN.out.gb G2 HA.out.acc.lt (by omega))
   obtain ⟨s0,m0,q0,s1,m1,q1,v2,rfl,-⟩:=hW
   obtain ⟨y0,y1,y2,e0,-,-,hb2,-⟩:=HCS.out
   simp only [Value.agg.injEq,Array.mk.injEq,List.cons.injEq,and_true,true_and] at e0
   obtain ⟨-,-,rfl⟩:=e0
   obtain ⟨s2,m2,q2,rfl⟩:=hb2.bs.form3
   clear hb2 hv hcb C2 G2 HA HN
   have AB:Below w2.heap.size w2 (w2.alloc (.cells #[.int .i64 c.k,.slice s0 m0 q0,.slice s1 m1 q1,.int .i64 c.uid,.int .i64 c.mode,.int .i64 c.fl,.int .i64 c.si,.slice s2 m2 q2] 80)):=(Below.refl _ _).alloc (Nat.le_refl _) _
   have HX:Hid (XCmd (w2.alloc (.cells #[.int .i64 c.k,.slice s0 m0 q0,.slice s1 m1 q1,.int .i64 c.uid,.int .i64 c.mode,.int .i64 c.fl,.int .i64 c.si,.slice s2 m2 q2] 80)) w2.heap.size c):=⟨hsh.1,hsh.2,_,_,_,_,_,_,_,_,_,box_new w2 _,HCS.out.below AB⟩
   have HA3:=hidm (HA2.out.below AB)
   have HN3:Hid (NilS (w2.alloc (.cells #[.int .i64 c.k,.slice s0 m0 q0,.slice s1 m1 q1,.int .i64 c.uid,.int .i64 c.mode,.int .i64 c.fl,.int .i64 c.si,.slice s2 m2 q2] 80)) (w.heap.size+1)):=(AB.cell (p:=⟨w.heap.size+1,2,none⟩) HA2.out.acc.lt).trans HN2.out
   have hk2:w.heap.size+1 < w2.heap.size:=HA2.out.acc.lt
   have HS2:Hid (¬ S w2.heap.size):=fun h=>absurd (HA2.out.high _ h) (Nat.lt_irrefl _)
   clear HCS hsh HA2 HN2 AB
   go_upto_if 20 with fail
   go_cut [] (fun wx=>∃ c:CmdD,Hid (XCmd wx w2.heap.size c)∧Hid (ASt w0 w wx g cv L a S)∧Hid (NilS wx (w.heap.size+1)))
   case first =>
    generalize hW3:w2.alloc (.cells #[.int .i64 c.k,.slice s0 m0 q0,.slice s1 m1 q1,.int .i64 c.uid,.int .i64 c.mode,.int .i64 c.fl,.int .i64 c.si,.slice s2 m2 q2] 80)=w3 at HX HA3 HN3 ⊢
    clear hW3
    by_cases h0:i=0
    ·have h0b:((i:Int) == 0)=true:=by simp [h0]
     obtain ⟨w4,hcs,qx,b4⟩:∃ w',Sem.run Tryd.prog (convert 22 22 (.slice (some ⟨w3.heap.size,0,none⟩) 5 5)) (w3.alloc (.cells #[.int .u8 105,.int .u8 110,.int .u8 98,.int .u8 111,.int .u8 120] 5))=.ok (.slice (some ⟨w3.heap.size,0,none⟩) 5 5) w'∧OwnQ w' w3.heap.size (.slice (some ⟨w3.heap.size,0,none⟩) 5 5) [105,110,98,111,120]∧Below w3.heap.size w3 w':=lit_conv w3 [105,110,98,111,120] (by intro x hx;simp at hx;omega) (by decide)
     obtain ⟨-,-,t0,p0,r0,t1,p1,r1,t2,p2,r2,hk,-⟩:=HX.out
     have hk4:=box_below b4 hk
     obtain ⟨f0,f1,f2,f3,f4,f5,f6,f7,f8⟩:=box8l hk4
     have fz:=(box8z hk4).1
     have HQ:=hidm qx
     have HB4:=hidm b4
     have HK4:=hidm hk4
     have hk3:=lt_of_heap hk
     clear HX hk hk4 qx b4
     go_wp2
     go_meet
     case rel=>exact inbox_end HA3.out HN3.out hgl HB4.out HK4.out HQ.out HS2.out hk2 hk3
    ·have h0b:((i:Int) == 0)=false:=by simp;omega
     go_wp2
     go_meet
     case rel=>exact ⟨c,HX,HA3,HN3⟩
   case rest =>
    obtain ⟨c,HX,HA,HN⟩:=hcut
    obtain ⟨hb6,ht30,s0,m0,q0,s1,m1,q1,s2,m2,q2,hk,hcs⟩:=HX.out
    have HCS:=hidm hcs
    obtain ⟨f0,f1,f2,f3,f4,f5,f6,f7,f8⟩:=box8l hk
    clear hk hcs HX HA3 HN3 HS2
    go_wp2_with fail
    refine (l3do_r (w.heap.size+1) a c S _ _ HA.out.acc HCS.out ⟨by omega,by omega⟩ (fun x hx=>(HA.out.inv.2 x hx).sz) (by have:=HA.out.inv.1;omega)).mono ?_
    rintro e w5 ⟨u,S',rfl,-,hT,hA',hS'⟩
    have HA5:=hidm (HA.out.turn hgl hT hA' hS' (inv_do HA.out.inv hb6 ht30))
    have HN5:Hid (NilS w5 (w.heap.size+1)):=(hT.2.2.2.2.2.2.2 HA.out.acc.lt HA.out.acc.1).trans HN.out
    clear HCS hT hA' hS' HA HN f0 f1 f2 f3 f4 f5 f6 f7 f8
    go_wp2
    go_roundw
    case rel=>exact ⟨i+1,_,_,by go_num,by omega,HA5,HN5⟩
    case measure=>simp [intOf];omega
  ·obtain rfl:n=i:=by omega
   go_wp2_with fail
   refine (l1Once_any w0 _ g cv L 3 HA.out.cur (by omega) (by omega)).mono ?_
   rintro e w2 ⟨y,rfl,C2,G2⟩
   have HA2:=hidm (HA.out.draw hgl C2 G2)
   have HN2:=hidm (HN.out.gb G2 HA.out.acc.lt (by omega))
   clear HA HN C2 G2
   go_upto_if 27 with fail
   go_cut [] (fun wx=>∃ (a:AccD) (S:Nat→Prop),Hid (ASt w0 w wx g cv L a S)∧Hid (SeenS w wx a))
   case first =>
    cases y
    ·go_wp2
     go_meet
     case rel=>exact ⟨a,S,HA2,SeenS.nil HA2.out HN2.out⟩
    ·go_wp2_with fail
     refine (l1Below_any w0 _ g cv L 5 HA2.out.cur (by omega) (by omega)).mono ?_
     rintro e w3 ⟨m,rfl,hm0,hm1,C3,G3⟩
     have HA3:=hidm (HA2.out.draw hgl C3 G3)
     have HN3:=hidm (HN2.out.gb G3 HA2.out.acc.lt (by omega))
     have HSB:=hidm HA3.out.high
     obtain ⟨u0,hk,hI,hz⟩:=ASt.nil (B:=w3.heap.size) HA3.out HN3.out
     have HK:=hidm hk
     have HI:=hidm hI
     have hB:w.heap.size+2≤w3.heap.size:=by have:=HA3.out.acc.lt;omega
     clear HA2 HN2 HN3 C3 G3 hk hI
     obtain ⟨i0,hi,hz0,hz1,hz2⟩:=info_parts infoInt
     go_wp2_with fail
     go_loopw [7,9] (fun kv iv wr=>∃ (k j:Nat) (a:AccD) (u0 u1:Value),kv=.int .i64 k∧iv=.int .i64 j∧(j:Int)≤m∧k≤1+3 * j∧a.seen.length=j∧w3.heap.size≤wr.heap.size∧Hid (ASt w0 w wr g cv L a S)∧Hid (wr.heap[w.heap.size+1]?=some (.cells #[.int .i64 a.valid,u0,u1] 26 (0,0)))∧Hid (IntsO wr (In w3.heap.size wr.heap.size) u1 a.seen)) (fun kv iv _=>m.toNat - (intOf iv).toNat)
     case atStart=>exact ⟨1,0,a,_,_,rfl,rfl,hm0,by omega,hz,Nat.le_refl _,HA3,HK,HI⟩
     case round =>
      clear HA3 HK HI hz
      obtain ⟨k,j,a,u0,u1,rfl,rfl,hj,hk,hl,hsz,HA,HK,HI⟩:=hrel
      by_cases hlt:(j:Int) < m
      ·have AB:Below wr.heap.size wr (wr.alloc (.cells #[.int .i64 k] 3)):=(Below.refl _ _).alloc (Nat.le_refl _) _
       have hO:IntsO (wr.alloc (.cells #[.int .i64 k] 3)) (In w3.heap.size wr.heap.size) u1 a.seen:=intsp_oth HI.out fun k _ h _=>AB.block k h
       obtain ⟨ua,un,uc,rfl⟩:∃ ua un uc,u1=.slice ua un uc:=by
        rcases HI.out with ⟨h,-⟩ | ⟨q,cap,cur,cs,fs,h,-⟩ <;> exact ⟨_,_,_,h⟩
       obtain ⟨f0,f1,f2⟩:=bx3 HK.out
       have hlk:=lt_of_heap HK.out
       have hM:wr.heap.size≤(wr.alloc (.cells #[.int .i64 k] 3)).heap.size:=AB.size
       have hp1:a.seen.length+1≤maxLen:=by unfold maxLen;omega
       have hp2:(a.seen.length+1) * 8≤140737488355328:=by omega
       have hone:∀ u ∈ [Value.int .i64 (k:Int)],u.oneCell'=true:=by simp [Value.oneCell']
       have hki:I64 (k:Int):=⟨by omega,by omega⟩
       go_wp2_with (at_builtin;refine wpList_push rfl (.tmp 36) (.tmp 38) rfl framesInt (B:=w3.heap.size) (M:=wr.heap.size) hO hM hsz Tryd.underlying24 hi hz0 hz1 hz2 rfl (by omega) rfl (k:Int) [.int .i64 k] rfl ⟨rfl,hki⟩ ⟨wr.heap.size,0,none⟩ 1 rfl (cells_new wr _ _) hone hp1 hp2 ?_)
       intro V w4 hO4 hG4 hv4
       obtain ⟨oa,on,oc,rfl⟩:∃ ua un uc,V=.slice ua un uc:=by
        rcases hO4 with ⟨h,-⟩ | ⟨q,cap,cur,cs,fs,h,-⟩ <;> exact ⟨_,_,_,h⟩
       obtain ⟨h5,h6,h7⟩:=HA.out.push hgl HK.out HI.out HSB.out hB hsz AB hO4 hG4 hv4
       have hsz5:w3.heap.size≤(w4.setCell ⟨w.heap.size+1,2,none⟩ (.slice oa on oc)).heap.size:=by rw [box_size];have:=hG4.size;omega
       have HA5:=hidm h5
       have HK5:=hidm h6
       have HI5:=hidm h7
       have hk4:w4.heap[w.heap.size+1]?=some (.cells #[.int .i64 a.valid,u0,.slice ua un uc] 26 (0,0)):=(grown_at hG4 (fun g h=>(hv4 g h).1) (box_below AB HK.out) (by omega))
       have fz:=(box8z hk4).1
       have hlk4:=lt_of_heap hk4
       obtain ⟨e0,e1,e2⟩:=bx3 hk4
       clear h5 h6 h7 hO4 hG4 hv4 hO AB hone HA HK HI f0 f1 f2 hk4
       go_wp2_with fail
       refine (l1Below_any w0 _ g cv L 3 HA5.out.cur (by omega) (by omega)).mono ?_
       rintro e w6 ⟨x,rfl,hx0,hx1,C6,G6⟩
       have HA6:=hidm (HA5.out.draw hgl C6 G6)
       have HK6:=hidm ((G6.block _ (lt_of_heap HK5.out) (by simp;omega)).trans HK5.out)
       have HI6:Hid (IntsO w6 (In w3.heap.size w6.heap.size) (.slice oa on oc) (a.seen ++ [(k:Int)])):=Ow.mono (intsp_oth HI5.out fun k h1 h2 _=>G6.block k h2 (by have:=h1.1;simp;omega)) fun k h=>⟨h.1,Nat.lt_of_lt_of_le h.2 G6.size⟩
       have hsz6:=Nat.le_trans hsz5 G6.size
       obtain ⟨x,rfl⟩:∃ n:Nat,x=n:=⟨x.toNat,by omega⟩
       clear HA5 HK5 HI5 C6 G6 e0 e1 e2 fz hlk4
       go_wp2
       go_roundw
       case rel=>exact ⟨k+1+x,j+1,_,_,_,by go_num,by go_num,by omega,by omega,by simp;omega,hsz6,HA6,HK6,HI6⟩
       case measure=>simp [intOf];omega
      ·go_wp2
       go_meet
       case rel=>exact ⟨_,_,HA,_,_,HK.out,Ow.mono HI.out fun k h=>⟨by have:=h.1;omega,h.2⟩,by omega⟩
   case rest =>
    obtain ⟨a,S,HA,HS⟩:=hcut
    obtain ⟨hSn,u0,u1,hk,hq,hs0,hi64⟩:=HA.out.acc
    obtain ⟨v0,v1,hk',hs1,hsl⟩:=HS.out
    rw [hk] at hk'
    simp only [Option.some.injEq,Obj.cells.injEq,Array.mk.injEq,List.cons.injEq,true_and,and_true] at hk'
    obtain ⟨rfl,rfl⟩:=hk'
    have hs:=ints_and hs0 hs1
    clear hs0 hs1 HS
    obtain ⟨a0,c0,rfl,-⟩:=hq.v.form
    obtain ⟨a1,n1,c1,rfl⟩:∃ ua un uc,u1=.slice ua un uc:=by
     rcases hs with ⟨h,-⟩ | ⟨q,cap,cur,cs,fs,h,-⟩ <;> exact ⟨_,_,_,h⟩
    obtain ⟨f0,f1,f2⟩:=bx3 hk
    have hr:=HA.out.res
    obtain ⟨r0,r1,r2⟩:=bx3 hr
    have fz:=(box8z hr).1
    have hlr:=lt_of_heap hr
    have hlk:=lt_of_heap hk
    have G:wc.grownBy (((wc.setCell ⟨w.heap.size,0,none⟩ (.int .i64 a.valid)).setCell ⟨w.heap.size,1,none⟩ (.slice a0 a.boxes.length c0)).setCell ⟨w.heap.size,2,none⟩ (.slice a1 n1 c1)) (some w.heap.size):=gbs 2 _ (gbs 1 _ (gbs 0 _ (World.grownBy.refl wc (some w.heap.size))))
    have KF:Hid ((((wc.setCell ⟨w.heap.size,0,none⟩ (.int .i64 a.valid)).setCell ⟨w.heap.size,1,none⟩ (.slice a0 a.boxes.length c0)).setCell ⟨w.heap.size,2,none⟩ (.slice a1 n1 c1)).heap[w.heap.size]?=some (.cells #[.int .i64 a.valid,.slice a0 a.boxes.length c0,.slice a1 n1 c1] 26 (0,0))):=box_set (i:=2) (v:=.slice a1 n1 c1) (box_set (i:=1) (v:=.slice a0 a.boxes.length c0) (box_set (i:=0) (v:=.int .i64 a.valid) hr))
    have b3:Below w.heap.size wc (((wc.setCell ⟨w.heap.size,0,none⟩ (.int .i64 a.valid)).setCell ⟨w.heap.size,1,none⟩ (.slice a0 a.boxes.length c0)).setCell ⟨w.heap.size,2,none⟩ (.slice a1 n1 c1)):=(((Below.refl w.heap.size wc).setCell (p:=⟨w.heap.size,0,none⟩) (Nat.le_refl _) _).setCell (p:=⟨w.heap.size,1,none⟩) (Nat.le_refl _) _).setCell (p:=⟨w.heap.size,2,none⟩) (Nat.le_refl _) _
    have hst:∀ t,t≠26→StayT wc (((wc.setCell ⟨w.heap.size,0,none⟩ (.int .i64 a.valid)).setCell ⟨w.heap.size,1,none⟩ (.slice a0 a.boxes.length c0)).setCell ⟨w.heap.size,2,none⟩ (.slice a1 n1 c1)) t:=fun t ht k hk=>G.block k (ty_lt hk) (by
     simp only [ne_eq,Option.some.injEq]
     intro e
     subst e
     obtain ⟨cs,fz,hk⟩:=hk
     exact ty_ne hk ⟨_,_,hr⟩ ht)
    have HQ:=hidm (boxes_oth hq (fun k h1 h2=>G.block k h2 (by have:=HA.out.low k h1;simp;omega)) (hst _ (by decide)) (hst _ (by decide)))
    have HI:Hid (IntsO (((wc.setCell ⟨w.heap.size,0,none⟩ (.int .i64 a.valid)).setCell ⟨w.heap.size,1,none⟩ (.slice a0 a.boxes.length c0)).setCell ⟨w.heap.size,2,none⟩ (.slice a1 n1 c1)) (fun k=>(¬ S k∧w.heap.size≤k)∧k < ((((wc.setCell ⟨w.heap.size,0,none⟩ (.int .i64 a.valid)).setCell ⟨w.heap.size,1,none⟩ (.slice a0 a.boxes.length c0)).setCell ⟨w.heap.size,2,none⟩ (.slice a1 n1 c1))).heap.size) (.slice a1 n1 c1) a.seen):=Ow.mono (intsp_oth hs fun k _ _ hT=>hst _ (by decide) k hT) fun k h=>⟨⟨h.1.1,by have:=h.2.1;omega⟩,Nat.lt_of_lt_of_le h.1.2 G.size⟩
    have HCF:=hidm (cur_to HA.out.cur b3 hgl)
    have HGF:=hidm (gb_to HA.out.gr b3 (Nat.le_refl _))
    clear G b3 hst hq hs hr hk
    go_wp2
    obtain ⟨e0,e1,e2⟩:=bx3 KF.out
    exact bodyPost_ret (v:=.agg #[.int .i64 a.valid,.slice a0 a.boxes.length c0,.slice a1 n1 c1]) (by simp [results,Tryd.results27,go_sem,e0,e1,e2]) rfl ⟨a,S,_,_,rfl,HQ.out,HI.out,hi64,HA.out.inv,fun k h=>by have:=HA.out.low k h;omega,HCF.out,HGF.out,hsl⟩

end Go.Proofs.YtnlhkgoppjejeaaDoor
