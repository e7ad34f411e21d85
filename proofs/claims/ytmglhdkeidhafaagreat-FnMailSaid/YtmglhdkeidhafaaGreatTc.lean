/- The proof's texts, part 12. -/
import Derived.Test.YtmglhdkeidhafaaGreatT5
import Derived.Test.YtmglhdkeidhafaaGreatTb
import Derived.Test.YtmglhdkeidhafaaGreatT9
namespace Go.Proofs.YtmglhdkeidhafaaGreat
open Go.RowKit
set_option linter.unusedVariables false
set_option linter.unusedSimpArgs false
set_option maxHeartbeats 2000000
set_option maxRecDepth 100000
/- What afF, afG, afH of package spec, OG of package impl do. -/
/-- A box can take one more change, and so many ah more. -/
def dh (b:aA) (n:Int):Bool:=decide (b.seq < 1000000) && (decide (b.next < 1000000) && decide ((b.ah.length:Int)+n≤12))
/-- What a store makes of flags. -/
def fC (was mode fl:Int):Int:=if mode=1 then bits .or .i64 was fl else if mode=2 then bits .andNot .i64 was fl else fl
theorem zn (v:Value) (b:aA) (n:Int) (w:World) (hv:bI w v b) (hn0:0≤n) (hn1:n≤1) (hm:b.ah.length≤2000000) :
  Calls Tryz.prog 88 #[v,.int .i64 n] w fun e w'=>e=.returned (.bool (dh b n))∧Below w.heap.size w w':=by
 obtain ⟨u0,u1,u2,rfl,g0,g1,g2,-⟩:=hv
 obtain ⟨a0,n0,c0,rfl⟩:=g0.aG
 obtain ⟨a1,c1,rfl,-⟩:=g1.form
 obtain ⟨a2,c2,rfl,-⟩:=g2.form
 clear g0 g1 g2
 have X:Below w.heap.size w (w.alloc (.cells #[.slice a0 n0 c0,.int .i64 b.valid,.int .i64 b.next,.int .i64 b.seq,.slice a1 b.ah.length c1,.slice a2 b.au.length c2,.int .i64 b.lost] 34)):=bn _ _
 have HX:Hid _:=X
 clear X
 have HD:Hid (dh b n=(decide (b.seq < 1000000) && (decide (b.next < 1000000) && decide ((b.ah.length:Int)+n≤12)))):=rfl
 by_cases h1:b.seq < 1000000
 ·by_cases h2:b.next < 1000000
  ·by_cases h3:(b.ah.length:Int)+n≤12
   ·have HF:Hid (dh b n=true):=by show _=_;rw [HD.out];simp [h1,h2,h3]
    go_enter Tryz.func88,Tryz.ntmps88
    go_wp2
    go_ret
    exact ⟨aP HF.out,HX.out⟩
   ·have HF:Hid (dh b n=false):=by show _=_;rw [HD.out];simp [h3]
    go_enter Tryz.func88,Tryz.ntmps88
    go_wp2
    go_ret
    exact ⟨aP HF.out,HX.out⟩
  ·have HF:Hid (dh b n=false):=by show _=_;rw [HD.out];simp [h2]
   go_enter Tryz.func88,Tryz.ntmps88
   go_wp2
   go_ret
   exact ⟨aP HF.out,HX.out⟩
 ·have HF:Hid (dh b n=false):=by show _=_;rw [HD.out];simp [h1]
  go_enter Tryz.func88,Tryz.ntmps88
  go_wp2
  go_ret
  exact ⟨aP HF.out,HX.out⟩
theorem OH (was mode fl:Int) (w:World) :
  Calls Tryz.prog 105 #[.int .i64 was,.int .i64 mode,.int .i64 fl] w fun e w'=>e=.returned (.int .i64 (fC was mode fl))∧w'=w:=by
 by_cases h1:mode=1
 ·subst h1
  go_enter Tryz.func105,Tryz.ntmps105
  go_wp2
  go_ret
  exact ⟨rfl,rfl⟩
 ·by_cases h2:mode=2
  ·subst h2
   go_enter Tryz.func105,Tryz.ntmps105
   go_wp2
   go_ret
   exact ⟨rfl,rfl⟩
  ·have HF:Hid (fC was mode fl=fl):=by show _=_;unfold fC;rw [if_neg h1,if_neg h2]
   have e1:(mode == 1)=false:=by simpa using h1
   have e2:(mode == 2)=false:=by simpa using h2
   clear h1 h2
   go_enter Tryz.func105,Tryz.ntmps105
   go_wp2
   go_ret
   exact ⟨kG HF.out.symm,rfl⟩
theorem uj (v u:Value) (a:aF) (nm:List Int) (w:World) (hv:iw w v a) (hu:Bs w u nm) (hbl:a.boxes.length≤2000000) :
  Calls Tryz.prog 87 #[v,u] w fun e w'=>e=.returned (.int .i64 (bC (fun x=>decide (x.name=nm)) a.boxes))∧Below w.heap.size w w':=by
 obtain ⟨u0,u1,rfl,g0,g1,-⟩:=hv
 have HV:Hid (∀ wi,Below w.heap.size w wi→gJ wi u0 a.boxes∧Bs wi u nm):=fun wi h=>⟨g0.below tK h,hu.below h⟩
 have WZ:Hid (Oct nm):=hu.1
 obtain ⟨a0,c0,rfl,-⟩:=g0.form
 obtain ⟨a1,c1,rfl,-⟩:=g1.form
 obtain ⟨na,nn,nc,rfl⟩:=hu.aG
 clear g0 g1 hu
 have HX:Hid (Below w.heap.size w (w.alloc (.cells #[.int .i64 a.valid,.slice a0 a.boxes.length c0,.slice a1 a.seen.length c1] 26))):=bn _ _
 have HK:Hid _:=aW w (.cells #[.int .i64 a.valid,.slice a0 a.boxes.length c0,.slice a1 a.seen.length c1] 26)
 go_enter Tryz.func87,Tryz.ntmps87
 go_wp2
 go_loopw [5] (fun i wr=>∃ k:Nat,k≤a.boxes.length∧i=.int .i64 k∧Hid (∀ j m,j < k→a.boxes[j]?=some m→decide (m.name=nm)=false)∧Hid (Below w.heap.size w wr)∧Hid (wr.heap[w.heap.size]?=some (.cells #[.int .i64 a.valid,.slice a0 a.boxes.length c0,.slice a1 a.seen.length c1] 26 (0,0)))) (fun i _=>a.boxes.length - (intOf i).toNat)
 case atStart=>exact ⟨0,Nat.zero_le _,rfl,(fun j m hj=>absurd hj (Nat.not_lt_zero _)),HX.out,HK.out⟩
 case round =>
  obtain ⟨k,hk,rfl,hA,hB,dB⟩:=hrel
  clear HX HK
  obtain ⟨d0,d1,d2⟩:=bM dB.out
  have ld:=lt_of_heap dB.out
  by_cases hlt:k < a.boxes.length
  ·obtain ⟨x,hx⟩:∃ x,a.boxes[k]?=some x:=⟨a.boxes[k],aL hlt⟩
   obtain ⟨b,off,cp,t,q1,q2,hv',hlb,f0,f1,f2,f3,f4,f5,f6,ht,-⟩:=gJ.cell (HV.out wr hB.out).1 k x hx
   simp only [Value.slice.injEq,true_and] at hv'
   obtain ⟨rfl,rfl⟩:=hv'
   have HC:Hid (∀ WB,Below wr.heap.size wr WB→(convert 22 9 t).run Tryz.prog WB=.ok (.string (strOfNums x.name)) WB∧(convert 22 9 (.slice na nn nc)).run Tryz.prog WB=.ok (.string (strOfNums nm)) WB):=fun WB h=>⟨rA (ht.below h),rA ((HV.out wr hB.out).2.below h)⟩
   have HE:Hid (((strOfNums x.name).toList == (strOfNums nm).toList)=decide (x.name=nm)):=str_eq ht.1 WZ.out
   obtain ⟨ta,tn,tc,rfl⟩:=ht.aG
   have mo:Hid (a.boxes[k]?=some x):=hx
   have HS:Hid (∀ w',Below wr.heap.size wr w'→(w'.cell? ⟨w.heap.size,1,none⟩=some (.slice (some ⟨b,off,none⟩) a.boxes.length c0)∧w'.cell? ⟨b,off+k * 7,none⟩=some (.slice ta tn tc))∧(convert 22 9 (.slice ta tn tc)).run Tryz.prog w'=.ok (.string (strOfNums x.name)) w'∧(convert 22 9 (.slice na nn nc)).run Tryz.prog w'=.ok (.string (strOfNums nm)) w'):=fun w' h=>⟨⟨cell_later h d1,cell_later h f0⟩,HC.out w' h⟩
   have hki:(k:Int) < a.boxes.length:=by omega
   clear ht hx f1 f2 f3 f4 f5 f6
   cases z:decide (x.name=nm) with
   | true =>
    have e3:=HE.out.trans z
    have HZ:Hid (decide (x.name=nm)=true):=z
    clear z HE
    go_wp2
    refine wp_region_held_drew (S:=fun w'=>(w'.cell? ⟨w.heap.size,1,none⟩=some (.slice (some ⟨b,off,none⟩) a.boxes.length c0)∧w'.cell? ⟨b,off+k * 7,none⟩=some (.slice ta tn tc))∧(convert 22 9 (.slice ta tn tc)).run Tryz.prog w'=.ok (.string (strOfNums x.name)) w'∧(convert 22 9 (.slice na nn nc)).run Tryz.prog w'=.ok (.string (strOfNums nm)) w') (by kernel_rfl) (HS.out _ ((bd _ _))) (fun ahz=>(show wpAnyH _ _ _ _ _ 10 #[false,false,false,false,false,false,false,false,false,false] _ _ from ?_))
    refine tq 0 13 ahz ?_
    refine tq 1 14 ahz ?_
    refine tq 2 15 ahz ?_
    refine tq 3 16 ahz ?_
    refine tq 4 17 ahz ?_
    refine tq 5 18 ahz ?_
    refine tq 6 19 ahz ?_
    refine tq 7 20 ahz ?_
    refine tq 8 21 ahz ?_
    refine tq 9 22 ahz ?_
    refine wpAnyH_done (by kernel_rfl) ?_ _
    go_wp2
    go_ret
    exact ⟨kG (yT hlt mo.out HZ.out hA.out).symm,hB.out.drew⟩
   | false =>
    have e3:=HE.out.trans z
    have HZ:Hid (decide (x.name=nm)=false):=z
    have HB2:Hid (Below w.heap.size w wr.drew):=hB.out.drew
    have Ez:Hid (wr.drew.heap[w.heap.size]?=some _):=dB.out
    clear z HE
    go_wp2
    refine wp_region_held_drew (S:=fun w'=>(w'.cell? ⟨w.heap.size,1,none⟩=some (.slice (some ⟨b,off,none⟩) a.boxes.length c0)∧w'.cell? ⟨b,off+k * 7,none⟩=some (.slice ta tn tc))∧(convert 22 9 (.slice ta tn tc)).run Tryz.prog w'=.ok (.string (strOfNums x.name)) w'∧(convert 22 9 (.slice na nn nc)).run Tryz.prog w'=.ok (.string (strOfNums nm)) w') (by kernel_rfl) (HS.out _ ((bd _ _))) (fun ahz=>(show wpAnyH _ _ _ _ _ 10 #[false,false,false,false,false,false,false,false,false,false] _ _ from ?_))
    refine tq 0 13 ahz ?_
    refine tq 1 14 ahz ?_
    refine tq 2 15 ahz ?_
    refine tq 3 16 ahz ?_
    refine tq 4 17 ahz ?_
    refine tq 5 18 ahz ?_
    refine tq 6 19 ahz ?_
    refine tq 7 20 ahz ?_
    refine tq 8 21 ahz ?_
    refine tq 9 22 ahz ?_
    refine wpAnyH_done (by kernel_rfl) ?_ _
    go_wp2
    go_roundw
    case rel =>
     refine ⟨k+1,by omega,by go_num,(show Hid _ from fun j y hj hy=>?_),HB2,Ez⟩
     by_cases e:j=k
     ·subst e;rw [mo.out] at hy;cases hy;exact HZ.out
     ·exact hA.out j y (by omega) hy
    case measure=>simp [intOf];omega
  ·obtain rfl:k=a.boxes.length:=by omega
   go_wp2
   go_ret
   exact ⟨kG (yU hA.out).symm,hB.out⟩
/- What afI of package spec does behind bytes that may have been made of a string. -/
/- What a store makes of flags is a number of 64 bits. -/
theorem OI (op:BinOp) (x y:Int):ay (bits op IntKind.i64 x y):=by
 unfold bits
 simp only [IntKind.wrap_i64]
 unfold ay
 omega
theorem OJ {was mode fl:Int} (h:ay fl):ay (fC was mode fl):=by
 unfold fC
 split
 ·exact OI _ _ _
 ·split
  ·exact OI _ _ _
  ·exact h
/- What since of impl.NW does. -/
open Go.RowKit Go.Maps
/-- The entries at a rV number are these ah, by their numbers. -/
structure dG (E:aU) (v:Int) (ms:List aC):Prop where
 sorted:ms.Pairwise (fun a b=>a.uid < b.uid)
 i64:∀ m ∈ ms,ay m.uid
 find:∀ u,ay u→bW E v u=ms.find? (fun m=>decide (m.uid=u))
theorem OL {ms:List aC} (hs:ms.Pairwise (fun a b=>a.uid < b.uid)) {m:aC} (hm:m ∈ ms):ms.find? (fun x=>decide (x.uid=m.uid))=some m:=by
 induction ms with
 | nil=>cases hm
 | cons a ms ih =>
  obtain ⟨h1,h2⟩:=List.pairwise_cons.1 hs
  rw [List.find?_cons]
  rcases List.mem_cons.1 hm with rfl | h
  ·simp
  ·have:=h1 m h
   rw [show decide (a.uid=m.uid)=false by simp;omega]
   exact ih h2 h
theorem dG.get {E:aU} {v:Int} {ms:List aC} (h:dG E v ms) {m:aC} (hm:m ∈ ms):bW E v m.uid=some m:=by
 rw [h.find _ (h.i64 m hm)]
 exact OL h.sorted hm
theorem dG.mem {E:aU} {v:Int} {ms:List aC} (h:dG E v ms) (u:Int):u ∈ ms.map (fun m=>m.uid)↔ay u∧(bW E v u).isSome=true:=by
 constructor
 ·intro hu
  obtain ⟨m,hm,rfl⟩:=List.mem_map.1 hu
  exact ⟨h.i64 m hm,by rw [h.get hm];rfl⟩
 ·rintro ⟨h1,h2⟩
  rw [h.find u h1] at h2
  obtain ⟨m,hm⟩:=Option.isSome_iff_exists.1 h2
  exact List.mem_map.2 ⟨m,List.mem_of_find?_eq_some hm,by simpa using List.find?_some hm⟩
theorem OM {α:Type} {p:α→Bool} {l:List α} {k:Nat} {m:α} (h:l[k]?=some m) (hp:p m=true):(l.take (k+1)).filter p=(l.take k).filter p ++ [m]:=by
 obtain ⟨hk,rfl⟩:=gs1 h
 rw [List.take_succ_eq_append_getElem hk,List.filter_append]
 simp [hp]
theorem OP {α:Type} {p:α→Bool} {l:List α} {k:Nat} {m:α} (h:l[k]?=some m) (hp:p m=false):(l.take (k+1)).filter p=(l.take k).filter p:=by
 obtain ⟨hk,rfl⟩:=gs1 h
 rw [List.take_succ_eq_append_getElem hk,List.filter_append]
 simp [hp]
theorem W9 (a b c:Int) (d:Value) (w:World):(Instr.field 72 (.agg #[.int .i64 a,.int .i64 b,.int .i64 c,d]) 2).run Tryz.prog w=.ok (.int .i64 c) w:=by kernel_rfl
theorem Xa (g n:Nat) (E:aU) (v q:Int) (ms:List aC) (w:World) (h:MM w g n E) (hn:n≤2000000) (hv:ay v) (hE:dG E v ms) (h12:ms.length≤12) (ht:∀ m ∈ ms,m.text.length≤2000000) :
  Calls Tryz.prog 80 #[.map (some g),.int .i64 v,.int .i64 q] w fun e w'=>∃ u,e=.returned u∧wY w' (In w.heap.size w'.heap.size) u (ms.filter fun m=>decide (q < m.seq))∧Below w.heap.size w w':=by
 have hcall:=OD g n E v (ms.map fun m=>m.uid) w h hn hv (List.pairwise_map.2 hE.sorted) hE.mem (by simpa using h12)
 have HM:Hid (MM w g n E):=h
 have HE:Hid (dG E v ms∧ms.length≤12∧∀ m ∈ ms,m.text.length≤2000000):=⟨hE,h12,ht⟩
 obtain ⟨z0,hi,hz0,hz1,hz2⟩:=info_parts AJ
 clear h hE h12 ht
 go_enter Tryz.func80,Tryz.ntmps80
 go_wp2_with fail
 refine hcall.mono ?_
 rintro e w1 ⟨kv,rfl,Ir,hB1⟩
 have pO:Hid (∀ wi,Below w1.heap.size w1 wi→xB wi kv ((ms.map fun m=>m.uid).map fun u=>(v,u))):=fun wi h=>Ir.below Wi h
 have HB1:Hid (Below w.heap.size w w1):=hB1
 have hlen:((ms.map fun m=>m.uid).map fun u=>(v,u)).length=ms.length:=by simp
 obtain ⟨ka,kc,rfl,hk1,hk2⟩:=Ir.form
 rw [hlen] at pO hk1 ⊢
 have HL:Hid (((ms.map fun m=>m.uid).map fun u=>(v,u)).length=ms.length):=hlen
 have hs1:w.heap.size≤w1.heap.size:=hB1.size
 clear Ir hB1 hcall hlen
 go_wp2
 go_loopw [7,14] (fun lv i wr=>∃ (k:Nat) (va:Option Addr) (vn vc:Nat),k≤ms.length∧i=.int .i64 k∧lv=.slice va vn vc∧Hid (Below w1.heap.size w1 wr)∧w1.heap.size≤wr.heap.size∧Hid (wY wr (In w1.heap.size wr.heap.size) (.slice va vn vc) ((ms.take k).filter fun m=>decide (q < m.seq)))) (fun _ i _=>ms.length - (intOf i).toNat)
 case atStart=>exact ⟨0,none,0,0,Nat.zero_le _,rfl,rfl,Below.refl _ _,Nat.le_refl _,.inl ⟨rfl,by simp⟩⟩
 case round =>
  obtain ⟨k,va,vn,vc,hk,rfl,rfl,hB,hS,hO⟩:=hrel
  by_cases hlt:k < ms.length
  ·obtain ⟨m,hx⟩:∃ m,ms[k]?=some m:=⟨ms[k],aL hlt⟩
   have hmem:m ∈ ms:=List.mem_of_getElem? hx
   obtain ⟨b,off,cp,c,hv',hlb,⟨rfl,-,-⟩,-,hcell⟩:=(pO.out wr hB.out).get k (v,m.uid) (by rw [List.map_map,List.getElem?_map,hx];rfl)
   rw [HL.out] at hv'
   simp only [Value.slice.injEq,true_and] at hv'
   obtain ⟨rfl,rfl⟩:=hv'
   have e0:wr.cell? ⟨b,off+k * 2,none⟩=some (.int .i64 v):=hcell 0 _ rfl
   have e1:wr.cell? ⟨b,off+k * 2+1,none⟩=some (.int .i64 m.uid):=hcell 1 _ rfl
   have AB:Below wr.heap.size wr (wr.alloc (.cells #[.int .i64 v,.int .i64 m.uid] 103)):=bn _ _
   have vH:MM (wr.alloc (.cells #[.int .i64 v,.int .i64 m.uid] 103)) g n E:=((HM.out.below HB1.out).below hB.out).below AB
   obtain ⟨x,hxv,hrun⟩:=vH.get (HE.out.1.get hmem)
   have nA:Hid (iA (wr.alloc (.cells #[.int .i64 v,.int .i64 m.uid] 103)) x m):=hxv
   obtain ⟨t,rfl,hbt,hi0,hi1,hi2⟩:=hxv
   obtain ⟨ta,tn,tc,rfl⟩:=hbt.aG
   have hki:(k:Int) < ms.length:=by omega
   have HX:Hid (ms[k]?=some m):=hx
   have hml:m.text.length≤2000000:=HE.out.2.2 m hmem
   have gK:Hid (Below wr.heap.size wr (wr.alloc (.cells #[.int .i64 v,.int .i64 m.uid] 103))):=AB
   have Bd:Hid (((ms.take k).filter fun m=>decide (q < m.seq)).length≤12):=Nat.le_trans (List.length_filter_le _ _) (by have:=HE.out.2.1;simp;omega)
   clear hcell hx hmem vH hbt hi0 hi1 hi2 AB
   have Xb:=W9 m.uid m.flags m.seq (.slice ta tn tc) (wr.alloc (.cells #[.int .i64 v,.int .i64 m.uid] 103))
   by_cases hq:q < m.seq
   ·have HQ:Hid (q < m.seq):=hq
    go_wp2_with fail
    refine (Ou _ m _ nA.out hml).mono ?_
    rintro e w3 ⟨xa,xn,xc,rfl,Bf,hB3⟩
    have hs3:wr.heap.size+1≤w3.heap.size:=by have:=hB3.size;simpa using this
    have HB3:Hid (Below wr.heap.size wr w3):=Below.step gK.out hB3
    have Bg:Hid (mQ w3 [.int .i64 m.uid,.int .i64 m.flags,.int .i64 m.seq,.slice xa xn xc] m (In wr.heap.size w3.heap.size)):=by
     obtain ⟨u',e',r1,r2⟩:=Bf
     exact ⟨u',e',r1.mono fun b hb=>⟨by have:=hb.1;simp at this;omega,hb.2⟩,r2⟩
    clear Bf hB3 nA hrun e0 e1 hlb Xb
    have AP:Below w3.heap.size w3 (w3.alloc (.cells #[.int .i64 m.uid,.int .i64 m.flags,.int .i64 m.seq,.slice xa xn xc] 72)):=bn _ _
    have Bh:Hid (mQ (w3.alloc (.cells #[.int .i64 m.uid,.int .i64 m.flags,.int .i64 m.seq,.slice xa xn xc] 72)) [.int .i64 m.uid,.int .i64 m.flags,.int .i64 m.seq,.slice xa xn xc] m (In wr.heap.size (w3.alloc (.cells #[.int .i64 m.uid,.int .i64 m.flags,.int .i64 m.seq,.slice xa xn xc] 72)).heap.size)):=by
     obtain ⟨u',e',r1,r2⟩:=Bg.out
     exact ⟨u',e',(r1.below AP).mono fun b hb=>⟨hb.1,by have:=hb.2;simp;omega⟩,r2⟩
    have hMs:wr.heap.size≤(w3.alloc (.cells #[.int .i64 m.uid,.int .i64 m.flags,.int .i64 m.seq,.slice xa xn xc] 72)).heap.size:=by simp;omega
    have mY:Hid (wY (w3.alloc (.cells #[.int .i64 m.uid,.int .i64 m.flags,.int .i64 m.seq,.slice xa xn xc] 72)) (In w1.heap.size wr.heap.size) (.slice va vn vc) ((ms.take k).filter fun m=>decide (q < m.seq))):=Ow.below qw (Ow.below qw hO.out HB3.out) AP
    have hone:∀ u ∈ [Value.int .i64 m.uid,.int .i64 m.flags,.int .i64 m.seq,.slice xa xn xc],u.oneCell'=true:=by
     intro u hu
     simp at hu
     rcases hu with rfl | rfl | rfl | rfl <;> rfl
    have hp1:((ms.take k).filter fun m=>decide (q < m.seq)).length+1≤maxLen:=by have:=Bd.out;unfold maxLen;omega
    have hp2:(((ms.take k).filter fun m=>decide (q < m.seq)).length+1) * 48≤140737488355328:=by have:=Bd.out;omega
    go_wp2_with (at_builtin;refine yR rfl (.tmp 24) (.tmp 29) rfl qw (B:=w1.heap.size) (M:=wr.heap.size) mY.out hMs hS Tryz.underlying31 hi hz0 hz1 hz2 rfl (by omega) rfl m [.int .i64 m.uid,.int .i64 m.flags,.int .i64 m.seq,.slice xa xn xc] rfl Bh.out ⟨w3.heap.size,0,none⟩ 1 rfl (kH w3 _ _) hone hp1 hp2 ?_)
    intro vI w4 hO4 hG4 pQ
    have nC:Hid (wY w4 (In w1.heap.size w4.heap.size) vI ((ms.take (k+1)).filter fun m=>decide (q < m.seq))):=by
     rw [OM HX.out (by simpa using HQ.out)]
     exact hO4
    obtain ⟨Bj,Bl,Bn,rfl⟩:∃ a n c,vI=.slice a n c:=by
     rcases hO4 with ⟨h,-⟩ | ⟨_,_,_,_,_,h,-⟩
     ·exact ⟨_,_,_,h⟩
     ·exact ⟨_,_,_,h⟩
    have hge:∀ j,(Value.slice va vn vc).ownBlock=some j→w1.heap.size≤j:=fun j hj=>(pQ j hj).1
    have gL:Hid (Below w1.heap.size w1 w4):=rD (Below.step (Below.step hB.out HB3.out) AP) hG4 hge (Nat.le_refl _) (by have:=AP.size;omega)
    have hs4:w1.heap.size≤w4.heap.size:=gL.out.size
    clear hO4 hG4 pQ hge mY Bh AP hMs HB3 Bg hO hB
    go_wp2
    go_roundw
    case rel=>exact ⟨k+1,Bj,Bl,Bn,by omega,by simp,rfl,gL.out,hs4,nC.out⟩
    case measure=>simp [intOf];omega
   ·have HQ:Hid (¬ q < m.seq):=hq
    have Iu:Hid (wY (wr.alloc (.cells #[.int .i64 v,.int .i64 m.uid] 103)) (In w1.heap.size (wr.alloc (.cells #[.int .i64 v,.int .i64 m.uid] 103)).heap.size) (.slice va vn vc) ((ms.take (k+1)).filter fun m=>decide (q < m.seq))):=by
     rw [OP HX.out (by simpa using HQ.out)]
     exact Ow.mono (Ow.below qw hO.out gK.out) fun b hb=>⟨hb.1,by have:=hb.2;simp;omega⟩
    go_wp2
    go_roundw
    case rel=>exact ⟨k+1,va,vn,vc,by omega,by simp,rfl,Below.step hB.out gK.out,by simp;omega,Iu.out⟩
    case measure=>simp [intOf];omega
  ·obtain rfl:k=ms.length:=by omega
   go_wp2
   go_ret
   refine ⟨_,rfl,?_,Below.step HB1.out hB.out⟩
   have:=hO.out
   rw [List.take_length] at this
   exact Ow.mono this fun b hb=>⟨by have:=hb.1;omega,hb.2⟩
/- What a merge makes of two boxes, on lists. -/
def OQ (l:List aC) (u:Int):Option aC:=l.find? fun m=>decide (m.uid=u)
/-- What a box that is right says of its ah. -/
structure Xc (b:aA):Prop where
 len:b.ah.length≤12
 EA:b.au.length≤40
 sorted:b.ah.Pairwise (fun x y=>x.uid < y.uid)
 mem:∀ m ∈ b.ah,1≤m.uid∧m.uid < b.next∧1≤m.seq∧m.text.length≤30
 next:1≤b.next∧b.next≤1000000
theorem Bo {b:aA} {v:Int} (h:gB b v=true):Xc b:=by
 simp only [gB,Bool.and_eq_true,aM,decide_eq_true_eq,mU,l7,List.all_eq_true,List.mem_range] at h
 obtain ⟨-,-,⟨n1,n2⟩,-,-,⟨l1,hm⟩,l2,-⟩:=h
 have hat:∀ (i:Nat) (m:aC),b.ah[i]?=some m→jW b.ah i+1≤m.uid∧m.uid≤b.next - 1∧1≤m.seq∧m.text.length≤30:=by
  intro i m hi
  have:=hm i (gs1 hi).1
  simp only [lG,hi,aM,Bool.and_eq_true,decide_eq_true_eq,dU] at this
  obtain ⟨⟨a1,a2⟩,-,⟨a3,-⟩,a4,-⟩:=this
  exact ⟨a1,a2,a3,a4⟩
 have hge:∀ (i:Nat) (m:aC),b.ah[i]?=some m→1≤m.uid:=by
  intro i
  induction i with
  | zero=>intro m hi;have:=(hat 0 m hi).1;simp only [jW] at this;omega
  | succ i ih =>
   intro m hi
   have hl:=(gs1 hi).1
   have h2:=aL (show i < b.ah.length by omega)
   have:=(hat (i+1) m hi).1
   simp only [jW,h2] at this
   have:=ih _ h2
   omega
 have hstep:∀ (k i:Nat) (x y:aC),b.ah[i]?=some x→b.ah[i+k+1]?=some y→x.uid < y.uid:=by
  intro k
  induction k with
  | zero =>
   intro i x y hx hy
   have:=(hat (i+1) y hy).1
   simp only [jW,hx] at this
   omega
  | succ k ih =>
   intro i x y hx hy
   have hl:=(gs1 hy).1
   have h2:=aL (show i+k+1 < b.ah.length by omega)
   have a:=ih i x _ hx h2
   have c:=(hat (i+(k+1)+1) y hy).1
   rw [show i+(k+1)+1=(i+k+1)+1 by omega] at c
   simp only [jW,h2] at c
   omega
 refine ⟨l1,l2,?_,fun m hmem=>?_,n1,n2⟩
 ·rw [List.pairwise_iff_getElem]
  intro i j hi hj hij
  have:=hstep (j - i - 1) i b.ah[i] b.ah[j] (aL hi) (by rw [show i+(j - i - 1)+1=j by omega];exact aL hj)
  exact this
 ·obtain ⟨i,hi,rfl⟩:=List.getElem_of_mem hmem
  have h2:=aL hi
  have a:=hat i _ h2
  exact ⟨hge i _ h2,by omega,a.2.2⟩
/-! ### the entries of the map -/
theorem Xd {E:aU} {v:Int} {ms:List aC} (hs:ms.Pairwise (fun x y=>x.uid < y.uid)) (u:Int):bW (kP E v ms) v u=(OQ ms u).or (bW E v u):=by
 induction ms generalizing E with
 | nil=>rfl
 | cons m ms ih =>
  obtain ⟨h1,h2⟩:=List.pairwise_cons.1 hs
  show bW (kP (jQ E v m.uid m) v ms) v u=_
  rw [ih h2]
  unfold OQ
  rw [List.find?_cons]
  by_cases e:m.uid=u
  ·subst e
   have:List.find? (fun x:aC=>decide (x.uid=m.uid)) ms=none:=by
    rw [List.find?_eq_none]
    intro x hx
    have:=h1 x hx
    simp only [decide_eq_true_eq]
    omega
   rw [this,A8]
   simp
  ·rw [zf (fun h=>e h.2.symm)]
   simp [e]
def Xe (E:aU) (v:Int) (gs:List bB):aU:=gs.foldl (fun E g=>jY E v g.uid) E
/-- All entries lie at one rV number. -/
def um (E:aU) (v:Int):Prop:=∀ e ∈ E,e.1=v
theorem um.put {E:aU} {v:Int} (h:um E v) (u:Int) (m:aC):um (jQ E v u m) v:=by
 intro e he
 rcases List.mem_append.1 he with he | he
 ·exact h e (List.mem_filter.1 he).1
 ·rw [List.mem_singleton] at he;subst he;rfl
theorem um.lay {E:aU} {v:Int} (h:um E v) (ms:List aC):um (kP E v ms) v:=by
 induction ms generalizing E with
 | nil=>exact h
 | cons m ms ih=>exact ih (h.put m.uid m)
theorem um.del {E:aU} {v:Int} (h:um E v) (gs:List bB):um (Xe E v gs) v:=by
 induction gs generalizing E with
 | nil=>exact h
 | cons g gs ih=>exact ih (fun e he=>h e (List.mem_filter.1 he).1)
/- What slices.IndexFunc and slices.ContainsFunc of boxes do. -/
open Go.RowKit Go.Shelf
theorem Iw (g:Nat) (lb:Array Value) (p:aA→Bool) (v:Value) (l:List aA) (w:World) (hv:gJ w v l) (eg:∀ args w,(callFunc g args).run Tryz.prog w=.ok (.enter g args) w)
  (hp:∀ wi x u,Below w.heap.size w wi→bI wi u x→Calls Tryz.prog g (#[u] ++ lb) wi fun e w'=>e=.returned (.bool (p x))∧Below wi.heap.size wi w') :
  Calls Tryz.prog 57 #[v,.func (.func g) #[] lb] w fun e w'=>e=.returned (.int .i64 (bC p l))∧Below w.heap.size w w':=by
 have HV:Hid (∀ wi,Below w.heap.size w wi→gJ wi v l):=fun wi h=>hv.below tK h
 have HP:Hid (∀ wi x u,Below w.heap.size w wi→bI wi u x→Calls Tryz.prog g (#[u] ++ lb) wi fun e w'=>e=.returned (.bool (p x))∧Below wi.heap.size wi w'):=hp
 obtain ⟨a,cap,rfl,hlc,hcm⟩:=hv.form
 clear hv hp
 go_enter Tryz.func57,Tryz.ntmps57
 go_wp2
 go_loopw [5,8] (fun _ i wr=>∃ k:Nat,k≤l.length∧i=.int .i64 k∧Hid (∀ j x,j < k→l[j]?=some x→p x=false)∧Hid (Below w.heap.size w wr)) (fun _ i _=>l.length - (intOf i).toNat)
 case atStart=>exact ⟨0,Nat.zero_le _,rfl,(fun j x hj=>absurd hj (Nat.not_lt_zero _)),Below.refl _ _⟩
 case round =>
  obtain ⟨k,hk,rfl,hA,hB⟩:=hrel
  by_cases hlt:k < l.length
  ·obtain ⟨x,hx⟩:∃ x,l[k]?=some x:=⟨l[k],aL hlt⟩
   obtain ⟨b,off,cap',u0,u1,u2,hv',hlb,d0,d1,d2,d3,d4,d5,d6,hu0,hu1,hu2,i0,i1,i2,i3⟩:=gJ.cell (HV.out wr hB.out) k x hx
   simp only [Value.slice.injEq,true_and] at hv'
   obtain ⟨rfl,rfl⟩:=hv'
   obtain ⟨ua,un,uc,rfl⟩:=hu0.aG
   obtain ⟨va,vc,rfl,-⟩:=hu1.form
   obtain ⟨wa,wc,rfl,-⟩:=hu2.form
   have hcall:=HP.out wr x (.agg #[.slice ua un uc,.int .i64 x.valid,.int .i64 x.next,.int .i64 x.seq,.slice va x.ah.length vc,.slice wa x.au.length wc,.int .i64 x.lost]) hB.out ⟨_,_,_,rfl,hu0,hu1,hu2,i0,i1,i2,i3⟩
   have HX:Hid (l[k]?=some x):=hx
   clear hx
   cases hq:p x with
   | true =>
    rw [hq] at hcall
    have HQ:Hid (p x=true):=hq
    clear hq
    go_wp2_with (go_at_fn g;refine hcall.mono ?_;rintro e w1 ⟨rfl,B⟩)
    go_ret
    exact ⟨kG (yT hlt HX.out HQ.out hA.out).symm,Below.step hB.out B⟩
   | false =>
    rw [hq] at hcall
    have HQ:Hid (p x=false):=hq
    clear hq
    go_wp2_with (go_at_fn g;refine hcall.mono ?_;rintro e w1 ⟨rfl,B⟩)
    have HB2:Hid (Below w.heap.size w w1):=Below.step hB.out B
    clear B hB
    go_roundw
    case rel =>
     refine ⟨k+1,by omega,by go_num,(show Hid _ from fun j y hj hy=>?_),HB2⟩
     by_cases e:j=k
     ·subst e;rw [HX.out] at hy;cases hy;exact HQ.out
     ·exact hA.out j y (by omega) hy
    case measure=>simp [intOf];omega
  ·obtain rfl:k=l.length:=by omega
   go_wp2
   go_ret
   exact ⟨kG (yU hA.out).symm,hB.out⟩
theorem Xf (g:Nat) (lb:Array Value) (p:aA→Bool) (v:Value) (l:List aA) (w:World) (hv:gJ w v l) (eg:∀ args w,(callFunc g args).run Tryz.prog w=.ok (.enter g args) w)
  (hp:∀ wi x u,Below w.heap.size w wi→bI wi u x→Calls Tryz.prog g (#[u] ++ lb) wi fun e w'=>e=.returned (.bool (p x))∧Below wi.heap.size wi w') :
  Calls Tryz.prog 26 #[v,.func (.func g) #[] lb] w fun e w'=>e=.returned (.bool (l.any p))∧Below w.heap.size w w':=by
 have hi:=Iw g lb p v l w hv eg hp
 have HF:Hid (l.any p=decide (0≤bC p l)):=yO p l
 generalize bC p l=i at hi HF
 obtain ⟨a,cap,rfl,-⟩:=hv.form
 clear hp hv
 go_enter Tryz.func26,Tryz.ntmps26
 go_wp2_with (go_at_call 57;refine hi.mono ?_;rintro e w1 ⟨rfl,B⟩)
 go_ret
 exact ⟨aP HF.out,B⟩
/- What afJ of package impl do. -/
open Go.RowKit Go.Shelf
theorem Rd.EB {α:Type} {sz:Nat} {E:World→List Value→α→Prop} {w:World} {a:Option Addr} {n cap:Nat} {l:List α} (h:Rd sz E w (.slice a n cap) l) (k:Nat) (hk:k≤l.length):Rd sz E w (.slice a k cap) (l.take k):=by
 obtain ⟨a',cap',cs,hv,h1,h2,h3,h4,h5⟩:=h
 simp only [Value.slice.injEq] at hv
 obtain ⟨rfl,-,rfl⟩:=hv
 have hl:(l.take k).length=k:=by simp;omega
 refine ⟨a,cap,cs,by rw [hl],by rw [hl];omega,h2,h3,fun i x hx=>?_,fun hp=>?_⟩
 ·rw [List.getElem?_take] at hx
  split at hx
  ·exact h4 i x hx
  ·cases hx
 ·rw [hl] at hp
  obtain ⟨b,off,ha,hlt,hc⟩:=h5 (by omega)
  exact ⟨b,off,ha,hlt,fun i j u hi hu=>hc i j u (by rw [hl] at hi;omega) hu⟩
theorem OT (u:Value) (m:aC) (bg:Nat) (Bp:Int) (w:World) (hu:iA w u m) (hc:w.cell? ⟨bg,0,none⟩=some (.int .i64 Bp)) (hb:bg < w.heap.size) :
  Calls Tryz.prog 83 #[u,.pointer (some ⟨bg,0,none⟩)] w fun e w'=>e=.returned (.bool (decide (m.uid=Bp)))∧Below w.heap.size w w':=by
 obtain ⟨u,rfl,h,-⟩:=hu
 obtain ⟨ua,un,uc,rfl⟩:=h.aG
 clear h
 obtain ⟨uid,flags,seq,text⟩:=m
 simp only
 go_enter Tryz.func83,Tryz.ntmps83
 go_wp2
 go_ret
 exact ⟨aP (by rw [Bool.eq_iff_iff];simp),bn _ _⟩
theorem OU (u:Value) (m:bB) (bg:Nat) (Bp:Int) (w:World) (hu:AQ w u m) (hc:w.cell? ⟨bg,0,none⟩=some (.int .i64 Bp)) (hb:bg < w.heap.size) :
  Calls Tryz.prog 85 #[u,.pointer (some ⟨bg,0,none⟩)] w fun e w'=>e=.returned (.bool (decide (m.uid=Bp)))∧Below w.heap.size w w':=by
 unfold AQ at hu
 subst hu
 obtain ⟨uid,seq⟩:=m
 simp only
 go_enter Tryz.func85,Tryz.ntmps85
 go_wp2
 go_ret
 exact ⟨aP (by rw [Bool.eq_iff_iff];simp),bn _ _⟩
theorem Xg (v:Value) (x:aA) (w:World) (hv:bI w v x) (hn0:1≤x.next) (hn1:x.next≤1000000) :
  Calls Tryz.prog 55 #[v] w fun e w'=>e=.returned (.bool (l7 x))∧Below w.heap.size w w':=by
 obtain ⟨u0,u1,u2,rfl,g0,g1,g2,i0,i1,i2,i3⟩:=hv
 have H0:Hid (∀ wi,Below w.heap.size w wi→Bs wi u0 x.name∧eT wi u1 x.ah∧dD wi u2 x.au):=fun wi h=>⟨g0.below h,g1.below iG h,g2.below gU h⟩
 obtain ⟨a0,n0,c0,rfl⟩:=g0.aG
 obtain ⟨a1,c1,rfl,m0,m1⟩:=g1.form
 obtain ⟨a2,c2,rfl,m2,m3⟩:=g2.form
 clear g0 g1 g2
 have kA:=aW w (.cells #[.slice a0 n0 c0,.int .i64 x.valid,.int .i64 x.next,.int .i64 x.seq,.slice a1 x.ah.length c1,.slice a2 x.au.length c2,.int .i64 x.lost] 34)
 have X:Below w.heap.size w (w.alloc (.cells #[.slice a0 n0 c0,.int .i64 x.valid,.int .i64 x.next,.int .i64 x.seq,.slice a1 x.ah.length c1,.slice a2 x.au.length c2,.int .i64 x.lost] 34)):=bn _ _
 by_cases h0:x.au.length≤40
 ·have HS:Hid (l7 x=(List.range x.au.length).all (jO x)):=by simp [Hid,l7,h0]
  have HK:Hid ((w.alloc (.cells #[.slice a0 n0 c0,.int .i64 x.valid,.int .i64 x.next,.int .i64 x.seq,.slice a1 x.ah.length c1,.slice a2 x.au.length c2,.int .i64 x.lost] 34)).heap[w.heap.size]?=some (.cells #[.slice a0 n0 c0,.int .i64 x.valid,.int .i64 x.next,.int .i64 x.seq,.slice a1 x.ah.length c1,.slice a2 x.au.length c2,.int .i64 x.lost] 34)):=kA
  have HX:Hid (Below w.heap.size w (w.alloc (.cells #[.slice a0 n0 c0,.int .i64 x.valid,.int .i64 x.next,.int .i64 x.seq,.slice a1 x.ah.length c1,.slice a2 x.au.length c2,.int .i64 x.lost] 34))):=X
  clear kA X
  by_cases hml:1 < x.lost
  ·have afK:Hid True:=trivial
   go_enter Tryz.func55,Tryz.ntmps55
   go_wp2
   go_loopw [3,4,5,16] (fun q _ _ i wr=>∃ k:Nat,k≤x.au.length∧i=.int .i64 k∧q=.int .i64 (minS x k)∧Hid (∀ j,j < k→jO x j=true)∧Hid (wr.heap[w.heap.size]?=some (.cells #[.slice a0 n0 c0,.int .i64 x.valid,.int .i64 x.next,.int .i64 x.seq,.slice a1 x.ah.length c1,.slice a2 x.au.length c2,.int .i64 x.lost] 34))∧Hid (Below w.heap.size w wr)) (fun _ _ _ i _=>x.au.length - (intOf i).toNat)
   case atStart=>exact ⟨0,Nat.zero_le _,rfl,by simp [minS] <;> omega,(fun j hj=>absurd hj (Nat.not_lt_zero _)),HK,HX⟩
   case round =>
    obtain ⟨k,hk,rfl,rfl,hA,hK,hB⟩:=hrel
    by_cases hlt:k < x.au.length
    ·obtain ⟨m,hm⟩:∃ m,x.au[k]?=some m:=⟨x.au[k],aL hlt⟩
     obtain ⟨b,off,cap',hv',hlb,d0,d1,j0,j1⟩:=dD.cell (H0.out wr hB.out).2.2 k m hm
     simp only [Value.slice.injEq,true_and] at hv'
     obtain ⟨rfl,rfl⟩:=hv'
     have HE:Hid (jO x k=(aM m.uid 1 (x.next - 1) && (aM m.seq (minS x k) x.seq && (!(x.ah.any fun o=>decide (o.uid=m.uid)) && !((x.au.take k).any fun o=>decide (o.uid=m.uid)))))):=by simp [Hid,jO,hm]
     have gV:Hid (minS x (k+1)=m.seq):=by simp [Hid,minS,hm]
     generalize hQ:minS x k=q at HE
     clear hQ hm
     obtain ⟨uid,seq⟩:=m
     simp only at d0 d1 j0 j1 HE gV
     have c1':=jy uid 1 (x.next - 1)
     have c2':=jy seq q x.seq
     generalize aM uid 1 (x.next - 1)=X1 at c1' HE
     generalize aM seq q x.seq=X2 at c2' HE
     have jR:Hid ((wr.alloc (.cells #[.int .i64 uid,.int .i64 seq] 70)).heap[wr.heap.size]?=some (.cells #[.int .i64 uid,.int .i64 seq] 70)):=aW wr _
     have iy:Hid ((wr.alloc (.cells #[.int .i64 uid,.int .i64 seq] 70)).heap[w.heap.size]?=some (.cells #[.slice a0 n0 c0,.int .i64 x.valid,.int .i64 x.next,.int .i64 x.seq,.slice a1 x.ah.length c1,.slice (some ⟨b,off,none⟩) x.au.length c2,.int .i64 x.lost] 34)):=yL hK.out _
     have HB1:Hid (Below w.heap.size w (wr.alloc (.cells #[.int .i64 uid,.int .i64 seq] 70))):=Below.step hB.out (bn _ _)
     have c3':=Ng 83 #[.pointer (some ⟨wr.heap.size,0,none⟩)] (fun o=>decide (o.uid=uid)) _ x.ah _ (H0.out _ HB1.out).2.1 (fun args w=>by kernel_rfl) (fun wi o u hbi hu=>OT u o wr.heap.size uid wi hu (qy (aB hbi jR.out)).1 (lt_of_heap (aB hbi jR.out)))
     have qJ:Hid (∀ wi,Below (wr.alloc (.cells #[.int .i64 uid,.int .i64 seq] 70)).heap.size (wr.alloc (.cells #[.int .i64 uid,.int .i64 seq] 70)) wi→Calls Tryz.prog 84 #[.slice (some ⟨b,off,none⟩) k c2,.func (.func 85) #[] #[.pointer (some ⟨wr.heap.size,0,none⟩)]] wi fun e w'=>e=.returned (.bool ((x.au.take k).any fun o=>decide (o.uid=uid)))∧Below wi.heap.size wi w'):=fun wi hbi =>
      Nh 85 #[.pointer (some ⟨wr.heap.size,0,none⟩)] (fun o=>decide (o.uid=uid)) _ (x.au.take k) _ (((H0.out _ (Below.step HB1.out hbi)).2.2).EB k hk) (fun args w=>by kernel_rfl) (fun wj o u hbj hu=>OU u o wr.heap.size uid wj hu (qy (aB hbj (aB hbi jR.out))).1 (lt_of_heap (aB hbj (aB hbi jR.out))))
     generalize (x.ah.any fun o=>decide (o.uid=uid))=X3 at c3' HE
     generalize ((x.au.take k).any fun o=>decide (o.uid=uid))=X4 at qJ HE
     obtain ⟨e0,e1,e2,e3,e4,e5,e6⟩:=bU hK.out
     have hlA:=lt_of_heap hK.out
     clear hK hB
     go_wp2_with fail
     refine (c1' _).mono ?_
     rintro e w' ⟨rfl,rfl⟩
     cases X1 with
     | false =>
      go_wp2
      go_ret
      exact ⟨aP (by rw [HS.out];exact iH k hlt HE.out),HB1.out⟩
     | true =>
     go_wp2_with fail
     refine (c2' _).mono ?_
     rintro e w' ⟨rfl,rfl⟩
     cases X2 with
     | false =>
      go_wp2
      go_ret
      exact ⟨aP (by rw [HS.out];exact iH k hlt HE.out),HB1.out⟩
     | true =>
     go_wp2_with fail
     refine c3'.mono ?_
     rintro e w2 ⟨rfl,B⟩
     have HB2:Hid (Below w.heap.size w w2):=Below.step HB1.out B
     have l8:Hid (w2.heap[w.heap.size]?=some (.cells #[.slice a0 n0 c0,.int .i64 x.valid,.int .i64 x.next,.int .i64 x.seq,.slice a1 x.ah.length c1,.slice (some ⟨b,off,none⟩) x.au.length c2,.int .i64 x.lost] 34)):=aB B iy.out
     have xG:Hid (w2.heap[wr.heap.size]?=some (.cells #[.int .i64 uid,.int .i64 seq] 70)):=aB B jR.out
     have zi:=qJ.out w2 B
     obtain ⟨t0,t1⟩:=qy xG.out
     obtain ⟨s0,s1,s2,s3,s4,s5,s6⟩:=bU l8.out
     clear B HB1 iy jR qJ e0 e1 e2 e3 e4 e5 e6
     cases X3 with
     | true =>
      go_wp2
      go_ret
      exact ⟨aP (by rw [HS.out];exact iH k hlt HE.out),HB2.out⟩
     | false =>
     go_wp2_with fail
     refine zi.mono ?_
     rintro e w3 ⟨rfl,B⟩
     have HB3:Hid (Below w.heap.size w w3):=Below.step HB2.out B
     have xH:Hid (w3.heap[w.heap.size]?=some (.cells #[.slice a0 n0 c0,.int .i64 x.valid,.int .i64 x.next,.int .i64 x.seq,.slice a1 x.ah.length c1,.slice (some ⟨b,off,none⟩) x.au.length c2,.int .i64 x.lost] 34)):=aB B l8.out
     clear t0 t1 s0 s1 s2 s3 s4 s5 s6
     obtain ⟨t0,t1⟩:=qy (aB B xG.out)
     clear B HB2 l8 xG
     cases X4 with
     | true =>
      go_wp2
      go_ret
      exact ⟨aP (by rw [HS.out];exact iH k hlt HE.out),HB3.out⟩
     | false =>
     go_wp2
     go_roundw
     case rel =>
      refine ⟨k+1,by omega,by go_num,by rw [gV.out],(show Hid _ from fun j hj=>?_),xH,HB3⟩
      by_cases e:j=k
      ·subst e;exact HE.out
      ·exact hA.out j (by omega)
     case measure=>simp [intOf];omega
    ·obtain rfl:k=x.au.length:=by omega
     go_wp2
     go_ret
     exact ⟨aP (by rw [HS.out];exact tO hA.out),hB.out⟩
  ·have hml':x.lost≤1:=by omega
   clear hml
   go_enter Tryz.func55,Tryz.ntmps55
   go_wp2
   go_loopw [3,4,5,16] (fun q _ _ i wr=>∃ k:Nat,k≤x.au.length∧i=.int .i64 k∧q=.int .i64 (minS x k)∧Hid (∀ j,j < k→jO x j=true)∧Hid (wr.heap[w.heap.size]?=some (.cells #[.slice a0 n0 c0,.int .i64 x.valid,.int .i64 x.next,.int .i64 x.seq,.slice a1 x.ah.length c1,.slice a2 x.au.length c2,.int .i64 x.lost] 34))∧Hid (Below w.heap.size w wr)) (fun _ _ _ i _=>x.au.length - (intOf i).toNat)
   case atStart=>exact ⟨0,Nat.zero_le _,rfl,by simp [minS] <;> omega,(fun j hj=>absurd hj (Nat.not_lt_zero _)),HK,HX⟩
   case round =>
    obtain ⟨k,hk,rfl,rfl,hA,hK,hB⟩:=hrel
    by_cases hlt:k < x.au.length
    ·obtain ⟨m,hm⟩:∃ m,x.au[k]?=some m:=⟨x.au[k],aL hlt⟩
     obtain ⟨b,off,cap',hv',hlb,d0,d1,j0,j1⟩:=dD.cell (H0.out wr hB.out).2.2 k m hm
     simp only [Value.slice.injEq,true_and] at hv'
     obtain ⟨rfl,rfl⟩:=hv'
     have HE:Hid (jO x k=(aM m.uid 1 (x.next - 1) && (aM m.seq (minS x k) x.seq && (!(x.ah.any fun o=>decide (o.uid=m.uid)) && !((x.au.take k).any fun o=>decide (o.uid=m.uid)))))):=by simp [Hid,jO,hm]
     have gV:Hid (minS x (k+1)=m.seq):=by simp [Hid,minS,hm]
     generalize hQ:minS x k=q at HE
     clear hQ hm
     obtain ⟨uid,seq⟩:=m
     simp only at d0 d1 j0 j1 HE gV
     have c1':=jy uid 1 (x.next - 1)
     have c2':=jy seq q x.seq
     generalize aM uid 1 (x.next - 1)=X1 at c1' HE
     generalize aM seq q x.seq=X2 at c2' HE
     have jR:Hid ((wr.alloc (.cells #[.int .i64 uid,.int .i64 seq] 70)).heap[wr.heap.size]?=some (.cells #[.int .i64 uid,.int .i64 seq] 70)):=aW wr _
     have iy:Hid ((wr.alloc (.cells #[.int .i64 uid,.int .i64 seq] 70)).heap[w.heap.size]?=some (.cells #[.slice a0 n0 c0,.int .i64 x.valid,.int .i64 x.next,.int .i64 x.seq,.slice a1 x.ah.length c1,.slice (some ⟨b,off,none⟩) x.au.length c2,.int .i64 x.lost] 34)):=yL hK.out _
     have HB1:Hid (Below w.heap.size w (wr.alloc (.cells #[.int .i64 uid,.int .i64 seq] 70))):=Below.step hB.out (bn _ _)
     have c3':=Ng 83 #[.pointer (some ⟨wr.heap.size,0,none⟩)] (fun o=>decide (o.uid=uid)) _ x.ah _ (H0.out _ HB1.out).2.1 (fun args w=>by kernel_rfl) (fun wi o u hbi hu=>OT u o wr.heap.size uid wi hu (qy (aB hbi jR.out)).1 (lt_of_heap (aB hbi jR.out)))
     have qJ:Hid (∀ wi,Below (wr.alloc (.cells #[.int .i64 uid,.int .i64 seq] 70)).heap.size (wr.alloc (.cells #[.int .i64 uid,.int .i64 seq] 70)) wi→Calls Tryz.prog 84 #[.slice (some ⟨b,off,none⟩) k c2,.func (.func 85) #[] #[.pointer (some ⟨wr.heap.size,0,none⟩)]] wi fun e w'=>e=.returned (.bool ((x.au.take k).any fun o=>decide (o.uid=uid)))∧Below wi.heap.size wi w'):=fun wi hbi =>
      Nh 85 #[.pointer (some ⟨wr.heap.size,0,none⟩)] (fun o=>decide (o.uid=uid)) _ (x.au.take k) _ (((H0.out _ (Below.step HB1.out hbi)).2.2).EB k hk) (fun args w=>by kernel_rfl) (fun wj o u hbj hu=>OU u o wr.heap.size uid wj hu (qy (aB hbj (aB hbi jR.out))).1 (lt_of_heap (aB hbj (aB hbi jR.out))))
     generalize (x.ah.any fun o=>decide (o.uid=uid))=X3 at c3' HE
     generalize ((x.au.take k).any fun o=>decide (o.uid=uid))=X4 at qJ HE
     obtain ⟨e0,e1,e2,e3,e4,e5,e6⟩:=bU hK.out
     have hlA:=lt_of_heap hK.out
     clear hK hB
     go_wp2_with fail
     refine (c1' _).mono ?_
     rintro e w' ⟨rfl,rfl⟩
     cases X1 with
     | false =>
      go_wp2
      go_ret
      exact ⟨aP (by rw [HS.out];exact iH k hlt HE.out),HB1.out⟩
     | true =>
     go_wp2_with fail
     refine (c2' _).mono ?_
     rintro e w' ⟨rfl,rfl⟩
     cases X2 with
     | false =>
      go_wp2
      go_ret
      exact ⟨aP (by rw [HS.out];exact iH k hlt HE.out),HB1.out⟩
     | true =>
     go_wp2_with fail
     refine c3'.mono ?_
     rintro e w2 ⟨rfl,B⟩
     have HB2:Hid (Below w.heap.size w w2):=Below.step HB1.out B
     have l8:Hid (w2.heap[w.heap.size]?=some (.cells #[.slice a0 n0 c0,.int .i64 x.valid,.int .i64 x.next,.int .i64 x.seq,.slice a1 x.ah.length c1,.slice (some ⟨b,off,none⟩) x.au.length c2,.int .i64 x.lost] 34)):=aB B iy.out
     have xG:Hid (w2.heap[wr.heap.size]?=some (.cells #[.int .i64 uid,.int .i64 seq] 70)):=aB B jR.out
     have zi:=qJ.out w2 B
     obtain ⟨t0,t1⟩:=qy xG.out
     obtain ⟨s0,s1,s2,s3,s4,s5,s6⟩:=bU l8.out
     clear B HB1 iy jR qJ e0 e1 e2 e3 e4 e5 e6
     cases X3 with
     | true =>
      go_wp2
      go_ret
      exact ⟨aP (by rw [HS.out];exact iH k hlt HE.out),HB2.out⟩
     | false =>
     go_wp2_with fail
     refine zi.mono ?_
     rintro e w3 ⟨rfl,B⟩
     have HB3:Hid (Below w.heap.size w w3):=Below.step HB2.out B
     have xH:Hid (w3.heap[w.heap.size]?=some (.cells #[.slice a0 n0 c0,.int .i64 x.valid,.int .i64 x.next,.int .i64 x.seq,.slice a1 x.ah.length c1,.slice (some ⟨b,off,none⟩) x.au.length c2,.int .i64 x.lost] 34)):=aB B l8.out
     clear t0 t1 s0 s1 s2 s3 s4 s5 s6
     obtain ⟨t0,t1⟩:=qy (aB B xG.out)
     clear B HB2 l8 xG
     cases X4 with
     | true =>
      go_wp2
      go_ret
      exact ⟨aP (by rw [HS.out];exact iH k hlt HE.out),HB3.out⟩
     | false =>
     go_wp2
     go_roundw
     case rel =>
      refine ⟨k+1,by omega,by go_num,by rw [gV.out],(show Hid _ from fun j hj=>?_),xH,HB3⟩
      by_cases e:j=k
      ·subst e;exact HE.out
      ·exact hA.out j (by omega)
     case measure=>simp [intOf];omega
    ·obtain rfl:k=x.au.length:=by omega
     go_wp2
     go_ret
     exact ⟨aP (by rw [HS.out];exact tO hA.out),hB.out⟩
 ·have HS:Hid (l7 x=false):=by simp [Hid,l7,h0]
  go_enter Tryz.func55,Tryz.ntmps55
  go_wp2
  go_ret
  exact ⟨aP HS.out,X⟩
/- What afL of package impl do. -/
open Go.RowKit Go.Shelf
theorem Xh (v:Value) (x:aA) (mv:Int) (w:World) (hv:bI w v x) :
  Calls Tryz.prog 24 #[v,.int .i64 mv] w fun e w'=>e=.returned (.bool (gB x mv))∧Below w.heap.size w w':=by
 have HV:Hid (∀ wi,Below w.heap.size w wi→bI wi v x):=fun wi h=>hv.below h
 obtain ⟨u0,u1,u2,rfl,g0,g1,g2,i0,i1,i2,i3⟩:=hv
 have H0:Hid (∀ wi,Below w.heap.size w wi→Bs wi u0 x.name∧eT wi u1 x.ah∧dD wi u2 x.au):=fun wi h=>⟨g0.below h,g1.below iG h,g2.below gU h⟩
 obtain ⟨a0,n0,c0,rfl⟩:=g0.aG
 obtain ⟨a1,c1,rfl,m0,m1⟩:=g1.form
 obtain ⟨a2,c2,rfl,m2,m3⟩:=g2.form
 have kA:=aW w (.cells #[.slice a0 n0 c0,.int .i64 x.valid,.int .i64 x.next,.int .i64 x.seq,.slice a1 x.ah.length c1,.slice a2 x.au.length c2,.int .i64 x.lost] 34)
 have X:Below w.heap.size w (w.alloc (.cells #[.slice a0 n0 c0,.int .i64 x.valid,.int .i64 x.next,.int .i64 x.seq,.slice a1 x.ah.length c1,.slice a2 x.au.length c2,.int .i64 x.lost] 34)):=bn _ _
 clear g0 g1 g2
 have HC:Hid (gB x mv=(bG x.name && (aM x.valid 1 mv && (aM x.next 1 1000000 && (aM x.seq 0 1000000 && (aM x.lost 0 x.seq && (mU x && l7 x))))))):=rfl
 have HN:Hid (aM x.next 1 1000000=true→1≤x.next∧x.next≤1000000):=by intro h;simp [aM] at h;exact h
 have hy1:=fun wi (h:Bs wi (.slice a0 n0 c0) x.name)=>Oo _ x.name wi h
 have hy2:=jy x.valid 1 mv
 have hy3:=jy x.next 1 1000000
 have hy4:=jy x.seq 0 1000000
 have Bq:=jy x.lost 0 x.seq
 have Iy:=fun wi (h:bI wi (.agg #[.slice a0 n0 c0,.int .i64 x.valid,.int .i64 x.next,.int .i64 x.seq,.slice a1 x.ah.length c1,.slice a2 x.au.length c2,.int .i64 x.lost]) x) h1 h2=>Wx _ x wi h h1 h2
 have Br:=fun wi (h:bI wi (.agg #[.slice a0 n0 c0,.int .i64 x.valid,.int .i64 x.next,.int .i64 x.seq,.slice a1 x.ah.length c1,.slice a2 x.au.length c2,.int .i64 x.lost]) x) h1 h2=>Xg _ x wi h h1 h2
 generalize bG x.name=X1 at HC hy1
 generalize aM x.valid 1 mv=X2 at HC hy2
 generalize aM x.next 1 1000000=X3 at HC hy3 HN
 generalize aM x.seq 0 1000000=X4 at HC hy4
 generalize aM x.lost 0 x.seq=X5 at HC Bq
 generalize mU x=X6 at HC Iy
 generalize l7 x=X7 at HC Br
 go_enter Tryz.func24,Tryz.ntmps24
 go_wp2_with fail
 refine (hy1 _ (H0.out _ X).1).mono ?_
 rintro e w1 ⟨rfl,B⟩
 replace kA:=aB B kA
 replace X:=Below.step X B
 clear B hy1
 obtain ⟨f0,f1,f2,f3,f4,f5,f6⟩:=bU kA
 cases X1 with
 | false =>
  go_wp2
  go_ret
  exact ⟨aP HC.out,X⟩
 | true =>
 go_wp2_with fail
 refine (hy2 _).mono ?_
 rintro e w' ⟨rfl,rfl⟩
 cases X2 with
 | false =>
  go_wp2
  go_ret
  exact ⟨aP HC.out,X⟩
 | true =>
 go_wp2_with fail
 refine (hy3 _).mono ?_
 rintro e w' ⟨rfl,rfl⟩
 cases X3 with
 | false =>
  go_wp2
  go_ret
  exact ⟨aP HC.out,X⟩
 | true =>
 obtain ⟨hn0,hn1⟩:=HN.out rfl
 go_wp2_with fail
 refine (hy4 _).mono ?_
 rintro e w' ⟨rfl,rfl⟩
 cases X4 with
 | false =>
  go_wp2
  go_ret
  exact ⟨aP HC.out,X⟩
 | true =>
 go_wp2_with fail
 refine (Bq _).mono ?_
 rintro e w' ⟨rfl,rfl⟩
 cases X5 with
 | false =>
  go_wp2
  go_ret
  exact ⟨aP HC.out,X⟩
 | true =>
 go_wp2_with fail
 refine (Iy _ (HV.out _ X) hn0 hn1).mono ?_
 rintro e w2 ⟨rfl,B⟩
 replace kA:=aB B kA
 replace X:=Below.step X B
 clear B Iy f0 f1 f2 f3 f4 f5 f6
 obtain ⟨f0,f1,f2,f3,f4,f5,f6⟩:=bU kA
 cases X6 with
 | false =>
  go_wp2
  go_ret
  exact ⟨aP HC.out,X⟩
 | true =>
 go_wp2_with fail
 refine (Br _ (HV.out _ X) hn0 hn1).mono ?_
 rintro e w3 ⟨rfl,B⟩
 replace X:=Below.step X B
 go_wp2
 go_ret
 exact ⟨aP HC.out,X⟩
end Go.Proofs.YtmglhdkeidhafaaGreat
