/- The proof's texts, part 53. -/
import Derived.Test.YtmglhdkeidhafaaGreatTN
import Derived.Test.YtmglhdkeidhafaaGreatTP
import Derived.Test.YtmglhdkeidhafaaGreatTQ
namespace Go.Proofs.YtmglhdkeidhafaaGreat
open Go.RowKit
set_option linter.unusedVariables false
set_option maxHeartbeats 4000000
set_option maxRecDepth 100000
/- What the law of Do holds of accounts and Ob that lie in variables. -/
section
variable {w w' W xc x y : World} {B T b6 b7 : Nat} {u v v1 v2 z0 z1 z2 d0 d1 d2 d3 d4 d5 d6 d7 d8 d9 : Value} {l : List Int} {r : aF × dI} {a : aF} {c : dS}
theorem Row.stay (h:Row w B T v l):oq w v l:=fun w' hs ht=>by
 refine Row.bs (B:=B) (T:=T) ⟨h.1,⟨h.2.1.1,?_⟩,h.2.2⟩
 rcases h.2.1.2 with hn | ⟨g,cap,cur,hv,hg,hh,r⟩
 ·exact .inl hn
 ·exact .inr ⟨g,cap,cur,hv,hg,(ht g ⟨_,_,hh⟩).trans hh,r⟩
/-- A command, as its parts. -/
def UM (w:World) (B T:Nat) (v:Value) (c:dS):Prop:=lV w B T v c.k c.bx c.tt c.uid c.mode c.fl c.si c.tx
theorem UM.cs (h:UM w B T v c):qK w v c :=
 let ⟨u0,u1,u2,_,_,e,g0,g1,g2,_,_,_,i⟩:=h;⟨u0,u1,u2,e,g0.stay,g1.stay,g2.stay,i⟩
theorem iw.form' (h:iw w v a):∃ p0 k0 p1 k1,v=.agg #[.int .i64 a.valid,.slice p0 a.boxes.length k0,.slice p1 a.seen.length k1]:=by
 obtain ⟨u0,u1,rfl,g0,g1,-⟩:=h
 obtain ⟨p0,k0,rfl,-⟩:=g0.form
 obtain ⟨p1,k1,rfl,-⟩:=g1.form
 exact ⟨_,_,_,_,rfl⟩
theorem Kept.refl (w w':World):Kept w w' w':=⟨Nat.le_refl _,fun _ _ _=>rfl,fun _ _ _ _ _=>rfl⟩
theorem Dw.kept (h:Dw w w' v1 v2 r) (hk:Kept w w' W):iw W v1 r.1∧nW W v2 r.2:=by
 obtain ⟨bv,sv,T1,T2,rfl,hI,hR,hB,t1,t2,t3,hi⟩:=h
 have hf:=hk.2.1
 exact ⟨⟨_,_,rfl,(hB.frame jN fun b hb hl=>hf b (by have:=hb.1;omega) hl).rd fun _ _ _ _=>fI.rd,(hI.frame tL fun b hb hl=>hf b hb.1 hl).rd fun _ _ _ _ h=>h,hi⟩,(hR.frame fun b h1 h2 hl=>hf b (by omega) hl).rv⟩
theorem Dw.own (h:Dw w w' v1 v2 r):∃ T1 T2,tN w' (fun k=>In w.heap.size T1 k∨In T2 w'.heap.size k) v1 r.1∧dX w' T1 T2 v2 r.2∧w.heap.size≤T1∧T1≤T2∧T2≤w'.heap.size:=by
 obtain ⟨bv,sv,T1,T2,rfl,hI,hR,hB,t1,t2,t3,hi⟩:=h
 exact ⟨T1,T2,⟨bv,sv,_,_,rfl,hB,hI,fun k hk=>⟨.inr hk,fun h=>by have:=hk.1;have:=h.2;omega⟩,fun k hk=>.inl hk,hi⟩,hR,t1,t2,t3⟩
theorem aev (w:World) (av cv:Value) (a:aF) (c:dS) (hv:iw w av a) (hc:iQ w cv c.k c.bx c.tt c.uid c.mode c.fl c.si c.tx) :
  Calls Tryz.prog 5 #[av,cv] w fun e w'=>∃ v1 v2,e=.returned (.tuple #[v1,v2])∧(∀ W',Kept w w' W'→iw W' v1 (kF a c).1∧nW W' v2 (kF a c).2)∧Below w.heap.size w w' :=
 (aei w av cv a c hv hc).mono fun _ _ ⟨v1,v2,e,h,hb⟩=>⟨v1,v2,e,fun _ hk=>h.kept hk,hb⟩
end
/- What wM of package spec does of kind 2. -/
theorem aew (a0 a1 a2:Option Addr) (nb nt nx c0 c1 c2:Nat) (bx tt:List Int) (uid mode fl si:Int) (tx:List Int) (w:World) (HN:Hid (bx.length=nb∧tt.length=nt∧tx.length=nx))
  (H0:Hid (∀ o,Bs (w.alloc o) (.slice a0 nb c0) bx∧Bs (w.alloc o) (.slice a1 nt c1) tt∧Bs (w.alloc o) (.slice a2 nx c2) tx)) (lq : -9223372036854775808≤uid) (i11:uid≤9223372036854775807) (i20 : -9223372036854775808≤mode) (i21:mode≤9223372036854775807) (i30 : -9223372036854775808≤fl) (i31:fl≤9223372036854775807) (i40 : -9223372036854775808≤si) (i41:si≤9223372036854775807) :
  Calls Tryz.prog 7 #[.agg #[.int .i64 2,.slice a0 nb c0,.slice a1 nt c1,.int .i64 uid,.int .i64 mode,.int .i64 fl,.int .i64 si,.slice a2 nx c2]] w fun e w'=>e=.returned (.bool (dK 2 bx tt uid mode fl si tx))∧Below w.heap.size w w':=by
 have hp:∀ w,Calls Tryz.prog 19 #[.int .i64 2] w fun e w'=>e=.returned (.tuple #[.bool false,.bool false,.bool true,.bool false,.bool true])∧w'=w:=fun w=>vE 2 w
 have ab:Hid (∀ o,Below w.heap.size w (w.alloc o)):=fun o=>bn _ o
 rcases Nat.eq_zero_or_pos nb with rfl | hnb
 all_goals rcases Nat.eq_zero_or_pos nt with rfl | hnt
 all_goals try have hnb':(nb:Int)≠0:=by omega
 all_goals try have zX:(nt:Int)≠0:=by omega
 all_goals try have zY:(0:Int) < nt:=by omega
 all_goals go_enter Tryz.func7,Tryz.ntmps7
 all_goals go_wp2_with (first
  | (go_at_call 18;(refine (qI _ bx _ (H0.out _).1).mono ?_);rintro e w' ⟨rfl,rfl⟩)
  | (go_at_call 21;refine (pJ _ tx _ (H0.out _).2.2).mono ?_;rintro e w' ⟨rfl,rfl⟩)
  | (go_at_call 19;refine (hp _).mono ?_;rintro e w' ⟨rfl,rfl⟩)
  | (go_at_call 20;refine (qH _ _).mono ?_;rintro e w' ⟨rfl,rfl⟩))
 all_goals go_ret
 all_goals refine ⟨aP ?_,ab.out _⟩
 all_goals clear hp H0
 all_goals have oW:=HN.out
 all_goals (try go_light)
 all_goals obtain ⟨e0,e1,e2⟩:=oW
 all_goals clear HN ab
 all_goals have z0:=lD (l:=bx)
 all_goals have z1:=lD (l:=tt)
 all_goals have z2:=vg (l:=tx)
 all_goals (try have y0:=HX.out)
 all_goals (try have y1:=HY.out)
 all_goals (try clear HX HY)
 all_goals (unfold dK;unfold aM at *;cases hn:bG bx <;> cases hm:bG tt <;> cases ht:dU tx <;> simp [hn,hm,ht,e0,e1,e2] at * <;> first | omega | (rw [Bool.eq_iff_iff];simp;omega))
/- What wM of package spec does of kind 5. -/
theorem aex (a0 a1 a2:Option Addr) (nb nt nx c0 c1 c2:Nat) (bx tt:List Int) (uid mode fl si:Int) (tx:List Int) (w:World) (HN:Hid (bx.length=nb∧tt.length=nt∧tx.length=nx))
  (H0:Hid (∀ o,Bs (w.alloc o) (.slice a0 nb c0) bx∧Bs (w.alloc o) (.slice a1 nt c1) tt∧Bs (w.alloc o) (.slice a2 nx c2) tx)) (lq : -9223372036854775808≤uid) (i11:uid≤9223372036854775807) (i20 : -9223372036854775808≤mode) (i21:mode≤9223372036854775807) (i30 : -9223372036854775808≤fl) (i31:fl≤9223372036854775807) (i40 : -9223372036854775808≤si) (i41:si≤9223372036854775807) :
  Calls Tryz.prog 7 #[.agg #[.int .i64 5,.slice a0 nb c0,.slice a1 nt c1,.int .i64 uid,.int .i64 mode,.int .i64 fl,.int .i64 si,.slice a2 nx c2]] w fun e w'=>e=.returned (.bool (dK 5 bx tt uid mode fl si tx))∧Below w.heap.size w w':=by
 have hp:∀ w,Calls Tryz.prog 19 #[.int .i64 5] w fun e w'=>e=.returned (.tuple #[.bool false,.bool true,.bool false,.bool false,.bool false])∧w'=w:=fun w=>vE 5 w
 have ab:Hid (∀ o,Below w.heap.size w (w.alloc o)):=fun o=>bn _ o
 rcases Nat.eq_zero_or_pos nb with rfl | hnb
 all_goals rcases Nat.eq_zero_or_pos nt with rfl | hnt
 all_goals try have hnb':(nb:Int)≠0:=by omega
 all_goals try have zX:(nt:Int)≠0:=by omega
 all_goals try have zY:(0:Int) < nt:=by omega
 all_goals go_enter Tryz.func7,Tryz.ntmps7
 all_goals go_wp2_with (first
  | (go_at_call 18;(refine (qI _ bx _ (H0.out _).1).mono ?_);rintro e w' ⟨rfl,rfl⟩)
  | (go_at_call 21;refine (pJ _ tx _ (H0.out _).2.2).mono ?_;rintro e w' ⟨rfl,rfl⟩)
  | (go_at_call 19;refine (hp _).mono ?_;rintro e w' ⟨rfl,rfl⟩)
  | (go_at_call 20;refine (qH _ _).mono ?_;rintro e w' ⟨rfl,rfl⟩))
 all_goals go_ret
 all_goals refine ⟨aP ?_,ab.out _⟩
 all_goals clear hp H0
 all_goals have oW:=HN.out
 all_goals (try go_light)
 all_goals obtain ⟨e0,e1,e2⟩:=oW
 all_goals clear HN ab
 all_goals have z0:=lD (l:=bx)
 all_goals have z1:=lD (l:=tt)
 all_goals have z2:=vg (l:=tx)
 all_goals (try have y0:=HX.out)
 all_goals (try have y1:=HY.out)
 all_goals (try clear HX HY)
 all_goals (unfold dK;unfold aM at *;cases hn:bG bx <;> cases hm:bG tt <;> cases ht:dU tx <;> simp [hn,hm,ht,e0,e1,e2] at * <;> first | omega | (rw [Bool.eq_iff_iff];simp;omega))
/- What wM of package spec does of kind 8. -/
theorem aey (a0 a1 a2:Option Addr) (nb nt nx c0 c1 c2:Nat) (bx tt:List Int) (uid mode fl si:Int) (tx:List Int) (w:World) (HN:Hid (bx.length=nb∧tt.length=nt∧tx.length=nx))
  (H0:Hid (∀ o,Bs (w.alloc o) (.slice a0 nb c0) bx∧Bs (w.alloc o) (.slice a1 nt c1) tt∧Bs (w.alloc o) (.slice a2 nx c2) tx)) (lq : -9223372036854775808≤uid) (i11:uid≤9223372036854775807) (i20 : -9223372036854775808≤mode) (i21:mode≤9223372036854775807) (i30 : -9223372036854775808≤fl) (i31:fl≤9223372036854775807) (i40 : -9223372036854775808≤si) (i41:si≤9223372036854775807) :
  Calls Tryz.prog 7 #[.agg #[.int .i64 8,.slice a0 nb c0,.slice a1 nt c1,.int .i64 uid,.int .i64 mode,.int .i64 fl,.int .i64 si,.slice a2 nx c2]] w fun e w'=>e=.returned (.bool (dK 8 bx tt uid mode fl si tx))∧Below w.heap.size w w':=by
 have hp:∀ w,Calls Tryz.prog 19 #[.int .i64 8] w fun e w'=>e=.returned (.tuple #[.bool false,.bool false,.bool false,.bool true,.bool false])∧w'=w:=fun w=>vE 8 w
 have ab:Hid (∀ o,Below w.heap.size w (w.alloc o)):=fun o=>bn _ o
 rcases Nat.eq_zero_or_pos nb with rfl | hnb
 all_goals rcases Nat.eq_zero_or_pos nt with rfl | hnt
 all_goals try have hnb':(nb:Int)≠0:=by omega
 all_goals try have zX:(nt:Int)≠0:=by omega
 all_goals try have zY:(0:Int) < nt:=by omega
 all_goals go_enter Tryz.func7,Tryz.ntmps7
 all_goals go_wp2_with (first
  | (go_at_call 18;(refine (qI _ bx _ (H0.out _).1).mono ?_);rintro e w' ⟨rfl,rfl⟩)
  | (go_at_call 21;refine (pJ _ tx _ (H0.out _).2.2).mono ?_;rintro e w' ⟨rfl,rfl⟩)
  | (go_at_call 19;refine (hp _).mono ?_;rintro e w' ⟨rfl,rfl⟩)
  | (go_at_call 20;refine (qH _ _).mono ?_;rintro e w' ⟨rfl,rfl⟩))
 all_goals go_ret
 all_goals refine ⟨aP ?_,ab.out _⟩
 all_goals clear hp H0
 all_goals have oW:=HN.out
 all_goals (try go_light)
 all_goals obtain ⟨e0,e1,e2⟩:=oW
 all_goals clear HN ab
 all_goals have z0:=lD (l:=bx)
 all_goals have z1:=lD (l:=tt)
 all_goals have z2:=vg (l:=tx)
 all_goals (try have y0:=HX.out)
 all_goals (try have y1:=HY.out)
 all_goals (try clear HX HY)
 all_goals (unfold dK;unfold aM at *;cases hn:bG bx <;> cases hm:bG tt <;> cases ht:dU tx <;> simp [hn,hm,ht,e0,e1,e2] at * <;> first | omega | (rw [Bool.eq_iff_iff];simp;omega))
/- What wM of package spec does. -/
theorem aez (v:Value) (k:Int) (bx tt:List Int) (uid mode fl si:Int) (tx:List Int) (w:World) (hv:iQ w v k bx tt uid mode fl si tx) :
  Calls Tryz.prog 7 #[v] w fun e w'=>e=.returned (.bool (dK k bx tt uid mode fl si tx))∧Below w.heap.size w w':=by
 obtain ⟨u0,u1,u2,rfl,g0,g1,g2,i0,i1,i2,i3,i4⟩:=hv
 have ab:∀ o,Below w.heap.size w (w.alloc o):=fun o=>bn _ o
 have H0:Hid (∀ o,Bs (w.alloc o) u0 bx∧Bs (w.alloc o) u1 tt∧Bs (w.alloc o) u2 tx):=fun o=>⟨g0.below (ab o),g1.below (ab o),g2.below (ab o)⟩
 obtain ⟨a0,c0,rfl⟩:=g0.form
 obtain ⟨a1,c1,rfl⟩:=g1.form
 obtain ⟨a2,c2,rfl⟩:=g2.form
 obtain ⟨lq,i11⟩:=i1
 obtain ⟨i20,i21⟩:=i2
 obtain ⟨i30,i31⟩:=i3
 obtain ⟨i40,i41⟩:=i4
 obtain ⟨i00,i01⟩:=i0
 by_cases h:0≤k∧k≤9
 ·have hk:k=0∨k=1∨k=2∨k=3∨k=4∨k=5∨k=6∨k=7∨k=8∨k=9:=by omega
  rcases hk with rfl | rfl | rfl | rfl | rfl | rfl | rfl | rfl | rfl | rfl
  ·exact Gz 0 (by omega) (by omega) (by omega) (by omega) (by omega) (by omega) (by omega) (by omega) a0 a1 a2 _ _ _ c0 c1 c2 bx tt uid mode fl si tx w ⟨rfl,rfl,rfl⟩ H0 lq i11 i20 i21 i30 i31 i40 i41
  ·exact Gz 1 (by omega) (by omega) (by omega) (by omega) (by omega) (by omega) (by omega) (by omega) a0 a1 a2 _ _ _ c0 c1 c2 bx tt uid mode fl si tx w ⟨rfl,rfl,rfl⟩ H0 lq i11 i20 i21 i30 i31 i40 i41
  ·exact aew a0 a1 a2 _ _ _ c0 c1 c2 bx tt uid mode fl si tx w ⟨rfl,rfl,rfl⟩ H0 lq i11 i20 i21 i30 i31 i40 i41
  ·exact acX a0 a1 a2 _ _ _ c0 c1 c2 bx tt uid mode fl si tx w ⟨rfl,rfl,rfl⟩ H0 lq i11 i20 i21 i30 i31 i40 i41
  ·exact Gz 4 (by omega) (by omega) (by omega) (by omega) (by omega) (by omega) (by omega) (by omega) a0 a1 a2 _ _ _ c0 c1 c2 bx tt uid mode fl si tx w ⟨rfl,rfl,rfl⟩ H0 lq i11 i20 i21 i30 i31 i40 i41
  ·exact aex a0 a1 a2 _ _ _ c0 c1 c2 bx tt uid mode fl si tx w ⟨rfl,rfl,rfl⟩ H0 lq i11 i20 i21 i30 i31 i40 i41
  ·exact aeu a0 a1 a2 _ _ _ c0 c1 c2 bx tt uid mode fl si tx w ⟨rfl,rfl,rfl⟩ H0 lq i11 i20 i21 i30 i31 i40 i41
  ·exact Gz 7 (by omega) (by omega) (by omega) (by omega) (by omega) (by omega) (by omega) (by omega) a0 a1 a2 _ _ _ c0 c1 c2 bx tt uid mode fl si tx w ⟨rfl,rfl,rfl⟩ H0 lq i11 i20 i21 i30 i31 i40 i41
  ·exact aey a0 a1 a2 _ _ _ c0 c1 c2 bx tt uid mode fl si tx w ⟨rfl,rfl,rfl⟩ H0 lq i11 i20 i21 i30 i31 i40 i41
  ·exact acY a0 a1 a2 _ _ _ c0 c1 c2 bx tt uid mode fl si tx w ⟨rfl,rfl,rfl⟩ H0 lq i11 i20 i21 i30 i31 i40 i41
 ·have HZ:Hid (dK k bx tt uid mode fl si tx=false):=by simp [Hid,dK,h]
  by_cases h1:k < 0
  ·go_enter Tryz.func7,Tryz.ntmps7
   go_wp2
   go_ret
   exact ⟨aP HZ.out,ab _⟩
  ·have h2:9 < k:=by omega
   go_enter Tryz.func7,Tryz.ntmps7
   go_wp2
   go_ret
   exact ⟨aP HZ.out,ab _⟩
end Go.Proofs.YtmglhdkeidhafaaGreat
