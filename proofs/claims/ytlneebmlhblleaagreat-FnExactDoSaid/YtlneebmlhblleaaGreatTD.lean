/- The proof's texts, part 39. -/
import Derived.Test.YtlneebmlhblleaaGreatTC
import Derived.Deep.Light
namespace Go.Proofs.YtlneebmlhblleaaGreat
open Go.RowKit
set_option linter.unusedVariables false
set_option linter.unusedSimpArgs false
set_option maxHeartbeats 8000000
set_option maxRecDepth 100000
/- What xq of package spec does of a kind that has a name alone. -/
theorem Iy (k:Int) (h00:0≤k) (h01:k≤9) (h2:¬ k=2) (h3:¬ k=3) (h5:¬ k=5) (h6:¬ k=6) (h8:¬ k=8) (h9:¬ k=9) (a0 a1 a2:Option Addr) (nb nt nx c0 c1 c2:Nat) (bx tt:List Int) (uid mode fl si:Int) (tx:List Int) (w:World) (HN:Hid (bx.length=nb∧tt.length=nt∧tx.length=nx))
  (H0:Hid (∀ o,Bs (w.alloc o) (.slice a0 nb c0) bx∧Bs (w.alloc o) (.slice a1 nt c1) tt∧Bs (w.alloc o) (.slice a2 nx c2) tx)) (lY : -9223372036854775808≤uid) (i11:uid≤9223372036854775807) (i20 : -9223372036854775808≤mode) (i21:mode≤9223372036854775807) (i30 : -9223372036854775808≤fl) (i31:fl≤9223372036854775807) (i40 : -9223372036854775808≤si) (i41:si≤9223372036854775807) :
  Calls Tryz.prog 22 #[.agg #[.int .i64 k,.slice a0 nb c0,.slice a1 nt c1,.int .i64 uid,.int .i64 mode,.int .i64 fl,.int .i64 si,.slice a2 nx c2]] w fun e w'=>e=.returned (.bool (fM k bx tt uid mode fl si tx))∧Below w.heap.size w w':=by
 have hp:∀ w,Calls Tryz.prog 50 #[.int .i64 k] w fun e w'=>e=.returned (.tuple #[.bool false,.bool false,.bool false,.bool false,.bool false])∧w'=w:=fun w=>by
  have h:=zD k w
  rwa [show toB k=false by simp [toB,h6],show Bv k=false by simp [Bv,h3,h5,h6],show Bw k=false by simp [Bw,h2,h3,h6],show BA k=false by simp [BA,h3,h8],show BD k=false by simp [BD,h2]] at h
 have ab:Hid (∀ o,Below w.heap.size w (w.alloc o)):=fun o=>bn _ o
 rcases Nat.eq_zero_or_pos nb with rfl | hnb
 all_goals rcases Nat.eq_zero_or_pos nt with rfl | hnt
 all_goals try have hnb':(nb:Int)≠0:=by omega
 all_goals try have AV:(nt:Int)≠0:=by omega
 all_goals try have AX:(0:Int) < nt:=by omega
 all_goals go_enter Tryz.func22,Tryz.ntmps22
 all_goals go_wp2_with (first
  | (go_at_call 49;(refine (rR _ bx _ (H0.out _).1).mono ?_);rintro e w' ⟨rfl,rfl⟩)
  | (go_at_call 52;refine (qN _ tx _ (H0.out _).2.2).mono ?_;rintro e w' ⟨rfl,rfl⟩)
  | (go_at_call 50;refine (hp _).mono ?_;rintro e w' ⟨rfl,rfl⟩)
  | (go_at_call 51;refine (rT _ _).mono ?_;rintro e w' ⟨rfl,rfl⟩))
 all_goals go_ret
 all_goals refine ⟨aR ?_,ab.out _⟩
 all_goals clear hp H0
 all_goals have pR:=HN.out
 all_goals (try go_light)
 all_goals obtain ⟨e0,e1,e2⟩:=pR
 all_goals clear HN ab
 all_goals have z0:=l9 (l:=bx)
 all_goals have z1:=l9 (l:=tt)
 all_goals have z2:=wo (l:=tx)
 all_goals (try have y0:=HX.out)
 all_goals (try have y1:=HY.out)
 all_goals (try clear HX HY)
 all_goals (rcases (show k=0∨k=1∨k=4∨k=7 by omega) with rfl | rfl | rfl | rfl)
 all_goals (unfold fM;unfold aS at *;cases hn:bZ bx <;> cases hm:bZ tt <;> cases ht:fD tx <;> simp [hn,hm,ht,e0,e1,e2] at * <;> first | omega | (rw [Bool.eq_iff_iff];simp;omega))
/- What xq of package spec does of kind 2. -/
theorem af3 (a0 a1 a2:Option Addr) (nb nt nx c0 c1 c2:Nat) (bx tt:List Int) (uid mode fl si:Int) (tx:List Int) (w:World) (HN:Hid (bx.length=nb∧tt.length=nt∧tx.length=nx))
  (H0:Hid (∀ o,Bs (w.alloc o) (.slice a0 nb c0) bx∧Bs (w.alloc o) (.slice a1 nt c1) tt∧Bs (w.alloc o) (.slice a2 nx c2) tx)) (lY : -9223372036854775808≤uid) (i11:uid≤9223372036854775807) (i20 : -9223372036854775808≤mode) (i21:mode≤9223372036854775807) (i30 : -9223372036854775808≤fl) (i31:fl≤9223372036854775807) (i40 : -9223372036854775808≤si) (i41:si≤9223372036854775807) :
  Calls Tryz.prog 22 #[.agg #[.int .i64 2,.slice a0 nb c0,.slice a1 nt c1,.int .i64 uid,.int .i64 mode,.int .i64 fl,.int .i64 si,.slice a2 nx c2]] w fun e w'=>e=.returned (.bool (fM 2 bx tt uid mode fl si tx))∧Below w.heap.size w w':=by
 have hp:∀ w,Calls Tryz.prog 50 #[.int .i64 2] w fun e w'=>e=.returned (.tuple #[.bool false,.bool false,.bool true,.bool false,.bool true])∧w'=w:=fun w=>zD 2 w
 have ab:Hid (∀ o,Below w.heap.size w (w.alloc o)):=fun o=>bn _ o
 rcases Nat.eq_zero_or_pos nb with rfl | hnb
 all_goals rcases Nat.eq_zero_or_pos nt with rfl | hnt
 all_goals try have hnb':(nb:Int)≠0:=by omega
 all_goals try have AV:(nt:Int)≠0:=by omega
 all_goals try have AX:(0:Int) < nt:=by omega
 all_goals go_enter Tryz.func22,Tryz.ntmps22
 all_goals go_wp2_with (first
  | (go_at_call 49;(refine (rR _ bx _ (H0.out _).1).mono ?_);rintro e w' ⟨rfl,rfl⟩)
  | (go_at_call 52;refine (qN _ tx _ (H0.out _).2.2).mono ?_;rintro e w' ⟨rfl,rfl⟩)
  | (go_at_call 50;refine (hp _).mono ?_;rintro e w' ⟨rfl,rfl⟩)
  | (go_at_call 51;refine (rT _ _).mono ?_;rintro e w' ⟨rfl,rfl⟩))
 all_goals go_ret
 all_goals refine ⟨aR ?_,ab.out _⟩
 all_goals clear hp H0
 all_goals have pR:=HN.out
 all_goals (try go_light)
 all_goals obtain ⟨e0,e1,e2⟩:=pR
 all_goals clear HN ab
 all_goals have z0:=l9 (l:=bx)
 all_goals have z1:=l9 (l:=tt)
 all_goals have z2:=wo (l:=tx)
 all_goals (try have y0:=HX.out)
 all_goals (try have y1:=HY.out)
 all_goals (try clear HX HY)
 all_goals (unfold fM;unfold aS at *;cases hn:bZ bx <;> cases hm:bZ tt <;> cases ht:fD tx <;> simp [hn,hm,ht,e0,e1,e2] at * <;> first | omega | (rw [Bool.eq_iff_iff];simp;omega))
/- What xq of package spec does of kind 3. -/
theorem af4 (a0 a1 a2:Option Addr) (nb nt nx c0 c1 c2:Nat) (bx tt:List Int) (uid mode fl si:Int) (tx:List Int) (w:World) (HN:Hid (bx.length=nb∧tt.length=nt∧tx.length=nx))
  (H0:Hid (∀ o,Bs (w.alloc o) (.slice a0 nb c0) bx∧Bs (w.alloc o) (.slice a1 nt c1) tt∧Bs (w.alloc o) (.slice a2 nx c2) tx)) (lY : -9223372036854775808≤uid) (i11:uid≤9223372036854775807) (i20 : -9223372036854775808≤mode) (i21:mode≤9223372036854775807) (i30 : -9223372036854775808≤fl) (i31:fl≤9223372036854775807) (i40 : -9223372036854775808≤si) (i41:si≤9223372036854775807) :
  Calls Tryz.prog 22 #[.agg #[.int .i64 3,.slice a0 nb c0,.slice a1 nt c1,.int .i64 uid,.int .i64 mode,.int .i64 fl,.int .i64 si,.slice a2 nx c2]] w fun e w'=>e=.returned (.bool (fM 3 bx tt uid mode fl si tx))∧Below w.heap.size w w':=by
 have hp:∀ w,Calls Tryz.prog 50 #[.int .i64 3] w fun e w'=>e=.returned (.tuple #[.bool false,.bool true,.bool true,.bool true,.bool false])∧w'=w:=fun w=>zD 3 w
 have ab:Hid (∀ o,Below w.heap.size w (w.alloc o)):=fun o=>bn _ o
 rcases Nat.eq_zero_or_pos nb with rfl | hnb
 all_goals rcases Nat.eq_zero_or_pos nt with rfl | hnt
 all_goals try have hnb':(nb:Int)≠0:=by omega
 all_goals try have AV:(nt:Int)≠0:=by omega
 all_goals try have AX:(0:Int) < nt:=by omega
 all_goals go_enter Tryz.func22,Tryz.ntmps22
 all_goals go_wp2_with (first
  | (go_at_call 49;(refine (rR _ bx _ (H0.out _).1).mono ?_);rintro e w' ⟨rfl,rfl⟩)
  | (go_at_call 52;refine (qN _ tx _ (H0.out _).2.2).mono ?_;rintro e w' ⟨rfl,rfl⟩)
  | (go_at_call 50;refine (hp _).mono ?_;rintro e w' ⟨rfl,rfl⟩)
  | (go_at_call 51;refine (rT _ _).mono ?_;rintro e w' ⟨rfl,rfl⟩))
 all_goals go_ret
 all_goals refine ⟨aR ?_,ab.out _⟩
 all_goals clear hp H0
 all_goals have pR:=HN.out
 all_goals (try go_light)
 all_goals obtain ⟨e0,e1,e2⟩:=pR
 all_goals clear HN ab
 all_goals have z0:=l9 (l:=bx)
 all_goals have z1:=l9 (l:=tt)
 all_goals have z2:=wo (l:=tx)
 all_goals (try have y0:=HX.out)
 all_goals (try have y1:=HY.out)
 all_goals (try clear HX HY)
 all_goals (unfold fM;unfold aS at *;cases hn:bZ bx <;> cases hm:bZ tt <;> cases ht:fD tx <;> simp [hn,hm,ht,e0,e1,e2] at * <;> first | omega | (rw [Bool.eq_iff_iff];simp;omega))
/- What xq of package spec does of kind 5. -/
theorem af5 (a0 a1 a2:Option Addr) (nb nt nx c0 c1 c2:Nat) (bx tt:List Int) (uid mode fl si:Int) (tx:List Int) (w:World) (HN:Hid (bx.length=nb∧tt.length=nt∧tx.length=nx))
  (H0:Hid (∀ o,Bs (w.alloc o) (.slice a0 nb c0) bx∧Bs (w.alloc o) (.slice a1 nt c1) tt∧Bs (w.alloc o) (.slice a2 nx c2) tx)) (lY : -9223372036854775808≤uid) (i11:uid≤9223372036854775807) (i20 : -9223372036854775808≤mode) (i21:mode≤9223372036854775807) (i30 : -9223372036854775808≤fl) (i31:fl≤9223372036854775807) (i40 : -9223372036854775808≤si) (i41:si≤9223372036854775807) :
  Calls Tryz.prog 22 #[.agg #[.int .i64 5,.slice a0 nb c0,.slice a1 nt c1,.int .i64 uid,.int .i64 mode,.int .i64 fl,.int .i64 si,.slice a2 nx c2]] w fun e w'=>e=.returned (.bool (fM 5 bx tt uid mode fl si tx))∧Below w.heap.size w w':=by
 have hp:∀ w,Calls Tryz.prog 50 #[.int .i64 5] w fun e w'=>e=.returned (.tuple #[.bool false,.bool true,.bool false,.bool false,.bool false])∧w'=w:=fun w=>zD 5 w
 have ab:Hid (∀ o,Below w.heap.size w (w.alloc o)):=fun o=>bn _ o
 rcases Nat.eq_zero_or_pos nb with rfl | hnb
 all_goals rcases Nat.eq_zero_or_pos nt with rfl | hnt
 all_goals try have hnb':(nb:Int)≠0:=by omega
 all_goals try have AV:(nt:Int)≠0:=by omega
 all_goals try have AX:(0:Int) < nt:=by omega
 all_goals go_enter Tryz.func22,Tryz.ntmps22
 all_goals go_wp2_with (first
  | (go_at_call 49;(refine (rR _ bx _ (H0.out _).1).mono ?_);rintro e w' ⟨rfl,rfl⟩)
  | (go_at_call 52;refine (qN _ tx _ (H0.out _).2.2).mono ?_;rintro e w' ⟨rfl,rfl⟩)
  | (go_at_call 50;refine (hp _).mono ?_;rintro e w' ⟨rfl,rfl⟩)
  | (go_at_call 51;refine (rT _ _).mono ?_;rintro e w' ⟨rfl,rfl⟩))
 all_goals go_ret
 all_goals refine ⟨aR ?_,ab.out _⟩
 all_goals clear hp H0
 all_goals have pR:=HN.out
 all_goals (try go_light)
 all_goals obtain ⟨e0,e1,e2⟩:=pR
 all_goals clear HN ab
 all_goals have z0:=l9 (l:=bx)
 all_goals have z1:=l9 (l:=tt)
 all_goals have z2:=wo (l:=tx)
 all_goals (try have y0:=HX.out)
 all_goals (try have y1:=HY.out)
 all_goals (try clear HX HY)
 all_goals (unfold fM;unfold aS at *;cases hn:bZ bx <;> cases hm:bZ tt <;> cases ht:fD tx <;> simp [hn,hm,ht,e0,e1,e2] at * <;> first | omega | (rw [Bool.eq_iff_iff];simp;omega))
/- What xq of package spec does of kind 6. -/
theorem af6 (a0 a1 a2:Option Addr) (nb nt nx c0 c1 c2:Nat) (bx tt:List Int) (uid mode fl si:Int) (tx:List Int) (w:World) (HN:Hid (bx.length=nb∧tt.length=nt∧tx.length=nx))
  (H0:Hid (∀ o,Bs (w.alloc o) (.slice a0 nb c0) bx∧Bs (w.alloc o) (.slice a1 nt c1) tt∧Bs (w.alloc o) (.slice a2 nx c2) tx)) (lY : -9223372036854775808≤uid) (i11:uid≤9223372036854775807) (i20 : -9223372036854775808≤mode) (i21:mode≤9223372036854775807) (i30 : -9223372036854775808≤fl) (i31:fl≤9223372036854775807) (i40 : -9223372036854775808≤si) (i41:si≤9223372036854775807) :
  Calls Tryz.prog 22 #[.agg #[.int .i64 6,.slice a0 nb c0,.slice a1 nt c1,.int .i64 uid,.int .i64 mode,.int .i64 fl,.int .i64 si,.slice a2 nx c2]] w fun e w'=>e=.returned (.bool (fM 6 bx tt uid mode fl si tx))∧Below w.heap.size w w':=by
 have hp:∀ w,Calls Tryz.prog 50 #[.int .i64 6] w fun e w'=>e=.returned (.tuple #[.bool true,.bool true,.bool true,.bool false,.bool false])∧w'=w:=fun w=>zD 6 w
 have ab:Hid (∀ o,Below w.heap.size w (w.alloc o)):=fun o=>bn _ o
 rcases Nat.eq_zero_or_pos nb with rfl | hnb
 ·go_enter Tryz.func22,Tryz.ntmps22
  go_wp2
  go_ret
  exact ⟨aR (by have h0:=l9 HN.out.1;unfold fM;simp [h0]),ab.out _⟩
 have hnb':(nb:Int)≠0:=by omega
 have hn0:∀ o,Calls Tryz.prog 49 #[.slice a0 nb c0] (w.alloc o) fun e w'=>e=.returned (.bool (bZ bx))∧w'=w.alloc o:=fun o=>rR _ bx _ (H0.out o).1
 have hn1:∀ o,Calls Tryz.prog 49 #[.slice a1 nt c1] (w.alloc o) fun e w'=>e=.returned (.bool (bZ tt))∧w'=w.alloc o:=fun o=>rR _ tt _ (H0.out o).2.1
 generalize hX:bZ bx=X at hn0
 generalize hY:bZ tt=Y at hn1
 have HX:Hid (bZ bx=X):=hX
 have HY:Hid (bZ tt=Y):=hY
 clear hX hY
 rcases X with _ | _
 ·go_enter Tryz.func22,Tryz.ntmps22
  go_wp2_with fail
  refine (hn0 _).mono ?_
  rintro e w' ⟨rfl,rfl⟩
  go_wp2
  go_ret
  exact ⟨aR (by have h0:=HX.out;unfold fM;simp [h0]),ab.out _⟩
 rcases Nat.eq_zero_or_pos nt with rfl | hnt
 ·go_enter Tryz.func22,Tryz.ntmps22
  go_wp2_with fail
  refine (hn0 _).mono ?_
  rintro e w' ⟨rfl,rfl⟩
  go_wp2_with (first
  | (go_at_call 52;refine (qN _ tx _ (H0.out _).2.2).mono ?_;rintro e w' ⟨rfl,rfl⟩)
  | (go_at_call 50;refine (hp _).mono ?_;rintro e w' ⟨rfl,rfl⟩)
  | (go_at_call 51;refine (rT _ _).mono ?_;rintro e w' ⟨rfl,rfl⟩))
  go_ret
  exact ⟨aR (by have h0:=l9 HN.out.2.1;unfold fM;simp [h0]),ab.out _⟩
 have AV:(nt:Int)≠0:=by omega
 have AX:(0:Int) < nt:=by omega
 rcases Y with _ | _
 ·go_enter Tryz.func22,Tryz.ntmps22
  go_wp2_with fail
  refine (hn0 _).mono ?_
  rintro e w' ⟨rfl,rfl⟩
  go_wp2_with (first
  | (go_at_call 52;refine (qN _ tx _ (H0.out _).2.2).mono ?_;rintro e w' ⟨rfl,rfl⟩)
  | (go_at_call 50;refine (hp _).mono ?_;rintro e w' ⟨rfl,rfl⟩)
  | (go_at_call 51;refine (rT _ _).mono ?_;rintro e w' ⟨rfl,rfl⟩))
  refine (hn1 _).mono ?_
  rintro e w' ⟨rfl,rfl⟩
  go_wp2_with (first
  | (go_at_call 52;refine (qN _ tx _ (H0.out _).2.2).mono ?_;rintro e w' ⟨rfl,rfl⟩)
  | (go_at_call 50;refine (hp _).mono ?_;rintro e w' ⟨rfl,rfl⟩)
  | (go_at_call 51;refine (rT _ _).mono ?_;rintro e w' ⟨rfl,rfl⟩))
  go_ret
  exact ⟨aR (by have h0:=HY.out;unfold fM;simp [h0]),ab.out _⟩
 go_enter Tryz.func22,Tryz.ntmps22
 go_wp2_with fail
 refine (hn0 _).mono ?_
 rintro e w' ⟨rfl,rfl⟩
 go_wp2_with (first
  | (go_at_call 52;refine (qN _ tx _ (H0.out _).2.2).mono ?_;rintro e w' ⟨rfl,rfl⟩)
  | (go_at_call 50;refine (hp _).mono ?_;rintro e w' ⟨rfl,rfl⟩)
  | (go_at_call 51;refine (rT _ _).mono ?_;rintro e w' ⟨rfl,rfl⟩))
 refine (hn1 _).mono ?_
 rintro e w' ⟨rfl,rfl⟩
 go_wp2_with (first
  | (go_at_call 52;refine (qN _ tx _ (H0.out _).2.2).mono ?_;rintro e w' ⟨rfl,rfl⟩)
  | (go_at_call 50;refine (hp _).mono ?_;rintro e w' ⟨rfl,rfl⟩)
  | (go_at_call 51;refine (rT _ _).mono ?_;rintro e w' ⟨rfl,rfl⟩))
 all_goals go_ret
 all_goals refine ⟨aR ?_,ab.out _⟩
 all_goals clear hp H0 hn0 hn1
 all_goals have pR:=HN.out
 all_goals (try go_light)
 all_goals obtain ⟨e0,e1,e2⟩:=pR
 all_goals clear HN ab
 all_goals have z0:=l9 (l:=bx)
 all_goals have z1:=l9 (l:=tt)
 all_goals have z2:=wo (l:=tx)
 all_goals (try have y0:=HX.out)
 all_goals (try have y1:=HY.out)
 all_goals (try clear HX HY)
 all_goals (unfold fM;unfold aS at *;cases hn:bZ bx <;> cases hm:bZ tt <;> cases ht:fD tx <;> simp [hn,hm,ht,e0,e1,e2] at * <;> first | omega | (rw [Bool.eq_iff_iff];simp;omega))
/- What xq of package spec does of kind 8. -/
theorem af7 (a0 a1 a2:Option Addr) (nb nt nx c0 c1 c2:Nat) (bx tt:List Int) (uid mode fl si:Int) (tx:List Int) (w:World) (HN:Hid (bx.length=nb∧tt.length=nt∧tx.length=nx))
  (H0:Hid (∀ o,Bs (w.alloc o) (.slice a0 nb c0) bx∧Bs (w.alloc o) (.slice a1 nt c1) tt∧Bs (w.alloc o) (.slice a2 nx c2) tx)) (lY : -9223372036854775808≤uid) (i11:uid≤9223372036854775807) (i20 : -9223372036854775808≤mode) (i21:mode≤9223372036854775807) (i30 : -9223372036854775808≤fl) (i31:fl≤9223372036854775807) (i40 : -9223372036854775808≤si) (i41:si≤9223372036854775807) :
  Calls Tryz.prog 22 #[.agg #[.int .i64 8,.slice a0 nb c0,.slice a1 nt c1,.int .i64 uid,.int .i64 mode,.int .i64 fl,.int .i64 si,.slice a2 nx c2]] w fun e w'=>e=.returned (.bool (fM 8 bx tt uid mode fl si tx))∧Below w.heap.size w w':=by
 have hp:∀ w,Calls Tryz.prog 50 #[.int .i64 8] w fun e w'=>e=.returned (.tuple #[.bool false,.bool false,.bool false,.bool true,.bool false])∧w'=w:=fun w=>zD 8 w
 have ab:Hid (∀ o,Below w.heap.size w (w.alloc o)):=fun o=>bn _ o
 rcases Nat.eq_zero_or_pos nb with rfl | hnb
 all_goals rcases Nat.eq_zero_or_pos nt with rfl | hnt
 all_goals try have hnb':(nb:Int)≠0:=by omega
 all_goals try have AV:(nt:Int)≠0:=by omega
 all_goals try have AX:(0:Int) < nt:=by omega
 all_goals go_enter Tryz.func22,Tryz.ntmps22
 all_goals go_wp2_with (first
  | (go_at_call 49;(refine (rR _ bx _ (H0.out _).1).mono ?_);rintro e w' ⟨rfl,rfl⟩)
  | (go_at_call 52;refine (qN _ tx _ (H0.out _).2.2).mono ?_;rintro e w' ⟨rfl,rfl⟩)
  | (go_at_call 50;refine (hp _).mono ?_;rintro e w' ⟨rfl,rfl⟩)
  | (go_at_call 51;refine (rT _ _).mono ?_;rintro e w' ⟨rfl,rfl⟩))
 all_goals go_ret
 all_goals refine ⟨aR ?_,ab.out _⟩
 all_goals clear hp H0
 all_goals have pR:=HN.out
 all_goals (try go_light)
 all_goals obtain ⟨e0,e1,e2⟩:=pR
 all_goals clear HN ab
 all_goals have z0:=l9 (l:=bx)
 all_goals have z1:=l9 (l:=tt)
 all_goals have z2:=wo (l:=tx)
 all_goals (try have y0:=HX.out)
 all_goals (try have y1:=HY.out)
 all_goals (try clear HX HY)
 all_goals (unfold fM;unfold aS at *;cases hn:bZ bx <;> cases hm:bZ tt <;> cases ht:fD tx <;> simp [hn,hm,ht,e0,e1,e2] at * <;> first | omega | (rw [Bool.eq_iff_iff];simp;omega))
/- What xq of package spec does of kind 9. -/
theorem af8 (a0 a1 a2:Option Addr) (nb nt nx c0 c1 c2:Nat) (bx tt:List Int) (uid mode fl si:Int) (tx:List Int) (w:World) (HN:Hid (bx.length=nb∧tt.length=nt∧tx.length=nx))
  (H0:Hid (∀ o,Bs (w.alloc o) (.slice a0 nb c0) bx∧Bs (w.alloc o) (.slice a1 nt c1) tt∧Bs (w.alloc o) (.slice a2 nx c2) tx)) (lY : -9223372036854775808≤uid) (i11:uid≤9223372036854775807) (i20 : -9223372036854775808≤mode) (i21:mode≤9223372036854775807) (i30 : -9223372036854775808≤fl) (i31:fl≤9223372036854775807) (i40 : -9223372036854775808≤si) (i41:si≤9223372036854775807) :
  Calls Tryz.prog 22 #[.agg #[.int .i64 9,.slice a0 nb c0,.slice a1 nt c1,.int .i64 uid,.int .i64 mode,.int .i64 fl,.int .i64 si,.slice a2 nx c2]] w fun e w'=>e=.returned (.bool (fM 9 bx tt uid mode fl si tx))∧Below w.heap.size w w':=by
 have hp:∀ w,Calls Tryz.prog 50 #[.int .i64 9] w fun e w'=>e=.returned (.tuple #[.bool false,.bool false,.bool false,.bool false,.bool false])∧w'=w:=fun w=>zD 9 w
 have ab:Hid (∀ o,Below w.heap.size w (w.alloc o)):=fun o=>bn _ o
 rcases Nat.eq_zero_or_pos nb with rfl | hnb
 all_goals rcases Nat.eq_zero_or_pos nt with rfl | hnt
 all_goals try have hnb':(nb:Int)≠0:=by omega
 all_goals try have AV:(nt:Int)≠0:=by omega
 all_goals try have AX:(0:Int) < nt:=by omega
 all_goals go_enter Tryz.func22,Tryz.ntmps22
 all_goals go_wp2_with (first
  | (go_at_call 49;(refine (rR _ bx _ (H0.out _).1).mono ?_);rintro e w' ⟨rfl,rfl⟩)
  | (go_at_call 52;refine (qN _ tx _ (H0.out _).2.2).mono ?_;rintro e w' ⟨rfl,rfl⟩)
  | (go_at_call 50;refine (hp _).mono ?_;rintro e w' ⟨rfl,rfl⟩)
  | (go_at_call 51;refine (rT _ _).mono ?_;rintro e w' ⟨rfl,rfl⟩))
 all_goals go_ret
 all_goals refine ⟨aR ?_,ab.out _⟩
 all_goals clear hp H0
 all_goals have pR:=HN.out
 all_goals (try go_light)
 all_goals obtain ⟨e0,e1,e2⟩:=pR
 all_goals clear HN ab
 all_goals have z0:=l9 (l:=bx)
 all_goals have z1:=l9 (l:=tt)
 all_goals have z2:=wo (l:=tx)
 all_goals (try have y0:=HX.out)
 all_goals (try have y1:=HY.out)
 all_goals (try clear HX HY)
 all_goals (unfold fM;unfold aS at *;cases hn:bZ bx <;> cases hm:bZ tt <;> cases ht:fD tx <;> simp [hn,hm,ht,e0,e1,e2] at * <;> first | omega | (rw [Bool.eq_iff_iff];simp;omega))
/- What xq of package spec does. -/
theorem af9 (v:Value) (k:Int) (bx tt:List Int) (uid mode fl si:Int) (tx:List Int) (w:World) (hv:ig w v k bx tt uid mode fl si tx) :
  Calls Tryz.prog 22 #[v] w fun e w'=>e=.returned (.bool (fM k bx tt uid mode fl si tx))∧Below w.heap.size w w':=by
 obtain ⟨u0,u1,u2,rfl,g0,g1,g2,i0,i1,i2,i3,i4⟩:=hv
 have ab:∀ o,Below w.heap.size w (w.alloc o):=fun o=>bn _ o
 have H0:Hid (∀ o,Bs (w.alloc o) u0 bx∧Bs (w.alloc o) u1 tt∧Bs (w.alloc o) u2 tx):=fun o=>⟨g0.below (ab o),g1.below (ab o),g2.below (ab o)⟩
 obtain ⟨a0,c0,rfl⟩:=g0.form
 obtain ⟨a1,c1,rfl⟩:=g1.form
 obtain ⟨a2,c2,rfl⟩:=g2.form
 obtain ⟨lY,i11⟩:=i1
 obtain ⟨i20,i21⟩:=i2
 obtain ⟨i30,i31⟩:=i3
 obtain ⟨i40,i41⟩:=i4
 obtain ⟨i00,i01⟩:=i0
 by_cases h:0≤k∧k≤9
 ·have hk:k=0∨k=1∨k=2∨k=3∨k=4∨k=5∨k=6∨k=7∨k=8∨k=9:=by omega
  rcases hk with rfl | rfl | rfl | rfl | rfl | rfl | rfl | rfl | rfl | rfl
  ·exact Iy 0 (by omega) (by omega) (by omega) (by omega) (by omega) (by omega) (by omega) (by omega) a0 a1 a2 _ _ _ c0 c1 c2 bx tt uid mode fl si tx w ⟨rfl,rfl,rfl⟩ H0 lY i11 i20 i21 i30 i31 i40 i41
  ·exact Iy 1 (by omega) (by omega) (by omega) (by omega) (by omega) (by omega) (by omega) (by omega) a0 a1 a2 _ _ _ c0 c1 c2 bx tt uid mode fl si tx w ⟨rfl,rfl,rfl⟩ H0 lY i11 i20 i21 i30 i31 i40 i41
  ·exact af3 a0 a1 a2 _ _ _ c0 c1 c2 bx tt uid mode fl si tx w ⟨rfl,rfl,rfl⟩ H0 lY i11 i20 i21 i30 i31 i40 i41
  ·exact af4 a0 a1 a2 _ _ _ c0 c1 c2 bx tt uid mode fl si tx w ⟨rfl,rfl,rfl⟩ H0 lY i11 i20 i21 i30 i31 i40 i41
  ·exact Iy 4 (by omega) (by omega) (by omega) (by omega) (by omega) (by omega) (by omega) (by omega) a0 a1 a2 _ _ _ c0 c1 c2 bx tt uid mode fl si tx w ⟨rfl,rfl,rfl⟩ H0 lY i11 i20 i21 i30 i31 i40 i41
  ·exact af5 a0 a1 a2 _ _ _ c0 c1 c2 bx tt uid mode fl si tx w ⟨rfl,rfl,rfl⟩ H0 lY i11 i20 i21 i30 i31 i40 i41
  ·exact af6 a0 a1 a2 _ _ _ c0 c1 c2 bx tt uid mode fl si tx w ⟨rfl,rfl,rfl⟩ H0 lY i11 i20 i21 i30 i31 i40 i41
  ·exact Iy 7 (by omega) (by omega) (by omega) (by omega) (by omega) (by omega) (by omega) (by omega) a0 a1 a2 _ _ _ c0 c1 c2 bx tt uid mode fl si tx w ⟨rfl,rfl,rfl⟩ H0 lY i11 i20 i21 i30 i31 i40 i41
  ·exact af7 a0 a1 a2 _ _ _ c0 c1 c2 bx tt uid mode fl si tx w ⟨rfl,rfl,rfl⟩ H0 lY i11 i20 i21 i30 i31 i40 i41
  ·exact af8 a0 a1 a2 _ _ _ c0 c1 c2 bx tt uid mode fl si tx w ⟨rfl,rfl,rfl⟩ H0 lY i11 i20 i21 i30 i31 i40 i41
 ·have HZ:Hid (fM k bx tt uid mode fl si tx=false):=by simp [Hid,fM,h]
  by_cases h1:k < 0
  ·go_enter Tryz.func22,Tryz.ntmps22
   go_wp2
   go_ret
   exact ⟨aR HZ.out,ab _⟩
  ·have h2:9 < k:=by omega
   go_enter Tryz.func22,Tryz.ntmps22
   go_wp2
   go_ret
   exact ⟨aR HZ.out,ab _⟩
/- Do of package spec. -/
theorem aga:(Tryz.f6.body.bind (bQ 5)).all (fun o=>dQ o 4 [0,1,2,3] [2,3] [4] 0)=true:=by kernel_rfl
theorem agb (w:World) (av cv:Value) (a:aJ) (c:iC) (hv:dM w av a) (hc:tX w cv c) (hs:a.seen.length≤2000000) (hsx:jf a.boxes≤2000000) (hcl:c.bx.length≤2000000∧c.tx.length≤2000000) :
  Calls Tryz.prog 6 #[av,cv] w fun e w'=>∃ v1 v2,e=.returned (.tuple #[v1,v2])∧(∀ W',Kept w w' W'→dM W' v1 (aH a c).1∧iO W' v2 (aH a c).2)∧Below w.heap.size w w':=by
 have iZ:Hid (∀ w',Below w.heap.size w w'→dM w' av a):=fun w' hw=>hv.below hw
 have HCS:Hid (∀ w',Below w.heap.size w w'→tX w' cv c):=fun w' hw=>hc.below hw
 have lT:Hid (∀ w',Below w.heap.size w w'→ig w' cv c.k c.bx c.tt c.uid c.mode c.fl c.si c.tx):=fun w' hw=>let ⟨u0,u1,u2,e,h0,h1,h2,r⟩:=hc.below hw;⟨u0,u1,u2,e,h0.bs,h1.bs,h2.bs,r⟩
 obtain ⟨q0,q1,q2,rfl,r0,r1,r2,-⟩:=lT.out w (Below.refl _ _)
 clear hc
 obtain ⟨u0,u1,rfl,g0,g1,hiv⟩:=hv
 obtain ⟨ba,bc,rfl,-⟩:=g0.form
 obtain ⟨sa,sc,rfl,-⟩:=g1.form
 obtain ⟨x0,m0,z0,rfl⟩:=r0.aG
 obtain ⟨x1,m1,z1,rfl⟩:=r1.aG
 obtain ⟨x2,m2,z2,rfl⟩:=r2.aG
 obtain ⟨kA,kC,X1⟩:=gJ w (.cells #[.int .i64 a.valid,.slice ba a.boxes.length bc,.slice sa a.seen.length sc] 33) (.cells #[.int .i64 c.k,.slice x0 m0 z0,.slice x1 m1 z1,.int .i64 c.uid,.int .i64 c.mode,.int .i64 c.fl,.int .i64 c.si,.slice x2 m2 z2] 44)
 obtain ⟨kZ,kR,X2⟩:=gJ ((w.alloc (.cells #[.int .i64 a.valid,.slice ba a.boxes.length bc,.slice sa a.seen.length sc] 33)).alloc (.cells #[.int .i64 c.k,.slice x0 m0 z0,.slice x1 m1 z1,.int .i64 c.uid,.int .i64 c.mode,.int .i64 c.fl,.int .i64 c.si,.slice x2 m2 z2] 44)) (.cells #[.int .i64 0,.slice none 0 0,.slice none 0 0] 33) (.cells #[.int .i64 0,.int .i64 0,.slice none 0 0,.int .i64 0,.int .i64 0,.int .i64 0,.slice none 0 0,.slice none 0 0,.int .i64 0,.slice none 0 0] 40)
 have hz:((w.alloc (.cells #[.int .i64 a.valid,.slice ba a.boxes.length bc,.slice sa a.seen.length sc] 33)).alloc (.cells #[.int .i64 c.k,.slice x0 m0 z0,.slice x1 m1 z1,.int .i64 c.uid,.int .i64 c.mode,.int .i64 c.fl,.int .i64 c.si,.slice x2 m2 z2] 44)).heap.size=w.heap.size+2:=by simp
 rw [hz] at kZ kR
 have bU:=ak (ay X2 kA)
 have bC:=ak (ay X2 kC)
 have gX:=ak kZ
 have aO:Hid (((((w.alloc (.cells #[.int .i64 a.valid,.slice ba a.boxes.length bc,.slice sa a.seen.length sc] 33)).alloc (.cells #[.int .i64 c.k,.slice x0 m0 z0,.slice x1 m1 z1,.int .i64 c.uid,.int .i64 c.mode,.int .i64 c.fl,.int .i64 c.si,.slice x2 m2 z2] 44)).alloc (.cells #[.int .i64 0,.slice none 0 0,.slice none 0 0] 33)).alloc (.cells #[.int .i64 0,.int .i64 0,.slice none 0 0,.int .i64 0,.int .i64 0,.int .i64 0,.slice none 0 0,.slice none 0 0,.int .i64 0,.slice none 0 0] 40)).heap[w.heap.size+3]?=some (.cells #[.int .i64 0,.int .i64 0,.slice none 0 0,.int .i64 0,.int .i64 0,.int .i64 0,.slice none 0 0,.slice none 0 0,.int .i64 0,.slice none 0 0] 40 (0,0))):=kR
 have HA:=ak (Below.step X1 X2)
 have qE:w.heap.size+4≤((((w.alloc (.cells #[.int .i64 a.valid,.slice ba a.boxes.length bc,.slice sa a.seen.length sc] 33)).alloc (.cells #[.int .i64 c.k,.slice x0 m0 z0,.slice x1 m1 z1,.int .i64 c.uid,.int .i64 c.mode,.int .i64 c.fl,.int .i64 c.si,.slice x2 m2 z2] 44)).alloc (.cells #[.int .i64 0,.slice none 0 0,.slice none 0 0] 33)).alloc (.cells #[.int .i64 0,.int .i64 0,.slice none 0 0,.int .i64 0,.int .i64 0,.int .i64 0,.slice none 0 0,.slice none 0 0,.int .i64 0,.slice none 0 0] 40)).heap.size:=by simp
 clear g0 g1 hiv r0 r1 r2 kA kC kZ kR X1 X2 hz
 go_enter Tryz.func6,Tryz.ntmps6
 go_upto_region 1 with fail
 simp only [Nat.add_assoc,Nat.reduceAdd]
 generalize (((w.alloc (.cells #[.int .i64 a.valid,.slice ba a.boxes.length bc,.slice sa a.seen.length sc] 33)).alloc (.cells #[.int .i64 c.k,.slice x0 m0 z0,.slice x1 m1 z1,.int .i64 c.uid,.int .i64 c.mode,.int .i64 c.fl,.int .i64 c.si,.slice x2 m2 z2] 44)).alloc (.cells #[.int .i64 0,.slice none 0 0,.slice none 0 0] 33)).alloc (.cells #[.int .i64 0,.int .i64 0,.slice none 0 0,.int .i64 0,.int .i64 0,.int .i64 0,.slice none 0 0,.slice none 0 0,.int .i64 0,.slice none 0 0] 40)=w1 at bU bC gX aO HA qE ⊢
 have Dp:=ak (af2 _ a w1 (iZ.out w1 HA.out))
 obtain ⟨y0,y1,y2⟩:=bD bU.out
 have yl:=lt_of_heap bU.out
 go_wp2_with fail
 refine Dp.out.mono ?_
 rintro e w2 ⟨rfl,B2⟩
 have HA2:=ak (Below.step HA.out B2)
 have Dq:=ak (ay B2 bU.out)
 have jv:=ak (ay B2 bC.out)
 have rG:=ak (ay B2 gX.out)
 have bV:=ak (ay B2 aO.out)
 have hs2:=B2.size
 clear B2 Dp y0 y1 y2 yl HA bU bC gX aO
 have qV:=ak (af9 _ c.k c.bx c.tt c.uid c.mode c.fl c.si c.tx w2 (lT.out w2 HA2.out))
 cases hacc:jg a with
 | false =>
  have bI:Hid (aH a c=(⟨0,[],[]⟩,aQ 5 0)):=by show _=_;unfold aH;rw [if_neg (by simp [hacc])]
  obtain ⟨y0,y1,y2⟩:=bD rG.out
  obtain ⟨yz,yl⟩:=bR rG.out
  obtain ⟨rz,rl,r0,r1,r2,r3,r4,r5,r6,r7,r8,r9⟩:=eT bV.out
  have HF:=ak (Dj rG.out bV.out HA2.out (.int .i64 0) (.slice none 0 0) (.slice none 0 0) (.int .i64 5) (.int .i64 0) (.slice none 0 0) (.int .i64 0) (.int .i64 0) (.int .i64 0) (.slice none 0 0) (.slice none 0 0) (.int .i64 0) (.slice none 0 0))
  go_wp2
  have ff:=aM HF.out.1
  obtain ⟨e0,e1,e2⟩:=bD HF.out.2.1
  refine bodyPost_ret (v:=.tuple #[.agg #[.int .i64 0,.slice none 0 0,.slice none 0 0],aY 5 0]) (by simp [results,Tryz.results6,aY,go_sem,e0,e1,e2,ff]) rfl ⟨_,_,rfl,?_,HF.out.2.2.1⟩
  rw [bI.out]
  exact fun W' _=>⟨⟨_,_,rfl,Rd.nil _,Rd.nil _,aI⟩,(sU _ 0 0 ⟨by decide,by decide⟩ aI (Nat.le_refl _)).rv⟩
 | true =>
  obtain ⟨o0,o1,o2,o3,o4,o5,o6,o7,o8⟩:=l5 jv.out
  go_wp2_with fail
  refine qV.out.mono ?_
  rintro e w3 ⟨rfl,B3⟩
  have fH:=ak (Below.step HA2.out B3)
  have yY:=ak (ay B3 Dq.out)
  have lQ:=ak (ay B3 jv.out)
  have rH:=ak (ay B3 rG.out)
  have bX:=ak (ay B3 bV.out)
  have hs3:=B3.size
  clear B3 qV o0 o1 o2 o3 o4 o5 o6 o7 o8 HA2 Dq jv rG bV
  cases xu:fM c.k c.bx c.tt c.uid c.mode c.fl c.si c.tx with
  | false =>
   have bI:Hid (aH a c=(⟨0,[],[]⟩,aQ 5 0)):=by show _=_;unfold aH;rw [if_neg (by simp [hacc,xu])]
   obtain ⟨y0,y1,y2⟩:=bD rH.out
   obtain ⟨yz,yl⟩:=bR rH.out
   obtain ⟨rz,rl,r0,r1,r2,r3,r4,r5,r6,r7,r8,r9⟩:=eT bX.out
   have HF:=ak (Dj rH.out bX.out fH.out (.int .i64 0) (.slice none 0 0) (.slice none 0 0) (.int .i64 5) (.int .i64 0) (.slice none 0 0) (.int .i64 0) (.int .i64 0) (.int .i64 0) (.slice none 0 0) (.slice none 0 0) (.int .i64 0) (.slice none 0 0))
   go_wp2
   have ff:=aM HF.out.1
   obtain ⟨e0,e1,e2⟩:=bD HF.out.2.1
   refine bodyPost_ret (v:=.tuple #[.agg #[.int .i64 0,.slice none 0 0,.slice none 0 0],aY 5 0]) (by simp [results,Tryz.results6,aY,go_sem,e0,e1,e2,ff]) rfl ⟨_,_,rfl,?_,HF.out.2.2.1⟩
   rw [bI.out]
   exact fun W' _=>⟨⟨_,_,rfl,Rd.nil _,Rd.nil _,aI⟩,(sU _ 0 0 ⟨by decide,by decide⟩ aI (Nat.le_refl _)).rv⟩
  | true =>
   obtain ⟨-,-,hI,-,-⟩:=Ll hacc
   have bI:Hid (aH a c=dz a c):=by show _=_;unfold aH;rw [if_pos (by simp [hacc,xu])]
   have HOW:=ak (YV _ a w3 (iZ.out w3 fH.out) hsx hs)
   have DL:=ak hI
   have hbl:=hI.1
   obtain ⟨y0,y1,y2⟩:=bD yY.out
   have yl:=lt_of_heap yY.out
   clear hI hacc xu
   go_wp2_with fail
   refine HOW.out.mono ?_
   rintro e w4 ⟨u,rfl,⟨v0,v1,S0,S1,rfl,Oi,Oj,hS0,hS1,hiv⟩,B4⟩
   obtain ⟨ta,tc,rfl,-⟩:=(Oi.rd fun _ _ _ _=>dh.rd:cK _ _ _).form
   obtain ⟨qa,qc,rfl,-⟩:=(Oj.rd fun _ _ _ _ h=>h:dS _ _ _).form
   have A5:Below w4.heap.size w4 (w4.alloc (.cells #[.int .i64 a.valid,.slice ta a.boxes.length tc,.slice qa a.seen.length qc] 33)):=bn _ _
   have h34:=B4.size
   have hS2:∀ k,S0 k→w3.heap.size≤k∧k < w4.heap.size:=fun k h=>(hS0 k h).1
   have rP:Hid (aU (w4.alloc (.cells #[.int .i64 a.valid,.slice ta a.boxes.length tc,.slice qa a.seen.length qc] 33)) S0 w4.heap.size a):=⟨fun h=>by have:=hS2 _ h;omega,_,_,aV w4 (.cells #[.int .i64 a.valid,.slice ta a.boxes.length tc,.slice qa a.seen.length qc] 33),Ze (Ow.below gq Oi A5),Ow.mono (Ow.below oH Oj A5) fun k h=>⟨fun h0=>(hS0 k h0).2 h,by have:=(hS1 k h).2;simp;omega⟩,hiv⟩
   have HS2:=ak hS2
   have X5:=Below.step B4 A5
   have kg:=ak (Below.step fH.out X5)
   have Ol:=ak (ay X5 lQ.out)
   have Om:=ak (ay X5 rH.out)
   have kQ:=ak (ay X5 bX.out)
   have wW:w4.heap.size+1=(w4.alloc (.cells #[.int .i64 a.valid,.slice ta a.boxes.length tc,.slice qa a.seen.length qc] 33)).heap.size:=by simp
   clear Oi Oj hS0 hS1 hiv B4 A5 X5 hS2 HOW y0 y1 y2 yl fH yY lQ rH bX
   go_upto_region 4 with fail
   generalize w4.alloc (.cells #[.int .i64 a.valid,.slice ta a.boxes.length tc,.slice qa a.seen.length qc] 33)=w5 at rP kg Ol Om kQ wW ⊢
   have Dr:=ak (afH w4.heap.size a c S0 _ w5 rP.out (HCS.out w5 kg.out) hcl (fun x hx=>(DL.out.2 x hx).sz) (by omega))
   obtain ⟨o0,o1,o2,o3,o4,o5,o6,o7,o8⟩:=l5 Ol.out
   go_wp2_with fail
   refine Dr.out.mono ?_
   rintro e w6 ⟨u,S',rfl,iY,hT,rQ,hS'⟩
   obtain ⟨A',hA'⟩:∃ A',A'=dz a c:=⟨_,rfl⟩
   rw [← hA'] at bI iY rQ
   clear hA'
   obtain ⟨X,Y⟩:=A'
   simp only at iY rQ
   obtain ⟨a0,n0,k0,a1,k1,a2,k2,a3,k3,rfl⟩:=iY.v.form
   have hoth:∀ q,q < w3.heap.size→w6.heap[q]?=w5.heap[q]?:=fun q hq=>hT.2.1 q (by omega) (by omega) (fun h=>by have:=HS2.out _ h;omega)
   have h56:=hT.1
   have A7:Below w6.heap.size w6 (w6.alloc (.cells #[.int .i64 Y.code,.int .i64 Y.num,.slice a0 n0 k0,.int .i64 Y.box.valid,.int .i64 Y.box.next,.int .i64 Y.box.seq,.slice a1 Y.box.ah.length k1,.slice a2 Y.box.au.length k2,.int .i64 Y.box.lost,.slice a3 Y.names.length k3] 40)):=bn _ _
   have gD:Below w.heap.size w w6:=⟨hT.2.2.2.2.1.trans kg.out.os,hT.2.2.2.2.2.1.trans kg.out.tape,hT.2.2.2.2.2.2.1.trans kg.out.output,Nat.le_trans kg.out.size hT.1,fun q hq=>(hoth q (by omega)).trans (kg.out.block q hq)⟩
   have rO:=ak (Below.step gD A7)
   have Wu:=ak (ay A7 ((hoth _ (by omega)).trans Om.out))
   have nV:=ak (ay A7 ((hoth _ (by omega)).trans kQ.out))
   have mP:=ak (aV w6 (.cells #[.int .i64 Y.code,.int .i64 Y.num,.slice a0 n0 k0,.int .i64 Y.box.valid,.int .i64 Y.box.next,.int .i64 Y.box.seq,.slice a1 Y.box.ah.length k1,.slice a2 Y.box.au.length k2,.int .i64 Y.box.lost,.slice a3 Y.names.length k3] 40))
   have xK:=ak (rQ.below A7)
   have vE:=ak (iY.below A7)
   have Oo:Hid (∀ k,S' k→w3.heap.size≤k):=fun k h=>(hS' k h).elim (fun h=>(HS2.out k h).1) fun h=>by omega
   have wV:w6.heap.size+1=(w6.alloc (.cells #[.int .i64 Y.code,.int .i64 Y.num,.slice a0 n0 k0,.int .i64 Y.box.valid,.int .i64 Y.box.next,.int .i64 Y.box.seq,.slice a1 Y.box.ah.length k1,.slice a2 Y.box.au.length k2,.int .i64 Y.box.lost,.slice a3 Y.names.length k3] 40)).heap.size:=by simp
   clear iY rQ hT hS' hoth gD A7 Dr o0 o1 o2 o3 o4 o5 o6 o7 o8 kg Ol Om kQ rP
   go_upto_region 5 with fail
   generalize w6.alloc (.cells #[.int .i64 Y.code,.int .i64 Y.num,.slice a0 n0 k0,.int .i64 Y.box.valid,.int .i64 Y.box.next,.int .i64 Y.box.seq,.slice a1 Y.box.ah.length k1,.slice a2 Y.box.au.length k2,.int .i64 Y.box.lost,.slice a3 Y.names.length k3] 40)=w7 at rO Wu nV mP xK vE wV ⊢
   have DR:Below w7.heap.size w7 w7.drew:=bd _ _
   obtain ⟨iW,p0,p1,hga,Wv,Ww,hPi⟩:=xK.out
   obtain ⟨pa,pc,rfl,-⟩:=Wv.v.form
   obtain ⟨pe,pf,rfl,-⟩:=(Ow.rd (fun _ _ _ _ h=>h) Ww:dS _ _ _).form
   have vB:=ak (ay DR hga)
   have iX:=ak (ay DR mP.out)
   have AY:=ak (ay DR Wu.out)
   have Iz:=ak (ay DR nV.out)
   have Wx:=ak (Below.step rO.out DR)
   clear iW hga Wv Ww hPi
   refine eF 4 (S:=fun w'=>w'.rangeAt w4.heap.size 0 [.int .i64 X.valid,.slice pa X.boxes.length pc,.slice pe X.seen.length pf]∧w'.rangeAt w6.heap.size 0 [.int .i64 Y.code,.int .i64 Y.num,.slice a0 n0 k0,.int .i64 Y.box.valid,.int .i64 Y.box.next,.int .i64 Y.box.seq,.slice a1 Y.box.ah.length k1,.slice a2 Y.box.au.length k2,.int .i64 Y.box.lost,.slice a3 Y.names.length k3]) (eB (by kernel_rfl) aga) (by kernel_rfl) ⟨fC vB.out,fC iX.out⟩ (fun aj aks=>?_)
   have IB:=ak DR
   clear DR
   generalize w7.drew=w8 at vB iX AY Iz Wx aks IB ⊢
   refine pq 0 0 22 33 (.tmp 6) w4.heap.size 0 [.int .i64 X.valid,.slice pa X.boxes.length pc,.slice pe X.seen.length pf] aj aks (fun w h=>h.1) Tryz.underlying33 ?_
   refine pq 1 1 23 40 (.tmp 7) w6.heap.size 0 [.int .i64 Y.code,.int .i64 Y.num,.slice a0 n0 k0,.int .i64 Y.box.valid,.int .i64 Y.box.next,.int .i64 Y.box.seq,.slice a1 Y.box.ah.length k1,.slice a2 Y.box.au.length k2,.int .i64 Y.box.lost,.slice a3 Y.names.length k3] aj aks (fun w h=>h.2) Tryz.underlying40 ?_
   have HF:=ak (Dj AY.out Iz.out Wx.out (.int .i64 X.valid) (.slice pa X.boxes.length pc) (.slice pe X.seen.length pf) (.int .i64 Y.code) (.int .i64 Y.num) (.slice a0 n0 k0) (.int .i64 Y.box.valid) (.int .i64 Y.box.next) (.int .i64 Y.box.seq) (.slice a1 Y.box.ah.length k1) (.slice a2 Y.box.au.length k2) (.int .i64 Y.box.lost) (.slice a3 Y.names.length k3))
   have HG:=ak (Lm AY.out (.int .i64 X.valid) (.slice pa X.boxes.length pc) (.slice pe X.seen.length pf))
   obtain ⟨y0,y1,y2⟩:=bD AY.out
   obtain ⟨yz,yl⟩:=bR AY.out
   refine cls 2 2 aj (by decide) rfl rfl (fun K hK=>?_)
   go_simp
   refine hK.out _ (jU w8 (w.heap.size+2) (.int .i64 X.valid) (.slice pa X.boxes.length pc) (.slice pe X.seen.length pf)) ⟨fC ((HG.out.2.2.2 _ (by omega)).trans vB.out),fC ((HG.out.2.2.2 _ (by omega)).trans iX.out)⟩ (fun aks=>?_)
   clear hK K y0 y1 y2 yz yl
   have HRR:=ak (HF.out.2.2.2.1.trans Iz.out)
   generalize jU w8 (w.heap.size+2) (.int .i64 X.valid) (.slice pa X.boxes.length pc) (.slice pe X.seen.length pf)=w9 at HF HG HRR aks ⊢
   obtain ⟨rz,rl,r0,r1,r2,r3,r4,r5,r6,r7,r8,r9⟩:=eT HRR.out
   refine cls 3 3 aj (by decide) rfl rfl (fun K hK=>?_)
   go_simp
   refine hK.out _ _ ⟨fC ((HF.out.2.2.2.2.1 _ (by omega) (by omega)).trans vB.out),fC ((HF.out.2.2.2.2.1 _ (by omega) (by omega)).trans iX.out)⟩ (fun aks=>?_)
   clear hK K rz rl r0 r1 r2 r3 r4 r5 r6 r7 r8 r9
   refine eG aj ?_
   clear aks
   go_wp2
   have ff:=aM HF.out.1
   obtain ⟨e0,e1,e2⟩:=bD HF.out.2.1
   refine bodyPost_ret (v:=.tuple #[.agg #[.int .i64 X.valid,.slice pa X.boxes.length pc,.slice pe X.seen.length pf],.agg #[.int .i64 Y.code,.int .i64 Y.num,.slice a0 n0 k0,.int .i64 Y.box.valid,.int .i64 Y.box.next,.int .i64 Y.box.seq,.slice a1 Y.box.ah.length k1,.slice a2 Y.box.au.length k2,.int .i64 Y.box.lost,.slice a3 Y.names.length k3]]) (by simp [results,Tryz.results6,go_sem,e0,e1,e2,ff]) rfl ⟨_,_,rfl,?_,HF.out.2.2.1⟩
   rw [bI.out]
   have hP8:=xK.out.below IB.out
   have DX:=vE.out.below IB.out
   have hs8:=IB.out.size
   have hoth:=HF.out.2.2.2.2.1
   have hsz:=HF.out.2.2.2.2.2
   have hT:∀ t,t≠33→t≠40→bT w8 (iE w9 (w.heap.size+3) (.int .i64 Y.code) (.int .i64 Y.num) (.slice a0 n0 k0) (.int .i64 Y.box.valid) (.int .i64 Y.box.next) (.int .i64 Y.box.seq) (.slice a1 Y.box.ah.length k1) (.slice a2 Y.box.au.length k2) (.int .i64 Y.box.lost) (.slice a3 Y.names.length k3)) t:=fun t h1 h2 k hk=>by
    obtain ⟨cs,fz,hh⟩:=hk
    refine hoth k (fun e=>?_) (fun e=>?_)
    ·rw [e,AY.out] at hh;cases hh;exact h1 rfl
    ·rw [e,Iz.out] at hh;cases hh;exact h2 rfl
   rintro W' ⟨hw1,hw2,hw3⟩
   have IC:∀ k,w.heap.size≤k→k < w8.heap.size→k≠w.heap.size+2→k≠w.heap.size+3→W'.heap[k]?=w8.heap[k]?:=fun k k1 k2 k3 k4=>(hw2 k k1 (Nat.lt_of_lt_of_eq k2 hsz.symm)).trans (hoth k k3 k4)
   have Ad:∀ t,t≠33→t≠40→bT w8 W' t:=fun t h1 h2=>(hT t h1 h2).trans (hw3 t h1 h2)
   obtain ⟨-,q0,q1,hga,hB,hI,hi⟩:=hP8.qy (Nat.le_trans (Nat.le_of_eq hsz.symm) hw1) (IC _ (by omega) (by omega) (by omega) (by omega)) (fun k hk k2=>IC k (by have:=Oo.out k hk;omega) k2 (by have:=Oo.out k hk;omega) (by have:=Oo.out k hk;omega)) (Ad _ (by decide) (by decide)) (Ad _ (by decide) (by decide)) (Ad _ (by decide) (by decide))
   have e:=((IC w4.heap.size (by omega) (by omega) (by omega) (by omega)).trans vB.out).symm.trans hga
   simp only [Option.some.injEq,Obj.cells.injEq,Array.mk.injEq,List.cons.injEq,true_and,and_true] at e
   obtain ⟨rfl,rfl⟩:=e
   exact ⟨⟨_,_,rfl,hB.v,Ow.rd (fun _ _ _ _ h=>h) hI,hi⟩,(DX.qy (Nat.le_trans (Nat.le_of_eq hsz.symm) hw1) fun k h1 h2=>IC k (by omega) h2 (by omega) (by omega)).v⟩
end Go.Proofs.YtlneebmlhblleaaGreat
