/- The proof's texts, part 51. -/
import Derived.Test.YtmglhdkeidhafaaGreatT8
import Derived.Deep.Light
namespace Go.Proofs.YtmglhdkeidhafaaGreat
open Go.RowKit
set_option linter.unusedVariables false
set_option maxHeartbeats 4000000
set_option maxRecDepth 100000
/- What wM of package spec does of a kind that has a name alone. -/
theorem Gz (k:Int) (h00:0≤k) (h01:k≤9) (h2:¬ k=2) (h3:¬ k=3) (h5:¬ k=5) (h6:¬ k=6) (h8:¬ k=8) (h9:¬ k=9) (a0 a1 a2:Option Addr) (nb nt nx c0 c1 c2:Nat) (bx tt:List Int) (uid mode fl si:Int) (tx:List Int) (w:World) (HN:Hid (bx.length=nb∧tt.length=nt∧tx.length=nx))
  (H0:Hid (∀ o,Bs (w.alloc o) (.slice a0 nb c0) bx∧Bs (w.alloc o) (.slice a1 nt c1) tt∧Bs (w.alloc o) (.slice a2 nx c2) tx)) (lq : -9223372036854775808≤uid) (i11:uid≤9223372036854775807) (i20 : -9223372036854775808≤mode) (i21:mode≤9223372036854775807) (i30 : -9223372036854775808≤fl) (i31:fl≤9223372036854775807) (i40 : -9223372036854775808≤si) (i41:si≤9223372036854775807) :
  Calls Tryz.prog 7 #[.agg #[.int .i64 k,.slice a0 nb c0,.slice a1 nt c1,.int .i64 uid,.int .i64 mode,.int .i64 fl,.int .i64 si,.slice a2 nx c2]] w fun e w'=>e=.returned (.bool (dK k bx tt uid mode fl si tx))∧Below w.heap.size w w':=by
 have hp:∀ w,Calls Tryz.prog 19 #[.int .i64 k] w fun e w'=>e=.returned (.tuple #[.bool false,.bool false,.bool false,.bool false,.bool false])∧w'=w:=fun w=>by
  have h:=vE k w
  rwa [show toB k=false by simp [toB,h6],show uX k=false by simp [uX,h3,h5,h6],show uY k=false by simp [uY,h2,h3,h6],show uZ k=false by simp [uZ,h3,h8],show u6 k=false by simp [u6,h2]] at h
 have ab:Hid (∀ o,Below w.heap.size w (w.alloc o)):=fun o=>bn _ o
 rcases Nat.eq_zero_or_pos nb with rfl | hnb
 all_goals rcases Nat.eq_zero_or_pos nt with rfl | hnt
 all_goals try have hnb':(nb:Int)≠0:=by omega
 all_goals try have zX:(nt:Int)≠0:=by omega
 all_goals try have zY:(0:Int) < nt:=by omega
 all_goals go_enter Tryz.func7,Tryz.ntmps7
 all_goals go_wp2_with (first
  | (go_at_call 18;(refine (qI _ bx _ (H0.out _).1).mono ?_);rintro e w' ⟨rfl,rfl⟩)
  | (go_at_call 21;refine (pJ _ tx _ (H0.out _).2.2).mono ?_;rintro e w' ⟨rfl,rfl⟩)
  | (go_at_call 19;refine (hp _).mono ?_;rintro e w' ⟨rfl,rfl⟩)
  | (go_at_call 20;refine (qH _ _).mono ?_;rintro e w' ⟨rfl,rfl⟩))
 all_goals go_ret
 all_goals refine ⟨aP ?_,ab.out _⟩
 all_goals clear hp H0
 all_goals have oW:=HN.out
 all_goals (try go_light)
 all_goals obtain ⟨e0,e1,e2⟩:=oW
 all_goals clear HN ab
 all_goals have z0:=lD (l:=bx)
 all_goals have z1:=lD (l:=tt)
 all_goals have z2:=vg (l:=tx)
 all_goals (try have y0:=HX.out)
 all_goals (try have y1:=HY.out)
 all_goals (try clear HX HY)
 all_goals (rcases (show k=0∨k=1∨k=4∨k=7 by omega) with rfl | rfl | rfl | rfl)
 all_goals (unfold dK;unfold aM at *;cases hn:bG bx <;> cases hm:bG tt <;> cases ht:dU tx <;> simp [hn,hm,ht,e0,e1,e2] at * <;> first | omega | (rw [Bool.eq_iff_iff];simp;omega))
end Go.Proofs.YtmglhdkeidhafaaGreat
