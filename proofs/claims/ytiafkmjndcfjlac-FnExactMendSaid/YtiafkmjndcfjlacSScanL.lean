/- What l2scan of package spec does. -/
import Derived.Test.YtiafkmjndcfjlacSGetNum
import Derived.Test.YtiafkmjndcfjlacLibText
import Derived.Test.YtiafkmjndcfjlacLibRows
import Derived.Test.YtiafkmjndcfjlacSLog0
import Derived.Test.YtiafkmjndcfjlacScanM
namespace Go.Proofs.Ytiafkmjndcfjlac
open Go.RowKit

set_option maxHeartbeats 1000000 in
theorem l2scan_r (v : Value) (l : List Int) (w : World) (hv : Bs w v l) (hl : l.length ≤ 2000000) :
    Calls Try.prog 13 #[v] w fun e w' => ∃ u, e = .returned (.tuple #[u, .int .i64 (scanL l).2]) ∧ RowS w' w.heap.size w'.heap.size u (scanL l).1 ∧ Below w.heap.size w w' := by
  have HV : Hid (Bs w v l) := hv
  obtain ⟨i0, hi, hz0, hz1, hz2⟩ := info_parts info5
  obtain ⟨i1, hj, hy0, hy1, hy2⟩ := info_parts info22
  obtain ⟨a, cap, rfl⟩ := hv.form
  obtain ⟨hc0, hc1⟩ := hv.cap
  have hab : 0 < l.length → ∃ b off, a = some ⟨b, off, none⟩ := fun hp => by
    obtain ⟨_, a', cap', h1, _, _, _, h4⟩ := hv
    simp only [Value.slice.injEq] at h1
    obtain ⟨rfl, -, -⟩ := h1
    obtain ⟨b, off, h, _⟩ := h4 hp
    exact ⟨b, off, h⟩
  clear hv
  obtain ⟨G, hG⟩ : ∃ G, G = scanL l := ⟨_, rfl⟩
  rw [← hG]
  have HG : Hid (G = ([] ++ (scanGo l l.length 0).1, (scanGo l l.length 0).2)) := by rw [hG]; rfl
  clear hG
  go_enter Try.func13, Try.ntmps13
  go_wp2
  go_loopw [4, 5] (fun out at' wr => ∃ (o : Value) (acc : List (List Int)) (A F : Nat), o = out ∧ at' = .int .i64 A ∧ A ≤ l.length ∧ l.length ≤ F + A ∧ acc.length ≤ A ∧ Hid (G = (acc ++ (scanGo l F A).1, (scanGo l F A).2)) ∧ Hid (RowS wr w.heap.size wr.heap.size out acc) ∧ Hid (Below w.heap.size w wr)) (fun _ i _ => l.length - (intOf i).toNat)
  case atStart => exact ⟨_, [], 0, l.length, rfl, rfl, Nat.zero_le _, by omega, by simp, HG, RowS.nil _ _ _, Below.refl _ _⟩
  case round =>
    obtain ⟨out, acc, A, F, rfl, rfl, hA, hF, hacc, hR, hO, hW⟩ := hrel
    clear HG
    by_cases hlt : A < l.length
    · obtain ⟨b, off, rfl⟩ := hab (by omega)
      obtain ⟨F, rfl⟩ : ∃ F', F = F' + 1 := ⟨F - 1, by omega⟩
      have hbd := getL_bd l A
      have hgt := getL_gt l A
      generalize hGG : getL l A = g at hbd hgt
      have HGG : Hid (getL l A = g) := hGG
      clear hGG
      obtain ⟨n, next⟩ := g
      simp only at hbd hgt
      by_cases hbad : next < 0 ∨ 6000 < n ∨ (l.length : Int) - next < n
      · have HE : Hid (G = (acc, A)) := scan_stop hR.out (scan_bad l _ A (by rw [HGG.out]; exact hbad))
        have hbd' : next < 0 ∨ (0 ≤ n ∧ n ≤ 2147483647 ∧ 1 ≤ next ∧ next ≤ l.length) := by
          rcases hbd with h | h
          · simp only [Prod.mk.injEq] at h; omega
          · exact .inr h
        clear hbd hgt
        go_wp2_with fail
        refine (specGetNum_b _ l A _ (HV.out.below hW.out) hl (by omega) (by omega)).mono ?_
        rintro e w1 ⟨rfl, B⟩
        rw [HGG.out]
        have HO : Hid (RowS w1 w.heap.size w1.heap.size out acc) := (hO.out.below B).wide (Nat.le_refl _) B.size
        have HW2 : Hid (Below w.heap.size w w1) := Below.step hW.out B
        clear B hO hW hR
        by_cases h1 : next < 0
        · clear hbad hbd'
          go_wp2
          go_ret2
          rw [HE.out]
          exact ⟨_, rfl, HO.out, HW2.out⟩
        · obtain ⟨hb0, hb1, hb2, hb3⟩ : 0 ≤ n ∧ n ≤ 2147483647 ∧ 1 ≤ next ∧ next ≤ l.length := by omega
          clear hbd'
          by_cases h2 : 6000 < n
          · clear hbad
            go_wp2
            go_ret2
            rw [HE.out]
            exact ⟨_, rfl, HO.out, HW2.out⟩
          · have h3 : (l.length : Int) - next < n := by omega
            clear hbad
            go_wp2
            go_ret2
            rw [HE.out]
            exact ⟨_, rfl, HO.out, HW2.out⟩
      · obtain ⟨hb0, hb1, hb2, hb3⟩ : 0 ≤ n ∧ n ≤ 2147483647 ∧ 1 ≤ next ∧ next ≤ l.length := by
          rcases hbd with h | h
          · simp only [Prod.mk.injEq] at h; omega
          · exact h
        clear hbd
        obtain ⟨N, rfl⟩ := Int.eq_ofNat_of_zero_le hb0
        obtain ⟨X, rfl⟩ := Int.eq_ofNat_of_zero_le (show 0 ≤ next by omega)
        have hn1 : ¬ (6000 : Int) < N := by omega
        have hn2 : ¬ (l.length : Int) - X < N := by omega
        have hgX : A < X := by omega
        clear hbad hgt
        have HE := scan_meet hR.out (scan_good l F A N X hlt HGG.out (by omega) (by omega))
        have HE' : Hid (G = ((acc ++ [(l.drop X).take N]) ++ (scanGo l F (X + N)).1, (scanGo l F (X + N)).2)) := HE
        clear HE hR
        go_wp2_with fail
        refine (specGetNum_b _ l A _ (HV.out.below hW.out) hl (by omega) (by omega)).mono ?_
        rintro e w1 ⟨rfl, B⟩
        rw [HGG.out]
        have HX1 : Hid (Below w.heap.size w w1) := Below.step hW.out B
        have HO1 : Hid (RowS w1 w.heap.size w1.heap.size out acc) := (hO.out.below B).wide (Nat.le_refl _) B.size
        have s1 : w.heap.size ≤ w1.heap.size := HX1.out.size
        clear B hO hW
        have HE0 : Hid (OwnB (w1.alloc (.cells #[] 5)) w1.heap.size (.slice (some ⟨w1.heap.size, 0, none⟩) 0 0) []) := ownB_empty w1 _ (Nat.le_refl _)
        have HBE : Hid (Below w1.heap.size w1 (w1.alloc (.cells #[] 5))) := (Below.refl _ _).alloc (Nat.le_refl _) _
        by_cases hcX : cap = X
        · subst hcX
          obtain rfl : N = 0 := by omega
          go_wp2_with (at_builtin; refine wpList_append_bytes rfl (.tmp 33) (.tmp 39) 22 rfl i0 Try.underlying22 hi hz0 hz1 hz2 w1.heap.size _ [] rfl HE0.out _ [] rfl (bs_empty _ _ _ (by simp)) (by simp) (by simp) w1 HBE.out ?_)
          intro r w2 hO2 hB2 _
          have hRw : Row w2 w1.heap.size w2.heap.size r [] := OwnB.toRow (by simpa using hO2)
          have hX2 := Below.step HX1.out hB2
          obtain ⟨us, hus, hF2⟩ := HO1.out.below hB2
          have HUS : Hid (us.length = acc.length) := hus
          have hus' : us.length ≤ A := by omega
          clear hus
          have s2 : w1.heap.size ≤ w2.heap.size := hB2.size
          obtain ⟨r0, r1, r2, rfl⟩ := hRw.bs.form3
          have HA2 : Hid (RowF (w2.alloc (.cells #[.slice r0 r1 r2] 22)) w.heap.size w1.heap.size out us (fun i => acc.getD i []) ∧ Row (w2.alloc (.cells #[.slice r0 r1 r2] 22)) w1.heap.size w2.heap.size (.slice r0 r1 r2) [] ∧ Below w.heap.size w (w2.alloc (.cells #[.slice r0 r1 r2] 22))) :=
            ⟨hF2.below ((Below.refl _ _).alloc (Nat.le_refl _) _), hRw.below ((Below.refl _ _).alloc (Nat.le_refl _) _), hX2.alloc (by omega) _⟩
          clear hO2 hB2 hRw hX2 hF2 HO1 HX1 HE0 HBE
          go_wp2_with (at_builtin; refine wpList_append_own _ rfl (.tmp 32) (.tmp 41) 34 rfl w.heap.size 22 i1 (.slice none 0 0) 1 24 Try.underlying34 hj hy0 hy1 hy2 rfl (by omega) out us.length us rfl HA2.out.1.row ⟨w2.heap.size, 0, none⟩ 1 1 [.slice r0 r1 r2] rfl rfl ?n1 ?n2 ?n3 ?n4 ?n5 ?_)
          case n1 => intro j u hu; cases j with
            | zero => simp at hu; subst hu; simp [Addr.add_lit]
            | succ j => simp at hu
          case n2 => intro u hu; simp at hu; subst hu; rfl
          case n3 => unfold maxLen; omega
          case n4 => omega
          case n5 => simp; omega
          intro o3 w3 hr3 hg3 _
          have s3 : w2.heap.size + 1 ≤ w3.heap.size := by have := hg3.size; simp at this; omega
          have HR3 : Hid (RowS w3 w.heap.size w3.heap.size o3 (acc ++ [[]])) := RowS.snoc HUS.out HA2.out.1 HA2.out.2.1 s2 s1 hr3 hg3 (by omega)
          have HX3 : Hid (Below w.heap.size w w3) := HA2.out.2.2.grown hg3 (by have := HA2.out.2.2.size; exact this) (fun k hk => (HA2.out.1.row.lt k hk).1)
          clear hr3 hg3 HA2
          go_wp2
          go_roundw
          case rel => exact ⟨_, acc ++ [[]], cap + 0, F, rfl, by go_num, by omega, by omega, by simp; omega, by simpa [Hid] using HE'.out, HR3, HX3⟩
          case measure => simp [intOf]; omega
        · have HC : Hid (Bs (w1.alloc (.cells #[] 5)) (.slice (some ⟨b, off + X, none⟩) (X + N - X) (cap - X)) ((l.drop X).take N)) := by rw [Nat.add_sub_cancel_left]; exact (bs_cut (HV.out.below HX1.out) X N (by omega)).alloc _
          go_wp2_with (at_builtin; refine wpList_append_bytes rfl (.tmp 33) (.tmp 39) 22 rfl i0 Try.underlying22 hi hz0 hz1 hz2 w1.heap.size _ [] rfl HE0.out _ ((l.drop X).take N) rfl HC.out (by simp; omega) (by simp) w1 HBE.out ?_)
          intro r w2 hO2 hB2 _
          have hRw : Row w2 w1.heap.size w2.heap.size r ((l.drop X).take N) := OwnB.toRow (by simpa using hO2)
          have hX2 := Below.step HX1.out hB2
          obtain ⟨us, hus, hF2⟩ := HO1.out.below hB2
          have HUS : Hid (us.length = acc.length) := hus
          have hus' : us.length ≤ A := by omega
          clear hus
          have s2 : w1.heap.size ≤ w2.heap.size := hB2.size
          obtain ⟨r0, r1, r2, rfl⟩ := hRw.bs.form3
          have HA2 : Hid (RowF (w2.alloc (.cells #[.slice r0 r1 r2] 22)) w.heap.size w1.heap.size out us (fun i => acc.getD i []) ∧ Row (w2.alloc (.cells #[.slice r0 r1 r2] 22)) w1.heap.size w2.heap.size (.slice r0 r1 r2) ((l.drop X).take N) ∧ Below w.heap.size w (w2.alloc (.cells #[.slice r0 r1 r2] 22))) :=
            ⟨hF2.below ((Below.refl _ _).alloc (Nat.le_refl _) _), hRw.below ((Below.refl _ _).alloc (Nat.le_refl _) _), hX2.alloc (by omega) _⟩
          clear hO2 hB2 hRw hX2 hF2 HO1 HX1 HE0 HBE
          go_wp2_with (at_builtin; refine wpList_append_own _ rfl (.tmp 32) (.tmp 41) 34 rfl w.heap.size 22 i1 (.slice none 0 0) 1 24 Try.underlying34 hj hy0 hy1 hy2 rfl (by omega) out us.length us rfl HA2.out.1.row ⟨w2.heap.size, 0, none⟩ 1 1 [.slice r0 r1 r2] rfl rfl ?n1 ?n2 ?n3 ?n4 ?n5 ?_)
          case n1 => intro j u hu; cases j with
            | zero => simp at hu; subst hu; simp [Addr.add_lit]
            | succ j => simp at hu
          case n2 => intro u hu; simp at hu; subst hu; rfl
          case n3 => unfold maxLen; omega
          case n4 => omega
          case n5 => simp; omega
          intro o3 w3 hr3 hg3 _
          have s3 : w2.heap.size + 1 ≤ w3.heap.size := by have := hg3.size; simp at this; omega
          have HR3 : Hid (RowS w3 w.heap.size w3.heap.size o3 (acc ++ [((l.drop X).take N)])) := RowS.snoc HUS.out HA2.out.1 HA2.out.2.1 s2 s1 hr3 hg3 (by omega)
          have HX3 : Hid (Below w.heap.size w w3) := HA2.out.2.2.grown hg3 (by have := HA2.out.2.2.size; exact this) (fun k hk => (HA2.out.1.row.lt k hk).1)
          clear hr3 hg3 HA2
          go_wp2
          go_roundw
          case rel => exact ⟨_, acc ++ [((l.drop X).take N)], X + N, F, rfl, by go_num, by omega, by omega, by simp; omega, by simpa [Hid] using HE'.out, HR3, HX3⟩
          case measure => simp [intOf]; omega
    · have HE : Hid (G = (acc, A)) := scan_stop hR.out (scan_end l _ A hlt)
      go_wp2
      go_ret2
      rw [HE.out]
      exact ⟨_, rfl, hO.out, hW.out⟩

end Go.Proofs.Ytiafkmjndcfjlac
