/- What l3boxOk of package spec does of a box whose numbers may be. -/
import Derived.Test.YtnjicpdccpkbmaaS3boxH
import Derived.Test.YtnjicpdccpkbmaaS3boxI
import Derived.Test.YtnjicpdccpkbmaaS3boxJc
import Derived.Test.YtnjicpdccpkbmaaS3boxJd
import Derived.Test.YtnjicpdccpkbmaaS3boxJe
import Derived.Test.YtnjicpdccpkbmaaS3boxJb
import Derived.Test.YtnjicpdccpkbmaaS3boxM
namespace Go.Proofs.Ytnjicpdccpkbmaa
open Go.RowKit

theorem l3boxOk_in (v : Value) (x : BoxD) (mv : Int) (w : World) (hv : BoxV w v x) (hX1 : nameB x.name = true) (q0 : 1 ≤ x.valid) (q1 : x.valid ≤ mv) (q2 : 1 ≤ x.next) (q3 : x.next ≤ 1000000) (q4 : 0 ≤ x.seq) (q5 : x.seq ≤ 1000000) (q6 : (x.mails.length : Int) ≤ 12) (q7 : (x.gones.length : Int) ≤ 40) (q8 : 0 ≤ x.lost) (q9 : x.lost ≤ x.seq) :
    Calls Try.prog 36 #[v, .int .i64 mv] w fun e w' => e = .returned (.bool (boxB x mv)) ∧ Below w.heap.size w w' := by
  cases h : (List.range x.mails.length).all (mailAt x) with
  | true =>
    have hA : ∀ j, j < x.mails.length → mailAt x j = true := fun j hj => List.all_eq_true.1 h j (List.mem_range.2 hj)
    cases hg : (List.range x.gones.length).all (goneAt x) with
    | true => exact l3boxOk_inH v x mv w hv hX1 q0 q1 q2 q3 q4 q5 q6 q7 q8 q9 hA (fun j hj => List.all_eq_true.1 hg j (List.mem_range.2 hj))
    | false =>
      obtain ⟨kb, _, h1, h2⟩ := first_bad hg
      cases he : earlyB x kb with
      | true =>
        have hr := clsB_range x kb
        have h5 := early_cls he
        rcases (show clsB x kb = 1 ∨ clsB x kb = 2 ∨ clsB x kb = 3 ∨ 4 ≤ clsB x kb by omega) with h | h | h | h
        · exact l3boxOk_inJc v x mv w hv hX1 q0 q1 q2 q3 q4 q5 q6 q7 q8 q9 hA hg (fun k h3 h4 => by rw [only_bad h1 h2 h3 h4]; omega)
        · exact l3boxOk_inJd v x mv w hv hX1 q0 q1 q2 q3 q4 q5 q6 q7 q8 q9 hA hg (fun k h3 h4 => by rw [only_bad h1 h2 h3 h4]; omega)
        · exact l3boxOk_inJe v x mv w hv hX1 q0 q1 q2 q3 q4 q5 q6 q7 q8 q9 hA hg (fun k h3 h4 => by rw [only_bad h1 h2 h3 h4]; omega)
        · exact l3boxOk_inJb v x mv w hv hX1 q0 q1 q2 q3 q4 q5 q6 q7 q8 q9 hA hg (fun k h3 h4 => by rw [only_bad h1 h2 h3 h4]; omega)
      | false => exact l3boxOk_inI v x mv w hv hX1 q0 q1 q2 q3 q4 q5 q6 q7 q8 q9 hA hg (fun k h3 h4 => by rw [only_bad h1 h2 h3 h4]; exact he)
  | false => exact l3boxOk_inM v x mv w hv hX1 q0 q1 q2 q3 q4 q5 q6 q7 q8 q9 h

end Go.Proofs.Ytnjicpdccpkbmaa
