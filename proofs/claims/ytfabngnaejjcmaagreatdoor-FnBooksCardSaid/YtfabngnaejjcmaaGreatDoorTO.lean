/- The proof's texts, part 50. -/
import Derived.Test.YtfabngnaejjcmaaGreatDoorTK
import Derived.Test.YtfabngnaejjcmaaGreatDoorTN
namespace Go.Proofs.YtfabngnaejjcmaaGreatDoor
open Go.RowKit
set_option linter.unusedVariables false
/- alive: it answers true. -/
theorem aio (P:Program) (w0:World):Rel P w0 (λ_=>none) .e w0:=by
 have h:∀i p,Ob.get .e i p=none:=λi p=>rfl;exact⟨.refl _ _,(λi t e n op hi=>by rw[h] at hi;cases hi),(λi es c hi=>by rw[h] at hi;cases hi),(λi m a l k hi=>by rw[h] at hi;cases hi),(λi k hi=>by rw[h] at hi;cases hi),(λi v hv=>by rw[h] at hv;cases hv),λi p hp=>absurd (h i p) hp,λi j b x y hi=>absurd (h i 0) hi⟩
theorem aip (w:World):Calls Tryz.prog 6 #[] w λe w'=>e=.returned (.bool true)/\Below w.heap.size w w':=by
 have hmx:Tryz.prog.follows .mixedOrders=true:=by kernel_rfl
 have h:=ain;unfold Y2 at h
 split at h
 ·rename_i s n r l e
  obtain⟨-,k⟩:=Qg (w0:=w) hmx 100 _ [] [] (λ_=>none) .e w 0 _ _ _ _ _ (aio _ w) rfl e (λ_ _ _=>rfl);refine k.mono ?_;rintro e' w' ⟨V,ψ,rfl,k1,-,-,k4⟩;cases fE k4
  exact⟨rfl,k1.base⟩
 ·cases h
end Go.Proofs.YtfabngnaejjcmaaGreatDoor
