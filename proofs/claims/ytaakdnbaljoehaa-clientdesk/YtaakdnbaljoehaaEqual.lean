/- What slices.Equal of bytes does. -/
import Derived.Test.YtaakdnbaljoehaaMem
namespace Go.Proofs.Ytaakdnbaljoehaa
open Go.RowKit
set_option linter.unusedVariables false

theorem V_inj {a b : BitVec 8} (h : V a = V b) : a = b := by unfold V at h; exact BitVec.eq_of_toNat_eq (by omega)
theorem take_eq_succ {A B : List (BitVec 8)} {k : Nat} (h : A.take k = B.take k) (h1 : k < A.length) (h2 : k < B.length) (e : A.getD k 0#8 = B.getD k 0#8) : A.take (k + 1) = B.take (k + 1) := by
  rw [List.take_add_one, List.take_add_one, h]
  rw [List.getElem?_eq_getElem h1, List.getElem?_eq_getElem h2]
  simp [h1, h2] at e
  rw [e]
end Go.Proofs.Ytaakdnbaljoehaa
