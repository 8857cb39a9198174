/- What the reference's SameRows and SameReply do. -/
import Derived.Test.YtpnnbkhlbohfbaaDoorPutReply
import Derived.Test.YtpnnbkhlbohfbaaDoorText
namespace Go.Proofs.YtpnnbkhlbohfbaaDoor
open Go.RowKit Cod
set_option linter.unusedVariables false

theorem RowsAt.at {w : World} {a : Option Addr} {n : Nat} {rows : List (ByteArray × Int)} (h : RowsAt w a n rows) {k : Nat} (hk : k < rows.length) :
    ∃ b off, a = some ⟨b, off, none⟩ ∧ w.cell? ⟨b, off + k * 2, none⟩ = some (.string rows[k].1) ∧ w.cell? ⟨b, off + k * 2 + 1, none⟩ = some (.int .i64 rows[k].2) := by
  rcases h.2.2 with h3 | ⟨b, off, ha, hc⟩
  · have := h.1; omega
  · exact ⟨b, off, ha, hc k hk⟩
theorem takes_succ {α : Type} {A B : List α} {k : Nat} (h : A.take k = B.take k) (h1 : k < A.length) (h2 : k < B.length) (e : A[k] = B[k]) : A.take (k + 1) = B.take (k + 1) := by
  rw [List.take_add_one, List.take_add_one, h, List.getElem?_eq_getElem h1, List.getElem?_eq_getElem h2, e]
end Go.Proofs.YtpnnbkhlbohfbaaDoor
