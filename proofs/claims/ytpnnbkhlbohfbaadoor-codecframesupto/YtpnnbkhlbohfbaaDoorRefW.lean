/- What the reference's writers do. -/
import Derived.Test.YtpnnbkhlbohfbaaDoorPutOp
import Derived.Test.YtpnnbkhlbohfbaaDoorText
import Derived.Lib.ConvBytes
namespace Go.Proofs.YtpnnbkhlbohfbaaDoor
open Go.RowKit Cod
set_option linter.unusedVariables false

theorem V_small (m : Nat) (h : m < 256) : V (BitVec.ofNat 8 m) = m := by rw [V_of]; omega
/-- []byte(s) -/
theorem text_bytes (w : World) (s : ByteArray) (hs : s.size ≤ 140737488355328) : ∃ c w', (convert 9 22 (.string s)).run Tryd.prog w = .ok (.slice (some ⟨w.heap.size, 0, none⟩) s.size c) w' ∧ Below w.heap.size w w' ∧ Seen w' (some ⟨w.heap.size, 0, none⟩) s.size (bytesL s) := by
  exact ⟨_, _, Lib.run_convert_string_bytes w 9 22 5 s Tryd.underlying9 Tryd.underlying22 Tryd.underlying5, below_bytes w s, seen_bytes w s (by unfold maxLen; omega)⟩
end Go.Proofs.YtpnnbkhlbohfbaaDoor
