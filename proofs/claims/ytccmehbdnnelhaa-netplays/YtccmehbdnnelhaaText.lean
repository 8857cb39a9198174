/- Bytes as a text: the conversion, and when two are the same. -/
import Derived.Test.YtccmehbdnnelhaaMem
import Derived.Laws.BytesArg
import Derived.Laws.IdiomStrings
import Derived.Lib.BufferRead
namespace Go.Proofs.Ytccmehbdnnelhaa
open Go.RowKit
set_option linter.unusedVariables false

/-- Bytes as a text. -/
def textOf (A : List (BitVec 8)) : ByteArray := ⟨(A.map UInt8.ofBitVec).toArray⟩
theorem run_to_text (w : World) (aa : Option Addr) (la ca : Nat) (A : List (BitVec 8)) (hA : Seen w aa la A) : (convert 30 9 (.slice aa la ca)).run Try.prog w = .ok (.string (textOf A)) w := by
  cases aa with
  | none =>
    obtain ⟨h1, h2, h3⟩ := hA
    have hla : la = 0 := by
      rcases h3 with h3 | ⟨b, off, h, _⟩
      · exact h3
      · cases h
    subst hla
    have hAn : A = [] := List.eq_nil_of_length_eq_zero h1.symm
    subst hAn
    exact Lib.run_convert_nil_bytes w 30 9 5 ca Try.underlying30 Try.underlying5 Try.underlying9
  | some x =>
    have hn := append_news hA x rfl
    have hl : (A.map UInt8.ofBitVec).length = la := by rw [List.length_map]; exact hA.1.symm
    have := run_convert_bytes_back (P := Try.prog) w 30 9 5 x ca (A.map UInt8.ofBitVec) Try.underlying30 Try.underlying5 Try.underlying9 (fun j hj => by
      have hj' : j < A.length := by simpa using hj
      rw [hn j (.int .u8 (V A[j])) (by simp [cellsOf, hj'])]
      simp [V])
    rw [hl] at this
    exact this
theorem textOf_inj {A B : List (BitVec 8)} (h : textOf A = textOf B) : A = B := by
  have h1 : (A.map UInt8.ofBitVec).toArray = (B.map UInt8.ofBitVec).toArray := congrArg ByteArray.data h
  have h2 : A.map UInt8.ofBitVec = B.map UInt8.ofBitVec := by simpa using h1
  exact (List.map_inj_right (fun x y e => by simpa using congrArg UInt8.toBitVec e)).1 h2
theorem text_ne {s t : ByteArray} (h : s ≠ t) : (s.toList == t.toList) = false := by
  have : s.toList ≠ t.toList := fun e => h (by
    rw [ByteArray.toList_eq, ByteArray.toList_eq] at e
    cases s with | mk s => cases t with | mk t => simp at e; rw [e])
  simpa using this
theorem text_self (s : ByteArray) : (s.toList == s.toList) = true := by simp
theorem textOf_bytesL (s : ByteArray) : textOf (bytesL s) = s := by
  unfold textOf bytesL
  apply ByteArray.ext
  have : (UInt8.ofBitVec ∘ fun c : UInt8 => c.toBitVec) = id := rfl
  simp [this]
end Go.Proofs.Ytccmehbdnnelhaa
