/- The fixed calls of the codec's laws: 'known' answers true. -/
import Derived.Test.YtdchnfggmkokhaaGreatDoorGM
import Derived.Test.YtdchnfggmkokhaaGreatDoorText
namespace Go.Proofs.YtdchnfggmkokhaaGreatDoor
open Go.RowKit Cod
set_option linter.unusedVariables false

theorem Rdr.below {w w' : World} {R : Nat} {l : List (BitVec 8)} {at_ why : Nat} (h : Rdr w R l at_ why) (hb : Below w.heap.size w w') : Rdr w' R l at_ why := by
  obtain ⟨a, cap, hh, hs, hn, hk, hne, hat, hm⟩ := h
  exact ⟨a, cap, by rw [hb.block R (Array.getElem?_eq_some_iff.1 hh).1]; exact hh, hs.below hb, hn, hk, hne, hat, hm⟩
theorem below_grown {B R : Nat} {a w w' : World} (h : Below B a w) (hg : w.grownBy w' (some R)) (hB : B ≤ w.heap.size) (hR : B ≤ R) : Below B a w' :=
  h.grown hg hB (fun k e => by cases e; exact hR)
theorem enc_300 : enc 300 = [172#8, 2#8] := by rw [enc_high (by decide), enc_low (by decide)]
theorem enc_1 : enc 1 = [1#8] := by rw [enc_low (by decide)]
theorem enc_2 : enc 2 = [2#8] := by rw [enc_low (by decide)]
theorem rU_bad : rU [128#8, 0#8] 0 0 = (0, 0, 11) := by decide
theorem un_0 : unWhy [0#8] = 10 := by decide
theorem zig_m1 : zig (-1) = 1 := by decide

end Go.Proofs.YtdchnfggmkokhaaGreatDoor
