/- What cutFrame does: the frame that bytes begin with. -/
import Derived.Test.YtogbcciocgpknaaTaI
import Derived.Test.YtogbcciocgpknaaTaF
import Derived.Laws.ResultCell
import Derived.Test.YtogbcciocgpknaaTaA
namespace Go.Proofs.Ytogbcciocgpknaa
open Go.RowKit Cod
set_option linter.unusedVariables false

end Go.Proofs.Ytogbcciocgpknaa

namespace Go.Proofs.Ytogbcciocgpknaa
open Go.RowKit
set_option linter.unusedVariables false

theorem V_inj {a b : BitVec 8} (h : V a = V b) : a = b := by unfold V at h; exact BitVec.eq_of_toNat_eq (by omega)
theorem take_eq_succ {A B : List (BitVec 8)} {k : Nat} (h : A.take k = B.take k) (h1 : k < A.length) (h2 : k < B.length) (e : A.getD k 0#8 = B.getD k 0#8) : A.take (k + 1) = B.take (k + 1) := by
  rw [List.take_add_one, List.take_add_one, h]
  rw [List.getElem?_eq_getElem h1, List.getElem?_eq_getElem h2]
  simp [h1, h2] at e
  rw [e]
end Go.Proofs.Ytogbcciocgpknaa

namespace Go.Proofs.Ytogbcciocgpknaa
open Go.RowKit Cod
set_option linter.unusedVariables false

theorem owns_mono {w : World} {base base' : Nat} {e : TypeId} {size : Nat} {v : Value} {n : Nat} {xs : List Value} (h : w.ownsRow base e size v n xs) (hb : base' ≤ base) : w.ownsRow base' e size v n xs :=
  ⟨h.1, h.2.imp id fun ⟨g, cap, cur, e1, e2, e3⟩ => ⟨g, cap, cur, e1, Nat.le_trans hb e2, e3⟩⟩
/-- Why bytes do not begin with a whole frame; 0: they do. -/
def cutWhy (l : List (BitVec 8)) : Nat := if (num 0 0 l).2.2 ≠ 0 then (num 0 0 l).2.2 else if 65536 < (num 0 0 l).1 then 3 else if l.length < (num 0 0 l).2.1 + 4 + (num 0 0 l).1 then 10 else 0
def cutSum (l : List (BitVec 8)) : List (BitVec 8) := (l.drop (num 0 0 l).2.1).take 4
def cutBody (l : List (BitVec 8)) : List (BitVec 8) := (l.drop ((num 0 0 l).2.1 + 4)).take (num 0 0 l).1
def cutRest (l : List (BitVec 8)) : List (BitVec 8) := l.drop ((num 0 0 l).2.1 + 4 + (num 0 0 l).1)
/-- Why bytes are no frame; 0: they are one. -/
def unWhy (l : List (BitVec 8)) : Nat := if cutWhy l ≠ 0 then cutWhy l else if cutRest l ≠ [] then 11 else if cutSum l = four (Crc.more 0#32 (cutBody l)) then 0 else 12
end Go.Proofs.Ytogbcciocgpknaa

namespace Go.Proofs.Ytogbcciocgpknaa
open Go.RowKit Cod
set_option linter.unusedVariables false

theorem Rdr.below {w w' : World} {R : Nat} {l : List (BitVec 8)} {at_ why : Nat} (h : Rdr w R l at_ why) (hb : Below w.heap.size w w') : Rdr w' R l at_ why := by
  obtain ⟨a, cap, hh, hs, hn, hk, hne, hat, hm⟩ := h
  exact ⟨a, cap, by rw [hb.block R (Array.getElem?_eq_some_iff.1 hh).1]; exact hh, hs.below hb, hn, hk, hne, hat, hm⟩
theorem below_grown {B R : Nat} {a w w' : World} (h : Below B a w) (hg : w.grownBy w' (some R)) (hB : B ≤ w.heap.size) (hR : B ≤ R) : Below B a w' :=
  h.grown hg hB (fun k e => by cases e; exact hR)
theorem enc_300 : enc 300 = [172#8, 2#8] := by rw [enc_high (by decide), enc_low (by decide)]
theorem enc_1 : enc 1 = [1#8] := by rw [enc_low (by decide)]
theorem enc_2 : enc 2 = [2#8] := by rw [enc_low (by decide)]
theorem rU_bad : rU [128#8, 0#8] 0 0 = (0, 0, 11) := by decide
theorem un_0 : unWhy [0#8] = 10 := by decide
theorem zig_m1 : zig (-1) = 1 := by decide

end Go.Proofs.Ytogbcciocgpknaa
