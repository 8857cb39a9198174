/- Unpack, plainly: what is read is what is written. -/
import Derived.Test.YtmcippolnekogaaKAllD
import Derived.Test.YtmcippolnekogaaBacks
import Derived.Test.YtmcippolnekogaaKAllE
import Derived.Test.YtmcippolnekogaaGetOp
import Derived.Test.YtmcippolnekogaaGetRO
import Derived.Deep.MidRow
namespace Go.Proofs.Ytmcippolnekogaa
open Go.RowKit Cod
set_option linter.unusedVariables false

/-- A number that is read stands there as it is written. -/
theorem num_fore : ∀ (l : List (BitVec 8)) (k acc : Nat), (num k acc l).2.2 = 0 → k ≤ 9 → ∃ m, (num k acc l).1 = acc + m * 128 ^ k ∧ (num k acc l).2.1 = k + (enc m).length ∧ l = enc m ++ l.drop (enc m).length ∧ (0 < k → 0 < m)
  | [], k, acc, h, _ => by simp [num] at h
  | c :: r, k, acc, h, hk => by
    have hc := c.isLt
    unfold num at h ⊢
    split at h
    · simp at h
    · next hn =>
      rw [if_neg hn]
      split at h
      · next h1 =>
        rw [if_pos h1]
        have e : enc c.toNat = [c] := by rw [enc_low (by omega)]; simp
        refine ⟨c.toNat, rfl, by rw [e]; rfl, by rw [e]; rfl, fun h0 => ?_⟩
        by_cases hz : c.toNat = 0
        · exact absurd (.inr ⟨h0, hz⟩) hn
        · omega
      · next h1 =>
        rw [if_neg h1]
        have k9 : k ≠ 9 := fun e => hn (.inl ⟨e, by omega⟩)
        obtain ⟨m, e1, e2, e3, e4⟩ := num_fore r (k + 1) _ h (by omega)
        have hm := e4 (by omega)
        have hb : ¬ (c.toNat % 128 + 128 * m) < 128 := by omega
        have ee : enc (c.toNat % 128 + 128 * m) = c :: enc m := by
          rw [enc_high hb]
          have q1 : (c.toNat % 128 + 128 * m) % 128 + 128 = c.toNat := by omega
          have q2 : (c.toNat % 128 + 128 * m) / 128 = m := by omega
          rw [q1, q2]
          simp
        refine ⟨c.toNat % 128 + 128 * m, ?_, ?_, ?_, fun _ => by omega⟩
        · rw [e1, Nat.pow_succ, Nat.add_mul, Nat.add_assoc]
          congr 2
          rw [Nat.mul_comm (128 ^ k) 128, ← Nat.mul_assoc, Nat.mul_comm m 128]
        · rw [e2, ee]; simp; omega
        · rw [ee]
          simp only [List.length_cons, List.drop_succ_cons, List.cons_append]
          rw [← e3]
theorem zig_zag (n : Nat) : zig (zag n) = n := by
  unfold zag zig
  split <;> split <;> omega
theorem zag_ok {n : Nat} (h : n < 18446744073709551616) : i64ok (zag n) := by
  unfold zag i64ok
  split <;> omega
/-- What was read, from a place on to another one, is B. -/
def Fore (l : List (BitVec 8)) (a y b z : Nat) (B : List (BitVec 8)) : Prop := z = 0 → y = 0 ∧ l.drop a = B ++ l.drop b
theorem Fore.trans {l : List (BitVec 8)} {a y b z c x : Nat} {B C : List (BitVec 8)} (h : Fore l a y b z B) (k : Fore l b z c x C) : Fore l a y c x (B ++ C) := fun e => by
  obtain ⟨e1, e2⟩ := k e
  obtain ⟨e3, e4⟩ := h e1
  exact ⟨e3, by rw [e4, e2, List.append_assoc]⟩
theorem rU_fore (l : List (BitVec 8)) (a y : Nat) : Fore l a y (rU l a y).2.1 (rU l a y).2.2 (enc (rU l a y).1) := fun e => by
  unfold rU at e ⊢
  by_cases hy : y = 0
  · rw [if_pos hy] at e ⊢
    obtain ⟨m, e1, e2, e3, _⟩ := num_fore (l.drop a) 0 0 e (by omega)
    refine ⟨hy, ?_⟩
    simp only [e1, e2]
    simp only [Nat.pow_zero, Nat.mul_one, Nat.zero_add]
    rw [← List.drop_drop]
    exact e3
  · rw [if_neg hy] at e
    exact absurd e hy
theorem rU_fore' (l : List (BitVec 8)) (a y : Nat) : Fore l a y (rU l a y).2.1 (rU l a y).2.2 (enc (zig (zag (rU l a y).1))) := by rw [zig_zag]; exact rU_fore l a y
theorem rC_fore (l : List (BitVec 8)) (most : Int) (a y : Nat) : Fore l a y (rC l most a y).2.1 (rC l most a y).2.2 (enc (rC l most a y).1) := fun e => by
  unfold rC at e ⊢
  split at e
  · next h => exact absurd e h
  · next h =>
    rw [if_neg h]
    split at e
    · cases e
    · next h2 =>
      rw [if_neg h2]
      split at e
      · cases e
      · next h3 =>
        rw [if_neg h3]
        exact rU_fore l a y e
theorem rS_fore (l : List (BitVec 8)) (a y : Nat) (ha : a ≤ l.length) : Fore l a y (rS l a y).2.1 (rS l a y).2.2 (sz (rS l a y).1) := fun e => by
  by_cases h : (rC l 65536 a y).2.2 ≠ 0
  · unfold rS at e
    rw [if_pos h] at e
    exact absurd e h
  · have h' : (rC l 65536 a y).2.2 = 0 := by simpa using h
    obtain ⟨e1, e2⟩ := rC_fore l 65536 a y h'
    have hr := rC_room ha h'
    unfold rS
    rw [if_neg h]
    refine ⟨e1, ?_⟩
    simp only [sz]
    rw [List.length_take, List.length_drop, Nat.min_eq_left (by omega), List.append_assoc, ← List.drop_drop, List.take_append_drop]
    exact e2
theorem rS_short (l : List (BitVec 8)) (a y : Nat) : (rS l a y).1.length ≤ 65536 := by
  unfold rS
  split
  · simp
  · have := rC_most l 65536 a y (by omega)
    simp only [List.length_take]
    exact Nat.le_trans (Nat.min_le_left _ _) this
theorem text_short (l : List (BitVec 8)) (a y : Nat) : (textOf (rS l a y).1).size ≤ 65536 := by
  have h := rS_short l a y
  have e : (textOf (rS l a y).1).size = (rS l a y).1.length := by simp [textOf, ByteArray.size]
  omega
theorem bytesL_textOf (A : List (BitVec 8)) : bytesL (textOf A) = A := textOf_inj (textOf_bytesL _)
theorem op_fore {l : List (BitVec 8)} {a y : Nat} {r1 r4 r6 r7 : Nat × Nat × Nat} {r2 r3 r5 : List (BitVec 8) × Nat × Nat} (f1 : Fore l a y r1.2.1 r1.2.2 (enc (zig (zag r1.1)))) (f2 : Fore l r1.2.1 r1.2.2 r2.2.1 r2.2.2 (sz r2.1)) (f3 : Fore l r2.2.1 r2.2.2 r3.2.1 r3.2.2 (sz r3.1)) (f4 : Fore l r3.2.1 r3.2.2 r4.2.1 r4.2.2 (enc (zig (zag r4.1)))) (f5 : Fore l r4.2.1 r4.2.2 r5.2.1 r5.2.2 (sz r5.1)) (f6 : Fore l r5.2.1 r5.2.2 r6.2.1 r6.2.2 (enc (zig (zag r6.1)))) (f7 : Fore l r6.2.1 r6.2.2 r7.2.1 r7.2.2 (enc (zig (zag r7.1)))) :
    Fore l a y r7.2.1 r7.2.2 (OpD.bytes ⟨zag r1.1, textOf r2.1, textOf r3.1, zag r4.1, textOf r5.1, zag r6.1, zag r7.1⟩) := by
  simp only [OpD.bytes, bytesL_textOf]
  exact (((((f1.trans f2).trans f3).trans f4).trans f5).trans f6).trans f7
theorem rOp_le (l : List (BitVec 8)) (a y : Nat) (ha : a ≤ l.length) : (rOp1 l a y).2.1 ≤ l.length ∧ (rOp2 l a y).2.1 ≤ l.length ∧ (rOp4 l a y).2.1 ≤ l.length := by
  have g1 : (rOp1 l a y).2.1 ≤ l.length := by rw [rOp1]; exact (rU_goes l a y ha).2.1
  have g2 : (rOp2 l a y).2.1 ≤ l.length := by rw [rOp2]; exact (rS_goes l _ _ g1).2.1
  have g3 : (rOp3 l a y).2.1 ≤ l.length := by rw [rOp3]; exact (rS_goes l _ _ g2).2.1
  have g4 : (rOp4 l a y).2.1 ≤ l.length := by rw [rOp4]; exact (rU_goes l _ _ g3).2.1
  exact ⟨g1, g2, g4⟩
theorem rOp_fore (l : List (BitVec 8)) (a y : Nat) (ha : a ≤ l.length) : Fore l a y (rOp7 l a y).2.1 (rOp7 l a y).2.2 (rOpV l a y).bytes := by
  obtain ⟨g1, g2, g4⟩ := rOp_le l a y ha
  rw [rOpV]
  refine op_fore (r1 := rOp1 l a y) (r2 := rOp2 l a y) (r3 := rOp3 l a y) (r4 := rOp4 l a y) (r5 := rOp5 l a y) (r6 := rOp6 l a y) (r7 := rOp7 l a y) ?_ ?_ ?_ ?_ ?_ ?_ ?_
  · rw [rOp1]; exact rU_fore' l a y
  · rw [rOp2]; exact rS_fore l _ _ g1
  · rw [rOp3]; exact rS_fore l _ _ g2
  · rw [rOp4]; exact rU_fore' l _ _
  · rw [rOp5]; exact rS_fore l _ _ g4
  · rw [rOp6]; exact rU_fore' l _ _
  · rw [rOp7]; exact rU_fore' l _ _
theorem rRow_fore (l : List (BitVec 8)) (a y : Nat) (ha : a ≤ l.length) : Fore l a y (rRow l a y).2.1 (rRow l a y).2.2 (rowB (rRow l a y).1) := by
  have f := (rS_fore l a y ha).trans (rU_fore' l (rS l a y).2.1 (rS l a y).2.2)
  simp only [rowB, rRow, bytesL_textOf]
  exact f
theorem rRows_fore (l : List (BitVec 8)) (a y : Nat) (ha : a ≤ l.length) : ∀ k, Fore l a y (rRows l a y k).2.1 (rRows l a y k).2.2 (rowsB (rRows l a y k).1)
  | 0 => fun e => ⟨e, by simp [rRows, rowsB]⟩
  | k + 1 => by
    have ih := rRows_fore l a y ha k
    have f := ih.trans (rRow_fore l _ (rRows l a y k).2.2 (rRows_goes l a y ha k).2.1)
    simp only [rRows, rowsB, List.map_append, List.map_cons, List.map_nil, List.flatten_append, List.flatten_cons, List.flatten_nil, List.append_nil]
    exact f
theorem rRows_short (l : List (BitVec 8)) (a y : Nat) : ∀ k, ∀ r ∈ (rRows l a y k).1, i64ok r.2 ∧ r.1.size ≤ 65536
  | 0, r, hr => by simp [rRows] at hr
  | k + 1, r, hr => by
    simp only [rRows, List.mem_append, List.mem_singleton] at hr
    rcases hr with hr | rfl
    · exact rRows_short l a y k r hr
    · exact ⟨zag_ok (rU_lt _ _ _), text_short _ _ _⟩
theorem rRe_fore (l : List (BitVec 8)) (a y : Nat) (ha : a ≤ l.length) : Fore l a y (rRe4 l a y).2.1 (rRe4 l a y).2.2 (replyL (zag (rRe1 l a y).1) (zag (rRe2 l a y).1) (rRe4 l a y).1) := by
  have g1 := rU_goes l a y ha
  have g2 := rU_goes l _ (rRe1 l a y).2.2 g1.2.1
  have g3 := rC_goes l 600 _ (rRe2 l a y).2.2 g2.2.1
  have f := (((rU_fore' l a y).trans (rU_fore' l (rRe1 l a y).2.1 (rRe1 l a y).2.2)).trans (rC_fore l 600 (rRe2 l a y).2.1 (rRe2 l a y).2.2)).trans (rRows_fore l (rRe3 l a y).2.1 (rRe3 l a y).2.2 g3.2.1 (rRe3 l a y).1)
  have e : (rRe4 l a y).1.length = (rRe3 l a y).1 := rRows_length _ _ _ _
  simp only [replyL, e]
  exact f
end Go.Proofs.Ytmcippolnekogaa

namespace Go.Proofs.Ytmcippolnekogaa
open Go.RowKit Cod
set_option linter.unusedVariables false

def LetD.zero : LetD := ⟨0, 0, 0, OpD.zero, 0, 0, [], []⟩
/-- What is read behind a letter's kind. -/
def readD (l : List (BitVec 8)) (k : Int) (a y : Nat) : LetD × Nat × Nat :=
  if k = 1 then (⟨1, 0, 0, OpD.zero, 0, 0, [], (rS l a y).1⟩, (rS l a y).2)
  else if k = 2 then (⟨2, zag (rU l a y).1, 0, rOpV l (rU l a y).2.1 (rU l a y).2.2, 0, 0, [], []⟩, (rOp7 l (rU l a y).2.1 (rU l a y).2.2).2)
  else if k = 3 then (⟨3, zag (rU l a y).1, 0, OpD.zero, zag (rRe1 l (rU l a y).2.1 (rU l a y).2.2).1, zag (rRe2 l (rU l a y).2.1 (rU l a y).2.2).1, (rRe4 l (rU l a y).2.1 (rU l a y).2.2).1, []⟩, (rRe4 l (rU l a y).2.1 (rU l a y).2.2).2)
  else if k = 4 then (⟨4, zag (rU l a y).1, 0, OpD.zero, 0, 0, [], (rS l (rU l a y).2.1 (rU l a y).2.2).1⟩, (rS l (rU l a y).2.1 (rU l a y).2.2).2)
  else (⟨5, zag (rU l a y).1, zag (rU l (rU l a y).2.1 (rU l a y).2.2).1, OpD.zero, 0, 0, [], (rS l (rU l (rU l a y).2.1 (rU l a y).2.2).2.1 (rU l (rU l a y).2.1 (rU l a y).2.2).2.2).1⟩, (rS l (rU l (rU l a y).2.1 (rU l a y).2.2).2.1 (rU l (rU l a y).2.1 (rU l a y).2.2).2.2).2)
/-- What Unpack answers. -/
def unpackD (l : List (BitVec 8)) : LetD × Nat :=
  if 1048576 < l.length then (LetD.zero, 3)
  else if (rU l 0 0).2.2 ≠ 0 then (LetD.zero, (rU l 0 0).2.2)
  else if zag (rU l 0 0).1 < 1 ∨ 5 < zag (rU l 0 0).1 then (LetD.zero, 1)
  else if rEnd l (readD l (zag (rU l 0 0).1) (rU l 0 0).2.1 0).2.1 (readD l (zag (rU l 0 0).1) (rU l 0 0).2.1 0).2.2 ≠ 0 then (LetD.zero, rEnd l (readD l (zag (rU l 0 0).1) (rU l 0 0).2.1 0).2.1 (readD l (zag (rU l 0 0).1) (rU l 0 0).2.1 0).2.2)
  else ((readD l (zag (rU l 0 0).1) (rU l 0 0).2.1 0).1, 0)
theorem unpack_size {l : List (BitVec 8)} (h : 1048576 < l.length) : unpackD l = (LetD.zero, 3) := if_pos h
theorem unpack_num {l : List (BitVec 8)} (h : ¬ 1048576 < l.length) (h1 : (rU l 0 0).2.2 ≠ 0) : unpackD l = (LetD.zero, (rU l 0 0).2.2) := by rw [unpackD, if_neg h, if_pos h1]
theorem unpack_arg {l : List (BitVec 8)} (h : ¬ 1048576 < l.length) (h1 : (rU l 0 0).2.2 = 0) (h2 : zag (rU l 0 0).1 < 1 ∨ 5 < zag (rU l 0 0).1) : unpackD l = (LetD.zero, 1) := by rw [unpackD, if_neg h, if_neg (by simpa using h1), if_pos h2]
theorem unpack_end {l : List (BitVec 8)} (h : ¬ 1048576 < l.length) (h1 : (rU l 0 0).2.2 = 0) (h2 : ¬ (zag (rU l 0 0).1 < 1 ∨ 5 < zag (rU l 0 0).1)) (h3 : rEnd l (readD l (zag (rU l 0 0).1) (rU l 0 0).2.1 0).2.1 (readD l (zag (rU l 0 0).1) (rU l 0 0).2.1 0).2.2 ≠ 0) : unpackD l = (LetD.zero, rEnd l (readD l (zag (rU l 0 0).1) (rU l 0 0).2.1 0).2.1 (readD l (zag (rU l 0 0).1) (rU l 0 0).2.1 0).2.2) := by rw [unpackD, if_neg h, if_neg (by simpa using h1), if_neg h2, if_pos h3]
theorem unpack_ok {l : List (BitVec 8)} (h : ¬ 1048576 < l.length) (h1 : (rU l 0 0).2.2 = 0) (h2 : ¬ (zag (rU l 0 0).1 < 1 ∨ 5 < zag (rU l 0 0).1)) (h3 : rEnd l (readD l (zag (rU l 0 0).1) (rU l 0 0).2.1 0).2.1 (readD l (zag (rU l 0 0).1) (rU l 0 0).2.1 0).2.2 = 0) : unpackD l = ((readD l (zag (rU l 0 0).1) (rU l 0 0).2.1 0).1, 0) := by rw [unpackD, if_neg h, if_neg (by simpa using h1), if_neg h2, if_neg (by simpa using h3)]
theorem op_zero_ok : OpD.zero.ok := ⟨⟨by decide, by decide⟩, ⟨by decide, by decide⟩, ⟨by decide, by decide⟩, ⟨by decide, by decide⟩⟩
theorem i0 : i64ok 0 := ⟨by decide, by decide⟩
theorem i1 : i64ok 1 := ⟨by decide, by decide⟩
theorem i2 : i64ok 2 := ⟨by decide, by decide⟩
theorem i3 : i64ok 3 := ⟨by decide, by decide⟩
theorem i4 : i64ok 4 := ⟨by decide, by decide⟩
theorem i5 : i64ok 5 := ⟨by decide, by decide⟩
/-- What is read is a letter that can be written, with nothing beside what counts. -/
theorem read_fore (l : List (BitVec 8)) {k : Int} (h1 : 1 ≤ k) (h5 : k ≤ 5) (a y : Nat) (ha : a ≤ l.length) :
    (readD l k a y).1.kind = k ∧ (readD l k a y).1.ok ∧ (readD l k a y).1.just = (readD l k a y).1 ∧ (readD l k a y).2.1 ≤ l.length ∧ ((readD l k a y).2.2 = 0 → (readD l k a y).1.fits = true) ∧ Fore l a y (readD l k a y).2.1 (readD l k a y).2.2 (readD l k a y).1.rest := by
  have g1 := rU_goes l a y ha
  have f1 := rU_fore' l a y
  have z1 := zag_ok (rU_lt l a y)
  rcases kinds h1 h5 with rfl | rfl | rfl | rfl | rfl
  · have e : readD l 1 a y = (⟨1, 0, 0, OpD.zero, 0, 0, [], (rS l a y).1⟩, (rS l a y).2) := by rw [readD, if_pos rfl]
    have f2 := rS_fore l a y ha
    have g2 := (rS_goes l a y ha).2.1
    have s2 := rS_short l a y
    rw [e]
    generalize rS l a y = S at *
    exact ⟨rfl, ⟨i1, i0, i0, op_zero_ok, i0, i0, fun r hr => by cases hr⟩, rfl, g2, fun _ => by simpa [LetD.fits] using s2, f2⟩
  · have e : readD l 2 a y = (⟨2, zag (rU l a y).1, 0, rOpV l (rU l a y).2.1 (rU l a y).2.2, 0, 0, [], []⟩, (rOp7 l (rU l a y).2.1 (rU l a y).2.2).2) := by rw [readD, if_neg (by decide), if_pos rfl]
    rw [e]
    generalize rU l a y = N at *
    have f2 := rOp_fore l N.2.1 N.2.2 g1.2.1
    have g2 := (rOp_goes l N.2.1 N.2.2 g1.2.1).2.1
    have o2 : (rOpV l N.2.1 N.2.2).ok ∧ shortL [(rOpV l N.2.1 N.2.2).src, (rOpV l N.2.1 N.2.2).dst, (rOpV l N.2.1 N.2.2).key] = true := by
      rw [rOpV]
      refine ⟨⟨?_, ?_, ?_, ?_⟩, ?_⟩
      · simp only; rw [rOp1]; exact zag_ok (rU_lt _ _ _)
      · simp only; rw [rOp4]; exact zag_ok (rU_lt _ _ _)
      · simp only; rw [rOp6]; exact zag_ok (rU_lt _ _ _)
      · simp only; rw [rOp7]; exact zag_ok (rU_lt _ _ _)
      · have a1 : (textOf (rOp2 l N.2.1 N.2.2).1).size ≤ 65536 := by rw [rOp2]; exact text_short _ _ _
        have a2 : (textOf (rOp3 l N.2.1 N.2.2).1).size ≤ 65536 := by rw [rOp3]; exact text_short _ _ _
        have a3 : (textOf (rOp5 l N.2.1 N.2.2).1).size ≤ 65536 := by rw [rOp5]; exact text_short _ _ _
        simp [shortL, a1, a2, a3]
    generalize rOpV l N.2.1 N.2.2 = O at *
    generalize rOp7 l N.2.1 N.2.2 = T at *
    exact ⟨rfl, ⟨i2, z1, i0, o2.1, i0, i0, fun r hr => by cases hr⟩, rfl, g2, fun _ => o2.2, f1.trans f2⟩
  · have e : readD l 3 a y = (⟨3, zag (rU l a y).1, 0, OpD.zero, zag (rRe1 l (rU l a y).2.1 (rU l a y).2.2).1, zag (rRe2 l (rU l a y).2.1 (rU l a y).2.2).1, (rRe4 l (rU l a y).2.1 (rU l a y).2.2).1, []⟩, (rRe4 l (rU l a y).2.1 (rU l a y).2.2).2) := by rw [readD, if_neg (by decide), if_neg (by decide), if_pos rfl]
    rw [e]
    generalize rU l a y = N at *
    have f2 := rRe_fore l N.2.1 N.2.2 g1.2.1
    have q1 : (rRe1 l N.2.1 N.2.2).2.1 ≤ l.length := by rw [rRe1]; exact (rU_goes l _ _ g1.2.1).2.1
    have q2 : (rRe2 l N.2.1 N.2.2).2.1 ≤ l.length := by rw [rRe2]; exact (rU_goes l _ _ q1).2.1
    have q3 : (rRe3 l N.2.1 N.2.2).2.1 ≤ l.length := by rw [rRe3]; exact (rC_goes l 600 _ _ q2).2.1
    have q4 : (rRe4 l N.2.1 N.2.2).2.1 ≤ l.length := by rw [rRe4]; exact (rRows_goes l _ _ q3 _).2.1
    have o1 : i64ok (zag (rRe1 l N.2.1 N.2.2).1) := by rw [rRe1]; exact zag_ok (rU_lt _ _ _)
    have o2 : i64ok (zag (rRe2 l N.2.1 N.2.2).1) := by rw [rRe2]; exact zag_ok (rU_lt _ _ _)
    have o3 : ∀ r ∈ (rRe4 l N.2.1 N.2.2).1, i64ok r.2 ∧ r.1.size ≤ 65536 := by rw [rRe4]; exact rRows_short _ _ _ _
    have o4 : (rRe4 l N.2.1 N.2.2).1.length ≤ 600 := by
      rw [rRe4, rRows_length, rRe3]
      exact rC_most l 600 _ _ (by omega)
    generalize rRe1 l N.2.1 N.2.2 = A at *
    generalize rRe2 l N.2.1 N.2.2 = B at *
    generalize rRe4 l N.2.1 N.2.2 = T at *
    refine ⟨rfl, ⟨i3, z1, i0, op_zero_ok, o1, o2, fun r hr => (o3 r hr).1⟩, rfl, q4, fun _ => ?_, f1.trans f2⟩
    show (decide (T.1.length ≤ 600) && shortL (T.1.map (·.1))) = true
    rw [decide_eq_true o4, Bool.true_and]
    simp only [shortL, List.all_eq_true, List.mem_map, decide_eq_true_eq]
    rintro s ⟨r, hr, rfl⟩
    exact (o3 r hr).2
  · have e : readD l 4 a y = (⟨4, zag (rU l a y).1, 0, OpD.zero, 0, 0, [], (rS l (rU l a y).2.1 (rU l a y).2.2).1⟩, (rS l (rU l a y).2.1 (rU l a y).2.2).2) := by rw [readD, if_neg (by decide), if_neg (by decide), if_neg (by decide), if_pos rfl]
    rw [e]
    generalize rU l a y = N at *
    have f2 := rS_fore l N.2.1 N.2.2 g1.2.1
    have g2 := (rS_goes l N.2.1 N.2.2 g1.2.1).2.1
    have s2 := rS_short l N.2.1 N.2.2
    generalize rS l N.2.1 N.2.2 = S at *
    exact ⟨rfl, ⟨i4, z1, i0, op_zero_ok, i0, i0, fun r hr => by cases hr⟩, rfl, g2, fun _ => by simpa [LetD.fits] using s2, f1.trans f2⟩
  · have e : readD l 5 a y = (⟨5, zag (rU l a y).1, zag (rU l (rU l a y).2.1 (rU l a y).2.2).1, OpD.zero, 0, 0, [], (rS l (rU l (rU l a y).2.1 (rU l a y).2.2).2.1 (rU l (rU l a y).2.1 (rU l a y).2.2).2.2).1⟩, (rS l (rU l (rU l a y).2.1 (rU l a y).2.2).2.1 (rU l (rU l a y).2.1 (rU l a y).2.2).2.2).2) := by rw [readD, if_neg (by decide), if_neg (by decide), if_neg (by decide), if_neg (by decide)]
    rw [e]
    generalize rU l a y = N at *
    have g2 := rU_goes l N.2.1 N.2.2 g1.2.1
    have f2 := rU_fore' l N.2.1 N.2.2
    have z2 := zag_ok (rU_lt l N.2.1 N.2.2)
    generalize rU l N.2.1 N.2.2 = M at *
    have f3 := rS_fore l M.2.1 M.2.2 g2.2.1
    have g3 := (rS_goes l M.2.1 M.2.2 g2.2.1).2.1
    have s3 := rS_short l M.2.1 M.2.2
    generalize rS l M.2.1 M.2.2 = S at *
    exact ⟨rfl, ⟨i5, z1, z2, op_zero_ok, i0, i0, fun r hr => by cases hr⟩, rfl, g3, fun _ => by simpa [LetD.fits] using s3, f1.trans (f2.trans f3)⟩
theorem rEnd_zero {l : List (BitVec 8)} {a y : Nat} (ha : a ≤ l.length) (h : rEnd l a y = 0) : y = 0 ∧ a = l.length := by
  unfold rEnd at h
  by_cases hy : y = 0
  · rw [if_neg (by simpa using hy)] at h
    by_cases hl : a < l.length
    · rw [if_pos hl] at h; cases h
    · exact ⟨hy, by omega⟩
  · rw [if_pos hy] at h; exact absurd h hy
/-- Bytes that are a letter are the letter's bytes. -/
theorem unpack_fore {l : List (BitVec 8)} (h : (unpackD l).2 = 0) : (unpackD l).1.ok ∧ (unpackD l).1.pack = (l, 0) ∧ (unpackD l).1.just = (unpackD l).1 := by
  by_cases h0 : 1048576 < l.length
  · rw [unpack_size h0] at h; cases h
  by_cases h1 : (rU l 0 0).2.2 = 0
  case neg => rw [unpack_num h0 h1] at h; exact absurd h h1
  by_cases h2 : zag (rU l 0 0).1 < 1 ∨ 5 < zag (rU l 0 0).1
  · rw [unpack_arg h0 h1 h2] at h; cases h
  have g := rU_goes l 0 0 (Nat.zero_le _)
  obtain ⟨r1, r2, r3, r4, r5, r6⟩ := read_fore l (k := zag (rU l 0 0).1) (by omega) (by omega) (rU l 0 0).2.1 0 g.2.1
  have f := (rU_fore' l 0 0)
  by_cases h3 : rEnd l (readD l (zag (rU l 0 0).1) (rU l 0 0).2.1 0).2.1 (readD l (zag (rU l 0 0).1) (rU l 0 0).2.1 0).2.2 = 0
  case neg => rw [unpack_end h0 h1 h2 h3] at h; exact absurd h h3
  obtain ⟨e1, e2⟩ := rEnd_zero r4 h3
  have f2 := (f h1).2
  have f3 := (r6 e1).2
  rw [unpack_ok h0 h1 h2 h3]
  simp only
  rw [e2] at f3
  simp only [List.drop_length, List.append_nil, List.drop_zero] at f2 f3
  have hb : (readD l (zag (rU l 0 0).1) (rU l 0 0).2.1 0).1.bytes = l := by
    rw [bytes_rest (by rw [r1]; omega) (by rw [r1]; omega), r1]
    exact (f2.trans (by rw [f3])).symm
  exact ⟨r2, by rw [pack_ok (by rw [r1]; exact h2) (r5 e1) (by rw [hb]; exact h0), hb], r3⟩
theorem read_back {l : List (BitVec 8)} {a : Nat} {d : LetD} (ho : d.ok) (h1 : 1 ≤ d.kind) (h5 : d.kind ≤ 5) (hf : d.fits = true) (ha : a ≤ l.length) (h : l.drop a = d.rest) : readD l d.kind a 0 = (d.just, l.length, 0) := by
  obtain ⟨kind, n, group, op, why, amount, rows, body⟩ := d
  obtain ⟨o1, o2, o3, o4, o5, o6, o7⟩ := ho
  simp only at h1 h5 o1 o2 o3 o4 o5 o6 o7
  rcases kinds h1 h5 with rfl | rfl | rfl | rfl | rfl
  · have hz : body.length ≤ 65536 := by simpa [LetD.fits] using hf
    have h' : l.drop a = sz body ++ [] := by rw [List.append_nil]; exact h
    have e := rS_back ha h' hz
    have q := drop_len ha h'
    simp only [List.length_nil, Nat.add_zero] at q
    show readD l 1 a 0 = _
    rw [readD, if_pos rfl, e, q]
    rfl
  · have g : shortL [op.src, op.dst, op.key] = true := hf
    have h' : l.drop a = enc (zig n) ++ op.bytes := h
    have u := rU_back h' (zig_lt n o2)
    have q := drop_len ha h'
    have h2 : l.drop (a + (enc (zig n)).length) = op.bytes ++ [] := by rw [List.append_nil]; exact drop_next h'
    obtain ⟨e1, e2, e3, _⟩ := rOp_back o4 (by omega) h2 (short_mem g (by simp)) (short_mem g (by simp)) (short_mem g (by simp))
    show readD l 2 a 0 = _
    rw [readD, if_neg (by decide), if_pos rfl, u]
    simp only [zag_zig]
    rw [e1]
    generalize rOp7 l (a + (enc (zig n)).length) 0 = T at e2 e3 ⊢
    obtain ⟨t1, t2, t3⟩ := T
    simp only at e2 e3
    subst e3
    rw [e2, q]
    rfl
  · have g : (decide (rows.length ≤ 600) && shortL (rows.map (·.1))) = true := hf
    rw [Bool.and_eq_true] at g
    have hl : rows.length ≤ 600 := by simpa using g.1
    have h' : l.drop a = enc (zig n) ++ (enc (zig why) ++ (enc (zig amount) ++ (enc rows.length ++ rowsB rows))) := by
      rw [show l.drop a = enc (zig n) ++ replyL why amount rows from h, replyL]; simp only [List.append_assoc]
    have u := rU_back h' (zig_lt n o2)
    have q1 := drop_len ha h'
    have s2 := drop_next h'
    have u2 := rU_back s2 (zig_lt why o5)
    have q2 := drop_len (by omega) s2
    have s3 := drop_next s2
    have u3 := rU_back s3 (zig_lt amount o6)
    have q3 := drop_len (by omega) s3
    have s4 := drop_next s3
    have u4 := rC_back (most := 600) (by omega) s4 (by omega) (by omega) (rowsB_ge rows)
    have q4 := drop_len (by omega) s4
    have s5 := drop_next s4
    have s5' : l.drop (a + (enc (zig n)).length + (enc (zig why)).length + (enc (zig amount)).length + (enc rows.length).length) = rowsB rows ++ [] := by rw [List.append_nil]; exact s5
    have u5 := rRows_back (by omega) s5' (fun x hx => ⟨o7 x hx, short_mem g.2 (List.mem_map_of_mem hx)⟩) rows.length (Nat.le_refl _)
    rw [List.take_length] at u5
    show readD l 3 a 0 = _
    rw [readD, if_neg (by decide), if_neg (by decide), if_pos rfl, u]
    simp only [zag_zig, rRe1, rRe2, rRe3, rRe4, u2, u3, u4, u5]
    rw [show a + (enc (zig n)).length + (enc (zig why)).length + (enc (zig amount)).length + (enc rows.length).length + (rowsB rows).length = l.length by omega]
    rfl
  · have hz : body.length ≤ 65536 := by simpa [LetD.fits] using hf
    have h' : l.drop a = enc (zig n) ++ sz body := h
    have u := rU_back h' (zig_lt n o2)
    have q := drop_len ha h'
    have h2 : l.drop (a + (enc (zig n)).length) = sz body ++ [] := by rw [List.append_nil]; exact drop_next h'
    have e := rS_back (by omega) h2 hz
    show readD l 4 a 0 = _
    rw [readD, if_neg (by decide), if_neg (by decide), if_neg (by decide), if_pos rfl, u]
    simp only [zag_zig, e]
    rw [q]
    rfl
  · have hz : body.length ≤ 65536 := by simpa [LetD.fits] using hf
    have h' : l.drop a = enc (zig n) ++ (enc (zig group) ++ sz body) := h
    have u := rU_back h' (zig_lt n o2)
    have q := drop_len ha h'
    have s2 := drop_next h'
    have u2 := rU_back s2 (zig_lt group o3)
    have q2 := drop_len (by omega) s2
    have h2 : l.drop (a + (enc (zig n)).length + (enc (zig group)).length) = sz body ++ [] := by rw [List.append_nil]; exact drop_next s2
    have e := rS_back (by omega) h2 hz
    show readD l 5 a 0 = _
    rw [readD, if_neg (by decide), if_neg (by decide), if_neg (by decide), if_neg (by decide), u]
    simp only [zag_zig, u2, e]
    rw [q2]
    rfl
/-- A letter's bytes are the letter, but for what does not count. -/
theorem unpack_back {d : LetD} (ho : d.ok) (h : d.pack.2 = 0) : unpackD d.bytes = (d.just, 0) := by
  obtain ⟨h1, h5, hf, _, hl⟩ := pack_zero h
  have hb := bytes_rest h1 h5
  have u : rU d.bytes 0 0 = (zig d.kind, 0 + (enc (zig d.kind)).length, 0) := rU_back (r := d.rest) (by rw [List.drop_zero]; exact hb) (zig_lt _ ho.kind)
  have hd : d.bytes.drop (0 + (enc (zig d.kind)).length) = d.rest := drop_next (at_ := 0) (by rw [List.drop_zero]; exact hb)
  have ha : 0 + (enc (zig d.kind)).length ≤ d.bytes.length := by rw [hb]; simp
  have e := read_back ho h1 h5 hf ha hd
  have e3 : rEnd d.bytes (readD d.bytes (zag (rU d.bytes 0 0).1) (rU d.bytes 0 0).2.1 0).2.1 (readD d.bytes (zag (rU d.bytes 0 0).1) (rU d.bytes 0 0).2.1 0).2.2 = 0 := by
    rw [u]
    simp only [zag_zig, e]
    simp [rEnd]
  rw [unpack_ok (by omega) (by rw [u]) (by rw [u]; simp only [zag_zig]; omega) e3, u]
  simp only [zag_zig, e]
end Go.Proofs.Ytmcippolnekogaa

namespace Go.Proofs.Ytmcippolnekogaa
open Go.RowKit Cod
attribute [local go_sem] Oper.semAt_some
set_option linter.unusedVariables false

def setsL (cs : Array Value) : Nat → List Value → Array Value
  | _, [] => cs
  | o, v :: r => setsL (cs.setIfInBounds o v) (o + 1) r
theorem Fill.stores {w0 : World} {R : Nat} {l : List (BitVec 8)} {a y : Nat} {t : TypeId} {zs : Array Value} : ∀ (vs : List Value) (o : Nat) (w : World) (cs : Array Value), Fill w0 w R l a y t zs cs → Fill w0 (w.setCells (w0.heap.size + 1) o vs) R l a y t zs (setsL cs o vs)
  | [], _, _, _, h => h
  | v :: r, o, w, cs, h => Fill.stores r (o + 1) _ _ (h.store o v)
theorem Fill.there {w0 w : World} {R : Nat} {l : List (BitVec 8)} {a y : Nat} {t : TypeId} {zs cs : Array Value} (h : Fill w0 w R l a y t zs cs) (o n : Nat) (hn : o + n ≤ cs.size) : w.there (w0.heap.size + 1) o n := fun j hj => by
  obtain ⟨c1, c2⟩ := h.cell (o + j)
  exact ⟨by rw [c1, Array.getElem?_eq_getElem (by omega)]; rfl, c2⟩
/-- What a letter that is read lies in. -/
theorem Fill.done {w0 w : World} {R : Nat} {l : List (BitVec 8)} {a y : Nat} {cs : Array Value} (h : Fill w0 w R l a y 31 #[.int .i64 0, .int .i64 0, .int .i64 0, .int .i64 0, .string ⟨#[]⟩, .string ⟨#[]⟩, .int .i64 0, .string ⟨#[]⟩, .int .i64 0, .int .i64 0, .int .i64 0, .int .i64 0, .slice none 0 0, .slice none 0 0] cs) : Rdr (w.setRow w0.heap.size cs) R l a y ∧ w0.grownBy (w.setRow w0.heap.size cs) (some R) ∧ (w.setRow w0.heap.size cs).heap[w0.heap.size]? = some (.cells cs 31 (0, 0)) ∧ (∀ k, k ≠ w0.heap.size → (w.setRow w0.heap.size cs).heap[k]? = w.heap[k]?) := by
  have hlt := h.lt
  refine ⟨h.rdr.since fun k hk => setRow_other _ _ _ _ (by omega), ⟨h.grown.os, h.grown.tape, h.grown.output, by simpa using h.grown.size, fun k hk hn => (setRow_other _ _ _ _ (by omega)).trans (h.grown.block k hk hn)⟩, setRow_heap _ _ _ _ _ _ h.old, fun k hk => setRow_other _ _ _ _ hk⟩
theorem owns_setCells {base n size b : Nat} {e : TypeId} {v : Value} {xs : List Value} : ∀ (vs : List Value) (o : Nat) (w : World), w.ownsRow base e size v n xs → b < base → (w.setCells b o vs).ownsRow base e size v n xs
  | [], _, _, h, _ => h
  | u :: r, o, w, h, hb => owns_setCells r (o + 1) _ (owns_set h ⟨b, o, none⟩ u hb) hb
/-- What read tells. -/
def ReadTold (w w' : World) (R : Nat) (l : List (BitVec 8)) (X : LetD × Nat × Nat) (e : Ending) : Prop :=
  ∃ ra rc ba bc, e = .returned (.agg (X.1.v ra rc ba bc).cells) ∧ LetOwn w' w.heap.size X.1 ra rc ba bc ∧ Rdr w' R l X.2.1 X.2.2 ∧ w.grownBy w' (some R)
theorem owns_rows_none (w : World) (base : Nat) : w.ownsRow base 69 2 (.slice none 0 0) 0 (rowCells []) := ⟨rfl, .inl ⟨rfl, rfl⟩⟩
set_option maxRecDepth 100000 in
set_option maxHeartbeats 4000000 in
theorem read_1 (R : Nat) (l : List (BitVec 8)) (a y : Nat) (w : World) (h : Rdr w R l a y) : Calls Try.prog 44 #[.int .i64 1, .pointer (some ⟨R, 0, none⟩)] w fun e w' => ReadTold w w' R l (readD l 1 a y) e := by
  rw [readD, if_pos rfl]
  generalize hw1 : (w.alloc (.cells #[.int .i64 0, .int .i64 0, .int .i64 0, .int .i64 0, .string ⟨#[]⟩, .string ⟨#[]⟩, .int .i64 0, .string ⟨#[]⟩, .int .i64 0, .int .i64 0, .int .i64 0, .int .i64 0, .slice none 0 0, .slice none 0 0] 31)).alloc (.cells #[.int .i64 1, .int .i64 0, .int .i64 0, .int .i64 0, .string ⟨#[]⟩, .string ⟨#[]⟩, .int .i64 0, .string ⟨#[]⟩, .int .i64 0, .int .i64 0, .int .i64 0, .int .i64 0, .slice none 0 0, .slice none 0 0] 31) = w1
  have f1 : Hid (Fill w w1 R l a y 31 #[.int .i64 0, .int .i64 0, .int .i64 0, .int .i64 0, .string ⟨#[]⟩, .string ⟨#[]⟩, .int .i64 0, .string ⟨#[]⟩, .int .i64 0, .int .i64 0, .int .i64 0, .int .i64 0, .slice none 0 0, .slice none 0 0] #[.int .i64 1, .int .i64 0, .int .i64 0, .int .i64 0, .string ⟨#[]⟩, .string ⟨#[]⟩, .int .i64 0, .string ⟨#[]⟩, .int .i64 0, .int .i64 0, .int .i64 0, .int .i64 0, .slice none 0 0, .slice none 0 0]) := by rw [← hw1]; exact Fill.start h _ _ _
  have HW : Hid (_ = w1) := hw1
  have C1 : Hid (∀ W, Rdr W R l a y → Calls Try.prog 68 #[.pointer (some ⟨R, 0, none⟩)] W fun e w' => ∃ v, e = .returned v ∧ w'.ownsRow W.heap.size 5 1 v (rS l a y).1.length (cellsOf (rS l a y).1) ∧ (rS l a y).1.length ≤ 65536 ∧ Rdr w' R l (rS l a y).2.1 (rS l a y).2.2 ∧ W.grownBy w' (some R)) := fun W h => rBytes_any R l _ _ W h
  generalize rS l a y = X1 at *
  obtain ⟨xl, xp, xy⟩ := X1
  simp only at *
  clear h hw1
  go_enter Try.func44, Try.ntmps44
  go_wp2_with fail
  rw [HW.out]
  refine (C1.out _ f1.out.rdr).mono ?_
  rintro e v1 ⟨vb, rfl, ob, lb, r1, g1⟩
  obtain ⟨ba, bc, rfl, _, _⟩ := row_form' ob
  have d1 : Hid (Fill w v1 R l xp xy 31 #[.int .i64 0, .int .i64 0, .int .i64 0, .int .i64 0, .string ⟨#[]⟩, .string ⟨#[]⟩, .int .i64 0, .string ⟨#[]⟩, .int .i64 0, .int .i64 0, .int .i64 0, .int .i64 0, .slice none 0 0, .slice none 0 0] #[.int .i64 1, .int .i64 0, .int .i64 0, .int .i64 0, .string ⟨#[]⟩, .string ⟨#[]⟩, .int .i64 0, .string ⟨#[]⟩, .int .i64 0, .int .i64 0, .int .i64 0, .int .i64 0, .slice none 0 0, .slice none 0 0]) := f1.out.call r1 g1
  have c1 := (d1.out.cell 13).1
  have z1 := (d1.out.cell 13).2
  simp only [List.getElem?_toArray] at c1
  have f9 : Hid (Fill w (v1.setCell ⟨w.heap.size + 1, 13, none⟩ (.slice ba xl.length bc)) R l xp xy 31 #[.int .i64 0, .int .i64 0, .int .i64 0, .int .i64 0, .string ⟨#[]⟩, .string ⟨#[]⟩, .int .i64 0, .string ⟨#[]⟩, .int .i64 0, .int .i64 0, .int .i64 0, .int .i64 0, .slice none 0 0, .slice none 0 0] #[.int .i64 1, .int .i64 0, .int .i64 0, .int .i64 0, .string ⟨#[]⟩, .string ⟨#[]⟩, .int .i64 0, .string ⟨#[]⟩, .int .i64 0, .int .i64 0, .int .i64 0, .int .i64 0, .slice none 0 0, .slice ba xl.length bc]) := d1.out.store 13 _
  have lbn := (Array.getElem?_eq_some_iff.1 f1.out.new).1
  have O9 : Hid ((v1.setCell ⟨w.heap.size + 1, 13, none⟩ (.slice ba xl.length bc)).ownsRow (w.heap.size + 2) 5 1 (.slice ba xl.length bc) xl.length (cellsOf xl)) := owns_set (owns_mono' ob (by omega)) _ _ (by simp)
  clear r1 g1 C1 f1 d1 ob lb lbn
  obtain ⟨wX, eX⟩ : ∃ wX, v1.setCell ⟨w.heap.size + 1, 13, none⟩ (.slice ba xl.length bc) = wX := ⟨_, rfl⟩
  rw [eX] at f9 O9
  have EX : Hid (v1.setCell ⟨w.heap.size + 1, 13, none⟩ (.slice ba xl.length bc) = wX) := eX
  obtain ⟨q1, q2, q3, q4⟩ := f9.out.done
  have G2 : Hid _ := f9.out.new
  have G1 : Hid _ := f9.out.old
  have Q1 : Hid _ := q1
  have Q2 : Hid _ := q2
  have Q3 : Hid _ := q3
  have Q4 : Hid (∀ k, k ≠ w.heap.size → (wX.setRow w.heap.size #[.int .i64 1, .int .i64 0, .int .i64 0, .int .i64 0, .string ⟨#[]⟩, .string ⟨#[]⟩, .int .i64 0, .string ⟨#[]⟩, .int .i64 0, .int .i64 0, .int .i64 0, .int .i64 0, .slice none 0 0, .slice ba xl.length bc]).heap[k]? = wX.heap[k]?) := q4
  clear q1 q2 q3 q4 eX f9
  go_wp2_with (first | (rw [EX.out]; refine wpList_load_row rfl 31 (.tmp 5) rfl (w.heap.size + 1) rfl 31 #[.int .i64 1, .int .i64 0, .int .i64 0, .int .i64 0, .string ⟨#[]⟩, .string ⟨#[]⟩, .int .i64 0, .string ⟨#[]⟩, .int .i64 0, .int .i64 0, .int .i64 0, .int .i64 0, .slice none 0 0, .slice ba xl.length bc] (0, 0) _ G2.out Try.underlying31 rfl (by kernel_rfl) ?_) | (refine wpList_store_row rfl 31 (.tmp 4) (.tmp 32) rfl w.heap.size #[.int .i64 1, .int .i64 0, .int .i64 0, .int .i64 0, .string ⟨#[]⟩, .string ⟨#[]⟩, .int .i64 0, .string ⟨#[]⟩, .int .i64 0, .int .i64 0, .int .i64 0, .int .i64 0, .slice none 0 0, .slice ba xl.length bc] rfl rfl 31 _ G1.out (by kernel_rfl) rfl (by simp [Value.oneCell']) ?_))
  exact bodyPost_ret (results_cell_row rfl _ _ w.heap.size 31 _ (0, 0) _ rfl Q3.out Try.underlying31 rfl (by kernel_rfl)) rfl ⟨none, 0, ba, bc, rfl, ⟨owns_rows_none _ _, owns_mono' (ownsK O9.out fun g hg => Q4.out g (by have := (O9.out.lt _ hg).1; omega)) (by omega)⟩, Q1.out, Q2.out⟩
set_option maxRecDepth 100000 in
set_option maxHeartbeats 4000000 in
theorem read_2 (R : Nat) (l : List (BitVec 8)) (a y : Nat) (w : World) (h : Rdr w R l a y) : Calls Try.prog 44 #[.int .i64 2, .pointer (some ⟨R, 0, none⟩)] w fun e w' => ReadTold w w' R l (readD l 2 a y) e := by
  rw [readD, if_neg (by decide), if_pos rfl]
  generalize hw1 : (w.alloc (.cells #[.int .i64 0, .int .i64 0, .int .i64 0, .int .i64 0, .string ⟨#[]⟩, .string ⟨#[]⟩, .int .i64 0, .string ⟨#[]⟩, .int .i64 0, .int .i64 0, .int .i64 0, .int .i64 0, .slice none 0 0, .slice none 0 0] 31)).alloc (.cells #[.int .i64 2, .int .i64 0, .int .i64 0, .int .i64 0, .string ⟨#[]⟩, .string ⟨#[]⟩, .int .i64 0, .string ⟨#[]⟩, .int .i64 0, .int .i64 0, .int .i64 0, .int .i64 0, .slice none 0 0, .slice none 0 0] 31) = w1
  have f1 : Hid (Fill w w1 R l a y 31 #[.int .i64 0, .int .i64 0, .int .i64 0, .int .i64 0, .string ⟨#[]⟩, .string ⟨#[]⟩, .int .i64 0, .string ⟨#[]⟩, .int .i64 0, .int .i64 0, .int .i64 0, .int .i64 0, .slice none 0 0, .slice none 0 0] #[.int .i64 2, .int .i64 0, .int .i64 0, .int .i64 0, .string ⟨#[]⟩, .string ⟨#[]⟩, .int .i64 0, .string ⟨#[]⟩, .int .i64 0, .int .i64 0, .int .i64 0, .int .i64 0, .slice none 0 0, .slice none 0 0]) := by rw [← hw1]; exact Fill.start h _ _ _
  have HW : Hid (_ = w1) := hw1
  have C1 : Hid (∀ W, Rdr W R l a y → Calls Try.prog 41 #[.pointer (some ⟨R, 0, none⟩)] W fun e w' => e = .returned (.int .i64 (zag (rU l a y).1)) ∧ Rdr w' R l (rU l a y).2.1 (rU l a y).2.2 ∧ W.grownBy w' (some R)) := fun W h => rInt_any R l _ _ W h
  have C2 : Hid (∀ W, Rdr W R l (rU l a y).2.1 (rU l a y).2.2 → Calls Try.prog 66 #[.pointer (some ⟨R, 0, none⟩)] W fun e w' => e = .returned (rOpV l (rU l a y).2.1 (rU l a y).2.2).val ∧ Rdr w' R l (rOp7 l (rU l a y).2.1 (rU l a y).2.2).2.1 (rOp7 l (rU l a y).2.1 (rU l a y).2.2).2.2 ∧ W.grownBy w' (some R)) := fun W h => getOp_any R l _ _ W h
  generalize rOpV l (rU l a y).2.1 (rU l a y).2.2 = OV at *
  generalize rOp7 l (rU l a y).2.1 (rU l a y).2.2 = X2 at *
  generalize rU l a y = X1 at *
  obtain ⟨m1, p1, y1⟩ := X1
  obtain ⟨xl, xp, xy⟩ := X2
  simp only at *
  generalize zag m1 = n1 at *
  obtain ⟨ok, os, od, oa, oy, ol, oh⟩ := OV
  simp only [OpD.val] at *
  clear h hw1
  go_enter Try.func44, Try.ntmps44
  go_wp2_with fail
  rw [HW.out]
  refine (C1.out _ f1.out.rdr).mono ?_
  rintro e v1 ⟨rfl, r1, g1⟩
  have d1 : Hid (Fill w v1 R l p1 y1 31 #[.int .i64 0, .int .i64 0, .int .i64 0, .int .i64 0, .string ⟨#[]⟩, .string ⟨#[]⟩, .int .i64 0, .string ⟨#[]⟩, .int .i64 0, .int .i64 0, .int .i64 0, .int .i64 0, .slice none 0 0, .slice none 0 0] #[.int .i64 2, .int .i64 0, .int .i64 0, .int .i64 0, .string ⟨#[]⟩, .string ⟨#[]⟩, .int .i64 0, .string ⟨#[]⟩, .int .i64 0, .int .i64 0, .int .i64 0, .int .i64 0, .slice none 0 0, .slice none 0 0]) := f1.out.call r1 g1
  have c1 := (d1.out.cell 1).1
  have z1 := (d1.out.cell 1).2
  simp only [List.getElem?_toArray] at c1
  have f2 : Hid (Fill w (v1.setCell ⟨w.heap.size + 1, 1, none⟩ (.int .i64 n1)) R l p1 y1 31 #[.int .i64 0, .int .i64 0, .int .i64 0, .int .i64 0, .string ⟨#[]⟩, .string ⟨#[]⟩, .int .i64 0, .string ⟨#[]⟩, .int .i64 0, .int .i64 0, .int .i64 0, .int .i64 0, .slice none 0 0, .slice none 0 0] #[.int .i64 2, .int .i64 n1, .int .i64 0, .int .i64 0, .string ⟨#[]⟩, .string ⟨#[]⟩, .int .i64 0, .string ⟨#[]⟩, .int .i64 0, .int .i64 0, .int .i64 0, .int .i64 0, .slice none 0 0, .slice none 0 0]) := d1.out.store 1 _
  clear r1 g1 C1 f1 d1
  go_wp2_with fail
  refine (C2.out _ f2.out.rdr).mono ?_
  rintro e v2 ⟨rfl, r2, g2⟩
  have d2 : Hid (Fill w v2 R l xp xy 31 #[.int .i64 0, .int .i64 0, .int .i64 0, .int .i64 0, .string ⟨#[]⟩, .string ⟨#[]⟩, .int .i64 0, .string ⟨#[]⟩, .int .i64 0, .int .i64 0, .int .i64 0, .int .i64 0, .slice none 0 0, .slice none 0 0] #[.int .i64 2, .int .i64 n1, .int .i64 0, .int .i64 0, .string ⟨#[]⟩, .string ⟨#[]⟩, .int .i64 0, .string ⟨#[]⟩, .int .i64 0, .int .i64 0, .int .i64 0, .int .i64 0, .slice none 0 0, .slice none 0 0]) := f2.out.call r2 g2
  have f9 : Hid (Fill w (v2.setCells (w.heap.size + 1) 3 [.int .i64 ok, .string os, .string od, .int .i64 oa, .string oy, .int .i64 ol, .int .i64 oh]) R l xp xy 31 #[.int .i64 0, .int .i64 0, .int .i64 0, .int .i64 0, .string ⟨#[]⟩, .string ⟨#[]⟩, .int .i64 0, .string ⟨#[]⟩, .int .i64 0, .int .i64 0, .int .i64 0, .int .i64 0, .slice none 0 0, .slice none 0 0] #[.int .i64 2, .int .i64 n1, .int .i64 0, .int .i64 ok, .string os, .string od, .int .i64 oa, .string oy, .int .i64 ol, .int .i64 oh, .int .i64 0, .int .i64 0, .slice none 0 0, .slice none 0 0]) := by
    have hf := Fill.stores [.int .i64 ok, .string os, .string od, .int .i64 oa, .string oy, .int .i64 ol, .int .i64 oh] 3 _ _ d2.out
    rw [show setsL #[.int .i64 2, .int .i64 n1, .int .i64 0, .int .i64 0, .string ⟨#[]⟩, .string ⟨#[]⟩, .int .i64 0, .string ⟨#[]⟩, .int .i64 0, .int .i64 0, .int .i64 0, .int .i64 0, .slice none 0 0, .slice none 0 0] 3 [.int .i64 ok, .string os, .string od, .int .i64 oa, .string oy, .int .i64 ol, .int .i64 oh] = #[.int .i64 2, .int .i64 n1, .int .i64 0, .int .i64 ok, .string os, .string od, .int .i64 oa, .string oy, .int .i64 ol, .int .i64 oh, .int .i64 0, .int .i64 0, .slice none 0 0, .slice none 0 0] by kernel_rfl] at hf
    exact hf
  have TT : Hid _ := (d2.out.there 3 7 (by simp))
  clear r2 g2 C2 f2 d2
  obtain ⟨wX, eX⟩ : ∃ wX, v2.setCells (w.heap.size + 1) 3 [.int .i64 ok, .string os, .string od, .int .i64 oa, .string oy, .int .i64 ol, .int .i64 oh] = wX := ⟨_, rfl⟩
  rw [eX] at f9
  have EX : Hid (v2.setCells (w.heap.size + 1) 3 (#[.int .i64 ok, .string os, .string od, .int .i64 oa, .string oy, .int .i64 ol, .int .i64 oh] : Array Value).toList = wX) := eX
  obtain ⟨q1, q2, q3, q4⟩ := f9.out.done
  have G2 : Hid _ := f9.out.new
  have G1 : Hid _ := f9.out.old
  have Q1 : Hid _ := q1
  have Q2 : Hid _ := q2
  have Q3 : Hid _ := q3
  have Q4 : Hid (∀ k, k ≠ w.heap.size → (wX.setRow w.heap.size #[.int .i64 2, .int .i64 n1, .int .i64 0, .int .i64 ok, .string os, .string od, .int .i64 oa, .string oy, .int .i64 ol, .int .i64 oh, .int .i64 0, .int .i64 0, .slice none 0 0, .slice none 0 0]).heap[k]? = wX.heap[k]?) := q4
  clear q1 q2 q3 q4 eX f9
  go_wp2_with (first | (refine wpList_store_mid rfl 23 (.tmp 22) (.tmp 21) rfl (w.heap.size + 1) 3 #[.int .i64 ok, .string os, .string od, .int .i64 oa, .string oy, .int .i64 ol, .int .i64 oh] rfl rfl TT.out (by kernel_rfl) (by simp [Value.oneCell']) ?_; rw [EX.out]) | (refine wpList_load_row rfl 31 (.tmp 5) rfl (w.heap.size + 1) rfl 31 #[.int .i64 2, .int .i64 n1, .int .i64 0, .int .i64 ok, .string os, .string od, .int .i64 oa, .string oy, .int .i64 ol, .int .i64 oh, .int .i64 0, .int .i64 0, .slice none 0 0, .slice none 0 0] (0, 0) _ G2.out Try.underlying31 rfl (by kernel_rfl) ?_) | (refine wpList_store_row rfl 31 (.tmp 4) (.tmp 32) rfl w.heap.size #[.int .i64 2, .int .i64 n1, .int .i64 0, .int .i64 ok, .string os, .string od, .int .i64 oa, .string oy, .int .i64 ol, .int .i64 oh, .int .i64 0, .int .i64 0, .slice none 0 0, .slice none 0 0] rfl rfl 31 _ G1.out (by kernel_rfl) rfl (by simp [Value.oneCell']) ?_))
  exact bodyPost_ret (results_cell_row rfl _ _ w.heap.size 31 _ (0, 0) _ rfl Q3.out Try.underlying31 rfl (by kernel_rfl)) rfl ⟨none, 0, none, 0, rfl, ⟨owns_rows_none _ _, owns_none _ _⟩, Q1.out, Q2.out⟩
set_option maxRecDepth 100000 in
set_option maxHeartbeats 4000000 in
theorem read_3 (R : Nat) (l : List (BitVec 8)) (a y : Nat) (w : World) (h : Rdr w R l a y) : Calls Try.prog 44 #[.int .i64 3, .pointer (some ⟨R, 0, none⟩)] w fun e w' => ReadTold w w' R l (readD l 3 a y) e := by
  rw [readD, if_neg (by decide), if_neg (by decide), if_pos rfl]
  generalize hw1 : (w.alloc (.cells #[.int .i64 0, .int .i64 0, .int .i64 0, .int .i64 0, .string ⟨#[]⟩, .string ⟨#[]⟩, .int .i64 0, .string ⟨#[]⟩, .int .i64 0, .int .i64 0, .int .i64 0, .int .i64 0, .slice none 0 0, .slice none 0 0] 31)).alloc (.cells #[.int .i64 3, .int .i64 0, .int .i64 0, .int .i64 0, .string ⟨#[]⟩, .string ⟨#[]⟩, .int .i64 0, .string ⟨#[]⟩, .int .i64 0, .int .i64 0, .int .i64 0, .int .i64 0, .slice none 0 0, .slice none 0 0] 31) = w1
  have f1 : Hid (Fill w w1 R l a y 31 #[.int .i64 0, .int .i64 0, .int .i64 0, .int .i64 0, .string ⟨#[]⟩, .string ⟨#[]⟩, .int .i64 0, .string ⟨#[]⟩, .int .i64 0, .int .i64 0, .int .i64 0, .int .i64 0, .slice none 0 0, .slice none 0 0] #[.int .i64 3, .int .i64 0, .int .i64 0, .int .i64 0, .string ⟨#[]⟩, .string ⟨#[]⟩, .int .i64 0, .string ⟨#[]⟩, .int .i64 0, .int .i64 0, .int .i64 0, .int .i64 0, .slice none 0 0, .slice none 0 0]) := by rw [← hw1]; exact Fill.start h _ _ _
  have HW : Hid (_ = w1) := hw1
  have C1 : Hid (∀ W, Rdr W R l a y → Calls Try.prog 41 #[.pointer (some ⟨R, 0, none⟩)] W fun e w' => e = .returned (.int .i64 (zag (rU l a y).1)) ∧ Rdr w' R l (rU l a y).2.1 (rU l a y).2.2 ∧ W.grownBy w' (some R)) := fun W h => rInt_any R l _ _ W h
  have C2 : Hid (∀ W, Rdr W R l (rU l a y).2.1 (rU l a y).2.2 → Calls Try.prog 67 #[.pointer (some ⟨R, 0, none⟩)] W fun e w' => ∃ za zn zc, e = .returned (.agg #[.int .i64 (zag (rRe1 l (rU l a y).2.1 (rU l a y).2.2).1), .int .i64 (zag (rRe2 l (rU l a y).2.1 (rU l a y).2.2).1), .slice za zn zc]) ∧ zn ≤ 600 ∧ (rRe4 l (rU l a y).2.1 (rU l a y).2.2).1.length = zn ∧ w'.ownsRow W.heap.size 69 2 (.slice za zn zc) zn (rowCells (rRe4 l (rU l a y).2.1 (rU l a y).2.2).1) ∧ Rdr w' R l (rRe4 l (rU l a y).2.1 (rU l a y).2.2).2.1 (rRe4 l (rU l a y).2.1 (rU l a y).2.2).2.2 ∧ W.grownBy w' (some R)) := fun W h => getReply_own R l _ _ W h
  generalize zag (rRe1 l (rU l a y).2.1 (rU l a y).2.2).1 = ry at *
  generalize zag (rRe2 l (rU l a y).2.1 (rU l a y).2.2).1 = rm at *
  generalize rRe4 l (rU l a y).2.1 (rU l a y).2.2 = X2 at *
  generalize rU l a y = X1 at *
  obtain ⟨m1, p1, y1⟩ := X1
  obtain ⟨xl, xp, xy⟩ := X2
  simp only at *
  generalize zag m1 = n1 at *
  clear h hw1
  go_enter Try.func44, Try.ntmps44
  go_wp2_with fail
  rw [HW.out]
  refine (C1.out _ f1.out.rdr).mono ?_
  rintro e v1 ⟨rfl, r1, g1⟩
  have d1 : Hid (Fill w v1 R l p1 y1 31 #[.int .i64 0, .int .i64 0, .int .i64 0, .int .i64 0, .string ⟨#[]⟩, .string ⟨#[]⟩, .int .i64 0, .string ⟨#[]⟩, .int .i64 0, .int .i64 0, .int .i64 0, .int .i64 0, .slice none 0 0, .slice none 0 0] #[.int .i64 3, .int .i64 0, .int .i64 0, .int .i64 0, .string ⟨#[]⟩, .string ⟨#[]⟩, .int .i64 0, .string ⟨#[]⟩, .int .i64 0, .int .i64 0, .int .i64 0, .int .i64 0, .slice none 0 0, .slice none 0 0]) := f1.out.call r1 g1
  have c1 := (d1.out.cell 1).1
  have z1 := (d1.out.cell 1).2
  simp only [List.getElem?_toArray] at c1
  have f2 : Hid (Fill w (v1.setCell ⟨w.heap.size + 1, 1, none⟩ (.int .i64 n1)) R l p1 y1 31 #[.int .i64 0, .int .i64 0, .int .i64 0, .int .i64 0, .string ⟨#[]⟩, .string ⟨#[]⟩, .int .i64 0, .string ⟨#[]⟩, .int .i64 0, .int .i64 0, .int .i64 0, .int .i64 0, .slice none 0 0, .slice none 0 0] #[.int .i64 3, .int .i64 n1, .int .i64 0, .int .i64 0, .string ⟨#[]⟩, .string ⟨#[]⟩, .int .i64 0, .string ⟨#[]⟩, .int .i64 0, .int .i64 0, .int .i64 0, .int .i64 0, .slice none 0 0, .slice none 0 0]) := d1.out.store 1 _
  clear r1 g1 C1 f1 d1
  go_wp2_with fail
  refine (C2.out _ f2.out.rdr).mono ?_
  rintro e v2 ⟨ra, rn, rc, rfl, hn6, hln, orw, r2, g2⟩
  subst hln
  have d2 : Hid (Fill w v2 R l xp xy 31 #[.int .i64 0, .int .i64 0, .int .i64 0, .int .i64 0, .string ⟨#[]⟩, .string ⟨#[]⟩, .int .i64 0, .string ⟨#[]⟩, .int .i64 0, .int .i64 0, .int .i64 0, .int .i64 0, .slice none 0 0, .slice none 0 0] #[.int .i64 3, .int .i64 n1, .int .i64 0, .int .i64 0, .string ⟨#[]⟩, .string ⟨#[]⟩, .int .i64 0, .string ⟨#[]⟩, .int .i64 0, .int .i64 0, .int .i64 0, .int .i64 0, .slice none 0 0, .slice none 0 0]) := f2.out.call r2 g2
  have lbn := (Array.getElem?_eq_some_iff.1 f2.out.new).1
  have f9 : Hid (Fill w (v2.setCells (w.heap.size + 1) 10 [.int .i64 ry, .int .i64 rm, .slice ra xl.length rc]) R l xp xy 31 #[.int .i64 0, .int .i64 0, .int .i64 0, .int .i64 0, .string ⟨#[]⟩, .string ⟨#[]⟩, .int .i64 0, .string ⟨#[]⟩, .int .i64 0, .int .i64 0, .int .i64 0, .int .i64 0, .slice none 0 0, .slice none 0 0] #[.int .i64 3, .int .i64 n1, .int .i64 0, .int .i64 0, .string ⟨#[]⟩, .string ⟨#[]⟩, .int .i64 0, .string ⟨#[]⟩, .int .i64 0, .int .i64 0, .int .i64 ry, .int .i64 rm, .slice ra xl.length rc, .slice none 0 0]) := Fill.stores _ 10 _ _ d2.out
  have O9 : Hid ((v2.setCells (w.heap.size + 1) 10 [.int .i64 ry, .int .i64 rm, .slice ra xl.length rc]).ownsRow (w.heap.size + 2) 69 2 (.slice ra xl.length rc) xl.length (rowCells xl)) := owns_setCells _ _ _ (owns_mono' orw (by omega)) (by simp)
  have TT : Hid _ := (d2.out.there 10 3 (by simp))
  clear r2 g2 C2 f2 d2 orw lbn hn6
  obtain ⟨wX, eX⟩ : ∃ wX, v2.setCells (w.heap.size + 1) 10 [.int .i64 ry, .int .i64 rm, .slice ra xl.length rc] = wX := ⟨_, rfl⟩
  rw [eX] at f9 O9
  have EX : Hid (v2.setCells (w.heap.size + 1) 10 (#[.int .i64 ry, .int .i64 rm, .slice ra xl.length rc] : Array Value).toList = wX) := eX
  obtain ⟨q1, q2, q3, q4⟩ := f9.out.done
  have G2 : Hid _ := f9.out.new
  have G1 : Hid _ := f9.out.old
  have Q1 : Hid _ := q1
  have Q2 : Hid _ := q2
  have Q3 : Hid _ := q3
  have Q4 : Hid (∀ k, k ≠ w.heap.size → (wX.setRow w.heap.size #[.int .i64 3, .int .i64 n1, .int .i64 0, .int .i64 0, .string ⟨#[]⟩, .string ⟨#[]⟩, .int .i64 0, .string ⟨#[]⟩, .int .i64 0, .int .i64 0, .int .i64 ry, .int .i64 rm, .slice ra xl.length rc, .slice none 0 0]).heap[k]? = wX.heap[k]?) := q4
  clear q1 q2 q3 q4 eX f9
  go_wp2_with (first | (refine wpList_store_mid rfl 27 (.tmp 25) (.tmp 24) rfl (w.heap.size + 1) 10 #[.int .i64 ry, .int .i64 rm, .slice ra xl.length rc] rfl rfl TT.out (by kernel_rfl) (by simp [Value.oneCell']) ?_; rw [EX.out]) | (refine wpList_load_row rfl 31 (.tmp 5) rfl (w.heap.size + 1) rfl 31 #[.int .i64 3, .int .i64 n1, .int .i64 0, .int .i64 0, .string ⟨#[]⟩, .string ⟨#[]⟩, .int .i64 0, .string ⟨#[]⟩, .int .i64 0, .int .i64 0, .int .i64 ry, .int .i64 rm, .slice ra xl.length rc, .slice none 0 0] (0, 0) _ G2.out Try.underlying31 rfl (by kernel_rfl) ?_) | (refine wpList_store_row rfl 31 (.tmp 4) (.tmp 32) rfl w.heap.size #[.int .i64 3, .int .i64 n1, .int .i64 0, .int .i64 0, .string ⟨#[]⟩, .string ⟨#[]⟩, .int .i64 0, .string ⟨#[]⟩, .int .i64 0, .int .i64 0, .int .i64 ry, .int .i64 rm, .slice ra xl.length rc, .slice none 0 0] rfl rfl 31 _ G1.out (by kernel_rfl) rfl (by simp [Value.oneCell']) ?_))
  exact bodyPost_ret (results_cell_row rfl _ _ w.heap.size 31 _ (0, 0) _ rfl Q3.out Try.underlying31 rfl (by kernel_rfl)) rfl ⟨ra, rc, none, 0, rfl, ⟨owns_mono' (ownsK O9.out fun g hg => Q4.out g (by have := (O9.out.lt _ hg).1; omega)) (by omega), owns_none _ _⟩, Q1.out, Q2.out⟩
set_option maxRecDepth 100000 in
set_option maxHeartbeats 4000000 in
theorem read_4 (R : Nat) (l : List (BitVec 8)) (a y : Nat) (w : World) (h : Rdr w R l a y) : Calls Try.prog 44 #[.int .i64 4, .pointer (some ⟨R, 0, none⟩)] w fun e w' => ReadTold w w' R l (readD l 4 a y) e := by
  rw [readD, if_neg (by decide), if_neg (by decide), if_neg (by decide), if_pos rfl]
  generalize hw1 : (w.alloc (.cells #[.int .i64 0, .int .i64 0, .int .i64 0, .int .i64 0, .string ⟨#[]⟩, .string ⟨#[]⟩, .int .i64 0, .string ⟨#[]⟩, .int .i64 0, .int .i64 0, .int .i64 0, .int .i64 0, .slice none 0 0, .slice none 0 0] 31)).alloc (.cells #[.int .i64 4, .int .i64 0, .int .i64 0, .int .i64 0, .string ⟨#[]⟩, .string ⟨#[]⟩, .int .i64 0, .string ⟨#[]⟩, .int .i64 0, .int .i64 0, .int .i64 0, .int .i64 0, .slice none 0 0, .slice none 0 0] 31) = w1
  have f1 : Hid (Fill w w1 R l a y 31 #[.int .i64 0, .int .i64 0, .int .i64 0, .int .i64 0, .string ⟨#[]⟩, .string ⟨#[]⟩, .int .i64 0, .string ⟨#[]⟩, .int .i64 0, .int .i64 0, .int .i64 0, .int .i64 0, .slice none 0 0, .slice none 0 0] #[.int .i64 4, .int .i64 0, .int .i64 0, .int .i64 0, .string ⟨#[]⟩, .string ⟨#[]⟩, .int .i64 0, .string ⟨#[]⟩, .int .i64 0, .int .i64 0, .int .i64 0, .int .i64 0, .slice none 0 0, .slice none 0 0]) := by rw [← hw1]; exact Fill.start h _ _ _
  have HW : Hid (_ = w1) := hw1
  have C1 : Hid (∀ W, Rdr W R l a y → Calls Try.prog 41 #[.pointer (some ⟨R, 0, none⟩)] W fun e w' => e = .returned (.int .i64 (zag (rU l a y).1)) ∧ Rdr w' R l (rU l a y).2.1 (rU l a y).2.2 ∧ W.grownBy w' (some R)) := fun W h => rInt_any R l _ _ W h
  have C2 : Hid (∀ W, Rdr W R l (rU l a y).2.1 (rU l a y).2.2 → Calls Try.prog 68 #[.pointer (some ⟨R, 0, none⟩)] W fun e w' => ∃ v, e = .returned v ∧ w'.ownsRow W.heap.size 5 1 v (rS l (rU l a y).2.1 (rU l a y).2.2).1.length (cellsOf (rS l (rU l a y).2.1 (rU l a y).2.2).1) ∧ (rS l (rU l a y).2.1 (rU l a y).2.2).1.length ≤ 65536 ∧ Rdr w' R l (rS l (rU l a y).2.1 (rU l a y).2.2).2.1 (rS l (rU l a y).2.1 (rU l a y).2.2).2.2 ∧ W.grownBy w' (some R)) := fun W h => rBytes_any R l _ _ W h
  generalize rS l (rU l a y).2.1 (rU l a y).2.2 = X2 at *
  generalize rU l a y = X1 at *
  obtain ⟨m1, p1, y1⟩ := X1
  obtain ⟨xl, xp, xy⟩ := X2
  simp only at *
  generalize zag m1 = n1 at *
  clear h hw1
  go_enter Try.func44, Try.ntmps44
  go_wp2_with fail
  rw [HW.out]
  refine (C1.out _ f1.out.rdr).mono ?_
  rintro e v1 ⟨rfl, r1, g1⟩
  have d1 : Hid (Fill w v1 R l p1 y1 31 #[.int .i64 0, .int .i64 0, .int .i64 0, .int .i64 0, .string ⟨#[]⟩, .string ⟨#[]⟩, .int .i64 0, .string ⟨#[]⟩, .int .i64 0, .int .i64 0, .int .i64 0, .int .i64 0, .slice none 0 0, .slice none 0 0] #[.int .i64 4, .int .i64 0, .int .i64 0, .int .i64 0, .string ⟨#[]⟩, .string ⟨#[]⟩, .int .i64 0, .string ⟨#[]⟩, .int .i64 0, .int .i64 0, .int .i64 0, .int .i64 0, .slice none 0 0, .slice none 0 0]) := f1.out.call r1 g1
  have c1 := (d1.out.cell 1).1
  have z1 := (d1.out.cell 1).2
  simp only [List.getElem?_toArray] at c1
  have f2 : Hid (Fill w (v1.setCell ⟨w.heap.size + 1, 1, none⟩ (.int .i64 n1)) R l p1 y1 31 #[.int .i64 0, .int .i64 0, .int .i64 0, .int .i64 0, .string ⟨#[]⟩, .string ⟨#[]⟩, .int .i64 0, .string ⟨#[]⟩, .int .i64 0, .int .i64 0, .int .i64 0, .int .i64 0, .slice none 0 0, .slice none 0 0] #[.int .i64 4, .int .i64 n1, .int .i64 0, .int .i64 0, .string ⟨#[]⟩, .string ⟨#[]⟩, .int .i64 0, .string ⟨#[]⟩, .int .i64 0, .int .i64 0, .int .i64 0, .int .i64 0, .slice none 0 0, .slice none 0 0]) := d1.out.store 1 _
  clear r1 g1 C1 f1 d1
  go_wp2_with fail
  refine (C2.out _ f2.out.rdr).mono ?_
  rintro e v2 ⟨vb, rfl, ob, lb, r2, g2⟩
  obtain ⟨ba, bc, rfl, _, _⟩ := row_form' ob
  have d2 : Hid (Fill w v2 R l xp xy 31 #[.int .i64 0, .int .i64 0, .int .i64 0, .int .i64 0, .string ⟨#[]⟩, .string ⟨#[]⟩, .int .i64 0, .string ⟨#[]⟩, .int .i64 0, .int .i64 0, .int .i64 0, .int .i64 0, .slice none 0 0, .slice none 0 0] #[.int .i64 4, .int .i64 n1, .int .i64 0, .int .i64 0, .string ⟨#[]⟩, .string ⟨#[]⟩, .int .i64 0, .string ⟨#[]⟩, .int .i64 0, .int .i64 0, .int .i64 0, .int .i64 0, .slice none 0 0, .slice none 0 0]) := f2.out.call r2 g2
  have c2 := (d2.out.cell 13).1
  have z2 := (d2.out.cell 13).2
  simp only [List.getElem?_toArray] at c2
  have f9 : Hid (Fill w (v2.setCell ⟨w.heap.size + 1, 13, none⟩ (.slice ba xl.length bc)) R l xp xy 31 #[.int .i64 0, .int .i64 0, .int .i64 0, .int .i64 0, .string ⟨#[]⟩, .string ⟨#[]⟩, .int .i64 0, .string ⟨#[]⟩, .int .i64 0, .int .i64 0, .int .i64 0, .int .i64 0, .slice none 0 0, .slice none 0 0] #[.int .i64 4, .int .i64 n1, .int .i64 0, .int .i64 0, .string ⟨#[]⟩, .string ⟨#[]⟩, .int .i64 0, .string ⟨#[]⟩, .int .i64 0, .int .i64 0, .int .i64 0, .int .i64 0, .slice none 0 0, .slice ba xl.length bc]) := d2.out.store 13 _
  have lbn := (Array.getElem?_eq_some_iff.1 f2.out.new).1
  have O9 : Hid ((v2.setCell ⟨w.heap.size + 1, 13, none⟩ (.slice ba xl.length bc)).ownsRow (w.heap.size + 2) 5 1 (.slice ba xl.length bc) xl.length (cellsOf xl)) := owns_set (owns_mono' ob (by omega)) _ _ (by simp)
  clear r2 g2 C2 f2 d2 ob lb lbn
  obtain ⟨wX, eX⟩ : ∃ wX, v2.setCell ⟨w.heap.size + 1, 13, none⟩ (.slice ba xl.length bc) = wX := ⟨_, rfl⟩
  rw [eX] at f9 O9
  have EX : Hid (v2.setCell ⟨w.heap.size + 1, 13, none⟩ (.slice ba xl.length bc) = wX) := eX
  obtain ⟨q1, q2, q3, q4⟩ := f9.out.done
  have G2 : Hid _ := f9.out.new
  have G1 : Hid _ := f9.out.old
  have Q1 : Hid _ := q1
  have Q2 : Hid _ := q2
  have Q3 : Hid _ := q3
  have Q4 : Hid (∀ k, k ≠ w.heap.size → (wX.setRow w.heap.size #[.int .i64 4, .int .i64 n1, .int .i64 0, .int .i64 0, .string ⟨#[]⟩, .string ⟨#[]⟩, .int .i64 0, .string ⟨#[]⟩, .int .i64 0, .int .i64 0, .int .i64 0, .int .i64 0, .slice none 0 0, .slice ba xl.length bc]).heap[k]? = wX.heap[k]?) := q4
  clear q1 q2 q3 q4 eX f9
  go_wp2_with (first | (rw [EX.out]; refine wpList_load_row rfl 31 (.tmp 5) rfl (w.heap.size + 1) rfl 31 #[.int .i64 4, .int .i64 n1, .int .i64 0, .int .i64 0, .string ⟨#[]⟩, .string ⟨#[]⟩, .int .i64 0, .string ⟨#[]⟩, .int .i64 0, .int .i64 0, .int .i64 0, .int .i64 0, .slice none 0 0, .slice ba xl.length bc] (0, 0) _ G2.out Try.underlying31 rfl (by kernel_rfl) ?_) | (refine wpList_store_row rfl 31 (.tmp 4) (.tmp 32) rfl w.heap.size #[.int .i64 4, .int .i64 n1, .int .i64 0, .int .i64 0, .string ⟨#[]⟩, .string ⟨#[]⟩, .int .i64 0, .string ⟨#[]⟩, .int .i64 0, .int .i64 0, .int .i64 0, .int .i64 0, .slice none 0 0, .slice ba xl.length bc] rfl rfl 31 _ G1.out (by kernel_rfl) rfl (by simp [Value.oneCell']) ?_))
  exact bodyPost_ret (results_cell_row rfl _ _ w.heap.size 31 _ (0, 0) _ rfl Q3.out Try.underlying31 rfl (by kernel_rfl)) rfl ⟨none, 0, ba, bc, rfl, ⟨owns_rows_none _ _, owns_mono' (ownsK O9.out fun g hg => Q4.out g (by have := (O9.out.lt _ hg).1; omega)) (by omega)⟩, Q1.out, Q2.out⟩
set_option maxRecDepth 100000 in
set_option maxHeartbeats 4000000 in
theorem read_5 (R : Nat) (l : List (BitVec 8)) (a y : Nat) (w : World) (h : Rdr w R l a y) : Calls Try.prog 44 #[.int .i64 5, .pointer (some ⟨R, 0, none⟩)] w fun e w' => ReadTold w w' R l (readD l 5 a y) e := by
  rw [readD, if_neg (by decide), if_neg (by decide), if_neg (by decide), if_neg (by decide)]
  generalize hw1 : (w.alloc (.cells #[.int .i64 0, .int .i64 0, .int .i64 0, .int .i64 0, .string ⟨#[]⟩, .string ⟨#[]⟩, .int .i64 0, .string ⟨#[]⟩, .int .i64 0, .int .i64 0, .int .i64 0, .int .i64 0, .slice none 0 0, .slice none 0 0] 31)).alloc (.cells #[.int .i64 5, .int .i64 0, .int .i64 0, .int .i64 0, .string ⟨#[]⟩, .string ⟨#[]⟩, .int .i64 0, .string ⟨#[]⟩, .int .i64 0, .int .i64 0, .int .i64 0, .int .i64 0, .slice none 0 0, .slice none 0 0] 31) = w1
  have f1 : Hid (Fill w w1 R l a y 31 #[.int .i64 0, .int .i64 0, .int .i64 0, .int .i64 0, .string ⟨#[]⟩, .string ⟨#[]⟩, .int .i64 0, .string ⟨#[]⟩, .int .i64 0, .int .i64 0, .int .i64 0, .int .i64 0, .slice none 0 0, .slice none 0 0] #[.int .i64 5, .int .i64 0, .int .i64 0, .int .i64 0, .string ⟨#[]⟩, .string ⟨#[]⟩, .int .i64 0, .string ⟨#[]⟩, .int .i64 0, .int .i64 0, .int .i64 0, .int .i64 0, .slice none 0 0, .slice none 0 0]) := by rw [← hw1]; exact Fill.start h _ _ _
  have HW : Hid (_ = w1) := hw1
  have C1 : Hid (∀ W, Rdr W R l a y → Calls Try.prog 41 #[.pointer (some ⟨R, 0, none⟩)] W fun e w' => e = .returned (.int .i64 (zag (rU l a y).1)) ∧ Rdr w' R l (rU l a y).2.1 (rU l a y).2.2 ∧ W.grownBy w' (some R)) := fun W h => rInt_any R l _ _ W h
  have C2 : Hid (∀ W, Rdr W R l (rU l a y).2.1 (rU l a y).2.2 → Calls Try.prog 41 #[.pointer (some ⟨R, 0, none⟩)] W fun e w' => e = .returned (.int .i64 (zag (rU l (rU l a y).2.1 (rU l a y).2.2).1)) ∧ Rdr w' R l (rU l (rU l a y).2.1 (rU l a y).2.2).2.1 (rU l (rU l a y).2.1 (rU l a y).2.2).2.2 ∧ W.grownBy w' (some R)) := fun W h => rInt_any R l _ _ W h
  have C3 : Hid (∀ W, Rdr W R l (rU l (rU l a y).2.1 (rU l a y).2.2).2.1 (rU l (rU l a y).2.1 (rU l a y).2.2).2.2 → Calls Try.prog 68 #[.pointer (some ⟨R, 0, none⟩)] W fun e w' => ∃ v, e = .returned v ∧ w'.ownsRow W.heap.size 5 1 v (rS l (rU l (rU l a y).2.1 (rU l a y).2.2).2.1 (rU l (rU l a y).2.1 (rU l a y).2.2).2.2).1.length (cellsOf (rS l (rU l (rU l a y).2.1 (rU l a y).2.2).2.1 (rU l (rU l a y).2.1 (rU l a y).2.2).2.2).1) ∧ (rS l (rU l (rU l a y).2.1 (rU l a y).2.2).2.1 (rU l (rU l a y).2.1 (rU l a y).2.2).2.2).1.length ≤ 65536 ∧ Rdr w' R l (rS l (rU l (rU l a y).2.1 (rU l a y).2.2).2.1 (rU l (rU l a y).2.1 (rU l a y).2.2).2.2).2.1 (rS l (rU l (rU l a y).2.1 (rU l a y).2.2).2.1 (rU l (rU l a y).2.1 (rU l a y).2.2).2.2).2.2 ∧ W.grownBy w' (some R)) := fun W h => rBytes_any R l _ _ W h
  generalize rS l (rU l (rU l a y).2.1 (rU l a y).2.2).2.1 (rU l (rU l a y).2.1 (rU l a y).2.2).2.2 = X3 at *
  generalize rU l (rU l a y).2.1 (rU l a y).2.2 = X2 at *
  generalize rU l a y = X1 at *
  obtain ⟨m1, p1, y1⟩ := X1
  obtain ⟨m2, p2, y2⟩ := X2
  obtain ⟨xl, xp, xy⟩ := X3
  simp only at *
  generalize zag m1 = n1 at *
  generalize zag m2 = g1 at *
  clear h hw1
  go_enter Try.func44, Try.ntmps44
  go_wp2_with fail
  rw [HW.out]
  refine (C1.out _ f1.out.rdr).mono ?_
  rintro e v1 ⟨rfl, r1, g1⟩
  have d1 : Hid (Fill w v1 R l p1 y1 31 #[.int .i64 0, .int .i64 0, .int .i64 0, .int .i64 0, .string ⟨#[]⟩, .string ⟨#[]⟩, .int .i64 0, .string ⟨#[]⟩, .int .i64 0, .int .i64 0, .int .i64 0, .int .i64 0, .slice none 0 0, .slice none 0 0] #[.int .i64 5, .int .i64 0, .int .i64 0, .int .i64 0, .string ⟨#[]⟩, .string ⟨#[]⟩, .int .i64 0, .string ⟨#[]⟩, .int .i64 0, .int .i64 0, .int .i64 0, .int .i64 0, .slice none 0 0, .slice none 0 0]) := f1.out.call r1 g1
  have c1 := (d1.out.cell 1).1
  have z1 := (d1.out.cell 1).2
  simp only [List.getElem?_toArray] at c1
  have f2 : Hid (Fill w (v1.setCell ⟨w.heap.size + 1, 1, none⟩ (.int .i64 n1)) R l p1 y1 31 #[.int .i64 0, .int .i64 0, .int .i64 0, .int .i64 0, .string ⟨#[]⟩, .string ⟨#[]⟩, .int .i64 0, .string ⟨#[]⟩, .int .i64 0, .int .i64 0, .int .i64 0, .int .i64 0, .slice none 0 0, .slice none 0 0] #[.int .i64 5, .int .i64 n1, .int .i64 0, .int .i64 0, .string ⟨#[]⟩, .string ⟨#[]⟩, .int .i64 0, .string ⟨#[]⟩, .int .i64 0, .int .i64 0, .int .i64 0, .int .i64 0, .slice none 0 0, .slice none 0 0]) := d1.out.store 1 _
  clear r1 g1 C1 f1 d1
  go_wp2_with fail
  refine (C2.out _ f2.out.rdr).mono ?_
  rintro e v2 ⟨rfl, r2, g2⟩
  have d2 : Hid (Fill w v2 R l p2 y2 31 #[.int .i64 0, .int .i64 0, .int .i64 0, .int .i64 0, .string ⟨#[]⟩, .string ⟨#[]⟩, .int .i64 0, .string ⟨#[]⟩, .int .i64 0, .int .i64 0, .int .i64 0, .int .i64 0, .slice none 0 0, .slice none 0 0] #[.int .i64 5, .int .i64 n1, .int .i64 0, .int .i64 0, .string ⟨#[]⟩, .string ⟨#[]⟩, .int .i64 0, .string ⟨#[]⟩, .int .i64 0, .int .i64 0, .int .i64 0, .int .i64 0, .slice none 0 0, .slice none 0 0]) := f2.out.call r2 g2
  have c2 := (d2.out.cell 2).1
  have z2 := (d2.out.cell 2).2
  simp only [List.getElem?_toArray] at c2
  have f3 : Hid (Fill w (v2.setCell ⟨w.heap.size + 1, 2, none⟩ (.int .i64 g1)) R l p2 y2 31 #[.int .i64 0, .int .i64 0, .int .i64 0, .int .i64 0, .string ⟨#[]⟩, .string ⟨#[]⟩, .int .i64 0, .string ⟨#[]⟩, .int .i64 0, .int .i64 0, .int .i64 0, .int .i64 0, .slice none 0 0, .slice none 0 0] #[.int .i64 5, .int .i64 n1, .int .i64 g1, .int .i64 0, .string ⟨#[]⟩, .string ⟨#[]⟩, .int .i64 0, .string ⟨#[]⟩, .int .i64 0, .int .i64 0, .int .i64 0, .int .i64 0, .slice none 0 0, .slice none 0 0]) := d2.out.store 2 _
  clear r2 g2 C2 f2 d2
  go_wp2_with fail
  refine (C3.out _ f3.out.rdr).mono ?_
  rintro e v3 ⟨vb, rfl, ob, lb, r3, g3⟩
  obtain ⟨ba, bc, rfl, _, _⟩ := row_form' ob
  have d3 : Hid (Fill w v3 R l xp xy 31 #[.int .i64 0, .int .i64 0, .int .i64 0, .int .i64 0, .string ⟨#[]⟩, .string ⟨#[]⟩, .int .i64 0, .string ⟨#[]⟩, .int .i64 0, .int .i64 0, .int .i64 0, .int .i64 0, .slice none 0 0, .slice none 0 0] #[.int .i64 5, .int .i64 n1, .int .i64 g1, .int .i64 0, .string ⟨#[]⟩, .string ⟨#[]⟩, .int .i64 0, .string ⟨#[]⟩, .int .i64 0, .int .i64 0, .int .i64 0, .int .i64 0, .slice none 0 0, .slice none 0 0]) := f3.out.call r3 g3
  have c3 := (d3.out.cell 13).1
  have z3 := (d3.out.cell 13).2
  simp only [List.getElem?_toArray] at c3
  have f9 : Hid (Fill w (v3.setCell ⟨w.heap.size + 1, 13, none⟩ (.slice ba xl.length bc)) R l xp xy 31 #[.int .i64 0, .int .i64 0, .int .i64 0, .int .i64 0, .string ⟨#[]⟩, .string ⟨#[]⟩, .int .i64 0, .string ⟨#[]⟩, .int .i64 0, .int .i64 0, .int .i64 0, .int .i64 0, .slice none 0 0, .slice none 0 0] #[.int .i64 5, .int .i64 n1, .int .i64 g1, .int .i64 0, .string ⟨#[]⟩, .string ⟨#[]⟩, .int .i64 0, .string ⟨#[]⟩, .int .i64 0, .int .i64 0, .int .i64 0, .int .i64 0, .slice none 0 0, .slice ba xl.length bc]) := d3.out.store 13 _
  have lbn := (Array.getElem?_eq_some_iff.1 f3.out.new).1
  have O9 : Hid ((v3.setCell ⟨w.heap.size + 1, 13, none⟩ (.slice ba xl.length bc)).ownsRow (w.heap.size + 2) 5 1 (.slice ba xl.length bc) xl.length (cellsOf xl)) := owns_set (owns_mono' ob (by omega)) _ _ (by simp)
  clear r3 g3 C3 f3 d3 ob lb lbn
  obtain ⟨wX, eX⟩ : ∃ wX, v3.setCell ⟨w.heap.size + 1, 13, none⟩ (.slice ba xl.length bc) = wX := ⟨_, rfl⟩
  rw [eX] at f9 O9
  have EX : Hid (v3.setCell ⟨w.heap.size + 1, 13, none⟩ (.slice ba xl.length bc) = wX) := eX
  obtain ⟨q1, q2, q3, q4⟩ := f9.out.done
  have G2 : Hid _ := f9.out.new
  have G1 : Hid _ := f9.out.old
  have Q1 : Hid _ := q1
  have Q2 : Hid _ := q2
  have Q3 : Hid _ := q3
  have Q4 : Hid (∀ k, k ≠ w.heap.size → (wX.setRow w.heap.size #[.int .i64 5, .int .i64 n1, .int .i64 g1, .int .i64 0, .string ⟨#[]⟩, .string ⟨#[]⟩, .int .i64 0, .string ⟨#[]⟩, .int .i64 0, .int .i64 0, .int .i64 0, .int .i64 0, .slice none 0 0, .slice ba xl.length bc]).heap[k]? = wX.heap[k]?) := q4
  clear q1 q2 q3 q4 eX f9
  go_wp2_with (first | (rw [EX.out]; refine wpList_load_row rfl 31 (.tmp 5) rfl (w.heap.size + 1) rfl 31 #[.int .i64 5, .int .i64 n1, .int .i64 g1, .int .i64 0, .string ⟨#[]⟩, .string ⟨#[]⟩, .int .i64 0, .string ⟨#[]⟩, .int .i64 0, .int .i64 0, .int .i64 0, .int .i64 0, .slice none 0 0, .slice ba xl.length bc] (0, 0) _ G2.out Try.underlying31 rfl (by kernel_rfl) ?_) | (refine wpList_store_row rfl 31 (.tmp 4) (.tmp 32) rfl w.heap.size #[.int .i64 5, .int .i64 n1, .int .i64 g1, .int .i64 0, .string ⟨#[]⟩, .string ⟨#[]⟩, .int .i64 0, .string ⟨#[]⟩, .int .i64 0, .int .i64 0, .int .i64 0, .int .i64 0, .slice none 0 0, .slice ba xl.length bc] rfl rfl 31 _ G1.out (by kernel_rfl) rfl (by simp [Value.oneCell']) ?_))
  exact bodyPost_ret (results_cell_row rfl _ _ w.heap.size 31 _ (0, 0) _ rfl Q3.out Try.underlying31 rfl (by kernel_rfl)) rfl ⟨none, 0, ba, bc, rfl, ⟨owns_rows_none _ _, owns_mono' (ownsK O9.out fun g hg => Q4.out g (by have := (O9.out.lt _ hg).1; omega)) (by omega)⟩, Q1.out, Q2.out⟩
theorem read_any (R : Nat) (l : List (BitVec 8)) {k : Int} (h1 : 1 ≤ k) (h5 : k ≤ 5) (a y : Nat) (w : World) (h : Rdr w R l a y) : Calls Try.prog 44 #[.int .i64 k, .pointer (some ⟨R, 0, none⟩)] w fun e w' => ReadTold w w' R l (readD l k a y) e := by
  rcases kinds h1 h5 with rfl | rfl | rfl | rfl | rfl
  · exact read_1 R l a y w h
  · exact read_2 R l a y w h
  · exact read_3 R l a y w h
  · exact read_4 R l a y w h
  · exact read_5 R l a y w h
end Go.Proofs.Ytmcippolnekogaa

namespace Go.Proofs.Ytmcippolnekogaa
open Go.RowKit Cod
attribute [local go_sem] Oper.semAt_some
set_option linter.unusedVariables false

theorem rU_pos {l : List (BitVec 8)} (h : (rU l 0 0).2.2 = 0) : 0 < (rU l 0 0).2.1 := by
  unfold rU at h ⊢
  rw [if_pos rfl] at h ⊢
  obtain ⟨m, _, e2, _, _⟩ := num_fore (l.drop 0) 0 0 h (by omega)
  simp only [e2]
  have := enc_pos m
  omega
theorem results_ctK {P : Program} {fn : Func} {p u : Tmp} {ty : TypeId} (h : fn.results = #[.cell p ty, .tmp u]) (tmps : Array Value) (w : World) (g : Nat) (t : TypeId) (cs : Array Value) (fr : Nat × Nat) (d : TypeDesc)
    (hp : tmps.getD p undef = .pointer (some ⟨g, 0, none⟩)) (hg : w.heap[g]? = some (.cells cs t fr))
    (hu : P.underlying ty = some d) (hd : (match d with | .struct _ | .array _ _ => true | _ => false) = true) (hi : (P.info? ty).map (·.size) = some cs.size) :
    (results fn tmps).run P w = .ok (.tuple #[.agg cs, tmps.getD u undef]) w := by
  rw [results_cell_tmp h, hp]
  simp [asAddr, run_loadVar_row w g t ty cs fr d hg hu hd hi]
/-- What Unpack tells. -/
def UnpTold (w w' : World) (l : List (BitVec 8)) (e : Ending) : Prop :=
  ∃ ra rc ba bc, e = .returned (.tuple #[.agg ((unpackD l).1.v ra rc ba bc).cells, .int .i64 ((unpackD l).2 : Nat)]) ∧ LetOwn w' w.heap.size (unpackD l).1 ra rc ba bc ∧ Below w.heap.size w w'
theorem unp_zero {w w' : World} {l : List (BitVec 8)} {y : Nat} {v : Value} (h : unpackD l = (LetD.zero, y)) (b : Below w.heap.size w w') (hv : v = .int .i64 (y : Int)) : UnpTold w w' l (.returned (.tuple #[.agg #[.int .i64 0, .int .i64 0, .int .i64 0, .int .i64 0, .string ⟨#[]⟩, .string ⟨#[]⟩, .int .i64 0, .string ⟨#[]⟩, .int .i64 0, .int .i64 0, .int .i64 0, .int .i64 0, .slice none 0 0, .slice none 0 0], v])) :=
  ⟨none, 0, none, 0, by rw [h, hv]; rfl, by rw [h]; exact ⟨owns_rows_none _ _, owns_none _ _⟩, b⟩
/-- A world in which the zero letter stands to be answered. -/
structure Zer (w w' : World) : Prop where
  bel : Below w.heap.size w w'
  z : w'.heap[w.heap.size]? = some (.cells #[.int .i64 0, .int .i64 0, .int .i64 0, .int .i64 0, .string ⟨#[]⟩, .string ⟨#[]⟩, .int .i64 0, .string ⟨#[]⟩, .int .i64 0, .int .i64 0, .int .i64 0, .int .i64 0, .slice none 0 0, .slice none 0 0] 31 (0, 0))
theorem Zer.row {w w' : World} (h : Zer w w') : Zer w (w'.setRow w.heap.size #[.int .i64 0, .int .i64 0, .int .i64 0, .int .i64 0, .string ⟨#[]⟩, .string ⟨#[]⟩, .int .i64 0, .string ⟨#[]⟩, .int .i64 0, .int .i64 0, .int .i64 0, .int .i64 0, .slice none 0 0, .slice none 0 0]) :=
  ⟨⟨h.bel.os, h.bel.tape, h.bel.output, by simpa using h.bel.size, fun k hk => (setRow_other _ _ _ _ (by omega)).trans (h.bel.block k hk)⟩, setRow_heap _ _ _ _ _ _ h.z⟩
theorem Zer.grown {w w' w'' : World} {R : Nat} (h : Zer w w') (g : w'.grownBy w'' (some R)) (hR : w.heap.size < R) : Zer w w'' :=
  ⟨h.bel.grown g h.bel.size (fun k e => by cases e; omega), (g.block _ (Array.getElem?_eq_some_iff.1 h.z).1 (by intro e; cases e; omega)).trans h.z⟩
theorem Zer.below {w w' w'' : World} (h : Zer w w') (b : Below w'.heap.size w' w'') : Zer w w'' :=
  ⟨h.bel.trans (b.mono h.bel.size), (b.block _ (Array.getElem?_eq_some_iff.1 h.z).1).trans h.z⟩
set_option maxRecDepth 100000 in
set_option maxHeartbeats 4000000 in
theorem unpack_any (a : Option Addr) (cap : Nat) (l : List (BitVec 8)) (w : World) (h : Seen w a l.length l) (hnil : a = none → cap = 0) (hm : l.length ≤ 140737488355328) :
    Calls Try.prog 15 #[.slice a l.length cap] w fun e w' => UnpTold w w' l e := by
  have z1 : Zer w (w.alloc (.cells #[.int .i64 0, .int .i64 0, .int .i64 0, .int .i64 0, .string ⟨#[]⟩, .string ⟨#[]⟩, .int .i64 0, .string ⟨#[]⟩, .int .i64 0, .int .i64 0, .int .i64 0, .int .i64 0, .slice none 0 0, .slice none 0 0] 31)) := ⟨(Below.refl _ w).alloc (Nat.le_refl _) _, heap_alloc_new w _⟩
  have Z1 : Hid (Zer w _) := z1
  by_cases h0 : 1048576 < l.length
  · have HP : Hid _ := unpack_size h0
    have h0' : (1048576 : Int) < (l.length : Int) := by omega
    clear h hnil hm h0 z1
    go_enter Try.func15, Try.ntmps15
    go_wp2
    exact bodyPost_ret (results_ctK rfl _ _ w.heap.size 31 _ (0, 0) _ rfl Z1.out.z Try.underlying31 rfl (by kernel_rfl)) rfl (unp_zero HP.out Z1.out.bel rfl)
  have h0' : ¬ (1048576 : Int) < (l.length : Int) := by omega
  have C46 := newReader_any a l.length cap l (w.alloc (.cells #[.int .i64 0, .int .i64 0, .int .i64 0, .int .i64 0, .string ⟨#[]⟩, .string ⟨#[]⟩, .int .i64 0, .string ⟨#[]⟩, .int .i64 0, .int .i64 0, .int .i64 0, .int .i64 0, .slice none 0 0, .slice none 0 0] 31)) (h.below z1.bel) hnil hm
  have RP : Hid (unpackD l = if (rU l 0 0).2.2 ≠ 0 then (LetD.zero, (rU l 0 0).2.2) else if zag (rU l 0 0).1 < 1 ∨ 5 < zag (rU l 0 0).1 then (LetD.zero, 1) else if rEnd l (readD l (zag (rU l 0 0).1) (rU l 0 0).2.1 0).2.1 (readD l (zag (rU l 0 0).1) (rU l 0 0).2.1 0).2.2 ≠ 0 then (LetD.zero, rEnd l (readD l (zag (rU l 0 0).1) (rU l 0 0).2.1 0).2.1 (readD l (zag (rU l 0 0).1) (rU l 0 0).2.1 0).2.2) else ((readD l (zag (rU l 0 0).1) (rU l 0 0).2.1 0).1, 0)) := by show _ = _; rw [unpackD, if_neg h0]
  have EV : Hid ((rU l 0 0).2.2 ≠ 0 → (rU l 0 0).2.1 = 0) := fun e => (rU_zero e).2
  have EP : Hid ((rU l 0 0).2.2 = 0 → 0 < (rU l 0 0).2.1) := rU_pos
  have LE : Hid ((rU l 0 0).2.1 ≤ l.length) := (rU_goes l 0 0 (Nat.zero_le _)).2.1
  have CI : Hid (∀ (R : Nat) (W : World), Rdr W R l 0 0 → Calls Try.prog 41 #[.pointer (some ⟨R, 0, none⟩)] W fun e w' => e = .returned (.int .i64 (zag (rU l 0 0).1)) ∧ Rdr w' R l (rU l 0 0).2.1 (rU l 0 0).2.2 ∧ W.grownBy w' (some R)) := fun R W h => rInt_any R l 0 0 W h
  have GX : Hid (∀ k : Int, 1 ≤ k → k ≤ 5 → (readD l k (rU l 0 0).2.1 0).2.1 ≤ l.length) := fun k h1 h5 => (read_fore l h1 h5 _ 0 LE.out).2.2.2.1
  generalize rU l 0 0 = X at *
  obtain ⟨m, p, y⟩ := X
  simp only at RP EV EP LE CI GX
  generalize zag m = k at *
  have HB : Hid (unpackD l = unpackD l) := rfl
  clear h hnil hm h0 z1
  go_enter Try.func15, Try.ntmps15
  go_wp2_with fail
  refine C46.mono ?_
  rintro e w2 ⟨R, rfl, hR, r2, b2⟩
  have HR : Hid (w.heap.size < R) := by show _ < _; simp at hR; omega
  have Z2 : Hid (Zer w w2) := Z1.out.below b2
  have CI' := CI.out R w2 r2
  clear C46 r2 b2 hR CI Z1
  go_wp2_with fail
  refine CI'.mono ?_
  rintro e w3 ⟨rfl, r3, g3⟩
  have Z3 : Hid (Zer w w3) := Z2.out.grown g3 HR.out
  have R3 : Hid (Rdr w3 R l p y) := r3
  have CA := rAt_any R l p y w3 r3
  have CE := rEnd_any R l p y w3 r3
  clear CI' r3 g3 Z2
  go_wp2_with fail
  refine CA.mono ?_
  rintro e w4 ⟨rfl, hw4⟩
  subst w4
  clear CA
  by_cases hy : y = 0
  case neg =>
    obtain rfl := EV.out hy
    have HP : Hid (unpackD l = (LetD.zero, y)) := by show _ = _; rw [RP.out, if_pos hy]
    have hE : rEnd l 0 y = y := by simp [rEnd, hy]
    rw [hE] at CE
    have ZR : Hid (∀ q : Nat, Zer w (w3.drewN q)) := fun q => ⟨below_drewN' Z3.out.bel q, Z3.out.z⟩
    clear hy hE RP EV EP LE GX R3
    go_wp2_with fail
    refine CE.mono ?_
    rintro e w5 ⟨rfl, q, rfl⟩
    have Z5 : Hid (Zer w (w3.drewN q)) := ZR.out q
    have ZS : Hid _ := Z5.out.z
    clear CE ZR Z3
    go_wp2_with (refine wpList_store_row rfl 31 (.tmp 2) (.tmp 19) rfl w.heap.size #[.int .i64 0, .int .i64 0, .int .i64 0, .int .i64 0, .string ⟨#[]⟩, .string ⟨#[]⟩, .int .i64 0, .string ⟨#[]⟩, .int .i64 0, .int .i64 0, .int .i64 0, .int .i64 0, .slice none 0 0, .slice none 0 0] rfl rfl 31 _ ZS.out (by kernel_rfl) rfl (by simp [Value.oneCell']) ?_)
    exact bodyPost_ret (results_ctK rfl _ _ w.heap.size 31 _ (0, 0) _ rfl Z5.out.row.z Try.underlying31 rfl (by kernel_rfl)) rfl (unp_zero HP.out Z5.out.row.bel rfl)
  subst hy
  have hp := EP.out rfl
  have hp' : ((p : Int) == 0) = false := by simp; omega
  have hpn : ¬ ((p : Int) = 0) := by omega
  clear CE
  by_cases hk : k < 1 ∨ 5 < k
  · have HP : Hid (unpackD l = (LetD.zero, 1)) := by show _ = _; rw [RP.out, if_neg (by simp), if_pos hk]
    have ZS : Hid _ := Z3.out.z
    have BP : Hid _ := Z3.out.row.bel
    rcases hk with hk | hk
    · clear RP EV EP LE GX R3
      go_wp2_with (refine wpList_store_row rfl 31 (.tmp 2) (.tmp 28) rfl w.heap.size #[.int .i64 0, .int .i64 0, .int .i64 0, .int .i64 0, .string ⟨#[]⟩, .string ⟨#[]⟩, .int .i64 0, .string ⟨#[]⟩, .int .i64 0, .int .i64 0, .int .i64 0, .int .i64 0, .slice none 0 0, .slice none 0 0] rfl rfl 31 _ ZS.out (by kernel_rfl) rfl (by simp [Value.oneCell']) ?_)
      exact bodyPost_ret (results_ctK rfl _ _ w.heap.size 31 _ (0, 0) _ rfl Z3.out.row.z Try.underlying31 rfl (by kernel_rfl)) rfl (unp_zero HP.out BP.out rfl)
    · have hk' : ¬ k < 1 := by omega
      clear RP EV EP LE GX R3
      go_wp2_with (refine wpList_store_row rfl 31 (.tmp 2) (.tmp 28) rfl w.heap.size #[.int .i64 0, .int .i64 0, .int .i64 0, .int .i64 0, .string ⟨#[]⟩, .string ⟨#[]⟩, .int .i64 0, .string ⟨#[]⟩, .int .i64 0, .int .i64 0, .int .i64 0, .int .i64 0, .slice none 0 0, .slice none 0 0] rfl rfl 31 _ ZS.out (by kernel_rfl) rfl (by simp [Value.oneCell']) ?_)
      exact bodyPost_ret (results_ctK rfl _ _ w.heap.size 31 _ (0, 0) _ rfl Z3.out.row.z Try.underlying31 rfl (by kernel_rfl)) rfl (unp_zero HP.out BP.out rfl)
  have k1 : 1 ≤ k := by omega
  have k5 : k ≤ 5 := by omega
  have n1 : ¬ k < 1 := by omega
  have n5 : ¬ 5 < k := by omega
  have CR := read_any R l k1 k5 p 0 w3 R3.out
  have RP2 : Hid (unpackD l = if rEnd l (readD l k p 0).2.1 (readD l k p 0).2.2 ≠ 0 then (LetD.zero, rEnd l (readD l k p 0).2.1 (readD l k p 0).2.2) else ((readD l k p 0).1, 0)) := by show _ = _; rw [RP.out, if_neg (by simp), if_neg hk]
  clear RP EV EP GX LE hk k1 k5 R3
  generalize readD l k p 0 = X at *
  obtain ⟨d, px, yx⟩ := X
  simp only at RP2
  go_wp2_with fail
  refine CR.mono ?_
  rintro e w5 ⟨ra, rc, ba, bc, rfl, o5, r5, g5⟩
  simp only at o5 r5
  obtain ⟨C, eC, lC, _, aC⟩ := v_cells (d.v ra rc ba bc)
  rw [eC]
  have AC : Hid _ := aC
  have EC : Hid (_ = C.toArray) := eC
  have z5 := Z3.out.grown g5 HR.out
  have l5 := (Array.getElem?_eq_some_iff.1 z5.z).1
  have xz : (w5.alloc (.cells #[.int .i64 0, .int .i64 0, .int .i64 0, .int .i64 0, .string ⟨#[]⟩, .string ⟨#[]⟩, .int .i64 0, .string ⟨#[]⟩, .int .i64 0, .int .i64 0, .int .i64 0, .int .i64 0, .slice none 0 0, .slice none 0 0] 31)).heap[w5.heap.size]? = some (.cells #[.int .i64 0, .int .i64 0, .int .i64 0, .int .i64 0, .string ⟨#[]⟩, .string ⟨#[]⟩, .int .i64 0, .string ⟨#[]⟩, .int .i64 0, .int .i64 0, .int .i64 0, .int .i64 0, .slice none 0 0, .slice none 0 0] 31 (0, 0)) := heap_alloc_new w5 _
  have b5 : Below w5.heap.size w5 (w5.alloc (.cells #[.int .i64 0, .int .i64 0, .int .i64 0, .int .i64 0, .string ⟨#[]⟩, .string ⟨#[]⟩, .int .i64 0, .string ⟨#[]⟩, .int .i64 0, .int .i64 0, .int .i64 0, .int .i64 0, .slice none 0 0, .slice none 0 0] 31)) := (Below.refl _ w5).alloc (Nat.le_refl _) _
  have b6 : Below w5.heap.size w5 ((w5.alloc (.cells #[.int .i64 0, .int .i64 0, .int .i64 0, .int .i64 0, .string ⟨#[]⟩, .string ⟨#[]⟩, .int .i64 0, .string ⟨#[]⟩, .int .i64 0, .int .i64 0, .int .i64 0, .int .i64 0, .slice none 0 0, .slice none 0 0] 31)).setRow w5.heap.size C.toArray) := ⟨b5.os, b5.tape, b5.output, by simp, fun k hk => (setRow_other _ _ _ _ (by omega)).trans (b5.block k hk)⟩
  have x6 : ((w5.alloc (.cells #[.int .i64 0, .int .i64 0, .int .i64 0, .int .i64 0, .string ⟨#[]⟩, .string ⟨#[]⟩, .int .i64 0, .string ⟨#[]⟩, .int .i64 0, .int .i64 0, .int .i64 0, .int .i64 0, .slice none 0 0, .slice none 0 0] 31)).setRow w5.heap.size C.toArray).heap[w5.heap.size]? = some (.cells C.toArray 31 (0, 0)) := setRow_heap _ _ _ _ _ _ xz
  have XZ : Hid _ := xz
  obtain ⟨w6, e6⟩ : ∃ w6, (w5.alloc (.cells #[.int .i64 0, .int .i64 0, .int .i64 0, .int .i64 0, .string ⟨#[]⟩, .string ⟨#[]⟩, .int .i64 0, .string ⟨#[]⟩, .int .i64 0, .int .i64 0, .int .i64 0, .int .i64 0, .slice none 0 0, .slice none 0 0] 31)).setRow w5.heap.size C.toArray = w6 := ⟨_, rfl⟩
  rw [e6] at b6 x6
  have E6 : Hid (_ = w6) := e6
  have z6 := z5.below b6
  have o6 : LetOwn w6 w3.heap.size d ra rc ba bc := ⟨ownsB o5.rows b6, ownsB o5.body b6⟩
  have r6 : Rdr w6 R l px yx := Rdr.below r5 b6
  have CE := rEnd_any R l px yx _ r6
  have SZ : Hid ((Try.prog.info? 31).map (·.size) = some C.toArray.size) := by
    have e : (Try.prog.info? 31).map (·.size) = some 14 := by kernel_rfl
    show _ = _
    rw [e, List.size_toArray, lC]
  have S14 : Hid ((#[.int .i64 0, .int .i64 0, .int .i64 0, .int .i64 0, .string ⟨#[]⟩, .string ⟨#[]⟩, .int .i64 0, .string ⟨#[]⟩, .int .i64 0, .int .i64 0, .int .i64 0, .int .i64 0, .slice none 0 0, .slice none 0 0] : Array Value).size = C.toArray.size) := by show (14 : Nat) = _; rw [List.size_toArray, lC]
  have L3 : Hid (w.heap.size < w3.heap.size ∧ w3.heap.size ≤ w5.heap.size) := ⟨(Array.getElem?_eq_some_iff.1 Z3.out.z).1, g5.size⟩
  have Z6 : Hid (Zer w w6) := z6
  have X6 : Hid (w6.heap[w5.heap.size]? = some (.cells C.toArray 31 (0, 0))) := x6
  have O6 : Hid (LetOwn w6 w3.heap.size d ra rc ba bc) := o6
  clear CR o5 r5 g5 eC lC aC z5 l5 b6 z6 x6 o6 r6 e6 Z3 xz b5
  go_wp2_with (refine wpList_store_row rfl 31 (.tmp 6) (.tmp 31) rfl w5.heap.size C.toArray rfl rfl 31 _ XZ.out SZ.out S14.out AC.out ?_; rw [E6.out])
  refine CE.mono ?_
  rintro e w7 ⟨rfl, q, rfl⟩
  clear CE E6 XZ
  have Z7 : Hid (Zer w (w6.drewN q)) := ⟨below_drewN' Z6.out.bel q, Z6.out.z⟩
  have ZS : Hid _ := Z7.out.z
  have X7 : Hid ((w6.drewN q).heap[w5.heap.size]? = some (.cells C.toArray 31 (0, 0))) := X6.out
  have O7 : Hid (LetOwn (w6.drewN q) w3.heap.size d ra rc ba bc) := ⟨O6.out.rows, O6.out.body⟩
  clear O6 X6 Z6
  by_cases he : rEnd l px yx = 0
  case neg =>
    have HP : Hid (unpackD l = (LetD.zero, rEnd l px yx)) := by show _ = _; rw [RP2.out, if_pos he]
    clear RP2
    generalize rEnd l px yx = y9 at *
    have he' : (((y9 : Nat) : Int) != 0) = true := by simp; omega
    clear he
    go_wp2_with (refine wpList_store_row rfl 31 (.tmp 2) (.tmp 36) rfl w.heap.size #[.int .i64 0, .int .i64 0, .int .i64 0, .int .i64 0, .string ⟨#[]⟩, .string ⟨#[]⟩, .int .i64 0, .string ⟨#[]⟩, .int .i64 0, .int .i64 0, .int .i64 0, .int .i64 0, .slice none 0 0, .slice none 0 0] rfl rfl 31 _ ZS.out (by kernel_rfl) rfl (by simp [Value.oneCell']) ?_)
    exact bodyPost_ret (results_ctK rfl _ _ w.heap.size 31 _ (0, 0) _ rfl Z7.out.row.z Try.underlying31 rfl (by kernel_rfl)) rfl (unp_zero HP.out Z7.out.row.bel rfl)
  have HP : Hid (unpackD l = (d, 0)) := by show _ = _; rw [RP2.out, if_neg (by simpa using he)]
  clear RP2
  rw [he]
  have bF : Below w.heap.size w ((w6.drewN q).setRow w.heap.size C.toArray) := ⟨Z7.out.bel.os, Z7.out.bel.tape, Z7.out.bel.output, by simpa using Z7.out.bel.size, fun k hk => (setRow_other _ _ _ _ (by omega)).trans (Z7.out.bel.block k hk)⟩
  have BF : Hid _ := bF
  have XF : Hid _ := setRow_heap (w6.drewN q) w.heap.size _ C.toArray _ _ ZS.out
  have OF : Hid (LetOwn ((w6.drewN q).setRow w.heap.size C.toArray) w.heap.size d ra rc ba bc) := ⟨owns_mono' (ownsK O7.out.rows fun g hg => setRow_other _ _ _ _ (by have := (O7.out.rows.lt _ hg).1; have := L3.out; omega)) (by have := L3.out; omega), owns_mono' (ownsK O7.out.body fun g hg => setRow_other _ _ _ _ (by have := (O7.out.body.lt _ hg).1; have := L3.out; omega)) (by have := L3.out; omega)⟩
  clear bF he O7
  go_wp2_with (first
    | (refine wpList_load_row rfl 31 (.tmp 6) rfl w5.heap.size rfl 31 C.toArray (0, 0) _ X7.out Try.underlying31 rfl SZ.out ?_)
    | (refine wpList_store_row rfl 31 (.tmp 2) (.tmp 38) rfl w.heap.size C.toArray rfl rfl 31 _ ZS.out SZ.out S14.out AC.out ?_))
  exact bodyPost_ret (results_ctK rfl _ _ w.heap.size 31 _ (0, 0) _ rfl XF.out Try.underlying31 rfl SZ.out) rfl ⟨ra, rc, ba, bc, by rw [HP.out, EC.out]; rfl, by rw [HP.out]; exact OF.out, BF.out⟩
end Go.Proofs.Ytmcippolnekogaa
