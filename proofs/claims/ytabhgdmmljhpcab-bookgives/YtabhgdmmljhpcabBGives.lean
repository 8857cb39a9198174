/- BookGives. -/
import Derived.Test.YtabhgdmmljhpcabBMy
namespace Go.Proofs.Ytabhgdmmljhpcab
open Go.RowKit Cod
attribute [local go_sem] Oper.semAt_some
set_option linter.unusedVariables false

theorem gv_put0 (a : Int) : putP [] ⟨#[97]⟩ a = if a < 0 then (47, []) else (0, [⟨⟨#[97]⟩, a, ⟨#[]⟩⟩]) := by
  have h1 : nameOk ⟨#[97]⟩ = true := by rfl
  unfold putP
  rw [if_neg (by rw [h1]; simp)]
  by_cases h : a < 0
  · rw [if_pos h, if_pos h]
  · rw [if_neg h, if_neg h, if_neg (by simp [hasN]), if_neg (by simp)]
    rfl
theorem gv_put1 (a b : Int) : putP [⟨⟨#[97]⟩, a, ⟨#[]⟩⟩] ⟨#[98]⟩ b = if b < 0 then (47, [⟨⟨#[97]⟩, a, ⟨#[]⟩⟩]) else (0, [⟨⟨#[97]⟩, a, ⟨#[]⟩⟩, ⟨⟨#[98]⟩, b, ⟨#[]⟩⟩]) := by
  have h1 : nameOk ⟨#[98]⟩ = true := by rfl
  unfold putP
  rw [if_neg (by rw [h1]; simp)]
  by_cases h : b < 0
  · rw [if_pos h, if_pos h]
  · rw [if_neg h, if_neg h, if_neg (by show ¬ (hasN [⟨⟨#[97]⟩, a, ⟨#[]⟩⟩] ⟨#[98]⟩ = true); rw [show hasN [⟨⟨#[97]⟩, a, ⟨#[]⟩⟩] ⟨#[98]⟩ = false from rfl]; simp), if_neg (by simp)]
    rfl
theorem gv_take (a b n : Int) : onP [⟨⟨#[97]⟩, a, ⟨#[]⟩⟩, ⟨⟨#[98]⟩, b, ⟨#[]⟩⟩] ⟨#[97]⟩ (takeP n) = if n < 1 then (47, [⟨⟨#[97]⟩, a, ⟨#[]⟩⟩, ⟨⟨#[98]⟩, b, ⟨#[]⟩⟩]) else if a < n then (42, [⟨⟨#[97]⟩, a, ⟨#[]⟩⟩, ⟨⟨#[98]⟩, b, ⟨#[]⟩⟩]) else (0, [⟨⟨#[97]⟩, a - n, ⟨#[]⟩⟩, ⟨⟨#[98]⟩, b, ⟨#[]⟩⟩]) := by
  unfold onP
  rw [show getA [⟨⟨#[97]⟩, a, ⟨#[]⟩⟩, ⟨⟨#[98]⟩, b, ⟨#[]⟩⟩] ⟨#[97]⟩ = some ⟨⟨#[97]⟩, a, ⟨#[]⟩⟩ from rfl]
  simp only [takeP]
  by_cases h1 : n < 1
  · simp [h1]
  · by_cases h2 : a < n
    · simp [h1, h2]
    · simp only [h1, h2, if_false, if_true]
      rfl
theorem gv_addB (a b n : Int) (h1 : ¬ n < 1) : onP [⟨⟨#[97]⟩, a, ⟨#[]⟩⟩, ⟨⟨#[98]⟩, b, ⟨#[]⟩⟩] ⟨#[98]⟩ (addP n) = if 9223372036854775807 - n < b then (43, [⟨⟨#[97]⟩, a, ⟨#[]⟩⟩, ⟨⟨#[98]⟩, b, ⟨#[]⟩⟩]) else (0, [⟨⟨#[97]⟩, a, ⟨#[]⟩⟩, ⟨⟨#[98]⟩, b + n, ⟨#[]⟩⟩]) := by
  unfold onP
  rw [show getA [⟨⟨#[97]⟩, a, ⟨#[]⟩⟩, ⟨⟨#[98]⟩, b, ⟨#[]⟩⟩] ⟨#[98]⟩ = some ⟨⟨#[98]⟩, b, ⟨#[]⟩⟩ from rfl]
  simp only [addP]
  by_cases h2 : 9223372036854775807 - n < b
  · simp [h1, h2]
  · simp only [h1, h2, if_false, if_true]
    rfl
theorem gv_addA (a b n : Int) (h1 : ¬ n < 1) (h2 : a ≤ 9223372036854775807) : onP [⟨⟨#[97]⟩, a - n, ⟨#[]⟩⟩, ⟨⟨#[98]⟩, b, ⟨#[]⟩⟩] ⟨#[97]⟩ (addP n) = (0, [⟨⟨#[97]⟩, a, ⟨#[]⟩⟩, ⟨⟨#[98]⟩, b, ⟨#[]⟩⟩]) := by
  have e : a - n + n = a := by omega
  unfold onP
  rw [show getA [⟨⟨#[97]⟩, a - n, ⟨#[]⟩⟩, ⟨⟨#[98]⟩, b, ⟨#[]⟩⟩] ⟨#[97]⟩ = some ⟨⟨#[97]⟩, a - n, ⟨#[]⟩⟩ from rfl]
  simp only [addP]
  simp only [h1, show ¬ 9223372036854775807 - n < a - n by omega, if_false, if_true, e]
  rfl
theorem gv_getA (a b : Int) : getV [⟨⟨#[97]⟩, a, ⟨#[]⟩⟩, ⟨⟨#[98]⟩, b, ⟨#[]⟩⟩] ⟨#[97]⟩ = .tuple #[.int .i64 a, .int .i64 0] := rfl
theorem gv_getB (a b : Int) : getV [⟨⟨#[97]⟩, a, ⟨#[]⟩⟩, ⟨⟨#[98]⟩, b, ⟨#[]⟩⟩] ⟨#[98]⟩ = .tuple #[.int .i64 b, .int .i64 0] := rfl
theorem my_get {w0 w : World} {N : Nat} {L : List Acc} (h : MyB w0 w N L) (t : ByteArray) : Calls Try.prog 9 #[.pointer (some ⟨N, 0, none⟩), .string t] w fun e w' => e = .returned (getV L t) ∧ MyB w0 w' N L := by
  obtain ⟨sv, h1, b⟩ := h
  exact (get_any h1 t).mono (by rintro e w' ⟨rfl, q⟩; exact ⟨rfl, sv, h1.below q, b.trans (q.mono b.size)⟩)
set_option maxRecDepth 100000 in
set_option maxHeartbeats 4000000 in
theorem bookGives_any (a b n : Int) (ha : -9223372036854775808 ≤ a ∧ a ≤ 9223372036854775807) (hb : -9223372036854775808 ≤ b ∧ b ≤ 9223372036854775807) (hn : -9223372036854775808 ≤ n ∧ n ≤ 9223372036854775807) (w : World) :
    Calls Try.prog 3 #[.int .i64 a, .int .i64 b, .int .i64 n] w fun e w' => e = .returned (.bool true) ∧ Below w.heap.size w w' := by
  by_cases h1a : a < 0
  · skip
    go_enter Try.func3, Try.ntmps3
    go_wp2_with fail
    refine (my_new (Below.refl _ w)).mono ?_
    rintro e w1 ⟨N, rfl, h1⟩
    go_wp2_with fail
    have HC := my_put h1 ⟨#[97]⟩ a ha (by simp [ByteArray.size, maxLen])
    rw [gv_put0, if_pos (by omega)] at HC
    clear h1
    refine HC.mono ?_
    clear HC
    rintro e w2 ⟨rfl, h2⟩
    go_wp2_with fail
    refine (knownB_any w2).mono ?_
    rintro e wK ⟨rfl, bK⟩
    have BK : Hid (Below w.heap.size w wK) := h2.bel.trans (bK.mono h2.bel.size)
    clear h2 bK
    go_wp2
    go_ret
    exact ⟨rfl, BK.out⟩
  have h1a' : 0 ≤ a := by omega
  by_cases h1b : b < 0
  · skip
    go_enter Try.func3, Try.ntmps3
    go_wp2_with fail
    refine (my_new (Below.refl _ w)).mono ?_
    rintro e w1 ⟨N, rfl, h1⟩
    go_wp2_with fail
    have HC := my_put h1 ⟨#[97]⟩ a ha (by simp [ByteArray.size, maxLen])
    rw [gv_put0, if_neg (by omega)] at HC
    clear h1
    refine HC.mono ?_
    clear HC
    rintro e w2 ⟨rfl, h2⟩
    go_wp2_with fail
    have HC := my_put h2 ⟨#[98]⟩ b hb (by simp [ByteArray.size, maxLen])
    rw [gv_put1, if_pos (by omega)] at HC
    clear h2
    refine HC.mono ?_
    clear HC
    rintro e w3 ⟨rfl, h3⟩
    go_wp2_with fail
    refine (knownB_any w3).mono ?_
    rintro e wK ⟨rfl, bK⟩
    have BK : Hid (Below w.heap.size w wK) := h3.bel.trans (bK.mono h3.bel.size)
    clear h3 bK
    go_wp2
    go_ret
    exact ⟨rfl, BK.out⟩
  have h1b' : 0 ≤ b := by omega
  by_cases h1n : n < 1
  · skip
    go_enter Try.func3, Try.ntmps3
    go_wp2_with fail
    refine (my_new (Below.refl _ w)).mono ?_
    rintro e w1 ⟨N, rfl, h1⟩
    go_wp2_with fail
    have HC := my_put h1 ⟨#[97]⟩ a ha (by simp [ByteArray.size, maxLen])
    rw [gv_put0, if_neg (by omega)] at HC
    clear h1
    refine HC.mono ?_
    clear HC
    rintro e w2 ⟨rfl, h2⟩
    go_wp2_with fail
    have HC := my_put h2 ⟨#[98]⟩ b hb (by simp [ByteArray.size, maxLen])
    rw [gv_put1, if_neg (by omega)] at HC
    clear h2
    refine HC.mono ?_
    clear HC
    rintro e w3 ⟨rfl, h3⟩
    go_wp2_with fail
    have HC := my_take h3 ⟨#[97]⟩ n hn
    rw [gv_take, if_pos (by omega)] at HC
    clear h3
    refine HC.mono ?_
    clear HC
    rintro e w4 ⟨rfl, h4⟩
    go_wp2_with fail
    have HC := my_get h4 ⟨#[97]⟩
    rw [gv_getA] at HC
    clear h4
    refine HC.mono ?_
    clear HC
    rintro e w5 ⟨rfl, h5⟩
    go_wp2_with fail
    have HC := my_get h5 ⟨#[98]⟩
    rw [gv_getB] at HC
    clear h5
    refine HC.mono ?_
    clear HC
    rintro e w6 ⟨rfl, h6⟩
    go_wp2_with fail
    refine (knownB_any w6).mono ?_
    rintro e wK ⟨rfl, bK⟩
    have BK : Hid (Below w.heap.size w wK) := h6.bel.trans (bK.mono h6.bel.size)
    clear h6 bK
    go_wp2
    go_ret
    exact ⟨rfl, BK.out⟩
  have h1n' : 1 ≤ n := by omega
  by_cases h2n : a < n
  · skip
    go_enter Try.func3, Try.ntmps3
    go_wp2_with fail
    refine (my_new (Below.refl _ w)).mono ?_
    rintro e w1 ⟨N, rfl, h1⟩
    go_wp2_with fail
    have HC := my_put h1 ⟨#[97]⟩ a ha (by simp [ByteArray.size, maxLen])
    rw [gv_put0, if_neg (by omega)] at HC
    clear h1
    refine HC.mono ?_
    clear HC
    rintro e w2 ⟨rfl, h2⟩
    go_wp2_with fail
    have HC := my_put h2 ⟨#[98]⟩ b hb (by simp [ByteArray.size, maxLen])
    rw [gv_put1, if_neg (by omega)] at HC
    clear h2
    refine HC.mono ?_
    clear HC
    rintro e w3 ⟨rfl, h3⟩
    go_wp2_with fail
    have HC := my_take h3 ⟨#[97]⟩ n hn
    rw [gv_take, if_neg (by omega), if_pos (by omega)] at HC
    clear h3
    refine HC.mono ?_
    clear HC
    rintro e w4 ⟨rfl, h4⟩
    go_wp2_with fail
    have HC := my_get h4 ⟨#[97]⟩
    rw [gv_getA] at HC
    clear h4
    refine HC.mono ?_
    clear HC
    rintro e w5 ⟨rfl, h5⟩
    go_wp2_with fail
    have HC := my_get h5 ⟨#[98]⟩
    rw [gv_getB] at HC
    clear h5
    refine HC.mono ?_
    clear HC
    rintro e w6 ⟨rfl, h6⟩
    go_wp2_with fail
    refine (knownB_any w6).mono ?_
    rintro e wK ⟨rfl, bK⟩
    have BK : Hid (Below w.heap.size w wK) := h6.bel.trans (bK.mono h6.bel.size)
    clear h6 bK
    go_wp2
    go_ret
    exact ⟨rfl, BK.out⟩
  have h2n' : n ≤ a := by omega
  by_cases h3n : 9223372036854775807 - n < b
  · skip
    go_enter Try.func3, Try.ntmps3
    go_wp2_with fail
    refine (my_new (Below.refl _ w)).mono ?_
    rintro e w1 ⟨N, rfl, h1⟩
    go_wp2_with fail
    have HC := my_put h1 ⟨#[97]⟩ a ha (by simp [ByteArray.size, maxLen])
    rw [gv_put0, if_neg (by omega)] at HC
    clear h1
    refine HC.mono ?_
    clear HC
    rintro e w2 ⟨rfl, h2⟩
    go_wp2_with fail
    have HC := my_put h2 ⟨#[98]⟩ b hb (by simp [ByteArray.size, maxLen])
    rw [gv_put1, if_neg (by omega)] at HC
    clear h2
    refine HC.mono ?_
    clear HC
    rintro e w3 ⟨rfl, h3⟩
    go_wp2_with fail
    have HC := my_take h3 ⟨#[97]⟩ n hn
    rw [gv_take, if_neg (by omega), if_neg (by omega)] at HC
    clear h3
    refine HC.mono ?_
    clear HC
    rintro e w4 ⟨rfl, h4⟩
    go_wp2_with fail
    have HC := my_add h4 ⟨#[98]⟩ n hn
    rw [gv_addB _ _ _ (by omega), if_pos (by omega)] at HC
    clear h4
    refine HC.mono ?_
    clear HC
    rintro e w5 ⟨rfl, h5⟩
    go_wp2_with fail
    have HC := my_add h5 ⟨#[97]⟩ n hn
    rw [gv_addA _ _ _ (by omega) (by omega)] at HC
    clear h5
    refine HC.mono ?_
    clear HC
    rintro e w6 ⟨rfl, h6⟩
    go_wp2_with fail
    have HC := my_get h6 ⟨#[97]⟩
    rw [gv_getA] at HC
    clear h6
    refine HC.mono ?_
    clear HC
    rintro e w7 ⟨rfl, h7⟩
    go_wp2_with fail
    have HC := my_get h7 ⟨#[98]⟩
    rw [gv_getB] at HC
    clear h7
    refine HC.mono ?_
    clear HC
    rintro e w8 ⟨rfl, h8⟩
    go_wp2_with fail
    refine (knownB_any w8).mono ?_
    rintro e wK ⟨rfl, bK⟩
    have BK : Hid (Below w.heap.size w wK) := h8.bel.trans (bK.mono h8.bel.size)
    clear h8 bK
    go_wp2
    go_ret
    exact ⟨rfl, BK.out⟩
  · have h3n' : b ≤ 9223372036854775807 - n := by omega
    have heq : a - n + (b + n) = a + b := by omega
    go_enter Try.func3, Try.ntmps3
    go_wp2_with fail
    refine (my_new (Below.refl _ w)).mono ?_
    rintro e w1 ⟨N, rfl, h1⟩
    go_wp2_with fail
    have HC := my_put h1 ⟨#[97]⟩ a ha (by simp [ByteArray.size, maxLen])
    rw [gv_put0, if_neg (by omega)] at HC
    clear h1
    refine HC.mono ?_
    clear HC
    rintro e w2 ⟨rfl, h2⟩
    go_wp2_with fail
    have HC := my_put h2 ⟨#[98]⟩ b hb (by simp [ByteArray.size, maxLen])
    rw [gv_put1, if_neg (by omega)] at HC
    clear h2
    refine HC.mono ?_
    clear HC
    rintro e w3 ⟨rfl, h3⟩
    go_wp2_with fail
    have HC := my_take h3 ⟨#[97]⟩ n hn
    rw [gv_take, if_neg (by omega), if_neg (by omega)] at HC
    clear h3
    refine HC.mono ?_
    clear HC
    rintro e w4 ⟨rfl, h4⟩
    go_wp2_with fail
    have HC := my_add h4 ⟨#[98]⟩ n hn
    rw [gv_addB _ _ _ (by omega), if_neg (by omega)] at HC
    clear h4
    refine HC.mono ?_
    clear HC
    rintro e w5 ⟨rfl, h5⟩
    go_wp2_with fail
    have HC := my_get h5 ⟨#[97]⟩
    rw [gv_getA] at HC
    clear h5
    refine HC.mono ?_
    clear HC
    rintro e w6 ⟨rfl, h6⟩
    go_wp2_with fail
    have HC := my_get h6 ⟨#[98]⟩
    rw [gv_getB] at HC
    clear h6
    refine HC.mono ?_
    clear HC
    rintro e w7 ⟨rfl, h7⟩
    go_wp2_with fail
    refine (knownB_any w7).mono ?_
    rintro e wK ⟨rfl, bK⟩
    have BK : Hid (Below w.heap.size w wK) := h7.bel.trans (bK.mono h7.bel.size)
    clear h7 bK
    go_wp2
    go_ret
    exact ⟨rfl, BK.out⟩
end Go.Proofs.Ytabhgdmmljhpcab
