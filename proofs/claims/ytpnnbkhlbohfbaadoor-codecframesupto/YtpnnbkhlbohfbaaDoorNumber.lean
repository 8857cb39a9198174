/- What number does: the number that stands at the head of bytes. -/
import Derived.Test.YtpnnbkhlbohfbaaDoorAddUint
import Derived.Scope
namespace Go.Proofs.YtpnnbkhlbohfbaaDoor
open Go.RowKit Cod
set_option linter.unusedVariables false
set_option linter.unusedSimpArgs false

theorem or_place (acc k x : Nat) (ha : acc < 128 ^ k) (hx : x * 128 ^ k < 18446744073709551616) (hk : k ≤ 9) (p : Int) (hp : p = ((128 ^ k : Nat) : Int)) : bits BinOp.or IntKind.u64 (acc : Int) (IntKind.u64.wrap (IntKind.u64.wrap (x : Int) * p)) = ((acc + x * 128 ^ k : Nat) : Int) := by
  subst hp
  have h1 : 1 ≤ 128 ^ k := Nat.one_le_pow _ _ (by omega)
  have hxl : x < 18446744073709551616 := Nat.lt_of_le_of_lt (Nat.le_mul_of_pos_right x h1) hx
  have h9 : 128 ^ k ≤ 128 ^ 9 := Nat.pow_le_pow_right (by omega) hk
  have e1 : IntKind.u64.wrap (x : Int) = (x : Int) := by rw [IntKind.wrap_u64]; omega
  have e2 : (x : Int) * ((128 ^ k : Nat) : Int) = ((x * 128 ^ k : Nat) : Int) := (Int.natCast_mul _ _).symm
  have e3 : IntKind.u64.wrap ((x * 128 ^ k : Nat) : Int) = ((x * 128 ^ k : Nat) : Int) := by rw [IntKind.wrap_u64]; omega
  rw [e1, e2, e3, u64_or_nat _ _ (by omega) hx]
  congr 1
  have e4 : 128 ^ k = 2 ^ (7 * k) := by rw [Nat.pow_mul]
  rw [Nat.or_comm, e4, Nat.mul_comm x, ← Nat.two_pow_add_eq_or_of_lt (by rw [← e4]; exact ha)]
  omega
theorem V_cast (c : BitVec 8) : V c = (c.toNat : Int) := rfl
theorem and127 (c : BitVec 8) : bits BinOp.and IntKind.u8 (V c) 127 = ((c.toNat % 128 : Nat) : Int) := by
  rw [V_cast, show (127 : Int) = ((127 : Nat) : Int) from rfl, u8_and_nat _ _ c.isLt (by decide)]
  congr 1
  exact Nat.and_two_pow_sub_one_eq_mod c.toNat 7
theorem place_pow (k : Nat) : (2 : Int) ^ (7 * k) = ((128 ^ k : Nat) : Int) := by
  rw [Int.pow_mul, Int.natCast_pow]; rfl
theorem num_form {k acc : Nat} {c : BitVec 8} {r : List (BitVec 8)} (h : (k = 9 ∧ 1 < V c) ∨ (0 < k ∧ V c = 0)) : num k acc (c :: r) = (0, 0, 11) := by
  unfold V at h
  rw [num, if_pos (by omega)]
theorem num_stop {k acc : Nat} {c : BitVec 8} {r : List (BitVec 8)} (h9 : k = 9 → V c ≤ 1) (h0 : 0 < k → V c ≠ 0) (h : V c ≤ 127) : num k acc (c :: r) = (acc + c.toNat * 128 ^ k, k + 1, 0) := by
  unfold V at h h9 h0
  rw [num, if_neg (by omega), if_pos (by omega)]
theorem num_on {k acc : Nat} {c : BitVec 8} {r : List (BitVec 8)} (h9 : k ≠ 9) (h : 127 < V c) : num k acc (c :: r) = num (k + 1) (acc + (c.toNat % 128) * 128 ^ k) r := by
  unfold V at h
  rw [num, if_neg (by omega), if_neg (by omega)]
theorem stop_val {k acc : Nat} {c : BitVec 8} (ha : acc < 128 ^ k) (hk : k ≤ 9) (h9 : k = 9 → V c ≤ 1) (h : V c ≤ 127) (p : Int) (hp : p = ((128 ^ k : Nat) : Int)) :
    bits BinOp.or IntKind.u64 (acc : Int) (IntKind.u64.wrap (IntKind.u64.wrap (V c) * p)) = ((acc + c.toNat * 128 ^ k : Nat) : Int) := by
  unfold V at h h9
  refine or_place acc k c.toNat ha ?_ hk p hp
  by_cases e : k = 9
  · subst e
    have := h9 rfl
    have h2 : c.toNat ≤ 1 := by omega
    calc c.toNat * 128 ^ 9 ≤ 1 * 128 ^ 9 := Nat.mul_le_mul_right _ h2
      _ < 18446744073709551616 := by decide
  · have h1 : 128 ^ k ≤ 128 ^ 8 := Nat.pow_le_pow_right (by omega) (by omega)
    calc c.toNat * 128 ^ k ≤ 127 * 128 ^ 8 := Nat.mul_le_mul (by omega) h1
      _ < 18446744073709551616 := by decide
theorem on_val {k acc : Nat} {c : BitVec 8} (ha : acc < 128 ^ k) (hk : k < 9) (p : Int) (hp : p = ((128 ^ k : Nat) : Int)) :
    bits BinOp.or IntKind.u64 (acc : Int) (IntKind.u64.wrap (IntKind.u64.wrap (bits BinOp.and IntKind.u8 (V c) 127) * p)) = ((acc + (c.toNat % 128) * 128 ^ k : Nat) : Int) := by
  rw [and127]
  refine or_place acc k _ ha ?_ (by omega) p hp
  have h1 : 128 ^ k ≤ 128 ^ 8 := Nat.pow_le_pow_right (by omega) (by omega)
  calc (c.toNat % 128) * 128 ^ k ≤ 127 * 128 ^ 8 := Nat.mul_le_mul (by omega) h1
    _ < 18446744073709551616 := by decide
theorem on_lt {k acc : Nat} {c : BitVec 8} (ha : acc < 128 ^ k) : acc + (c.toNat % 128) * 128 ^ k < 128 ^ (k + 1) := by
  rw [Nat.pow_succ]
  have : (c.toNat % 128) * 128 ^ k ≤ 127 * 128 ^ k := Nat.mul_le_mul_right _ (by omega)
  omega
def numV (t : Nat × Nat × Nat) : Value := .tuple #[.int .u64 t.1, .int .i64 t.2.1, .int .i64 t.2.2]

set_option maxHeartbeats 800000 in
theorem number_cells (b off cap : Nat) (l : List (BitVec 8)) (w : World) (hm : l.length ≤ maxLen)
    (hc : ∀ j, j < l.length → w.cell? ⟨b, off + j, none⟩ = some (.int .u8 (V (l.getD j 0#8)))) :
    Calls Tryd.prog 56 #[.slice (some ⟨b, off, none⟩) l.length cap] w fun e w' => e = .returned (numV (num 0 0 l)) ∧ w' = w := by
  unfold maxLen at hm
  go_enter Tryd.func56, Tryd.ntmps56
  go_wp2
  refine wp_scope_straight ?_
  go_wp2
  refine wp_label ?_
  go_wp2
  go_loopw [5, 6, 11] (fun r wd i wr => ∃ (k acc : Nat), k ≤ l.length ∧ k ≤ 9 ∧ acc < 128 ^ k ∧ num 0 0 l = num k acc (l.drop k) ∧ i = .int .i64 k ∧ r = .int .u64 acc ∧ wd = .int .i64 0 ∧ wr = w)
    (fun _ _ i _ => l.length - (intOf i).toNat)
  case atStart => exact ⟨0, 0, Nat.zero_le _, by omega, by simp, rfl, rfl, rfl, rfl, rfl⟩
  case round =>
    obtain ⟨k, acc, hk, hk9, ha, hn, rfl, rfl, rfl, rfl⟩ := hrel
    have HN : Hid _ := hn
    have HA : Hid _ := ha
    clear hn ha
    by_cases hlt : k < l.length
    · have hck := hc k hlt
      have hd : Hid (l.drop k = l.getD k 0#8 :: l.drop (k + 1)) := by
        show l.drop k = _
        rw [List.drop_eq_getElem_cons hlt]; simp [hlt]
      generalize l.getD k 0#8 = c at *
      clear hc
      go_wp2
      all_goals first
        | (rw [Exit.noGoto_ret]
           go_ret3
           refine ⟨?_, rfl⟩
           try simp only [beq_iff_eq, beq_eq_false_iff_ne, ne_eq] at *
           rw [HN.out, hd.out, num_form (by omega)]
           rfl)
        | (rw [Exit.noGoto_ret]
           go_ret3
           refine ⟨?_, rfl⟩
           try simp only [beq_iff_eq, beq_eq_false_iff_ne, ne_eq] at *
           rw [HN.out, hd.out, num_stop (by omega) (by omega) (by omega), stop_val HA.out (by omega) (by omega) (by omega) _ (place_pow k)]
           rfl)
        | (rw [Exit.noGoto_ret]
           go_ret3
           refine ⟨?_, rfl⟩
           try simp only [beq_iff_eq, beq_eq_false_iff_ne, ne_eq] at *
           obtain rfl : k = 9 := by omega
           rw [HN.out, hd.out, num_stop (by omega) (by omega) (by omega), stop_val HA.out (by omega) (by omega) (by omega) _ (by decide)]
           rfl)
        | skip
      all_goals
        go_roundw
        case rel => exact ⟨k + 1, acc + (c.toNat % 128) * 128 ^ k, by omega, by omega, on_lt HA.out, by rw [HN.out, hd.out, num_on (by omega) (by omega)], by go_num, by rw [on_val HA.out (by omega) _ (place_pow k)], rfl, trivial⟩
        case measure => simp only [intOf]; omega
    · have hd : Hid (l.drop k = []) := by
        show l.drop k = _
        exact List.drop_eq_nil_of_le (by omega)
      clear hc
      go_wp2
      rw [Exit.noGoto_ret]
      go_ret3
      refine ⟨?_, rfl⟩
      rw [HN.out, hd.out, num]
      rfl
theorem number_empty (a : Option Addr) (cap : Nat) (w : World) :
    Calls Tryd.prog 56 #[.slice a 0 cap] w fun e w' => e = .returned (numV (num 0 0 [])) ∧ w' = w := by
  go_enter Tryd.func56, Tryd.ntmps56
  go_wp2
  refine wp_scope_straight ?_
  go_wp2
  refine wp_label ?_
  go_wp2
  go_loopw [5, 6, 11] (fun r wd i wr => i = .int .i64 0 ∧ r = .int .u64 0 ∧ wd = .int .i64 0 ∧ wr = w)
    (fun _ _ i _ => 0)
  case atStart => exact ⟨rfl, rfl, rfl, rfl⟩
  case round =>
    obtain ⟨rfl, rfl, rfl, rfl⟩ := hrel
    go_wp2
    rw [Exit.noGoto_ret]
    go_ret3
    exact ⟨rfl, rfl⟩
theorem number_any (a : Option Addr) (len cap : Nat) (l : List (BitVec 8)) (w : World) (h : Seen w a len l) :
    Calls Tryd.prog 56 #[.slice a len cap] w fun e w' => e = .returned (numV (num 0 0 l)) ∧ w' = w := by
  obtain ⟨rfl, hm, h⟩ := h
  rcases h with h | ⟨b, off, rfl, hc⟩
  · obtain rfl : l = [] := List.eq_nil_of_length_eq_zero h
    exact number_empty a cap w
  · exact number_cells b off cap l w hm hc
end Go.Proofs.YtpnnbkhlbohfbaaDoor
