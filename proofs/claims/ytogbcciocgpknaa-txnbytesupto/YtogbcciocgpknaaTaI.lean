/- What number does: the number that stands at the head of bytes. -/
import Derived.Test.YtogbcciocgpknaaTaE
import Derived.Scope
import Derived.Test.YtogbcciocgpknaaTaA
namespace Go.Proofs.Ytogbcciocgpknaa
open Go.RowKit Cod
set_option linter.unusedVariables false
set_option linter.unusedSimpArgs false

theorem or_place (acc k x : Nat) (ha : acc < 128 ^ k) (hx : x * 128 ^ k < 18446744073709551616) (hk : k ≤ 9) (p : Int) (hp : p = ((128 ^ k : Nat) : Int)) : bits BinOp.or IntKind.u64 (acc : Int) (IntKind.u64.wrap (IntKind.u64.wrap (x : Int) * p)) = ((acc + x * 128 ^ k : Nat) : Int) := by
  subst hp
  have h1 : 1 ≤ 128 ^ k := Nat.one_le_pow _ _ (by omega)
  have hxl : x < 18446744073709551616 := Nat.lt_of_le_of_lt (Nat.le_mul_of_pos_right x h1) hx
  have h9 : 128 ^ k ≤ 128 ^ 9 := Nat.pow_le_pow_right (by omega) hk
  have e1 : IntKind.u64.wrap (x : Int) = (x : Int) := by rw [IntKind.wrap_u64]; omega
  have e2 : (x : Int) * ((128 ^ k : Nat) : Int) = ((x * 128 ^ k : Nat) : Int) := (Int.natCast_mul _ _).symm
  have e3 : IntKind.u64.wrap ((x * 128 ^ k : Nat) : Int) = ((x * 128 ^ k : Nat) : Int) := by rw [IntKind.wrap_u64]; omega
  rw [e1, e2, e3, u64_or_nat _ _ (by omega) hx]
  congr 1
  have e4 : 128 ^ k = 2 ^ (7 * k) := by rw [Nat.pow_mul]
  rw [Nat.or_comm, e4, Nat.mul_comm x, ← Nat.two_pow_add_eq_or_of_lt (by rw [← e4]; exact ha)]
  omega
theorem V_cast (c : BitVec 8) : V c = (c.toNat : Int) := rfl
theorem and127 (c : BitVec 8) : bits BinOp.and IntKind.u8 (V c) 127 = ((c.toNat % 128 : Nat) : Int) := by
  rw [V_cast, show (127 : Int) = ((127 : Nat) : Int) from rfl, u8_and_nat _ _ c.isLt (by decide)]
  congr 1
  exact Nat.and_two_pow_sub_one_eq_mod c.toNat 7
theorem place_pow (k : Nat) : (2 : Int) ^ (7 * k) = ((128 ^ k : Nat) : Int) := by
  rw [Int.pow_mul, Int.natCast_pow]; rfl
theorem num_form {k acc : Nat} {c : BitVec 8} {r : List (BitVec 8)} (h : (k = 9 ∧ 1 < V c) ∨ (0 < k ∧ V c = 0)) : num k acc (c :: r) = (0, 0, 11) := by
  unfold V at h
  rw [num, if_pos (by omega)]
theorem num_stop {k acc : Nat} {c : BitVec 8} {r : List (BitVec 8)} (h9 : k = 9 → V c ≤ 1) (h0 : 0 < k → V c ≠ 0) (h : V c ≤ 127) : num k acc (c :: r) = (acc + c.toNat * 128 ^ k, k + 1, 0) := by
  unfold V at h h9 h0
  rw [num, if_neg (by omega), if_pos (by omega)]
theorem num_on {k acc : Nat} {c : BitVec 8} {r : List (BitVec 8)} (h9 : k ≠ 9) (h : 127 < V c) : num k acc (c :: r) = num (k + 1) (acc + (c.toNat % 128) * 128 ^ k) r := by
  unfold V at h
  rw [num, if_neg (by omega), if_neg (by omega)]
theorem stop_val {k acc : Nat} {c : BitVec 8} (ha : acc < 128 ^ k) (hk : k ≤ 9) (h9 : k = 9 → V c ≤ 1) (h : V c ≤ 127) (p : Int) (hp : p = ((128 ^ k : Nat) : Int)) :
    bits BinOp.or IntKind.u64 (acc : Int) (IntKind.u64.wrap (IntKind.u64.wrap (V c) * p)) = ((acc + c.toNat * 128 ^ k : Nat) : Int) := by
  unfold V at h h9
  refine or_place acc k c.toNat ha ?_ hk p hp
  by_cases e : k = 9
  · subst e
    have := h9 rfl
    have h2 : c.toNat ≤ 1 := by omega
    calc c.toNat * 128 ^ 9 ≤ 1 * 128 ^ 9 := Nat.mul_le_mul_right _ h2
      _ < 18446744073709551616 := by decide
  · have h1 : 128 ^ k ≤ 128 ^ 8 := Nat.pow_le_pow_right (by omega) (by omega)
    calc c.toNat * 128 ^ k ≤ 127 * 128 ^ 8 := Nat.mul_le_mul (by omega) h1
      _ < 18446744073709551616 := by decide
theorem on_val {k acc : Nat} {c : BitVec 8} (ha : acc < 128 ^ k) (hk : k < 9) (p : Int) (hp : p = ((128 ^ k : Nat) : Int)) :
    bits BinOp.or IntKind.u64 (acc : Int) (IntKind.u64.wrap (IntKind.u64.wrap (bits BinOp.and IntKind.u8 (V c) 127) * p)) = ((acc + (c.toNat % 128) * 128 ^ k : Nat) : Int) := by
  rw [and127]
  refine or_place acc k _ ha ?_ (by omega) p hp
  have h1 : 128 ^ k ≤ 128 ^ 8 := Nat.pow_le_pow_right (by omega) (by omega)
  calc (c.toNat % 128) * 128 ^ k ≤ 127 * 128 ^ 8 := Nat.mul_le_mul (by omega) h1
    _ < 18446744073709551616 := by decide
theorem on_lt {k acc : Nat} {c : BitVec 8} (ha : acc < 128 ^ k) : acc + (c.toNat % 128) * 128 ^ k < 128 ^ (k + 1) := by
  rw [Nat.pow_succ]
  have : (c.toNat % 128) * 128 ^ k ≤ 127 * 128 ^ k := Nat.mul_le_mul_right _ (by omega)
  omega
def numV (t : Nat × Nat × Nat) : Value := .tuple #[.int .u64 t.1, .int .i64 t.2.1, .int .i64 t.2.2]

set_option maxHeartbeats 800000 in
theorem number_cells (b off cap : Nat) (l : List (BitVec 8)) (w : World) (hm : l.length ≤ maxLen)
    (hc : ∀ j, j < l.length → w.cell? ⟨b, off + j, none⟩ = some (.int .u8 (V (l.getD j 0#8)))) :
    Calls Try.prog 76 #[.slice (some ⟨b, off, none⟩) l.length cap] w fun e w' => e = .returned (numV (num 0 0 l)) ∧ w' = w := by
  unfold maxLen at hm
  go_enter Try.func76, Try.ntmps76
  go_wp2
  refine wp_scope_straight ?_
  go_wp2
  refine wp_label ?_
  go_wp2
  go_loopw [5, 6, 11] (fun r wd i wr => ∃ (k acc : Nat), k ≤ l.length ∧ k ≤ 9 ∧ acc < 128 ^ k ∧ num 0 0 l = num k acc (l.drop k) ∧ i = .int .i64 k ∧ r = .int .u64 acc ∧ wd = .int .i64 0 ∧ wr = w)
    (fun _ _ i _ => l.length - (intOf i).toNat)
  case atStart => exact ⟨0, 0, Nat.zero_le _, by omega, by simp, rfl, rfl, rfl, rfl, rfl⟩
  case round =>
    obtain ⟨k, acc, hk, hk9, ha, hn, rfl, rfl, rfl, rfl⟩ := hrel
    have HN : Hid _ := hn
    have HA : Hid _ := ha
    clear hn ha
    by_cases hlt : k < l.length
    · have hck := hc k hlt
      have hd : Hid (l.drop k = l.getD k 0#8 :: l.drop (k + 1)) := by
        show l.drop k = _
        rw [List.drop_eq_getElem_cons hlt]; simp [hlt]
      generalize l.getD k 0#8 = c at *
      clear hc
      go_wp2
      all_goals first
        | (rw [Exit.noGoto_ret]
           go_ret3
           refine ⟨?_, rfl⟩
           try simp only [beq_iff_eq, beq_eq_false_iff_ne, ne_eq] at *
           rw [HN.out, hd.out, num_form (by omega)]
           rfl)
        | (rw [Exit.noGoto_ret]
           go_ret3
           refine ⟨?_, rfl⟩
           try simp only [beq_iff_eq, beq_eq_false_iff_ne, ne_eq] at *
           rw [HN.out, hd.out, num_stop (by omega) (by omega) (by omega), stop_val HA.out (by omega) (by omega) (by omega) _ (place_pow k)]
           rfl)
        | (rw [Exit.noGoto_ret]
           go_ret3
           refine ⟨?_, rfl⟩
           try simp only [beq_iff_eq, beq_eq_false_iff_ne, ne_eq] at *
           obtain rfl : k = 9 := by omega
           rw [HN.out, hd.out, num_stop (by omega) (by omega) (by omega), stop_val HA.out (by omega) (by omega) (by omega) _ (by decide)]
           rfl)
        | skip
      all_goals
        go_roundw
        case rel => exact ⟨k + 1, acc + (c.toNat % 128) * 128 ^ k, by omega, by omega, on_lt HA.out, by rw [HN.out, hd.out, num_on (by omega) (by omega)], by go_num, by rw [on_val HA.out (by omega) _ (place_pow k)], rfl, trivial⟩
        case measure => simp only [intOf]; omega
    · have hd : Hid (l.drop k = []) := by
        show l.drop k = _
        exact List.drop_eq_nil_of_le (by omega)
      clear hc
      go_wp2
      rw [Exit.noGoto_ret]
      go_ret3
      refine ⟨?_, rfl⟩
      rw [HN.out, hd.out, num]
      rfl
theorem number_empty (a : Option Addr) (cap : Nat) (w : World) :
    Calls Try.prog 76 #[.slice a 0 cap] w fun e w' => e = .returned (numV (num 0 0 [])) ∧ w' = w := by
  go_enter Try.func76, Try.ntmps76
  go_wp2
  refine wp_scope_straight ?_
  go_wp2
  refine wp_label ?_
  go_wp2
  go_loopw [5, 6, 11] (fun r wd i wr => i = .int .i64 0 ∧ r = .int .u64 0 ∧ wd = .int .i64 0 ∧ wr = w)
    (fun _ _ i _ => 0)
  case atStart => exact ⟨rfl, rfl, rfl, rfl⟩
  case round =>
    obtain ⟨rfl, rfl, rfl, rfl⟩ := hrel
    go_wp2
    rw [Exit.noGoto_ret]
    go_ret3
    exact ⟨rfl, rfl⟩
theorem number_any (a : Option Addr) (len cap : Nat) (l : List (BitVec 8)) (w : World) (h : Seen w a len l) :
    Calls Try.prog 76 #[.slice a len cap] w fun e w' => e = .returned (numV (num 0 0 l)) ∧ w' = w := by
  obtain ⟨rfl, hm, h⟩ := h
  rcases h with h | ⟨b, off, rfl, hc⟩
  · obtain rfl : l = [] := List.eq_nil_of_length_eq_zero h
    exact number_empty a cap w
  · exact number_cells b off cap l w hm hc
end Go.Proofs.Ytogbcciocgpknaa

namespace Go.Proofs.Ytogbcciocgpknaa
open Go.RowKit Cod
set_option linter.unusedVariables false

/-- A Reader of the bytes l, at a place, with an error or none. -/
def Rdr (w : World) (R : Nat) (l : List (BitVec 8)) (at_ why : Nat) : Prop :=
  ∃ a cap, w.heap[R]? = some (.cells #[.slice a l.length cap, .int .i64 at_, .int .i64 why] 99 (0, 0)) ∧ Seen w a l.length l ∧ (a = none → cap = 0) ∧ l.length ≤ cap ∧ (l ≠ [] → ∀ x, a = some x → x.block < R) ∧ at_ ≤ l.length ∧ l.length ≤ 140737488355328

theorem Seen.grown {w w' : World} {a : Option Addr} {len R : Nat} {l : List (BitVec 8)} (h : Seen w a len l) (hg : w.grownBy w' (some R)) (hne : l ≠ [] → ∀ x, a = some x → x.block < R) : Seen w' a len l := by
  obtain ⟨h1, h2, h3⟩ := h
  refine ⟨h1, h2, ?_⟩
  rcases h3 with h3 | ⟨b, off, ha, hc⟩
  · exact .inl h3
  · refine .inr ⟨b, off, ha, fun j hj => ?_⟩
    have hcj := hc j hj
    exact hg.cell hcj (fun e => Nat.ne_of_lt (hne (fun e => by subst e; simp at hj) _ ha) (by simpa using Option.some.inj e))
theorem Seen.lt {w : World} {a : Option Addr} {len : Nat} {l : List (BitVec 8)} (h : Seen w a len l) (hl : l ≠ []) (x : Addr) (hx : a = some x) : x.block < w.heap.size := by
  obtain ⟨h1, h2, h3⟩ := h
  have hp := List.length_pos_iff.2 hl
  rcases h3 with h3 | ⟨b, off, ha, hc⟩
  · omega
  · rw [ha] at hx
    cases hx
    exact World.block_lt_of_cell? w _ (hc 0 hp)
theorem rdr_new (w : World) (a : Option Addr) (cap : Nat) (l : List (BitVec 8)) (h : Seen w a l.length l) (hnil : a = none → cap = 0) (hk : l.length ≤ cap) (hm : l.length ≤ 140737488355328) :
    Rdr (w.alloc (.cells #[.slice a l.length cap, .int .i64 0, .int .i64 0] 99)) w.heap.size l 0 0 :=
  ⟨a, cap, heap_alloc_new w _, h.below ((Below.refl _ w).alloc (Nat.le_refl _) _), hnil, hk, fun hl x hx => by have := h.lt hl x hx; omega, Nat.zero_le _, hm⟩
theorem Rdr.cells {w : World} {R : Nat} {l : List (BitVec 8)} {at_ why : Nat} (h : Rdr w R l at_ why) :
    ∃ a cap, w.cell? ⟨R, 0, none⟩ = some (.slice a l.length cap) ∧ w.cell? ⟨R, 1, none⟩ = some (.int .i64 at_) ∧ w.cell? ⟨R, 2, none⟩ = some (.int .i64 why) ∧ w.frozen? ⟨R, 1, none⟩ = false ∧ w.frozen? ⟨R, 2, none⟩ = false := by
  obtain ⟨a, cap, h, _⟩ := h
  exact ⟨a, cap, by simp [World.cell?, h], by simp [World.cell?, h], by simp [World.cell?, h], by simp [World.frozen?, h], by simp [World.frozen?, h]⟩

theorem newReader_any (a : Option Addr) (len cap : Nat) (l : List (BitVec 8)) (w : World) (h : Seen w a len l) (hnil : a = none → cap = 0) (hm : len ≤ 140737488355328) :
    Calls Try.prog 32 #[.slice a len cap] w fun e w' => ∃ R, e = .returned (.pointer (some ⟨R, 0, none⟩)) ∧ w.heap.size ≤ R ∧ Rdr w' R l 0 0 ∧ Below w.heap.size w w' := by
  have HC := clone_any a len cap l w h hnil hm
  have HM : Hid _ := hm
  have HL : Hid _ := h.1
  clear h hnil hm
  go_enter Try.func32, Try.ntmps32
  go_wp2_with fail
  refine HC.mono ?_
  rintro e w1 ⟨v1, rfl, o1, b1⟩
  obtain ⟨a1, c1, rfl, s1, n1, k1⟩ := owned_seen o1 (by have := HM.out; unfold maxLen; omega)
  obtain rfl : len = l.length := HL.out
  go_wp2
  go_ret
  exact ⟨_, rfl, b1.size, rdr_new w1 a1 c1 l s1 n1 k1 HM.out, b1.alloc b1.size _⟩

/-- What a Reader is asked first: whether it has met an error. -/
theorem reads_any (R : Nat) (l : List (BitVec 8)) (at_ why : Nat) (w : World) (h : Rdr w R l at_ why) :
    Calls Try.prog 69 #[.pointer (some ⟨R, 0, none⟩)] w fun e w' => e = .returned (.bool ((why : Int) == 0)) ∧ w' = w := by
  obtain ⟨a, cap, c0, c1, c2, f1, f2⟩ := h.cells
  clear h
  go_enter Try.func69, Try.ntmps69
  go_wp2
  go_ret
  exact ⟨rfl, rfl⟩

/-- Reading a number. -/
def rU (l : List (BitVec 8)) (at_ why : Nat) : Nat × Nat × Nat := if why = 0 then ((num 0 0 (l.drop at_)).1, at_ + (num 0 0 (l.drop at_)).2.1, (num 0 0 (l.drop at_)).2.2) else (0, at_, why)
theorem rU_at (l : List (BitVec 8)) (at_ why : Nat) (h : at_ ≤ l.length) : (rU l at_ why).2.1 ≤ l.length := by
  unfold rU
  split
  · have := num_width (l.drop at_) 0 0
    simp at this ⊢
    omega
  · exact h
theorem Rdr.le {w : World} {R : Nat} {l : List (BitVec 8)} {at_ why : Nat} (h : Rdr w R l at_ why) : at_ ≤ l.length ∧ l.length ≤ 140737488355328 := by
  obtain ⟨a, cap, h⟩ := h
  exact ⟨h.2.2.2.2.2.1, h.2.2.2.2.2.2⟩
theorem grown_set (w : World) (a : Addr) (u : Value) : w.grownBy (w.setCell a u) (some a.block) :=
  ⟨rfl, rfl, rfl, by simp [World.setCell], fun k _ hk => Below.heap_setCell _ _ _ k (fun e => hk (by rw [e]))⟩
theorem set_block {w : World} {R : Nat} {cs : Array Value} {t : TypeId} {fr : Nat × Nat} (h : w.heap[R]? = some (.cells cs t fr)) (i : Nat) (v : Value) : (w.setCell ⟨R, i, none⟩ v).heap[R]? = some (.cells (cs.setIfInBounds i v) t fr) := by
  obtain ⟨hlt, hk⟩ := Array.getElem?_eq_some_iff.1 h
  show (w.heap.modify R _)[R]? = _
  rw [Array.getElem?_eq_getElem (by rw [Array.size_modify]; exact hlt), Array.getElem_modify_self, hk]
  rfl
/-- A Reader's place and error are written. -/
theorem Rdr.put {w : World} {R : Nat} {l : List (BitVec 8)} {at_ why : Nat} (h : Rdr w R l at_ why) (at' why' : Nat) (hat : at' ≤ l.length) :
    Rdr ((w.setCell ⟨R, 1, none⟩ (.int .i64 at')).setCell ⟨R, 2, none⟩ (.int .i64 why')) R l at' why' ∧ w.grownBy ((w.setCell ⟨R, 1, none⟩ (.int .i64 at')).setCell ⟨R, 2, none⟩ (.int .i64 why')) (some R) := by
  obtain ⟨a, cap, hh, hs, hn, hk, hne, hat0, hm⟩ := h
  have hg : w.grownBy ((w.setCell ⟨R, 1, none⟩ (.int .i64 at')).setCell ⟨R, 2, none⟩ (.int .i64 why')) (some R) := (grown_set w ⟨R, 1, none⟩ _).trans (grown_set _ ⟨R, 2, none⟩ _)
  refine ⟨⟨a, cap, ?_, hs.grown hg hne, hn, hk, hne, hat, hm⟩, hg⟩
  have h1 := set_block hh 1 (.int .i64 at')
  have h2 := set_block h1 2 (.int .i64 why')
  exact h2
theorem Seen.drop {w : World} {x : Addr} {len : Nat} {l : List (BitVec 8)} (h : Seen w (some x) len l) (k cap : Nat) (hk : k ≤ len) (hc : len ≤ cap) : Seen w (if cap = k then some x else some (x.add k)) (len - k) (l.drop k) := by
  obtain ⟨h1, h2, h3⟩ := h
  refine ⟨by simp; omega, by simp; omega, ?_⟩
  by_cases hl : len - k = 0
  · exact .inl hl
  · rw [if_neg (by omega)]
    rcases h3 with h3 | ⟨b, off, ha, hcc⟩
    · omega
    · cases ha
      refine .inr ⟨b, off + k, by rw [Addr.add_lit], fun j hj => ?_⟩
      simp at hj
      rw [Nat.add_assoc, hcc (k + j) (by omega)]
      simp
theorem Rdr.put_drew {w : World} {R : Nat} {l : List (BitVec 8)} {at_ why : Nat} (h : Rdr w R l at_ why) (n at' why' : Nat) (hat : at' ≤ l.length) :
    Rdr (((w.drewN n).setCell ⟨R, 1, none⟩ (.int .i64 at')).setCell ⟨R, 2, none⟩ (.int .i64 why')) R l at' why' ∧ w.grownBy (((w.drewN n).setCell ⟨R, 1, none⟩ (.int .i64 at')).setCell ⟨R, 2, none⟩ (.int .i64 why')) (some R) := by
  obtain ⟨h1, h2⟩ := Rdr.put (w := w.drewN n) h at' why' hat
  exact ⟨h1, ⟨h2.os, h2.tape, h2.output, h2.size, h2.block⟩⟩
theorem cell_set_far (w : World) (p q : Addr) (v : Value) (h : p ≠ q) : (w.setCell p v).cell? q = w.cell? q := by
  exact World.cell?_setCell_other _ _ _ _ h
theorem frozen_set (w : World) (p q : Addr) (v : Value) : (w.setCell p v).frozen? q = w.frozen? q := by
  simp
theorem number_is (a : Option Addr) (len cap : Nat) (l : List (BitVec 8)) (n wd y : Nat) (w : World) (h : Seen w a len l) (ht : num 0 0 l = (n, wd, y)) :
    Calls Try.prog 76 #[.slice a len cap] w fun e w' => e = .returned (.tuple #[.int .u64 n, .int .i64 wd, .int .i64 y]) ∧ w' = w := by
  have := number_any a len cap l w h
  rw [ht] at this
  exact this
set_option maxHeartbeats 400000 in
theorem rUint_go (R : Nat) (l : List (BitVec 8)) (at_ : Nat) (w : World) (h : Rdr w R l at_ 0) :
    Calls Try.prog 62 #[.pointer (some ⟨R, 0, none⟩)] w fun e w' => e = .returned (.int .u64 (rU l at_ 0).1) ∧ Rdr w' R l (rU l at_ 0).2.1 (rU l at_ 0).2.2 ∧ w.grownBy w' (some R) := by
  have HR := reads_any R l at_ 0 w h
  have HH : Hid _ := h
  obtain ⟨a, cap, hh, hs, hn, hk, hne, hat, hm⟩ := h
  have c0 : w.cell? ⟨R, 0, none⟩ = some (.slice a l.length cap) := by simp [World.cell?, hh]
  have c1 : w.cell? ⟨R, 1, none⟩ = some (.int .i64 at_) := by simp [World.cell?, hh]
  have f1 : w.frozen? ⟨R, 1, none⟩ = false := by simp [World.frozen?, hh]
  have f2 : w.frozen? ⟨R, 2, none⟩ = false := by simp [World.frozen?, hh]
  have c2 : w.cell? ⟨R, 2, none⟩ = some (.int .i64 (0 : Nat)) := by simp [World.cell?, hh]
  have g1 : ∀ nq v, ((w.drewN nq).setCell ⟨R, 1, none⟩ v).cell? ⟨R, 2, none⟩ = some (.int .i64 (0 : Nat)) := fun nq v => by rw [cell_set_far _ _ _ _ (by simp)]; exact c2
  have g2 : ∀ nq v, ((w.drewN nq).setCell ⟨R, 1, none⟩ v).frozen? ⟨R, 2, none⟩ = false := fun nq v => by rw [frozen_set]; exact f2
  have hm2 : at_ ≤ 140737488355328 := by omega
  obtain ⟨n, wd, y, ht⟩ : ∃ n wd y, num 0 0 (l.drop at_) = (n, wd, y) := ⟨_, _, _, rfl⟩
  have hwd : at_ + wd ≤ l.length := by have := num_width (l.drop at_) 0 0; rw [ht] at this; simp at this; omega
  have HT : Hid _ := ht
  have HU : Hid (rU l at_ 0 = (n, at_ + wd, y)) := by show rU l at_ 0 = _; simp [rU, ht]
  have hw2 : at_ + wd ≤ 140737488355328 := by omega
  rw [HU.out]
  have HN0 : Hid _ := hn
  clear hh hne hm hn ht
  cases a with
  | none =>
    have hl0 : l = [] := by
      obtain ⟨q1, q2, q3⟩ := hs
      rcases q3 with q3 | ⟨b, off, q, _⟩
      · exact List.eq_nil_of_length_eq_zero q3
      · cases q
    subst hl0
    obtain rfl : at_ = 0 := by simpa using hat
    obtain rfl := HN0.out rfl
    have hs' : Seen w none 0 [] := hs
    have e3 : (0, 0, 10) = (n, wd, y) := HT.out
    cases e3
    clear hs hwd hk hat hm2 hw2
    go_enter Try.func62, Try.ntmps62
    go_wp2_with fail
    refine HR.mono ?_
    rintro e w1 ⟨rfl, rfl⟩
    go_wp2_with fail
    go_quiet ((go_at_call 76; refine Calls.quiet_of_same (number_is _ _ _ [] 0 0 10 _ ?_ rfl); exact hs'.drewN _))
    go_wp2
    go_ret
    exact ⟨rfl, Rdr.put_drew HH.out nq 0 10 (Nat.le_refl _)⟩
  | some x =>
    go_enter Try.func62, Try.ntmps62
    go_wp2_with fail
    refine HR.mono ?_
    rintro e w1 ⟨rfl, rfl⟩
    go_wp2_with fail
    go_quiet ((go_at_call 76; refine Calls.quiet_of_same (number_is _ _ _ (l.drop at_) n wd y _ ?_ HT.out); exact (hs.drop at_ cap hat hk).drewN _))
    go_wp2
    all_goals go_ret
    all_goals rw [← Int.natCast_add]
    all_goals exact ⟨rfl, Rdr.put_drew HH.out nq (at_ + wd) y hwd⟩
/-- A Reader that has met an error reads nothing. -/
theorem rUint_no (R : Nat) (l : List (BitVec 8)) (at_ why : Nat) (hy : why ≠ 0) (w : World) (h : Rdr w R l at_ why) :
    Calls Try.prog 62 #[.pointer (some ⟨R, 0, none⟩)] w fun e w' => e = .returned (.int .u64 (0 : Nat)) ∧ w' = w := by
  have HR := reads_any R l at_ why w h
  have hy' : ((why : Int) == 0) = false := by simp; omega
  clear h hy
  rw [hy'] at HR
  go_enter Try.func62, Try.ntmps62
  go_wp2_with fail
  refine HR.mono ?_
  rintro e w1 ⟨rfl, rfl⟩
  go_wp2
  go_ret
  exact ⟨rfl, rfl⟩
theorem grown_refl (w : World) (row : Option Nat) : w.grownBy w row := ⟨rfl, rfl, rfl, Nat.le_refl _, fun _ _ _ => rfl⟩
/-- WHAT (*Reader).Uint DOES. -/
theorem rUint_any (R : Nat) (l : List (BitVec 8)) (at_ why : Nat) (w : World) (h : Rdr w R l at_ why) :
    Calls Try.prog 62 #[.pointer (some ⟨R, 0, none⟩)] w fun e w' => e = .returned (.int .u64 (rU l at_ why).1) ∧ Rdr w' R l (rU l at_ why).2.1 (rU l at_ why).2.2 ∧ w.grownBy w' (some R) := by
  by_cases hy : why = 0
  · subst hy
    exact rUint_go R l at_ w h
  · refine (rUint_no R l at_ why hy w h).mono ?_
    rintro e w' ⟨rfl, rfl⟩
    have : rU l at_ why = (0, at_, why) := by simp [rU, hy]
    rw [this]
    exact ⟨rfl, h, grown_refl _ _⟩
/-- What is left, or the error. -/
def rEnd (l : List (BitVec 8)) (at_ why : Nat) : Nat := if why ≠ 0 then why else if at_ < l.length then 11 else 0
theorem rEnd_any (R : Nat) (l : List (BitVec 8)) (at_ why : Nat) (w : World) (h : Rdr w R l at_ why) :
    Calls Try.prog 35 #[.pointer (some ⟨R, 0, none⟩)] w fun e w' => e = .returned (.int .i64 (rEnd l at_ why)) ∧ ∃ n, w' = w.drewN n := by
  obtain ⟨a, cap, c0, c1, c2, f1, f2⟩ := h.cells
  clear h
  by_cases hy : why = 0
  · subst hy
    by_cases hlt : at_ < l.length
    · have he : Hid (rEnd l at_ 0 = 11) := by show rEnd l at_ 0 = 11; simp [rEnd, hlt]
      go_enter Try.func35, Try.ntmps35
      go_wp2
      go_quiet (fail)
      go_wp2
      go_ret
      exact ⟨by rw [he.out]; rfl, _, rfl⟩
    · have he : Hid (rEnd l at_ 0 = 0) := by show rEnd l at_ 0 = 0; simp [rEnd, hlt]
      go_enter Try.func35, Try.ntmps35
      go_wp2
      go_quiet (fail)
      go_wp2
      go_ret
      exact ⟨by rw [he.out]; rfl, _, rfl⟩
  · have he : Hid (rEnd l at_ why = why) := by show rEnd l at_ why = why; simp [rEnd, hy]
    have hy' : ((why : Int) == 0) = false := by simp; omega
    have hy2 : ¬ ((why : Int) = 0) := by omega
    clear hy
    go_enter Try.func35, Try.ntmps35
    go_wp2
    go_ret
    exact ⟨by rw [he.out]; rfl, 0, rfl⟩
theorem rAt_any (R : Nat) (l : List (BitVec 8)) (at_ why : Nat) (w : World) (h : Rdr w R l at_ why) :
    Calls Try.prog 77 #[.pointer (some ⟨R, 0, none⟩)] w fun e w' => e = .returned (.int .i64 at_) ∧ w' = w := by
  obtain ⟨a, cap, c0, c1, c2, f1, f2⟩ := h.cells
  clear h
  go_enter Try.func77, Try.ntmps77
  go_wp2
  go_ret
  exact ⟨rfl, rfl⟩
end Go.Proofs.Ytogbcciocgpknaa

namespace Go.Proofs.Ytogbcciocgpknaa
open Go.RowKit Cod
set_option linter.unusedVariables false

theorem i64_xor_ones (a : Nat) (ha : a < 9223372036854775808) : bits .xor .i64 (a : Int) (-1) = -1 - (a : Int) := by
  show IntKind.i64.wrap ((BitVec.ofInt 64 (a : Int) ^^^ BitVec.ofInt 64 (-1)).toNat : Int) = _
  have h1 : BitVec.ofInt 64 (-1) = BitVec.allOnes 64 := by decide
  rw [h1, BitVec.xor_allOnes, BitVec.toNat_not, ofInt_u64 a (by omega)]
  simp [IntKind.wrap, IntKind.bits, IntKind.signed]
  omega
theorem i64_xor_none (a : Nat) (ha : a < 9223372036854775808) : bits .xor .i64 (a : Int) 0 = (a : Int) := by
  show IntKind.i64.wrap ((BitVec.ofInt 64 (a : Int) ^^^ BitVec.ofInt 64 0).toNat : Int) = _
  have h1 : BitVec.ofInt 64 0 = 0#64 := by decide
  rw [h1, BitVec.xor_zero, ofInt_u64 a (by omega)]
  simp [IntKind.wrap, IntKind.bits, IntKind.signed]
  omega
theorem zag_bits (n : Nat) (h : n < 18446744073709551616) : bits BinOp.xor IntKind.i64 (wrap64 ((n : Int) / 2)) (wrap64 (-wrap64 (bits BinOp.and IntKind.u64 (n : Int) 1))) = zag n := by
  have e1 : bits BinOp.and IntKind.u64 (n : Int) 1 = ((n % 2 : Nat) : Int) := by
    rw [show (1 : Int) = ((1 : Nat) : Int) from rfl, u64_and_nat _ _ h (by decide), Nat.and_one_is_mod]
  have e2 : wrap64 ((n : Int) / 2) = ((n / 2 : Nat) : Int) := by unfold wrap64; omega
  rw [e1, e2]
  unfold zag
  by_cases hp : n % 2 = 1
  · rw [hp, if_pos rfl, show wrap64 (-wrap64 ((1 : Nat) : Int)) = -1 from by unfold wrap64; omega, i64_xor_ones _ (by omega)]
    omega
  · have h0 : n % 2 = 0 := by omega
    rw [h0, if_neg (by omega), show wrap64 (-wrap64 ((0 : Nat) : Int)) = 0 from by unfold wrap64; omega, i64_xor_none _ (by omega)]
theorem num_lt : ∀ (l : List (BitVec 8)) (k acc : Nat), k ≤ 9 → acc < 128 ^ k → (num k acc l).1 < 18446744073709551616
  | [], k, acc, _, _ => by simp [num]
  | c :: r, k, acc, hk, ha => by
    unfold num
    split
    · simp
    · rename_i h1
      split
      · rename_i h2
        show acc + c.toNat * 128 ^ k < _
        by_cases e : k = 9
        · subst e
          have h3 : c.toNat ≤ 1 := by omega
          have h4 : c.toNat * 128 ^ 9 ≤ 1 * 128 ^ 9 := Nat.mul_le_mul_right _ h3
          omega
        · have h5 : 128 ^ k ≤ 128 ^ 8 := Nat.pow_le_pow_right (by omega) (by omega)
          have h4 : c.toNat * 128 ^ k ≤ 127 * 128 ^ 8 := Nat.mul_le_mul h2 h5
          omega
      · rename_i h2
        exact num_lt r (k + 1) _ (by omega) (on_lt ha)
theorem rU_lt (l : List (BitVec 8)) (at_ why : Nat) : (rU l at_ why).1 < 18446744073709551616 := by
  unfold rU
  split
  · exact num_lt _ 0 0 (by omega) (by simp)
  · simp
theorem rInt_any (R : Nat) (l : List (BitVec 8)) (at_ why : Nat) (w : World) (h : Rdr w R l at_ why) :
    Calls Try.prog 33 #[.pointer (some ⟨R, 0, none⟩)] w fun e w' => e = .returned (.int .i64 (zag (rU l at_ why).1)) ∧ Rdr w' R l (rU l at_ why).2.1 (rU l at_ why).2.2 ∧ w.grownBy w' (some R) := by
  have HC := rUint_any R l at_ why w h
  have hlt := rU_lt l at_ why
  obtain ⟨n, a1, y1, hr⟩ : ∃ n a1 y1, rU l at_ why = (n, a1, y1) := ⟨_, _, _, rfl⟩
  rw [hr] at HC hlt ⊢
  have HZ : Hid _ := zag_bits n hlt
  clear h hlt hr
  go_enter Try.func33, Try.ntmps33
  go_wp2_with fail
  refine HC.mono ?_
  rintro e w1 ⟨rfl, r1, g1⟩
  have R1 : Hid (Rdr w1 R l a1 y1) := r1
  have G1 : Hid _ := g1
  clear r1 g1 HC
  go_wp2
  go_ret
  exact ⟨by rw [← HZ.out]; rfl, R1.out, G1.out⟩
/-- A Reader's error is written, its place put back. -/
theorem refuse_any (R : Nat) (l : List (BitVec 8)) (at_ why at' why' : Nat) (w : World) (h : Rdr w R l at_ why) (hat : at' ≤ l.length) :
    Calls Try.prog 78 #[.pointer (some ⟨R, 0, none⟩), .int .i64 at', .int .i64 why'] w fun e w' => e = .returned (.tuple #[]) ∧ Rdr w' R l at' why' ∧ w.grownBy w' (some R) := by
  have HP : Hid _ := h.put at' why' hat
  obtain ⟨a, cap, c0, c1, c2, f1, f2⟩ := h.cells
  have g1 : ∀ v, (w.setCell ⟨R, 1, none⟩ v).cell? ⟨R, 2, none⟩ = some (.int .i64 why) := fun v => by rw [cell_set_far _ _ _ _ (by simp)]; exact c2
  have g2 : ∀ v, (w.setCell ⟨R, 1, none⟩ v).frozen? ⟨R, 2, none⟩ = false := fun v => by rw [frozen_set]; exact f2
  clear h
  go_enter Try.func78, Try.ntmps78
  go_wp2
  refine bodyPost_end (results_none rfl _ _ _) rfl ?_
  exact ⟨rfl, HP.out⟩
/-- Reading a truth. -/
def rB (l : List (BitVec 8)) (at_ why : Nat) : Bool × Nat × Nat :=
  if why ≠ 0 then (false, at_, why) else if at_ = l.length then (false, at_, 10) else if 1 < (l.getD at_ 0#8).toNat then (false, at_, 11) else (decide ((l.getD at_ 0#8).toNat = 1), at_ + 1, 0)
/-- Reading how many there are. -/
def rC (l : List (BitVec 8)) (most : Int) (at_ why : Nat) : Nat × Nat × Nat :=
  if (rU l at_ why).2.2 ≠ 0 then (0, (rU l at_ why).2.1, (rU l at_ why).2.2) else if most < 0 ∨ most < (rU l at_ why).1 then (0, at_, 3) else if l.length - (rU l at_ why).2.1 < (rU l at_ why).1 then (0, at_, 10) else rU l at_ why
/-- Reading bytes behind their length. -/
def rS (l : List (BitVec 8)) (at_ why : Nat) : List (BitVec 8) × Nat × Nat :=
  if (rC l 65536 at_ why).2.2 ≠ 0 then ([], (rC l 65536 at_ why).2.1, (rC l 65536 at_ why).2.2) else ((l.drop (rC l 65536 at_ why).2.1).take (rC l 65536 at_ why).1, (rC l 65536 at_ why).2.1 + (rC l 65536 at_ why).1, 0)
/-- What a walk asks of a Reader that stands ahead of its last byte. -/
theorem Rdr.byte {w : World} {R : Nat} {l : List (BitVec 8)} {at_ why : Nat} (h : Rdr w R l at_ why) (hlt : at_ < l.length) :
    ∃ b off cap, b ≠ R ∧ w.cell? ⟨R, 0, none⟩ = some (.slice (some ⟨b, off, none⟩) l.length cap) ∧ w.cell? ⟨b, off + at_, none⟩ = some (.int .u8 (V (l.getD at_ 0#8))) := by
  obtain ⟨a, cap, hh, hs, hn, hk, hne, hat, hm⟩ := h
  have hl : l ≠ [] := fun e => by subst e; simp at hlt
  rcases hs.2.2 with h3 | ⟨b, off, rfl, hc⟩
  · omega
  · exact ⟨b, off, cap, Nat.ne_of_lt (hne hl _ rfl), by simp [World.cell?, hh], hc at_ hlt⟩
theorem Rdr.put1 {w : World} {R : Nat} {l : List (BitVec 8)} {at_ why : Nat} (h : Rdr w R l at_ why) (n at' : Nat) (hat : at' ≤ l.length) :
    Rdr ((w.drewN n).setCell ⟨R, 1, none⟩ (.int .i64 at')) R l at' why ∧ w.grownBy ((w.drewN n).setCell ⟨R, 1, none⟩ (.int .i64 at')) (some R) := by
  obtain ⟨a, cap, hh, hs, hn, hk, hne, hat0, hm⟩ := h
  have hg : w.grownBy ((w.drewN n).setCell ⟨R, 1, none⟩ (.int .i64 at')) (some R) := by
    have := grown_set (w.drewN n) ⟨R, 1, none⟩ (.int .i64 at')
    exact ⟨this.os, this.tape, this.output, this.size, this.block⟩
  exact ⟨⟨a, cap, set_block (w := w.drewN n) hh 1 (.int .i64 at'), hs.grown hg hne, hn, hk, hne, hat, hm⟩, hg⟩
theorem Rdr.put2 {w : World} {R : Nat} {l : List (BitVec 8)} {at_ why : Nat} (h : Rdr w R l at_ why) (n why' : Nat) :
    Rdr ((w.drewN n).setCell ⟨R, 2, none⟩ (.int .i64 why')) R l at_ why' ∧ w.grownBy ((w.drewN n).setCell ⟨R, 2, none⟩ (.int .i64 why')) (some R) := by
  obtain ⟨a, cap, hh, hs, hn, hk, hne, hat0, hm⟩ := h
  have hg : w.grownBy ((w.drewN n).setCell ⟨R, 2, none⟩ (.int .i64 why')) (some R) := by
    have := grown_set (w.drewN n) ⟨R, 2, none⟩ (.int .i64 why')
    exact ⟨this.os, this.tape, this.output, this.size, this.block⟩
  exact ⟨⟨a, cap, set_block (w := w.drewN n) hh 2 (.int .i64 why'), hs.grown hg hne, hn, hk, hne, hat0, hm⟩, hg⟩
theorem grown_drewN {w w' : World} {row : Option Nat} (h : w.grownBy w' row) (n : Nat) : w.grownBy (w'.drewN n) row := ⟨h.os, h.tape, h.output, h.size, h.block⟩
theorem Rdr.drew' {w : World} {R : Nat} {l : List (BitVec 8)} {at_ why : Nat} (h : Rdr w R l at_ why) (n : Nat) : Rdr (w.drewN n) R l at_ why := h
set_option maxHeartbeats 400000 in
theorem rBool_any (R : Nat) (l : List (BitVec 8)) (at_ why : Nat) (w : World) (h : Rdr w R l at_ why) :
    Calls Try.prog 42 #[.pointer (some ⟨R, 0, none⟩)] w fun e w' => e = .returned (.bool (rB l at_ why).1) ∧ Rdr w' R l (rB l at_ why).2.1 (rB l at_ why).2.2 ∧ w.grownBy w' (some R) := by
  have HR := reads_any R l at_ why w h
  have HH : Hid (Rdr w R l at_ why) := h
  obtain ⟨a, cap, c0, c1, c2, f1, f2⟩ := h.cells
  have hle := h.le
  by_cases hy : why = 0
  · subst hy
    by_cases hlt : at_ < l.length
    · obtain ⟨b, off, cap', hbR, c0', cb⟩ := h.byte hlt
      have hcx : (l.getD at_ 0#8).toNat = (l.getD at_ 0#8).toNat := rfl
      by_cases hc : 1 < (l.getD at_ 0#8).toNat
      · have hv : Hid (rB l at_ 0 = (false, at_, 11)) := by
          show rB l at_ 0 = _
          rw [rB, if_neg (by simp), if_neg (by omega), if_pos hc]
        have hc' : 1 < V (l.getD at_ 0#8) := by unfold V; omega
        rw [hv.out]
        have hne : ¬ ((at_ : Int) = l.length) := by omega
        generalize l.getD at_ 0#8 = c at *
        clear h c0 hcx hc
        go_enter Try.func42, Try.ntmps42
        go_wp2_with fail
        refine HR.mono ?_
        rintro e w1 ⟨rfl, rfl⟩
        go_wp2
        go_quiet (fail)
        go_wp2
        go_quiet (fail)
        go_wp2
        go_ret
        exact ⟨rfl, Rdr.put2 HH.out _ 11⟩
      · have hv : Hid (rB l at_ 0 = (decide ((l.getD at_ 0#8).toNat = 1), at_ + 1, 0)) := by
          show rB l at_ 0 = _
          rw [rB, if_neg (by simp), if_neg (by omega), if_neg hc]
        have hc' : V (l.getD at_ 0#8) ≤ 1 := by unfold V; omega
        have hv1 : Hid (decide ((l.getD at_ 0#8).toNat = 1) = (V (l.getD at_ 0#8) == 1)) := by
          show decide ((l.getD at_ 0#8).toNat = 1) = (V (l.getD at_ 0#8) == 1)
          unfold V
          by_cases e : (l.getD at_ 0#8).toNat = 1
          · rw [e]; rfl
          · rw [decide_eq_false e]; symm; rw [beq_eq_false_iff_ne]; omega
        rw [hv.out, hv1.out]
        have hne : ¬ ((at_ : Int) = l.length) := by omega
        have cb2 : ∀ n v, ((w.drewN n).setCell ⟨R, 1, none⟩ v).cell? ⟨b, off + at_, none⟩ = some (.int .u8 (V (l.getD at_ 0#8))) := fun n v => by rw [cell_set_far _ _ _ _ (fun e => hbR (congrArg Addr.block e).symm)]; exact cb
        have cb3 : ∀ n v, ((w.drewN n).setCell ⟨R, 1, none⟩ v).cell? ⟨R, 0, none⟩ = some (.slice (some ⟨b, off, none⟩) l.length cap') := fun n v => by rw [cell_set_far _ _ _ _ (by simp)]; exact c0'
        generalize l.getD at_ 0#8 = c at *
        clear h c0 hcx hc
        go_enter Try.func42, Try.ntmps42
        go_wp2_with fail
        refine HR.mono ?_
        rintro e w1 ⟨rfl, rfl⟩
        go_wp2
        go_quiet (fail)
        go_wp2
        go_quiet (fail)
        go_wp2
        go_quiet (fail)
        go_wp2
        go_ret
        rw [show ((at_ : Int) + 1) = ((at_ + 1 : Nat) : Int) from rfl]
        exact ⟨rfl, (Rdr.put1 HH.out _ (at_ + 1) hlt).1, grown_drewN (Rdr.put1 HH.out _ (at_ + 1) hlt).2 _⟩
    · have hat : at_ = l.length := by omega
      have hv : Hid (rB l at_ 0 = (false, at_, 10)) := by
        show rB l at_ 0 = _
        rw [rB, if_neg (by simp), if_pos hat]
      rw [hv.out]
      have hat' : (at_ : Int) = l.length := by omega
      clear h hlt hat
      go_enter Try.func42, Try.ntmps42
      go_wp2_with fail
      refine HR.mono ?_
      rintro e w1 ⟨rfl, rfl⟩
      go_wp2
      go_quiet (fail)
      go_wp2
      go_ret
      exact ⟨rfl, Rdr.put2 HH.out _ 10⟩
  · have hv : Hid (rB l at_ why = (false, at_, why)) := by
      show rB l at_ why = _
      rw [rB, if_pos hy]
    rw [hv.out]
    have hy' : ((why : Int) == 0) = false := by simp; omega
    rw [hy'] at HR
    clear h hy
    go_enter Try.func42, Try.ntmps42
    go_wp2_with fail
    refine HR.mono ?_
    rintro e w1 ⟨rfl, rfl⟩
    go_wp2
    go_ret
    exact ⟨rfl, HH.out, grown_refl _ _⟩
theorem rU_zero {l : List (BitVec 8)} {at_ why : Nat} (h : (rU l at_ why).2.2 ≠ 0) : (rU l at_ why).1 = 0 ∧ (rU l at_ why).2.1 = at_ := by
  unfold rU at h ⊢
  split
  · rename_i hy
    rw [if_pos hy] at h
    have := num_short (l.drop at_) 0 0 h
    exact ⟨this.1, by simp [this.2]⟩
  · exact ⟨rfl, rfl⟩
set_option maxHeartbeats 800000 in
theorem rCount_any (R : Nat) (l : List (BitVec 8)) (most : Int) (hmost : most < 9223372036854775808) (at_ why : Nat) (w : World) (h : Rdr w R l at_ why) :
    Calls Try.prog 70 #[.pointer (some ⟨R, 0, none⟩), .int .i64 most] w fun e w' => e = .returned (.int .i64 (rC l most at_ why).1) ∧ Rdr w' R l (rC l most at_ why).2.1 (rC l most at_ why).2.2 ∧ w.grownBy w' (some R) := by
  have HA := rAt_any R l at_ why w h
  have HU := rUint_any R l at_ why w h
  have hlt := rU_lt l at_ why
  have hle := h.le
  have hat2 := rU_at l at_ why hle.1
  obtain ⟨n, a1, y1, hr⟩ : ∃ n a1 y1, rU l at_ why = (n, a1, y1) := ⟨_, _, _, rfl⟩
  rw [hr] at HU hlt hat2
  simp only at HU hlt hat2
  have HLE : Hid _ := hle.1
  have hmx := hle.2
  by_cases hy : y1 = 0
  · subst hy
    by_cases hm : most < 0
    · have hv : Hid (rC l most at_ why = (0, at_, 3)) := by
        show rC l most at_ why = _
        simp [rC, hr, hm]
      rw [hv.out]
      clear h hle hlt hat2 hmx hr
      go_enter Try.func70, Try.ntmps70
      go_wp2_with fail
      refine HA.mono ?_
      rintro e w1 ⟨rfl, rfl⟩
      go_wp2_with fail
      refine HU.mono ?_
      rintro e w2 ⟨rfl, r2, g2⟩
      have R2 : Hid (Rdr w2 R l a1 0) := r2
      have G2 : Hid _ := g2
      clear r2 g2
      go_wp2_with fail
      refine (reads_any R l a1 0 w2 R2.out).mono ?_
      rintro e w3 ⟨rfl, rfl⟩
      go_wp2_with fail
      refine (refuse_any R l a1 0 at_ 3 _ R2.out HLE.out).mono ?_
      rintro e w4 ⟨rfl, r4, g4⟩
      have R4 : Hid (Rdr w4 R l at_ 3) := r4
      have G4 : Hid _ := G2.out.trans g4
      clear r4 g4
      go_wp2
      go_ret
      exact ⟨rfl, R4.out, G4.out⟩
    · have hwm : IntKind.u64.wrap most = most := by rw [IntKind.wrap_u64]; omega
      have hwl : IntKind.u64.wrap ((l.length : Int) - a1) = (l.length : Int) - a1 := by rw [IntKind.wrap_u64]; omega
      have hnn : ¬ (most < 0) := hm
      by_cases hgt : most < n
      · have hv : Hid (rC l most at_ why = (0, at_, 3)) := by
          show rC l most at_ why = _
          simp [rC, hr, hgt]
        rw [hv.out]
        clear h hle hr hlt hat2 hmx hmost
        go_enter Try.func70, Try.ntmps70
        go_wp2_with fail
        refine HA.mono ?_
        rintro e w1 ⟨rfl, rfl⟩
        go_wp2_with fail
        refine HU.mono ?_
        rintro e w2 ⟨rfl, r2, g2⟩
        have R2 : Hid (Rdr w2 R l a1 0) := r2
        have G2 : Hid _ := g2
        obtain ⟨a, cap, c0, c1, c2, f1, f2⟩ := r2.cells
        clear r2 g2
        go_wp2_with fail
        refine (reads_any R l a1 0 w2 R2.out).mono ?_
        rintro e w3 ⟨rfl, rfl⟩
        go_wp2_with fail
        refine (refuse_any R l a1 0 at_ 3 _ R2.out HLE.out).mono ?_
        rintro e w4 ⟨rfl, r4, g4⟩
        have R4 : Hid (Rdr w4 R l at_ 3) := r4
        have G4 : Hid _ := G2.out.trans g4
        clear r4 g4
        go_wp2
        go_ret
        exact ⟨rfl, R4.out, G4.out⟩
      · by_cases hsh : l.length - a1 < n
        · have hv : Hid (rC l most at_ why = (0, at_, 10)) := by
            show rC l most at_ why = _
            simp only [rC, hr]
            rw [if_neg (by simp), if_neg (by omega), if_pos hsh]
          rw [hv.out]
          have hsh' : (l.length : Int) - a1 < n := by omega
          clear h hle hr hlt hsh hmost
          go_enter Try.func70, Try.ntmps70
          go_wp2_with fail
          refine HA.mono ?_
          rintro e w1 ⟨rfl, rfl⟩
          go_wp2_with fail
          refine HU.mono ?_
          rintro e w2 ⟨rfl, r2, g2⟩
          have R2 : Hid (Rdr w2 R l a1 0) := r2
          have G2 : Hid _ := g2
          obtain ⟨a, cap, c0, c1, c2, f1, f2⟩ := r2.cells
          clear r2 g2
          go_wp2_with fail
          refine (reads_any R l a1 0 w2 R2.out).mono ?_
          rintro e w3 ⟨rfl, rfl⟩
          go_wp2
          go_quiet (fail)
          go_wp2_with fail
          refine (refuse_any R l a1 0 at_ 10 _ (Rdr.drew' R2.out _) HLE.out).mono ?_
          rintro e w4 ⟨rfl, r4, g4⟩
          have R4 : Hid (Rdr w4 R l at_ 10) := r4
          have G4 : Hid _ := (grown_drewN G2.out _).trans g4
          clear r4 g4
          go_wp2
          go_ret
          exact ⟨rfl, R4.out, G4.out⟩
        · have hv : Hid (rC l most at_ why = (n, a1, 0)) := by
            show rC l most at_ why = _
            simp only [rC, hr]
            rw [if_neg (by simp), if_neg (by omega), if_neg hsh]
          rw [hv.out]
          have hsh' : ¬ ((l.length : Int) - a1 < n) := by omega
          have hwn : wrap64 (n : Int) = n := by unfold wrap64; omega
          clear h hle hr hlt hsh hmost
          go_enter Try.func70, Try.ntmps70
          go_wp2_with fail
          refine HA.mono ?_
          rintro e w1 ⟨rfl, rfl⟩
          go_wp2_with fail
          refine HU.mono ?_
          rintro e w2 ⟨rfl, r2, g2⟩
          have R2 : Hid (Rdr w2 R l a1 0) := r2
          have G2 : Hid _ := g2
          obtain ⟨a, cap, c0, c1, c2, f1, f2⟩ := r2.cells
          clear r2 g2
          go_wp2_with fail
          refine (reads_any R l a1 0 w2 R2.out).mono ?_
          rintro e w3 ⟨rfl, rfl⟩
          go_wp2
          go_quiet (fail)
          go_wp2
          go_ret
          exact ⟨rfl, Rdr.drew' R2.out _, grown_drewN G2.out _⟩
  · have hv : Hid (rC l most at_ why = (0, a1, y1)) := by
      show rC l most at_ why = _
      simp [rC, hr, hy]
    rw [hv.out]
    have hy' : ((y1 : Int) == 0) = false := by simp; omega
    clear h hle hlt hat2 hmx hr hy
    go_enter Try.func70, Try.ntmps70
    go_wp2_with fail
    refine HA.mono ?_
    rintro e w1 ⟨rfl, rfl⟩
    go_wp2_with fail
    refine HU.mono ?_
    rintro e w2 ⟨rfl, r2, g2⟩
    have R2 : Hid (Rdr w2 R l a1 y1) := r2
    have G2 : Hid _ := g2
    clear r2 g2
    go_wp2_with fail
    refine (reads_any R l a1 y1 w2 R2.out).mono ?_
    rintro e w3 ⟨rfl, rfl⟩
    go_wp2
    go_ret
    exact ⟨rfl, R2.out, G2.out⟩
end Go.Proofs.Ytogbcciocgpknaa
