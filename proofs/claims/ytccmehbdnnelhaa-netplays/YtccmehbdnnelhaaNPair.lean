/- Package net and its reference: what each call answers, whether the net has had a letter or not. -/
import Derived.Test.YtccmehbdnnelhaaNGd
import Derived.Test.YtccmehbdnnelhaaNRTake
import Derived.Test.YtccmehbdnnelhaaNRefS
import Derived.Test.YtccmehbdnnelhaaNRefD
import Derived.Test.YtccmehbdnnelhaaNGg
namespace Go.Proofs.Ytccmehbdnnelhaa
open Go.RowKit Go.Maps
attribute [local go_sem] Oper.semAt_some
set_option linter.unusedVariables false
/-- What a Send answers. -/
def errS (fr to : Int) (b : List (BitVec 8)) (m : Nat) : Int := if (who fr && who to) = false then 1 else if 1048576 < b.length then 3 else if 10000 ≤ m then 4 else 0
theorem errS_who {fr to : Int} {b : List (BitVec 8)} {m : Nat} (h : (who fr && who to) = false) : errS fr to b m = 1 := by unfold errS; rw [if_pos h]
theorem errS_long {fr to : Int} {b : List (BitVec 8)} {m : Nat} (h : (who fr && who to) = true) (h1 : 1048576 < b.length) : errS fr to b m = 3 := by unfold errS; rw [if_neg (by rw [h]; simp), if_pos h1]
theorem errS_full {fr to : Int} {b : List (BitVec 8)} {m : Nat} (h : (who fr && who to) = true) (h1 : b.length ≤ 1048576) (h2 : 10000 ≤ m) : errS fr to b m = 4 := by unfold errS; rw [if_neg (by rw [h]; simp), if_neg (by omega), if_pos h2]
theorem errS_ok {fr to : Int} {b : List (BitVec 8)} {m : Nat} (h : (who fr && who to) = true) (h1 : b.length ≤ 1048576) (h2 : m < 10000) : errS fr to b m = 0 := by unfold errS; rw [if_neg (by rw [h]; simp), if_neg (by omega), if_neg (by omega)]
section
variable {w : World} {base N R T : Nat} {L : List Post} {v : Value} {ms : List OpN}
theorem NetS.len (h : NetS w base N L T) : L.length ≤ 10000 := by
  rcases h.2 with ⟨_, e, _⟩ | ⟨B, bx, h⟩
  · rw [e]; simp
  · exact h.len
/-- What a Send leaves. -/
def SentN (base N T : Nat) (L : List Post) (fr to : Int) (b : List (BitVec 8)) (w w' : World) : Prop :=
  (errS fr to b L.length ≠ 0 ∧ NetS w' base N L T ∧ NKeep base w w') ∨ (errS fr to b L.length = 0 ∧ ∃ dv, NetS w' base N (L ++ [⟨fr, to, dv, b, T⟩]) (T + 1) ∧ NKeep base w w' ∧ OwnAt w.heap.size w' dv b)
theorem sendN (h : NetS w base N L T) (fr to : Int) (a : Option Addr) (cap : Nat) (b : List (BitVec 8)) (hS : Seen w a b.length b) (hnil : a = none → cap = 0) (hT : T ≤ 100000000000) :
    Calls Try.prog 9 #[.pointer (some ⟨N, 0, none⟩), .int .i64 fr, .int .i64 to, .slice a b.length cap] w fun e w' => e = .returned (.int .i64 (errS fr to b L.length)) ∧ SentN base N T L fr to b w w' := by
  have sz := h.size
  have keep : ∀ w', Below w.heap.size w w' → NetS w' base N L T ∧ NKeep base w w' := fun w' k => ⟨h.below k, NKeep.of_below k sz⟩
  by_cases hl : L.length < 10000
  · refine (sendS_any h fr to a cap b hS hnil hl hT).mono ?_
    rintro e w' (⟨h1, rfl, k⟩ | ⟨h1, h2, rfl, k⟩ | ⟨h1, h2, rfl, dv, k1, k2, k3⟩)
    · exact ⟨by rw [errS_who h1], .inl ⟨by rw [errS_who h1]; decide, (keep w' k).1, (keep w' k).2⟩⟩
    · exact ⟨by rw [errS_long h1 h2], .inl ⟨by rw [errS_long h1 h2]; decide, (keep w' k).1, (keep w' k).2⟩⟩
    · exact ⟨by rw [errS_ok h1 h2 hl], .inr ⟨errS_ok h1 h2 hl, dv, k1, k2, k3⟩⟩
  · have hf : 10000 ≤ L.length := by omega
    rcases h.2 with ⟨_, e, _⟩ | ⟨B, bx, hn⟩
    · rw [e] at hf; simp at hf
    · refine (send_full hn fr to a cap b hS hnil hf).mono ?_
      rintro e w' (⟨h1, rfl, k⟩ | ⟨h1, h2, rfl, k⟩ | ⟨h1, h2, rfl, k⟩)
      · exact ⟨by rw [errS_who h1], .inl ⟨by rw [errS_who h1]; decide, (keep w' k).1, (keep w' k).2⟩⟩
      · exact ⟨by rw [errS_long h1 h2], .inl ⟨by rw [errS_long h1 h2]; decide, (keep w' k).1, (keep w' k).2⟩⟩
      · exact ⟨by rw [errS_full h1 h2 hf], .inl ⟨by rw [errS_full h1 h2 hf]; decide, (keep w' k).1, (keep w' k).2⟩⟩
def SentR (base R : Nat) (ms : List OpN) (fr to : Int) (b : List (BitVec 8)) (w w' : World) : Prop :=
  (errS fr to b ms.length ≠ 0 ∧ (∃ v', RefIn w' base R v' ms) ∧ RKeep base w w') ∨ (errS fr to b ms.length = 0 ∧ ∃ v' a c, RefIn w' base R v' (ms ++ [⟨0, fr, to, a, c, b⟩]) ∧ RKeep base w w' ∧ OwnAt w.heap.size w' (.slice a b.length c) b)
theorem rsendN (h : RefIn w base R v ms) (fr to : Int) (a : Option Addr) (cap : Nat) (b : List (BitVec 8)) (hS : Seen w a b.length b) (hnil : a = none → cap = 0) :
    Calls Try.prog 11 #[.pointer (some ⟨R, 0, none⟩), .int .i64 fr, .int .i64 to, .slice a b.length cap] w fun e w' => e = .returned (.int .i64 (errS fr to b ms.length)) ∧ SentR base R ms fr to b w w' := by
  have sz : base ≤ w.heap.size := Nat.le_of_lt (Nat.lt_of_le_of_lt h.bR h.lt)
  have keep : ∀ w', Below w.heap.size w w' → (∃ v', RefIn w' base R v' ms) ∧ RKeep base w w' := fun w' k => ⟨⟨v, h.below k⟩, RKeep.of_below k sz⟩
  refine (rsend_any h fr to a cap b hS hnil).mono ?_
  rintro e w' (⟨h1, rfl, k⟩ | ⟨h1, h2, rfl, k⟩ | ⟨h1, h2, h3, rfl, k⟩ | ⟨h1, h2, h3, rfl, v', a', c', k1, k2, k3⟩)
  · exact ⟨by rw [errS_who h1], .inl ⟨by rw [errS_who h1]; decide, (keep w' k).1, (keep w' k).2⟩⟩
  · exact ⟨by rw [errS_long h1 h2], .inl ⟨by rw [errS_long h1 h2]; decide, (keep w' k).1, (keep w' k).2⟩⟩
  · exact ⟨by rw [errS_full h1 h2 h3], .inl ⟨by rw [errS_full h1 h2 h3]; decide, (keep w' k).1, (keep w' k).2⟩⟩
  · exact ⟨by rw [errS_ok h1 h2 h3], .inr ⟨errS_ok h1 h2 h3, v', a', c', k1, k2, k3⟩⟩
/-- Take. -/
theorem takeN (h : NetS w base N L T) (k : Int) (hT : T ≤ 100000000000) : Calls Try.prog 13 #[.pointer (some ⟨N, 0, none⟩), .int .i64 k] w fun e w' =>
    ((k < 0 ∨ (L.length : Int) ≤ k) ∧ e = .returned (.tuple #[.agg #[.int .i64 0, .int .i64 0, .slice none 0 0], .int .i64 1]) ∧ Below w.heap.size w w') ∨
    ∃ (i : Nat) (hi : i < L.length) (v : Value), k = (i : Int) ∧ e = .returned (.tuple #[.agg #[.int .i64 L[i].fr, .int .i64 L[i].to, v], .int .i64 0]) ∧ OwnAt w.heap.size w' v L[i].b ∧ NetS w' base N (L.eraseIdx i) T ∧ NKeep base w w' := by
  obtain ⟨s, h⟩ := h
  rcases h with ⟨h, eL, eT⟩ | ⟨B, bx, h⟩
  · subst eT eL
    exact (take_first h k).mono fun e w' q => .inl ⟨by simp only [List.length_nil]; omega, q⟩
  · refine (takeS_any h s k (by omega)).mono fun e w' q => ?_
    rcases q with q | ⟨i, hi, v, e1, q1, q2, bx', q3, q4⟩
    · exact .inl q
    · exact .inr ⟨i, hi, v, e1, q1, q2, ⟨small_erase s i, .inr ⟨B, bx', q3⟩⟩, q4⟩
theorem lookN (h : NetS w base N L T) (k : Int) (hT : T ≤ 100000000000) : Calls Try.prog 21 #[.pointer (some ⟨N, 0, none⟩), .int .i64 k] w fun e w' => LookToldS w.heap.size L k w' e ∧ Below w.heap.size w w' := by
  obtain ⟨s, h⟩ := h
  rcases h with ⟨h, eL, eT⟩ | ⟨B, bx, h⟩
  · subst eT eL
    refine (look_first h k).mono fun e w' q => ⟨.inl ⟨?_, q.1⟩, q.2⟩
    simp only [List.length_nil]
    omega
  · exact lookS_any h s k (by omega)
theorem dropN (h : NetS w base N L T) (k : Int) (hT : T ≤ 100000000000) : Calls Try.prog 17 #[.pointer (some ⟨N, 0, none⟩), .int .i64 k] w fun e w' =>
    ((k < 0 ∨ (L.length : Int) ≤ k) ∧ e = .returned (.int .i64 1) ∧ Below w.heap.size w w') ∨ ∃ (i : Nat) (hi : i < L.length), k = (i : Int) ∧ e = .returned (.int .i64 0) ∧ NetS w' base N (L.eraseIdx i) T ∧ NKeep base w w' := by
  obtain ⟨s, h⟩ := h
  rcases h with ⟨h, eL, eT⟩ | ⟨B, bx, h⟩
  · subst eT eL
    exact (drop_first h k).mono fun e w' q => .inl ⟨by simp only [List.length_nil]; omega, q.1, q.2⟩
  · refine (drop_any h k (by omega)).mono fun e w' q => ?_
    rcases q with q | ⟨i, hi, e1, q1, bx', q3, q4⟩
    · exact .inl q
    · exact .inr ⟨i, hi, e1, q1, ⟨small_erase s i, .inr ⟨B, bx', q3⟩⟩, q4⟩
theorem doubleN (h : NetS w base N L T) (k : Int) (hT : T ≤ 100000000000) : Calls Try.prog 18 #[.pointer (some ⟨N, 0, none⟩), .int .i64 k] w fun e w' =>
    ((k < 0 ∨ (L.length : Int) ≤ k) ∧ e = .returned (.int .i64 1) ∧ Below w.heap.size w w') ∨ ∃ (i : Nat) (hi : i < L.length), k = (i : Int) ∧ ((10000 ≤ L.length ∧ e = .returned (.int .i64 4) ∧ Below w.heap.size w w') ∨ (L.length < 10000 ∧ e = .returned (.int .i64 0) ∧ NetS w' base N (L ++ [⟨L[i].fr, L[i].to, L[i].dv, L[i].b, T⟩]) (T + 1) ∧ NKeep base w w')) := by
  by_cases hl : L.length < 10000
  · refine (double_S h k hl hT).mono fun e w' q => ?_
    rcases q with q | ⟨i, hi, e1, q1, q2, q3⟩
    · exact .inl q
    · exact .inr ⟨i, hi, e1, .inr ⟨hl, q1, q2, q3⟩⟩
  · have hf : 10000 ≤ L.length := by omega
    rcases h.2 with ⟨_, e, _⟩ | ⟨B, bx, hn⟩
    · rw [e] at hf; simp at hf
    · refine (double_full hn k hf hT).mono fun e w' q => ?_
      rcases q with q | ⟨i, hi, e1, q1, q2⟩
      · exact .inl q
      · exact .inr ⟨i, hi, e1, .inl ⟨hf, q1, q2⟩⟩
theorem look_nilMap (k : Int) (w : World) : (Instr.lookup 36 (.map none) (.int .i64 k) false).run Try.prog w = .ok (.slice none 0 0) w := by kernel_rfl
set_option maxRecDepth 100000 in
set_option maxHeartbeats 1600000 in
theorem to_first (h : NilNet w base N T) (k : Int) : Calls Try.prog 24 #[.pointer (some ⟨N, 0, none⟩), .int .i64 k] w fun e w' => e = .returned (.int .i64 0) ∧ w' = w := by
  have c0 := h.c0
  have hl := look_nilMap k w
  clear h
  go_enter Try.func24, Try.ntmps24
  go_wp2
  go_ret
  exact ⟨rfl, rfl⟩
theorem toN (h : NetS w base N L T) {k : Int} (hk : kwf k) : Calls Try.prog 24 #[.pointer (some ⟨N, 0, none⟩), .int .i64 k] w fun e w' => e = .returned (.int .i64 ((box L k).length : Nat)) ∧ w' = w := by
  rcases h.2 with ⟨h1, e, _⟩ | ⟨B, bx, hn⟩
  · subst e
    exact to_first h1 k
  · exact to_any hn hk
theorem Twin.erase {L : List Post} {ms : List OpN} (h : Twin L ms) (i : Nat) : Twin (L.eraseIdx i) (ms.eraseIdx i) := by
  induction L generalizing ms i with
  | nil =>
    have : ms = [] := List.eq_nil_of_length_eq_zero h.1.symm
    subst this
    exact h
  | cons p L ih =>
    cases ms with
    | nil => have := h.1; simp at this
    | cons o ms =>
      cases i with
      | zero => exact h.tail
      | succ i =>
        have ih' := ih h.tail i
        obtain ⟨e1, e2, e3⟩ := h.2 0 (by simp) (by simp)
        simp only [List.getElem_cons_zero] at e1 e2 e3
        refine ⟨by have := ih'.1; simp only [List.eraseIdx_cons_succ, List.length_cons]; omega, fun j h1 h2 => ?_⟩
        simp only [List.eraseIdx_cons_succ] at h1 h2 ⊢
        cases j with
        | zero => exact ⟨e1, e2, e3⟩
        | succ j =>
          have := ih'.2 j (by simpa using h1) (by simpa using h2)
          simpa using this
theorem Twin.more {L : List Post} {ms : List OpN} (h : Twin L ms) {p : Post} {o : OpN} (e1 : p.fr = o.f) (e2 : p.to = o.n) (e3 : p.b = o.b) : Twin (L ++ [p]) (ms ++ [o]) := by
  have := h.snoc o p.dv p.t
  rw [← e1, ← e2, ← e3] at this
  exact this
end
end Go.Proofs.Ytccmehbdnnelhaa
