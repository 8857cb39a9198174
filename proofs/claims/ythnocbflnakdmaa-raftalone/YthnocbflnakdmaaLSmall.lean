/- Package rlog: Base, Last, Term, Len, Newer. -/
import Derived.Test.YthnocbflnakdmaaLStand
namespace Go.Proofs.Ythnocbflnakdmaa
open Go.RowKit
attribute [local go_sem] Oper.semAt_some
set_option linter.unusedVariables false

theorem inv_base (v : Value) (w : World) : (callMethod (.iface 110 v) "almoner/rlog.term" #[]).run Try.prog w = .ok (.enter 120 #[v]) w := by kernel_rfl
theorem inv_entry (v : Value) (w : World) : (callMethod (.iface 108 v) "almoner/rlog.term" #[]).run Try.prog w = .ok (.enter 119 #[v]) w := by kernel_rfl
theorem eql_base (v : Value) (w : World) : (binOp .eql 84 (.iface 110 v) .nilIface).run Try.prog w = .ok (.bool false) w := by kernel_rfl
theorem eql_entry (v : Value) (w : World) : (binOp .eql 84 (.iface 108 v) .nilIface).run Try.prog w = .ok (.bool false) w := by kernel_rfl
theorem eql_nil (w : World) : (binOp .eql 84 .nilIface .nilIface).run Try.prog w = .ok (.bool true) w := by kernel_rfl
section
variable {w : World} {base N : Nat} {B T : Int} {sv : Value} {L : List EntV}
set_option maxRecDepth 100000 in
set_option maxHeartbeats 1600000 in
theorem base_any (h : LogIn w base N B T sv L) : Calls Try.prog 24 #[.pointer (some ⟨N, 0, none⟩)] w fun e w' => e = .returned (.tuple #[.int .i64 B, .int .i64 T]) ∧ Below w.heap.size w w' := by
  have c0 := h.c0
  have c1 := h.c1
  clear h
  go_enter Try.func24, Try.ntmps24
  go_wp2
  go_quiet (fail)
  go_wp2
  go_ret2
  exact ⟨rfl, below_drewN' (Below.refl _ _) _⟩
/-- A place that has a term. -/
def PlaceIs (pv : Value) (t : Int) : Prop := pv = baseP t ∨ ∃ k, pv = entP k t
theorem place_base (T : Int) : PlaceIs (baseP T) T := .inl rfl
theorem place_entry (k : Nat) (t : Int) : PlaceIs (entP k t) t := .inr ⟨k, rfl⟩
theorem term_baseB (T : Int) (w : World) : Calls Try.prog 120 #[.agg #[.int .i64 T]] w fun e w' => e = .returned (.int .i64 T) ∧ Below w.heap.size w w' :=
  (term_base T w).mono (by rintro e w' ⟨rfl, rfl⟩; exact ⟨rfl, (Below.refl _ w).alloc (Nat.le_refl _) _⟩)
theorem term_entryB (k t : Int) (w : World) : Calls Try.prog 119 #[.agg #[.int .i64 k, .int .i64 t]] w fun e w' => e = .returned (.int .i64 t) ∧ Below w.heap.size w w' :=
  (term_entry k t w).mono (by rintro e w' ⟨rfl, rfl⟩; exact ⟨rfl, (Below.refl _ w).alloc (Nat.le_refl _) _⟩)
/-- The term of a place. -/
def stand (B T : Int) (L : List EntV) (at_ : Int) : Option Int := if at_ = B then some T else if B < at_ then (L[(at_ - B - 1).toNat]?).map (·.1.1) else none
theorem stand_cases (B T : Int) (L : List EntV) (at_ : Int) : (at_ = B ∧ stand B T L at_ = some T) ∨ (∃ (k : Nat) (hk : k < L.length), at_ = B + 1 + k ∧ stand B T L at_ = some L[k].1.1) ∨ ((at_ < B ∨ B + L.length < at_) ∧ stand B T L at_ = none) := by
  unfold stand
  by_cases h1 : at_ = B
  · exact .inl ⟨h1, by rw [if_pos h1]⟩
  · by_cases h2 : B < at_
    · rw [if_neg h1, if_pos h2]
      by_cases h3 : (at_ - B - 1).toNat < L.length
      · exact .inr (.inl ⟨(at_ - B - 1).toNat, h3, by omega, by rw [List.getElem?_eq_getElem h3]; rfl⟩)
      · exact .inr (.inr ⟨.inr (by omega), by rw [List.getElem?_eq_none (by omega)]; rfl⟩)
    · exact .inr (.inr ⟨.inl (by omega), by rw [if_neg h1, if_neg h2]⟩)
theorem stand_base (B T : Int) (L : List EntV) : stand B T L B = some T := by simp [stand]
theorem stand_entry (B T : Int) (L : List EntV) (k : Nat) (hk : k < L.length) : stand B T L (B + 1 + k) = some L[k].1.1 := by
  unfold stand
  rw [if_neg (by omega), if_pos (by omega), show (B + 1 + (k : Int) - B - 1).toNat = k by omega, List.getElem?_eq_getElem hk]
  rfl
/-- What a place is, as the code has it. -/
def PlaceAt (B T : Int) (L : List EntV) (at_ : Int) (pv : Value) : Prop := match stand B T L at_ with | some t => PlaceIs pv t | none => pv = .nilIface
theorem stands_any (h : LogIn w base N B T sv L) (at_ : Int) (hhi : at_ ≤ 9223372036854775807) : Calls Try.prog 37 #[.pointer (some ⟨N, 0, none⟩), .int .i64 at_] w fun e w' => ∃ pv, e = .returned pv ∧ Below w.heap.size w w' ∧ PlaceAt B T L at_ pv := by
  rcases stand_cases B T L at_ with ⟨rfl, h1⟩ | ⟨k, hk, h2, h1⟩ | ⟨h2, h1⟩
  · exact (stands_base h).mono (by rintro e w' ⟨rfl, b⟩; exact ⟨_, rfl, b, by unfold PlaceAt; rw [h1]; exact place_base T⟩)
  · exact (stands_entry h k hk at_ h2).mono (by rintro e w' ⟨rfl, b⟩; exact ⟨_, rfl, b, by unfold PlaceAt; rw [h1]; exact place_entry k _⟩)
  · exact (stands_none h at_ hhi h2).mono (by rintro e w' ⟨rfl, b⟩; exact ⟨_, rfl, b, by unfold PlaceAt; rw [h1]⟩)
set_option maxRecDepth 100000 in
set_option maxHeartbeats 1600000 in
theorem term_some (h : LogIn w base N B T sv L) (at_ : Int) (hhi : at_ ≤ 9223372036854775807) (t : Int) (ht : stand B T L at_ = some t) : Calls Try.prog 53 #[.pointer (some ⟨N, 0, none⟩), .int .i64 at_] w fun e w' => e = .returned (.tuple #[.int .i64 t, .int .i64 0]) ∧ Below w.heap.size w w' := by
  have HS := stands_any h at_ hhi
  unfold PlaceAt at HS
  rw [ht] at HS
  have i0 := inv_base
  have e0 := eql_base
  have i1 := inv_entry
  have e1 := eql_entry
  clear h ht hhi
  go_enter Try.func53, Try.ntmps53
  go_wp2_with fail
  refine HS.mono ?_
  rintro e w1 ⟨pv, rfl, b1, hp⟩
  clear HS
  have hp' : pv = baseP t ∨ ∃ k, pv = entP k t := hp
  clear hp
  rcases hp' with hp | ⟨k, hp⟩
  all_goals
    rw [hp]
    clear hp
    first | unfold baseP | unfold entP
    go_wp2_with fail
    first | refine (term_baseB _ w1).mono ?_ | refine (term_entryB _ _ w1).mono ?_
    rintro e w2 ⟨rfl, b2⟩
    go_wp2
    go_ret2
    exact ⟨rfl, b1.trans (b2.mono b1.size)⟩
set_option maxRecDepth 100000 in
set_option maxHeartbeats 1600000 in
theorem term_no (h : LogIn w base N B T sv L) (at_ : Int) (hhi : at_ ≤ 9223372036854775807) (ht : stand B T L at_ = none) : Calls Try.prog 53 #[.pointer (some ⟨N, 0, none⟩), .int .i64 at_] w fun e w' => e = .returned (.tuple #[.int .i64 0, .int .i64 1]) ∧ Below w.heap.size w w' := by
  have HS := stands_any h at_ hhi
  unfold PlaceAt at HS
  rw [ht] at HS
  have e0 := eql_nil
  clear h ht hhi
  go_enter Try.func53, Try.ntmps53
  go_wp2_with fail
  refine HS.mono ?_
  rintro e w1 ⟨pv, rfl, b1, hp⟩
  clear HS
  have hp' : pv = .nilIface := hp
  rw [hp']
  clear hp hp'
  go_wp2
  go_ret2
  exact ⟨rfl, b1⟩
/-- The last place's term. -/
def lastT (T : Int) (L : List EntV) : Int := match L.getLast? with | some e => e.1.1 | none => T
theorem stand_last (B T : Int) (L : List EntV) : stand B T L (B + L.length) = some (lastT T L) := by
  rcases List.eq_nil_or_concat L with rfl | ⟨l, e, he⟩
  · simp [stand, lastT]
  · obtain rfl : L = l ++ [e] := by simpa using he
    have := stand_entry B T (l ++ [e]) l.length (by simp)
    rw [show B + ((l ++ [e]).length : Int) = B + 1 + (l.length : Int) by simp; omega, this]
    simp [lastT]
set_option maxRecDepth 100000 in
set_option maxHeartbeats 1600000 in
theorem last_any (h : LogIn w base N B T sv L) : Calls Try.prog 25 #[.pointer (some ⟨N, 0, none⟩)] w fun e w' => e = .returned (.tuple #[.int .i64 (B + L.length), .int .i64 (lastT T L)]) ∧ Below w.heap.size w w' := by
  have c0 := h.c0
  have c2 := h.c2
  obtain ⟨a, c, e, _⟩ := h.sv_form
  have hB := h.bB
  have hl := h.len
  have HS : ∀ q, Hid (Calls Try.prog 37 #[.pointer (some ⟨N, 0, none⟩), .int .i64 (B + L.length)] (w.drewN q) fun e w' => ∃ pv, e = .returned pv ∧ Below (w.drewN q).heap.size (w.drewN q) w' ∧ PlaceIs pv (lastT T L)) := fun q => by
    have := stands_any (h.below (below_drewN' (Below.refl _ _) q)) (B + L.length) (by omega)
    unfold PlaceAt at this
    rw [stand_last] at this
    exact this
  subst e
  generalize lastT T L = t at *
  clear h
  generalize L.length = n at *
  obtain ⟨m, em⟩ : ∃ m : Int, B + (n : Int) = m := ⟨_, rfl⟩
  have hw : wrap64 (B + (n : Int)) = m := by unfold wrap64; omega
  rw [em] at HS
  rw [em]
  have i0 := inv_base
  have i1 := inv_entry
  clear em hB hl
  go_enter Try.func25, Try.ntmps25
  go_wp2
  go_quiet (fail)
  go_wp2_with fail
  refine (HS _).out.mono ?_
  rintro e w1 ⟨pv, rfl, b1, hp⟩
  clear HS
  have hp' : pv = baseP t ∨ ∃ k, pv = entP k t := hp
  clear hp
  rcases hp' with hp | ⟨k, hp⟩
  all_goals
    rw [hp]
    clear hp
    first | unfold baseP | unfold entP
    go_wp2_with fail
    first | refine (term_baseB _ w1).mono ?_ | refine (term_entryB _ _ w1).mono ?_
    rintro e w2 ⟨rfl, b2⟩
    go_wp2
    go_ret2
    exact ⟨rfl, (below_drewN' (Below.refl _ w) _).trans (b1.trans (b2.mono b1.size))⟩
/-- Whether an end is as new. -/
def newer (at_ t lp lt : Int) : Bool := decide (lt < t) || (decide (t = lt) && decide (lp ≤ at_))
set_option maxRecDepth 100000 in
set_option maxHeartbeats 1600000 in
theorem newer_any (h : LogIn w base N B T sv L) (at_ t : Int) : Calls Try.prog 76 #[.pointer (some ⟨N, 0, none⟩), .int .i64 at_, .int .i64 t] w fun e w' => e = .returned (.bool (newer at_ t (B + L.length) (lastT T L))) ∧ Below w.heap.size w w' := by
  have HL := last_any h
  clear h
  generalize B + (L.length : Int) = m at *
  generalize lastT T L = u at *
  unfold newer
  by_cases h1 : u < t
  · rw [decide_eq_true h1, Bool.true_or]
    go_enter Try.func76, Try.ntmps76
    go_wp2_with fail
    refine HL.mono ?_
    rintro e w1 ⟨rfl, b1⟩
    clear HL
    go_wp2
    go_ret
    exact ⟨rfl, b1⟩
  · rw [decide_eq_false h1, Bool.false_or]
    by_cases h2 : t = u
    · rw [decide_eq_true h2, Bool.true_and]
      go_enter Try.func76, Try.ntmps76
      go_wp2_with fail
      refine HL.mono ?_
      rintro e w1 ⟨rfl, b1⟩
      clear HL
      go_wp2
      go_ret
      exact ⟨rfl, b1⟩
    · rw [decide_eq_false h2, Bool.false_and]
      have h3 : (t == u) = false := by simpa using h2
      go_enter Try.func76, Try.ntmps76
      go_wp2_with fail
      refine HL.mono ?_
      rintro e w1 ⟨rfl, b1⟩
      clear HL
      go_wp2
      go_ret
      exact ⟨by show Ending.returned (Value.bool (decide (u < t))) = _; rw [decide_eq_false (by omega)], b1⟩
end
end Go.Proofs.Ythnocbflnakdmaa
