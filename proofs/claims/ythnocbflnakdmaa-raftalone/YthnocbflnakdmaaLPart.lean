/- Package rlog: from, Part. -/
import Derived.Test.YthnocbflnakdmaaLNew
namespace Go.Proofs.Ythnocbflnakdmaa
open Go.RowKit
attribute [local go_sem] Oper.semAt_some
set_option linter.unusedVariables false

theorem as_entry (v : Value) (w : World) : (Instr.typeAssert (.iface 108 v) 84 108 true).run Try.prog w = .ok (.tuple #[v, .bool true]) w := by kernel_rfl
theorem as_entry_base (v : Value) (w : World) : (Instr.typeAssert (.iface 110 v) 84 108 true).run Try.prog w = .ok (.tuple #[.agg #[.int .i64 0, .int .i64 0], .bool false]) w := by kernel_rfl
theorem as_entry_nil (w : World) : (Instr.typeAssert .nilIface 84 108 true).run Try.prog w = .ok (.tuple #[.agg #[.int .i64 0, .int .i64 0], .bool false]) w := by kernel_rfl
theorem as_base (v : Value) (w : World) : (Instr.typeAssert (.iface 110 v) 84 110 true).run Try.prog w = .ok (.tuple #[v, .bool true]) w := by kernel_rfl
theorem as_base_entry (v : Value) (w : World) : (Instr.typeAssert (.iface 108 v) 84 110 true).run Try.prog w = .ok (.tuple #[.agg #[.int .i64 0], .bool false]) w := by kernel_rfl
section
variable {w : World} {base N : Nat} {B T : Int} {sv : Value} {L : List EntV}
theorem from_nil (w : World) (N : Nat) : Calls Try.prog 36 #[.pointer (some ⟨N, 0, none⟩), .nilIface] w fun e w' => e = .returned (.slice none 0 0) ∧ w' = w := by
  have i0 := as_entry_nil
  go_enter Try.func36, Try.ntmps36
  go_wp2
  go_ret
  exact ⟨rfl, rfl⟩
theorem from_base (w : World) (N : Nat) (T : Int) : Calls Try.prog 36 #[.pointer (some ⟨N, 0, none⟩), baseP T] w fun e w' => e = .returned (.slice none 0 0) ∧ w' = w := by
  have i0 := as_entry_base
  unfold baseP
  go_enter Try.func36, Try.ntmps36
  go_wp2
  go_ret
  exact ⟨rfl, rfl⟩
theorem EntsAt.drop {w : World} {a a' : Option Addr} {n : Nat} {l : List Ent} (h : EntsAt w a n l) (k : Nat) (hk : k ≤ n) (ha : k < n → ∀ b off, a = some ⟨b, off, none⟩ → a' = some ⟨b, off + k * 2, none⟩) : EntsAt w a' (n - k) (l.drop k) := by
  refine ⟨by rw [List.length_drop, ← h.1], ?_⟩
  rcases Nat.lt_or_ge k n with hlt | hge
  · rcases h.2 with h0 | ⟨b, off, rfl, hc⟩
    · omega
    · refine .inr ⟨b, off + k * 2, ha hlt b off rfl, fun j hj => ?_⟩
      have hj' : k + j < l.length := by rw [List.length_drop] at hj; omega
      have := hc (k + j) hj'
      rw [show off + k * 2 + j * 2 = off + (k + j) * 2 by omega]
      simp only [List.getElem_drop]
      exact this
  · exact .inl (by omega)
theorem EntsAt.take {w : World} {a : Option Addr} {n : Nat} {l : List Ent} (h : EntsAt w a n l) (k : Nat) (hk : k ≤ n) : EntsAt w a k (l.take k) := by
  refine ⟨by rw [List.length_take, ← h.1]; omega, ?_⟩
  rcases h.2 with h0 | ⟨b, off, rfl, hc⟩
  · exact .inl (by omega)
  · refine .inr ⟨b, off, rfl, fun j hj => ?_⟩
    have hj' : j < l.length := by rw [List.length_take] at hj; omega
    simp only [List.getElem_take]
    exact hc j hj'
theorem LogIn.ents (h : LogIn w base N B T sv L) : ∃ a c, sv = .slice a L.length c ∧ EntsAt w a L.length (L.map Prod.fst) ∧ (a = none → c = 0) := row_ents h.row (fun e he => (h.dat e he).1)
set_option maxRecDepth 100000 in
set_option maxHeartbeats 1600000 in
theorem from_entry (h : LogIn w base N B T sv L) (k : Nat) (hk : k < L.length) (t : Int) : Calls Try.prog 36 #[.pointer (some ⟨N, 0, none⟩), entP k t] w fun e w' => Below w.heap.size w w' ∧ ∃ a c, e = .returned (.slice (some a) (L.length - k) c) ∧ EntsAt w' (some a) (L.length - k) ((L.map Prod.fst).drop k) ∧ (L.length - k ≤ c) ∧ ∀ x, x = a.block → sv.ownBlock = some x := by
  have i0 := as_entry
  obtain ⟨a, c, e, he, _⟩ := h.ents
  obtain ⟨g, c', e', z1, z2⟩ := row_at h.row hk
  clear z1 z2
  rw [e] at e'
  cases e'
  obtain ⟨_, _, e2, _, hc3, hc4, _⟩ := row_form h.row
  rw [e] at e2
  cases e2
  have hl := h.len
  subst e
  have bA := (Below.refl _ w).alloc (Nat.le_refl _) (.cells #[.int .i64 (k : Int), .int .i64 t] 108)
  have k2 := (h.below bA).c2
  have EA : Hid (EntsAt (w.alloc (.cells #[.int .i64 (k : Int), .int .i64 t] 108)) (some ⟨g, 0, none⟩) L.length (L.map Prod.fst)) := he.below bA
  have BA : Hid (Below w.heap.size w (w.alloc (.cells #[.int .i64 (k : Int), .int .i64 t] 108))) := bA
  clear h he bA
  generalize L.length = n at *
  have q1 : (k : Int) ≤ (n : Int) := by omega
  have q2 : n ≤ c := hc3
  have q3 : ¬ c = k := by omega
  have q4 : (n : Int) ≤ (c : Int) := by omega
  have q5 : (k : Int) ≤ (c : Int) := by omega
  have q6 : k ≤ n := by omega
  have q7 : k < 4096 := by omega
  unfold entP
  go_enter Try.func36, Try.ntmps36
  go_wp2
  go_quiet (fail)
  go_wp2
  go_ret
  refine ⟨below_drewN' BA.out _, ⟨g, k * 2, none⟩, c - k, rfl, ?_, by omega, fun x e => by subst e; rfl⟩
  exact (EA.out.drop k q6 (fun _ b off e => by cases e; simp)).below (below_drewN' (Below.refl _ _) _)
/-- The part of a log from a place on. -/
def partL (B : Int) (l : List Ent) (at_ : Int) (most : Int) : List Ent := if 0 < most ∧ B < at_ then (l.drop (at_ - B - 1).toNat).take most.toNat else []
/-- What comes of Part. -/
def PartTold (w w' : World) (p : List Ent) (e : Ending) : Prop := ∃ a c fs, e = .returned (.slice a p.length c) ∧ fs.map Prod.fst = p ∧ w'.ownsRow w.heap.size 52 2 (.slice a p.length c) p.length (entCells fs) ∧ (∀ e ∈ fs, DataAt w' e.2 e.1.2) ∧ Below w.heap.size w w'
theorem partTold_nil {w w' : World} (b : Below w.heap.size w w') : PartTold w w' [] (.returned (.slice none 0 0)) := ⟨none, 0, [], rfl, rfl, World.ownsRow_nil _ _ _ _, (fun e he => by cases he), b⟩
theorem ents_nil (w : World) : EntsAt w none 0 [] := ⟨rfl, .inl rfl⟩
set_option maxRecDepth 100000 in
set_option maxHeartbeats 1600000 in
theorem part_none (h : LogIn w base N B T sv L) (at_ most : Int) (hm : 0 < most) (hhi : at_ ≤ 9223372036854775807) (hn : ∀ k : Nat, k < L.length → at_ ≠ B + 1 + k) : Calls Try.prog 20 #[.pointer (some ⟨N, 0, none⟩), .int .i64 at_, .int .i64 most] w fun e w' => PartTold w w' [] e := by
  have HS : Calls Try.prog 37 #[.pointer (some ⟨N, 0, none⟩), .int .i64 at_] w fun e w' => ∃ pv, e = .returned pv ∧ Below w.heap.size w w' ∧ (pv = .nilIface ∨ pv = baseP T) := by
    rcases stand_cases B T L at_ with ⟨rfl, h1⟩ | ⟨k, hk, h2, h1⟩ | ⟨h2, h1⟩
    · exact (stands_base h).mono (by rintro e w' ⟨rfl, b⟩; exact ⟨_, rfl, b, .inr rfl⟩)
    · exact absurd h2 (hn k hk)
    · exact (stands_none h at_ hhi h2).mono (by rintro e w' ⟨rfl, b⟩; exact ⟨_, rfl, b, .inl rfl⟩)
  have HF : ∀ (w1 : World) (pv : Value), (pv = .nilIface ∨ pv = baseP T) → Calls Try.prog 36 #[.pointer (some ⟨N, 0, none⟩), pv] w1 fun e w' => e = .returned (.slice none 0 0) ∧ w' = w1 := by
    rintro w1 pv (rfl | rfl)
    · exact from_nil w1 N
    · exact from_base w1 N T
  have q0 : decide (most ≤ 0) = false := decide_eq_false (by omega)
  have q1 : (if (0 : Int) < most then (0 : Int) else most) = 0 := if_pos hm
  clear h hn hhi
  go_enter Try.func20, Try.ntmps20
  go_wp2_with fail
  refine HS.mono ?_
  clear HS
  rintro e w1 ⟨pv, rfl, b1, hp⟩
  go_wp2_with fail
  refine (HF w1 pv hp).mono ?_
  clear HF
  rintro e w2 ⟨rfl, rfl⟩
  have HC : Calls Try.prog 38 #[.slice none 0 0] w2 _ := copied_sl (ents_nil w2) (fun _ => rfl) (by omega)
  go_wp2_with fail
  refine HC.mono ?_
  clear HC
  rintro e w3 ⟨a3, c3, fs, rfl, f3, o3, d3, b3⟩
  go_wp2
  go_ret
  exact ⟨a3, c3, fs, rfl, f3, by
    have : fs = [] := by simpa using f3
    subst this
    refine ⟨rfl, o3.2.imp id ?_⟩
    rintro ⟨g, cap, cur, e1, e2, e3⟩
    exact ⟨g, cap, cur, e1, Nat.le_trans b1.size e2, e3⟩, d3, b1.trans (b3.mono b1.size)⟩
set_option maxRecDepth 100000 in
set_option maxHeartbeats 1600000 in
theorem part_entry (h : LogIn w base N B T sv L) (k : Nat) (hk : k < L.length) (at_ most : Int) (hm : 0 < most) (hat : at_ = B + 1 + k) : Calls Try.prog 20 #[.pointer (some ⟨N, 0, none⟩), .int .i64 at_, .int .i64 most] w fun e w' => PartTold w w' (((L.map Prod.fst).drop k).take most.toNat) e := by
  have HS := stands_entry h k hk at_ hat
  have hl := h.len
  have H : Hid (LogIn w base N B T sv L) := h
  have q0 : decide (most ≤ 0) = false := decide_eq_false (by omega)
  obtain ⟨m, em⟩ : ∃ m : Nat, min most.toNat (L.length - k) = m := ⟨_, rfl⟩
  have q1 : (if (((L.length - k : Nat) : Int)) < most then (((L.length - k : Nat) : Int)) else most) = (m : Int) := by split <;> omega
  have hpl : (((L.map Prod.fst).drop k).take most.toNat).length = m := by simp; omega
  have hpt : ((L.map Prod.fst).drop k).take most.toNat = ((L.map Prod.fst).drop k).take m := by
    rw [← em, ← List.take_take, List.take_of_length_le (i := L.length - k) (by simp)]
  have HPL : Hid _ := hpl
  have HPT : Hid _ := hpt
  obtain ⟨r, er⟩ : ∃ r : Nat, L.length - k = r := ⟨_, rfl⟩
  have hmr : m ≤ r := by omega
  rw [er] at q1
  have ER : Hid (L.length - k = r) := er
  have hr4 : r ≤ 4096 := by omega
  have hmi : (m : Int) ≤ (r : Int) := by omega
  clear h hat hl hpl hpt em er
  go_enter Try.func20, Try.ntmps20
  go_wp2_with fail
  refine HS.mono ?_
  clear HS
  rintro e w1 ⟨rfl, b1⟩
  have HF := from_entry (H.out.below b1) k hk L[k].1.1
  rw [ER.out] at HF
  go_wp2_with fail
  refine HF.mono ?_
  clear HF
  rintro e w2 ⟨b2, a2, c2, rfl, e2, hc, _⟩
  have HC : Calls Try.prog 38 #[.slice (some a2) m c2] w2 _ := copied_sl (e2.take m hmr) (fun e => by cases e) (by omega)
  have hmc : (m : Int) ≤ (c2 : Int) := by omega
  have hmc' : m ≤ c2 := by omega
  go_wp2_with fail
  refine HC.mono ?_
  clear HC
  rintro e w3 ⟨a3, c3, fs, rfl, f3, o3, d3, b3⟩
  go_wp2
  go_ret
  have bb := b1.trans (b2.mono b1.size)
  refine ⟨a3, c3, fs, by rw [HPL.out]; rfl, by rw [HPT.out]; exact f3, ?_, d3, bb.trans (b3.mono bb.size)⟩
  rw [HPL.out]
  refine ⟨o3.1, o3.2.imp id ?_⟩
  rintro ⟨g, cap, cur, e1, e2, e3⟩
  exact ⟨g, cap, cur, e1, Nat.le_trans bb.size e2, e3⟩
set_option maxRecDepth 100000 in
set_option maxHeartbeats 1600000 in
theorem part_zero (N : Nat) (at_ most : Int) (hm : most ≤ 0) : Calls Try.prog 20 #[.pointer (some ⟨N, 0, none⟩), .int .i64 at_, .int .i64 most] w fun e w' => e = .returned (.slice none 0 0) ∧ w' = w := by
  go_enter Try.func20, Try.ntmps20
  go_wp2
  go_ret
  exact ⟨rfl, rfl⟩
theorem part_any (h : LogIn w base N B T sv L) (at_ most : Int) (hhi : at_ ≤ 9223372036854775807) : Calls Try.prog 20 #[.pointer (some ⟨N, 0, none⟩), .int .i64 at_, .int .i64 most] w fun e w' => PartTold w w' (partL B (L.map Prod.fst) at_ most) e := by
  by_cases hm : 0 < most
  · by_cases hk : ∃ k : Nat, k < L.length ∧ at_ = B + 1 + k
    · obtain ⟨k, hk, hat⟩ := hk
      have e1 : partL B (L.map Prod.fst) at_ most = ((L.map Prod.fst).drop k).take most.toNat := by
        unfold partL
        rw [if_pos ⟨hm, by omega⟩, show (at_ - B - 1).toNat = k by omega]
      rw [e1]
      exact part_entry h k hk at_ most hm hat
    · have e1 : partL B (L.map Prod.fst) at_ most = [] := by
        unfold partL
        split
        · rename_i q
          rw [List.drop_of_length_le, List.take_nil]
          rcases Nat.lt_or_ge (at_ - B - 1).toNat L.length with hl | hl
          · exact absurd ⟨_, hl, by omega⟩ hk
          · simpa using hl
        · rfl
      rw [e1]
      exact part_none h at_ most hm hhi (fun k h1 h2 => hk ⟨k, h1, h2⟩)
  · have e1 : partL B (L.map Prod.fst) at_ most = [] := by
      unfold partL
      rw [if_neg (fun q => hm q.1)]
    rw [e1]
    refine (part_zero N at_ most (by omega)).mono ?_
    rintro e w' ⟨rfl, rfl⟩
    exact partTold_nil (Below.refl _ _)
end
end Go.Proofs.Ythnocbflnakdmaa
