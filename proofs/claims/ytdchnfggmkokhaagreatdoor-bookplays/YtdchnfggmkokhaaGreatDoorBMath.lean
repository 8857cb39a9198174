/- Package book, plainly: accounts in the order of their names. -/
import Derived.Test.YtdchnfggmkokhaaGreatDoorMem
import Derived.Lib.Bytealg
namespace Go.Proofs.YtdchnfggmkokhaaGreatDoor
open Go.RowKit
set_option linter.unusedVariables false

/-- An account: its name, what is in it, who holds it. -/
structure Acc where
  nm : ByteArray
  amt : Int
  by_ : ByteArray
def Acc.cells (p : Acc) : List Value := [.string p.nm, .int .i64 p.amt, .string p.by_]
def cells3 (l : List Acc) : List Value := l.flatMap Acc.cells
theorem cells3_nil : cells3 [] = [] := rfl
theorem cells3_cons (p : Acc) (l : List Acc) : cells3 (p :: l) = p.cells ++ cells3 l := rfl
theorem cells3_append (a b : List Acc) : cells3 (a ++ b) = cells3 a ++ cells3 b := by simp [cells3]
theorem cells3_length : ∀ l : List Acc, (cells3 l).length = l.length * 3
  | [] => rfl
  | p :: l => by rw [cells3_cons, List.length_append, cells3_length l]; simp [Acc.cells]; omega
theorem cells3_at : ∀ (l : List Acc) (i : Nat) (hi : i < l.length), (cells3 l)[i * 3]? = some (.string l[i].nm) ∧ (cells3 l)[i * 3 + 1]? = some (.int .i64 l[i].amt) ∧ (cells3 l)[i * 3 + 2]? = some (.string l[i].by_)
  | p :: l, 0, _ => ⟨rfl, rfl, rfl⟩
  | p :: l, i + 1, hi => by
    obtain ⟨h1, h2, h3⟩ := cells3_at l i (by simpa using hi)
    have e : ∀ j, (cells3 (p :: l))[(i + 1) * 3 + j]? = (cells3 l)[i * 3 + j]? := fun j => by
      rw [cells3_cons, List.getElem?_append_right (by simp [Acc.cells]; omega)]
      congr 1
      simp [Acc.cells]
      omega
    have e0 := e 0
    simp only [Nat.add_zero] at e0
    rw [e0, e, e]
    exact ⟨h1, h2, h3⟩
theorem cells3_take (l : List Acc) (k : Nat) : cells3 (l.take k) = (cells3 l).take (k * 3) := by
  induction l generalizing k with
  | nil => simp [cells3]
  | cons e l ih =>
    cases k with
    | zero => simp [cells3]
    | succ k =>
      have e1 : (k + 1) * 3 = k * 3 + 1 + 1 + 1 := by omega
      rw [List.take_succ_cons, cells3_cons, cells3_cons, ih k, e1]
      simp [Acc.cells]
theorem cells3_drop (l : List Acc) (k : Nat) : cells3 (l.drop k) = (cells3 l).drop (k * 3) := by
  induction l generalizing k with
  | nil => simp [cells3]
  | cons e l ih =>
    cases k with
    | zero => simp [cells3]
    | succ k =>
      have e1 : (k + 1) * 3 = k * 3 + 1 + 1 + 1 := by omega
      rw [List.drop_succ_cons, cells3_cons, ih k, e1]
      simp [Acc.cells]
/-- A text stands ahead of another one. -/
def Ahead (a b : ByteArray) : Prop := a.data.toList < b.data.toList
instance (a b : ByteArray) : Decidable (Ahead a b) := by unfold Ahead; infer_instance
theorem text_ext {a b : ByteArray} (h : a.data.toList = b.data.toList) : a = b := by
  cases a with | mk a => cases b with | mk b => simp at h; rw [h]
theorem ahead_irrefl (a : ByteArray) : ¬ Ahead a a := List.lt_irrefl _
theorem ahead_trans {a b c : ByteArray} (h : Ahead a b) (k : Ahead b c) : Ahead a c := List.lt_trans h k
theorem ahead_total (a b : ByteArray) : Ahead a b ∨ a = b ∨ Ahead b a := by
  by_cases h : Ahead a b
  · exact .inl h
  · by_cases k : Ahead b a
    · exact .inr (.inr k)
    · exact .inr (.inl (text_ext (List.le_antisymm (List.not_lt.1 k) (List.not_lt.1 h))))
theorem ahead_not {a b : ByteArray} (h : ¬ Ahead a b) (n : a ≠ b) : Ahead b a := by
  rcases ahead_total a b with x | x | x
  · exact absurd x h
  · exact absurd x n
  · exact x
theorem cmpB_neg : ∀ (a b : List UInt8), Lib.compareBytes a b < 0 ↔ a < b
  | [], [] => by simp [Lib.compareBytes]
  | [], b :: ys => by simp [Lib.compareBytes]
  | a :: xs, [] => by simp [Lib.compareBytes]
  | a :: xs, b :: ys => by
    unfold Lib.compareBytes
    rw [List.cons_lt_cons_iff]
    by_cases h1 : a < b
    · simp [h1]
    · by_cases h2 : b < a
      · simp only [h1, h2, if_true, if_false]
        constructor
        · intro x; omega
        · rintro (x | ⟨rfl, _⟩)
          · exact x.elim
          · exact absurd h2 h1
      · have e : a = b := UInt8.le_antisymm (UInt8.not_lt.1 h2) (UInt8.not_lt.1 h1)
        subst e
        simp only [h1, if_false]
        rw [cmpB_neg xs ys]
        simp
theorem cmpB_zero : ∀ (a b : List UInt8), Lib.compareBytes a b = 0 ↔ a = b
  | [], [] => by simp [Lib.compareBytes]
  | [], b :: ys => by simp [Lib.compareBytes]
  | a :: xs, [] => by simp [Lib.compareBytes]
  | a :: xs, b :: ys => by
    unfold Lib.compareBytes
    by_cases h1 : a < b
    · simp only [h1, if_true]
      constructor
      · intro x; omega
      · intro x; injection x with x _; subst x; exact absurd h1 (UInt8.lt_irrefl _)
    · by_cases h2 : b < a
      · simp only [h1, h2, if_true, if_false]
        constructor
        · intro x; omega
        · intro x; injection x with x _; subst x; exact absurd h2 (UInt8.lt_irrefl _)
      · have e : a = b := UInt8.le_antisymm (UInt8.not_lt.1 h2) (UInt8.not_lt.1 h1)
        subst e
        simp only [h1, if_false]
        rw [cmpB_zero xs ys]
        simp
/-- Which of two texts stands ahead, as a number. -/
def cmpT (a b : ByteArray) : Int := Lib.compareBytes a.data.toList b.data.toList
theorem cmpT_neg (a b : ByteArray) : cmpT a b < 0 ↔ Ahead a b := cmpB_neg _ _
theorem cmpT_zero (a b : ByteArray) : cmpT a b = 0 ↔ a = b := by
  unfold cmpT
  rw [cmpB_zero]
  exact ⟨text_ext, fun h => by rw [h]⟩
/-- In the order of their names. -/
def Sorted (l : List Acc) : Prop := l.Pairwise (fun p q => Ahead p.nm q.nm)
/-- How many stand ahead of a name. -/
def under (l : List Acc) (s : ByteArray) : Nat := l.countP (fun p => decide (Ahead p.nm s))
theorem under_nil (s : ByteArray) : under [] s = 0 := rfl
theorem under_cons (p : Acc) (l : List Acc) (s : ByteArray) : under (p :: l) s = under l s + (if Ahead p.nm s then 1 else 0) := by
  unfold under
  rw [List.countP_cons]
  simp
theorem under_le (l : List Acc) (s : ByteArray) : under l s ≤ l.length := List.countP_le_length
theorem Sorted.tail {p : Acc} {l : List Acc} (h : Sorted (p :: l)) : Sorted l := (List.pairwise_cons.1 h).2
theorem Sorted.head {p : Acc} {l : List Acc} (h : Sorted (p :: l)) : ∀ q ∈ l, Ahead p.nm q.nm := (List.pairwise_cons.1 h).1
theorem lt_under {l : List Acc} (h : Sorted l) {k : Nat} {s : ByteArray} : k < under l s ↔ ∃ hk : k < l.length, Ahead l[k].nm s := by
  induction l generalizing k with
  | nil => simp [under_nil]
  | cons p l ih =>
    rw [under_cons]
    by_cases hp : Ahead p.nm s
    · rw [if_pos hp]
      cases k with
      | zero => exact ⟨fun _ => ⟨by simp, hp⟩, fun _ => by omega⟩
      | succ k =>
        rw [show (k + 1 < under l s + 1) ↔ k < under l s by omega, ih h.tail]
        constructor
        · rintro ⟨hk, hl⟩; exact ⟨by simp; omega, by simpa using hl⟩
        · rintro ⟨hk, hl⟩; exact ⟨by simpa using hk, by simpa using hl⟩
    · rw [if_neg hp]
      have hno : ∀ q ∈ l, ¬ Ahead q.nm s := fun q hq x => hp (ahead_trans (h.head q hq) x)
      have h0 : under l s = 0 := by
        unfold under
        rw [List.countP_eq_zero]
        intro q hq
        simp [hno q hq]
      rw [h0]
      constructor
      · intro x; omega
      · rintro ⟨hk, hl⟩
        cases k with
        | zero => exact absurd hl hp
        | succ k =>
          have hk' : k < l.length := by simpa using hk
          exact absurd (show Ahead l[k].nm s by simpa using hl) (hno l[k] (List.getElem_mem hk'))
theorem under_split {l : List Acc} (h : Sorted l) {i : Nat} {s : ByteArray} (hi : i ≤ l.length) (h1 : ∀ j (hj : j < l.length), j < i → Ahead l[j].nm s) (h2 : ∀ j (hj : j < l.length), i ≤ j → ¬ Ahead l[j].nm s) : under l s = i := by
  have a1 : ¬ i < under l s := fun x => by obtain ⟨hk, y⟩ := (lt_under h).1 x; exact h2 i hk (Nat.le_refl _) y
  cases i with
  | zero => omega
  | succ i => have := (lt_under h (k := i) (s := s)).2 ⟨by omega, h1 i (by omega) (by omega)⟩; omega
/-- There is an account of a name. -/
def hasN (l : List Acc) (s : ByteArray) : Bool := l.any (fun p => decide (p.nm = s))
theorem hasN_mem (l : List Acc) (s : ByteArray) : hasN l s = true ↔ ∃ p ∈ l, p.nm = s := by simp [hasN]
theorem hasN_iff {l : List Acc} (h : Sorted l) (s : ByteArray) : hasN l s = true ↔ ∃ hk : under l s < l.length, l[under l s].nm = s := by
  rw [hasN_mem]
  constructor
  · rintro ⟨p, hp, rfl⟩
    obtain ⟨k, hk, e⟩ := List.getElem_of_mem hp
    have e2 : under l p.nm = k := by
      refine under_split h (by omega) (fun j hj hjk => ?_) (fun j hj hkj x => ?_)
      · have := (List.pairwise_iff_getElem.1 h) j k hj hk hjk
        rw [e] at this
        exact this
      · rcases Nat.lt_or_ge k j with q | q
        · have := (List.pairwise_iff_getElem.1 h) k j hk hj q
          rw [e] at this
          exact ahead_irrefl _ (ahead_trans this x)
        · obtain rfl : j = k := by omega
          rw [e] at x
          exact ahead_irrefl _ x
    exact ⟨by omega, by simp only [e2]; rw [e]⟩
  · rintro ⟨hk, e⟩
    exact ⟨_, List.getElem_mem hk, e⟩
/-- The account of a name. -/
def getA (l : List Acc) (s : ByteArray) : Option Acc := l.find? (fun p => decide (p.nm = s))
theorem getA_none (l : List Acc) (s : ByteArray) : getA l s = none ↔ hasN l s = false := by
  unfold getA hasN
  rw [List.find?_eq_none, List.any_eq_false]
theorem getA_some {l : List Acc} (h : Sorted l) {s : ByteArray} (hh : hasN l s = true) : ∃ hk : under l s < l.length, getA l s = some l[under l s] ∧ l[under l s].nm = s := by
  obtain ⟨hk, e⟩ := (hasN_iff h s).1 hh
  refine ⟨hk, ?_, e⟩
  cases hg : getA l s with
  | none => rw [getA_none] at hg; rw [hg] at hh; cases hh
  | some p =>
    have h1 := List.find?_some hg
    have h2 := List.mem_of_find?_eq_some hg
    have h3 : p.nm = s := by simpa using h1
    obtain ⟨k, hk2, e2⟩ := List.getElem_of_mem h2
    have e3 : k = under l s := by
      rcases Nat.lt_trichotomy k (under l s) with q | q | q
      · have := (List.pairwise_iff_getElem.1 h) _ _ hk2 hk q
        rw [e2, e, h3] at this
        exact absurd this (ahead_irrefl _)
      · exact q
      · have := (List.pairwise_iff_getElem.1 h) _ _ hk hk2 q
        rw [e2, e, h3] at this
        exact absurd this (ahead_irrefl _)
    subst e3
    rw [e2]
/-- An account more. -/
def ins (l : List Acc) (a : Acc) : List Acc := l.take (under l a.nm) ++ a :: l.drop (under l a.nm)
theorem ins_length (l : List Acc) (a : Acc) : (ins l a).length = l.length + 1 := by
  have := under_le l a.nm
  simp [ins]
  omega
theorem mem_ins (l : List Acc) (a x : Acc) : x ∈ ins l a ↔ x = a ∨ x ∈ l := by
  unfold ins
  conv => rhs; rw [← List.take_append_drop (under l a.nm) l]
  simp only [List.mem_append, List.mem_cons]
  constructor
  · rintro (h | h | h)
    · exact .inr (.inl h)
    · exact .inl h
    · exact .inr (.inr h)
  · rintro (h | h | h)
    · exact .inr (.inl h)
    · exact .inl h
    · exact .inr (.inr h)
theorem sorted_ins {l : List Acc} (h : Sorted l) (a : Acc) (hn : hasN l a.nm = false) : Sorted (ins l a) := by
  have hne : ∀ p ∈ l, p.nm ≠ a.nm := fun p hp e => by
    have : hasN l a.nm = true := (hasN_mem _ _).2 ⟨p, hp, e⟩
    rw [hn] at this
    cases this
  unfold ins Sorted
  rw [List.pairwise_append, List.pairwise_cons]
  refine ⟨h.sublist (List.take_sublist _ _), ⟨fun q hq => ?_, h.sublist (List.drop_sublist _ _)⟩, fun p hp q hq => ?_⟩
  · obtain ⟨k, hk, e⟩ := List.getElem_of_mem hq
    rw [List.getElem_drop] at e
    have hk' : under l a.nm + k < l.length := by simp at hk; omega
    have := mt (lt_under h (k := under l a.nm + k) (s := a.nm)).2 (by omega)
    rw [← e]
    exact ahead_not (fun x => this ⟨hk', x⟩) (hne _ (List.getElem_mem hk'))
  · obtain ⟨k, hk, e⟩ := List.getElem_of_mem hp
    rw [List.getElem_take] at e
    have hk2 : k < under l a.nm := by simp at hk; omega
    obtain ⟨hk3, h4⟩ := (lt_under h).1 hk2
    rw [e] at h4
    rcases List.mem_cons.1 hq with rfl | hq
    · exact h4
    · obtain ⟨j, hj, e2⟩ := List.getElem_of_mem hq
      rw [List.getElem_drop] at e2
      have := (List.pairwise_iff_getElem.1 h) k (under l a.nm + j) hk3 (by simp at hj; omega) (by omega)
      rw [e, e2] at this
      exact this
/-- An account is turned. -/
def upd (l : List Acc) (a : Acc) : List Acc := l.set (under l a.nm) a
theorem upd_length (l : List Acc) (a : Acc) : (upd l a).length = l.length := by simp [upd]
theorem mem_upd {l : List Acc} {a x : Acc} (h : x ∈ upd l a) : x = a ∨ x ∈ l := (List.mem_or_eq_of_mem_set h).symm
theorem upd_names {l : List Acc} (h : Sorted l) (a : Acc) (hh : hasN l a.nm = true) : (upd l a).map (·.nm) = l.map (·.nm) := by
  obtain ⟨hk, e⟩ := (hasN_iff h _).1 hh
  unfold upd
  rw [List.map_set]
  refine List.ext_getElem (by simp) (fun i h1 h2 => ?_)
  rw [List.getElem_set]
  split
  · rename_i q
    subst q
    simp [e]
  · rfl
theorem sorted_names (l : List Acc) : Sorted l ↔ (l.map (·.nm)).Pairwise Ahead := by
  unfold Sorted
  rw [List.pairwise_map]
theorem sorted_upd {l : List Acc} (h : Sorted l) (a : Acc) (hh : hasN l a.nm = true) : Sorted (upd l a) := by
  rw [sorted_names, upd_names h a hh, ← sorted_names]
  exact h
theorem hasN_names (l : List Acc) (s : ByteArray) : hasN l s = true ↔ s ∈ l.map (·.nm) := by
  rw [hasN_mem, List.mem_map]
theorem hasN_upd {l : List Acc} (h : Sorted l) (a : Acc) (hh : hasN l a.nm = true) (s : ByteArray) : hasN (upd l a) s = hasN l s := by
  rw [Bool.eq_iff_iff, hasN_names, hasN_names, upd_names h a hh]
theorem getA_iff {l : List Acc} (h : Sorted l) (s : ByteArray) (p : Acc) : getA l s = some p ↔ p ∈ l ∧ p.nm = s := by
  constructor
  · intro hg
    exact ⟨List.mem_of_find?_eq_some hg, by simpa using List.find?_some hg⟩
  · rintro ⟨hp, rfl⟩
    have hh : hasN l p.nm = true := (hasN_mem _ _).2 ⟨p, hp, rfl⟩
    obtain ⟨hk, e1, e2⟩ := getA_some h hh
    rw [e1]
    obtain ⟨k, hk2, e3⟩ := List.getElem_of_mem hp
    have : k = under l p.nm := by
      rcases Nat.lt_trichotomy k (under l p.nm) with q | q | q
      · have := (List.pairwise_iff_getElem.1 h) _ _ hk2 hk q
        rw [e2, e3] at this
        exact absurd this (ahead_irrefl _)
      · exact q
      · have := (List.pairwise_iff_getElem.1 h) _ _ hk hk2 q
        rw [e2, e3] at this
        exact absurd this (ahead_irrefl _)
    subst this
    rw [e3]
theorem getA_ins {l : List Acc} (h : Sorted l) (a : Acc) (hn : hasN l a.nm = false) (s : ByteArray) : getA (ins l a) s = if a.nm = s then some a else getA l s := by
  have hs := sorted_ins h a hn
  by_cases e : a.nm = s
  · rw [if_pos e, getA_iff hs]
    exact ⟨(mem_ins _ _ _).2 (.inl rfl), e⟩
  · rw [if_neg e]
    cases hg : getA l s with
    | some p =>
      rw [getA_iff h] at hg
      rw [getA_iff hs]
      exact ⟨(mem_ins _ _ _).2 (.inr hg.1), hg.2⟩
    | none =>
      cases hg2 : getA (ins l a) s with
      | none => rfl
      | some p =>
        rw [getA_iff hs, mem_ins] at hg2
        obtain ⟨q | q, q2⟩ := hg2
        · subst q; exact absurd q2 e
        · rw [(getA_iff h s p).2 ⟨q, q2⟩] at hg; cases hg
theorem getA_upd {l : List Acc} (h : Sorted l) (a : Acc) (hh : hasN l a.nm = true) (s : ByteArray) : getA (upd l a) s = if a.nm = s then some a else getA l s := by
  have hs := sorted_upd h a hh
  obtain ⟨hk, hn⟩ := (hasN_iff h _).1 hh
  have hm : a ∈ upd l a := by
    unfold upd
    exact List.mem_set hk a
  by_cases e : a.nm = s
  · rw [if_pos e, getA_iff hs]
    exact ⟨hm, e⟩
  · rw [if_neg e]
    cases hg : getA l s with
    | some p =>
      rw [getA_iff h] at hg
      rw [getA_iff hs]
      refine ⟨?_, hg.2⟩
      obtain ⟨k, hk2, e3⟩ := List.getElem_of_mem hg.1
      have hne : under l a.nm ≠ k := fun q => by
        subst q
        rw [e3] at hn
        exact e (hn.symm.trans hg.2)
      have : (upd l a)[k]'(by rw [upd_length]; exact hk2) = p := by
        unfold upd
        rw [List.getElem_set_ne hne]
        exact e3
      rw [← this]
      exact List.getElem_mem _
    | none =>
      cases hg2 : getA (upd l a) s with
      | none => rfl
      | some p =>
        rw [getA_iff hs] at hg2
        rcases mem_upd hg2.1 with q | q
        · subst q; exact absurd hg2.2 e
        · rw [(getA_iff h s p).2 ⟨q, hg2.2⟩] at hg; cases hg
/-- What all have together. -/
def sumA (l : List Acc) : Int := (l.map (·.amt)).sum
theorem sumA_append (a b : List Acc) : sumA (a ++ b) = sumA a + sumA b := by simp [sumA]
theorem sumA_ins (l : List Acc) (a : Acc) : sumA (ins l a) = sumA l + a.amt := by
  have h : sumA l = sumA (l.take (under l a.nm)) + sumA (l.drop (under l a.nm)) := by rw [← sumA_append, List.take_append_drop]
  unfold ins
  rw [sumA_append, h]
  simp [sumA]
  omega
theorem sumA_set : ∀ (l : List Acc) (i : Nat) (hi : i < l.length) (a : Acc), sumA (l.set i a) = sumA l - l[i].amt + a.amt
  | p :: l, 0, _, a => by simp [sumA]; omega
  | p :: l, i + 1, hi, a => by
    have := sumA_set l i (by simpa using hi) a
    simp [sumA] at this ⊢
    omega
theorem sumA_upd {l : List Acc} (h : Sorted l) (a p : Acc) (hp : getA l a.nm = some p) : sumA (upd l a) = sumA l - p.amt + a.amt := by
  have hh : hasN l a.nm = true := by
    rw [getA_iff h] at hp
    exact (hasN_mem _ _).2 ⟨p, hp.1, hp.2⟩
  obtain ⟨hk, e1, _⟩ := getA_some h hh
  rw [hp] at e1
  injection e1 with e1
  unfold upd
  rw [sumA_set l _ hk, ← e1]
end Go.Proofs.YtdchnfggmkokhaaGreatDoor
