/- Package net, plainly: letters on their way, each with its turn. -/
import Derived.Test.YtccmehbdnnelhaaMem
namespace Go.Proofs.Ytccmehbdnnelhaa
open Go.RowKit
set_option linter.unusedVariables false

/-- A letter on its way: from whom, to whom, its bytes (and the slice that has them), its turn. -/
structure Post where
  fr : Int
  to : Int
  dv : Value
  b : List (BitVec 8)
  t : Nat
instance : Inhabited Post := ⟨⟨0, 0, .slice none 0 0, [], 0⟩⟩
def Post.cells (p : Post) : List Value := [.int .i64 p.fr, .int .i64 p.to, p.dv, .int .i64 (p.t : Int)]
def cells4 (l : List Post) : List Value := l.flatMap Post.cells
theorem cells4_nil : cells4 [] = [] := rfl
theorem cells4_cons (p : Post) (l : List Post) : cells4 (p :: l) = p.cells ++ cells4 l := rfl
theorem cells4_append (a b : List Post) : cells4 (a ++ b) = cells4 a ++ cells4 b := by simp [cells4]
theorem cells4_length : ∀ l : List Post, (cells4 l).length = l.length * 4
  | [] => rfl
  | p :: l => by rw [cells4_cons, List.length_append, cells4_length l]; simp [Post.cells]; omega
theorem cells4_at : ∀ (l : List Post) (i : Nat) (hi : i < l.length), (cells4 l)[i * 4]? = some (.int .i64 l[i].fr) ∧ (cells4 l)[i * 4 + 1]? = some (.int .i64 l[i].to) ∧ (cells4 l)[i * 4 + 2]? = some l[i].dv ∧ (cells4 l)[i * 4 + 3]? = some (.int .i64 (l[i].t : Int))
  | p :: l, 0, _ => ⟨rfl, rfl, rfl, rfl⟩
  | p :: l, i + 1, hi => by
    obtain ⟨h1, h2, h3, h4⟩ := cells4_at l i (by simpa using hi)
    have e : ∀ j, (cells4 (p :: l))[(i + 1) * 4 + j]? = (cells4 l)[i * 4 + j]? := fun j => by
      rw [cells4_cons, List.getElem?_append_right (by simp [Post.cells]; omega)]
      congr 1
      simp [Post.cells]
      omega
    have e0 := e 0
    simp only [Nat.add_zero] at e0
    rw [e0, e, e, e]
    exact ⟨h1, h2, h3, h4⟩
/-- One behind the other. -/
def Rising (l : List Post) : Prop := l.Pairwise (fun p q => p.t < q.t)
/-- How many have their turn ahead of one. -/
def under (l : List Post) (t : Nat) : Nat := l.countP (fun p => decide (p.t < t))
theorem under_nil (t : Nat) : under [] t = 0 := rfl
theorem under_cons (p : Post) (l : List Post) (t : Nat) : under (p :: l) t = under l t + (if p.t < t then 1 else 0) := by
  unfold under
  rw [List.countP_cons]
  simp
theorem under_le (l : List Post) (t : Nat) : under l t ≤ l.length := List.countP_le_length
theorem Rising.tail {p : Post} {l : List Post} (h : Rising (p :: l)) : Rising l := (List.pairwise_cons.1 h).2
theorem Rising.head {p : Post} {l : List Post} (h : Rising (p :: l)) : ∀ q ∈ l, p.t < q.t := (List.pairwise_cons.1 h).1
/-- The k-th has its turn ahead of one just if more than k do. -/
theorem lt_under {l : List Post} (h : Rising l) {k t : Nat} : k < under l t ↔ ∃ hk : k < l.length, l[k].t < t := by
  induction l generalizing k with
  | nil => simp [under_nil]
  | cons p l ih =>
    rw [under_cons]
    by_cases hp : p.t < t
    · rw [if_pos hp]
      cases k with
      | zero => exact ⟨fun _ => ⟨by simp, hp⟩, fun _ => by omega⟩
      | succ k =>
        rw [show (k + 1 < under l t + 1) ↔ k < under l t by omega, ih h.tail]
        constructor
        · rintro ⟨hk, hl⟩; exact ⟨by simp; omega, by simpa using hl⟩
        · rintro ⟨hk, hl⟩; exact ⟨by simpa using hk, by simpa using hl⟩
    · rw [if_neg hp]
      have h0 : under l t = 0 := by
        unfold under
        rw [List.countP_eq_zero]
        intro q hq
        have := h.head q hq
        simp
        omega
      rw [h0]
      constructor
      · intro x; omega
      · rintro ⟨hk, hl⟩
        cases k with
        | zero => exact absurd hl hp
        | succ k =>
          have hm := h.head (l[k]'(by simpa using hk)) (List.getElem_mem _)
          have hl' : (l[k]'(by simpa using hk)).t < t := by simpa using hl
          omega
theorem under_at {l : List Post} (h : Rising l) {k : Nat} (hk : k < l.length) : under l l[k].t = k := by
  have h1 : ¬ k < under l l[k].t := fun x => by obtain ⟨_, y⟩ := (lt_under h).1 x; omega
  have h2 : ∀ j, j < k → j < under l l[k].t := fun j hj => (lt_under h).2 ⟨by omega, by
    exact (List.pairwise_iff_getElem.1 h) j k (by omega) hk hj⟩
  cases k with
  | zero => omega
  | succ k => have := h2 k (by omega); omega
theorem under_mono (l : List Post) {s t : Nat} (h : s ≤ t) : under l s ≤ under l t := by
  unfold under
  exact List.countP_mono_left fun p _ hp => by simp at hp ⊢; omega
/-- A letter has just that turn. -/
theorem found_at {l : List Post} (h : Rising l) (t : Nat) : (∃ p ∈ l, p.t = t) ↔ ∃ hk : under l t < l.length, l[under l t].t = t := by
  constructor
  · rintro ⟨p, hp, rfl⟩
    obtain ⟨k, hk, rfl⟩ := List.getElem_of_mem hp
    have e := under_at h hk
    exact ⟨by omega, by simp [e]⟩
  · rintro ⟨hk, e⟩
    exact ⟨_, List.getElem_mem hk, e⟩
/-- Those that go to somebody. -/
def box (L : List Post) (k : Int) : List Post := L.filter (fun p => decide (p.to = k))
theorem box_nil (k : Int) : box [] k = [] := rfl
theorem box_append (a b : List Post) (k : Int) : box (a ++ b) k = box a k ++ box b k := by simp [box]
theorem mem_box {L : List Post} {k : Int} {p : Post} : p ∈ box L k ↔ p ∈ L ∧ p.to = k := by simp [box]
theorem Rising.box {L : List Post} (h : Rising L) (k : Int) : Rising (box L k) := List.Pairwise.filter _ h
theorem box_len (L : List Post) (k : Int) : (box L k).length ≤ L.length := List.length_filter_le _ _
theorem box_post (L : List Post) (p : Post) (k : Int) : box (L ++ [p]) k = if p.to = k then box L k ++ [p] else box L k := by
  rw [box_append]
  by_cases h : p.to = k
  · simp [box, h]
  · simp [box, h]
theorem Rising.post {L : List Post} (h : Rising L) {p : Post} (hp : ∀ q ∈ L, q.t < p.t) : Rising (L ++ [p]) := by
  unfold Rising
  rw [List.pairwise_append]
  exact ⟨h, List.pairwise_singleton _ _, fun a ha b hb => by rw [List.mem_singleton.1 hb]; exact hp a ha⟩
theorem Rising.erase {L : List Post} (h : Rising L) (i : Nat) : Rising (L.eraseIdx i) := List.Pairwise.sublist (List.eraseIdx_sublist L i) h
/-- Where a letter stands in its box. -/
def spotOf (L : List Post) (i : Nat) : Nat := under (box L (L[i]!).to) (L[i]!).t
theorem spot_ok {L : List Post} (h : Rising L) {i : Nat} (hi : i < L.length) : ∃ hk : spotOf L i < (box L L[i].to).length, (box L L[i].to)[spotOf L i] = L[i] := by
  have hm : L[i] ∈ box L L[i].to := mem_box.2 ⟨List.getElem_mem hi, rfl⟩
  obtain ⟨k, hk, e⟩ := List.getElem_of_mem hm
  have hu := under_at (h.box L[i].to) hk
  have es : spotOf L i = k := by
    unfold spotOf
    rw [getElem!_pos L i hi, ← hu, e]
  rw [es]
  exact ⟨hk, e⟩
theorem box_erase_ne {L : List Post} {i : Nat} (hi : i < L.length) {k : Int} (hk : L[i].to ≠ k) : box (L.eraseIdx i) k = box L k := by
  induction L generalizing i with
  | nil => simp at hi
  | cons p L ih =>
    cases i with
    | zero =>
      have : p.to ≠ k := hk
      simp [box, this]
    | succ i =>
      have := ih (i := i) (by simpa using hi) (by simpa using hk)
      unfold box at this ⊢
      rw [List.eraseIdx_cons_succ, List.filter_cons, List.filter_cons, this]
theorem box_erase_eq {L : List Post} (h : Rising L) {i : Nat} (hi : i < L.length) : box (L.eraseIdx i) L[i].to = (box L L[i].to).eraseIdx (spotOf L i) := by
  have gen : ∀ (L : List Post) (i : Nat) (hi : i < L.length), Rising L → box (L.eraseIdx i) L[i].to = (box L L[i].to).eraseIdx (under (box L L[i].to) L[i].t) := by
    intro L
    induction L with
    | nil => intro i hi; simp at hi
    | cons p L ih =>
      intro i hi hr
      cases i with
      | zero =>
        have hb : box (p :: L) p.to = p :: box L p.to := by simp [box]
        have hu : under (p :: box L p.to) p.t = 0 := by
          rw [under_cons, if_neg (by omega)]
          unfold under
          rw [Nat.add_zero, List.countP_eq_zero]
          intro q hq
          have := hr.head q (mem_box.1 hq).1
          simp
          omega
        show box L p.to = (box (p :: L) p.to).eraseIdx (under (box (p :: L) p.to) p.t)
        rw [hb, hu]
        rfl
      | succ i =>
        have hi' : i < L.length := by simpa using hi
        have hih := ih i hi' hr.tail
        have hlt : p.t < L[i].t := hr.head _ (List.getElem_mem hi')
        show box (p :: L.eraseIdx i) L[i].to = (box (p :: L) L[i].to).eraseIdx (under (box (p :: L) L[i].to) L[i].t)
        by_cases hp : p.to = L[i].to
        · have e1 : box (p :: L.eraseIdx i) L[i].to = p :: box (L.eraseIdx i) L[i].to := by simp [box, hp]
          have e2 : box (p :: L) L[i].to = p :: box L L[i].to := by simp [box, hp]
          rw [e1, e2, under_cons, if_pos hlt, List.eraseIdx_cons_succ, hih]
        · have e1 : box (p :: L.eraseIdx i) L[i].to = box (L.eraseIdx i) L[i].to := by simp [box, hp]
          have e2 : box (p :: L) L[i].to = box L L[i].to := by simp [box, hp]
          rw [e1, e2, hih]
  have e : spotOf L i = under (box L L[i].to) L[i].t := by unfold spotOf; rw [getElem!_pos L i hi]
  rw [e]
  exact gen L i hi h
theorem mem_erase {L : List Post} {i : Nat} {p : Post} (h : p ∈ L.eraseIdx i) : p ∈ L := (List.eraseIdx_sublist L i).subset h
/-- Counted box by box: those whose box has come. -/
def gone (L : List Post) (left : Int → Bool) : List Post := L.filter (fun p => !left p.to)
theorem gone_none {L : List Post} {left : Int → Bool} (h : ∀ p ∈ L, left p.to = true) : gone L left = [] := by
  unfold gone
  rw [List.filter_eq_nil_iff]
  intro p hp
  simp [h p hp]
theorem gone_all {L : List Post} {left : Int → Bool} (h : ∀ k, left k = false) : gone L left = L := by
  unfold gone
  rw [List.filter_eq_self]
  intro p _
  simp [h]
theorem gone_step (f : Post → Bool) {left : Int → Bool} {k : Int} (hk : left k = true) : ∀ L : List Post, (gone L (fun z => left z && !decide (z = k))).countP f = (gone L left).countP f + (box L k).countP f
  | [] => rfl
  | p :: L => by
    have ih := gone_step f hk L
    unfold gone box at ih ⊢
    by_cases hp : p.to = k
    · have e1 : left p.to = true := by rw [hp]; exact hk
      simp only [List.filter_cons, hp, decide_true, Bool.not_true, Bool.and_false, Bool.not_false, if_true, Bool.false_eq_true, if_false, hk]
      rw [List.countP_cons, List.countP_cons, ih]
      omega
    · have e2 : decide (p.to = k) = false := by simp [hp]
      cases hl : left p.to
      · simp only [List.filter_cons, hl, e2, Bool.not_false, Bool.and_true, if_true, Bool.false_eq_true, if_false]
        rw [List.countP_cons, List.countP_cons, ih]
        omega
      · simp only [List.filter_cons, hl, e2, Bool.not_false, Bool.and_true, Bool.not_true, Bool.false_eq_true, if_false]
        exact ih
end Go.Proofs.Ytccmehbdnnelhaa
