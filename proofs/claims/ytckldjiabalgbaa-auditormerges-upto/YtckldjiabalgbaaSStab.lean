/- A stable order, plainly: one behind the other, each behind all that are not above it; what two steps of exchange leave of it. -/
import Derived.Sort.LotA
namespace Go.Proofs.Ytckldjiabalgbaa
open Go.Sort
set_option linter.unusedVariables false
section
variable {α : Type} [Inhabited α] (lt : α → α → Bool)
def insF (x : α) : List α → List α
  | [] => [x]
  | h :: t => if lt x h = true then x :: h :: t else h :: insF x t
/-- The stable order of a list. -/
def srt (l : List α) : List α := l.foldl (fun s x => insF lt x s) []
variable {lt}
omit [Inhabited α] in
theorem insF_comm (hO : SWO lt) {x y : α} (h : lt y x = true) : ∀ s, insF lt x (insF lt y s) = insF lt y (insF lt x s) := by
  have nxy : lt x y = false := hO.asymmA h
  intro s
  induction s with
  | nil => simp [insF, h, nxy]
  | cons k t ih =>
    by_cases hy : lt y k = true
    · by_cases hx : lt x k = true
      · simp [insF, hy, hx, h, nxy]
      · simp [insF, hy, hx, nxy]
    · have hx : ¬ lt x k = true := fun hx => hy (hO.trans _ _ _ h hx)
      simp [insF, hy, hx, ih]
omit [Inhabited α] in
theorem srt_swap (hO : SWO lt) {x y : α} (h : lt y x = true) (A C : List α) : srt lt (A ++ y :: x :: C) = srt lt (A ++ x :: y :: C) := by
  simp only [srt, List.foldl_append, List.foldl_cons, insF_comm hO h]
omit [Inhabited α] in
theorem srt_move (hO : SWO lt) {x : α} : ∀ (B A C : List α), (∀ b ∈ B, lt b x = true) → srt lt (A ++ (B ++ x :: C)) = srt lt (A ++ x :: (B ++ C))
  | [], _, _, _ => rfl
  | b :: B, A, C, h => by
    have := srt_move hO B (A ++ [b]) C (fun u hu => h u (List.mem_cons_of_mem _ hu))
    simp only [List.append_assoc, List.cons_append, List.nil_append] at this
    simp only [List.cons_append]
    rw [this]
    exact srt_swap hO (h b (List.mem_cons_self ..)) A (B ++ C)
omit [Inhabited α] in
theorem srt_rot (hO : SWO lt) : ∀ (B1 B2 A C : List α), (∀ x ∈ B1, ∀ b ∈ B2, lt b x = true) → srt lt (A ++ (B2 ++ (B1 ++ C))) = srt lt (A ++ (B1 ++ (B2 ++ C)))
  | [], _, _, _, _ => rfl
  | x :: B1, B2, A, C, h => by
    have e1 := srt_move hO B2 A (B1 ++ C) (fun b hb => h x (List.mem_cons_self ..) b hb)
    have e2 := srt_rot hO B1 B2 (A ++ [x]) C (fun u hu b hb => h u (List.mem_cons_of_mem _ hu) b hb)
    simp only [List.append_assoc, List.cons_append, List.nil_append] at e2 ⊢
    rw [e1, e2]
omit [Inhabited α] in
theorem insF_last {x : α} : ∀ s : List α, (∀ h ∈ s, lt x h = false) → insF lt x s = s ++ [x]
  | [], _ => rfl
  | h :: t, H => by
    have e := insF_last t (fun u hu => H u (List.mem_cons_of_mem _ hu))
    simp [insF, H h (List.mem_cons_self ..), e]
omit [Inhabited α] in
theorem srt_from : ∀ (l s : List α), (s ++ l).Pairwise (fun a b => lt b a = false) → l.foldl (fun s x => insF lt x s) s = s ++ l
  | [], s, _ => by simp
  | x :: l, s, h => by
    have hx : ∀ u ∈ s, lt x u = false := fun u hu => (List.pairwise_append.1 h).2.2 u hu x (List.mem_cons_self ..)
    simp only [List.foldl_cons, insF_last s hx]
    rw [srt_from l (s ++ [x]) (by simpa using h)]
    simp
omit [Inhabited α] in
theorem srt_sorted {l : List α} (h : l.Pairwise (fun a b => lt b a = false)) : srt lt l = l := by
  have := srt_from l [] (by simpa using h)
  simpa [srt] using this
omit [Inhabited α] in
theorem insF_sorted (hO : SWO lt) (x : α) : ∀ s : List α, s.Pairwise (fun a b => lt b a = false) → (insF lt x s).Pairwise (fun a b => lt b a = false) ∧ ∀ u, u ∈ insF lt x s → u = x ∨ u ∈ s
  | [], _ => by simp [insF]
  | h :: t, H => by
    obtain ⟨h1, h2⟩ := List.pairwise_cons.1 H
    obtain ⟨i1, i2⟩ := insF_sorted hO x t h2
    by_cases hx : lt x h = true
    · rw [insF, if_pos hx]
      refine ⟨List.pairwise_cons.2 ⟨fun u hu => ?_, H⟩, fun u hu => ?_⟩
      · rcases List.mem_cons.1 hu with rfl | hu
        · exact hO.asymmA hx
        · cases hc : lt u x with
          | false => rfl
          | true => have := hO.trans _ _ _ hc hx; rw [h1 u hu] at this; cases this
      · simpa using hu
    · rw [insF, if_neg hx]
      refine ⟨List.pairwise_cons.2 ⟨fun u hu => ?_, i1⟩, fun u hu => ?_⟩
      · rcases i2 u hu with rfl | hu
        · simpa using hx
        · exact h1 u hu
      · rcases List.mem_cons.1 hu with rfl | hu
        · simp
        · rcases i2 u hu with rfl | hu
          · simp
          · simp [hu]
omit [Inhabited α] in
theorem srt_is_sorted (hO : SWO lt) (l : List α) : (srt lt l).Pairwise (fun a b => lt b a = false) := by
  have : ∀ (l s : List α), s.Pairwise (fun a b => lt b a = false) → (l.foldl (fun s x => insF lt x s) s).Pairwise (fun a b => lt b a = false) := by
    intro l
    induction l with
    | nil => exact fun s h => h
    | cons x l ih => exact fun s h => ih _ (insF_sorted hO x s h).1
  exact this l [] List.Pairwise.nil
/-! ### Arrays -/
theorem tl_at (d : Array α) (i : Nat) : d.toList[i]? = if i < d.size then some d[i]! else none := by
  by_cases h : i < d.size
  · simp [h]
  · simp [h]
theorem arr_adj (d : Array α) {k : Nat} (hk : k + 1 < d.size) : d.toList = d.toList.take k ++ (d[k]! :: d[k + 1]! :: d.toList.drop (k + 2)) := by
  refine List.ext_getElem? fun i => ?_
  have hl : (d.toList.take k).length = k := by simp; omega
  rw [List.getElem?_append, hl]
  by_cases h : i < k
  · rw [if_pos h, List.getElem?_take, if_pos h]
  · rw [if_neg h, tl_at]
    rcases (by omega : i = k ∨ i = k + 1 ∨ k + 2 ≤ i) with rfl | rfl | hi
    · rw [if_pos (by omega), Nat.sub_self]; rfl
    · rw [if_pos (by omega), show k + 1 - k = 1 by omega]; rfl
    · obtain ⟨j, rfl⟩ : ∃ j, i = k + 2 + j := ⟨i - (k + 2), by omega⟩
      rw [show k + 2 + j - k = j + 1 + 1 by omega, List.getElem?_cons_succ, List.getElem?_cons_succ, List.getElem?_drop, tl_at]
theorem take_same {d d' : Array α} (hs : d'.size = d.size) {k : Nat} (h : ∀ i, i < k → d'[i]! = d[i]!) : d'.toList.take k = d.toList.take k := by
  refine List.ext_getElem? fun i => ?_
  rw [List.getElem?_take, List.getElem?_take]
  by_cases hi : i < k
  · rw [if_pos hi, if_pos hi, tl_at, tl_at, hs, h i hi]
  · rw [if_neg hi, if_neg hi]
theorem drop_same {d d' : Array α} (hs : d'.size = d.size) {k : Nat} (h : ∀ i, k ≤ i → d'[i]! = d[i]!) : d'.toList.drop k = d.toList.drop k := by
  refine List.ext_getElem? fun i => ?_
  rw [List.getElem?_drop, List.getElem?_drop, tl_at, tl_at, hs, h _ (by omega)]
/-- An exchange of two neighbours of which the second is below the first. -/
theorem srt_adj (hO : SWO lt) {d d' : Array α} (hs : d'.size = d.size) {k : Nat} (hk : k + 1 < d.size) (h0 : d'[k]! = d[k + 1]!) (h1 : d'[k + 1]! = d[k]!) (h : ∀ i, i ≠ k → i ≠ k + 1 → d'[i]! = d[i]!) (hl : lt d[k + 1]! d[k]! = true) : srt lt d'.toList = srt lt d.toList := by
  rw [arr_adj d hk, arr_adj d' (k := k) (by omega), take_same hs (fun i hi => h i (by omega) (by omega)), drop_same hs (k := k + 2) (fun i hi => h i (by omega) (by omega)), h0, h1]
  exact srt_swap hO hl _ _
theorem srt_swp (hO : SWO lt) (d : Array α) {k : Nat} (hk : k + 1 < d.size) (hl : lt d[k + 1]! d[k]! = true) : srt lt (swp d k (k + 1)).toList = srt lt d.toList ∧ srt lt (swp d (k + 1) k).toList = srt lt d.toList := by
  constructor
  · exact srt_adj hO (size_swp ..) hk (swp_left _ _ _ (Nat.lt_of_succ_lt hk) (by omega)) (swp_right _ _ _ hk) (fun i a b => swp_other _ _ _ _ a b) hl
  · exact srt_adj hO (size_swp ..) hk (swp_right _ _ _ (Nat.lt_of_succ_lt hk)) (swp_left _ _ _ hk (by omega)) (fun i a b => swp_other _ _ _ _ b a) hl
/-- The places from a on, b many. -/
def seg (d : Array α) (a n : Nat) : List α := (d.toList.drop a).take n
theorem seg_at (d : Array α) (a n i : Nat) : (seg d a n)[i]? = if i < n then (if a + i < d.size then some d[a + i]! else none) else none := by
  unfold seg
  rw [List.getElem?_take]
  by_cases h : i < n
  · rw [if_pos h, if_pos h, List.getElem?_drop, tl_at]
  · rw [if_neg h, if_neg h]
omit [Inhabited α] in
theorem seg_len (d : Array α) (a n : Nat) (h : a + n ≤ d.size) : (seg d a n).length = n := by
  unfold seg
  simp
  omega
theorem seg_eq {d d' : Array α} {a a' n : Nat} (ha : a + n ≤ d.size) (ha' : a' + n ≤ d'.size) (h : ∀ i, i < n → d'[a' + i]! = d[a + i]!) : seg d' a' n = seg d a n := by
  refine List.ext_getElem? fun i => ?_
  rw [seg_at, seg_at]
  by_cases hi : i < n
  · rw [if_pos hi, if_pos hi, if_pos (by omega), if_pos (by omega), h i hi]
  · rw [if_neg hi, if_neg hi]
theorem seg_mem {d : Array α} {a n : Nat} {x : α} (h : x ∈ seg d a n) : ∃ i, i < n ∧ a + i < d.size ∧ x = d[a + i]! := by
  obtain ⟨i, hi⟩ := List.getElem?_of_mem h
  rw [seg_at] at hi
  by_cases h1 : i < n
  · by_cases h2 : a + i < d.size
    · rw [if_pos h1, if_pos h2] at hi
      exact ⟨i, h1, h2, (Option.some.inj hi).symm⟩
    · rw [if_pos h1, if_neg h2] at hi; cases hi
  · rw [if_neg h1] at hi; cases hi
omit [Inhabited α] in
theorem arr_segs (d : Array α) {s m e : Nat} (h1 : s ≤ m) (h2 : m ≤ e) (h3 : e ≤ d.size) : d.toList = d.toList.take s ++ (seg d s (m - s) ++ (seg d m (e - m) ++ d.toList.drop e)) := by
  have e1 : d.toList.drop m = seg d m (e - m) ++ d.toList.drop e := by
    unfold seg
    rw [show d.toList.drop e = (d.toList.drop m).drop (e - m) by rw [List.drop_drop]; congr 1; omega]
    exact (List.take_append_drop _ _).symm
  have e2 : d.toList.drop s = seg d s (m - s) ++ d.toList.drop m := by
    unfold seg
    rw [show d.toList.drop m = (d.toList.drop s).drop (m - s) by rw [List.drop_drop]; congr 1; omega]
    exact (List.take_append_drop _ _).symm
  rw [← e1, ← e2]
  exact (List.take_append_drop _ _).symm
/-- d' is d with the two pieces from s to m and from m to e exchanged. -/
structure RotOf (d d' : Array α) (s m e : Nat) : Prop where
  size : d'.size = d.size
  out : ∀ i, i < s ∨ e ≤ i → d'[i]! = d[i]!
  lo : ∀ i, i < e - m → d'[s + i]! = d[m + i]!
  hi : ∀ i, i < m - s → d'[s + (e - m) + i]! = d[s + i]!
theorem srt_rotOf (hO : SWO lt) {d d' : Array α} {s m e : Nat} (h : RotOf d d' s m e) (h1 : s ≤ m) (h2 : m ≤ e) (h3 : e ≤ d.size) (hl : ∀ u v, s ≤ u → u < m → m ≤ v → v < e → lt d[v]! d[u]! = true) : srt lt d'.toList = srt lt d.toList := by
  have hs := h.size
  rw [arr_segs d h1 h2 h3, arr_segs d' (s := s) (m := s + (e - m)) (e := e) (by omega) (by omega) (by omega), take_same hs (fun i hi => h.out i (.inl hi)), drop_same hs (fun i hi => h.out i (.inr hi)),
    show s + (e - m) - s = e - m by omega, show e - (s + (e - m)) = m - s by omega, seg_eq (d := d) (d' := d') (a := m) (a' := s) (n := e - m) (by omega) (by omega) h.lo, seg_eq (d := d) (d' := d') (a := s) (a' := s + (e - m)) (n := m - s) (by omega) (by omega) h.hi]
  refine srt_rot hO _ _ _ _ fun x hx b hb => ?_
  obtain ⟨i, hi, _, rfl⟩ := seg_mem hx
  obtain ⟨j, hj, _, rfl⟩ := seg_mem hb
  exact hl _ _ (by omega) (by omega) (by omega) (by omega)
theorem srt_insInner (hO : SWO lt) (a : Nat) : ∀ (j : Nat) (d : Array α), j < d.size → srt lt (insInner lt a j d).toList = srt lt d.toList := by
  intro j
  induction j with
  | zero => intro d _; simp [insInner]
  | succ j ih =>
    intro d hj
    rw [insInner]
    split
    · next h =>
      simp only [Bool.and_eq_true, decide_eq_true_eq] at h
      rw [ih _ (by rw [size_swp]; omega)]
      exact (srt_swp hO d hj h.2).2
    · rfl
theorem size_insInner (a : Nat) : ∀ (j : Nat) (d : Array α), (insInner lt a j d).size = d.size := by
  intro j
  induction j with
  | zero => intro d; simp [insInner]
  | succ j ih =>
    intro d
    rw [insInner]
    split
    · rw [ih, size_swp]
    · rfl
theorem srt_insOuter (hO : SWO lt) (a b : Nat) : ∀ (n i : Nat) (d : Array α), b - i ≤ n → b ≤ d.size → srt lt (insOuter lt a b i d).toList = srt lt d.toList := by
  intro n
  induction n with
  | zero => intro i d h _; rw [insOuter, if_neg (by omega)]
  | succ n ih =>
    intro i d h hb
    rw [insOuter]
    split
    · next hi =>
      have hz : (insInner lt a i d).size = d.size := size_insInner a i d
      rw [ih _ _ (by omega) (by omega), srt_insInner hO a i d (by omega)]
    · rfl
theorem srt_insertionSort (hO : SWO lt) (d : Array α) (a b : Nat) (hb : b ≤ d.size) : srt lt (insertionSort lt d a b).toList = srt lt d.toList := srt_insOuter hO a b _ _ d (Nat.le_refl _) hb
end
end Go.Proofs.Ytckldjiabalgbaa
