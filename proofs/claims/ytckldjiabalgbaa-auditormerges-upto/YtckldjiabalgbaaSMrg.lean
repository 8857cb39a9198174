/- Merging, plainly: what symMerge's loops leave. -/
import Derived.Test.YtckldjiabalgbaaSStab
namespace Go.Proofs.Ytckldjiabalgbaa
open Go.Sort
set_option linter.unusedVariables false
section
variable {α : Type} [Inhabited α] {lt : α → α → Bool}
/-- What a merge of the part from a to b has made. -/
structure Mrg (lt : α → α → Bool) (d d' : Array α) (a b : Nat) : Prop where
  perm : PermIn a b d d'
  same : srt lt d'.toList = srt lt d.toList
theorem Mrg.refl (d : Array α) (a b : Nat) : Mrg lt d d a b := ⟨permIn_refl _ _ _, rfl⟩
theorem Mrg.trans {d d' d'' : Array α} {a b : Nat} (h : Mrg lt d d' a b) (k : Mrg lt d' d'' a b) : Mrg lt d d'' a b := ⟨permIn_trans _ _ _ _ _ h.perm k.perm, k.same.trans h.same⟩
theorem Mrg.size {d d' : Array α} {a b : Nat} (h : Mrg lt d d' a b) : d'.size = d.size := h.perm.1
theorem Mrg.out {d d' : Array α} {a b : Nat} (h : Mrg lt d d' a b) {i : Nat} (hi : i < a ∨ b ≤ i) : d'[i]! = d[i]! := h.perm.2.1 i hi
theorem Mrg.mono {d d' : Array α} {a b a' b' : Nat} (h : Mrg lt d d' a b) (ha : a' ≤ a) (hb : b ≤ b') (hs : b' ≤ d.size) : Mrg lt d d' a' b' := ⟨permIn_mono _ _ _ _ _ _ ha hb hs h.perm, h.same⟩
theorem Mrg.all {d d' : Array α} {a b : Nat} (h : Mrg lt d d' a b) (hb : b ≤ d.size) (p : α → Prop) (hp : ∀ i, a ≤ i → i < b → p d[i]!) : ∀ i, a ≤ i → i < b → p d'[i]! := permIn_all _ _ _ _ p hb h.perm hp
theorem sortedSame {d d' : Array α} {a b : Nat} (h : SortedIn lt a b d) (he : ∀ i, a ≤ i → i < b → d'[i]! = d[i]!) : SortedIn lt a b d' := fun i j hi hij hj => by
  rw [he i hi (by omega), he j (by omega) hj]
  exact h i j hi hij hj
theorem sortedPart {d : Array α} {a b a' b' : Nat} (h : SortedIn lt a b d) (ha : a ≤ a') (hb : b' ≤ b) : SortedIn lt a' b' d := fun i j hi hij hj => h i j (by omega) hij (by omega)
/-- An element that goes up. -/
structure Bub (lt : α → α → Bool) (d dk : Array α) (a k b : Nat) : Prop where
  mg : Mrg lt d dk a b
  lo : ∀ j, j < a ∨ k < j → dk[j]! = d[j]!
  up : ∀ j, a ≤ j → j < k → dk[j]! = d[j + 1]!
  it : dk[k]! = d[a]!
theorem Bub.start (d : Array α) (a b : Nat) : Bub lt d d a a b := ⟨Mrg.refl _ _ _, fun _ _ => rfl, fun _ _ _ => by omega, rfl⟩
theorem Bub.step (hO : SWO lt) {d dk : Array α} {a k b : Nat} (h : Bub lt d dk a k b) (ha : a ≤ k) (hk : k + 1 < b) (hb : b ≤ d.size) (hl : lt d[k + 1]! d[a]! = true) : Bub lt d (swp dk k (k + 1)) a (k + 1) b := by
  have hs := h.mg.size
  have hk1 : k + 1 < dk.size := by omega
  refine ⟨h.mg.trans ⟨swp_permIn dk a b k (k + 1) ha (by omega) (by omega) (by omega) (by omega), (srt_swp hO dk hk1 ?_).1⟩, fun j hj => ?_, fun j h1 h2 => ?_, ?_⟩
  · rw [h.it, h.lo (k + 1) (.inr (by omega))]; exact hl
  · rw [swp_other _ _ _ _ (by omega) (by omega)]; exact h.lo j (by omega)
  · rcases (by omega : j = k ∨ j < k) with rfl | hj
    · rw [swp_left _ _ _ (Nat.lt_of_succ_lt hk1) (by omega)]; exact h.lo _ (.inr (by omega))
    · rw [swp_other _ _ _ _ (by omega) (by omega)]; exact h.up j h1 hj
  · rw [swp_right _ _ _ hk1]; exact h.it
theorem Bub.done (hO : SWO lt) {d dk : Array α} {a k b : Nat} (h : Bub lt d dk a k b) (ha : a ≤ k) (hkb : k < b) (hs : SortedIn lt (a + 1) b d) (h1 : ∀ j, a + 1 ≤ j → j < k + 1 → lt d[j]! d[a]! = true) (h2 : ∀ j, k + 1 ≤ j → j < b → lt d[j]! d[a]! = false) : SortedIn lt a b dk := by
  intro p q hp hpq hq
  rcases (by omega : q < k ∨ q = k ∨ k < q) with c | rfl | c
  · rw [h.up p hp (by omega), h.up q (by omega) c]
    exact hs _ _ (by omega) (by omega) (by omega)
  · rw [h.up p hp hpq, h.it]
    exact hO.asymmA (h1 _ (by omega) (by omega))
  · rw [h.lo q (.inr c)]
    rcases (by omega : p < k ∨ p = k ∨ k < p) with e | rfl | e
    · rw [h.up p hp e]
      exact hs _ _ (by omega) (by omega) hq
    · rw [h.it]
      exact h2 q c hq
    · rw [h.lo p (.inr e)]
      exact hs _ _ (by omega) hpq hq
/-- An element that goes down. -/
structure Sink (lt : α → α → Bool) (d dk : Array α) (a k m : Nat) : Prop where
  mg : Mrg lt d dk a (m + 1)
  lo : ∀ j, j < k ∨ m < j → dk[j]! = d[j]!
  up : ∀ j, k < j → j ≤ m → dk[j]! = d[j - 1]!
  it : dk[k]! = d[m]!
theorem Sink.start (d : Array α) (a m : Nat) : Sink lt d d a m m := ⟨Mrg.refl _ _ _, fun _ _ => rfl, fun _ _ _ => by omega, rfl⟩
theorem Sink.step (hO : SWO lt) {d dk : Array α} {a k m : Nat} (h : Sink lt d dk a (k + 1) m) (ha : a ≤ k) (hk : k + 1 ≤ m) (hb : m + 1 ≤ d.size) (hl : lt d[m]! d[k]! = true) : Sink lt d (swp dk (k + 1) k) a k m := by
  have hs := h.mg.size
  have hk1 : k + 1 < dk.size := by omega
  refine ⟨h.mg.trans ⟨swp_permIn dk a (m + 1) (k + 1) k (by omega) (by omega) ha (by omega) (by omega), (srt_swp hO dk hk1 ?_).2⟩, fun j hj => ?_, fun j h1 h2 => ?_, ?_⟩
  · rw [h.it, h.lo k (.inl (by omega))]; exact hl
  · rw [swp_other _ _ _ _ (by omega) (by omega)]; exact h.lo j (by omega)
  · rcases (by omega : j = k + 1 ∨ k + 1 < j) with rfl | hj
    · rw [swp_left _ _ _ hk1 (by omega)]; exact h.lo _ (.inl (by omega))
    · rw [swp_other _ _ _ _ (by omega) (by omega)]; exact h.up j hj h2
  · rw [swp_right _ _ _ (Nat.lt_of_succ_lt hk1)]; exact h.it
theorem Sink.done (hO : SWO lt) {d dk : Array α} {a k m : Nat} (h : Sink lt d dk a k m) (ha : a ≤ k) (hk : k ≤ m) (hs : SortedIn lt a m d) (h1 : ∀ j, a ≤ j → j < k → lt d[m]! d[j]! = false) (h2 : ∀ j, k ≤ j → j < m → lt d[m]! d[j]! = true) : SortedIn lt a (m + 1) dk := by
  intro p q hp hpq hq
  rcases (by omega : q < k ∨ q = k ∨ k < q) with c | rfl | c
  · rw [h.lo p (.inl (by omega)), h.lo q (.inl c)]
    exact hs _ _ hp hpq (by omega)
  · rw [h.lo p (.inl hpq), h.it]
    exact h1 _ hp hpq
  · rw [h.up q c (by omega)]
    rcases (by omega : p < k ∨ p = k ∨ k < p) with e | rfl | e
    · rw [h.lo p (.inl e)]
      exact hs _ _ hp (by omega) (by omega)
    · rw [h.it]
      exact hO.asymmA (h2 _ (by omega) (by omega))
    · rw [h.up p e (by omega)]
      exact hs _ _ (by omega) (by omega) (by omega)
/-- What stands between: below and not below, by a search that halves. -/
theorem up_sorted (hO : SWO lt) {d : Array α} {a b : Nat} (hs : SortedIn lt a b d) {x : α} {h : Nat} (hh : h < b) (hl : lt d[h]! x = true) : ∀ j, a ≤ j → j ≤ h → lt d[j]! x = true := by
  intro j hj hjh
  rcases (by omega : j = h ∨ j < h) with rfl | c
  · exact hl
  · cases hc : lt d[j]! x with
    | true => rfl
    | false => have := hO.ntrans _ _ _ (hs j h hj c hh) hc; rw [hl] at this; cases this
theorem up_sorted' (hO : SWO lt) {d : Array α} {a b : Nat} (hs : SortedIn lt a b d) {x : α} {h : Nat} (ha : a ≤ h) (hl : lt d[h]! x = false) : ∀ j, h ≤ j → j < b → lt d[j]! x = false := by
  intro j hj hjb
  rcases (by omega : j = h ∨ h < j) with rfl | c
  · exact hl
  · exact hO.ntrans _ _ _ (hs h j ha c hjb) hl
theorem dn_sorted (hO : SWO lt) {d : Array α} {a b : Nat} (hs : SortedIn lt a b d) {x : α} {h : Nat} (ha : a ≤ h) (hl : lt x d[h]! = true) : ∀ j, h ≤ j → j < b → lt x d[j]! = true := by
  intro j hj hjb
  rcases (by omega : j = h ∨ h < j) with rfl | c
  · exact hl
  · cases hc : lt x d[j]! with
    | true => rfl
    | false => have := hO.ntrans _ _ _ hc (hs h j ha c hjb); rw [hl] at this; cases this
theorem dn_sorted' (hO : SWO lt) {d : Array α} {a b : Nat} (hs : SortedIn lt a b d) {x : α} {h : Nat} (hh : h < b) (hl : lt x d[h]! = false) : ∀ j, a ≤ j → j ≤ h → lt x d[j]! = false := by
  intro j hj hjh
  rcases (by omega : j = h ∨ j < h) with rfl | c
  · exact hl
  · exact hO.ntrans _ _ _ hl (hs j h hj c hh)
/-- What the search for the place of the exchange has found. -/
structure Fnd (lt : α → α → Bool) (d : Array α) (n s r r0 s0 : Nat) : Prop where
  lo : ∀ c, s0 ≤ c → c < s → lt d[n - 1 - c]! d[c]! = false
  hi : ∀ c, r ≤ c → c < r0 → lt d[n - 1 - c]! d[c]! = true
/-- Behind the exchange. -/
structure Cut (lt : α → α → Bool) (d : Array α) (a s mid e b : Nat) : Prop where
  s1 : SortedIn lt a s d
  s2 : SortedIn lt s mid d
  s3 : SortedIn lt mid e d
  s4 : SortedIn lt e b d
  ab : ∀ u v, a ≤ u → u < mid → mid ≤ v → v < b → lt d[v]! d[u]! = false
theorem cut_of (hO : SWO lt) {d d' : Array α} {a m b s mid n : Nat} (ham : a < m) (hmb : m < b) (hb : b ≤ d.size) (h1 : SortedIn lt a m d) (h2 : SortedIn lt m b d) (hmid : a < mid ∧ mid < b) (hn : n = mid + m)
    (hs : a ≤ s ∧ s ≤ m ∧ s ≤ mid ∧ m ≤ n - s ∧ mid ≤ n - s ∧ n - s ≤ b)
    (lo : ∀ c, a ≤ c → c < s → n - s < b → lt d[n - s]! d[c]! = false)
    (hi : ∀ u v, s ≤ u → u < m → m ≤ v → v < n - s → lt d[v]! d[u]! = true)
    (R : RotOf d d' s m (n - s)) : Cut lt d' a s mid (n - s) b := by
  obtain ⟨q1, q2, q3, q4, q5, q6⟩ := hs
  have lo' : ∀ i, s ≤ i → i < mid → d'[i]! = d[m + (i - s)]! := fun i x y => by
    have := R.lo (i - s) (by omega)
    rwa [show s + (i - s) = i by omega] at this
  have hi' : ∀ i, mid ≤ i → i < n - s → d'[i]! = d[s + (i - mid)]! := fun i x y => by
    have := R.hi (i - mid) (by omega)
    rwa [show s + (n - s - m) + (i - mid) = i by omega] at this
  refine ⟨sortedSame (sortedPart h1 (Nat.le_refl _) q2) fun i x y => R.out i (.inl y), fun i j x y z => ?_, fun i j x y z => ?_, sortedSame (sortedPart h2 q4 (Nat.le_refl _)) fun i x y => R.out i (.inr x), fun u v x y z t => ?_⟩
  · rw [lo' i x (by omega), lo' j (by omega) z]; exact h2 _ _ (by omega) (by omega) (by omega)
  · rw [hi' i x (by omega), hi' j (by omega) z]; exact h1 _ _ (by omega) (by omega) (by omega)
  · by_cases hu : u < s
    · rw [R.out u (.inl hu)]
      by_cases hv : v < n - s
      · rw [hi' v z hv]; exact h1 _ _ x (by omega) (by omega)
      · rw [R.out v (.inr (by omega))]
        exact up_sorted' hO (sortedPart h2 q4 (Nat.le_refl _)) (Nat.le_refl _) (lo u x hu (by omega)) v (by omega) t
    · rw [lo' u (by omega) y]
      by_cases hv : v < n - s
      · rw [hi' v z hv]; exact hO.asymmA (hi _ _ (by omega) (by omega) (by omega) (by omega))
      · rw [R.out v (.inr (by omega))]; exact h2 _ _ (by omega) (by omega) t
/-- Two sorted parts of which nothing of the second is below the first. -/
theorem sortedJoin {d : Array α} {a m b : Nat} (h1 : SortedIn lt a m d) (h2 : SortedIn lt m b d) (h : ∀ u v, a ≤ u → u < m → m ≤ v → v < b → lt d[v]! d[u]! = false) : SortedIn lt a b d := by
  intro p q hp hpq hq
  by_cases c : q < m
  · exact h1 p q hp hpq c
  · by_cases e : p < m
    · exact h p q hp e (by omega) hq
    · exact h2 p q (by omega) hpq hq
/-- Pieces of s places each, from a place on, to n. -/
inductive Runs (lt : α → α → Bool) (s n : Nat) (d : Array α) : Nat → Prop
  | done {a : Nat} : n ≤ a → Runs lt s n d a
  | step {a : Nat} : a < n → SortedIn lt a (min (a + s) n) d → Runs lt s n d (a + s) → Runs lt s n d a
inductive Upto (lt : α → α → Bool) (s : Nat) (d : Array α) : Nat → Prop
  | zero : Upto lt s d 0
  | snoc {a : Nat} : Upto lt s d a → SortedIn lt a (a + s) d → Upto lt s d (a + s)
theorem Upto.same {s : Nat} {d d' : Array α} {a : Nat} (h : Upto lt s d a) (he : ∀ i, i < a → d'[i]! = d[i]!) : Upto lt s d' a := by
  induction h with
  | zero => exact .zero
  | snoc _ hs ih => exact .snoc (ih fun i hi => he i (by omega)) (sortedSame hs fun i _ y => he i y)
theorem Runs.same {s n : Nat} {d d' : Array α} {a : Nat} (h : Runs lt s n d a) (he : ∀ i, a ≤ i → d'[i]! = d[i]!) : Runs lt s n d' a := by
  induction h with
  | done h => exact .done h
  | step h hs _ ih => exact .step h (sortedSame hs fun i x _ => he i x) (ih fun i hi => he i (by omega))
theorem Upto.runs {s n : Nat} {d : Array α} {a : Nat} (h : Upto lt s d a) (hn : a ≤ n) (hs : 0 < s) (hr : Runs lt s n d a) : Runs lt s n d 0 := by
  induction h with
  | zero => exact hr
  | snoc _ hs' ih => exact ih (by omega) (.step (by omega) (by rw [Nat.min_eq_left hn]; exact hs') hr)
theorem Runs.take {s n : Nat} {d : Array α} {a : Nat} (h : Runs lt s n d a) (ha : a < n) : SortedIn lt a (min (a + s) n) d ∧ Runs lt s n d (a + s) := by
  cases h with
  | done h => omega
  | step _ h1 h2 => exact ⟨h1, h2⟩
theorem sortedList {d : Array α} (h : SortedIn lt 0 d.size d) : d.toList.Pairwise (fun a b => lt b a = false) := by
  rw [List.pairwise_iff_getElem]
  intro i j hi hj hij
  have := h i j (Nat.zero_le _) hij (by simpa using hj)
  rw [getElem!_pos d i (by simpa using hi), getElem!_pos d j (by simpa using hj)] at this
  simpa using this
/-- Sorted, and with the same stable order: the stable order itself. -/
theorem srt_done {d d' : Array α} (h : SortedIn lt 0 d'.size d') (hs : srt lt d'.toList = srt lt d.toList) : d'.toList = srt lt d.toList := (srt_sorted (sortedList h)).symm.trans hs
end
end Go.Proofs.Ytckldjiabalgbaa
