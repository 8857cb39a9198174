/- BookSums, plainly; one book beside the law's box. -/
import Derived.Test.YtabhgdmmljhpcaaDoorBDrop2
import Derived.Test.YtabhgdmmljhpcaaDoorBOp
namespace Go.Proofs.YtabhgdmmljhpcaaDoor
open Go.RowKit Cod
set_option linter.unusedVariables false

/-- A number of 64 bits. -/
def md (x : Int) : Int := x % 18446744073709551616
theorem md_add (a n : Int) : IntKind.u64.wrap (md a + IntKind.u64.wrap n) = md (a + n) := by
  simp only [IntKind.wrap_u64, md]; omega
theorem md_add' (a n : Int) : IntKind.u64.wrap (md a + n) = md (a + n) := by
  simp only [IntKind.wrap_u64, md]; omega
theorem md_sub (a n : Int) : IntKind.u64.wrap (md a - IntKind.u64.wrap n) = md (a - n) := by
  simp only [IntKind.wrap_u64, md]; omega
theorem md_sub' (a n : Int) : IntKind.u64.wrap (md a - n) = md (a - n) := by
  simp only [IntKind.wrap_u64, md]; omega
/-- What rows have together. -/
def sumR (l : List RowB) : Int := (l.map (·.2)).sum
theorem sumR_snoc (l : List RowB) (r : RowB) : sumR (l ++ [r]) = sumR l + r.2 := by simp [sumR]
theorem sumR_all (L : List Acc) : sumR (rowsOf (-1) L) = sumA L := by
  unfold rowsOf
  rw [List.filter_eq_self.2 (fun p _ => by simp [inSlot])]
  simp [sumR, sumA, Function.comp_def]
theorem sum_put (L : List Acc) (t : ByteArray) (n : Int) : sumA (putP L t n).2 = if (putP L t n).1 = 0 then sumA L + n else sumA L := by
  unfold putP
  split
  · simp
  · split
    · simp
    · split
      · simp
      · split
        · simp
        · simp only [if_true]
          exact sumA_ins L _
theorem sum_open (L : List Acc) (t : ByteArray) : sumA (putP L t 0).2 = sumA L := by
  rw [sum_put]
  split <;> omega
theorem sum_on {L : List Acc} (hL : Sorted L) (t : ByteArray) (f : Acc → Int × Acc) (d : Int) (hn : ∀ p, (f p).2.nm = p.nm) (hf : ∀ p, (f p).1 = 0 → (f p).2.amt = p.amt + d) : sumA (onP L t f).2 = if (onP L t f).1 = 0 then sumA L + d else sumA L := by
  unfold onP
  cases hg : getA L t with
  | none => simp
  | some p =>
    simp only
    by_cases hz : (f p).1 = 0
    · have e : (if (f p).1 = 0 then ((0 : Int), upd L (f p).2) else ((f p).1, L)) = (0, upd L (f p).2) := if_pos hz
      simp only [e, if_true]
      have hp := (getA_iff hL t p).1 hg
      rw [sumA_upd hL (f p).2 p (by rw [hn, hp.2]; exact hg), hf p hz]
      omega
    · simp only [hz, if_false]
theorem sum_add {L : List Acc} (hL : Sorted L) (t : ByteArray) (n : Int) : sumA (onP L t (addP n)).2 = if (onP L t (addP n)).1 = 0 then sumA L + n else sumA L := by
  refine sum_on hL t (addP n) n (fun p => ?_) (fun p hz => ?_)
  · unfold addP
    split
    · rfl
    · split <;> rfl
  · unfold addP at hz ⊢
    split at hz
    · simp at hz
    · split at hz
      · simp at hz
      · rename_i h1 h2
        rw [if_neg h1, if_neg h2]
theorem sum_take {L : List Acc} (hL : Sorted L) (t : ByteArray) (n : Int) : sumA (onP L t (takeP n)).2 = if (onP L t (takeP n)).1 = 0 then sumA L - n else sumA L := by
  have := sum_on hL t (takeP n) (-n) (fun p => by
    unfold takeP
    split
    · rfl
    · split <;> rfl) (fun p hz => by
    unfold takeP at hz ⊢
    split at hz
    · simp at hz
    · split at hz
      · simp at hz
      · rename_i h1 h2
        rw [if_neg h1, if_neg h2]
        simp only
        omega)
  rw [this]
  split <;> omega
theorem sum_part (L : List Acc) (P : Acc → Bool) : sumA L = sumA (L.filter P) + sumA (L.filter (fun p => !P p)) := by
  induction L with
  | nil => rfl
  | cons p L ih =>
    by_cases h : P p = true
    · simp [h, sumA] at ih ⊢; omega
    · simp [h, sumA] at ih ⊢; omega
theorem sum_stay (L : List Acc) (slot : Int) (hs : 0 ≤ slot) : sumA (stay slot L) = sumA L - sumR (rowsOf slot L) := by
  have h := sum_part L (goes slot)
  have e : sumR (rowsOf slot L) = sumA (L.filter (goes slot)) := by
    unfold rowsOf
    rw [show inSlot slot = goes slot from by
      funext p
      unfold inSlot goes
      rw [decide_eq_false (show ¬ slot = -1 by omega), Bool.false_or]
      by_cases q : slot = slotOf p.nm
      · rw [decide_eq_true q, decide_eq_true q.symm]
      · rw [decide_eq_false q, decide_eq_false (fun z => q z.symm)]]
    simp [sumR, sumA, Function.comp_def]
  unfold stay
  omega
theorem stay_all (L : List Acc) (slot : Int) (hs : slot < 0) : stay slot L = L := by
  unfold stay
  refine List.filter_eq_self.2 (fun p _ => ?_)
  have := slotOf_bd p.nm
  simp only [goes, Bool.not_eq_true', decide_eq_false_iff_not]
  omega
/-- A law's own book, and its box. -/
structure MyK (w0 w : World) (N : Nat) (sv : Value) (L : List Acc) (K : Nat) (o : OpB) : Prop where
  a : BookIn w w0.heap.size N sv L
  k : w.heap[K]? = some (.cells #[.int .i64 o.k, .string o.nm, .string o.by_, .int .i64 o.n, .int .i64 o.slot] 37 (0, 0))
  bel : Below w0.heap.size w0 w
section
variable {w0 w w' : World} {N K : Nat} {sv : Value} {L L' : List Acc} {o : OpB}
theorem MyK.my (h : MyK w0 w N sv L K o) : MyB w0 w N L := ⟨sv, h.a, h.bel⟩
theorem MyK.below (h : MyK w0 w N sv L K o) (b : Below w.heap.size w w') : MyK w0 w' N sv L K o :=
  ⟨h.a.below b, (b.block _ (Array.getElem?_eq_some_iff.1 h.k).1).trans h.k, h.bel.trans (b.mono h.bel.size)⟩
theorem MyK.turn (h : MyK w0 w N sv L K o) (t : BTold w w' w0.heap.size N sv L') : ∃ sv', MyK w0 w' N sv' L' K o := by
  obtain ⟨sv', h1, h2, h3⟩ := t
  refine ⟨sv', h1, (h2.block K (Array.getElem?_eq_some_iff.1 h.k).1 (fun e => ?_) (fun e => ?_)).trans h.k, h.bel.trans (h.a.chg_below h2)⟩
  · have hk := h.k
    rw [e, h.a.hN] at hk
    injection hk with hk
    injection hk with _ hk
    exact absurd hk (by decide)
  · obtain ⟨_, _, cur, hc⟩ := row_kind h.a.row e.symm
    rw [h.k] at hc
    injection hc with hc
    injection hc with _ hc
    exact absurd hc (by decide)
theorem MyK.cells (h : MyK w0 w N sv L K o) : w.cell? ⟨K, 0, none⟩ = some (.int .i64 o.k) ∧ w.cell? ⟨K, 1, none⟩ = some (.string o.nm) ∧ w.cell? ⟨K, 2, none⟩ = some (.string o.by_) ∧ w.cell? ⟨K, 3, none⟩ = some (.int .i64 o.n) ∧ w.cell? ⟨K, 4, none⟩ = some (.int .i64 o.slot) := by
  refine ⟨?_, ?_, ?_, ?_, ?_⟩ <;> simp [World.cell?, h.k]
theorem MyB.box (h : MyB w0 w N L) (o : OpB) : ∃ sv, MyK w0 (w.alloc (.cells #[.int .i64 o.k, .string o.nm, .string o.by_, .int .i64 o.n, .int .i64 o.slot] 37)) N sv L w.heap.size o := by
  obtain ⟨sv, h1, h2⟩ := h
  have b := (Below.refl w.heap.size w).alloc (Nat.le_refl _) (.cells #[.int .i64 o.k, .string o.nm, .string o.by_, .int .i64 o.n, .int .i64 o.slot] 37)
  exact ⟨sv, h1.below b, heap_alloc_new w _, h2.trans (b.mono h2.size)⟩
theorem kx_open (h : MyK w0 w N sv L K o) (t : ByteArray) (hs : t.size ≤ maxLen) : Calls Tryd.prog 16 #[.pointer (some ⟨N, 0, none⟩), .string t] w fun e w' => e = .returned (.int .i64 (putP L t 0).1) ∧ ∃ sv', MyK w0 w' N sv' (putP L t 0).2 K o :=
  (open_any h.a t hs).mono (by rintro e w' ⟨rfl, q⟩; exact ⟨rfl, h.turn q⟩)
theorem kx_put (h : MyK w0 w N sv L K o) (t : ByteArray) (n : Int) (hn : -9223372036854775808 ≤ n ∧ n ≤ 9223372036854775807) (hs : t.size ≤ maxLen) : Calls Tryd.prog 19 #[.pointer (some ⟨N, 0, none⟩), .agg #[.string t, .int .i64 n]] w fun e w' => e = .returned (.int .i64 (putP L t n).1) ∧ ∃ sv', MyK w0 w' N sv' (putP L t n).2 K o :=
  (put_any h.a t n hn hs).mono (by rintro e w' ⟨rfl, q⟩; exact ⟨rfl, h.turn q⟩)
theorem kx_add (h : MyK w0 w N sv L K o) (t : ByteArray) (n : Int) (hn : -9223372036854775808 ≤ n ∧ n ≤ 9223372036854775807) : Calls Tryd.prog 17 #[.pointer (some ⟨N, 0, none⟩), .string t, .int .i64 n] w fun e w' => e = .returned (.int .i64 (onP L t (addP n)).1) ∧ ∃ sv', MyK w0 w' N sv' (onP L t (addP n)).2 K o :=
  (add_any h.a t n hn).mono (by rintro e w' ⟨rfl, q⟩; exact ⟨rfl, h.turn q⟩)
theorem kx_take (h : MyK w0 w N sv L K o) (t : ByteArray) (n : Int) (hn : -9223372036854775808 ≤ n ∧ n ≤ 9223372036854775807) : Calls Tryd.prog 18 #[.pointer (some ⟨N, 0, none⟩), .string t, .int .i64 n] w fun e w' => e = .returned (.int .i64 (onP L t (takeP n)).1) ∧ ∃ sv', MyK w0 w' N sv' (onP L t (takeP n)).2 K o :=
  (take_any h.a t n hn).mono (by rintro e w' ⟨rfl, q⟩; exact ⟨rfl, h.turn q⟩)
theorem kx_drop (h : MyK w0 w N sv L K o) (hT : Tabs w0) (slot : Int) : Calls Tryd.prog 21 #[.pointer (some ⟨N, 0, none⟩), .int .i64 slot] w fun e w' => e = .returned (.int .i64 ((L.length : Int) - ((stay slot L).length : Int))) ∧ ∃ sv', MyK w0 w' N sv' (stay slot L) K o :=
  (drop_any h.a (hT.below h.bel hT.size) hT.size slot).mono (by rintro e w' ⟨rfl, q⟩; exact ⟨rfl, h.turn q⟩)
end
end Go.Proofs.YtabhgdmmljhpcaaDoor
