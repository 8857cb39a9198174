/- Package book: find, look, Get, By, Len. -/
import Derived.Test.YtabhgdmmljhpcabDoorBFind
namespace Go.Proofs.YtabhgdmmljhpcabDoor
open Go.RowKit
attribute [local go_sem] Oper.semAt_some
set_option linter.unusedVariables false

/-- An account as a value; none: the empty one. -/
def Acc.val (p : Acc) : Value := .agg #[.string p.nm, .int .i64 p.amt, .string p.by_]
def noAcc : Acc := ⟨⟨#[]⟩, 0, ⟨#[]⟩⟩
def accOr (o : Option Acc) : Acc := match o with | some p => p | none => noAcc
theorem text_nonempty {s : ByteArray} (h : 1 ≤ s.size) : ¬ s.toList = [] := fun e => by
  rw [ByteArray.toList_eq] at e
  have h2 : s.data.toList.length = s.size := by simp
  rw [e] at h2
  simp at h2
  omega
section
variable {w : World} {base N : Nat} {sv : Value} {L : List Acc}
theorem BookIn.gotAt (h : BookIn w base N sv L) {t : ByteArray} {p : Acc} (hp : getA L t = some p) : hasN L t = true ∧ under L t < L.length ∧ ∃ g c, sv = .slice (some ⟨g, 0, none⟩) L.length c ∧ g < w.heap.size ∧ g ≠ N ∧ w.cell? ⟨g, under L t * 3, none⟩ = some (.string p.nm) ∧ w.cell? ⟨g, under L t * 3 + 1, none⟩ = some (.int .i64 p.amt) ∧ w.cell? ⟨g, under L t * 3 + 2, none⟩ = some (.string p.by_) := by
  have hh : hasN L t = true := (hasN_mem _ _).2 ⟨p, (h.fit.got hp).1, (h.fit.got hp).2.1⟩
  obtain ⟨hk, e1, e2⟩ := getA_some h.fit.srt hh
  rw [hp] at e1
  injection e1 with e1
  obtain ⟨g, cap, esv, q0, q1, q2⟩ := row_at h.row rfl hk
  rw [← e1] at q0 q1 q2
  exact ⟨hh, hk, g, cap, esv, World.block_lt_of_cell? w _ q0, h.ne (by rw [esv]; rfl), q0, q1, q2⟩
set_option maxRecDepth 100000 in
theorem find_some (h : BookIn w base N sv L) (t : ByteArray) (p : Acc) (hp : getA L t = some p) :
    Calls Tryd.prog 51 #[.pointer (some ⟨N, 0, none⟩), .string t] w fun e w' => e = .returned (.agg #[.string p.nm, .int .i64 p.amt, .string p.by_]) ∧ Below w.heap.size w w' := by
  obtain ⟨hh, hk, g, cap, esv, hg, hgN, q0, q1, q2⟩ := h.gotAt hp
  have HB := fun W (hb : Below w.heap.size w W) => place_any (h.below hb) t
  have c0 := h.c0
  have hN := h.ltN
  rw [hh] at HB
  have hn : L.length ≤ 200 := h.fit.len
  obtain ⟨c, ec⟩ : ∃ c, under L t = c := ⟨_, rfl⟩
  rw [ec] at HB hk q0 q1 q2
  rw [esv] at c0
  obtain ⟨n, en⟩ : ∃ n, L.length = n := ⟨_, rfl⟩
  rw [en] at hk hn c0
  clear h hh ec en hp esv
  go_enter Tryd.func51, Tryd.ntmps51
  go_wp2_with fail
  refine (HB _ ((Below.refl _ w).alloc (Nat.le_refl _) _)).mono ?_
  rintro e w1 ⟨rfl, b1⟩
  have B1 : Hid (Below w.heap.size w w1) := ((Below.refl _ w).alloc (Nat.le_refl _) _).trans (b1.mono (by simp))
  have hz : w.heap.size < w1.heap.size := by have := b1.size; simp at this; omega
  have hfz := b1.frozen (p := ⟨w.heap.size, 0, none⟩) (by simp)
  have hfz1 := b1.frozen (p := ⟨w.heap.size, 1, none⟩) (by simp)
  have hfz2 := b1.frozen (p := ⟨w.heap.size, 2, none⟩) (by simp)
  have hc0 := b1.cell (p := ⟨w.heap.size, 0, none⟩) (by simp)
  have hc1 := b1.cell (p := ⟨w.heap.size, 1, none⟩) (by simp)
  have hc2 := b1.cell (p := ⟨w.heap.size, 2, none⟩) (by simp)
  rw [World.frozen?_alloc_mark] at hfz hfz1 hfz2
  rw [World.cell?_alloc_mark] at hc0 hc1 hc2
  have k0 := (B1.out.cell (p := ⟨N, 0, none⟩) hN).trans c0
  have r0 := (B1.out.cell (p := ⟨g, c * 3, none⟩) hg).trans q0
  have r1 := (B1.out.cell (p := ⟨g, c * 3 + 1, none⟩) hg).trans q1
  have r2 := (B1.out.cell (p := ⟨g, c * 3 + 2, none⟩) hg).trans q2
  clear b1 HB c0 q0 q1 q2
  go_wp2
  exact bodyPost_ret (v := .agg #[.string p.nm, .int .i64 p.amt, .string p.by_]) (by simp [results, Tryd.results51, go_sem, hc0, hc1, hc2]) rfl ⟨rfl, ((B1.out.setCell (Nat.le_refl _) _).setCell (Nat.le_refl _) _).setCell (Nat.le_refl _) _⟩
set_option maxRecDepth 100000 in
theorem find_none (h : BookIn w base N sv L) (t : ByteArray) (hp : hasN L t = false) :
    Calls Tryd.prog 51 #[.pointer (some ⟨N, 0, none⟩), .string t] w fun e w' => e = .returned (.agg #[.string ⟨#[]⟩, .int .i64 0, .string ⟨#[]⟩]) ∧ Below w.heap.size w w' := by
  have HB := fun W (hb : Below w.heap.size w W) => place_any (h.below hb) t
  rw [hp] at HB
  obtain ⟨c, ec⟩ : ∃ c, under L t = c := ⟨_, rfl⟩
  rw [ec] at HB
  clear h ec hp
  go_enter Tryd.func51, Tryd.ntmps51
  go_wp2_with fail
  refine (HB _ ((Below.refl _ w).alloc (Nat.le_refl _) _)).mono ?_
  rintro e w1 ⟨rfl, b1⟩
  have B1 : Hid (Below w.heap.size w w1) := ((Below.refl _ w).alloc (Nat.le_refl _) _).trans (b1.mono (by simp))
  have hz : w.heap.size < w1.heap.size := by have := b1.size; simp at this; omega
  have hfz := b1.frozen (p := ⟨w.heap.size, 0, none⟩) (by simp)
  have hfz1 := b1.frozen (p := ⟨w.heap.size, 1, none⟩) (by simp)
  have hfz2 := b1.frozen (p := ⟨w.heap.size, 2, none⟩) (by simp)
  have hc0 := b1.cell (p := ⟨w.heap.size, 0, none⟩) (by simp)
  have hc1 := b1.cell (p := ⟨w.heap.size, 1, none⟩) (by simp)
  have hc2 := b1.cell (p := ⟨w.heap.size, 2, none⟩) (by simp)
  rw [World.frozen?_alloc_mark] at hfz hfz1 hfz2
  rw [World.cell?_alloc_mark] at hc0 hc1 hc2
  clear b1 HB
  go_wp2
  exact bodyPost_ret (v := .agg #[.string ⟨#[]⟩, .int .i64 0, .string ⟨#[]⟩]) (by simp [results, Tryd.results51, go_sem, hc0, hc1, hc2]) rfl ⟨rfl, ((B1.out.setCell (Nat.le_refl _) _).setCell (Nat.le_refl _) _).setCell (Nat.le_refl _) _⟩
theorem find_any (h : BookIn w base N sv L) (t : ByteArray) :
    Calls Tryd.prog 51 #[.pointer (some ⟨N, 0, none⟩), .string t] w fun e w' => e = .returned (.agg #[.string (accOr (getA L t)).nm, .int .i64 (accOr (getA L t)).amt, .string (accOr (getA L t)).by_]) ∧ Below w.heap.size w w' := by
  cases hg : getA L t with
  | some p => exact find_some h t p hg
  | none => exact find_none h t ((getA_none _ _).1 hg)
set_option maxRecDepth 100000 in
theorem look_some (h : BookIn w base N sv L) (t : ByteArray) (p : Acc) (hp : getA L t = some p) :
    Calls Tryd.prog 43 #[.pointer (some ⟨N, 0, none⟩), .string t] w fun e w' => e = .returned (.tuple #[.agg #[.string p.nm, .int .i64 p.amt, .string p.by_], .int .i64 0]) ∧ Below w.heap.size w w' := by
  have HF := fun W (hb : Below w.heap.size w W) => find_some (h.below hb) t p hp
  have hne : ¬ p.nm.toList = [] := text_nonempty (by
    obtain ⟨_, e, h1, _⟩ := h.fit.got hp
    rw [e]
    exact (nameOk_size h1).1)
  obtain ⟨nm, amt, by_⟩ := p
  simp only at HF hne ⊢
  clear h hp
  go_enter Tryd.func43, Tryd.ntmps43
  go_wp2_with fail
  refine (HF _ ((Below.refl _ w).alloc (Nat.le_refl _) _)).mono ?_
  rintro e w1 ⟨rfl, b1⟩
  have B1 : Hid (Below w.heap.size w w1) := ((Below.refl _ w).alloc (Nat.le_refl _) _).trans (b1.mono (by simp))
  have hz : w.heap.size < w1.heap.size := by have := b1.size; simp at this; omega
  have hfz := b1.frozen (p := ⟨w.heap.size, 0, none⟩) (by simp)
  have hfz1 := b1.frozen (p := ⟨w.heap.size, 1, none⟩) (by simp)
  have hfz2 := b1.frozen (p := ⟨w.heap.size, 2, none⟩) (by simp)
  have hc0 := b1.cell (p := ⟨w.heap.size, 0, none⟩) (by simp)
  have hc1 := b1.cell (p := ⟨w.heap.size, 1, none⟩) (by simp)
  have hc2 := b1.cell (p := ⟨w.heap.size, 2, none⟩) (by simp)
  rw [World.frozen?_alloc_mark] at hfz hfz1 hfz2
  rw [World.cell?_alloc_mark] at hc0 hc1 hc2
  clear b1 HF
  go_wp2
  exact bodyPost_ret (v := .tuple #[.agg #[.string nm, .int .i64 amt, .string by_], .int .i64 0]) (by simp [results, Tryd.results43, go_sem, hc0, hc1, hc2, hz]) rfl ⟨rfl, (((B1.out.setCell (Nat.le_refl _) _).setCell (Nat.le_refl _) _).setCell (Nat.le_refl _) _).alloc (by simp; exact Nat.le_of_lt hz) _⟩
set_option maxRecDepth 100000 in
theorem look_none (h : BookIn w base N sv L) (t : ByteArray) (hp : hasN L t = false) :
    Calls Tryd.prog 43 #[.pointer (some ⟨N, 0, none⟩), .string t] w fun e w' => e = .returned (.tuple #[.agg #[.string ⟨#[]⟩, .int .i64 0, .string ⟨#[]⟩], .int .i64 40]) ∧ Below w.heap.size w w' := by
  have HF := fun W (hb : Below w.heap.size w W) => find_none (h.below hb) t hp
  clear h hp
  go_enter Tryd.func43, Tryd.ntmps43
  go_wp2_with fail
  refine (HF _ ((Below.refl _ w).alloc (Nat.le_refl _) _)).mono ?_
  rintro e w1 ⟨rfl, b1⟩
  have B1 : Hid (Below w.heap.size w w1) := ((Below.refl _ w).alloc (Nat.le_refl _) _).trans (b1.mono (by simp))
  have hz : w.heap.size < w1.heap.size := by have := b1.size; simp at this; omega
  have hfz := b1.frozen (p := ⟨w.heap.size, 0, none⟩) (by simp)
  have hfz1 := b1.frozen (p := ⟨w.heap.size, 1, none⟩) (by simp)
  have hfz2 := b1.frozen (p := ⟨w.heap.size, 2, none⟩) (by simp)
  have hc0 := b1.cell (p := ⟨w.heap.size, 0, none⟩) (by simp)
  have hc1 := b1.cell (p := ⟨w.heap.size, 1, none⟩) (by simp)
  have hc2 := b1.cell (p := ⟨w.heap.size, 2, none⟩) (by simp)
  rw [World.frozen?_alloc_mark] at hfz hfz1 hfz2
  rw [World.cell?_alloc_mark] at hc0 hc1 hc2
  clear b1 HF
  go_wp2
  exact bodyPost_ret (v := .tuple #[.agg #[.string ⟨#[]⟩, .int .i64 0, .string ⟨#[]⟩], .int .i64 40]) (by simp [results, Tryd.results43, go_sem, hc0, hc1, hc2, hz]) rfl ⟨rfl, by
    first
    | exact (((B1.out.setCell (Nat.le_refl _) _).setCell (Nat.le_refl _) _).setCell (Nat.le_refl _) _).alloc (by simp; exact Nat.le_of_lt hz) _
    | exact (((B1.out.alloc (Nat.le_of_lt hz) _).setCell (Nat.le_refl _) _).setCell (Nat.le_refl _) _).setCell (Nat.le_refl _) _⟩
/-- What Get answers. -/
def getV (L : List Acc) (t : ByteArray) : Value := match getA L t with | some p => .tuple #[.int .i64 p.amt, .int .i64 0] | none => .tuple #[.int .i64 0, .int .i64 40]
set_option maxRecDepth 100000 in
theorem len_any (h : BookIn w base N sv L) : Calls Tryd.prog 8 #[.pointer (some ⟨N, 0, none⟩)] w fun e w' => e = .returned (.int .i64 (L.length : Nat)) ∧ w' = w := by
  have c0 := h.c0
  obtain ⟨a, c, e, _⟩ := h.sv_form
  subst e
  clear h
  go_enter Tryd.func8, Tryd.ntmps8
  go_wp2
  go_ret
  exact ⟨rfl, rfl⟩
set_option maxRecDepth 100000 in
theorem new_any (w : World) : Calls Tryd.prog 4 #[] w fun e w' => e = .returned (.pointer (some ⟨w.heap.size, 0, none⟩)) ∧ Below w.heap.size w w' ∧ BookIn w' w.heap.size w.heap.size (.slice none 0 0) [] := by
  go_enter Tryd.func4, Tryd.ntmps4
  go_wp2
  go_ret
  refine ⟨rfl, (Below.refl _ w).alloc (Nat.le_refl _) _, ⟨heap_alloc_new w _, World.ownsRow_nil _ _ _ _, Nat.le_refl _, Fit.nil⟩⟩
end
end Go.Proofs.YtabhgdmmljhpcabDoor
