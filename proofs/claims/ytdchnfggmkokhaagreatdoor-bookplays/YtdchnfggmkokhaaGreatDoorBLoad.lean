/- Package book: an account that is read. -/
import Derived.Test.YtdchnfggmkokhaaGreatDoorGB
import Derived.Test.YtdchnfggmkokhaaGreatDoorGC
import Derived.Test.YtdchnfggmkokhaaGreatDoorGE
import Derived.Test.YtdchnfggmkokhaaGreatDoorBFore
import Derived.Test.YtdchnfggmkokhaaGreatDoorMsg
import Derived.Test.YtdchnfggmkokhaaGreatDoorGetOp
import Derived.Test.YtdchnfggmkokhaaGreatDoorKnownC
namespace Go.Proofs.YtdchnfggmkokhaaGreatDoor
open Go.RowKit Cod
set_option linter.unusedVariables false

/-- What is read of an account; the place and the error behind it. -/
def rdA (l : List (BitVec 8)) (a y : Nat) : Acc × Nat × Nat :=
  let r1 := rS l a y
  let r2 := rU l r1.2.1 r1.2.2
  let r3 := rS l r2.2.1 r2.2.2
  (⟨textOf r1.1, zag r2.1, textOf r3.1⟩, r3.2.1, r3.2.2)
/-- An account is put, and held, if it can be. -/
def putAcc (L : List Acc) (p : Acc) : List Acc := if (putP L p.nm p.amt).1 = 0 ∧ p.by_.size ≠ 0 then (onP (putP L p.nm p.amt).2 p.nm (holdP p.by_)).2 else (putP L p.nm p.amt).2
/-- While a book is read: the Reader, and behind it the book. -/
structure Ld (w0 w : World) (R base N : Nat) (l : List (BitVec 8)) (a y : Nat) (L : List Acc) : Prop where
  rdr : Rdr w R l a y
  lo : w0.heap.size ≤ R
  hi : R < base
  bk : ∃ sv, BookIn w base N sv L
  bel : Below w0.heap.size w0 w
theorem textOf_len (l : List (BitVec 8)) : (textOf l).size = l.length := by
  have h := congrArg List.length (bytesL_textOf l)
  have h2 : (bytesL (textOf l)).length = (textOf l).size := by simp [bytesL]
  omega
section
variable {w0 w w' : World} {R base N : Nat} {l : List (BitVec 8)} {a y a' y' : Nat} {L L' : List Acc} {sv : Value}
theorem Rdr.chg (h : Rdr w R l a y) (c : Chg w w' N sv.ownBlock) (b : BookIn w base N sv L) (hR : R < base) : Rdr w' R l a y :=
  h.since (fun k hk => c.block k (Nat.lt_of_le_of_lt hk h.lt) (fun e => by have := b.bN; omega) (fun e => by have := (row_kind b.row e.symm).1; omega))
theorem BookIn.past (b : BookIn w base N sv L) (g : w.grownBy w' (some R)) (hR : R < base) : BookIn w' base N sv L :=
  b.keep (g.block N b.ltN (fun e => by have := b.bN; have := Option.some.inj e; omega)) (fun k e => g.block k (row_kind b.row e).2.1 (fun e2 => by have := (row_kind b.row e).1; have := Option.some.inj e2; omega))
theorem BookIn.far (b : BookIn w base N sv L) {K i : Nat} {v : Value} (hN : K ≠ N) (hs : ∀ g, sv.ownBlock = some g → g ≠ K) : BookIn (w.setCell ⟨K, i, none⟩ v) base N sv L :=
  b.keep (Below.heap_setCell _ _ _ N (fun e => hN (by simpa using e.symm))) (fun k e => Below.heap_setCell _ _ _ k (fun e2 => hs k e (by simpa using e2)))
/-- The account's own box, and what lies beside it. -/
structure Bx3 (w0 w : World) (R base N K : Nat) (l : List (BitVec 8)) (a y : Nat) (sv : Value) (L : List Acc) (c0 c1 c2 : Value) : Prop where
  rdr : Rdr w R l a y
  bk : BookIn w base N sv L
  bx : w.heap[K]? = some (.cells #[c0, c1, c2] 52 (0, 0))
  hRK : R < K
  hNK : N < K
  hs : ∀ g, sv.ownBlock = some g → g < K
  hi : R < base
  lo : w0.heap.size ≤ R
  bel : Below w0.heap.size w0 w
variable {K : Nat} {c0 c1 c2 : Value}
theorem Bx3.call (h : Bx3 w0 w R base N K l a y sv L c0 c1 c2) (r : Rdr w' R l a' y') (g : w.grownBy w' (some R)) : Bx3 w0 w' R base N K l a' y' sv L c0 c1 c2 :=
  { h with
    rdr := r
    bk := h.bk.past g h.hi
    bx := (g.block K (Array.getElem?_eq_some_iff.1 h.bx).1 (fun e => by have := Option.some.inj e; have := h.hRK; omega)).trans h.bx
    bel := h.bel.grown g h.bel.size (fun k e => by have := Option.some.inj e; have := h.lo; omega) }
theorem Bx3.store (h : Bx3 w0 w R base N K l a y sv L c0 c1 c2) (i : Nat) (v : Value) {d0 d1 d2 : Value} (e : (#[c0, c1, c2] : Array Value).setIfInBounds i v = #[d0, d1, d2]) : Bx3 w0 (w.setCell ⟨K, i, none⟩ v) R base N K l a y sv L d0 d1 d2 :=
  { h with
    rdr := h.rdr.set _ v h.hRK
    bk := h.bk.far (fun e => by have := h.hNK; omega) (fun g e => by have := h.hs g e; omega)
    bx := by rw [← e]; exact set_block h.bx i v
    bel := h.bel.setCell (p := ⟨K, i, none⟩) (by show w0.heap.size ≤ K; have := h.lo; have := h.hRK; omega) v }
theorem Bx3.cell (h : Bx3 w0 w R base N K l a y sv L c0 c1 c2) : w.cell? ⟨K, 0, none⟩ = some c0 ∧ w.cell? ⟨K, 1, none⟩ = some c1 ∧ w.cell? ⟨K, 2, none⟩ = some c2 ∧ (∀ i, w.frozen? ⟨K, i, none⟩ = false) := by
  have hb := h.bx
  exact ⟨by simp [World.cell?, hb], by simp [World.cell?, hb], by simp [World.cell?, hb], fun i => by simp [World.frozen?, hb]⟩
/-- What becomes of a book, where a box lies beside it. -/
theorem Bx3.told (h : Bx3 w0 w R base N K l a y sv L c0 c1 c2) (t : BTold w w' base N sv L') : ∃ sv', BookIn w' base N sv' L' ∧ Rdr w' R l a y ∧ w'.heap[K]? = some (.cells #[c0, c1, c2] 52 (0, 0)) ∧ Below w0.heap.size w0 w' := by
  obtain ⟨sv', h1, h2, h3⟩ := t
  refine ⟨sv', h1, h.rdr.chg h2 h.bk h.hi, ?_, ?_⟩
  · rw [h2.block K (Array.getElem?_eq_some_iff.1 h.bx).1 (fun e => by have := h.hNK; omega) (fun e => by have := h.hs K e.symm; omega)]
    exact h.bx
  · exact h.bel.trans ((h.bk.chg_below h2).mono (by have := h.lo; have := h.hi; omega))
end
set_option maxRecDepth 100000 in
set_option maxHeartbeats 4000000 in
theorem read_any {w0 w : World} {R base N : Nat} {l : List (BitVec 8)} {a y : Nat} {L : List Acc} (h : Ld w0 w R base N l a y L) :
    Calls Tryz.prog 21 #[.pointer (some ⟨N, 0, none⟩), .pointer (some ⟨R, 0, none⟩)] w fun e w' => (∃ u, e = .returned u) ∧ Ld w0 w' R base N l (rdA l a y).2.1 (rdA l a y).2.2 (putAcc L (rdA l a y).1) := by
  obtain ⟨sv, hb⟩ := h.bk
  obtain ⟨r1, h1⟩ : ∃ r, rS l a y = r := ⟨_, rfl⟩
  obtain ⟨r2, h2⟩ : ∃ r, rU l r1.2.1 r1.2.2 = r := ⟨_, rfl⟩
  obtain ⟨r3, h3⟩ : ∃ r, rS l r2.2.1 r2.2.2 = r := ⟨_, rfl⟩
  have hrd : rdA l a y = (⟨textOf r1.1, zag r2.1, textOf r3.1⟩, r3.2.1, r3.2.2) := by simp only [rdA, h1, h2, h3]
  rw [hrd]
  have hz : i64ok (zag r2.1) := zag_ok (by rw [← h2]; exact rU_lt _ _ _)
  have hs1 : (textOf r1.1).size ≤ maxLen := by rw [textOf_len, ← h1]; have := rS_short l a y; unfold maxLen; omega
  obtain ⟨w1, hw1⟩ : ∃ w1, w.alloc (.cells #[.string ⟨#[]⟩, .int .i64 0, .string ⟨#[]⟩] 52) = w1 := ⟨_, rfl⟩
  have b1 : Below w.heap.size w w1 := by rw [← hw1]; exact (Below.refl _ w).alloc (Nat.le_refl _) _
  have X1 : Hid (Bx3 w0 w1 R base N w.heap.size l a y sv L (.string ⟨#[]⟩) (.int .i64 0) (.string ⟨#[]⟩)) := by
    refine ⟨h.rdr.below b1, hb.below b1, by rw [← hw1]; exact heap_alloc_new w _, h.rdr.lt, hb.ltN, fun g e => (row_kind hb.row e).2.1, h.hi, h.lo, h.bel.trans (b1.mono h.bel.size)⟩
  have HZ : Hid _ := hz
  have HS1 : Hid _ := hs1
  have HSZ : Hid (Tabs w → True) := fun _ => trivial
  have T1 := rText_any R l a y w1 X1.out.rdr
  rw [h1] at T1
  have H2 : Hid (∀ x, Rdr x R l r1.2.1 r1.2.2 → Calls Tryz.prog 60 #[.pointer (some ⟨R, 0, none⟩)] x fun e w' => e = .returned (.int .i64 (zag r2.1)) ∧ Rdr w' R l r2.2.1 r2.2.2 ∧ x.grownBy w' (some R)) := fun x hx => by have := rInt_any R l _ _ x hx; rw [h2] at this; exact this
  have H3 : Hid (∀ x, Rdr x R l r2.2.1 r2.2.2 → Calls Tryz.prog 59 #[.pointer (some ⟨R, 0, none⟩)] x fun e w' => e = .returned (.string (textOf r3.1)) ∧ Rdr w' R l r3.2.1 r3.2.2 ∧ x.grownBy w' (some R)) := fun x hx => by have := rText_any R l _ _ x hx; rw [h3] at this; exact this
  clear h hb h1 h2 h3 hrd hz hs1 b1
  go_enter Tryz.func21, Tryz.ntmps21
  go_wp2_with fail
  refine T1.mono ?_
  clear T1 hw1
  rintro e w2 ⟨rfl, q2, g2⟩
  have X2 : Hid (Bx3 w0 w2 R base N w.heap.size l r1.2.1 r1.2.2 sv L (.string ⟨#[]⟩) (.int .i64 0) (.string ⟨#[]⟩)) := X1.out.call q2 g2
  clear q2 g2 X1
  obtain ⟨k0, k1, k2, kf⟩ := X2.out.cell
  have X3 : Hid (Bx3 w0 (w2.setCell ⟨w.heap.size, 0, none⟩ (.string (textOf r1.1))) R base N w.heap.size l r1.2.1 r1.2.2 sv L (.string (textOf r1.1)) (.int .i64 0) (.string ⟨#[]⟩)) := X2.out.store 0 _ (by simp)
  clear X2
  go_wp2_with fail
  clear k0 k1 k2 kf
  generalize w2.setCell ⟨w.heap.size, 0, none⟩ (.string (textOf r1.1)) = w3 at *
  refine (H2.out w3 X3.out.rdr).mono ?_
  rintro e w4 ⟨rfl, q4, g4⟩
  have X4 : Hid (Bx3 w0 w4 R base N w.heap.size l r2.2.1 r2.2.2 sv L (.string (textOf r1.1)) (.int .i64 0) (.string ⟨#[]⟩)) := X3.out.call q4 g4
  clear q4 g4 X3 H2
  obtain ⟨k0, k1, k2, kf⟩ := X4.out.cell
  have X5 : Hid (Bx3 w0 (w4.setCell ⟨w.heap.size, 1, none⟩ (.int .i64 (zag r2.1))) R base N w.heap.size l r2.2.1 r2.2.2 sv L (.string (textOf r1.1)) (.int .i64 (zag r2.1)) (.string ⟨#[]⟩)) := X4.out.store 1 _ (by simp)
  clear X4
  go_wp2_with fail
  clear k0 k1 k2 kf
  generalize w4.setCell ⟨w.heap.size, 1, none⟩ (.int .i64 (zag r2.1)) = w5 at *
  refine (H3.out w5 X5.out.rdr).mono ?_
  rintro e w6 ⟨rfl, q6, g6⟩
  have X6 : Hid (Bx3 w0 w6 R base N w.heap.size l r3.2.1 r3.2.2 sv L (.string (textOf r1.1)) (.int .i64 (zag r2.1)) (.string ⟨#[]⟩)) := X5.out.call q6 g6
  clear q6 g6 X5 H3
  obtain ⟨k0, k1, k2, kf⟩ := X6.out.cell
  have X7 : Hid (Bx3 w0 (w6.setCell ⟨w.heap.size, 2, none⟩ (.string (textOf r3.1))) R base N w.heap.size l r3.2.1 r3.2.2 sv L (.string (textOf r1.1)) (.int .i64 (zag r2.1)) (.string (textOf r3.1))) := X6.out.store 2 _ (by simp)
  clear X6
  have PT := put_any X7.out.bk (textOf r1.1) (zag r2.1) ⟨HZ.out.1, by have := HZ.out.2; omega⟩ HS1.out
  obtain ⟨m0, m1, m2, mf⟩ := X7.out.cell
  generalize hw7 : w6.setCell ⟨w.heap.size, 2, none⟩ (.string (textOf r3.1)) = w7 at *
  go_wp2_with fail
  clear k0 k1 k2 kf hw7
  refine PT.mono ?_
  clear PT
  rintro e w8 ⟨rfl, t8⟩
  obtain ⟨sv8, b8, q8, x8, B8⟩ := X7.out.told t8
  have m0 : w8.cell? ⟨w.heap.size, 0, none⟩ = some (.string (textOf r1.1)) := by simp [World.cell?, x8]
  have m2 : w8.cell? ⟨w.heap.size, 2, none⟩ = some (.string (textOf r3.1)) := by simp [World.cell?, x8]
  have HLo : Hid (w0.heap.size ≤ R ∧ R < base) := ⟨X7.out.lo, X7.out.hi⟩
  have FIN : Hid (Ld w0 w8 R base N l r3.2.1 r3.2.2 (putP L (textOf r1.1) (zag r2.1)).2) := ⟨q8, HLo.out.1, HLo.out.2, ⟨sv8, b8⟩, B8⟩
  by_cases hc : (putP L (textOf r1.1) (zag r2.1)).1 = 0
  · by_cases hby : (textOf r3.1).size = 0
    · have hp : Hid (putAcc L ⟨textOf r1.1, zag r2.1, textOf r3.1⟩ = (putP L (textOf r1.1) (zag r2.1)).2) := by
        show _ = _
        unfold putAcc
        rw [if_neg (fun q => q.2 hby)]
      have he : (textOf r3.1).toList = [] := by
        rw [ByteArray.toList_eq]
        exact List.eq_nil_of_length_eq_zero (by simpa using hby)
      rw [hc]
      clear hc hby x8 b8 q8 B8 t8 X7 m1 mf
      go_wp2
      exact bodyPost_end (results_none rfl _ _ _) rfl ⟨⟨_, rfl⟩, by rw [hp.out]; exact FIN.out⟩
    · have hp : Hid (putAcc L ⟨textOf r1.1, zag r2.1, textOf r3.1⟩ = (onP (putP L (textOf r1.1) (zag r2.1)).2 (textOf r1.1) (holdP (textOf r3.1))).2) := by
        show _ = _
        unfold putAcc
        rw [if_pos ⟨hc, hby⟩]
      have he : (textOf r3.1).toList.isEmpty = false := by rw [List.isEmpty_eq_false_iff]; exact text_nonempty (by omega)
      have HH := hold_any b8 (textOf r1.1) (textOf r3.1)
      have H8 : Hid _ := b8
      have Q8 : Hid _ := q8
      have BB8 : Hid _ := B8
      rw [hc]
      clear hc hby x8 b8 q8 B8 t8 X7 m1 mf
      go_wp2_with fail
      refine HH.mono ?_
      clear HH
      rintro e w9 ⟨rfl, t9⟩
      obtain ⟨sv9, b9, c9, _⟩ := t9
      have FIN9 : Hid (Ld w0 w9 R base N l r3.2.1 r3.2.2 (onP (putP L (textOf r1.1) (zag r2.1)).2 (textOf r1.1) (holdP (textOf r3.1))).2) := ⟨Rdr.chg Q8.out c9 H8.out HLo.out.2, HLo.out.1, HLo.out.2, ⟨sv9, b9⟩, BB8.out.trans ((BookIn.chg_below H8.out c9).mono (by have := HLo.out; omega))⟩
      clear b9 c9
      go_wp2
      exact bodyPost_end (results_none rfl _ _ _) rfl ⟨⟨_, rfl⟩, by rw [hp.out]; exact FIN9.out⟩
  · have hp : Hid (putAcc L ⟨textOf r1.1, zag r2.1, textOf r3.1⟩ = (putP L (textOf r1.1) (zag r2.1)).2) := by
      show _ = _
      unfold putAcc
      rw [if_neg (fun q => hc q.1)]
    have hc' : ((putP L (textOf r1.1) (zag r2.1)).1 == 0) = false := by rw [beq_eq_false_iff_ne]; exact hc
    clear hc x8 b8 q8 B8 t8 X7 m1 mf
    go_wp2
    exact bodyPost_end (results_none rfl _ _ _) rfl ⟨⟨_, rfl⟩, by rw [hp.out]; exact FIN.out⟩
/-- The accounts that are read one behind the other: where the Reader stands behind so many, its error, and the book. -/
def rdK (l : List (BitVec 8)) (a y : Nat) : Nat → Nat × Nat × List Acc
  | 0 => (a, y, [])
  | k + 1 => ((rdA l (rdK l a y k).1 (rdK l a y k).2.1).2.1, (rdA l (rdK l a y k).1 (rdK l a y k).2.1).2.2, putAcc (rdK l a y k).2.2 (rdA l (rdK l a y k).1 (rdK l a y k).2.1).1)
/-- How many accounts bytes say that there are, and how it ends. -/
def ldN (l : List (BitVec 8)) : Nat × Nat × Nat := rC l 200 0 0
def ldL (l : List (BitVec 8)) : List Acc := (rdK l (ldN l).2.1 (ldN l).2.2 (ldN l).1).2.2
def ldEnd (l : List (BitVec 8)) : Nat := rEnd l (rdK l (ldN l).2.1 (ldN l).2.2 (ldN l).1).1 (rdK l (ldN l).2.1 (ldN l).2.2 (ldN l).1).2.1
def ldWhy (l : List (BitVec 8)) : Nat := if ldEnd l ≠ 0 then ldEnd l else if bookB (ldL l) = l then 0 else 11
/-- What Load answers. -/
def LdTold (w w' : World) (l : List (BitVec 8)) (e : Ending) : Prop :=
  (ldWhy l ≠ 0 ∧ e = .returned (.tuple #[.pointer none, .int .i64 (ldWhy l)])) ∨
  (ldWhy l = 0 ∧ ∃ N sv, e = .returned (.tuple #[.pointer (some ⟨N, 0, none⟩), .int .i64 0]) ∧ BookIn w' w.heap.size N sv (ldL l))
theorem bytesEq_any (aa ab : Option Addr) (la ca lb cb : Nat) (A B : List (BitVec 8)) (w : World) (hA : Seen w aa la A) (hB : Seen w ab lb B) :
    Calls Tryz.prog 23 #[.slice aa la ca, .slice ab lb cb] w fun e w' => e = .returned (.bool (decide (A = B))) ∧ w' = w := by
  have t1 : (convert 31 9 (.slice aa la ca)).run Tryz.prog w = .ok (.string (textOf A)) w := run_to_text w aa la ca A hA
  have t2 : (convert 31 9 (.slice ab lb cb)).run Tryz.prog w = .ok (.string (textOf B)) w := run_to_text w ab lb cb B hB
  have hx : ((textOf A).toList == (textOf B).toList) = decide (A = B) := by
    by_cases h : A = B
    · rw [h, decide_eq_true rfl]
      exact text_self _
    · rw [decide_eq_false h]
      exact text_ne (fun e => h (textOf_inj e))
  clear hA hB
  go_enter Tryz.func23, Tryz.ntmps23
  go_wp2
  go_ret
  exact ⟨rfl, rfl⟩
set_option maxRecDepth 100000 in
set_option maxHeartbeats 4000000 in
theorem load_any (pa : Option Addr) (len cap : Nat) (l : List (BitVec 8)) (w : World) (h : Seen w pa len l) (hnil : pa = none → cap = 0) (hm : len ≤ 140737488355328) :
    Calls Tryz.prog 7 #[.slice pa len cap] w fun e w' => LdTold w w' l e ∧ Below w.heap.size w w' := by
  obtain rfl : len = l.length := h.1
  have HS : Hid (Seen w pa l.length l) := h
  have NR := newReader_any pa l.length cap l w h hnil hm
  clear h hnil hm
  obtain ⟨n, a, y, hn⟩ : ∃ n a y, ldN l = (n, a, y) := ⟨_, _, _, rfl⟩
  have hn2 : n ≤ 200 := by
    have h1 : (rC l 200 0 0).1 ≤ 200 := rC_most l 200 0 0 (by omega)
    have e : (rC l 200 0 0).1 = n := by rw [show rC l 200 0 0 = (n, a, y) from hn]
    omega
  have HN : Hid (rC l 200 0 0 = (n, a, y)) := hn
  have EL : Hid (ldL l = (rdK l a y n).2.2 ∧ ldEnd l = rEnd l (rdK l a y n).1 (rdK l a y n).2.1) := by
    show _ ∧ _
    rw [ldL, ldEnd, hn]
    exact ⟨rfl, rfl⟩
  clear hn
  go_enter Tryz.func7, Tryz.ntmps7
  go_wp2_with fail
  refine NR.mono ?_
  clear NR
  rintro e w1 ⟨R, rfl, hR, r1, b1⟩
  have R1 : Hid (Rdr w1 R l 0 0) := r1
  have LR : Hid (w.heap.size ≤ R) := hR
  have B1 : Hid (Below w.heap.size w w1) := b1
  clear hR r1 b1
  have NB := new_any w1
  go_wp2_with fail
  refine NB.mono ?_
  clear NB
  rintro e w2 ⟨rfl, b2, k2⟩
  have R2 : Hid (Rdr w2 R l 0 0) := R1.out.below b2
  have K2 : Hid (BookIn w2 w1.heap.size w1.heap.size (.slice none 0 0) []) := k2
  have B2 : Hid (Below w.heap.size w w2) := B1.out.trans (b2.mono B1.out.size)
  have RL : Hid (R < w1.heap.size) := R1.out.lt
  clear b2 k2 R1 B1
  have RC := rCount_any R l 200 (by omega) 0 0 w2 R2.out
  rw [HN.out] at RC
  go_wp2_with fail
  refine RC.mono ?_
  clear RC
  rintro e w3 ⟨rfl, r3, g3⟩
  have L3 : Hid (Ld w w3 R w1.heap.size w1.heap.size l a y []) := ⟨r3, LR.out, RL.out, ⟨_, K2.out.past g3 RL.out⟩, B2.out.grown g3 B2.out.size (fun k e => by have := Option.some.inj e; have := LR.out; omega)⟩
  clear r3 g3 R2 K2 B2
  generalize w1.heap.size = N at *
  go_wp2_with fail
  go_loopw [12] (fun i wr => ∃ k : Nat, k ≤ n ∧ i = .int .i64 k ∧ Hid (Ld w wr R N N l (rdK l a y k).1 (rdK l a y k).2.1 (rdK l a y k).2.2)) (fun i _ => n - (intOf i).toNat)
  case atStart => exact ⟨0, Nat.zero_le _, rfl, L3⟩
  case round =>
    obtain ⟨k, hk, rfl, hL⟩ := hrel
    by_cases hlt : k < n
    · have RA := read_any hL.out
      have hlt' : (k : Int) < (n : Int) := by omega
      go_wp2_with fail
      refine RA.mono ?_
      clear RA
      rintro e w4 ⟨⟨u, rfl⟩, h4⟩
      have H4 : Hid (Ld w w4 R N N l (rdK l a y (k + 1)).1 (rdK l a y (k + 1)).2.1 (rdK l a y (k + 1)).2.2) := h4
      clear h4 hL
      go_wp2
      go_roundw
      case rel => exact ⟨k + 1, by omega, by go_num, H4⟩
      case measure => simp only [intOf]; omega
    · obtain rfl : k = n := by omega
      have RE := rEnd_any R l _ _ wr hL.out.rdr
      rw [← EL.out.2] at RE
      have HL : Hid (∃ sv, BookIn wr N N sv (ldL l)) := by show ∃ _, _; rw [EL.out.1]; exact hL.out.bk
      have BL : Hid (Below w.heap.size w wr) := hL.out.bel
      have LN : Hid (w.heap.size ≤ N) := by have := hL.out.lo; have := hL.out.hi; show _ ≤ _; omega
      clear hL L3 EL HN hlt
      go_wp2_with fail
      refine RE.mono ?_
      clear RE
      rintro e w5 ⟨rfl, m5, rfl⟩
      have B5 : Hid (Below w.heap.size w (wr.drewN m5)) := below_drewN' BL.out m5
      obtain ⟨sv, hbk⟩ := HL.out
      have K5 : Hid (BookIn (wr.drewN m5) N N sv (ldL l)) := hbk.below (below_drewN' (Below.refl _ wr) m5)
      generalize wr.drewN m5 = w5 at *
      clear hbk BL
      by_cases he : ldEnd l = 0
      · have HE : Hid (ldEnd l = 0) := he
        rw [he]
        clear he
        have BB := bytes_any K5.out
        go_wp2_with fail
        refine BB.mono ?_
        clear BB
        rintro e w6 ⟨ba, bc, rfl, bo, b6⟩
        have hfit := K5.out.fit
        have hlen : (bookB (ldL l)).length ≤ maxLen := by
          have := hfit.bytes (ldL l).length
          rw [List.take_length] at this
          have h10 := enc_ten (n := (ldL l).length) (by have := hfit.len; omega)
          unfold maxLen bookB
          rw [List.length_append]
          omega
        obtain ⟨_, _, e1, bs, _, _⟩ := owned_seen bo hlen
        cases e1
        have B6 : Hid (Below w.heap.size w w6) := B5.out.trans (b6.mono B5.out.size)
        have K6 : Hid (BookIn w6 N N sv (ldL l)) := K5.out.below b6
        have EQ := bytesEq_any ba pa (bookB (ldL l)).length bc l.length cap (bookB (ldL l)) l w6 bs (HS.out.below B6.out)
        clear bo b6 hfit hlen bs B5 K5
        go_wp2_with fail
        refine EQ.mono ?_
        clear EQ
        rintro e w7 ⟨rfl, rfl⟩
        by_cases hq : bookB (ldL l) = l
        · have HW : Hid (ldWhy l = 0) := by show _ = _; unfold ldWhy; rw [if_neg (fun h => h HE.out), if_pos hq]
          rw [decide_eq_true hq]
          clear hq
          go_wp2
          go_ret2
          exact ⟨.inr ⟨HW.out, N, sv, rfl, K6.out.base_le LN.out⟩, B6.out⟩
        · have HW : Hid (ldWhy l = 11) := by show _ = _; unfold ldWhy; rw [if_neg (fun h => h HE.out), if_neg hq]
          rw [decide_eq_false hq]
          clear hq
          go_wp2
          go_ret2
          exact ⟨.inl ⟨by rw [HW.out]; decide, by rw [HW.out]; rfl⟩, B6.out⟩
      · have HW : Hid (ldWhy l = ldEnd l ∧ ldEnd l ≠ 0) := ⟨by unfold ldWhy; rw [if_pos he], he⟩
        have hne : ¬ (((ldEnd l : Nat) : Int) = 0) := by omega
        clear he
        go_wp2
        go_ret2
        exact ⟨.inl ⟨by rw [HW.out.1]; exact HW.out.2, by rw [HW.out.1]; rfl⟩, B5.out⟩
end Go.Proofs.YtdchnfggmkokhaaGreatDoor
