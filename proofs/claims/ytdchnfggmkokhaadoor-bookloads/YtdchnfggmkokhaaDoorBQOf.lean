/- The reference's Of: a book of a reader. -/
import Derived.Test.YtdchnfggmkokhaaDoorBLoadM
import Derived.Test.YtdchnfggmkokhaaDoorGI
import Derived.Test.YtdchnfggmkokhaaDoorGP
import Derived.Test.YtdchnfggmkokhaaDoorGQ
import Derived.Test.YtdchnfggmkokhaaDoorSteps
namespace Go.Proofs.YtdchnfggmkokhaaDoor
open Go.RowKit Cod
set_option linter.unusedVariables false

section
variable {P : Program} {ops : Array Oper} {Q : Exit → Act → World → Prop} {md : Region.Mode} {S : World → Prop}
theorem take_skipB {i : Nat} {oi : Oper} {fuel : Nat} {listed : Array Bool} {a : Act} {w : World} (hi : ops[i]? = some oi)
    (hs : Region.noSelect ops = true) (hf : Region.free md ops listed i = true) (hr : (Region.ready md ops listed).contains i = true)
    (hQ : ∀ c a w, Q (.panic c) (a.put oi.dst undef) w → Q (.panic c) a w) (hw : Region.wanted oi (yielded ops a.tmps) = false) (hS : S w)
    (h : wpAnyH P md ops Q S fuel (listed.setIfInBounds i true) (a.put oi.dst undef) w) : wpAnyH P md ops Q S (fuel + 1) listed a w :=
  wpAnyH_take hi hs hf hr hQ (.inr ⟨hw, rfl⟩) hS h
theorem take_valB {i : Nat} {oi : Oper} {fuel : Nat} {listed : Array Bool} {a : Act} {w w' : World} (v : Value) (hi : ops[i]? = some oi) (hr : Region.ready md ops listed = [i]) (hw : Region.wanted oi (yielded ops a.tmps) = true)
    (hx : (execOp a.eval oi).run P w = .ok (.value v) w') (hS : S w') (h : wpAnyH P md ops Q S fuel (listed.setIfInBounds i true) (a.put oi.dst v) w') : wpAnyH P md ops Q S (fuel + 1) listed a w := by
  refine wpAnyH_all (rs := [i]) hr (by simp) (fun j hj => ?_)
  obtain rfl : j = i := by simpa using hj
  unfold wpOp
  simp only [hi, hw, if_true, Oper.wp, hx]
  rw [Oper.upon_value]
  exact .inl ⟨hS, h⟩
theorem take_twoB {i j : Nat} {oi oj : Oper} {fuel : Nat} {listed : Array Bool} {a : Act} {w w1 w2 : World} (u v : Value) (hi : ops[i]? = some oi) (hj : ops[j]? = some oj) (hr : Region.ready md ops listed = [i, j]) (hw : Region.wanted oi (yielded ops a.tmps) = true) (hw2 : Region.wanted oj (yielded ops a.tmps) = true)
    (hx : (execOp a.eval oi).run P w = .ok (.value u) w1) (hS : S w1) (hx2 : (execOp a.eval oj).run P w = .ok (.value v) w2) (hS2 : S w2)
    (h : wpAnyH P md ops Q S fuel (listed.setIfInBounds i true) (a.put oi.dst u) w1) (h2 : wpAnyH P md ops Q S fuel (listed.setIfInBounds j true) (a.put oj.dst v) w2) : wpAnyH P md ops Q S (fuel + 1) listed a w := by
  refine wpAnyH_all (rs := [i, j]) hr (by simp) (fun k hk => ?_)
  rcases (by simpa using hk : k = i ∨ k = j) with rfl | rfl
  · unfold wpOp
    simp only [hi, hw, if_true, Oper.wp, hx]
    rw [Oper.upon_value]
    exact .inl ⟨hS, h⟩
  · unfold wpOp
    simp only [hj, hw2, if_true, Oper.wp, hx2]
    rw [Oper.upon_value]
    exact .inl ⟨hS2, h2⟩
theorem wpAnyH_cast {fuel : Nat} {L L' : Array Bool} {a a' : Act} {w : World} (h : wpAnyH P md ops Q S fuel L a w) (e1 : L = L') (e2 : a = a') : wpAnyH P md ops Q S fuel L' a' w := by rw [← e1, ← e2]; exact h
/-- Two reads, in either order, and what follows both. -/
theorem take_forkB {i j : Nat} {oi oj : Oper} {fuel fuel' : Nat} {listed L : Array Bool} {a A : Act} {w : World} (u v : Value) (hi : ops[i]? = some oi) (hj : ops[j]? = some oj) (hr : Region.ready md ops listed = [i, j]) (hw : Region.wanted oi (yielded ops a.tmps) = true) (hw2 : Region.wanted oj (yielded ops a.tmps) = true)
    (hx : (execOp a.eval oi).run P w = .ok (.value u) w) (hx2 : (execOp a.eval oj).run P w = .ok (.value v) w) (hS : S w)
    (h1 : wpAnyH P md ops Q S fuel' L A w → wpAnyH P md ops Q S fuel (listed.setIfInBounds i true) (a.put oi.dst u) w)
    (h2 : wpAnyH P md ops Q S fuel' L A w → wpAnyH P md ops Q S fuel (listed.setIfInBounds j true) (a.put oj.dst v) w)
    (h : wpAnyH P md ops Q S fuel' L A w) : wpAnyH P md ops Q S (fuel + 1) listed a w :=
  take_twoB u v hi hj hr hw hw2 hx hS hx2 hS (h1 h) (h2 h)
end
def onwardQ (Q : Exit → Act → World → Prop) : Exit → Act → World → Prop
  | .normal, a, w => Q .normal a w
  | _, _, _ => False
theorem onwardQ_wp {P : Program} {c : Code} {Q : Exit → Act → World → Prop} {a : Act} {w : World} (h : c.wp P (onwardQ Q) a w) : c.wp P Q a w :=
  Code.wp_mono (fun e a w h => by cases e <;> first | exact h | exact h.elim) h
/-- While a book is read by the reference: the Reader ahead of it. -/
structure QL (w0 w : World) (R A0 B N : Nat) (l : List (BitVec 8)) (a y : Nat) : Prop where
  rdr : RRd w R A0 B l a y
  lo : w0.heap.size ≤ R
  hR : R < B
  hB : B ≤ N
  hN : N < w.heap.size
  bel : Below w0.heap.size w0 w
/-- A book of which nothing is told but where it lies. -/
def QX (w : World) (N k : Nat) : Prop := ∃ sv X, w.heap[N]? = some (.cells #[sv] 71 (0, 0)) ∧ w.ownsRow N 86 3 sv X.length (cells3 X) ∧ X.length ≤ k
def QB (w : World) (N : Nat) (A : List Acc) (ok : Bool) (k : Nat) : Prop := (ok = true ∧ ∃ sv, RefB w N N sv A) ∨ (ok = false ∧ ¬ Fit A ∧ QX w N k)
section
variable {w0 w w' : World} {R A0 B N : Nat} {l : List (BitVec 8)} {a y a' y' : Nat} {A : List Acc} {sv : Value}
theorem QL.read (h : QL w0 w R A0 B N l a y) (r : RRd w' R A0 B l a' y') (g : w.grownBy w' (some R)) : QL w0 w' R A0 B N l a' y' :=
  { h with
    rdr := r
    hN := Nat.lt_of_lt_of_le h.hN g.size
    bel := h.bel.grown g h.bel.size (fun k e => by have := Option.some.inj e; have := h.lo; omega) }
theorem RefB.past (b : RefB w N N sv A) (g : w.grownBy w' (some R)) (hR : R < N) : RefB w' N N sv A :=
  b.keep (g.block N b.ltN (fun e => by have := Option.some.inj e; omega)) (fun k e => g.block k (row_kind b.row e).2.1 (fun e2 => by have := (row_kind b.row e).1; have := Option.some.inj e2; omega))
theorem QX.past {k : Nat} (b : QX w N k) (g : w.grownBy w' (some R)) (hR : R < N) : QX w' N k := by
  obtain ⟨sv, X, h1, h2, h3⟩ := b
  exact ⟨sv, X, (g.block N (Array.getElem?_eq_some_iff.1 h1).1 (fun e => by have := Option.some.inj e; omega)).trans h1, owns_kept h2 (fun k e => g.block k (row_kind h2 e).2.1 (fun e2 => by have := (row_kind h2 e).1; have := Option.some.inj e2; omega)), h3⟩
theorem QB.past {ok : Bool} {k : Nat} (b : QB w N A ok k) (g : w.grownBy w' (some R)) (hR : R < N) : QB w' N A ok k := by
  rcases b with ⟨h1, sv, h2⟩ | ⟨h1, h2, h3⟩
  · exact .inl ⟨h1, sv, h2.past g hR⟩
  · exact .inr ⟨h1, h2, h3.past g hR⟩
theorem RefB.toX (b : RefB w N N sv A) : QX w N A.length := ⟨sv, A, b.hN, b.row, Nat.le_refl _⟩
/-- The book has changed, the Reader has not. -/
theorem QL.chg (h : QL w0 w R A0 B N l a y) (c : Chg w w' N sv.ownBlock) (b : RefB w N N sv A) : QL w0 w' R A0 B N l a y := by
  have h1 := h.hR
  have h2 := h.hB
  have h3 := h.lo
  refine { h with
    rdr := h.rdr.since (c.block R h.rdr.lt (by omega) (fun e => by have := (row_kind b.row e.symm).1; omega)) (fun k hk hs => c.block k hs (by omega) (fun e => by have := (row_kind b.row e.symm).1; omega))
    hN := Nat.lt_of_lt_of_le h.hN c.size
    bel := h.bel.trans ((b.chg_below c).mono (by omega)) }
/-- One account more, that can not be. -/
theorem QX.more {k : Nat} (b : QX w N k) (hk : k < 500) (nm : ByteArray) : ∃ xa m xc, w.heap[N]? = some (.cells #[.slice xa m xc] 71 (0, 0)) ∧ ∃ a' c' w', (Builtin.append_ #[69, 69] 69 #[.slice xa m xc, .slice (some ⟨w.heap.size, 0, none⟩) 1 1]).run Tryd.prog (w.alloc (.cells #[.string nm, .int .i64 0, .string ⟨#[]⟩] 86)) = .ok (.slice a' (m + 1) c') w' ∧
    w'.heap[N]? = some (.cells #[.slice xa m xc] 71 (0, 0)) ∧ QX (w'.setCell ⟨N, 0, none⟩ (.slice a' (m + 1) c')) N (k + 1) ∧ Below N w (w'.setCell ⟨N, 0, none⟩ (.slice a' (m + 1) c')) := by
  obtain ⟨sv, X, h1, h2, h3⟩ := b
  obtain ⟨xa, xc, e, _⟩ := row_form h2
  subst e
  have hlt := (Array.getElem?_eq_some_iff.1 h1).1
  have bA : Below w.heap.size w (w.alloc (.cells #[.string nm, .int .i64 0, .string ⟨#[]⟩] 86)) := (Below.refl _ w).alloc (Nat.le_refl _) _
  have hnew := heap_alloc_new w (.cells #[.string nm, .int .i64 0, .string ⟨#[]⟩] 86)
  obtain ⟨a2, c2, w3, r2, o2, g2, s2⟩ := run_append_q 69 (w.alloc (.cells #[.string nm, .int .i64 0, .string ⟨#[]⟩] 86)) N (.slice xa X.length xc) X.length X (owns_kept h2 (fun g e => bA.block g (row_kind h2 e).2.1)) (some ⟨w.heap.size, 0, none⟩) 1 1 [⟨nm, 0, ⟨#[]⟩⟩] rfl (.inr ⟨w.heap.size, 0, rfl, fun j hj => by
    have hj0 : j = 0 := by simp at hj; omega
    subst hj0
    simp only [World.cell?, hnew]
    simp⟩) (fun e => by cases e) (by omega) (by have := bA.size; omega)
  have hne : ∀ g, (Value.slice xa X.length xc).ownBlock = some g → g ≠ N := fun g e q => by
    obtain ⟨_, _, cur, h4⟩ := row_kind h2 e
    rw [q, h1] at h4
    injection h4 with h4
    injection h4 with _ h4
    exact absurd h4 (by decide)
  have hN3 : w3.heap[N]? = some (.cells #[.slice xa X.length xc] 71 (0, 0)) := by
    rw [g2.block N (Nat.lt_of_lt_of_le hlt bA.size) (fun e => hne N e.symm rfl), bA.block N hlt]
    exact h1
  have b3 : Below N w w3 := (bA.mono (Nat.le_of_lt hlt)).grown g2 (by have := bA.size; omega) (fun k e => (row_kind h2 e).1)
  refine ⟨xa, X.length, xc, h1, a2, c2, w3, r2, hN3, ⟨.slice a2 (X.length + 1) c2, X ++ [⟨nm, 0, ⟨#[]⟩⟩], ?_, ?_, by simp; omega⟩, b3.setCell (p := ⟨N, 0, none⟩) (Nat.le_refl _) _⟩
  · have := heap_setCell_same w3 N 0 _ 71 (.slice a2 (X.length + 1) c2) hN3
    simpa using this
  · rw [List.length_append]
    refine owns_kept o2 (fun g e => Below.heap_setCell _ _ _ g (fun e2 => ?_))
    obtain ⟨_, _, cur, h4⟩ := row_kind o2 e
    have e3 : g = N := by simpa using e2
    rw [e3, hN3] at h4
    injection h4 with h4
    injection h4 with _ h4
    exact absurd h4 (by decide)
theorem QL.low (h : QL w0 w R A0 B N l a y) (b : Below N w w') : QL w0 w' R A0 B N l a y := by
  have h1 := h.hR
  have h2 := h.hB
  have h3 := h.lo
  exact { h with
    rdr := h.rdr.since (b.block R (by omega)) (fun k hk _ => b.block k (by omega))
    hN := Nat.lt_of_lt_of_le h.hN b.size
    bel := h.bel.trans (b.mono (by omega)) }
theorem QL.errCell (h : QL w0 w R A0 B N l a y) : w.cell? ⟨R, 2, none⟩ = some (.int .i64 (y : Nat)) ∧ w.frozen? ⟨R, 2, none⟩ = false := by
  obtain ⟨x, cap, c0, c1, c2, f, _⟩ := h.rdr.cells
  exact ⟨c2, f 2⟩
end

set_option maxRecDepth 100000 in
set_option maxHeartbeats 16000000 in
theorem qof_any {w0 w : World} {R A0 B : Nat} {l : List (BitVec 8)} (h : RRd w R A0 B l 0 0) (lo : w0.heap.size ≤ R) (hR : R < B) (hB : B ≤ w.heap.size) (bel : Below w0.heap.size w0 w) (n a y : Nat) (hn : ldN l = (n, a, y)) :
    Calls Tryd.prog 19 #[.pointer (some ⟨R, 0, none⟩)] w fun e w' => ∃ N ok, e = .returned (.tuple #[.pointer (some ⟨N, 0, none⟩), .bool ok]) ∧ QL w0 w' R A0 B N l (ak l a y n).2.1 (ak l a y n).2.2 ∧ ((ak l a y n).2.2 = 0 → QB w' N (ak l a y n).1 ok n) := by
  have hrc : rC l 200 0 0 = (n, a, y) := hn
  have hn2 : n ≤ 200 := by
    have h1 : (rC l 200 0 0).1 ≤ 200 := rC_most l 200 0 0 (by omega)
    rw [hrc] at h1
    exact h1
  have hg := rC_goes l 200 0 0 (Nat.zero_le _)
  rw [hrc] at hg
  have HA : Hid (a ≤ l.length) := hg.2.1
  obtain ⟨w1, hw1⟩ : ∃ w1, w.alloc (.cells #[.slice none 0 0] 71) = w1 := ⟨_, rfl⟩
  have b1 : Below w.heap.size w w1 := by rw [← hw1]; exact (Below.refl _ w).alloc (Nat.le_refl _) _
  have X1 : w1.heap[w.heap.size]? = some (.cells #[.slice none 0 0] 71 (0, 0)) := by rw [← hw1]; exact heap_alloc_new w _
  have K1 : Hid (RefB w1 w.heap.size w.heap.size (.slice none 0 0) []) := ⟨X1, World.ownsRow_nil _ _ _ _, Nat.le_refl _, Fit.nil⟩
  have L1 : Hid (QL w0 w1 R A0 B w.heap.size l 0 0) := ⟨h.keep b1, lo, hR, hB, (Array.getElem?_eq_some_iff.1 X1).1, bel.trans (b1.mono bel.size)⟩
  have RC := refRCount_any R A0 B l 200 (by omega) (by omega) 0 0 w1 L1.out.rdr
  rw [hrc] at RC
  have NN : Hid (n ≤ 200) := hn2
  clear h lo hR hB bel hn hrc hg b1 X1
  generalize hNN : w.heap.size = N at *
  go_enter Tryd.func19, Tryd.ntmps19
  go_wp2_with fail
  clear hNN hw1
  refine RC.mono ?_
  clear RC
  rintro e w2 ⟨rfl, r2, g2⟩
  have L2 : Hid (QL w0 w2 R A0 B N l (ak l a y 0).2.1 (ak l a y 0).2.2) := L1.out.read r2 g2
  have Q2 : Hid (QB w2 N (ak l a y 0).1 true 0) := .inl ⟨rfl, _, K1.out.past g2 (by have := L1.out.hR; have := L1.out.hB; omega)⟩
  clear r2 g2 L1 K1
  go_wp2_with fail
  go_loopw [6, 7] (fun o i wr => ∃ (k : Nat) (okb : Bool), k ≤ n ∧ o = .bool okb ∧ i = .int .i64 k ∧ Hid (QL w0 wr R A0 B N l (ak l a y k).2.1 (ak l a y k).2.2) ∧ Hid (QB wr N (ak l a y k).1 okb k)) (fun _ i _ => n - (intOf i).toNat)
  case atStart => exact ⟨0, true, Nat.zero_le _, rfl, rfl, L2, Q2⟩
  case round =>
    obtain ⟨k, okb, hk, rfl, rfl, hL, hQ⟩ := hrel
    clear L2 Q2
    obtain ⟨e1, e2⟩ := hL.out.errCell
    by_cases hlt : k < n
    · have hlt' : (k : Int) < (n : Int) := by omega
      by_cases hy : (ak l a y k).2.2 = 0
      · have hyi : ((((ak l a y k).2.2 : Nat) : Int) == 0) = true := by rw [hy]; rfl
        obtain ⟨r1, h1⟩ : ∃ r, rS l (ak l a y k).2.1 (ak l a y k).2.2 = r := ⟨_, rfl⟩
        obtain ⟨r2, h2⟩ : ∃ r, rU l r1.2.1 r1.2.2 = r := ⟨_, rfl⟩
        obtain ⟨r3, h3⟩ : ∃ r, rS l r2.2.1 r2.2.2 = r := ⟨_, rfl⟩
        have hrd : rdA l (ak l a y k).2.1 (ak l a y k).2.2 = (⟨textOf r1.1, zag r2.1, textOf r3.1⟩, r3.2.1, r3.2.2) := by simp only [rdA, h1, h2, h3]
        have SH := rdA_short l (ak l a y k).2.1 (ak l a y k).2.2
        rw [hrd] at SH
        have HS : Hid _ := SH
        have HK : Hid (ak l a y (k + 1) = ((ak l a y k).1 ++ [⟨textOf r1.1, zag r2.1, textOf r3.1⟩], r3.2.1, r3.2.2)) := by show _ = _; rw [ak_succ, hrd]
        have T1 := refRText_any R A0 B l _ _ wr hL.out.rdr
        rw [h1] at T1
        have H2 : Hid (∀ x, RRd x R A0 B l r1.2.1 r1.2.2 → Calls Tryd.prog 51 #[.pointer (some ⟨R, 0, none⟩)] x fun e w' => e = .returned (.int .i64 (zag r2.1)) ∧ RRd w' R A0 B l r2.2.1 r2.2.2 ∧ x.grownBy w' (some R)) := fun x hx => by have := refRInt_any R A0 B l _ _ x hx; rw [h2] at this; exact this
        have H3 : Hid (∀ x, RRd x R A0 B l r2.2.1 r2.2.2 → Calls Tryd.prog 50 #[.pointer (some ⟨R, 0, none⟩)] x fun e w' => e = .returned (.string (textOf r3.1)) ∧ RRd w' R A0 B l r3.2.1 r3.2.2 ∧ x.grownBy w' (some R)) := fun x hx => by have := refRText_any R A0 B l _ _ x hx; rw [h3] at this; exact this
        have HLT : Hid (k < n) := hlt
        have HRN : Hid (R < N) := by have := hL.out.hR; have := hL.out.hB; show _ < _; omega
        have AL : Hid ((ak l a y k).1.length = k) := ak_len l a y k
        generalize (ak l a y k).1 = A at *
        generalize (ak l a y k).2.1 = ka at *
        generalize (ak l a y k).2.2 = ky at *
        clear h1 h2 h3 hrd SH hy hk
        go_wp2_with fail
        refine T1.mono ?_
        clear T1 hyi e1 e2
        rintro e w3 ⟨rfl, q3, g3⟩
        have L3 : Hid (QL w0 w3 R A0 B N l r1.2.1 r1.2.2) := hL.out.read q3 g3
        have Q3 : Hid (QB w3 N A okb k) := hQ.out.past g3 HRN.out
        clear q3 g3 hL hQ
        go_wp2_with fail
        refine (H2.out w3 L3.out.rdr).mono ?_
        rintro e w4 ⟨rfl, q4, g4⟩
        have L4 : Hid (QL w0 w4 R A0 B N l r2.2.1 r2.2.2) := L3.out.read q4 g4
        have Q4 : Hid (QB w4 N A okb k) := Q3.out.past g4 HRN.out
        clear q4 g4 L3 Q3 H2
        go_wp2_with fail
        refine (H3.out w4 L4.out.rdr).mono ?_
        rintro e w5 ⟨rfl, q5, g5⟩
        have L5 : Hid (QL w0 w5 R A0 B N l r3.2.1 r3.2.2) := L4.out.read q5 g5
        have Q5 : Hid (QB w5 N A okb k) := Q4.out.past g5 HRN.out
        clear q5 g5 L4 Q4 H3
        obtain ⟨e1, e2⟩ := L5.out.errCell
        by_cases hz : r3.2.2 = 0
        · have hz0 := hz
          generalize textOf r1.1 = nm at *
          generalize zag r2.1 = am at *
          generalize textOf r3.1 = by0 at *
          generalize r3.2.1 = fa at *
          generalize r3.2.2 = fy at *
          subst hz0
          clear hz
          rcases Q5.out with ⟨rfl, sv, hb⟩ | ⟨rfl, hnf, hx⟩
          · have hb5 : Hid (RefB w5 N N sv A) := hb
            have HFA : Hid (Fit A) := hb.fit
            clear hb Q5
            by_cases hk0 : k = 0
            · have HBh : Hid (Behind A nm) := .inl (List.eq_nil_of_length_eq_zero (by rw [AL.out]; exact hk0))
              have hki : (((k : Nat) : Int) == 0) = true := by rw [hk0]; rfl
              clear hk0
              go_wp2_with fail
              refine onwardQ_wp ?_
              refine wp_region_held_drew (S := fun _ => True) (by kernel_rfl) trivial (fun hHeld => ?_)
              obtain ⟨wz, hwz⟩ : ∃ wz, w5.drew = wz := ⟨_, rfl⟩
              have bz : Below w5.heap.size w5 wz := by rw [← hwz]; exact (Below.refl _ w5).drew
              rw [hwz]
              refine take_run (i := 0) (oi := { dst := some 38, op := Go.Op.move (Go.Operand.tmp 6), type := 4, pos := "ref.go:253", after := #[], guard := none }) (v := ?_) rfl (by kernel_rfl) (by kernel_rfl) (by kernel_rfl) (fun _ _ _ h => h) (by rfl) ?_ hHeld ?_
              rotate_left
              · (intro wq hSw; go_simp <;> with_reducible rfl)
              try simp only [Act.put, List.setIfInBounds_toArray, List.set_cons_zero, List.set_cons_succ]
              refine take_run (i := 1) (oi := { dst := some 39, op := Go.Op.move (Go.Operand.tmp 38), type := 4, pos := "ref.go:253", after := #[{ on := 0, ground := Go.Ground.data }], guard := none }) (v := ?_) rfl (by kernel_rfl) (by kernel_rfl) (by kernel_rfl) (fun _ _ _ h => h) (by rfl) ?_ hHeld ?_
              rotate_left
              · (intro wq hSw; go_simp <;> with_reducible rfl)
              try simp only [Act.put, List.setIfInBounds_toArray, List.set_cons_zero, List.set_cons_succ]
              refine take_run (i := 2) (oi := { dst := some 40, op := Go.Op.move (Go.Operand.tmp 7), type := 3, pos := "ref.go:253", after := #[{ on := 1, ground := Go.Ground.guard }], guard := some (1, true) }) (v := ?_) rfl (by kernel_rfl) (by kernel_rfl) (by kernel_rfl) (fun _ _ _ h => h) (by rfl) ?_ hHeld ?_
              rotate_left
              · (intro wq hSw; go_simp <;> with_reducible rfl)
              try simp only [Act.put, List.setIfInBounds_toArray, List.set_cons_zero, List.set_cons_succ]
              refine take_run (i := 3) (oi := { dst := some 41, op := Go.Op.binOp Go.BinOp.eql 3 (Go.Operand.tmp 40) (Go.Operand.const (Go.Value.int Go.IntKind.i64 0)) 3, type := 4, pos := "ref.go:253", after := #[{ on := 2, ground := Go.Ground.data }, { on := 1, ground := Go.Ground.guard }], guard := some (1, true) }) (v := ?_) rfl (by kernel_rfl) (by kernel_rfl) (by kernel_rfl) (fun _ _ _ h => h) (by rfl) ?_ hHeld ?_
              rotate_left
              · (intro wq hSw; go_simp <;> with_reducible rfl)
              try simp only [Act.put, List.setIfInBounds_toArray, List.set_cons_zero, List.set_cons_succ]
              refine take_run (i := 4) (oi := { dst := some 42, op := Go.Op.move (Go.Operand.tmp 41), type := 4, pos := "ref.go:253", after := #[{ on := 3, ground := Go.Ground.data }, { on := 1, ground := Go.Ground.chain }, { on := 1, ground := Go.Ground.guard }], guard := some (1, true) }) (v := ?_) rfl (by kernel_rfl) (by kernel_rfl) (by kernel_rfl) (fun _ _ _ h => h) (by rfl) ?_ hHeld ?_
              rotate_left
              · (intro wq hSw; go_simp <;> with_reducible rfl)
              try simp only [Act.put, List.setIfInBounds_toArray, List.set_cons_zero, List.set_cons_succ]
              refine take_skipB (i := 5) (oi := { dst := some 43, op := Go.Op.move (Go.Operand.tmp 8), type := 9, pos := "ref.go:253", after := #[{ on := 4, ground := Go.Ground.guard }], guard := some (4, false) }) rfl (by kernel_rfl) (by kernel_rfl) (by kernel_rfl) (fun _ _ _ h => h) (by rfl) hHeld ?_
              try simp only [Act.put, List.setIfInBounds_toArray, List.set_cons_zero, List.set_cons_succ]
              refine take_skipB (i := 6) (oi := { dst := some 44, op := Go.Op.move (Go.Operand.tmp 4), type := 28, pos := "ref.go:253", after := #[{ on := 4, ground := Go.Ground.guard }], guard := some (4, false) }) rfl (by kernel_rfl) (by kernel_rfl) (by kernel_rfl) (fun _ _ _ h => h) (by rfl) hHeld ?_
              try simp only [Act.put, List.setIfInBounds_toArray, List.set_cons_zero, List.set_cons_succ]
              refine take_skipB (i := 7) (oi := { dst := some 45, op := Go.Op.nilCheck (Go.Operand.tmp 44), type := 0, pos := "ref.go:253", after := #[{ on := 6, ground := Go.Ground.data }, { on := 4, ground := Go.Ground.guard }], guard := some (4, false) }) rfl (by kernel_rfl) (by kernel_rfl) (by kernel_rfl) (fun _ _ _ h => h) (by rfl) hHeld ?_
              try simp only [Act.put, List.setIfInBounds_toArray, List.set_cons_zero, List.set_cons_succ]
              refine take_skipB (i := 8) (oi := { dst := some 46, op := Go.Op.fieldAddr 71 (Go.Operand.tmp 45) 0, type := 0, pos := "ref.go:253", after := #[{ on := 7, ground := Go.Ground.data }, { on := 4, ground := Go.Ground.guard }], guard := some (4, false) }) rfl (by kernel_rfl) (by kernel_rfl) (by kernel_rfl) (fun _ _ _ h => h) (by rfl) hHeld ?_
              try simp only [Act.put, List.setIfInBounds_toArray, List.set_cons_zero, List.set_cons_succ]
              refine take_skipB (i := 9) (oi := { dst := some 47, op := Go.Op.load 69 (Go.Operand.tmp 46), type := 69, pos := "ref.go:253", after := #[{ on := 8, ground := Go.Ground.data }, { on := 4, ground := Go.Ground.guard }], guard := some (4, false) }) rfl (by kernel_rfl) (by kernel_rfl) (by kernel_rfl) (fun _ _ _ h => h) (by rfl) hHeld ?_
              try simp only [Act.put, List.setIfInBounds_toArray, List.set_cons_zero, List.set_cons_succ]
              refine take_skipB (i := 10) (oi := { dst := some 48, op := Go.Op.move (Go.Operand.tmp 4), type := 28, pos := "ref.go:253", after := #[{ on := 4, ground := Go.Ground.guard }], guard := some (4, false) }) rfl (by kernel_rfl) (by kernel_rfl) (by kernel_rfl) (fun _ _ _ h => h) (by rfl) hHeld ?_
              try simp only [Act.put, List.setIfInBounds_toArray, List.set_cons_zero, List.set_cons_succ]
              refine take_skipB (i := 11) (oi := { dst := some 49, op := Go.Op.nilCheck (Go.Operand.tmp 48), type := 0, pos := "ref.go:253", after := #[{ on := 10, ground := Go.Ground.data }, { on := 4, ground := Go.Ground.guard }], guard := some (4, false) }) rfl (by kernel_rfl) (by kernel_rfl) (by kernel_rfl) (fun _ _ _ h => h) (by rfl) hHeld ?_
              try simp only [Act.put, List.setIfInBounds_toArray, List.set_cons_zero, List.set_cons_succ]
              refine take_skipB (i := 12) (oi := { dst := some 50, op := Go.Op.fieldAddr 71 (Go.Operand.tmp 49) 0, type := 0, pos := "ref.go:253", after := #[{ on := 11, ground := Go.Ground.data }, { on := 4, ground := Go.Ground.guard }], guard := some (4, false) }) rfl (by kernel_rfl) (by kernel_rfl) (by kernel_rfl) (fun _ _ _ h => h) (by rfl) hHeld ?_
              try simp only [Act.put, List.setIfInBounds_toArray, List.set_cons_zero, List.set_cons_succ]
              refine take_skipB (i := 13) (oi := { dst := some 51, op := Go.Op.load 69 (Go.Operand.tmp 50), type := 69, pos := "ref.go:253", after := #[{ on := 12, ground := Go.Ground.data }, { on := 4, ground := Go.Ground.guard }], guard := some (4, false) }) rfl (by kernel_rfl) (by kernel_rfl) (by kernel_rfl) (fun _ _ _ h => h) (by rfl) hHeld ?_
              try simp only [Act.put, List.setIfInBounds_toArray, List.set_cons_zero, List.set_cons_succ]
              refine take_skipB (i := 14) (oi := { dst := some 52, op := Go.Op.call { callee := Go.Callee.builtin Go.Builtin.len, args := #[Go.Operand.tmp 51], argTypes := #[69] }, type := 3, pos := "ref.go:253", after := #[{ on := 13, ground := Go.Ground.data }, { on := 4, ground := Go.Ground.guard }], guard := some (4, false) }) rfl (by kernel_rfl) (by kernel_rfl) (by kernel_rfl) (fun _ _ _ h => h) (by rfl) hHeld ?_
              try simp only [Act.put, List.setIfInBounds_toArray, List.set_cons_zero, List.set_cons_succ]
              refine take_skipB (i := 15) (oi := { dst := some 53, op := Go.Op.binOp Go.BinOp.sub 3 (Go.Operand.tmp 52) (Go.Operand.const (Go.Value.int Go.IntKind.i64 1)) 3, type := 3, pos := "ref.go:253", after := #[{ on := 14, ground := Go.Ground.data }, { on := 4, ground := Go.Ground.guard }], guard := some (4, false) }) rfl (by kernel_rfl) (by kernel_rfl) (by kernel_rfl) (fun _ _ _ h => h) (by rfl) hHeld ?_
              try simp only [Act.put, List.setIfInBounds_toArray, List.set_cons_zero, List.set_cons_succ]
              refine take_skipB (i := 16) (oi := { dst := some 54, op := Go.Op.indexAddr 69 (Go.Operand.tmp 47) (Go.Operand.tmp 53), type := 0, pos := "ref.go:253", after := #[{ on := 9, ground := Go.Ground.data }, { on := 15, ground := Go.Ground.data }, { on := 4, ground := Go.Ground.guard }], guard := some (4, false) }) rfl (by kernel_rfl) (by kernel_rfl) (by kernel_rfl) (fun _ _ _ h => h) (by rfl) hHeld ?_
              try simp only [Act.put, List.setIfInBounds_toArray, List.set_cons_zero, List.set_cons_succ]
              refine take_skipB (i := 17) (oi := { dst := some 55, op := Go.Op.fieldAddr 86 (Go.Operand.tmp 54) 0, type := 0, pos := "ref.go:253", after := #[{ on := 16, ground := Go.Ground.data }, { on := 4, ground := Go.Ground.guard }], guard := some (4, false) }) rfl (by kernel_rfl) (by kernel_rfl) (by kernel_rfl) (fun _ _ _ h => h) (by rfl) hHeld ?_
              try simp only [Act.put, List.setIfInBounds_toArray, List.set_cons_zero, List.set_cons_succ]
              refine take_skipB (i := 18) (oi := { dst := some 56, op := Go.Op.load 9 (Go.Operand.tmp 55), type := 9, pos := "ref.go:253", after := #[{ on := 17, ground := Go.Ground.data }, { on := 4, ground := Go.Ground.guard }], guard := some (4, false) }) rfl (by kernel_rfl) (by kernel_rfl) (by kernel_rfl) (fun _ _ _ h => h) (by rfl) hHeld ?_
              try simp only [Act.put, List.setIfInBounds_toArray, List.set_cons_zero, List.set_cons_succ]
              refine take_skipB (i := 19) (oi := { dst := some 57, op := Go.Op.binOp Go.BinOp.gtr 9 (Go.Operand.tmp 43) (Go.Operand.tmp 56) 9, type := 4, pos := "ref.go:253", after := #[{ on := 5, ground := Go.Ground.data }, { on := 18, ground := Go.Ground.data }, { on := 4, ground := Go.Ground.guard }], guard := some (4, false) }) rfl (by kernel_rfl) (by kernel_rfl) (by kernel_rfl) (fun _ _ _ h => h) (by rfl) hHeld ?_
              try simp only [Act.put, List.setIfInBounds_toArray, List.set_cons_zero, List.set_cons_succ]
              refine take_run (i := 20) (oi := { dst := some 58, op := Go.Op.pick (Go.Operand.tmp 42) (Go.Operand.const (Go.Value.bool true)) (Go.Operand.tmp 57), type := 4, pos := "ref.go:253", after := #[{ on := 4, ground := Go.Ground.data }, { on := 19, ground := Go.Ground.data }, { on := 1, ground := Go.Ground.guard }], guard := some (1, true) }) (v := ?_) rfl (by kernel_rfl) (by kernel_rfl) (by kernel_rfl) (fun _ _ _ h => h) (by rfl) ?_ hHeld ?_
              rotate_left
              · (intro wq hSw; go_simp <;> with_reducible rfl)
              try simp only [Act.put, List.setIfInBounds_toArray, List.set_cons_zero, List.set_cons_succ]
              refine take_run (i := 21) (oi := { dst := some 59, op := Go.Op.pick (Go.Operand.tmp 39) (Go.Operand.tmp 58) (Go.Operand.const (Go.Value.bool false)), type := 4, pos := "ref.go:253", after := #[{ on := 1, ground := Go.Ground.data }, { on := 20, ground := Go.Ground.data }], guard := none }) (v := ?_) rfl (by kernel_rfl) (by kernel_rfl) (by kernel_rfl) (fun _ _ _ h => h) (by rfl) ?_ hHeld ?_
              rotate_left
              · (intro wq hSw; go_simp <;> with_reducible rfl)
              try simp only [Act.put, List.setIfInBounds_toArray, List.set_cons_zero, List.set_cons_succ]
              refine take_run (i := 22) (oi := { dst := some 60, op := Go.Op.move (Go.Operand.tmp 59), type := 4, pos := "ref.go:253", after := #[{ on := 21, ground := Go.Ground.data }, { on := 4, ground := Go.Ground.chain }], guard := none }) (v := ?_) rfl (by kernel_rfl) (by kernel_rfl) (by kernel_rfl) (fun _ _ _ h => h) (by rfl) ?_ hHeld ?_
              rotate_left
              · (intro wq hSw; go_simp <;> with_reducible rfl)
              try simp only [Act.put, List.setIfInBounds_toArray, List.set_cons_zero, List.set_cons_succ]
              refine take_run (i := 23) (oi := { dst := some 61, op := Go.Op.move (Go.Operand.tmp 4), type := 28, pos := "ref.go:253", after := #[{ on := 22, ground := Go.Ground.guard }], guard := some (22, true) }) (v := ?_) rfl (by kernel_rfl) (by kernel_rfl) (by kernel_rfl) (fun _ _ _ h => h) (by rfl) ?_ hHeld ?_
              rotate_left
              · (intro wq hSw; go_simp <;> with_reducible rfl)
              try simp only [Act.put, List.setIfInBounds_toArray, List.set_cons_zero, List.set_cons_succ]
              refine take_run (i := 24) (oi := { dst := some 62, op := Go.Op.move (Go.Operand.tmp 8), type := 9, pos := "ref.go:253", after := #[{ on := 22, ground := Go.Ground.guard }], guard := some (22, true) }) (v := ?_) rfl (by kernel_rfl) (by kernel_rfl) (by kernel_rfl) (fun _ _ _ h => h) (by rfl) ?_ hHeld ?_
              rotate_left
              · (intro wq hSw; go_simp <;> with_reducible rfl)
              try simp only [Act.put, List.setIfInBounds_toArray, List.set_cons_zero, List.set_cons_succ]
              refine take_run (i := 25) (oi := { dst := some 63, op := Go.Op.move (Go.Operand.tmp 9), type := 2, pos := "ref.go:253", after := #[{ on := 22, ground := Go.Ground.guard }], guard := some (22, true) }) (v := ?_) rfl (by kernel_rfl) (by kernel_rfl) (by kernel_rfl) (fun _ _ _ h => h) (by rfl) ?_ hHeld ?_
              rotate_left
              · (intro wq hSw; go_simp <;> with_reducible rfl)
              try simp only [Act.put, List.setIfInBounds_toArray, List.set_cons_zero, List.set_cons_succ]
              refine take_run (i := 26) (oi := { dst := some 64, op := Go.Op.build 59 #[(0, Go.Operand.tmp 62), (1, Go.Operand.tmp 63)], type := 59, pos := "ref.go:253", after := #[{ on := 24, ground := Go.Ground.data }, { on := 25, ground := Go.Ground.data }, { on := 22, ground := Go.Ground.guard }], guard := some (22, true) }) (v := ?_) rfl (by kernel_rfl) (by kernel_rfl) (by kernel_rfl) (fun _ _ _ h => h) (by rfl) ?_ hHeld ?_
              rotate_left
              · (intro wq hSw; go_simp <;> with_reducible rfl)
              try simp only [Act.put, List.setIfInBounds_toArray, List.set_cons_zero, List.set_cons_succ]
              clear hki e1 e2
              have PT := qput_any (hb5.out.below bz) nm am ⟨HS.out.2.2.1, by have := HS.out.2.2.2; omega⟩ (by have := HS.out.2.1; unfold maxLen; omega)
              have Kz : Hid (RefB wz N N sv A) := hb5.out.below bz
              have Lz0 : Hid (QL w0 wz R A0 B N l fa 0) := L5.out.low (bz.mono (Nat.le_of_lt L5.out.hN))
              clear bz hwz hb5
              by_cases hg : nameOk nm = true ∧ 0 ≤ am
              · have hsn := putP_snoc (p := ⟨nm, am, by0⟩) HFA.out HBh.out hg.1 hg.2 (by rw [AL.out]; have := HLT.out; have := NN.out; omega)
                simp only at hsn
                rw [hsn] at PT
                clear hsn hg
                refine take_call (i := 27) (oi := { dst := some 65, op := Go.Op.call { callee := Go.Callee.value (Go.Operand.func 52), args := #[Go.Operand.tmp 61, Go.Operand.tmp 64], argTypes := #[28, 59] }, type := 25, pos := "ref.go:253", after := #[{ on := 23, ground := Go.Ground.data }, { on := 26, ground := Go.Ground.data }, { on := 22, ground := Go.Ground.chain }, { on := 22, ground := Go.Ground.guard }], guard := some (22, true) }) rfl (by kernel_rfl) (by rfl) 52 _ (by go_simp <;> with_reducible rfl) ?_
                refine (PT).mono ?_
                rintro e w7 ⟨rfl, t7⟩
                refine ⟨_, rfl, trivial, ?_⟩
                try simp only [Act.put, List.setIfInBounds_toArray, List.set_cons_zero, List.set_cons_succ]
                refine take_run (i := 28) (oi := { dst := some 66, op := Go.Op.binOp Go.BinOp.eql 25 (Go.Operand.tmp 65) (Go.Operand.const (Go.Value.int Go.IntKind.i64 0)) 25, type := 4, pos := "ref.go:253", after := #[{ on := 27, ground := Go.Ground.data }, { on := 22, ground := Go.Ground.guard }], guard := some (22, true) }) (v := ?_) rfl (by kernel_rfl) (by kernel_rfl) (by kernel_rfl) (fun _ _ _ h => h) (by rfl) ?_ trivial ?_
                rotate_left
                · (intro wq hSw; go_simp <;> with_reducible rfl)
                try simp only [Act.put, List.setIfInBounds_toArray, List.set_cons_zero, List.set_cons_succ]
                refine take_run (i := 29) (oi := { dst := some 67, op := Go.Op.pick (Go.Operand.tmp 60) (Go.Operand.tmp 66) (Go.Operand.const (Go.Value.bool false)), type := 4, pos := "ref.go:253", after := #[{ on := 22, ground := Go.Ground.data }, { on := 28, ground := Go.Ground.data }], guard := none }) (v := ?_) rfl (by kernel_rfl) (by kernel_rfl) (by kernel_rfl) (fun _ _ _ h => h) (by rfl) ?_ trivial ?_
                rotate_left
                · (intro wq hSw; go_simp <;> with_reducible rfl)
                try simp only [Act.put, List.setIfInBounds_toArray, List.set_cons_zero, List.set_cons_succ]
                refine take_run (i := 30) (oi := { dst := some 6, op := Go.Op.assign (Go.Operand.tmp 67), type := 4, pos := "ref.go:253", after := #[{ on := 29, ground := Go.Ground.data }, { on := 27, ground := Go.Ground.chain }, { on := 0, ground := Go.Ground.phase }, { on := 1, ground := Go.Ground.phase }, { on := 2, ground := Go.Ground.phase }, { on := 3, ground := Go.Ground.phase }, { on := 4, ground := Go.Ground.phase }, { on := 5, ground := Go.Ground.phase }, { on := 6, ground := Go.Ground.phase }, { on := 7, ground := Go.Ground.phase }, { on := 8, ground := Go.Ground.phase }, { on := 9, ground := Go.Ground.phase }, { on := 10, ground := Go.Ground.phase }, { on := 11, ground := Go.Ground.phase }, { on := 12, ground := Go.Ground.phase }, { on := 13, ground := Go.Ground.phase }, { on := 14, ground := Go.Ground.phase }, { on := 15, ground := Go.Ground.phase }, { on := 16, ground := Go.Ground.phase }, { on := 17, ground := Go.Ground.phase }, { on := 18, ground := Go.Ground.phase }, { on := 19, ground := Go.Ground.phase }, { on := 20, ground := Go.Ground.phase }, { on := 21, ground := Go.Ground.phase }, { on := 22, ground := Go.Ground.phase }, { on := 23, ground := Go.Ground.phase }, { on := 24, ground := Go.Ground.phase }, { on := 25, ground := Go.Ground.phase }, { on := 26, ground := Go.Ground.phase }, { on := 27, ground := Go.Ground.phase }, { on := 28, ground := Go.Ground.phase }, { on := 29, ground := Go.Ground.phase }], guard := none }) (v := ?_) rfl (by kernel_rfl) (by kernel_rfl) (by kernel_rfl) (fun _ _ _ h => h) (by rfl) ?_ trivial ?_
                rotate_left
                · (intro wq hSw; go_simp <;> with_reducible rfl)
                try simp only [Act.put, List.setIfInBounds_toArray, List.set_cons_zero, List.set_cons_succ]
                refine wpAnyH_done (by kernel_rfl) ?_ _
                show onwardQ _ .normal _ _
                unfold onwardQ
                obtain ⟨sv7, b7, c7, _⟩ := t7
                have Lz : Hid (QL w0 w7 R A0 B N l fa 0) := Lz0.out.chg c7 Kz.out
                have Bz : Hid (∃ sv, RefB w7 N N sv (A ++ [⟨nm, am, ⟨#[]⟩⟩])) := ⟨sv7, b7⟩
                clear b7 c7 Lz0 Kz hHeld L5 PT
                generalize w7 = wz at *
                obtain ⟨sz, hbz⟩ := Bz.out
                by_cases hby : by0.size = 0
                · have he0 : by0 = ByteArray.empty := by simpa using hby
                  have he1 : by0 = ⟨#[]⟩ := he0
                  subst he1
                  have L6 : Hid (QL w0 wz R A0 B N l (ak l a y (k + 1)).2.1 (ak l a y (k + 1)).2.2) := by show QL _ _ _ _ _ _ _ _ _; rw [HK.out]; exact Lz.out
                  have QB6 : Hid (QB wz N (ak l a y (k + 1)).1 true (k + 1)) := by show QB _ _ _ _ _; rw [HK.out]; exact .inl ⟨rfl, sz, hbz⟩
                  have he : ((⟨#[]⟩ : ByteArray)).toList = [] := by rw [ByteArray.toList_eq]
                  clear hbz hby Bz Lz he0
                  go_wp2
                  go_roundw
                  case rel => exact ⟨k + 1, true, by have := HLT.out; omega, rfl, by go_num, L6, QB6⟩
                  case measure => simp only [intOf]; have := HLT.out; omega
                · have HH := qhold_any hbz nm by0
                  have hp := holdP_snoc (p := ⟨nm, am, by0⟩) HFA.out HBh.out hby HS.out.1
                  simp only at hp
                  rw [hp] at HH
                  have he : by0.toList.isEmpty = false := by rw [List.isEmpty_eq_false_iff]; exact text_nonempty (by omega)
                  have Hbz : Hid _ := hbz
                  clear hp hby Bz hbz
                  go_wp2_with fail
                  refine HH.mono ?_
                  clear HH
                  rintro e w8 ⟨rfl, sv8, b8, c8, _⟩
                  have L8 : Hid (QL w0 w8 R A0 B N l (ak l a y (k + 1)).2.1 (ak l a y (k + 1)).2.2) := by show QL _ _ _ _ _ _ _ _ _; rw [HK.out]; exact Lz.out.chg c8 Hbz.out
                  have QB8 : Hid (QB w8 N (ak l a y (k + 1)).1 true (k + 1)) := by show QB _ _ _ _ _; rw [HK.out]; exact .inl ⟨rfl, sv8, b8⟩
                  clear b8 c8 Hbz
                  go_wp2
                  go_roundw
                  case rel => exact ⟨k + 1, true, by have := HLT.out; omega, rfl, by go_num, L8, QB8⟩
                  case measure => simp only [intOf]; have := HLT.out; omega
              · have hsn : (putP A nm am).1 ≠ 0 ∧ (putP A nm am).2 = A := by
                  unfold putP
                  split
                  · exact ⟨by show (_ : Int) ≠ 0; simp, rfl⟩
                  · split
                    · exact ⟨by show (_ : Int) ≠ 0; simp, rfl⟩
                    · rename_i q1 q2; exact absurd ⟨by simpa using q1, by omega⟩ hg
                have HNF : Hid (¬ Fit (A ++ [⟨nm, am, by0⟩])) := fun h => hg ⟨(fit_snoc h).2.2.1, (fit_snoc h).2.2.2.1⟩
                have hne : ((putP A nm am).1 == 0) = false := by rw [beq_eq_false_iff_ne]; exact hsn.1
                rw [hsn.2] at PT
                clear hsn hg
                refine take_call (i := 27) (oi := { dst := some 65, op := Go.Op.call { callee := Go.Callee.value (Go.Operand.func 52), args := #[Go.Operand.tmp 61, Go.Operand.tmp 64], argTypes := #[28, 59] }, type := 25, pos := "ref.go:253", after := #[{ on := 23, ground := Go.Ground.data }, { on := 26, ground := Go.Ground.data }, { on := 22, ground := Go.Ground.chain }, { on := 22, ground := Go.Ground.guard }], guard := some (22, true) }) rfl (by kernel_rfl) (by rfl) 52 _ (by go_simp <;> with_reducible rfl) ?_
                refine (PT).mono ?_
                rintro e w7 ⟨rfl, t7⟩
                refine ⟨_, rfl, trivial, ?_⟩
                try simp only [Act.put, List.setIfInBounds_toArray, List.set_cons_zero, List.set_cons_succ]
                refine take_run (i := 28) (oi := { dst := some 66, op := Go.Op.binOp Go.BinOp.eql 25 (Go.Operand.tmp 65) (Go.Operand.const (Go.Value.int Go.IntKind.i64 0)) 25, type := 4, pos := "ref.go:253", after := #[{ on := 27, ground := Go.Ground.data }, { on := 22, ground := Go.Ground.guard }], guard := some (22, true) }) (v := ?_) rfl (by kernel_rfl) (by kernel_rfl) (by kernel_rfl) (fun _ _ _ h => h) (by rfl) ?_ trivial ?_
                rotate_left
                · (intro wq hSw; go_simp <;> with_reducible rfl)
                try simp only [Act.put, List.setIfInBounds_toArray, List.set_cons_zero, List.set_cons_succ]
                refine take_run (i := 29) (oi := { dst := some 67, op := Go.Op.pick (Go.Operand.tmp 60) (Go.Operand.tmp 66) (Go.Operand.const (Go.Value.bool false)), type := 4, pos := "ref.go:253", after := #[{ on := 22, ground := Go.Ground.data }, { on := 28, ground := Go.Ground.data }], guard := none }) (v := ?_) rfl (by kernel_rfl) (by kernel_rfl) (by kernel_rfl) (fun _ _ _ h => h) (by rfl) ?_ trivial ?_
                rotate_left
                · (intro wq hSw; go_simp <;> with_reducible rfl)
                try simp only [Act.put, List.setIfInBounds_toArray, List.set_cons_zero, List.set_cons_succ]
                refine take_run (i := 30) (oi := { dst := some 6, op := Go.Op.assign (Go.Operand.tmp 67), type := 4, pos := "ref.go:253", after := #[{ on := 29, ground := Go.Ground.data }, { on := 27, ground := Go.Ground.chain }, { on := 0, ground := Go.Ground.phase }, { on := 1, ground := Go.Ground.phase }, { on := 2, ground := Go.Ground.phase }, { on := 3, ground := Go.Ground.phase }, { on := 4, ground := Go.Ground.phase }, { on := 5, ground := Go.Ground.phase }, { on := 6, ground := Go.Ground.phase }, { on := 7, ground := Go.Ground.phase }, { on := 8, ground := Go.Ground.phase }, { on := 9, ground := Go.Ground.phase }, { on := 10, ground := Go.Ground.phase }, { on := 11, ground := Go.Ground.phase }, { on := 12, ground := Go.Ground.phase }, { on := 13, ground := Go.Ground.phase }, { on := 14, ground := Go.Ground.phase }, { on := 15, ground := Go.Ground.phase }, { on := 16, ground := Go.Ground.phase }, { on := 17, ground := Go.Ground.phase }, { on := 18, ground := Go.Ground.phase }, { on := 19, ground := Go.Ground.phase }, { on := 20, ground := Go.Ground.phase }, { on := 21, ground := Go.Ground.phase }, { on := 22, ground := Go.Ground.phase }, { on := 23, ground := Go.Ground.phase }, { on := 24, ground := Go.Ground.phase }, { on := 25, ground := Go.Ground.phase }, { on := 26, ground := Go.Ground.phase }, { on := 27, ground := Go.Ground.phase }, { on := 28, ground := Go.Ground.phase }, { on := 29, ground := Go.Ground.phase }], guard := none }) (v := ?_) rfl (by kernel_rfl) (by kernel_rfl) (by kernel_rfl) (fun _ _ _ h => h) (by rfl) ?_ trivial ?_
                rotate_left
                · (intro wq hSw; go_simp <;> with_reducible rfl)
                try simp only [Act.put, List.setIfInBounds_toArray, List.set_cons_zero, List.set_cons_succ]
                refine wpAnyH_done (by kernel_rfl) ?_ _
                show onwardQ _ .normal _ _
                unfold onwardQ
                obtain ⟨sv7, b7, c7, _⟩ := t7
                have Lz : Hid (QL w0 w7 R A0 B N l fa 0) := Lz0.out.chg c7 Kz.out
                have Xz : Hid (QX w7 N k) := by have h8 := b7.toX; rw [AL.out] at h8; exact h8
                clear b7 c7 Lz0 Kz hHeld L5 PT hne
                generalize w7 = wz at *
                obtain ⟨xa, m, xc, hN0, a', c', w6, hr, hN6, hx6, b6⟩ := Xz.out.more (by have := HLT.out; have := NN.out; omega) nm
                have c0 : wz.cell? ⟨N, 0, none⟩ = some (.slice xa m xc) := by simp [World.cell?, hN0]
                have c6 : w6.cell? ⟨N, 0, none⟩ = some (.slice xa m xc) := by simp [World.cell?, hN6]
                have f6 : w6.frozen? ⟨N, 0, none⟩ = false := by simp [World.frozen?, hN6]
                have HR : Hid _ := hr
                have L6 : Hid (QL w0 (w6.setCell ⟨N, 0, none⟩ (.slice a' (m + 1) c')) R A0 B N l (ak l a y (k + 1)).2.1 (ak l a y (k + 1)).2.2) := by show QL _ _ _ _ _ _ _ _ _; rw [HK.out]; exact Lz.out.low b6
                have QB6 : Hid (QB (w6.setCell ⟨N, 0, none⟩ (.slice a' (m + 1) c')) N (ak l a y (k + 1)).1 false (k + 1)) := by show QB _ _ _ _ _; rw [HK.out]; exact .inr ⟨rfl, HNF.out, hx6⟩
                clear hN0 hr hN6 hx6 b6 Xz Lz
                go_wp2_with (at_builtin; refine wpList_append_known rfl (.tmp 74) (.tmp 77) 69 69 rfl _ _ rfl rfl _ _ HR.out ?_)
                go_roundw
                case rel => exact ⟨k + 1, false, by have := HLT.out; omega, rfl, by go_num, L6, QB6⟩
                case measure => simp only [intOf]; have := HLT.out; omega
            · obtain ⟨j, rfl⟩ : ∃ j, k = j + 1 := ⟨k - 1, by omega⟩
              have hjl : j < A.length := by rw [AL.out]; omega
              obtain ⟨g, c, esv, y0, _, _⟩ := qrow_at hb5.out.row rfl hjl
              have hlast : A.getLast? = some A[j] := by
                rw [List.getLast?_eq_getElem?, AL.out, Nat.add_sub_cancel]
                exact List.getElem?_eq_getElem hjl
              have HLA : Hid (A.length = j + 1) := AL.out
              rw [AL.out] at esv
              generalize A[j] = q at *
              have HQL : Hid (A.getLast? = some q) := hlast
              have cN := hb5.out.c0
              rw [esv] at cN
              have hki : ((((j + 1 : Nat) : Int)) == 0) = false := by rw [beq_eq_false_iff_ne]; omega
              have hki2 : (((j : Int) + 1) == 0) = false := by rw [beq_eq_false_iff_ne]; omega
              have hw1 : IntKind.i64.wrap (((j + 1 : Nat) : Int) - 1) = (j : Int) := by rw [IntKind.wrap_i64]; have := HLT.out; have := NN.out; omega
              have hw2 : IntKind.i64.wrap ((j : Int) + 1 - 1) = (j : Int) := by rw [IntKind.wrap_i64]; have := HLT.out; have := NN.out; omega
              have hw3 : IntKind.i64.wrap (j : Int) = (j : Int) := by rw [IntKind.wrap_i64]; have := HLT.out; have := NN.out; omega
              have hj0 : 0 ≤ (j : Int) := by omega
              have hj1 : (j : Int) < (j : Int) + 1 := by omega
              have hj2 : j < j + 1 := by omega
              clear hk0 hlast
              by_cases hah : Ahead q.nm nm
              · have HBh : Hid (Behind A nm) := .inr ⟨q, HQL.out, hah⟩
                have hls : Op.bytesLess nm.toList q.nm.toList = false := by rw [less_ahead, decide_eq_false (fun h => ahead_irrefl _ (ahead_trans hah h))]
                have heq : (nm.toList == q.nm.toList) = false := text_ne (fun e => by rw [e] at hah; exact ahead_irrefl _ hah)
                clear hah
                go_wp2_with fail
                refine onwardQ_wp ?_
                refine wp_region_held_drew (S := fun _ => True) (by kernel_rfl) trivial (fun hHeld => ?_)
                obtain ⟨wz, hwz⟩ : ∃ wz, w5.drew = wz := ⟨_, rfl⟩
                have bz : Below w5.heap.size w5 wz := by rw [← hwz]; exact (Below.refl _ w5).drew
                rw [hwz]
                have cz : wz.cell? ⟨N, 0, none⟩ = some (.slice (some ⟨g, 0, none⟩) (j + 1) c) := (bz.cell (p := ⟨N, 0, none⟩) (World.block_lt_of_cell? w5 _ cN)).trans cN
                have yz : wz.cell? ⟨g, j * 3, none⟩ = some (.string q.nm) := (bz.cell (p := ⟨g, j * 3, none⟩) (World.block_lt_of_cell? w5 _ y0)).trans y0
                refine take_run (i := 0) (oi := { dst := some 38, op := Go.Op.move (Go.Operand.tmp 6), type := 4, pos := "ref.go:253", after := #[], guard := none }) (v := ?_) rfl (by kernel_rfl) (by kernel_rfl) (by kernel_rfl) (fun _ _ _ h => h) (by rfl) ?_ hHeld ?_
                rotate_left
                · (intro wq hSw; go_simp <;> with_reducible rfl)
                try simp only [Act.put, List.setIfInBounds_toArray, List.set_cons_zero, List.set_cons_succ]
                refine take_run (i := 1) (oi := { dst := some 39, op := Go.Op.move (Go.Operand.tmp 38), type := 4, pos := "ref.go:253", after := #[{ on := 0, ground := Go.Ground.data }], guard := none }) (v := ?_) rfl (by kernel_rfl) (by kernel_rfl) (by kernel_rfl) (fun _ _ _ h => h) (by rfl) ?_ hHeld ?_
                rotate_left
                · (intro wq hSw; go_simp <;> with_reducible rfl)
                try simp only [Act.put, List.setIfInBounds_toArray, List.set_cons_zero, List.set_cons_succ]
                refine take_run (i := 2) (oi := { dst := some 40, op := Go.Op.move (Go.Operand.tmp 7), type := 3, pos := "ref.go:253", after := #[{ on := 1, ground := Go.Ground.guard }], guard := some (1, true) }) (v := ?_) rfl (by kernel_rfl) (by kernel_rfl) (by kernel_rfl) (fun _ _ _ h => h) (by rfl) ?_ hHeld ?_
                rotate_left
                · (intro wq hSw; go_simp <;> with_reducible rfl)
                try simp only [Act.put, List.setIfInBounds_toArray, List.set_cons_zero, List.set_cons_succ]
                refine take_run (i := 3) (oi := { dst := some 41, op := Go.Op.binOp Go.BinOp.eql 3 (Go.Operand.tmp 40) (Go.Operand.const (Go.Value.int Go.IntKind.i64 0)) 3, type := 4, pos := "ref.go:253", after := #[{ on := 2, ground := Go.Ground.data }, { on := 1, ground := Go.Ground.guard }], guard := some (1, true) }) (v := ?_) rfl (by kernel_rfl) (by kernel_rfl) (by kernel_rfl) (fun _ _ _ h => h) (by rfl) ?_ hHeld ?_
                rotate_left
                · (intro wq hSw; go_simp <;> with_reducible rfl)
                try simp only [Act.put, List.setIfInBounds_toArray, List.set_cons_zero, List.set_cons_succ]
                refine take_run (i := 4) (oi := { dst := some 42, op := Go.Op.move (Go.Operand.tmp 41), type := 4, pos := "ref.go:253", after := #[{ on := 3, ground := Go.Ground.data }, { on := 1, ground := Go.Ground.chain }, { on := 1, ground := Go.Ground.guard }], guard := some (1, true) }) (v := ?_) rfl (by kernel_rfl) (by kernel_rfl) (by kernel_rfl) (fun _ _ _ h => h) (by rfl) ?_ hHeld ?_
                rotate_left
                · (intro wq hSw; go_simp <;> with_reducible rfl)
                try simp only [Act.put, List.setIfInBounds_toArray, List.set_cons_zero, List.set_cons_succ]
                refine take_run (i := 5) (oi := { dst := some 43, op := Go.Op.move (Go.Operand.tmp 8), type := 9, pos := "ref.go:253", after := #[{ on := 4, ground := Go.Ground.guard }], guard := some (4, false) }) (v := ?_) rfl (by kernel_rfl) (by kernel_rfl) (by kernel_rfl) (fun _ _ _ h => h) (by rfl) ?_ hHeld ?_
                rotate_left
                · (intro wq hSw; go_simp <;> with_reducible rfl)
                try simp only [Act.put, List.setIfInBounds_toArray, List.set_cons_zero, List.set_cons_succ]
                refine take_run (i := 6) (oi := { dst := some 44, op := Go.Op.move (Go.Operand.tmp 4), type := 28, pos := "ref.go:253", after := #[{ on := 4, ground := Go.Ground.guard }], guard := some (4, false) }) (v := ?_) rfl (by kernel_rfl) (by kernel_rfl) (by kernel_rfl) (fun _ _ _ h => h) (by rfl) ?_ hHeld ?_
                rotate_left
                · (intro wq hSw; go_simp <;> with_reducible rfl)
                try simp only [Act.put, List.setIfInBounds_toArray, List.set_cons_zero, List.set_cons_succ]
                refine take_run (i := 7) (oi := { dst := some 45, op := Go.Op.nilCheck (Go.Operand.tmp 44), type := 0, pos := "ref.go:253", after := #[{ on := 6, ground := Go.Ground.data }, { on := 4, ground := Go.Ground.guard }], guard := some (4, false) }) (v := ?_) rfl (by kernel_rfl) (by kernel_rfl) (by kernel_rfl) (fun _ _ _ h => h) (by rfl) ?_ hHeld ?_
                rotate_left
                · (intro wq hSw; go_simp <;> with_reducible rfl)
                try simp only [Act.put, List.setIfInBounds_toArray, List.set_cons_zero, List.set_cons_succ]
                refine take_run (i := 8) (oi := { dst := some 46, op := Go.Op.fieldAddr 71 (Go.Operand.tmp 45) 0, type := 0, pos := "ref.go:253", after := #[{ on := 7, ground := Go.Ground.data }, { on := 4, ground := Go.Ground.guard }], guard := some (4, false) }) (v := ?_) rfl (by kernel_rfl) (by kernel_rfl) (by kernel_rfl) (fun _ _ _ h => h) (by rfl) ?_ hHeld ?_
                rotate_left
                · (intro wq hSw; go_simp <;> with_reducible rfl)
                try simp only [Act.put, List.setIfInBounds_toArray, List.set_cons_zero, List.set_cons_succ]
                refine take_run (i := 10) (oi := { dst := some 48, op := Go.Op.move (Go.Operand.tmp 4), type := 28, pos := "ref.go:253", after := #[{ on := 4, ground := Go.Ground.guard }], guard := some (4, false) }) (v := ?_) rfl (by kernel_rfl) (by kernel_rfl) (by kernel_rfl) (fun _ _ _ h => h) (by rfl) ?_ hHeld ?_
                rotate_left
                · (intro wq hSw; go_simp <;> with_reducible rfl)
                try simp only [Act.put, List.setIfInBounds_toArray, List.set_cons_zero, List.set_cons_succ]
                refine take_run (i := 11) (oi := { dst := some 49, op := Go.Op.nilCheck (Go.Operand.tmp 48), type := 0, pos := "ref.go:253", after := #[{ on := 10, ground := Go.Ground.data }, { on := 4, ground := Go.Ground.guard }], guard := some (4, false) }) (v := ?_) rfl (by kernel_rfl) (by kernel_rfl) (by kernel_rfl) (fun _ _ _ h => h) (by rfl) ?_ hHeld ?_
                rotate_left
                · (intro wq hSw; go_simp <;> with_reducible rfl)
                try simp only [Act.put, List.setIfInBounds_toArray, List.set_cons_zero, List.set_cons_succ]
                refine take_run (i := 12) (oi := { dst := some 50, op := Go.Op.fieldAddr 71 (Go.Operand.tmp 49) 0, type := 0, pos := "ref.go:253", after := #[{ on := 11, ground := Go.Ground.data }, { on := 4, ground := Go.Ground.guard }], guard := some (4, false) }) (v := ?_) rfl (by kernel_rfl) (by kernel_rfl) (by kernel_rfl) (fun _ _ _ h => h) (by rfl) ?_ hHeld ?_
                rotate_left
                · (intro wq hSw; go_simp <;> with_reducible rfl)
                try simp only [Act.put, List.setIfInBounds_toArray, List.set_cons_zero, List.set_cons_succ]
                refine take_forkB (A := ?fA1) (L := ?fL1) (fuel' := ?fF1) (i := 9) (j := 13) (oi := { dst := some 47, op := Go.Op.load 69 (Go.Operand.tmp 46), type := 69, pos := "ref.go:253", after := #[{ on := 8, ground := Go.Ground.data }, { on := 4, ground := Go.Ground.guard }], guard := some (4, false) }) (oj := { dst := some 51, op := Go.Op.load 69 (Go.Operand.tmp 50), type := 69, pos := "ref.go:253", after := #[{ on := 12, ground := Go.Ground.data }, { on := 4, ground := Go.Ground.guard }], guard := some (4, false) }) (.slice (some ⟨g, 0, none⟩) (j + 1) c) (.slice (some ⟨g, 0, none⟩) (j + 1) c) rfl rfl (by kernel_rfl) (by rfl) (by rfl) (by go_simp <;> with_reducible rfl) (by go_simp <;> with_reducible rfl) trivial ?first1 ?second1 ?rest1
                case first1 =>
                  intro hX
                  try simp only [Act.put, List.setIfInBounds_toArray, List.set_cons_zero, List.set_cons_succ]
                  refine take_valB (i := 13) (oi := { dst := some 51, op := Go.Op.load 69 (Go.Operand.tmp 50), type := 69, pos := "ref.go:253", after := #[{ on := 12, ground := Go.Ground.data }, { on := 4, ground := Go.Ground.guard }], guard := some (4, false) }) (.slice (some ⟨g, 0, none⟩) (j + 1) c) rfl (by kernel_rfl) (by rfl) (by go_simp <;> with_reducible rfl) trivial ?_
                  try simp only [Act.put, List.setIfInBounds_toArray, List.set_cons_zero, List.set_cons_succ]
                  refine take_run (i := 14) (oi := { dst := some 52, op := Go.Op.call { callee := Go.Callee.builtin Go.Builtin.len, args := #[Go.Operand.tmp 51], argTypes := #[69] }, type := 3, pos := "ref.go:253", after := #[{ on := 13, ground := Go.Ground.data }, { on := 4, ground := Go.Ground.guard }], guard := some (4, false) }) (v := ?_) rfl (by kernel_rfl) (by kernel_rfl) (by kernel_rfl) (fun _ _ _ h => h) (by rfl) ?_ trivial ?_
                  rotate_left
                  · (intro wq hSw; go_simp <;> with_reducible rfl)
                  try simp only [Act.put, List.setIfInBounds_toArray, List.set_cons_zero, List.set_cons_succ]
                  refine take_run (i := 15) (oi := { dst := some 53, op := Go.Op.binOp Go.BinOp.sub 3 (Go.Operand.tmp 52) (Go.Operand.const (Go.Value.int Go.IntKind.i64 1)) 3, type := 3, pos := "ref.go:253", after := #[{ on := 14, ground := Go.Ground.data }, { on := 4, ground := Go.Ground.guard }], guard := some (4, false) }) (v := ?_) rfl (by kernel_rfl) (by kernel_rfl) (by kernel_rfl) (fun _ _ _ h => h) (by rfl) ?_ trivial ?_
                  rotate_left
                  · (intro wq hSw; go_simp <;> with_reducible rfl)
                  try simp only [Act.put, List.setIfInBounds_toArray, List.set_cons_zero, List.set_cons_succ]
                  exact hX
                case second1 =>
                  intro hX
                  try simp only [Act.put, List.setIfInBounds_toArray, List.set_cons_zero, List.set_cons_succ]
                  refine take_run (i := 14) (oi := { dst := some 52, op := Go.Op.call { callee := Go.Callee.builtin Go.Builtin.len, args := #[Go.Operand.tmp 51], argTypes := #[69] }, type := 3, pos := "ref.go:253", after := #[{ on := 13, ground := Go.Ground.data }, { on := 4, ground := Go.Ground.guard }], guard := some (4, false) }) (v := ?_) rfl (by kernel_rfl) (by kernel_rfl) (by kernel_rfl) (fun _ _ _ h => h) (by rfl) ?_ trivial ?_
                  rotate_left
                  · (intro wq hSw; go_simp <;> with_reducible rfl)
                  try simp only [Act.put, List.setIfInBounds_toArray, List.set_cons_zero, List.set_cons_succ]
                  refine take_run (i := 15) (oi := { dst := some 53, op := Go.Op.binOp Go.BinOp.sub 3 (Go.Operand.tmp 52) (Go.Operand.const (Go.Value.int Go.IntKind.i64 1)) 3, type := 3, pos := "ref.go:253", after := #[{ on := 14, ground := Go.Ground.data }, { on := 4, ground := Go.Ground.guard }], guard := some (4, false) }) (v := ?_) rfl (by kernel_rfl) (by kernel_rfl) (by kernel_rfl) (fun _ _ _ h => h) (by rfl) ?_ trivial ?_
                  rotate_left
                  · (intro wq hSw; go_simp <;> with_reducible rfl)
                  try simp only [Act.put, List.setIfInBounds_toArray, List.set_cons_zero, List.set_cons_succ]
                  refine take_valB (i := 9) (oi := { dst := some 47, op := Go.Op.load 69 (Go.Operand.tmp 46), type := 69, pos := "ref.go:253", after := #[{ on := 8, ground := Go.Ground.data }, { on := 4, ground := Go.Ground.guard }], guard := some (4, false) }) (.slice (some ⟨g, 0, none⟩) (j + 1) c) rfl (by kernel_rfl) (by rfl) (by go_simp <;> with_reducible rfl) trivial ?_
                  try simp only [Act.put, List.setIfInBounds_toArray, List.set_cons_zero, List.set_cons_succ]
                  exact wpAnyH_cast hX (by kernel_rfl) rfl
                refine take_run (i := 16) (oi := { dst := some 54, op := Go.Op.indexAddr 69 (Go.Operand.tmp 47) (Go.Operand.tmp 53), type := 0, pos := "ref.go:253", after := #[{ on := 9, ground := Go.Ground.data }, { on := 15, ground := Go.Ground.data }, { on := 4, ground := Go.Ground.guard }], guard := some (4, false) }) (v := ?_) rfl (by kernel_rfl) (by kernel_rfl) (by kernel_rfl) (fun _ _ _ h => h) (by rfl) ?_ trivial ?_
                rotate_left
                · (intro wq hSw; go_simp <;> with_reducible rfl)
                try simp only [Act.put, List.setIfInBounds_toArray, List.set_cons_zero, List.set_cons_succ]
                refine take_run (i := 17) (oi := { dst := some 55, op := Go.Op.fieldAddr 86 (Go.Operand.tmp 54) 0, type := 0, pos := "ref.go:253", after := #[{ on := 16, ground := Go.Ground.data }, { on := 4, ground := Go.Ground.guard }], guard := some (4, false) }) (v := ?_) rfl (by kernel_rfl) (by kernel_rfl) (by kernel_rfl) (fun _ _ _ h => h) (by rfl) ?_ trivial ?_
                rotate_left
                · (intro wq hSw; go_simp <;> with_reducible rfl)
                try simp only [Act.put, List.setIfInBounds_toArray, List.set_cons_zero, List.set_cons_succ]
                refine take_valB (i := 18) (oi := { dst := some 56, op := Go.Op.load 9 (Go.Operand.tmp 55), type := 9, pos := "ref.go:253", after := #[{ on := 17, ground := Go.Ground.data }, { on := 4, ground := Go.Ground.guard }], guard := some (4, false) }) (.string q.nm) rfl (by kernel_rfl) (by rfl) (by go_simp <;> with_reducible rfl) trivial ?_
                try simp only [Act.put, List.setIfInBounds_toArray, List.set_cons_zero, List.set_cons_succ]
                refine take_run (i := 19) (oi := { dst := some 57, op := Go.Op.binOp Go.BinOp.gtr 9 (Go.Operand.tmp 43) (Go.Operand.tmp 56) 9, type := 4, pos := "ref.go:253", after := #[{ on := 5, ground := Go.Ground.data }, { on := 18, ground := Go.Ground.data }, { on := 4, ground := Go.Ground.guard }], guard := some (4, false) }) (v := ?_) rfl (by kernel_rfl) (by kernel_rfl) (by kernel_rfl) (fun _ _ _ h => h) (by rfl) ?_ trivial ?_
                rotate_left
                · (intro wq hSw; go_simp <;> with_reducible rfl)
                try simp only [Act.put, List.setIfInBounds_toArray, List.set_cons_zero, List.set_cons_succ]
                refine take_run (i := 20) (oi := { dst := some 58, op := Go.Op.pick (Go.Operand.tmp 42) (Go.Operand.const (Go.Value.bool true)) (Go.Operand.tmp 57), type := 4, pos := "ref.go:253", after := #[{ on := 4, ground := Go.Ground.data }, { on := 19, ground := Go.Ground.data }, { on := 1, ground := Go.Ground.guard }], guard := some (1, true) }) (v := ?_) rfl (by kernel_rfl) (by kernel_rfl) (by kernel_rfl) (fun _ _ _ h => h) (by rfl) ?_ trivial ?_
                rotate_left
                · (intro wq hSw; go_simp <;> with_reducible rfl)
                try simp only [Act.put, List.setIfInBounds_toArray, List.set_cons_zero, List.set_cons_succ]
                refine take_run (i := 21) (oi := { dst := some 59, op := Go.Op.pick (Go.Operand.tmp 39) (Go.Operand.tmp 58) (Go.Operand.const (Go.Value.bool false)), type := 4, pos := "ref.go:253", after := #[{ on := 1, ground := Go.Ground.data }, { on := 20, ground := Go.Ground.data }], guard := none }) (v := ?_) rfl (by kernel_rfl) (by kernel_rfl) (by kernel_rfl) (fun _ _ _ h => h) (by rfl) ?_ trivial ?_
                rotate_left
                · (intro wq hSw; go_simp <;> with_reducible rfl)
                try simp only [Act.put, List.setIfInBounds_toArray, List.set_cons_zero, List.set_cons_succ]
                refine take_run (i := 22) (oi := { dst := some 60, op := Go.Op.move (Go.Operand.tmp 59), type := 4, pos := "ref.go:253", after := #[{ on := 21, ground := Go.Ground.data }, { on := 4, ground := Go.Ground.chain }], guard := none }) (v := ?_) rfl (by kernel_rfl) (by kernel_rfl) (by kernel_rfl) (fun _ _ _ h => h) (by rfl) ?_ trivial ?_
                rotate_left
                · (intro wq hSw; go_simp <;> with_reducible rfl)
                try simp only [Act.put, List.setIfInBounds_toArray, List.set_cons_zero, List.set_cons_succ]
                refine take_run (i := 23) (oi := { dst := some 61, op := Go.Op.move (Go.Operand.tmp 4), type := 28, pos := "ref.go:253", after := #[{ on := 22, ground := Go.Ground.guard }], guard := some (22, true) }) (v := ?_) rfl (by kernel_rfl) (by kernel_rfl) (by kernel_rfl) (fun _ _ _ h => h) (by rfl) ?_ trivial ?_
                rotate_left
                · (intro wq hSw; go_simp <;> with_reducible rfl)
                try simp only [Act.put, List.setIfInBounds_toArray, List.set_cons_zero, List.set_cons_succ]
                refine take_run (i := 24) (oi := { dst := some 62, op := Go.Op.move (Go.Operand.tmp 8), type := 9, pos := "ref.go:253", after := #[{ on := 22, ground := Go.Ground.guard }], guard := some (22, true) }) (v := ?_) rfl (by kernel_rfl) (by kernel_rfl) (by kernel_rfl) (fun _ _ _ h => h) (by rfl) ?_ trivial ?_
                rotate_left
                · (intro wq hSw; go_simp <;> with_reducible rfl)
                try simp only [Act.put, List.setIfInBounds_toArray, List.set_cons_zero, List.set_cons_succ]
                refine take_run (i := 25) (oi := { dst := some 63, op := Go.Op.move (Go.Operand.tmp 9), type := 2, pos := "ref.go:253", after := #[{ on := 22, ground := Go.Ground.guard }], guard := some (22, true) }) (v := ?_) rfl (by kernel_rfl) (by kernel_rfl) (by kernel_rfl) (fun _ _ _ h => h) (by rfl) ?_ trivial ?_
                rotate_left
                · (intro wq hSw; go_simp <;> with_reducible rfl)
                try simp only [Act.put, List.setIfInBounds_toArray, List.set_cons_zero, List.set_cons_succ]
                refine take_run (i := 26) (oi := { dst := some 64, op := Go.Op.build 59 #[(0, Go.Operand.tmp 62), (1, Go.Operand.tmp 63)], type := 59, pos := "ref.go:253", after := #[{ on := 24, ground := Go.Ground.data }, { on := 25, ground := Go.Ground.data }, { on := 22, ground := Go.Ground.guard }], guard := some (22, true) }) (v := ?_) rfl (by kernel_rfl) (by kernel_rfl) (by kernel_rfl) (fun _ _ _ h => h) (by rfl) ?_ trivial ?_
                rotate_left
                · (intro wq hSw; go_simp <;> with_reducible rfl)
                try simp only [Act.put, List.setIfInBounds_toArray, List.set_cons_zero, List.set_cons_succ]
                clear cz yz hki hki2 hw1 hw2 hw3 hj0 hj1 hj2 e1 e2 hjl y0 cN
                clear hls heq
                have PT := qput_any (hb5.out.below bz) nm am ⟨HS.out.2.2.1, by have := HS.out.2.2.2; omega⟩ (by have := HS.out.2.1; unfold maxLen; omega)
                have Kz : Hid (RefB wz N N sv A) := hb5.out.below bz
                have Lz0 : Hid (QL w0 wz R A0 B N l fa 0) := L5.out.low (bz.mono (Nat.le_of_lt L5.out.hN))
                clear bz hwz hb5
                by_cases hg : nameOk nm = true ∧ 0 ≤ am
                · have hsn := putP_snoc (p := ⟨nm, am, by0⟩) HFA.out HBh.out hg.1 hg.2 (by rw [AL.out]; have := HLT.out; have := NN.out; omega)
                  simp only at hsn
                  rw [hsn] at PT
                  clear hsn hg
                  refine take_call (i := 27) (oi := { dst := some 65, op := Go.Op.call { callee := Go.Callee.value (Go.Operand.func 52), args := #[Go.Operand.tmp 61, Go.Operand.tmp 64], argTypes := #[28, 59] }, type := 25, pos := "ref.go:253", after := #[{ on := 23, ground := Go.Ground.data }, { on := 26, ground := Go.Ground.data }, { on := 22, ground := Go.Ground.chain }, { on := 22, ground := Go.Ground.guard }], guard := some (22, true) }) rfl (by kernel_rfl) (by rfl) 52 _ (by go_simp <;> with_reducible rfl) ?_
                  refine (PT).mono ?_
                  rintro e w7 ⟨rfl, t7⟩
                  refine ⟨_, rfl, trivial, ?_⟩
                  try simp only [Act.put, List.setIfInBounds_toArray, List.set_cons_zero, List.set_cons_succ]
                  refine take_run (i := 28) (oi := { dst := some 66, op := Go.Op.binOp Go.BinOp.eql 25 (Go.Operand.tmp 65) (Go.Operand.const (Go.Value.int Go.IntKind.i64 0)) 25, type := 4, pos := "ref.go:253", after := #[{ on := 27, ground := Go.Ground.data }, { on := 22, ground := Go.Ground.guard }], guard := some (22, true) }) (v := ?_) rfl (by kernel_rfl) (by kernel_rfl) (by kernel_rfl) (fun _ _ _ h => h) (by rfl) ?_ trivial ?_
                  rotate_left
                  · (intro wq hSw; go_simp <;> with_reducible rfl)
                  try simp only [Act.put, List.setIfInBounds_toArray, List.set_cons_zero, List.set_cons_succ]
                  refine take_run (i := 29) (oi := { dst := some 67, op := Go.Op.pick (Go.Operand.tmp 60) (Go.Operand.tmp 66) (Go.Operand.const (Go.Value.bool false)), type := 4, pos := "ref.go:253", after := #[{ on := 22, ground := Go.Ground.data }, { on := 28, ground := Go.Ground.data }], guard := none }) (v := ?_) rfl (by kernel_rfl) (by kernel_rfl) (by kernel_rfl) (fun _ _ _ h => h) (by rfl) ?_ trivial ?_
                  rotate_left
                  · (intro wq hSw; go_simp <;> with_reducible rfl)
                  try simp only [Act.put, List.setIfInBounds_toArray, List.set_cons_zero, List.set_cons_succ]
                  refine take_run (i := 30) (oi := { dst := some 6, op := Go.Op.assign (Go.Operand.tmp 67), type := 4, pos := "ref.go:253", after := #[{ on := 29, ground := Go.Ground.data }, { on := 27, ground := Go.Ground.chain }, { on := 0, ground := Go.Ground.phase }, { on := 1, ground := Go.Ground.phase }, { on := 2, ground := Go.Ground.phase }, { on := 3, ground := Go.Ground.phase }, { on := 4, ground := Go.Ground.phase }, { on := 5, ground := Go.Ground.phase }, { on := 6, ground := Go.Ground.phase }, { on := 7, ground := Go.Ground.phase }, { on := 8, ground := Go.Ground.phase }, { on := 9, ground := Go.Ground.phase }, { on := 10, ground := Go.Ground.phase }, { on := 11, ground := Go.Ground.phase }, { on := 12, ground := Go.Ground.phase }, { on := 13, ground := Go.Ground.phase }, { on := 14, ground := Go.Ground.phase }, { on := 15, ground := Go.Ground.phase }, { on := 16, ground := Go.Ground.phase }, { on := 17, ground := Go.Ground.phase }, { on := 18, ground := Go.Ground.phase }, { on := 19, ground := Go.Ground.phase }, { on := 20, ground := Go.Ground.phase }, { on := 21, ground := Go.Ground.phase }, { on := 22, ground := Go.Ground.phase }, { on := 23, ground := Go.Ground.phase }, { on := 24, ground := Go.Ground.phase }, { on := 25, ground := Go.Ground.phase }, { on := 26, ground := Go.Ground.phase }, { on := 27, ground := Go.Ground.phase }, { on := 28, ground := Go.Ground.phase }, { on := 29, ground := Go.Ground.phase }], guard := none }) (v := ?_) rfl (by kernel_rfl) (by kernel_rfl) (by kernel_rfl) (fun _ _ _ h => h) (by rfl) ?_ trivial ?_
                  rotate_left
                  · (intro wq hSw; go_simp <;> with_reducible rfl)
                  try simp only [Act.put, List.setIfInBounds_toArray, List.set_cons_zero, List.set_cons_succ]
                  refine wpAnyH_done (by kernel_rfl) ?_ _
                  show onwardQ _ .normal _ _
                  unfold onwardQ
                  obtain ⟨sv7, b7, c7, _⟩ := t7
                  have Lz : Hid (QL w0 w7 R A0 B N l fa 0) := Lz0.out.chg c7 Kz.out
                  have Bz : Hid (∃ sv, RefB w7 N N sv (A ++ [⟨nm, am, ⟨#[]⟩⟩])) := ⟨sv7, b7⟩
                  clear b7 c7 Lz0 Kz hHeld L5 PT
                  generalize w7 = wz at *
                  obtain ⟨sz, hbz⟩ := Bz.out
                  by_cases hby : by0.size = 0
                  · have he0 : by0 = ByteArray.empty := by simpa using hby
                    have he1 : by0 = ⟨#[]⟩ := he0
                    subst he1
                    have L6 : Hid (QL w0 wz R A0 B N l (ak l a y (j + 1 + 1)).2.1 (ak l a y (j + 1 + 1)).2.2) := by show QL _ _ _ _ _ _ _ _ _; rw [HK.out]; exact Lz.out
                    have QB6 : Hid (QB wz N (ak l a y (j + 1 + 1)).1 true (j + 1 + 1)) := by show QB _ _ _ _ _; rw [HK.out]; exact .inl ⟨rfl, sz, hbz⟩
                    have he : ((⟨#[]⟩ : ByteArray)).toList = [] := by rw [ByteArray.toList_eq]
                    clear hbz hby Bz Lz he0
                    go_wp2
                    go_roundw
                    case rel => exact ⟨j + 1 + 1, true, by have := HLT.out; omega, rfl, by go_num, L6, QB6⟩
                    case measure => simp only [intOf]; have := HLT.out; omega
                  · have HH := qhold_any hbz nm by0
                    have hp := holdP_snoc (p := ⟨nm, am, by0⟩) HFA.out HBh.out hby HS.out.1
                    simp only at hp
                    rw [hp] at HH
                    have he : by0.toList.isEmpty = false := by rw [List.isEmpty_eq_false_iff]; exact text_nonempty (by omega)
                    have Hbz : Hid _ := hbz
                    clear hp hby Bz hbz
                    go_wp2_with fail
                    refine HH.mono ?_
                    clear HH
                    rintro e w8 ⟨rfl, sv8, b8, c8, _⟩
                    have L8 : Hid (QL w0 w8 R A0 B N l (ak l a y (j + 1 + 1)).2.1 (ak l a y (j + 1 + 1)).2.2) := by show QL _ _ _ _ _ _ _ _ _; rw [HK.out]; exact Lz.out.chg c8 Hbz.out
                    have QB8 : Hid (QB w8 N (ak l a y (j + 1 + 1)).1 true (j + 1 + 1)) := by show QB _ _ _ _ _; rw [HK.out]; exact .inl ⟨rfl, sv8, b8⟩
                    clear b8 c8 Hbz
                    go_wp2
                    go_roundw
                    case rel => exact ⟨j + 1 + 1, true, by have := HLT.out; omega, rfl, by go_num, L8, QB8⟩
                    case measure => simp only [intOf]; have := HLT.out; omega
                · have hsn : (putP A nm am).1 ≠ 0 ∧ (putP A nm am).2 = A := by
                    unfold putP
                    split
                    · exact ⟨by show (_ : Int) ≠ 0; simp, rfl⟩
                    · split
                      · exact ⟨by show (_ : Int) ≠ 0; simp, rfl⟩
                      · rename_i q1 q2; exact absurd ⟨by simpa using q1, by omega⟩ hg
                  have HNF : Hid (¬ Fit (A ++ [⟨nm, am, by0⟩])) := fun h => hg ⟨(fit_snoc h).2.2.1, (fit_snoc h).2.2.2.1⟩
                  have hne : ((putP A nm am).1 == 0) = false := by rw [beq_eq_false_iff_ne]; exact hsn.1
                  rw [hsn.2] at PT
                  clear hsn hg
                  refine take_call (i := 27) (oi := { dst := some 65, op := Go.Op.call { callee := Go.Callee.value (Go.Operand.func 52), args := #[Go.Operand.tmp 61, Go.Operand.tmp 64], argTypes := #[28, 59] }, type := 25, pos := "ref.go:253", after := #[{ on := 23, ground := Go.Ground.data }, { on := 26, ground := Go.Ground.data }, { on := 22, ground := Go.Ground.chain }, { on := 22, ground := Go.Ground.guard }], guard := some (22, true) }) rfl (by kernel_rfl) (by rfl) 52 _ (by go_simp <;> with_reducible rfl) ?_
                  refine (PT).mono ?_
                  rintro e w7 ⟨rfl, t7⟩
                  refine ⟨_, rfl, trivial, ?_⟩
                  try simp only [Act.put, List.setIfInBounds_toArray, List.set_cons_zero, List.set_cons_succ]
                  refine take_run (i := 28) (oi := { dst := some 66, op := Go.Op.binOp Go.BinOp.eql 25 (Go.Operand.tmp 65) (Go.Operand.const (Go.Value.int Go.IntKind.i64 0)) 25, type := 4, pos := "ref.go:253", after := #[{ on := 27, ground := Go.Ground.data }, { on := 22, ground := Go.Ground.guard }], guard := some (22, true) }) (v := ?_) rfl (by kernel_rfl) (by kernel_rfl) (by kernel_rfl) (fun _ _ _ h => h) (by rfl) ?_ trivial ?_
                  rotate_left
                  · (intro wq hSw; go_simp <;> with_reducible rfl)
                  try simp only [Act.put, List.setIfInBounds_toArray, List.set_cons_zero, List.set_cons_succ]
                  refine take_run (i := 29) (oi := { dst := some 67, op := Go.Op.pick (Go.Operand.tmp 60) (Go.Operand.tmp 66) (Go.Operand.const (Go.Value.bool false)), type := 4, pos := "ref.go:253", after := #[{ on := 22, ground := Go.Ground.data }, { on := 28, ground := Go.Ground.data }], guard := none }) (v := ?_) rfl (by kernel_rfl) (by kernel_rfl) (by kernel_rfl) (fun _ _ _ h => h) (by rfl) ?_ trivial ?_
                  rotate_left
                  · (intro wq hSw; go_simp <;> with_reducible rfl)
                  try simp only [Act.put, List.setIfInBounds_toArray, List.set_cons_zero, List.set_cons_succ]
                  refine take_run (i := 30) (oi := { dst := some 6, op := Go.Op.assign (Go.Operand.tmp 67), type := 4, pos := "ref.go:253", after := #[{ on := 29, ground := Go.Ground.data }, { on := 27, ground := Go.Ground.chain }, { on := 0, ground := Go.Ground.phase }, { on := 1, ground := Go.Ground.phase }, { on := 2, ground := Go.Ground.phase }, { on := 3, ground := Go.Ground.phase }, { on := 4, ground := Go.Ground.phase }, { on := 5, ground := Go.Ground.phase }, { on := 6, ground := Go.Ground.phase }, { on := 7, ground := Go.Ground.phase }, { on := 8, ground := Go.Ground.phase }, { on := 9, ground := Go.Ground.phase }, { on := 10, ground := Go.Ground.phase }, { on := 11, ground := Go.Ground.phase }, { on := 12, ground := Go.Ground.phase }, { on := 13, ground := Go.Ground.phase }, { on := 14, ground := Go.Ground.phase }, { on := 15, ground := Go.Ground.phase }, { on := 16, ground := Go.Ground.phase }, { on := 17, ground := Go.Ground.phase }, { on := 18, ground := Go.Ground.phase }, { on := 19, ground := Go.Ground.phase }, { on := 20, ground := Go.Ground.phase }, { on := 21, ground := Go.Ground.phase }, { on := 22, ground := Go.Ground.phase }, { on := 23, ground := Go.Ground.phase }, { on := 24, ground := Go.Ground.phase }, { on := 25, ground := Go.Ground.phase }, { on := 26, ground := Go.Ground.phase }, { on := 27, ground := Go.Ground.phase }, { on := 28, ground := Go.Ground.phase }, { on := 29, ground := Go.Ground.phase }], guard := none }) (v := ?_) rfl (by kernel_rfl) (by kernel_rfl) (by kernel_rfl) (fun _ _ _ h => h) (by rfl) ?_ trivial ?_
                  rotate_left
                  · (intro wq hSw; go_simp <;> with_reducible rfl)
                  try simp only [Act.put, List.setIfInBounds_toArray, List.set_cons_zero, List.set_cons_succ]
                  refine wpAnyH_done (by kernel_rfl) ?_ _
                  show onwardQ _ .normal _ _
                  unfold onwardQ
                  obtain ⟨sv7, b7, c7, _⟩ := t7
                  have Lz : Hid (QL w0 w7 R A0 B N l fa 0) := Lz0.out.chg c7 Kz.out
                  have Xz : Hid (QX w7 N (j + 1)) := by have h8 := b7.toX; rw [AL.out] at h8; exact h8
                  clear b7 c7 Lz0 Kz hHeld L5 PT hne
                  generalize w7 = wz at *
                  obtain ⟨xa, m, xc, hN0, a', c', w6, hr, hN6, hx6, b6⟩ := Xz.out.more (by have := HLT.out; have := NN.out; omega) nm
                  have c0 : wz.cell? ⟨N, 0, none⟩ = some (.slice xa m xc) := by simp [World.cell?, hN0]
                  have c6 : w6.cell? ⟨N, 0, none⟩ = some (.slice xa m xc) := by simp [World.cell?, hN6]
                  have f6 : w6.frozen? ⟨N, 0, none⟩ = false := by simp [World.frozen?, hN6]
                  have HR : Hid _ := hr
                  have L6 : Hid (QL w0 (w6.setCell ⟨N, 0, none⟩ (.slice a' (m + 1) c')) R A0 B N l (ak l a y (j + 1 + 1)).2.1 (ak l a y (j + 1 + 1)).2.2) := by show QL _ _ _ _ _ _ _ _ _; rw [HK.out]; exact Lz.out.low b6
                  have QB6 : Hid (QB (w6.setCell ⟨N, 0, none⟩ (.slice a' (m + 1) c')) N (ak l a y (j + 1 + 1)).1 false (j + 1 + 1)) := by show QB _ _ _ _ _; rw [HK.out]; exact .inr ⟨rfl, HNF.out, hx6⟩
                  clear hN0 hr hN6 hx6 b6 Xz Lz
                  go_wp2_with (at_builtin; refine wpList_append_known rfl (.tmp 74) (.tmp 77) 69 69 rfl _ _ rfl rfl _ _ HR.out ?_)
                  go_roundw
                  case rel => exact ⟨j + 1 + 1, false, by have := HLT.out; omega, rfl, by go_num, L6, QB6⟩
                  case measure => simp only [intOf]; have := HLT.out; omega
              · rcases ahead_total nm q.nm with hnl | hnl | hnl
                · have HNF : Hid (¬ Fit (A ++ [⟨nm, am, by0⟩])) := fun h => by
                    rcases (fit_snoc h).2.1 with h1 | ⟨q', h1, h2⟩
                    · have := HLA.out; rw [h1] at this; simp at this
                    · rw [HQL.out] at h1
                      cases h1
                      exact hah h2
                  have hls : Op.bytesLess nm.toList q.nm.toList = true := by rw [less_ahead, decide_eq_true hnl]
                  clear hah hnl
                  go_wp2_with fail
                  refine onwardQ_wp ?_
                  refine wp_region_held_drew (S := fun _ => True) (by kernel_rfl) trivial (fun hHeld => ?_)
                  obtain ⟨wz, hwz⟩ : ∃ wz, w5.drew = wz := ⟨_, rfl⟩
                  have bz : Below w5.heap.size w5 wz := by rw [← hwz]; exact (Below.refl _ w5).drew
                  rw [hwz]
                  have cz : wz.cell? ⟨N, 0, none⟩ = some (.slice (some ⟨g, 0, none⟩) (j + 1) c) := (bz.cell (p := ⟨N, 0, none⟩) (World.block_lt_of_cell? w5 _ cN)).trans cN
                  have yz : wz.cell? ⟨g, j * 3, none⟩ = some (.string q.nm) := (bz.cell (p := ⟨g, j * 3, none⟩) (World.block_lt_of_cell? w5 _ y0)).trans y0
                  refine take_run (i := 0) (oi := { dst := some 38, op := Go.Op.move (Go.Operand.tmp 6), type := 4, pos := "ref.go:253", after := #[], guard := none }) (v := ?_) rfl (by kernel_rfl) (by kernel_rfl) (by kernel_rfl) (fun _ _ _ h => h) (by rfl) ?_ hHeld ?_
                  rotate_left
                  · (intro wq hSw; go_simp <;> with_reducible rfl)
                  try simp only [Act.put, List.setIfInBounds_toArray, List.set_cons_zero, List.set_cons_succ]
                  refine take_run (i := 1) (oi := { dst := some 39, op := Go.Op.move (Go.Operand.tmp 38), type := 4, pos := "ref.go:253", after := #[{ on := 0, ground := Go.Ground.data }], guard := none }) (v := ?_) rfl (by kernel_rfl) (by kernel_rfl) (by kernel_rfl) (fun _ _ _ h => h) (by rfl) ?_ hHeld ?_
                  rotate_left
                  · (intro wq hSw; go_simp <;> with_reducible rfl)
                  try simp only [Act.put, List.setIfInBounds_toArray, List.set_cons_zero, List.set_cons_succ]
                  refine take_run (i := 2) (oi := { dst := some 40, op := Go.Op.move (Go.Operand.tmp 7), type := 3, pos := "ref.go:253", after := #[{ on := 1, ground := Go.Ground.guard }], guard := some (1, true) }) (v := ?_) rfl (by kernel_rfl) (by kernel_rfl) (by kernel_rfl) (fun _ _ _ h => h) (by rfl) ?_ hHeld ?_
                  rotate_left
                  · (intro wq hSw; go_simp <;> with_reducible rfl)
                  try simp only [Act.put, List.setIfInBounds_toArray, List.set_cons_zero, List.set_cons_succ]
                  refine take_run (i := 3) (oi := { dst := some 41, op := Go.Op.binOp Go.BinOp.eql 3 (Go.Operand.tmp 40) (Go.Operand.const (Go.Value.int Go.IntKind.i64 0)) 3, type := 4, pos := "ref.go:253", after := #[{ on := 2, ground := Go.Ground.data }, { on := 1, ground := Go.Ground.guard }], guard := some (1, true) }) (v := ?_) rfl (by kernel_rfl) (by kernel_rfl) (by kernel_rfl) (fun _ _ _ h => h) (by rfl) ?_ hHeld ?_
                  rotate_left
                  · (intro wq hSw; go_simp <;> with_reducible rfl)
                  try simp only [Act.put, List.setIfInBounds_toArray, List.set_cons_zero, List.set_cons_succ]
                  refine take_run (i := 4) (oi := { dst := some 42, op := Go.Op.move (Go.Operand.tmp 41), type := 4, pos := "ref.go:253", after := #[{ on := 3, ground := Go.Ground.data }, { on := 1, ground := Go.Ground.chain }, { on := 1, ground := Go.Ground.guard }], guard := some (1, true) }) (v := ?_) rfl (by kernel_rfl) (by kernel_rfl) (by kernel_rfl) (fun _ _ _ h => h) (by rfl) ?_ hHeld ?_
                  rotate_left
                  · (intro wq hSw; go_simp <;> with_reducible rfl)
                  try simp only [Act.put, List.setIfInBounds_toArray, List.set_cons_zero, List.set_cons_succ]
                  refine take_run (i := 5) (oi := { dst := some 43, op := Go.Op.move (Go.Operand.tmp 8), type := 9, pos := "ref.go:253", after := #[{ on := 4, ground := Go.Ground.guard }], guard := some (4, false) }) (v := ?_) rfl (by kernel_rfl) (by kernel_rfl) (by kernel_rfl) (fun _ _ _ h => h) (by rfl) ?_ hHeld ?_
                  rotate_left
                  · (intro wq hSw; go_simp <;> with_reducible rfl)
                  try simp only [Act.put, List.setIfInBounds_toArray, List.set_cons_zero, List.set_cons_succ]
                  refine take_run (i := 6) (oi := { dst := some 44, op := Go.Op.move (Go.Operand.tmp 4), type := 28, pos := "ref.go:253", after := #[{ on := 4, ground := Go.Ground.guard }], guard := some (4, false) }) (v := ?_) rfl (by kernel_rfl) (by kernel_rfl) (by kernel_rfl) (fun _ _ _ h => h) (by rfl) ?_ hHeld ?_
                  rotate_left
                  · (intro wq hSw; go_simp <;> with_reducible rfl)
                  try simp only [Act.put, List.setIfInBounds_toArray, List.set_cons_zero, List.set_cons_succ]
                  refine take_run (i := 7) (oi := { dst := some 45, op := Go.Op.nilCheck (Go.Operand.tmp 44), type := 0, pos := "ref.go:253", after := #[{ on := 6, ground := Go.Ground.data }, { on := 4, ground := Go.Ground.guard }], guard := some (4, false) }) (v := ?_) rfl (by kernel_rfl) (by kernel_rfl) (by kernel_rfl) (fun _ _ _ h => h) (by rfl) ?_ hHeld ?_
                  rotate_left
                  · (intro wq hSw; go_simp <;> with_reducible rfl)
                  try simp only [Act.put, List.setIfInBounds_toArray, List.set_cons_zero, List.set_cons_succ]
                  refine take_run (i := 8) (oi := { dst := some 46, op := Go.Op.fieldAddr 71 (Go.Operand.tmp 45) 0, type := 0, pos := "ref.go:253", after := #[{ on := 7, ground := Go.Ground.data }, { on := 4, ground := Go.Ground.guard }], guard := some (4, false) }) (v := ?_) rfl (by kernel_rfl) (by kernel_rfl) (by kernel_rfl) (fun _ _ _ h => h) (by rfl) ?_ hHeld ?_
                  rotate_left
                  · (intro wq hSw; go_simp <;> with_reducible rfl)
                  try simp only [Act.put, List.setIfInBounds_toArray, List.set_cons_zero, List.set_cons_succ]
                  refine take_run (i := 10) (oi := { dst := some 48, op := Go.Op.move (Go.Operand.tmp 4), type := 28, pos := "ref.go:253", after := #[{ on := 4, ground := Go.Ground.guard }], guard := some (4, false) }) (v := ?_) rfl (by kernel_rfl) (by kernel_rfl) (by kernel_rfl) (fun _ _ _ h => h) (by rfl) ?_ hHeld ?_
                  rotate_left
                  · (intro wq hSw; go_simp <;> with_reducible rfl)
                  try simp only [Act.put, List.setIfInBounds_toArray, List.set_cons_zero, List.set_cons_succ]
                  refine take_run (i := 11) (oi := { dst := some 49, op := Go.Op.nilCheck (Go.Operand.tmp 48), type := 0, pos := "ref.go:253", after := #[{ on := 10, ground := Go.Ground.data }, { on := 4, ground := Go.Ground.guard }], guard := some (4, false) }) (v := ?_) rfl (by kernel_rfl) (by kernel_rfl) (by kernel_rfl) (fun _ _ _ h => h) (by rfl) ?_ hHeld ?_
                  rotate_left
                  · (intro wq hSw; go_simp <;> with_reducible rfl)
                  try simp only [Act.put, List.setIfInBounds_toArray, List.set_cons_zero, List.set_cons_succ]
                  refine take_run (i := 12) (oi := { dst := some 50, op := Go.Op.fieldAddr 71 (Go.Operand.tmp 49) 0, type := 0, pos := "ref.go:253", after := #[{ on := 11, ground := Go.Ground.data }, { on := 4, ground := Go.Ground.guard }], guard := some (4, false) }) (v := ?_) rfl (by kernel_rfl) (by kernel_rfl) (by kernel_rfl) (fun _ _ _ h => h) (by rfl) ?_ hHeld ?_
                  rotate_left
                  · (intro wq hSw; go_simp <;> with_reducible rfl)
                  try simp only [Act.put, List.setIfInBounds_toArray, List.set_cons_zero, List.set_cons_succ]
                  refine take_forkB (A := ?fA2) (L := ?fL2) (fuel' := ?fF2) (i := 9) (j := 13) (oi := { dst := some 47, op := Go.Op.load 69 (Go.Operand.tmp 46), type := 69, pos := "ref.go:253", after := #[{ on := 8, ground := Go.Ground.data }, { on := 4, ground := Go.Ground.guard }], guard := some (4, false) }) (oj := { dst := some 51, op := Go.Op.load 69 (Go.Operand.tmp 50), type := 69, pos := "ref.go:253", after := #[{ on := 12, ground := Go.Ground.data }, { on := 4, ground := Go.Ground.guard }], guard := some (4, false) }) (.slice (some ⟨g, 0, none⟩) (j + 1) c) (.slice (some ⟨g, 0, none⟩) (j + 1) c) rfl rfl (by kernel_rfl) (by rfl) (by rfl) (by go_simp <;> with_reducible rfl) (by go_simp <;> with_reducible rfl) trivial ?first2 ?second2 ?rest2
                  case first2 =>
                    intro hX
                    try simp only [Act.put, List.setIfInBounds_toArray, List.set_cons_zero, List.set_cons_succ]
                    refine take_valB (i := 13) (oi := { dst := some 51, op := Go.Op.load 69 (Go.Operand.tmp 50), type := 69, pos := "ref.go:253", after := #[{ on := 12, ground := Go.Ground.data }, { on := 4, ground := Go.Ground.guard }], guard := some (4, false) }) (.slice (some ⟨g, 0, none⟩) (j + 1) c) rfl (by kernel_rfl) (by rfl) (by go_simp <;> with_reducible rfl) trivial ?_
                    try simp only [Act.put, List.setIfInBounds_toArray, List.set_cons_zero, List.set_cons_succ]
                    refine take_run (i := 14) (oi := { dst := some 52, op := Go.Op.call { callee := Go.Callee.builtin Go.Builtin.len, args := #[Go.Operand.tmp 51], argTypes := #[69] }, type := 3, pos := "ref.go:253", after := #[{ on := 13, ground := Go.Ground.data }, { on := 4, ground := Go.Ground.guard }], guard := some (4, false) }) (v := ?_) rfl (by kernel_rfl) (by kernel_rfl) (by kernel_rfl) (fun _ _ _ h => h) (by rfl) ?_ trivial ?_
                    rotate_left
                    · (intro wq hSw; go_simp <;> with_reducible rfl)
                    try simp only [Act.put, List.setIfInBounds_toArray, List.set_cons_zero, List.set_cons_succ]
                    refine take_run (i := 15) (oi := { dst := some 53, op := Go.Op.binOp Go.BinOp.sub 3 (Go.Operand.tmp 52) (Go.Operand.const (Go.Value.int Go.IntKind.i64 1)) 3, type := 3, pos := "ref.go:253", after := #[{ on := 14, ground := Go.Ground.data }, { on := 4, ground := Go.Ground.guard }], guard := some (4, false) }) (v := ?_) rfl (by kernel_rfl) (by kernel_rfl) (by kernel_rfl) (fun _ _ _ h => h) (by rfl) ?_ trivial ?_
                    rotate_left
                    · (intro wq hSw; go_simp <;> with_reducible rfl)
                    try simp only [Act.put, List.setIfInBounds_toArray, List.set_cons_zero, List.set_cons_succ]
                    exact hX
                  case second2 =>
                    intro hX
                    try simp only [Act.put, List.setIfInBounds_toArray, List.set_cons_zero, List.set_cons_succ]
                    refine take_run (i := 14) (oi := { dst := some 52, op := Go.Op.call { callee := Go.Callee.builtin Go.Builtin.len, args := #[Go.Operand.tmp 51], argTypes := #[69] }, type := 3, pos := "ref.go:253", after := #[{ on := 13, ground := Go.Ground.data }, { on := 4, ground := Go.Ground.guard }], guard := some (4, false) }) (v := ?_) rfl (by kernel_rfl) (by kernel_rfl) (by kernel_rfl) (fun _ _ _ h => h) (by rfl) ?_ trivial ?_
                    rotate_left
                    · (intro wq hSw; go_simp <;> with_reducible rfl)
                    try simp only [Act.put, List.setIfInBounds_toArray, List.set_cons_zero, List.set_cons_succ]
                    refine take_run (i := 15) (oi := { dst := some 53, op := Go.Op.binOp Go.BinOp.sub 3 (Go.Operand.tmp 52) (Go.Operand.const (Go.Value.int Go.IntKind.i64 1)) 3, type := 3, pos := "ref.go:253", after := #[{ on := 14, ground := Go.Ground.data }, { on := 4, ground := Go.Ground.guard }], guard := some (4, false) }) (v := ?_) rfl (by kernel_rfl) (by kernel_rfl) (by kernel_rfl) (fun _ _ _ h => h) (by rfl) ?_ trivial ?_
                    rotate_left
                    · (intro wq hSw; go_simp <;> with_reducible rfl)
                    try simp only [Act.put, List.setIfInBounds_toArray, List.set_cons_zero, List.set_cons_succ]
                    refine take_valB (i := 9) (oi := { dst := some 47, op := Go.Op.load 69 (Go.Operand.tmp 46), type := 69, pos := "ref.go:253", after := #[{ on := 8, ground := Go.Ground.data }, { on := 4, ground := Go.Ground.guard }], guard := some (4, false) }) (.slice (some ⟨g, 0, none⟩) (j + 1) c) rfl (by kernel_rfl) (by rfl) (by go_simp <;> with_reducible rfl) trivial ?_
                    try simp only [Act.put, List.setIfInBounds_toArray, List.set_cons_zero, List.set_cons_succ]
                    exact wpAnyH_cast hX (by kernel_rfl) rfl
                  refine take_run (i := 16) (oi := { dst := some 54, op := Go.Op.indexAddr 69 (Go.Operand.tmp 47) (Go.Operand.tmp 53), type := 0, pos := "ref.go:253", after := #[{ on := 9, ground := Go.Ground.data }, { on := 15, ground := Go.Ground.data }, { on := 4, ground := Go.Ground.guard }], guard := some (4, false) }) (v := ?_) rfl (by kernel_rfl) (by kernel_rfl) (by kernel_rfl) (fun _ _ _ h => h) (by rfl) ?_ trivial ?_
                  rotate_left
                  · (intro wq hSw; go_simp <;> with_reducible rfl)
                  try simp only [Act.put, List.setIfInBounds_toArray, List.set_cons_zero, List.set_cons_succ]
                  refine take_run (i := 17) (oi := { dst := some 55, op := Go.Op.fieldAddr 86 (Go.Operand.tmp 54) 0, type := 0, pos := "ref.go:253", after := #[{ on := 16, ground := Go.Ground.data }, { on := 4, ground := Go.Ground.guard }], guard := some (4, false) }) (v := ?_) rfl (by kernel_rfl) (by kernel_rfl) (by kernel_rfl) (fun _ _ _ h => h) (by rfl) ?_ trivial ?_
                  rotate_left
                  · (intro wq hSw; go_simp <;> with_reducible rfl)
                  try simp only [Act.put, List.setIfInBounds_toArray, List.set_cons_zero, List.set_cons_succ]
                  refine take_valB (i := 18) (oi := { dst := some 56, op := Go.Op.load 9 (Go.Operand.tmp 55), type := 9, pos := "ref.go:253", after := #[{ on := 17, ground := Go.Ground.data }, { on := 4, ground := Go.Ground.guard }], guard := some (4, false) }) (.string q.nm) rfl (by kernel_rfl) (by rfl) (by go_simp <;> with_reducible rfl) trivial ?_
                  try simp only [Act.put, List.setIfInBounds_toArray, List.set_cons_zero, List.set_cons_succ]
                  refine take_run (i := 19) (oi := { dst := some 57, op := Go.Op.binOp Go.BinOp.gtr 9 (Go.Operand.tmp 43) (Go.Operand.tmp 56) 9, type := 4, pos := "ref.go:253", after := #[{ on := 5, ground := Go.Ground.data }, { on := 18, ground := Go.Ground.data }, { on := 4, ground := Go.Ground.guard }], guard := some (4, false) }) (v := ?_) rfl (by kernel_rfl) (by kernel_rfl) (by kernel_rfl) (fun _ _ _ h => h) (by rfl) ?_ trivial ?_
                  rotate_left
                  · (intro wq hSw; go_simp <;> with_reducible rfl)
                  try simp only [Act.put, List.setIfInBounds_toArray, List.set_cons_zero, List.set_cons_succ]
                  refine take_run (i := 20) (oi := { dst := some 58, op := Go.Op.pick (Go.Operand.tmp 42) (Go.Operand.const (Go.Value.bool true)) (Go.Operand.tmp 57), type := 4, pos := "ref.go:253", after := #[{ on := 4, ground := Go.Ground.data }, { on := 19, ground := Go.Ground.data }, { on := 1, ground := Go.Ground.guard }], guard := some (1, true) }) (v := ?_) rfl (by kernel_rfl) (by kernel_rfl) (by kernel_rfl) (fun _ _ _ h => h) (by rfl) ?_ trivial ?_
                  rotate_left
                  · (intro wq hSw; go_simp <;> with_reducible rfl)
                  try simp only [Act.put, List.setIfInBounds_toArray, List.set_cons_zero, List.set_cons_succ]
                  refine take_run (i := 21) (oi := { dst := some 59, op := Go.Op.pick (Go.Operand.tmp 39) (Go.Operand.tmp 58) (Go.Operand.const (Go.Value.bool false)), type := 4, pos := "ref.go:253", after := #[{ on := 1, ground := Go.Ground.data }, { on := 20, ground := Go.Ground.data }], guard := none }) (v := ?_) rfl (by kernel_rfl) (by kernel_rfl) (by kernel_rfl) (fun _ _ _ h => h) (by rfl) ?_ trivial ?_
                  rotate_left
                  · (intro wq hSw; go_simp <;> with_reducible rfl)
                  try simp only [Act.put, List.setIfInBounds_toArray, List.set_cons_zero, List.set_cons_succ]
                  refine take_run (i := 22) (oi := { dst := some 60, op := Go.Op.move (Go.Operand.tmp 59), type := 4, pos := "ref.go:253", after := #[{ on := 21, ground := Go.Ground.data }, { on := 4, ground := Go.Ground.chain }], guard := none }) (v := ?_) rfl (by kernel_rfl) (by kernel_rfl) (by kernel_rfl) (fun _ _ _ h => h) (by rfl) ?_ trivial ?_
                  rotate_left
                  · (intro wq hSw; go_simp <;> with_reducible rfl)
                  try simp only [Act.put, List.setIfInBounds_toArray, List.set_cons_zero, List.set_cons_succ]
                  refine take_skipB (i := 23) (oi := { dst := some 61, op := Go.Op.move (Go.Operand.tmp 4), type := 28, pos := "ref.go:253", after := #[{ on := 22, ground := Go.Ground.guard }], guard := some (22, true) }) rfl (by kernel_rfl) (by kernel_rfl) (by kernel_rfl) (fun _ _ _ h => h) (by rfl) trivial ?_
                  try simp only [Act.put, List.setIfInBounds_toArray, List.set_cons_zero, List.set_cons_succ]
                  refine take_skipB (i := 24) (oi := { dst := some 62, op := Go.Op.move (Go.Operand.tmp 8), type := 9, pos := "ref.go:253", after := #[{ on := 22, ground := Go.Ground.guard }], guard := some (22, true) }) rfl (by kernel_rfl) (by kernel_rfl) (by kernel_rfl) (fun _ _ _ h => h) (by rfl) trivial ?_
                  try simp only [Act.put, List.setIfInBounds_toArray, List.set_cons_zero, List.set_cons_succ]
                  refine take_skipB (i := 25) (oi := { dst := some 63, op := Go.Op.move (Go.Operand.tmp 9), type := 2, pos := "ref.go:253", after := #[{ on := 22, ground := Go.Ground.guard }], guard := some (22, true) }) rfl (by kernel_rfl) (by kernel_rfl) (by kernel_rfl) (fun _ _ _ h => h) (by rfl) trivial ?_
                  try simp only [Act.put, List.setIfInBounds_toArray, List.set_cons_zero, List.set_cons_succ]
                  refine take_skipB (i := 26) (oi := { dst := some 64, op := Go.Op.build 59 #[(0, Go.Operand.tmp 62), (1, Go.Operand.tmp 63)], type := 59, pos := "ref.go:253", after := #[{ on := 24, ground := Go.Ground.data }, { on := 25, ground := Go.Ground.data }, { on := 22, ground := Go.Ground.guard }], guard := some (22, true) }) rfl (by kernel_rfl) (by kernel_rfl) (by kernel_rfl) (fun _ _ _ h => h) (by rfl) trivial ?_
                  try simp only [Act.put, List.setIfInBounds_toArray, List.set_cons_zero, List.set_cons_succ]
                  refine take_skipB (i := 27) (oi := { dst := some 65, op := Go.Op.call { callee := Go.Callee.value (Go.Operand.func 52), args := #[Go.Operand.tmp 61, Go.Operand.tmp 64], argTypes := #[28, 59] }, type := 25, pos := "ref.go:253", after := #[{ on := 23, ground := Go.Ground.data }, { on := 26, ground := Go.Ground.data }, { on := 22, ground := Go.Ground.chain }, { on := 22, ground := Go.Ground.guard }], guard := some (22, true) }) rfl (by kernel_rfl) (by kernel_rfl) (by kernel_rfl) (fun _ _ _ h => h) (by rfl) trivial ?_
                  try simp only [Act.put, List.setIfInBounds_toArray, List.set_cons_zero, List.set_cons_succ]
                  refine take_skipB (i := 28) (oi := { dst := some 66, op := Go.Op.binOp Go.BinOp.eql 25 (Go.Operand.tmp 65) (Go.Operand.const (Go.Value.int Go.IntKind.i64 0)) 25, type := 4, pos := "ref.go:253", after := #[{ on := 27, ground := Go.Ground.data }, { on := 22, ground := Go.Ground.guard }], guard := some (22, true) }) rfl (by kernel_rfl) (by kernel_rfl) (by kernel_rfl) (fun _ _ _ h => h) (by rfl) trivial ?_
                  try simp only [Act.put, List.setIfInBounds_toArray, List.set_cons_zero, List.set_cons_succ]
                  refine take_run (i := 29) (oi := { dst := some 67, op := Go.Op.pick (Go.Operand.tmp 60) (Go.Operand.tmp 66) (Go.Operand.const (Go.Value.bool false)), type := 4, pos := "ref.go:253", after := #[{ on := 22, ground := Go.Ground.data }, { on := 28, ground := Go.Ground.data }], guard := none }) (v := ?_) rfl (by kernel_rfl) (by kernel_rfl) (by kernel_rfl) (fun _ _ _ h => h) (by rfl) ?_ trivial ?_
                  rotate_left
                  · (intro wq hSw; go_simp <;> with_reducible rfl)
                  try simp only [Act.put, List.setIfInBounds_toArray, List.set_cons_zero, List.set_cons_succ]
                  refine take_run (i := 30) (oi := { dst := some 6, op := Go.Op.assign (Go.Operand.tmp 67), type := 4, pos := "ref.go:253", after := #[{ on := 29, ground := Go.Ground.data }, { on := 27, ground := Go.Ground.chain }, { on := 0, ground := Go.Ground.phase }, { on := 1, ground := Go.Ground.phase }, { on := 2, ground := Go.Ground.phase }, { on := 3, ground := Go.Ground.phase }, { on := 4, ground := Go.Ground.phase }, { on := 5, ground := Go.Ground.phase }, { on := 6, ground := Go.Ground.phase }, { on := 7, ground := Go.Ground.phase }, { on := 8, ground := Go.Ground.phase }, { on := 9, ground := Go.Ground.phase }, { on := 10, ground := Go.Ground.phase }, { on := 11, ground := Go.Ground.phase }, { on := 12, ground := Go.Ground.phase }, { on := 13, ground := Go.Ground.phase }, { on := 14, ground := Go.Ground.phase }, { on := 15, ground := Go.Ground.phase }, { on := 16, ground := Go.Ground.phase }, { on := 17, ground := Go.Ground.phase }, { on := 18, ground := Go.Ground.phase }, { on := 19, ground := Go.Ground.phase }, { on := 20, ground := Go.Ground.phase }, { on := 21, ground := Go.Ground.phase }, { on := 22, ground := Go.Ground.phase }, { on := 23, ground := Go.Ground.phase }, { on := 24, ground := Go.Ground.phase }, { on := 25, ground := Go.Ground.phase }, { on := 26, ground := Go.Ground.phase }, { on := 27, ground := Go.Ground.phase }, { on := 28, ground := Go.Ground.phase }, { on := 29, ground := Go.Ground.phase }], guard := none }) (v := ?_) rfl (by kernel_rfl) (by kernel_rfl) (by kernel_rfl) (fun _ _ _ h => h) (by rfl) ?_ trivial ?_
                  rotate_left
                  · (intro wq hSw; go_simp <;> with_reducible rfl)
                  try simp only [Act.put, List.setIfInBounds_toArray, List.set_cons_zero, List.set_cons_succ]
                  refine wpAnyH_done (by kernel_rfl) ?_ _
                  show onwardQ _ .normal _ _
                  unfold onwardQ
                  have Lz : Hid (QL w0 wz R A0 B N l fa 0) := L5.out.low (bz.mono (Nat.le_of_lt L5.out.hN))
                  have Xz : Hid (QX wz N (j + 1)) := by have h8 := (hb5.out.below bz).toX; rw [HLA.out] at h8; exact h8
                  clear bz hwz hHeld hb5 L5 hls 
                  clear cz yz hki hki2 hw1 hw2 hw3 hj0 hj1 hj2 e1 e2 hjl y0 cN
                  obtain ⟨xa, m, xc, hN0, a', c', w6, hr, hN6, hx6, b6⟩ := Xz.out.more (by have := HLT.out; have := NN.out; omega) nm
                  have c0 : wz.cell? ⟨N, 0, none⟩ = some (.slice xa m xc) := by simp [World.cell?, hN0]
                  have c6 : w6.cell? ⟨N, 0, none⟩ = some (.slice xa m xc) := by simp [World.cell?, hN6]
                  have f6 : w6.frozen? ⟨N, 0, none⟩ = false := by simp [World.frozen?, hN6]
                  have HR : Hid _ := hr
                  have L6 : Hid (QL w0 (w6.setCell ⟨N, 0, none⟩ (.slice a' (m + 1) c')) R A0 B N l (ak l a y (j + 1 + 1)).2.1 (ak l a y (j + 1 + 1)).2.2) := by show QL _ _ _ _ _ _ _ _ _; rw [HK.out]; exact Lz.out.low b6
                  have QB6 : Hid (QB (w6.setCell ⟨N, 0, none⟩ (.slice a' (m + 1) c')) N (ak l a y (j + 1 + 1)).1 false (j + 1 + 1)) := by show QB _ _ _ _ _; rw [HK.out]; exact .inr ⟨rfl, HNF.out, hx6⟩
                  clear hN0 hr hN6 hx6 b6 Xz Lz
                  go_wp2_with (at_builtin; refine wpList_append_known rfl (.tmp 74) (.tmp 77) 69 69 rfl _ _ rfl rfl _ _ HR.out ?_)
                  go_roundw
                  case rel => exact ⟨j + 1 + 1, false, by have := HLT.out; omega, rfl, by go_num, L6, QB6⟩
                  case measure => simp only [intOf]; have := HLT.out; omega
                · have HNF : Hid (¬ Fit (A ++ [⟨nm, am, by0⟩])) := fun h => by
                    rcases (fit_snoc h).2.1 with h1 | ⟨q', h1, h2⟩
                    · have := HLA.out; rw [h1] at this; simp at this
                    · rw [HQL.out] at h1
                      cases h1
                      exact hah h2
                  have hls : Op.bytesLess nm.toList q.nm.toList = false := by rw [less_ahead, decide_eq_false (by rw [hnl]; exact ahead_irrefl _)]
                  have heq : (nm.toList == q.nm.toList) = true := by rw [hnl]; simp
                  clear hah hnl
                  go_wp2_with fail
                  refine onwardQ_wp ?_
                  refine wp_region_held_drew (S := fun _ => True) (by kernel_rfl) trivial (fun hHeld => ?_)
                  obtain ⟨wz, hwz⟩ : ∃ wz, w5.drew = wz := ⟨_, rfl⟩
                  have bz : Below w5.heap.size w5 wz := by rw [← hwz]; exact (Below.refl _ w5).drew
                  rw [hwz]
                  have cz : wz.cell? ⟨N, 0, none⟩ = some (.slice (some ⟨g, 0, none⟩) (j + 1) c) := (bz.cell (p := ⟨N, 0, none⟩) (World.block_lt_of_cell? w5 _ cN)).trans cN
                  have yz : wz.cell? ⟨g, j * 3, none⟩ = some (.string q.nm) := (bz.cell (p := ⟨g, j * 3, none⟩) (World.block_lt_of_cell? w5 _ y0)).trans y0
                  refine take_run (i := 0) (oi := { dst := some 38, op := Go.Op.move (Go.Operand.tmp 6), type := 4, pos := "ref.go:253", after := #[], guard := none }) (v := ?_) rfl (by kernel_rfl) (by kernel_rfl) (by kernel_rfl) (fun _ _ _ h => h) (by rfl) ?_ hHeld ?_
                  rotate_left
                  · (intro wq hSw; go_simp <;> with_reducible rfl)
                  try simp only [Act.put, List.setIfInBounds_toArray, List.set_cons_zero, List.set_cons_succ]
                  refine take_run (i := 1) (oi := { dst := some 39, op := Go.Op.move (Go.Operand.tmp 38), type := 4, pos := "ref.go:253", after := #[{ on := 0, ground := Go.Ground.data }], guard := none }) (v := ?_) rfl (by kernel_rfl) (by kernel_rfl) (by kernel_rfl) (fun _ _ _ h => h) (by rfl) ?_ hHeld ?_
                  rotate_left
                  · (intro wq hSw; go_simp <;> with_reducible rfl)
                  try simp only [Act.put, List.setIfInBounds_toArray, List.set_cons_zero, List.set_cons_succ]
                  refine take_run (i := 2) (oi := { dst := some 40, op := Go.Op.move (Go.Operand.tmp 7), type := 3, pos := "ref.go:253", after := #[{ on := 1, ground := Go.Ground.guard }], guard := some (1, true) }) (v := ?_) rfl (by kernel_rfl) (by kernel_rfl) (by kernel_rfl) (fun _ _ _ h => h) (by rfl) ?_ hHeld ?_
                  rotate_left
                  · (intro wq hSw; go_simp <;> with_reducible rfl)
                  try simp only [Act.put, List.setIfInBounds_toArray, List.set_cons_zero, List.set_cons_succ]
                  refine take_run (i := 3) (oi := { dst := some 41, op := Go.Op.binOp Go.BinOp.eql 3 (Go.Operand.tmp 40) (Go.Operand.const (Go.Value.int Go.IntKind.i64 0)) 3, type := 4, pos := "ref.go:253", after := #[{ on := 2, ground := Go.Ground.data }, { on := 1, ground := Go.Ground.guard }], guard := some (1, true) }) (v := ?_) rfl (by kernel_rfl) (by kernel_rfl) (by kernel_rfl) (fun _ _ _ h => h) (by rfl) ?_ hHeld ?_
                  rotate_left
                  · (intro wq hSw; go_simp <;> with_reducible rfl)
                  try simp only [Act.put, List.setIfInBounds_toArray, List.set_cons_zero, List.set_cons_succ]
                  refine take_run (i := 4) (oi := { dst := some 42, op := Go.Op.move (Go.Operand.tmp 41), type := 4, pos := "ref.go:253", after := #[{ on := 3, ground := Go.Ground.data }, { on := 1, ground := Go.Ground.chain }, { on := 1, ground := Go.Ground.guard }], guard := some (1, true) }) (v := ?_) rfl (by kernel_rfl) (by kernel_rfl) (by kernel_rfl) (fun _ _ _ h => h) (by rfl) ?_ hHeld ?_
                  rotate_left
                  · (intro wq hSw; go_simp <;> with_reducible rfl)
                  try simp only [Act.put, List.setIfInBounds_toArray, List.set_cons_zero, List.set_cons_succ]
                  refine take_run (i := 5) (oi := { dst := some 43, op := Go.Op.move (Go.Operand.tmp 8), type := 9, pos := "ref.go:253", after := #[{ on := 4, ground := Go.Ground.guard }], guard := some (4, false) }) (v := ?_) rfl (by kernel_rfl) (by kernel_rfl) (by kernel_rfl) (fun _ _ _ h => h) (by rfl) ?_ hHeld ?_
                  rotate_left
                  · (intro wq hSw; go_simp <;> with_reducible rfl)
                  try simp only [Act.put, List.setIfInBounds_toArray, List.set_cons_zero, List.set_cons_succ]
                  refine take_run (i := 6) (oi := { dst := some 44, op := Go.Op.move (Go.Operand.tmp 4), type := 28, pos := "ref.go:253", after := #[{ on := 4, ground := Go.Ground.guard }], guard := some (4, false) }) (v := ?_) rfl (by kernel_rfl) (by kernel_rfl) (by kernel_rfl) (fun _ _ _ h => h) (by rfl) ?_ hHeld ?_
                  rotate_left
                  · (intro wq hSw; go_simp <;> with_reducible rfl)
                  try simp only [Act.put, List.setIfInBounds_toArray, List.set_cons_zero, List.set_cons_succ]
                  refine take_run (i := 7) (oi := { dst := some 45, op := Go.Op.nilCheck (Go.Operand.tmp 44), type := 0, pos := "ref.go:253", after := #[{ on := 6, ground := Go.Ground.data }, { on := 4, ground := Go.Ground.guard }], guard := some (4, false) }) (v := ?_) rfl (by kernel_rfl) (by kernel_rfl) (by kernel_rfl) (fun _ _ _ h => h) (by rfl) ?_ hHeld ?_
                  rotate_left
                  · (intro wq hSw; go_simp <;> with_reducible rfl)
                  try simp only [Act.put, List.setIfInBounds_toArray, List.set_cons_zero, List.set_cons_succ]
                  refine take_run (i := 8) (oi := { dst := some 46, op := Go.Op.fieldAddr 71 (Go.Operand.tmp 45) 0, type := 0, pos := "ref.go:253", after := #[{ on := 7, ground := Go.Ground.data }, { on := 4, ground := Go.Ground.guard }], guard := some (4, false) }) (v := ?_) rfl (by kernel_rfl) (by kernel_rfl) (by kernel_rfl) (fun _ _ _ h => h) (by rfl) ?_ hHeld ?_
                  rotate_left
                  · (intro wq hSw; go_simp <;> with_reducible rfl)
                  try simp only [Act.put, List.setIfInBounds_toArray, List.set_cons_zero, List.set_cons_succ]
                  refine take_run (i := 10) (oi := { dst := some 48, op := Go.Op.move (Go.Operand.tmp 4), type := 28, pos := "ref.go:253", after := #[{ on := 4, ground := Go.Ground.guard }], guard := some (4, false) }) (v := ?_) rfl (by kernel_rfl) (by kernel_rfl) (by kernel_rfl) (fun _ _ _ h => h) (by rfl) ?_ hHeld ?_
                  rotate_left
                  · (intro wq hSw; go_simp <;> with_reducible rfl)
                  try simp only [Act.put, List.setIfInBounds_toArray, List.set_cons_zero, List.set_cons_succ]
                  refine take_run (i := 11) (oi := { dst := some 49, op := Go.Op.nilCheck (Go.Operand.tmp 48), type := 0, pos := "ref.go:253", after := #[{ on := 10, ground := Go.Ground.data }, { on := 4, ground := Go.Ground.guard }], guard := some (4, false) }) (v := ?_) rfl (by kernel_rfl) (by kernel_rfl) (by kernel_rfl) (fun _ _ _ h => h) (by rfl) ?_ hHeld ?_
                  rotate_left
                  · (intro wq hSw; go_simp <;> with_reducible rfl)
                  try simp only [Act.put, List.setIfInBounds_toArray, List.set_cons_zero, List.set_cons_succ]
                  refine take_run (i := 12) (oi := { dst := some 50, op := Go.Op.fieldAddr 71 (Go.Operand.tmp 49) 0, type := 0, pos := "ref.go:253", after := #[{ on := 11, ground := Go.Ground.data }, { on := 4, ground := Go.Ground.guard }], guard := some (4, false) }) (v := ?_) rfl (by kernel_rfl) (by kernel_rfl) (by kernel_rfl) (fun _ _ _ h => h) (by rfl) ?_ hHeld ?_
                  rotate_left
                  · (intro wq hSw; go_simp <;> with_reducible rfl)
                  try simp only [Act.put, List.setIfInBounds_toArray, List.set_cons_zero, List.set_cons_succ]
                  refine take_forkB (A := ?fA3) (L := ?fL3) (fuel' := ?fF3) (i := 9) (j := 13) (oi := { dst := some 47, op := Go.Op.load 69 (Go.Operand.tmp 46), type := 69, pos := "ref.go:253", after := #[{ on := 8, ground := Go.Ground.data }, { on := 4, ground := Go.Ground.guard }], guard := some (4, false) }) (oj := { dst := some 51, op := Go.Op.load 69 (Go.Operand.tmp 50), type := 69, pos := "ref.go:253", after := #[{ on := 12, ground := Go.Ground.data }, { on := 4, ground := Go.Ground.guard }], guard := some (4, false) }) (.slice (some ⟨g, 0, none⟩) (j + 1) c) (.slice (some ⟨g, 0, none⟩) (j + 1) c) rfl rfl (by kernel_rfl) (by rfl) (by rfl) (by go_simp <;> with_reducible rfl) (by go_simp <;> with_reducible rfl) trivial ?first3 ?second3 ?rest3
                  case first3 =>
                    intro hX
                    try simp only [Act.put, List.setIfInBounds_toArray, List.set_cons_zero, List.set_cons_succ]
                    refine take_valB (i := 13) (oi := { dst := some 51, op := Go.Op.load 69 (Go.Operand.tmp 50), type := 69, pos := "ref.go:253", after := #[{ on := 12, ground := Go.Ground.data }, { on := 4, ground := Go.Ground.guard }], guard := some (4, false) }) (.slice (some ⟨g, 0, none⟩) (j + 1) c) rfl (by kernel_rfl) (by rfl) (by go_simp <;> with_reducible rfl) trivial ?_
                    try simp only [Act.put, List.setIfInBounds_toArray, List.set_cons_zero, List.set_cons_succ]
                    refine take_run (i := 14) (oi := { dst := some 52, op := Go.Op.call { callee := Go.Callee.builtin Go.Builtin.len, args := #[Go.Operand.tmp 51], argTypes := #[69] }, type := 3, pos := "ref.go:253", after := #[{ on := 13, ground := Go.Ground.data }, { on := 4, ground := Go.Ground.guard }], guard := some (4, false) }) (v := ?_) rfl (by kernel_rfl) (by kernel_rfl) (by kernel_rfl) (fun _ _ _ h => h) (by rfl) ?_ trivial ?_
                    rotate_left
                    · (intro wq hSw; go_simp <;> with_reducible rfl)
                    try simp only [Act.put, List.setIfInBounds_toArray, List.set_cons_zero, List.set_cons_succ]
                    refine take_run (i := 15) (oi := { dst := some 53, op := Go.Op.binOp Go.BinOp.sub 3 (Go.Operand.tmp 52) (Go.Operand.const (Go.Value.int Go.IntKind.i64 1)) 3, type := 3, pos := "ref.go:253", after := #[{ on := 14, ground := Go.Ground.data }, { on := 4, ground := Go.Ground.guard }], guard := some (4, false) }) (v := ?_) rfl (by kernel_rfl) (by kernel_rfl) (by kernel_rfl) (fun _ _ _ h => h) (by rfl) ?_ trivial ?_
                    rotate_left
                    · (intro wq hSw; go_simp <;> with_reducible rfl)
                    try simp only [Act.put, List.setIfInBounds_toArray, List.set_cons_zero, List.set_cons_succ]
                    exact hX
                  case second3 =>
                    intro hX
                    try simp only [Act.put, List.setIfInBounds_toArray, List.set_cons_zero, List.set_cons_succ]
                    refine take_run (i := 14) (oi := { dst := some 52, op := Go.Op.call { callee := Go.Callee.builtin Go.Builtin.len, args := #[Go.Operand.tmp 51], argTypes := #[69] }, type := 3, pos := "ref.go:253", after := #[{ on := 13, ground := Go.Ground.data }, { on := 4, ground := Go.Ground.guard }], guard := some (4, false) }) (v := ?_) rfl (by kernel_rfl) (by kernel_rfl) (by kernel_rfl) (fun _ _ _ h => h) (by rfl) ?_ trivial ?_
                    rotate_left
                    · (intro wq hSw; go_simp <;> with_reducible rfl)
                    try simp only [Act.put, List.setIfInBounds_toArray, List.set_cons_zero, List.set_cons_succ]
                    refine take_run (i := 15) (oi := { dst := some 53, op := Go.Op.binOp Go.BinOp.sub 3 (Go.Operand.tmp 52) (Go.Operand.const (Go.Value.int Go.IntKind.i64 1)) 3, type := 3, pos := "ref.go:253", after := #[{ on := 14, ground := Go.Ground.data }, { on := 4, ground := Go.Ground.guard }], guard := some (4, false) }) (v := ?_) rfl (by kernel_rfl) (by kernel_rfl) (by kernel_rfl) (fun _ _ _ h => h) (by rfl) ?_ trivial ?_
                    rotate_left
                    · (intro wq hSw; go_simp <;> with_reducible rfl)
                    try simp only [Act.put, List.setIfInBounds_toArray, List.set_cons_zero, List.set_cons_succ]
                    refine take_valB (i := 9) (oi := { dst := some 47, op := Go.Op.load 69 (Go.Operand.tmp 46), type := 69, pos := "ref.go:253", after := #[{ on := 8, ground := Go.Ground.data }, { on := 4, ground := Go.Ground.guard }], guard := some (4, false) }) (.slice (some ⟨g, 0, none⟩) (j + 1) c) rfl (by kernel_rfl) (by rfl) (by go_simp <;> with_reducible rfl) trivial ?_
                    try simp only [Act.put, List.setIfInBounds_toArray, List.set_cons_zero, List.set_cons_succ]
                    exact wpAnyH_cast hX (by kernel_rfl) rfl
                  refine take_run (i := 16) (oi := { dst := some 54, op := Go.Op.indexAddr 69 (Go.Operand.tmp 47) (Go.Operand.tmp 53), type := 0, pos := "ref.go:253", after := #[{ on := 9, ground := Go.Ground.data }, { on := 15, ground := Go.Ground.data }, { on := 4, ground := Go.Ground.guard }], guard := some (4, false) }) (v := ?_) rfl (by kernel_rfl) (by kernel_rfl) (by kernel_rfl) (fun _ _ _ h => h) (by rfl) ?_ trivial ?_
                  rotate_left
                  · (intro wq hSw; go_simp <;> with_reducible rfl)
                  try simp only [Act.put, List.setIfInBounds_toArray, List.set_cons_zero, List.set_cons_succ]
                  refine take_run (i := 17) (oi := { dst := some 55, op := Go.Op.fieldAddr 86 (Go.Operand.tmp 54) 0, type := 0, pos := "ref.go:253", after := #[{ on := 16, ground := Go.Ground.data }, { on := 4, ground := Go.Ground.guard }], guard := some (4, false) }) (v := ?_) rfl (by kernel_rfl) (by kernel_rfl) (by kernel_rfl) (fun _ _ _ h => h) (by rfl) ?_ trivial ?_
                  rotate_left
                  · (intro wq hSw; go_simp <;> with_reducible rfl)
                  try simp only [Act.put, List.setIfInBounds_toArray, List.set_cons_zero, List.set_cons_succ]
                  refine take_valB (i := 18) (oi := { dst := some 56, op := Go.Op.load 9 (Go.Operand.tmp 55), type := 9, pos := "ref.go:253", after := #[{ on := 17, ground := Go.Ground.data }, { on := 4, ground := Go.Ground.guard }], guard := some (4, false) }) (.string q.nm) rfl (by kernel_rfl) (by rfl) (by go_simp <;> with_reducible rfl) trivial ?_
                  try simp only [Act.put, List.setIfInBounds_toArray, List.set_cons_zero, List.set_cons_succ]
                  refine take_run (i := 19) (oi := { dst := some 57, op := Go.Op.binOp Go.BinOp.gtr 9 (Go.Operand.tmp 43) (Go.Operand.tmp 56) 9, type := 4, pos := "ref.go:253", after := #[{ on := 5, ground := Go.Ground.data }, { on := 18, ground := Go.Ground.data }, { on := 4, ground := Go.Ground.guard }], guard := some (4, false) }) (v := ?_) rfl (by kernel_rfl) (by kernel_rfl) (by kernel_rfl) (fun _ _ _ h => h) (by rfl) ?_ trivial ?_
                  rotate_left
                  · (intro wq hSw; go_simp <;> with_reducible rfl)
                  try simp only [Act.put, List.setIfInBounds_toArray, List.set_cons_zero, List.set_cons_succ]
                  refine take_run (i := 20) (oi := { dst := some 58, op := Go.Op.pick (Go.Operand.tmp 42) (Go.Operand.const (Go.Value.bool true)) (Go.Operand.tmp 57), type := 4, pos := "ref.go:253", after := #[{ on := 4, ground := Go.Ground.data }, { on := 19, ground := Go.Ground.data }, { on := 1, ground := Go.Ground.guard }], guard := some (1, true) }) (v := ?_) rfl (by kernel_rfl) (by kernel_rfl) (by kernel_rfl) (fun _ _ _ h => h) (by rfl) ?_ trivial ?_
                  rotate_left
                  · (intro wq hSw; go_simp <;> with_reducible rfl)
                  try simp only [Act.put, List.setIfInBounds_toArray, List.set_cons_zero, List.set_cons_succ]
                  refine take_run (i := 21) (oi := { dst := some 59, op := Go.Op.pick (Go.Operand.tmp 39) (Go.Operand.tmp 58) (Go.Operand.const (Go.Value.bool false)), type := 4, pos := "ref.go:253", after := #[{ on := 1, ground := Go.Ground.data }, { on := 20, ground := Go.Ground.data }], guard := none }) (v := ?_) rfl (by kernel_rfl) (by kernel_rfl) (by kernel_rfl) (fun _ _ _ h => h) (by rfl) ?_ trivial ?_
                  rotate_left
                  · (intro wq hSw; go_simp <;> with_reducible rfl)
                  try simp only [Act.put, List.setIfInBounds_toArray, List.set_cons_zero, List.set_cons_succ]
                  refine take_run (i := 22) (oi := { dst := some 60, op := Go.Op.move (Go.Operand.tmp 59), type := 4, pos := "ref.go:253", after := #[{ on := 21, ground := Go.Ground.data }, { on := 4, ground := Go.Ground.chain }], guard := none }) (v := ?_) rfl (by kernel_rfl) (by kernel_rfl) (by kernel_rfl) (fun _ _ _ h => h) (by rfl) ?_ trivial ?_
                  rotate_left
                  · (intro wq hSw; go_simp <;> with_reducible rfl)
                  try simp only [Act.put, List.setIfInBounds_toArray, List.set_cons_zero, List.set_cons_succ]
                  refine take_skipB (i := 23) (oi := { dst := some 61, op := Go.Op.move (Go.Operand.tmp 4), type := 28, pos := "ref.go:253", after := #[{ on := 22, ground := Go.Ground.guard }], guard := some (22, true) }) rfl (by kernel_rfl) (by kernel_rfl) (by kernel_rfl) (fun _ _ _ h => h) (by rfl) trivial ?_
                  try simp only [Act.put, List.setIfInBounds_toArray, List.set_cons_zero, List.set_cons_succ]
                  refine take_skipB (i := 24) (oi := { dst := some 62, op := Go.Op.move (Go.Operand.tmp 8), type := 9, pos := "ref.go:253", after := #[{ on := 22, ground := Go.Ground.guard }], guard := some (22, true) }) rfl (by kernel_rfl) (by kernel_rfl) (by kernel_rfl) (fun _ _ _ h => h) (by rfl) trivial ?_
                  try simp only [Act.put, List.setIfInBounds_toArray, List.set_cons_zero, List.set_cons_succ]
                  refine take_skipB (i := 25) (oi := { dst := some 63, op := Go.Op.move (Go.Operand.tmp 9), type := 2, pos := "ref.go:253", after := #[{ on := 22, ground := Go.Ground.guard }], guard := some (22, true) }) rfl (by kernel_rfl) (by kernel_rfl) (by kernel_rfl) (fun _ _ _ h => h) (by rfl) trivial ?_
                  try simp only [Act.put, List.setIfInBounds_toArray, List.set_cons_zero, List.set_cons_succ]
                  refine take_skipB (i := 26) (oi := { dst := some 64, op := Go.Op.build 59 #[(0, Go.Operand.tmp 62), (1, Go.Operand.tmp 63)], type := 59, pos := "ref.go:253", after := #[{ on := 24, ground := Go.Ground.data }, { on := 25, ground := Go.Ground.data }, { on := 22, ground := Go.Ground.guard }], guard := some (22, true) }) rfl (by kernel_rfl) (by kernel_rfl) (by kernel_rfl) (fun _ _ _ h => h) (by rfl) trivial ?_
                  try simp only [Act.put, List.setIfInBounds_toArray, List.set_cons_zero, List.set_cons_succ]
                  refine take_skipB (i := 27) (oi := { dst := some 65, op := Go.Op.call { callee := Go.Callee.value (Go.Operand.func 52), args := #[Go.Operand.tmp 61, Go.Operand.tmp 64], argTypes := #[28, 59] }, type := 25, pos := "ref.go:253", after := #[{ on := 23, ground := Go.Ground.data }, { on := 26, ground := Go.Ground.data }, { on := 22, ground := Go.Ground.chain }, { on := 22, ground := Go.Ground.guard }], guard := some (22, true) }) rfl (by kernel_rfl) (by kernel_rfl) (by kernel_rfl) (fun _ _ _ h => h) (by rfl) trivial ?_
                  try simp only [Act.put, List.setIfInBounds_toArray, List.set_cons_zero, List.set_cons_succ]
                  refine take_skipB (i := 28) (oi := { dst := some 66, op := Go.Op.binOp Go.BinOp.eql 25 (Go.Operand.tmp 65) (Go.Operand.const (Go.Value.int Go.IntKind.i64 0)) 25, type := 4, pos := "ref.go:253", after := #[{ on := 27, ground := Go.Ground.data }, { on := 22, ground := Go.Ground.guard }], guard := some (22, true) }) rfl (by kernel_rfl) (by kernel_rfl) (by kernel_rfl) (fun _ _ _ h => h) (by rfl) trivial ?_
                  try simp only [Act.put, List.setIfInBounds_toArray, List.set_cons_zero, List.set_cons_succ]
                  refine take_run (i := 29) (oi := { dst := some 67, op := Go.Op.pick (Go.Operand.tmp 60) (Go.Operand.tmp 66) (Go.Operand.const (Go.Value.bool false)), type := 4, pos := "ref.go:253", after := #[{ on := 22, ground := Go.Ground.data }, { on := 28, ground := Go.Ground.data }], guard := none }) (v := ?_) rfl (by kernel_rfl) (by kernel_rfl) (by kernel_rfl) (fun _ _ _ h => h) (by rfl) ?_ trivial ?_
                  rotate_left
                  · (intro wq hSw; go_simp <;> with_reducible rfl)
                  try simp only [Act.put, List.setIfInBounds_toArray, List.set_cons_zero, List.set_cons_succ]
                  refine take_run (i := 30) (oi := { dst := some 6, op := Go.Op.assign (Go.Operand.tmp 67), type := 4, pos := "ref.go:253", after := #[{ on := 29, ground := Go.Ground.data }, { on := 27, ground := Go.Ground.chain }, { on := 0, ground := Go.Ground.phase }, { on := 1, ground := Go.Ground.phase }, { on := 2, ground := Go.Ground.phase }, { on := 3, ground := Go.Ground.phase }, { on := 4, ground := Go.Ground.phase }, { on := 5, ground := Go.Ground.phase }, { on := 6, ground := Go.Ground.phase }, { on := 7, ground := Go.Ground.phase }, { on := 8, ground := Go.Ground.phase }, { on := 9, ground := Go.Ground.phase }, { on := 10, ground := Go.Ground.phase }, { on := 11, ground := Go.Ground.phase }, { on := 12, ground := Go.Ground.phase }, { on := 13, ground := Go.Ground.phase }, { on := 14, ground := Go.Ground.phase }, { on := 15, ground := Go.Ground.phase }, { on := 16, ground := Go.Ground.phase }, { on := 17, ground := Go.Ground.phase }, { on := 18, ground := Go.Ground.phase }, { on := 19, ground := Go.Ground.phase }, { on := 20, ground := Go.Ground.phase }, { on := 21, ground := Go.Ground.phase }, { on := 22, ground := Go.Ground.phase }, { on := 23, ground := Go.Ground.phase }, { on := 24, ground := Go.Ground.phase }, { on := 25, ground := Go.Ground.phase }, { on := 26, ground := Go.Ground.phase }, { on := 27, ground := Go.Ground.phase }, { on := 28, ground := Go.Ground.phase }, { on := 29, ground := Go.Ground.phase }], guard := none }) (v := ?_) rfl (by kernel_rfl) (by kernel_rfl) (by kernel_rfl) (fun _ _ _ h => h) (by rfl) ?_ trivial ?_
                  rotate_left
                  · (intro wq hSw; go_simp <;> with_reducible rfl)
                  try simp only [Act.put, List.setIfInBounds_toArray, List.set_cons_zero, List.set_cons_succ]
                  refine wpAnyH_done (by kernel_rfl) ?_ _
                  show onwardQ _ .normal _ _
                  unfold onwardQ
                  have Lz : Hid (QL w0 wz R A0 B N l fa 0) := L5.out.low (bz.mono (Nat.le_of_lt L5.out.hN))
                  have Xz : Hid (QX wz N (j + 1)) := by have h8 := (hb5.out.below bz).toX; rw [HLA.out] at h8; exact h8
                  clear bz hwz hHeld hb5 L5 hls heq
                  clear cz yz hki hki2 hw1 hw2 hw3 hj0 hj1 hj2 e1 e2 hjl y0 cN
                  obtain ⟨xa, m, xc, hN0, a', c', w6, hr, hN6, hx6, b6⟩ := Xz.out.more (by have := HLT.out; have := NN.out; omega) nm
                  have c0 : wz.cell? ⟨N, 0, none⟩ = some (.slice xa m xc) := by simp [World.cell?, hN0]
                  have c6 : w6.cell? ⟨N, 0, none⟩ = some (.slice xa m xc) := by simp [World.cell?, hN6]
                  have f6 : w6.frozen? ⟨N, 0, none⟩ = false := by simp [World.frozen?, hN6]
                  have HR : Hid _ := hr
                  have L6 : Hid (QL w0 (w6.setCell ⟨N, 0, none⟩ (.slice a' (m + 1) c')) R A0 B N l (ak l a y (j + 1 + 1)).2.1 (ak l a y (j + 1 + 1)).2.2) := by show QL _ _ _ _ _ _ _ _ _; rw [HK.out]; exact Lz.out.low b6
                  have QB6 : Hid (QB (w6.setCell ⟨N, 0, none⟩ (.slice a' (m + 1) c')) N (ak l a y (j + 1 + 1)).1 false (j + 1 + 1)) := by show QB _ _ _ _ _; rw [HK.out]; exact .inr ⟨rfl, HNF.out, hx6⟩
                  clear hN0 hr hN6 hx6 b6 Xz Lz
                  go_wp2_with (at_builtin; refine wpList_append_known rfl (.tmp 74) (.tmp 77) 69 69 rfl _ _ rfl rfl _ _ HR.out ?_)
                  go_roundw
                  case rel => exact ⟨j + 1 + 1, false, by have := HLT.out; omega, rfl, by go_num, L6, QB6⟩
                  case measure => simp only [intOf]; have := HLT.out; omega
                · exact absurd hnl hah
          · have HNF : Hid (¬ Fit (A ++ [⟨nm, am, by0⟩])) := fun h => hnf (fit_snoc h).1
            have HX5 : Hid (QX w5 N k) := hx
            clear hnf hx Q5
            go_wp2_with fail
            refine onwardQ_wp ?_
            refine wp_region_held_drew (S := fun _ => True) (by kernel_rfl) trivial (fun hHeld => ?_)
            obtain ⟨wz, hwz⟩ : ∃ wz, w5.drew = wz := ⟨_, rfl⟩
            have bz : Below w5.heap.size w5 wz := by rw [← hwz]; exact (Below.refl _ w5).drew
            rw [hwz]
            refine take_run (i := 0) (oi := { dst := some 38, op := Go.Op.move (Go.Operand.tmp 6), type := 4, pos := "ref.go:253", after := #[], guard := none }) (v := ?_) rfl (by kernel_rfl) (by kernel_rfl) (by kernel_rfl) (fun _ _ _ h => h) (by rfl) ?_ hHeld ?_
            rotate_left
            · (intro wq hSw; go_simp <;> with_reducible rfl)
            try simp only [Act.put, List.setIfInBounds_toArray, List.set_cons_zero, List.set_cons_succ]
            refine take_run (i := 1) (oi := { dst := some 39, op := Go.Op.move (Go.Operand.tmp 38), type := 4, pos := "ref.go:253", after := #[{ on := 0, ground := Go.Ground.data }], guard := none }) (v := ?_) rfl (by kernel_rfl) (by kernel_rfl) (by kernel_rfl) (fun _ _ _ h => h) (by rfl) ?_ hHeld ?_
            rotate_left
            · (intro wq hSw; go_simp <;> with_reducible rfl)
            try simp only [Act.put, List.setIfInBounds_toArray, List.set_cons_zero, List.set_cons_succ]
            refine take_skipB (i := 2) (oi := { dst := some 40, op := Go.Op.move (Go.Operand.tmp 7), type := 3, pos := "ref.go:253", after := #[{ on := 1, ground := Go.Ground.guard }], guard := some (1, true) }) rfl (by kernel_rfl) (by kernel_rfl) (by kernel_rfl) (fun _ _ _ h => h) (by rfl) hHeld ?_
            try simp only [Act.put, List.setIfInBounds_toArray, List.set_cons_zero, List.set_cons_succ]
            refine take_skipB (i := 3) (oi := { dst := some 41, op := Go.Op.binOp Go.BinOp.eql 3 (Go.Operand.tmp 40) (Go.Operand.const (Go.Value.int Go.IntKind.i64 0)) 3, type := 4, pos := "ref.go:253", after := #[{ on := 2, ground := Go.Ground.data }, { on := 1, ground := Go.Ground.guard }], guard := some (1, true) }) rfl (by kernel_rfl) (by kernel_rfl) (by kernel_rfl) (fun _ _ _ h => h) (by rfl) hHeld ?_
            try simp only [Act.put, List.setIfInBounds_toArray, List.set_cons_zero, List.set_cons_succ]
            refine take_skipB (i := 4) (oi := { dst := some 42, op := Go.Op.move (Go.Operand.tmp 41), type := 4, pos := "ref.go:253", after := #[{ on := 3, ground := Go.Ground.data }, { on := 1, ground := Go.Ground.chain }, { on := 1, ground := Go.Ground.guard }], guard := some (1, true) }) rfl (by kernel_rfl) (by kernel_rfl) (by kernel_rfl) (fun _ _ _ h => h) (by rfl) hHeld ?_
            try simp only [Act.put, List.setIfInBounds_toArray, List.set_cons_zero, List.set_cons_succ]
            refine take_skipB (i := 5) (oi := { dst := some 43, op := Go.Op.move (Go.Operand.tmp 8), type := 9, pos := "ref.go:253", after := #[{ on := 4, ground := Go.Ground.guard }], guard := some (4, false) }) rfl (by kernel_rfl) (by kernel_rfl) (by kernel_rfl) (fun _ _ _ h => h) (by rfl) hHeld ?_
            try simp only [Act.put, List.setIfInBounds_toArray, List.set_cons_zero, List.set_cons_succ]
            refine take_skipB (i := 6) (oi := { dst := some 44, op := Go.Op.move (Go.Operand.tmp 4), type := 28, pos := "ref.go:253", after := #[{ on := 4, ground := Go.Ground.guard }], guard := some (4, false) }) rfl (by kernel_rfl) (by kernel_rfl) (by kernel_rfl) (fun _ _ _ h => h) (by rfl) hHeld ?_
            try simp only [Act.put, List.setIfInBounds_toArray, List.set_cons_zero, List.set_cons_succ]
            refine take_skipB (i := 7) (oi := { dst := some 45, op := Go.Op.nilCheck (Go.Operand.tmp 44), type := 0, pos := "ref.go:253", after := #[{ on := 6, ground := Go.Ground.data }, { on := 4, ground := Go.Ground.guard }], guard := some (4, false) }) rfl (by kernel_rfl) (by kernel_rfl) (by kernel_rfl) (fun _ _ _ h => h) (by rfl) hHeld ?_
            try simp only [Act.put, List.setIfInBounds_toArray, List.set_cons_zero, List.set_cons_succ]
            refine take_skipB (i := 8) (oi := { dst := some 46, op := Go.Op.fieldAddr 71 (Go.Operand.tmp 45) 0, type := 0, pos := "ref.go:253", after := #[{ on := 7, ground := Go.Ground.data }, { on := 4, ground := Go.Ground.guard }], guard := some (4, false) }) rfl (by kernel_rfl) (by kernel_rfl) (by kernel_rfl) (fun _ _ _ h => h) (by rfl) hHeld ?_
            try simp only [Act.put, List.setIfInBounds_toArray, List.set_cons_zero, List.set_cons_succ]
            refine take_skipB (i := 9) (oi := { dst := some 47, op := Go.Op.load 69 (Go.Operand.tmp 46), type := 69, pos := "ref.go:253", after := #[{ on := 8, ground := Go.Ground.data }, { on := 4, ground := Go.Ground.guard }], guard := some (4, false) }) rfl (by kernel_rfl) (by kernel_rfl) (by kernel_rfl) (fun _ _ _ h => h) (by rfl) hHeld ?_
            try simp only [Act.put, List.setIfInBounds_toArray, List.set_cons_zero, List.set_cons_succ]
            refine take_skipB (i := 10) (oi := { dst := some 48, op := Go.Op.move (Go.Operand.tmp 4), type := 28, pos := "ref.go:253", after := #[{ on := 4, ground := Go.Ground.guard }], guard := some (4, false) }) rfl (by kernel_rfl) (by kernel_rfl) (by kernel_rfl) (fun _ _ _ h => h) (by rfl) hHeld ?_
            try simp only [Act.put, List.setIfInBounds_toArray, List.set_cons_zero, List.set_cons_succ]
            refine take_skipB (i := 11) (oi := { dst := some 49, op := Go.Op.nilCheck (Go.Operand.tmp 48), type := 0, pos := "ref.go:253", after := #[{ on := 10, ground := Go.Ground.data }, { on := 4, ground := Go.Ground.guard }], guard := some (4, false) }) rfl (by kernel_rfl) (by kernel_rfl) (by kernel_rfl) (fun _ _ _ h => h) (by rfl) hHeld ?_
            try simp only [Act.put, List.setIfInBounds_toArray, List.set_cons_zero, List.set_cons_succ]
            refine take_skipB (i := 12) (oi := { dst := some 50, op := Go.Op.fieldAddr 71 (Go.Operand.tmp 49) 0, type := 0, pos := "ref.go:253", after := #[{ on := 11, ground := Go.Ground.data }, { on := 4, ground := Go.Ground.guard }], guard := some (4, false) }) rfl (by kernel_rfl) (by kernel_rfl) (by kernel_rfl) (fun _ _ _ h => h) (by rfl) hHeld ?_
            try simp only [Act.put, List.setIfInBounds_toArray, List.set_cons_zero, List.set_cons_succ]
            refine take_skipB (i := 13) (oi := { dst := some 51, op := Go.Op.load 69 (Go.Operand.tmp 50), type := 69, pos := "ref.go:253", after := #[{ on := 12, ground := Go.Ground.data }, { on := 4, ground := Go.Ground.guard }], guard := some (4, false) }) rfl (by kernel_rfl) (by kernel_rfl) (by kernel_rfl) (fun _ _ _ h => h) (by rfl) hHeld ?_
            try simp only [Act.put, List.setIfInBounds_toArray, List.set_cons_zero, List.set_cons_succ]
            refine take_skipB (i := 14) (oi := { dst := some 52, op := Go.Op.call { callee := Go.Callee.builtin Go.Builtin.len, args := #[Go.Operand.tmp 51], argTypes := #[69] }, type := 3, pos := "ref.go:253", after := #[{ on := 13, ground := Go.Ground.data }, { on := 4, ground := Go.Ground.guard }], guard := some (4, false) }) rfl (by kernel_rfl) (by kernel_rfl) (by kernel_rfl) (fun _ _ _ h => h) (by rfl) hHeld ?_
            try simp only [Act.put, List.setIfInBounds_toArray, List.set_cons_zero, List.set_cons_succ]
            refine take_skipB (i := 15) (oi := { dst := some 53, op := Go.Op.binOp Go.BinOp.sub 3 (Go.Operand.tmp 52) (Go.Operand.const (Go.Value.int Go.IntKind.i64 1)) 3, type := 3, pos := "ref.go:253", after := #[{ on := 14, ground := Go.Ground.data }, { on := 4, ground := Go.Ground.guard }], guard := some (4, false) }) rfl (by kernel_rfl) (by kernel_rfl) (by kernel_rfl) (fun _ _ _ h => h) (by rfl) hHeld ?_
            try simp only [Act.put, List.setIfInBounds_toArray, List.set_cons_zero, List.set_cons_succ]
            refine take_skipB (i := 16) (oi := { dst := some 54, op := Go.Op.indexAddr 69 (Go.Operand.tmp 47) (Go.Operand.tmp 53), type := 0, pos := "ref.go:253", after := #[{ on := 9, ground := Go.Ground.data }, { on := 15, ground := Go.Ground.data }, { on := 4, ground := Go.Ground.guard }], guard := some (4, false) }) rfl (by kernel_rfl) (by kernel_rfl) (by kernel_rfl) (fun _ _ _ h => h) (by rfl) hHeld ?_
            try simp only [Act.put, List.setIfInBounds_toArray, List.set_cons_zero, List.set_cons_succ]
            refine take_skipB (i := 17) (oi := { dst := some 55, op := Go.Op.fieldAddr 86 (Go.Operand.tmp 54) 0, type := 0, pos := "ref.go:253", after := #[{ on := 16, ground := Go.Ground.data }, { on := 4, ground := Go.Ground.guard }], guard := some (4, false) }) rfl (by kernel_rfl) (by kernel_rfl) (by kernel_rfl) (fun _ _ _ h => h) (by rfl) hHeld ?_
            try simp only [Act.put, List.setIfInBounds_toArray, List.set_cons_zero, List.set_cons_succ]
            refine take_skipB (i := 18) (oi := { dst := some 56, op := Go.Op.load 9 (Go.Operand.tmp 55), type := 9, pos := "ref.go:253", after := #[{ on := 17, ground := Go.Ground.data }, { on := 4, ground := Go.Ground.guard }], guard := some (4, false) }) rfl (by kernel_rfl) (by kernel_rfl) (by kernel_rfl) (fun _ _ _ h => h) (by rfl) hHeld ?_
            try simp only [Act.put, List.setIfInBounds_toArray, List.set_cons_zero, List.set_cons_succ]
            refine take_skipB (i := 19) (oi := { dst := some 57, op := Go.Op.binOp Go.BinOp.gtr 9 (Go.Operand.tmp 43) (Go.Operand.tmp 56) 9, type := 4, pos := "ref.go:253", after := #[{ on := 5, ground := Go.Ground.data }, { on := 18, ground := Go.Ground.data }, { on := 4, ground := Go.Ground.guard }], guard := some (4, false) }) rfl (by kernel_rfl) (by kernel_rfl) (by kernel_rfl) (fun _ _ _ h => h) (by rfl) hHeld ?_
            try simp only [Act.put, List.setIfInBounds_toArray, List.set_cons_zero, List.set_cons_succ]
            refine take_skipB (i := 20) (oi := { dst := some 58, op := Go.Op.pick (Go.Operand.tmp 42) (Go.Operand.const (Go.Value.bool true)) (Go.Operand.tmp 57), type := 4, pos := "ref.go:253", after := #[{ on := 4, ground := Go.Ground.data }, { on := 19, ground := Go.Ground.data }, { on := 1, ground := Go.Ground.guard }], guard := some (1, true) }) rfl (by kernel_rfl) (by kernel_rfl) (by kernel_rfl) (fun _ _ _ h => h) (by rfl) hHeld ?_
            try simp only [Act.put, List.setIfInBounds_toArray, List.set_cons_zero, List.set_cons_succ]
            refine take_run (i := 21) (oi := { dst := some 59, op := Go.Op.pick (Go.Operand.tmp 39) (Go.Operand.tmp 58) (Go.Operand.const (Go.Value.bool false)), type := 4, pos := "ref.go:253", after := #[{ on := 1, ground := Go.Ground.data }, { on := 20, ground := Go.Ground.data }], guard := none }) (v := ?_) rfl (by kernel_rfl) (by kernel_rfl) (by kernel_rfl) (fun _ _ _ h => h) (by rfl) ?_ hHeld ?_
            rotate_left
            · (intro wq hSw; go_simp <;> with_reducible rfl)
            try simp only [Act.put, List.setIfInBounds_toArray, List.set_cons_zero, List.set_cons_succ]
            refine take_run (i := 22) (oi := { dst := some 60, op := Go.Op.move (Go.Operand.tmp 59), type := 4, pos := "ref.go:253", after := #[{ on := 21, ground := Go.Ground.data }, { on := 4, ground := Go.Ground.chain }], guard := none }) (v := ?_) rfl (by kernel_rfl) (by kernel_rfl) (by kernel_rfl) (fun _ _ _ h => h) (by rfl) ?_ hHeld ?_
            rotate_left
            · (intro wq hSw; go_simp <;> with_reducible rfl)
            try simp only [Act.put, List.setIfInBounds_toArray, List.set_cons_zero, List.set_cons_succ]
            refine take_skipB (i := 23) (oi := { dst := some 61, op := Go.Op.move (Go.Operand.tmp 4), type := 28, pos := "ref.go:253", after := #[{ on := 22, ground := Go.Ground.guard }], guard := some (22, true) }) rfl (by kernel_rfl) (by kernel_rfl) (by kernel_rfl) (fun _ _ _ h => h) (by rfl) hHeld ?_
            try simp only [Act.put, List.setIfInBounds_toArray, List.set_cons_zero, List.set_cons_succ]
            refine take_skipB (i := 24) (oi := { dst := some 62, op := Go.Op.move (Go.Operand.tmp 8), type := 9, pos := "ref.go:253", after := #[{ on := 22, ground := Go.Ground.guard }], guard := some (22, true) }) rfl (by kernel_rfl) (by kernel_rfl) (by kernel_rfl) (fun _ _ _ h => h) (by rfl) hHeld ?_
            try simp only [Act.put, List.setIfInBounds_toArray, List.set_cons_zero, List.set_cons_succ]
            refine take_skipB (i := 25) (oi := { dst := some 63, op := Go.Op.move (Go.Operand.tmp 9), type := 2, pos := "ref.go:253", after := #[{ on := 22, ground := Go.Ground.guard }], guard := some (22, true) }) rfl (by kernel_rfl) (by kernel_rfl) (by kernel_rfl) (fun _ _ _ h => h) (by rfl) hHeld ?_
            try simp only [Act.put, List.setIfInBounds_toArray, List.set_cons_zero, List.set_cons_succ]
            refine take_skipB (i := 26) (oi := { dst := some 64, op := Go.Op.build 59 #[(0, Go.Operand.tmp 62), (1, Go.Operand.tmp 63)], type := 59, pos := "ref.go:253", after := #[{ on := 24, ground := Go.Ground.data }, { on := 25, ground := Go.Ground.data }, { on := 22, ground := Go.Ground.guard }], guard := some (22, true) }) rfl (by kernel_rfl) (by kernel_rfl) (by kernel_rfl) (fun _ _ _ h => h) (by rfl) hHeld ?_
            try simp only [Act.put, List.setIfInBounds_toArray, List.set_cons_zero, List.set_cons_succ]
            refine take_skipB (i := 27) (oi := { dst := some 65, op := Go.Op.call { callee := Go.Callee.value (Go.Operand.func 52), args := #[Go.Operand.tmp 61, Go.Operand.tmp 64], argTypes := #[28, 59] }, type := 25, pos := "ref.go:253", after := #[{ on := 23, ground := Go.Ground.data }, { on := 26, ground := Go.Ground.data }, { on := 22, ground := Go.Ground.chain }, { on := 22, ground := Go.Ground.guard }], guard := some (22, true) }) rfl (by kernel_rfl) (by kernel_rfl) (by kernel_rfl) (fun _ _ _ h => h) (by rfl) hHeld ?_
            try simp only [Act.put, List.setIfInBounds_toArray, List.set_cons_zero, List.set_cons_succ]
            refine take_skipB (i := 28) (oi := { dst := some 66, op := Go.Op.binOp Go.BinOp.eql 25 (Go.Operand.tmp 65) (Go.Operand.const (Go.Value.int Go.IntKind.i64 0)) 25, type := 4, pos := "ref.go:253", after := #[{ on := 27, ground := Go.Ground.data }, { on := 22, ground := Go.Ground.guard }], guard := some (22, true) }) rfl (by kernel_rfl) (by kernel_rfl) (by kernel_rfl) (fun _ _ _ h => h) (by rfl) hHeld ?_
            try simp only [Act.put, List.setIfInBounds_toArray, List.set_cons_zero, List.set_cons_succ]
            refine take_run (i := 29) (oi := { dst := some 67, op := Go.Op.pick (Go.Operand.tmp 60) (Go.Operand.tmp 66) (Go.Operand.const (Go.Value.bool false)), type := 4, pos := "ref.go:253", after := #[{ on := 22, ground := Go.Ground.data }, { on := 28, ground := Go.Ground.data }], guard := none }) (v := ?_) rfl (by kernel_rfl) (by kernel_rfl) (by kernel_rfl) (fun _ _ _ h => h) (by rfl) ?_ hHeld ?_
            rotate_left
            · (intro wq hSw; go_simp <;> with_reducible rfl)
            try simp only [Act.put, List.setIfInBounds_toArray, List.set_cons_zero, List.set_cons_succ]
            refine take_run (i := 30) (oi := { dst := some 6, op := Go.Op.assign (Go.Operand.tmp 67), type := 4, pos := "ref.go:253", after := #[{ on := 29, ground := Go.Ground.data }, { on := 27, ground := Go.Ground.chain }, { on := 0, ground := Go.Ground.phase }, { on := 1, ground := Go.Ground.phase }, { on := 2, ground := Go.Ground.phase }, { on := 3, ground := Go.Ground.phase }, { on := 4, ground := Go.Ground.phase }, { on := 5, ground := Go.Ground.phase }, { on := 6, ground := Go.Ground.phase }, { on := 7, ground := Go.Ground.phase }, { on := 8, ground := Go.Ground.phase }, { on := 9, ground := Go.Ground.phase }, { on := 10, ground := Go.Ground.phase }, { on := 11, ground := Go.Ground.phase }, { on := 12, ground := Go.Ground.phase }, { on := 13, ground := Go.Ground.phase }, { on := 14, ground := Go.Ground.phase }, { on := 15, ground := Go.Ground.phase }, { on := 16, ground := Go.Ground.phase }, { on := 17, ground := Go.Ground.phase }, { on := 18, ground := Go.Ground.phase }, { on := 19, ground := Go.Ground.phase }, { on := 20, ground := Go.Ground.phase }, { on := 21, ground := Go.Ground.phase }, { on := 22, ground := Go.Ground.phase }, { on := 23, ground := Go.Ground.phase }, { on := 24, ground := Go.Ground.phase }, { on := 25, ground := Go.Ground.phase }, { on := 26, ground := Go.Ground.phase }, { on := 27, ground := Go.Ground.phase }, { on := 28, ground := Go.Ground.phase }, { on := 29, ground := Go.Ground.phase }], guard := none }) (v := ?_) rfl (by kernel_rfl) (by kernel_rfl) (by kernel_rfl) (fun _ _ _ h => h) (by rfl) ?_ hHeld ?_
            rotate_left
            · (intro wq hSw; go_simp <;> with_reducible rfl)
            try simp only [Act.put, List.setIfInBounds_toArray, List.set_cons_zero, List.set_cons_succ]
            refine wpAnyH_done (by kernel_rfl) ?_ _
            show onwardQ _ .normal _ _
            unfold onwardQ
            have Lz : Hid (QL w0 wz R A0 B N l fa 0) := L5.out.low (bz.mono (Nat.le_of_lt L5.out.hN))
            have Xz : Hid (QX wz N k) := by obtain ⟨s0, X0, q1, q2, q3⟩ := HX5.out; exact ⟨s0, X0, (bz.block _ (Array.getElem?_eq_some_iff.1 q1).1).trans q1, owns_kept q2 (fun g e => bz.block g (row_kind q2 e).2.1), q3⟩
            clear bz hwz hHeld HX5 L5 e1 e2
            obtain ⟨xa, m, xc, hN0, a', c', w6, hr, hN6, hx6, b6⟩ := Xz.out.more (by have := HLT.out; have := NN.out; omega) nm
            have c0 : wz.cell? ⟨N, 0, none⟩ = some (.slice xa m xc) := by simp [World.cell?, hN0]
            have c6 : w6.cell? ⟨N, 0, none⟩ = some (.slice xa m xc) := by simp [World.cell?, hN6]
            have f6 : w6.frozen? ⟨N, 0, none⟩ = false := by simp [World.frozen?, hN6]
            have HR : Hid _ := hr
            have L6 : Hid (QL w0 (w6.setCell ⟨N, 0, none⟩ (.slice a' (m + 1) c')) R A0 B N l (ak l a y (k + 1)).2.1 (ak l a y (k + 1)).2.2) := by show QL _ _ _ _ _ _ _ _ _; rw [HK.out]; exact Lz.out.low b6
            have QB6 : Hid (QB (w6.setCell ⟨N, 0, none⟩ (.slice a' (m + 1) c')) N (ak l a y (k + 1)).1 false (k + 1)) := by show QB _ _ _ _ _; rw [HK.out]; exact .inr ⟨rfl, HNF.out, hx6⟩
            clear hN0 hr hN6 hx6 b6 Xz Lz
            go_wp2_with (at_builtin; refine wpList_append_known rfl (.tmp 74) (.tmp 77) 69 69 rfl _ _ rfl rfl _ _ HR.out ?_)
            go_roundw
            case rel => exact ⟨k + 1, false, by have := HLT.out; omega, rfl, by go_num, L6, QB6⟩
            case measure => simp only [intOf]; have := HLT.out; omega
        · have hzi : ((((r3.2.2 : Nat) : Int)) != 0) = true := by simp [hz]
          have hst := ak_stuck l a y (k + 1) HA.out (by rw [HK.out]; exact hz) (n - (k + 1))
          rw [show k + 1 + (n - (k + 1)) = n by have := HLT.out; omega, HK.out] at hst
          have HST : Hid ((ak l a y n).2 = (r3.2.1, r3.2.2)) := hst
          have HZ : Hid (r3.2.2 ≠ 0) := hz
          clear hst hz
          go_wp2
          go_ret2
          exact ⟨N, okb, rfl, by rw [HST.out]; exact L5.out, fun q => absurd q (by rw [HST.out]; exact HZ.out)⟩
      · have hyi : ((((ak l a y k).2.2 : Nat) : Int) == 0) = false := by rw [beq_eq_false_iff_ne]; omega
        have hst := ak_stuck l a y k HA.out hy (n - k)
        rw [show k + (n - k) = n by omega] at hst
        have HST : Hid ((ak l a y n).2 = (ak l a y k).2) := hst
        have HZ : Hid ((ak l a y k).2.2 ≠ 0) := hy
        clear hst hy
        go_wp2
        go_ret2
        exact ⟨N, okb, rfl, by rw [HST.out]; exact hL.out, fun q => absurd q (by rw [HST.out]; exact HZ.out)⟩
    · obtain rfl : k = n := by omega
      clear hlt
      go_wp2
      go_ret2
      exact ⟨N, okb, rfl, hL.out, fun _ => hQ.out⟩
end Go.Proofs.YtdchnfggmkokhaaDoor
