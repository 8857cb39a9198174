/- Package auditor: slices.Grow and slices.Concat of rows; Merge. -/
import Derived.Test.YtckldjiabalgbaaASort
import Derived.Lib.AppendZerosOnto
import Derived.Deep.LoopGhost
namespace Go.Proofs.Ytckldjiabalgbaa
open Go.RowKit Go.Sort
attribute [local go_sem] Oper.semAt_some
set_option linter.unusedVariables false

/-- append(own, rows...) -/
theorem run_append_rowsG (w : World) (base : Nat) (v : Value) (n : Nat) (A0 : List RowV) (hown : w.ownsRow base 28 2 v n (rowCellsX A0)) (aa : Option Addr) (la ca : Nat) (A : List RowV) (hA : RowsX w aa la A) (hnil : aa = none → ca = 0) (hb : (n + la) * 24 ≤ 140737488355328) (hbase : base ≤ w.heap.size) :
    ∃ v' w', (Builtin.append_ #[22, 22] 22 #[v, .slice aa la ca]).run Try.prog w = .ok v' w' ∧ w'.ownsRow base 28 2 v' (n + la) (rowCellsX (A0 ++ A)) ∧ w.grownBy w' v.ownBlock := by
  obtain ⟨i0, hi, hz0, hz1, hz2⟩ := info_parts infoRowX
  have e : rowCellsX (A0 ++ A) = rowCellsX A0 ++ rowCellsX A := by simp [rowCellsX]
  cases aa with
  | none =>
    have hla : la = 0 := by
      rcases hA.2.2 with h3 | ⟨b, off, h, _⟩
      · exact h3
      · cases h
    subst hla
    have hAn : A = [] := List.eq_nil_of_length_eq_zero hA.1.symm
    subst hAn
    rw [hnil rfl]
    have hr := run_append_owned_none (P := Try.prog) (w := w) base 22 22 28 i0 2 Try.underlying22 hi _ n _ hown
    exact ⟨_, w, hr, by simpa using hown, ⟨rfl, rfl, rfl, Nat.le_refl _, fun _ _ _ => rfl⟩⟩
  | some x =>
    obtain ⟨v', w', hr, h1, h2, _⟩ := run_append_own (P := Try.prog) w base 22 22 28 i0 _ 2 24 Try.underlying22 hi hz0 hz1 hz2 rfl (by omega) v n _ hown x la ca (rowCellsX A) (by rw [rowCellsX_length, hA.1]) (rows_newsX hA x rfl) (rowCellsX_one A) (by unfold maxLen; omega) hb hbase
    exact ⟨v', w', hr, by rw [e]; exact h1, h2⟩
theorem run_growX (w : World) (k : Nat) (h0 : 0 < k) (hk : k * 24 ≤ 140737488355328) : ∃ c, (Builtin.append_ #[22, 3] 22 #[.slice none 0 0, .int .i64 (k : Int)]).run Try.prog w = .ok (.slice (some ⟨w.heap.size, 0, none⟩) k c) (w.drew.alloc (.cells (Builtin.zeroCells (Value.agg #[.string ⟨#[]⟩, .int .i64 0]).cells k ++ Builtin.zeroCells (Value.agg #[.string ⟨#[]⟩, .int .i64 0]).cells (c - k)) 28)) ∧ k ≤ c ∧ c ≤ maxLen := by
  obtain ⟨i0, hi, hz0, hz1, hz2⟩ := info_parts infoRowX
  have hold : (Builtin.firstCells i0.size 0 (.slice none 0 0)).run Try.prog w.drew = .ok ([] : List Value).toArray w.drew := by simp [Builtin.firstCells]
  have hr := Lib.run_append_grow_zeros (P := Try.prog) w 22 3 22 28 i0 _ .i64 .i64 Try.underlying22 Try.underlying3 hi hz0 none 0 0 [] hold k (by omega) (by omega) (by omega) (by omega) (by rw [hz2]; omega) (growslice_fits (by omega) (by rw [hz2]; omega))
  simp only [Nat.zero_add] at hr
  exact ⟨_, by simpa using hr, grownCap_ge _ _ _ _, grownCap_le_maxLen _ _ _ _ (by unfold maxLen; omega)⟩
set_option maxRecDepth 100000 in
theorem growX_any (k : Nat) (hk : k * 24 ≤ 140737488355328) (w : World) : Calls Try.prog 24 #[.slice none 0 0, .int .i64 k] w fun e w' => ∃ v, e = .returned v ∧ w'.ownsRow w.heap.size 28 2 v 0 (rowCellsX []) ∧ Below w.heap.size w w' := by
  by_cases h0 : 0 < k
  · obtain ⟨c, hr, h1, h2⟩ := run_growX w k h0 hk
    have hk1 : (0 : Int) < (k : Int) := by omega
    have hk2 : ¬ (k : Int) < 0 := by omega
    have hk3 : (k : Int) < 4611686018427387904 := by omega
    have bA : Below w.heap.size w (w.drew.alloc (.cells (Builtin.zeroCells (Value.agg #[.string ⟨#[]⟩, .int .i64 0]).cells k ++ Builtin.zeroCells (Value.agg #[.string ⟨#[]⟩, .int .i64 0]).cells (c - k)) 28)) := ((Below.refl _ w).drew).alloc (Nat.le_refl _) _
    have ow : (w.drew.alloc (.cells (Builtin.zeroCells (Value.agg #[.string ⟨#[]⟩, .int .i64 0]).cells k ++ Builtin.zeroCells (Value.agg #[.string ⟨#[]⟩, .int .i64 0]).cells (c - k)) 28)).ownsRow w.heap.size 28 2 (.slice (some ⟨w.heap.size, 0, none⟩) 0 c) 0 (rowCellsX []) := by
      refine ⟨rfl, .inr ⟨w.heap.size, c, _, rfl, Nat.le_refl _, heap_alloc_new w.drew _, Nat.zero_le _, h2, ?_, by simp [rowCellsX]⟩⟩
      rw [Array.size_append, size_zeroCells, size_zeroCells, show (Value.agg #[.string ⟨#[]⟩, .int .i64 0]).cells.size = 2 from rfl, ← Nat.add_mul]
      congr 1
      omega
    generalize w.drew.alloc (.cells (Builtin.zeroCells (Value.agg #[.string ⟨#[]⟩, .int .i64 0]).cells k ++ Builtin.zeroCells (Value.agg #[.string ⟨#[]⟩, .int .i64 0]).cells (c - k)) 28) = W at hr bA ow
    have HR : Hid _ := hr
    have HB : Hid (Below w.heap.size w W) := bA
    have HO : Hid (W.ownsRow w.heap.size 28 2 (.slice (some ⟨w.heap.size, 0, none⟩) 0 c) 0 (rowCellsX [])) := ow
    have hkc : (k : Int) ≤ (c : Int) := by omega
    have hc0 : (0 : Int) ≤ (c : Int) := by omega
    clear hr bA ow h1 h2
    go_enter Try.func24, Try.ntmps24
    go_wp2_with (refine wpList_append_known rfl (.tmp 20) (.tmp 21) 22 3 rfl _ _ rfl rfl _ _ HR.out ?_)
    go_ret
    exact ⟨_, rfl, HO.out, HB.out⟩
  · obtain rfl : k = 0 := by omega
    have e0 : ((0 : Nat) : Int) = 0 := rfl
    rw [e0]
    go_enter Try.func24, Try.ntmps24
    go_wp2
    go_ret
    exact ⟨_, rfl, World.ownsRow_nil _ _ _ _, Below.refl _ _⟩
/-- Lists of rows that lie in a row of lists. -/
def ListsX (w : World) (a : Option Addr) (n : Nat) (L : List (List RowV)) : Prop :=
  n = L.length ∧ (n = 0 ∨ ∃ b off, a = some ⟨b, off, none⟩ ∧ ∀ j (hj : j < L.length), ∃ qa qc, w.cell? ⟨b, off + j, none⟩ = some (.slice qa L[j].length qc) ∧ RowsX w qa L[j].length L[j] ∧ (qa = none → qc = 0))
theorem ListsX.below {w w' : World} {a : Option Addr} {n : Nat} {L : List (List RowV)} (h : ListsX w a n L) (hb : Below w.heap.size w w') : ListsX w' a n L := by
  refine ⟨h.1, h.2.imp id ?_⟩
  rintro ⟨b, off, e, hc⟩
  refine ⟨b, off, e, fun j hj => ?_⟩
  obtain ⟨qa, qc, c1, c2, c3⟩ := hc j hj
  exact ⟨qa, qc, (hb.cell (p := ⟨b, off + j, none⟩) (World.block_lt_of_cell? w _ c1)).trans c1, c2.below hb, c3⟩
def totL (L : List (List RowV)) : Nat := L.flatten.length
theorem totL_take (L : List (List RowV)) (i : Nat) (hi : i < L.length) : totL (L.take (i + 1)) = totL (L.take i) + L[i].length := by
  unfold totL
  rw [List.take_succ_eq_append_getElem hi, List.flatten_append, List.length_append]
  congr 1
  simp
theorem flat_take (L : List (List RowV)) (i : Nat) (hi : i < L.length) : (L.take i).flatten ++ L[i] = (L.take (i + 1)).flatten := by
  rw [List.take_succ_eq_append_getElem hi, List.flatten_append]
  congr 1
  rw [List.flatten_cons, List.flatten_nil, List.append_nil]
theorem totL_le (L : List (List RowV)) (i : Nat) : totL (L.take i) ≤ totL L := by
  unfold totL
  conv => rhs; rw [← List.take_append_drop i L, List.flatten_append, List.length_append]
  omega
set_option maxRecDepth 100000 in
set_option maxHeartbeats 4000000 in
theorem concatX_any {w : World} {a : Option Addr} {n c : Nat} {L : List (List RowV)} (h : ListsX w a n L) (hz : totL L * 24 ≤ 140737488355328) (hn : n ≤ 140737488355328) :
    Calls Try.prog 14 #[.slice a n c] w fun e w' => ∃ v, e = .returned v ∧ w'.ownsRow w.heap.size 28 2 v (totL L) (rowCellsX L.flatten) ∧ Below w.heap.size w w' := by
  have HL : Hid (ListsX w a n L) := h
  have HN : Hid (n = L.length) := h.1
  have HZ : Hid (totL L * 24 ≤ 140737488355328) := hz
  clear h hz
  go_enter Try.func14, Try.ntmps14
  go_wp2
  go_loopg [3, 11] n (fun kx s3 s11 wr => w = wr ∧ ∃ i : Nat, i ≤ n ∧ n - i ≤ kx ∧ s11 = .int .i64 i ∧ s3 = .int .i64 (totL (L.take i) : Nat))
  case atStart => exact ⟨rfl, 0, Nat.zero_le _, Nat.le_refl _, rfl, rfl⟩
  case round =>
    obtain ⟨rfl, i, hin, hkx, rfl, rfl⟩ := hrel
    by_cases hlt : i < n
    · have hltz : (i : Int) < (n : Int) := by omega
      rcases HL.out.2 with h0 | ⟨b, off, rfl, hc⟩
      · omega
      have hiL : i < L.length := by have := HN.out; omega
      obtain ⟨qa, qc, c1, c2, c3⟩ := hc i hiL
      have e1 := totL_take L i hiL
      have e2 := totL_le L (i + 1)
      have e3 := HZ.out
      obtain ⟨t0, et0⟩ : ∃ t, t = totL (L.take i) := ⟨_, rfl⟩
      obtain ⟨ln, eln⟩ : ∃ t, t = L[i].length := ⟨_, rfl⟩
      rw [← et0]
      rw [← eln] at c1
      have hb1 : (t0 : Int) + (ln : Int) < 4611686018427387904 := by omega
      have hb2 : (0 : Int) ≤ (t0 : Int) + (ln : Int) := by omega
      have hb3 : ¬ (t0 : Int) + (ln : Int) < 0 := by omega
      have ET : Hid (totL (L.take (i + 1)) = t0 + ln) := (show _ = _ by omega)
      clear e1 e2 e3 et0 eln c2 c3 hc
      go_wp2
      go_roundg (n - (i + 1))
      case measure => omega
      case rel => exact ⟨rfl, i + 1, hlt, Nat.le_refl _, by go_num, by rw [ET.out]; go_num⟩
    · obtain rfl : i = n := by omega
      have hltz : ¬ (i : Int) < (i : Int) := by omega
      have et : totL (L.take i) = totL L := by rw [HN.out, List.take_length]
      rw [et]
      have hg := growX_any (totL L) HZ.out w
      clear et hkx
      go_wp2_with (go_at_call 24; refine hg.mono ?_; rintro e w1 ⟨v1, rfl, ow1, b1⟩)
      have HO : Hid (w1.ownsRow w.heap.size 28 2 v1 0 (rowCellsX [])) := ow1
      have HB : Hid (Below w.heap.size w w1) := b1
      clear ow1 b1 hg
      go_loopg [6, 27] i (fun kx s6 s27 wr => ∃ j : Nat, j ≤ i ∧ i - j ≤ kx ∧ s27 = .int .i64 j ∧ Hid (wr.ownsRow w.heap.size 28 2 s6 (totL (L.take j)) (rowCellsX (L.take j).flatten)) ∧ Hid (Below w.heap.size w wr))
      case atStart => exact ⟨0, Nat.zero_le _, Nat.le_refl _, rfl, HO.out, HB.out⟩
      case round =>
        clear HO HB
        obtain ⟨j, hji, hkx, rfl, HO, HB⟩ := hrel
        by_cases hlt : j < i
        · have hltz : (j : Int) < (i : Int) := by omega
          have hiL : j < L.length := by have := HN.out; omega
          rcases (HL.out.below HB.out).2 with h0 | ⟨b, off, rfl, hc⟩
          · omega
          obtain ⟨qa, qc, c1, c2, c3⟩ := hc j hiL
          have e1 := totL_take L j hiL
          have e2 := totL_le L (j + 1)
          have e3 := HZ.out
          obtain ⟨v2, w2, hr, o2, g2⟩ := run_append_rowsG wr w.heap.size u6 (totL (L.take j)) (L.take j).flatten HO.out qa _ qc L[j] c2 c3 (by omega) HB.out.size
          have b2 : Below w.heap.size w w2 := HB.out.grown g2 HB.out.size (fun k e => (row_kind HO.out e).1)
          rw [← e1, flat_take L j hiL] at o2
          have HO2 : Hid (w2.ownsRow w.heap.size 28 2 v2 (totL (L.take (j + 1))) (rowCellsX (L.take (j + 1)).flatten)) := o2
          have HB2 : Hid (Below w.heap.size w w2) := b2
          generalize L[j].length = ln at c1 hr
          have HR : Hid _ := hr
          clear e1 e2 e3 o2 g2 b2 hr c2 c3 hc HO HB
          go_wp2_with (refine wpList_append_known rfl (.tmp 31) (.tmp 32) 22 22 rfl _ _ rfl rfl _ _ HR.out ?_)
          go_roundg (i - (j + 1))
          case measure => omega
          case rel => exact ⟨j + 1, hlt, Nat.le_refl _, by go_num, HO2, HB2⟩
        · obtain rfl : j = i := by omega
          have hltz : ¬ (j : Int) < (j : Int) := by omega
          have HO2 : Hid (wr.ownsRow w.heap.size 28 2 u6 (totL L) (rowCellsX L.flatten)) := by
            have := HO.out
            rw [HN.out, List.take_length] at this
            exact this
          clear HO hkx
          go_wp2
          go_ret
          exact ⟨_, rfl, HO2.out, HB.out⟩
theorem stable_none (a : Option Addr) (c : Nat) (fv : Value) (w : World) : Calls Try.prog 25 #[.slice a 0 c, .int .i64 0, fv] w fun e w' => e = .returned (.tuple #[]) ∧ w' = w := by
  have hi : Calls Try.prog 31 #[.slice a 0 c, .int .i64 0, .int .i64 0, fv] w fun e w' => e = .returned (.tuple #[]) ∧ w' = w := by
    go_enter Try.func31, Try.ntmps31
    go_wp2
    refine wp_loop_rounds 1 ?_
    rw [rounds_succ]
    go_wp2
    go_end0
    exact ⟨rfl, rfl⟩
  go_enter Try.func25, Try.ntmps25
  go_wp2
  refine wp_loop_rounds 1 ?_
  rw [rounds_succ]
  go_wp2_with (go_at_call 31; refine hi.mono ?_; rintro e w' ⟨rfl, rfl⟩)
  refine wp_loop_rounds 1 ?_
  rw [rounds_succ]
  go_wp2
  go_end0
  exact ⟨rfl, rfl⟩
set_option maxRecDepth 100000 in
theorem sortNone_any (a : Option Addr) (c : Nat) (fv : Value) (w : World) : Calls Try.prog 15 #[.slice a 0 c, fv] w fun e w' => e = .returned (.tuple #[]) ∧ w' = w := by
  have hc := stable_none a c fv w
  go_enter Try.func15, Try.ntmps15
  go_wp2_with (go_at_call 25; refine hc.mono ?_; rintro e w1 ⟨rfl, rfl⟩)
  go_end0
  exact ⟨rfl, rfl⟩
theorem sortRow_any {w : World} {base : Nat} {v : Value} {l : List RowV} (h : w.ownsRow base 28 2 v l.length (rowCellsX l)) (hz : l.length < 1152921504606846976) :
    Calls Try.prog 15 #[v, .func (.func 16) #[] #[]] w fun e w' => e = .returned (.tuple #[]) ∧ w'.ownsRow base 28 2 v l.length (rowCellsX (srt (ltOf cfR) l)) ∧ Below base w w' := by
  by_cases hne : l = []
  · subst hne
    obtain ⟨a, c, rfl, _⟩ := row_form h
    exact (sortNone_any a c _ w).mono fun _ _ ⟨e1, e2⟩ => ⟨e1, by rw [e2]; exact h, by rw [e2]; exact Below.refl _ _⟩
  · exact sortStableX_any h hne hz
/-- Merge: the rows of all lists in the order of their names. -/
def mergeL (L : List (List RowV)) : List RowV := srt (ltOf cfR) L.flatten
set_option maxRecDepth 100000 in
theorem mergeX_any {w : World} {a : Option Addr} {n c : Nat} {L : List (List RowV)} (h : ListsX w a n L) (hz : totL L * 24 ≤ 140737488355328) (hn : n ≤ 140737488355328) :
    Calls Try.prog 5 #[.slice a n c] w fun e w' => ∃ v, e = .returned v ∧ w'.ownsRow w.heap.size 28 2 v (totL L) (rowCellsX (mergeL L)) ∧ Below w.heap.size w w' := by
  have hc := concatX_any (c := c) h hz hn
  have HZ : Hid (totL L * 24 ≤ 140737488355328) := hz
  clear h hz
  go_enter Try.func5, Try.ntmps5
  go_wp2_with (go_at_call 14; refine hc.mono ?_; rintro e w1 ⟨v, rfl, o1, b1⟩)
  have HB : Hid (Below w.heap.size w w1) := b1
  have hs := sortRow_any (l := L.flatten) o1 (by have := HZ.out; unfold totL at this; omega)
  clear o1 b1 hc
  go_wp2_with (go_at_call 15; refine hs.mono ?_; rintro e w2 ⟨rfl, o2, b2⟩)
  go_ret
  exact ⟨_, rfl, o2, HB.out.trans b2⟩
end Go.Proofs.Ytckldjiabalgbaa
