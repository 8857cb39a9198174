/- Package book: Drop. -/
import Derived.Test.YtdchnfggmkokhaaDoorGE
import Derived.Test.YtdchnfggmkokhaaDoorBSame
namespace Go.Proofs.YtdchnfggmkokhaaDoor
open Go.RowKit Cod
attribute [local go_sem] Oper.semAt_some
set_option linter.unusedVariables false

/-- An account goes with a slot. -/
def goes (slot : Int) (p : Acc) : Bool := decide (slotOf p.nm = slot)
/-- Where the first that goes stands. -/
def firstGo (slot : Int) : List Acc → Nat
  | [] => 0
  | p :: L => if goes slot p = true then 0 else firstGo slot L + 1
theorem firstGo_le (slot : Int) : ∀ L : List Acc, firstGo slot L ≤ L.length
  | [] => Nat.le_refl _
  | p :: L => by
    unfold firstGo
    split
    · simp
    · have := firstGo_le slot L
      simp; omega
theorem firstGo_take (slot : Int) : ∀ (L : List Acc) (k : Nat), k ≤ firstGo slot L → (L.take k).filter (fun p => !goes slot p) = L.take k
  | [], k, _ => by simp
  | p :: L, 0, _ => by simp
  | p :: L, k + 1, h => by
    unfold firstGo at h
    split at h
    · omega
    · rename_i hp
      have := firstGo_take slot L k (by omega)
      simp [hp, this]
theorem firstGo_at (slot : Int) : ∀ (L : List Acc) (h : firstGo slot L < L.length), goes slot L[firstGo slot L] = true
  | p :: L, h => by
    by_cases hp : goes slot p = true
    · have e : firstGo slot (p :: L) = 0 := by unfold firstGo; rw [if_pos hp]
      simp only [e]
      exact hp
    · have e : firstGo slot (p :: L) = firstGo slot L + 1 := by conv => lhs; unfold firstGo; rw [if_neg hp]
      simp only [e]
      have h' : firstGo slot L < L.length := by rw [e] at h; simpa using h
      exact firstGo_at slot L h'
theorem firstGo_lt (slot : Int) (L : List Acc) (k : Nat) (hk : k < firstGo slot L) (h : k < L.length) : goes slot L[k] = false := by
  have h1 := firstGo_take slot L (k + 1) hk
  have hm : L[k] ∈ L.take (k + 1) := by
    rw [List.take_succ_eq_append_getElem h]
    exact List.mem_append_right _ (List.mem_singleton.2 rfl)
  rw [← h1, List.mem_filter] at hm
  simpa using hm.2
section
variable {w : World} {base : Nat} {sv : Value} {L : List Acc}
/-- Those that stay. -/
def stay (slot : Int) (L : List Acc) : List Acc := L.filter (fun p => !goes slot p)
theorem stay_snoc (slot : Int) (L : List Acc) (p : Acc) : stay slot (L ++ [p]) = if goes slot p = true then stay slot L else stay slot L ++ [p] := by
  unfold stay
  rw [List.filter_append]
  by_cases h : goes slot p = true
  · rw [if_pos h]; simp [h]
  · rw [if_neg h]; simp [h]
theorem row_set {g n c i : Nat} {M : List Acc} (h : w.ownsRow base 61 3 (.slice (some ⟨g, 0, none⟩) n c) n (cells3 M)) (hn : n = M.length) (hi : i < n) (q : Acc) :
    (((w.setCell ⟨g, i * 3, none⟩ (.string q.nm)).setCell ⟨g, i * 3 + 1, none⟩ (.int .i64 q.amt)).setCell ⟨g, i * 3 + 2, none⟩ (.string q.by_)).ownsRow base 61 3 (.slice (some ⟨g, 0, none⟩) n c) n (cells3 (M.set i q)) ∧
      w.grownBy (((w.setCell ⟨g, i * 3, none⟩ (.string q.nm)).setCell ⟨g, i * 3 + 1, none⟩ (.int .i64 q.amt)).setCell ⟨g, i * 3 + 2, none⟩ (.string q.by_)) (some g) := by
  rcases h.2 with ⟨e1, _⟩ | ⟨g', c', cur, e1, hb, hg, hnc, hcm, hcs, htake⟩
  · simp at e1
  · simp only [Value.slice.injEq, Option.some.injEq, Addr.mk.injEq, and_true, true_and] at e1
    obtain ⟨rfl, rfl⟩ := e1
    rw [setCell_eq_setRow w g _ cur _ _ _ hg]
    have hg1 := setRow_heap w g cur (cur.setIfInBounds (i * 3) (.string q.nm)) _ _ hg
    rw [setCell_eq_setRow _ g _ _ _ _ _ hg1, setRow_setRow]
    have hg2 := setRow_heap w g cur ((cur.setIfInBounds (i * 3) (.string q.nm)).setIfInBounds (i * 3 + 1) (.int .i64 q.amt)) _ _ hg
    rw [setCell_eq_setRow _ g _ _ _ _ _ hg2, setRow_setRow]
    refine ⟨⟨?_, .inr ⟨g, c, _, rfl, hb, setRow_heap w g cur _ _ _ hg, hnc, hcm, ?_, ?_⟩⟩, ⟨rfl, rfl, rfl, by simp, fun k hk hne => setRow_other _ _ _ _ (fun e => hne (by rw [e]))⟩⟩
    · rw [cells3_length, List.length_set]; omega
    · simp only [Array.size_setIfInBounds]; exact hcs
    · rw [cells3_set M i q (by omega), ← htake]
      simp only [Array.toList_setIfInBounds, List.take_set]
/-- The rest is cleared. -/
theorem run_clear_rest {g n c i : Nat} {M : List Acc} (h : w.ownsRow base 61 3 (.slice (some ⟨g, 0, none⟩) n c) n (cells3 M)) (hn : n = M.length) (hi : i < n) (ty : TypeId) (cc : Nat) :
    ∃ w', (Builtin.clear_ #[54] ty #[.slice (some ⟨g, i * 3, none⟩) (n - i) cc]).run Tryd.prog w = .ok (.tuple #[]) w' ∧ w'.ownsRow base 61 3 (.slice (some ⟨g, 0, none⟩) i c) i (cells3 (M.take i)) ∧ w.grownBy w' (some g) := by
  rcases h.2 with ⟨e1, _⟩ | ⟨g', c', cur, e1, hb, hg, hnc, hcm, hcs, htake⟩
  · simp at e1
  · simp only [Value.slice.injEq, Option.some.injEq, Addr.mk.injEq, and_true, true_and] at e1
    obtain ⟨rfl, rfl⟩ := e1
    obtain ⟨zs, ez⟩ : ∃ zs, (Builtin.zeroCells #[.string ⟨#[]⟩, .int .i64 0, .string ⟨#[]⟩] (n - i)).toList = zs := ⟨_, rfl⟩
    have hzl : zs.length = (n - i) * 3 := by rw [← ez]; simp [Builtin.zeroCells]
    have hz1 : ∀ u ∈ zs, u.oneCell' = true := fun u hu => by
      rw [← ez, Array.mem_toList_iff] at hu
      obtain ⟨q, hq, e⟩ := Array.mem_iff_getElem.1 hu
      simp [Builtin.zeroCells] at e
      have h3 : q % 3 < 3 := Nat.mod_lt _ (by omega)
      rcases (show q % 3 = 0 ∨ q % 3 = 1 ∨ q % 3 = 2 by omega) with x | x | x <;> (rw [← e]; simp [x]; try rfl)
    have hst := run_storeCells_at Tryd.prog g (i * 3) 61 zs 0 cur w hg (by rw [hzl, hcs]; omega) hz1
    simp only [Nat.add_zero] at hst
    have hv : ∀ W, (zeroValue 61).run Tryd.prog W = .ok (.agg #[.string ⟨#[]⟩, .int .i64 0, .string ⟨#[]⟩]) W := fun W => by kernel_rfl
    obtain ⟨k, ek⟩ : ∃ k, n - i = k + 1 := ⟨n - i - 1, by omega⟩
    rw [ek] at ez ⊢
    refine ⟨_, by simp [Builtin.clear_, run_underlying Tryd.underlying54, hv, Value.cells, ez, hst]; rfl, ⟨?_, .inr ⟨g, c, _, rfl, hb, setRow_heap _ _ _ _ _ _ hg, by omega, hcm, ?_, ?_⟩⟩, ⟨rfl, rfl, rfl, by simp, fun k hk hne => setRow_other _ _ _ _ (fun e => hne (by rw [e]))⟩⟩
    · rw [cells3_length, List.length_take]; omega
    · simp only [List.size_toArray, List.length_append, List.length_take, hzl, List.length_drop, Array.length_toList]
      omega
    · rw [cells3_take, ← htake, List.take_take, Nat.min_eq_left (by omega)]
      dsimp only
      try rw [List.append_assoc]
      exact List.take_left' (by rw [List.length_take, Array.length_toList]; omega)
/-- What lies in memory while the row is gone through. -/
structure DelI (w : World) (base g n c : Nat) (slot : Int) (L : List Acc) (i j : Nat) (W : World) (M : List Acc) : Prop where
  row : W.ownsRow base 61 3 (.slice (some ⟨g, 0, none⟩) n c) n (cells3 M)
  len : M.length = n
  tk : M.take i = stay slot (L.take j)
  dr : ∀ q, j ≤ q → M[q]? = L[q]?
  gr : w.grownBy W (some g)
theorem DelI.below {W W' : World} {g n c i j : Nat} {slot : Int} {M : List Acc} (h : DelI w base g n c slot L i j W M) (b : Below W.heap.size W W') : DelI w base g n c slot L i j W' M :=
  ⟨owns_kept h.row (fun g e => b.block g (row_kind h.row e).2.1), h.len, h.tk, h.dr, h.gr.trans ⟨b.os, b.tape, b.output, b.size, fun k hk _ => b.block k hk⟩⟩
theorem DelI.step {W : World} {g n c i j : Nat} {slot : Int} {M : List Acc} (h : DelI w base g n c slot L i j W M) (hij : i < j) (hj : j < L.length) (hn : n = L.length) (hs : goes slot L[j] = false) :
    DelI w base g n c slot L (i + 1) (j + 1) (((W.setCell ⟨g, i * 3, none⟩ (.string L[j].nm)).setCell ⟨g, i * 3 + 1, none⟩ (.int .i64 L[j].amt)).setCell ⟨g, i * 3 + 2, none⟩ (.string L[j].by_)) (M.set i L[j]) := by
  obtain ⟨q1, q2⟩ := row_set h.row h.len.symm (show i < n by omega) L[j]
  have hl := h.len
  refine ⟨q1, by rw [List.length_set]; exact h.len, ?_, fun q hq => ?_, h.gr.trans q2⟩
  · rw [List.take_succ_eq_append_getElem hj, stay_snoc, if_neg (by rw [hs]; simp), ← h.tk, List.take_succ_eq_append_getElem (by rw [List.length_set]; omega), List.getElem_set_self, List.take_set, List.set_eq_of_length_le (by rw [List.length_take]; omega)]
  · rw [List.getElem?_set_ne (by omega)]
    exact h.dr q (by omega)
theorem DelI.skip {W : World} {g n c i j : Nat} {slot : Int} {M : List Acc} (h : DelI w base g n c slot L i j W M) (hj : j < L.length) (hs : goes slot L[j] = true) : DelI w base g n c slot L i (j + 1) W M := by
  refine ⟨h.row, h.len, ?_, fun q hq => h.dr q (by omega), h.gr⟩
  rw [List.take_succ_eq_append_getElem hj, stay_snoc, if_pos hs]
  exact h.tk
end
end Go.Proofs.YtdchnfggmkokhaaDoor

namespace Go.Proofs.YtdchnfggmkokhaaDoor
open Go.RowKit Cod
attribute [local go_sem] Oper.semAt_some
set_option linter.unusedVariables false

theorem Fit.stay {L : List Acc} (h : Fit L) (slot : Int) : Fit (stay slot L) :=
  ⟨h.srt.sublist List.filter_sublist, Nat.le_trans (List.length_filter_le _ _) h.len, fun a ha => h.amt a (List.mem_filter.1 ha).1, fun a ha => h.nm a (List.mem_filter.1 ha).1, fun a ha => h.by_ a (List.mem_filter.1 ha).1⟩
section
variable {w : World} {base N : Nat} {sv : Value} {L : List Acc}
theorem BookIn.cut {w3 : World} {a3 : Option Addr} {c3 : Nat} {L' : List Acc} (h : BookIn w base N sv L) (o : w3.ownsRow base 61 3 (.slice a3 L'.length c3) L'.length (cells3 L')) (gr : w.grownBy w3 sv.ownBlock) (hs : (Value.slice a3 L'.length c3).ownBlock = sv.ownBlock) (hf : Fit L') : w3.cell? ⟨N, 0, none⟩ = some sv ∧ w3.frozen? ⟨N, 0, none⟩ = false ∧ BTold w (w3.setCell ⟨N, 0, none⟩ (.slice a3 L'.length c3)) base N sv L' := by
  have hN : w3.heap[N]? = some (.cells #[sv] 56 (0, 0)) := (gr.block N h.ltN (fun e => h.ne e.symm rfl)).trans h.hN
  have e := setCell_eq_setRow w3 N 0 _ _ _ (.slice a3 L'.length c3) hN
  have hne : ∀ g, (Value.slice a3 L'.length c3).ownBlock = some g → g ≠ N := fun g e q => by
    obtain ⟨_, _, cur, h3⟩ := row_kind o e
    rw [q, hN] at h3
    injection h3 with h3
    injection h3 with _ h3
    exact absurd h3 (by decide)
  refine ⟨by simp [World.cell?, hN], by simp [World.frozen?, hN], .slice a3 L'.length c3, ⟨?_, ?_, h.bN, hf⟩, ⟨?_, ?_, ?_, ?_, fun k hk h1 h2 => ?_⟩, fun k q => .inl (by rw [← hs]; exact q)⟩
  · rw [e]
    exact setRow_heap _ _ _ _ _ _ hN
  · rw [e]
    exact owns_kept o (fun g q => setRow_other _ _ _ _ (hne g q))
  · rw [e]; exact gr.os
  · rw [e]; exact gr.tape
  · rw [e]; exact gr.output
  · rw [e]; simpa using gr.size
  · rw [e, setRow_other _ _ _ _ h1]
    exact gr.block k hk (fun q => h2 q)
end
section
variable {w0 w : World} {N : Nat} {L : List Acc}
theorem my_rows (h : MyB w0 w N L) (hT : Tabs w0) (slot : Int) : Calls Tryd.prog 31 #[.pointer (some ⟨N, 0, none⟩), .int .i64 slot] w fun e w' => ∃ a c, e = .returned (.slice a (rowsOf slot L).length c) ∧ RowsAt w' a (rowsOf slot L).length (rowsOf slot L) ∧ Below w.heap.size w w' ∧ MyB w0 w' N L := by
  obtain ⟨sv, h1, b⟩ := h
  refine (rows_any h1 (hT.below b hT.size) slot).mono ?_
  rintro e w' ⟨a, c, rfl, q, b1⟩
  obtain ⟨a', c', e', q'⟩ := rowsAt_owned q rfl (by have := rowsOf_len slot L; have := h1.fit.len; omega)
  cases e'
  exact ⟨a, c, rfl, q', b1, sv, h1.below b1, b.trans (b1.mono b.size)⟩
end
end Go.Proofs.YtdchnfggmkokhaaDoor

namespace Go.Proofs.YtdchnfggmkokhaaDoor
open Go.RowKit
set_option linter.unusedVariables false

/-- The reference's book in memory. -/
structure RefB (w : World) (base N : Nat) (sv : Value) (L : List Acc) : Prop where
  hN : w.heap[N]? = some (.cells #[sv] 71 (0, 0))
  row : w.ownsRow base 86 3 sv L.length (cells3 L)
  bN : base ≤ N
  fit : Fit L
theorem info_qacc : (Tryd.prog.info? 86).map (fun i => (i.zero, i.size, i.bytes)) = some (some (.agg #[.string ⟨#[]⟩, .int .i64 0, .string ⟨#[]⟩]), 3, 40) := by kernel_rfl
section
variable {w w' : World} {base N : Nat} {sv : Value} {L : List Acc}
theorem RefB.ltN (h : RefB w base N sv L) : N < w.heap.size := (Array.getElem?_eq_some_iff.1 h.hN).1
theorem RefB.size (h : RefB w base N sv L) : base ≤ w.heap.size := Nat.le_trans h.bN (Nat.le_of_lt h.ltN)
theorem RefB.ne (h : RefB w base N sv L) {g : Nat} (e : sv.ownBlock = some g) : g ≠ N := fun q => by
  obtain ⟨_, _, cur, h3⟩ := row_kind h.row e
  rw [q, h.hN] at h3
  injection h3 with h3
  injection h3 with _ h3
  exact absurd h3 (by decide)
theorem RefB.keep (h : RefB w base N sv L) (kN : w'.heap[N]? = w.heap[N]?) (kr : ∀ g, sv.ownBlock = some g → w'.heap[g]? = w.heap[g]?) : RefB w' base N sv L :=
  { h with hN := kN.trans h.hN, row := owns_kept h.row kr }
theorem RefB.below (h : RefB w base N sv L) (k : Below w.heap.size w w') : RefB w' base N sv L :=
  h.keep (k.block N h.ltN) (fun g e => k.block g (row_kind h.row e).2.1)
theorem RefB.base_le (h : RefB w base N sv L) {b' : Nat} (hb : b' ≤ base) : RefB w b' N sv L :=
  { h with
    row := ⟨h.row.1, h.row.2.imp id (by rintro ⟨g, c, cur, e, h1, h2⟩; exact ⟨g, c, cur, e, Nat.le_trans hb h1, h2⟩)⟩
    bN := Nat.le_trans hb h.bN }
theorem RefB.c0 (h : RefB w base N sv L) : w.cell? ⟨N, 0, none⟩ = some sv := by have := h.hN; simp [World.cell?, this]
theorem RefB.fz (h : RefB w base N sv L) (i : Nat) : w.frozen? ⟨N, i, none⟩ = false := by have := h.hN; simp [World.frozen?, this]
theorem RefB.chg_below (h : RefB w base N sv L) (c : Chg w w' N sv.ownBlock) : Below base w w' :=
  c.below h.size h.bN (fun g e => (row_kind h.row e).1)
theorem RefB.sv_form (h : RefB w base N sv L) : ∃ a c, sv = .slice a L.length c ∧ (a = none → c = 0) ∧ L.length ≤ c ∧ c ≤ maxLen := by
  obtain ⟨a, c, h1, h2, h3, h4, _⟩ := row_form h.row
  exact ⟨a, c, h1, h2, h3, h4⟩
theorem qrow_at {v : Value} {l : List Acc} {n : Nat} (h : w.ownsRow base 86 3 v n (cells3 l)) (hn : n = l.length) {k : Nat} (hk : k < l.length) : ∃ g c, v = .slice (some ⟨g, 0, none⟩) l.length c ∧ w.cell? ⟨g, k * 3, none⟩ = some (.string l[k].nm) ∧ w.cell? ⟨g, k * 3 + 1, none⟩ = some (.int .i64 l[k].amt) ∧ w.cell? ⟨g, k * 3 + 2, none⟩ = some (.string l[k].by_) := by
  subst hn
  rcases h.2 with ⟨_, h0⟩ | ⟨g, c, cur, rfl, hb, hg, hnc, hcm, hcs, htake⟩
  · omega
  · refine ⟨g, c, rfl, ?_⟩
    obtain ⟨h1, h2, h3⟩ := cells3_at l k hk
    rw [← htake, List.getElem?_take, if_pos (by omega)] at h1 h2 h3
    simp only [World.cell?, hg]
    exact ⟨by simpa using h1, by simpa using h2, by simpa using h3⟩
theorem qrow_accs {v : Value} {l : List Acc} {n : Nat} (h : w.ownsRow base 86 3 v n (cells3 l)) (hn : n = l.length) : ∃ a c, v = .slice a l.length c ∧ AccsAt w a l ∧ (a = none → c = 0) := by
  obtain ⟨a, c, e, hnil, _⟩ := row_form h
  subst hn
  refine ⟨a, c, e, ?_, hnil⟩
  by_cases h0 : l = []
  · exact .inl h0
  · have hl : 0 < l.length := List.length_pos_iff.2 h0
    obtain ⟨g, c', e2, _⟩ := qrow_at h rfl hl
    rw [e] at e2
    cases e2
    refine .inr ⟨g, 0, rfl, fun j hj => ?_⟩
    obtain ⟨g', c'', e3, q⟩ := qrow_at h rfl hj
    rw [e] at e3
    cases e3
    rw [Nat.zero_add]
    exact q
end
end Go.Proofs.YtdchnfggmkokhaaDoor

namespace Go.Proofs.YtdchnfggmkokhaaDoor
open Go.RowKit
attribute [local go_sem] Oper.semAt_some
set_option linter.unusedVariables false

theorem bytesLess_is : ∀ (x y : List UInt8), Op.bytesLess x y = decide (x < y)
  | [], [] => by simp [Op.bytesLess]
  | _ :: _, [] => by simp [Op.bytesLess]
  | [], _ :: _ => by simp [Op.bytesLess]
  | a :: x, b :: y => by
    rw [Op.bytesLess, bytesLess_is x y]
    simp only [List.cons_lt_cons_iff]
    by_cases h1 : a < b <;> by_cases h2 : a = b <;> by_cases h3 : x < y <;> simp [h1, h2, h3]
theorem less_ahead (a b : ByteArray) : Op.bytesLess a.toList b.toList = decide (Ahead a b) := by
  rw [bytesLess_is, ByteArray.toList_eq, ByteArray.toList_eq]
  rfl
section
variable {w : World} {base N : Nat} {sv : Value} {L : List Acc}
set_option maxRecDepth 100000 in
set_option maxHeartbeats 2000000 in
theorem qfind_any (h : RefB w base N sv L) (t : ByteArray) :
    Calls Tryd.prog 62 #[.pointer (some ⟨N, 0, none⟩), .string t] w fun e w' => e = .returned (.tuple #[.int .i64 (under L t : Nat), .bool (hasN L t)]) ∧ Below w.heap.size w w' := by
  have c0 := h.c0
  obtain ⟨a, cap, esv, _⟩ := h.sv_form
  have H : Hid (RefB w base N sv L) := h
  have HS : Hid (Sorted L) := h.fit.srt
  have ES : Hid (sv = .slice a L.length cap) := esv
  rw [esv] at c0
  have hl : L.length ≤ 200 := h.fit.len
  obtain ⟨n, en⟩ : ∃ n, L.length = n := ⟨_, rfl⟩
  have EN : Hid (L.length = n) := en
  rw [en] at c0 hl
  obtain ⟨u, eu⟩ : ∃ u, under L t = u := ⟨_, rfl⟩
  have EU : Hid (under L t = u) := eu
  obtain ⟨f, ef⟩ : ∃ f, hasN L t = f := ⟨_, rfl⟩
  have EF : Hid (hasN L t = f) := ef
  rw [eu, ef]
  clear h esv en eu ef
  go_enter Tryd.func62, Tryd.ntmps62
  go_wp2
  go_loop [6] (fun i => ∃ k : Nat, k ≤ n ∧ i = .int .i64 k ∧ Hid (∀ j (hj : j < L.length), j < k → Ahead L[j].nm t)) (fun i => n - (intOf i).toNat)
  case atStart => exact ⟨0, Nat.zero_le _, rfl, fun j hj h => by omega⟩
  case round =>
    obtain ⟨k, hk, rfl, I⟩ := hrel
    by_cases hlt : k < n
    · have hk2 : k < L.length := by rw [EN.out]; exact hlt
      obtain ⟨g, cp, e2, y0, y1, y2⟩ := qrow_at H.out.row rfl hk2
      rw [ES.out] at e2
      injection e2 with e3 e4 e5
      subst e3
      clear e4 e5
      obtain ⟨p, ep⟩ : ∃ p, L[k]'hk2 = p := ⟨_, rfl⟩
      have EP : Hid (∀ h, L[k]'h = p) := fun _ => ep
      rw [ep] at y0 y1 y2
      clear ep
      obtain ⟨nm, amt, by_⟩ := p
      simp only at y0 y1 y2
      by_cases hah : Ahead nm t
      · have hls : Op.bytesLess nm.toList t.toList = true := by rw [less_ahead, decide_eq_true hah]
        have I2 : Hid (∀ j (hj : j < L.length), j < k + 1 → Ahead L[j].nm t) := fun j hj h => by
          rcases Nat.lt_or_ge j k with x | x
          · exact I.out j hj x
          · obtain rfl : j = k := by omega
            rw [EP.out]
            exact hah
        clear hah
        go_wp2
        go_round
        case rel => exact ⟨k + 1, by omega, by go_num, I2⟩
        case measure => simp only [intOf]; omega
      · have hls : Op.bytesLess nm.toList t.toList = false := by rw [less_ahead, decide_eq_false hah]
        have hku : u = k := by
          rw [← EU.out]
          refine under_split HS.out (by omega) I.out (fun j hj hkj x => ?_)
          rcases Nat.lt_or_ge k j with y | y
          · have := (List.pairwise_iff_getElem.1 HS.out) k j hk2 hj y
            rw [EP.out] at this
            exact hah (ahead_trans this x)
          · obtain rfl : j = k := by omega
            rw [EP.out] at x
            exact hah x
        subst hku
        by_cases hnt : nm = t
        · have hf : f = true := by
            rw [← EF.out, hasN_iff HS.out]
            exact ⟨by rw [EU.out]; exact hk2, by simp only [EU.out]; rw [EP.out]; exact hnt⟩
          have HF : Hid (f = true) := hf
          have heq : (nm.toList == t.toList) = true := by rw [hnt]; simp
          have heq2 : nm.toList = t.toList := by rw [hnt]
          clear hah hf hnt heq2
          go_wp2
          go_quiet (fail)
          go_wp2
          go_ret2
          exact ⟨by rw [HF.out]; rfl, below_drewN' (Below.refl _ w) _⟩
        · have hf : f = false := by
            rw [← EF.out, Bool.eq_false_iff]
            intro x
            obtain ⟨h1, h2⟩ := (hasN_iff HS.out t).1 x
            simp only [EU.out] at h2
            rw [EP.out] at h2
            exact hnt h2
          have HF : Hid (f = false) := hf
          have heq := text_ne hnt
          clear hah hf hnt
          go_wp2
          go_quiet (fail)
          go_wp2
          go_ret2
          exact ⟨by rw [HF.out]; rfl, below_drewN' (Below.refl _ w) _⟩
    · obtain rfl : k = n := by omega
      have hku : u = k := by
        rw [← EU.out]
        exact under_split HS.out (by rw [EN.out]; exact Nat.le_refl _) I.out (fun j hj hkj x => by have := EN.out; omega)
      subst hku
      have hf : f = false := by
        rw [← EF.out, Bool.eq_false_iff]
        intro x
        obtain ⟨h1, h2⟩ := (hasN_iff HS.out t).1 x
        have := EN.out
        have := EU.out
        omega
      have HF : Hid (f = false) := hf
      clear hf
      go_wp2
      go_quiet (fail)
      go_wp2
      go_ret2
      exact ⟨by rw [HF.out]; rfl, below_drewN' (Below.refl _ w) _⟩
end
end Go.Proofs.YtdchnfggmkokhaaDoor
