/- Package book: Drop. -/
import Derived.Test.YtdchnfggmkokhaaGreatDoorGE
import Derived.Test.YtdchnfggmkokhaaGreatDoorBSame
namespace Go.Proofs.YtdchnfggmkokhaaGreatDoor
open Go.RowKit Cod
attribute [local go_sem] Oper.semAt_some
set_option linter.unusedVariables false

/-- An account goes with a slot. -/
def goes (slot : Int) (p : Acc) : Bool := decide (slotOf p.nm = slot)
set_option maxRecDepth 100000 in
set_option maxHeartbeats 1000000 in
theorem drop1_any (S : Nat) (slot : Int) (w : World) (hT : Tabs w) (hS : w.cell? ⟨S, 0, none⟩ = some (.int .i64 slot)) (nm by_ : ByteArray) (amt : Int) (hn : nm.size ≤ 24) :
    Calls Tryz.prog 72 #[.agg #[.string nm, .int .i64 amt, .string by_], .pointer (some ⟨S, 0, none⟩)] w fun e w' => e = .returned (.bool (goes slot ⟨nm, amt, by_⟩)) ∧ Below w.heap.size w w' := by
  obtain ⟨w1, ew1⟩ : ∃ w1, w1 = w.alloc (.cells #[.string nm, .int .i64 amt, .string by_] 52) := ⟨_, rfl⟩
  have b1 : Below w.heap.size w w1 := by rw [ew1]; exact (Below.refl _ w).alloc (Nat.le_refl _) _
  have k0 : w1.cell? ⟨S, 0, none⟩ = some (.int .i64 slot) := (b1.cell (p := ⟨S, 0, none⟩) (World.block_lt_of_cell? w _ hS)).trans hS
  have r0 : w1.cell? ⟨w.heap.size, 0, none⟩ = some (.string nm) := by rw [ew1, World.cell?_alloc_mark]; rfl
  have r1 : w1.cell? ⟨w.heap.size, 1, none⟩ = some (.int .i64 amt) := by rw [ew1, World.cell?_alloc_mark]; rfl
  have r2 : w1.cell? ⟨w.heap.size, 2, none⟩ = some (.string by_) := by rw [ew1, World.cell?_alloc_mark]; rfl
  have HC := accSlot_any nm by_ amt w1.drew ((hT.below b1 hT.size).below (Below.refl _ _).drew (hT.below b1 hT.size).size) (by unfold maxLen; omega)
  have B1 : Hid (Below w.heap.size w w1) := b1
  have HG : Hid (goes slot ⟨nm, amt, by_⟩ = (slotOf nm == slot)) := by
    show goes slot ⟨nm, amt, by_⟩ = (slotOf nm == slot)
    unfold goes
    by_cases h : slotOf nm = slot <;> simp [h]
  rw [HG.out]
  generalize slotOf nm = x at *
  clear HG hS hT b1 hn
  go_enter Tryz.func72, Tryz.ntmps72
  go_wp2
  rw [← ew1]
  clear ew1
  go_region_law (go_simp; go_at_call 73; refine HC.mono ?_; rintro e w2 ⟨rfl, b2⟩; have b2' : Below w1.heap.size w1 w2 := ⟨b2.os, b2.tape, b2.output, b2.size, b2.block⟩; have k2 : w2.cell? ⟨S, 0, none⟩ = some (.int .i64 slot) := (b2'.cell (p := ⟨S, 0, none⟩) (World.block_lt_of_cell? w1 _ k0)).trans k0)
  all_goals
    have B2 : Hid (Below w.heap.size w w2) := B1.out.trans (b2'.mono B1.out.size)
    clear b2 b2'
    go_wp2
    go_ret
    exact ⟨rfl, B2.out⟩
/-- Where the first that goes stands. -/
def firstGo (slot : Int) : List Acc → Nat
  | [] => 0
  | p :: L => if goes slot p = true then 0 else firstGo slot L + 1
theorem firstGo_le (slot : Int) : ∀ L : List Acc, firstGo slot L ≤ L.length
  | [] => Nat.le_refl _
  | p :: L => by
    unfold firstGo
    split
    · simp
    · have := firstGo_le slot L
      simp; omega
theorem firstGo_take (slot : Int) : ∀ (L : List Acc) (k : Nat), k ≤ firstGo slot L → (L.take k).filter (fun p => !goes slot p) = L.take k
  | [], k, _ => by simp
  | p :: L, 0, _ => by simp
  | p :: L, k + 1, h => by
    unfold firstGo at h
    split at h
    · omega
    · rename_i hp
      have := firstGo_take slot L k (by omega)
      simp [hp, this]
theorem firstGo_at (slot : Int) : ∀ (L : List Acc) (h : firstGo slot L < L.length), goes slot L[firstGo slot L] = true
  | p :: L, h => by
    by_cases hp : goes slot p = true
    · have e : firstGo slot (p :: L) = 0 := by unfold firstGo; rw [if_pos hp]
      simp only [e]
      exact hp
    · have e : firstGo slot (p :: L) = firstGo slot L + 1 := by conv => lhs; unfold firstGo; rw [if_neg hp]
      simp only [e]
      have h' : firstGo slot L < L.length := by rw [e] at h; simpa using h
      exact firstGo_at slot L h'
theorem firstGo_lt (slot : Int) (L : List Acc) (k : Nat) (hk : k < firstGo slot L) (h : k < L.length) : goes slot L[k] = false := by
  have h1 := firstGo_take slot L (k + 1) hk
  have hm : L[k] ∈ L.take (k + 1) := by
    rw [List.take_succ_eq_append_getElem h]
    exact List.mem_append_right _ (List.mem_singleton.2 rfl)
  rw [← h1, List.mem_filter] at hm
  simpa using hm.2
section
variable {w : World} {base : Nat} {sv : Value} {L : List Acc}
set_option maxRecDepth 100000 in
set_option maxHeartbeats 2000000 in
/-- IndexFunc: where the first that goes stands, or -1. -/
theorem indexFunc_any (a : Option Addr) (cap S : Nat) (slot : Int) (hA : AccsAt w a L) (hT : Tabs w) (hS : w.cell? ⟨S, 0, none⟩ = some (.int .i64 slot)) (hn : ∀ p ∈ L, p.nm.size ≤ 24) (hl : L.length ≤ 200) :
    Calls Tryz.prog 91 #[.slice a L.length cap, .func (.func 72) #[] #[.pointer (some ⟨S, 0, none⟩)]] w fun e w' => e = .returned (.int .i64 (if firstGo slot L < L.length then ((firstGo slot L : Nat) : Int) else -1)) ∧ Below w.heap.size w w' := by
  have HA : Hid (AccsAt w a L) := hA
  have HT : Hid (Tabs w) := hT
  have HS : Hid (w.cell? ⟨S, 0, none⟩ = some (.int .i64 slot)) := hS
  have HN : Hid (∀ p ∈ L, p.nm.size ≤ 24) := hn
  obtain ⟨n, en⟩ : ∃ n, L.length = n := ⟨_, rfl⟩
  have EN : Hid (L.length = n) := en
  rw [en] at hl ⊢
  obtain ⟨f, ef⟩ : ∃ f, firstGo slot L = f := ⟨_, rfl⟩
  have EF : Hid (firstGo slot L = f) := ef
  rw [ef]
  have hfn : f ≤ n := by rw [← ef, ← en]; exact firstGo_le slot L
  obtain ⟨r, er⟩ : ∃ r : Int, (if f < n then (f : Int) else -1) = r := ⟨_, rfl⟩
  have ER : Hid ((if f < n then (f : Int) else -1) = r) := er
  rw [er]
  clear hA hT hS hn en ef er
  go_enter Tryz.func91, Tryz.ntmps91
  go_wp2
  go_loopw [8] (fun i wr => ∃ k : Nat, k ≤ f ∧ i = .int .i64 k ∧ Hid (Below w.heap.size w wr)) (fun i _ => n - (intOf i).toNat)
  case atStart => exact ⟨0, Nat.zero_le _, rfl, Below.refl _ _⟩
  case round =>
    obtain ⟨k, hk, rfl, B⟩ := hrel
    by_cases hlt : k < n
    · have hk2 : k < L.length := by rw [EN.out]; exact hlt
      obtain ⟨g, o, ea, y0, y1, y2⟩ := (HA.out.below B.out).at hk2
      subst ea
      have HC := drop1_any S slot wr (HT.out.below B.out HT.out.size) ((B.out.cell (p := ⟨S, 0, none⟩) (World.block_lt_of_cell? w _ HS.out)).trans HS.out) (L[k]'hk2).nm (L[k]'hk2).by_ (L[k]'hk2).amt (HN.out _ (List.getElem_mem hk2))
      by_cases hkf : k < f
      · have hgo : goes slot ⟨(L[k]'hk2).nm, (L[k]'hk2).amt, (L[k]'hk2).by_⟩ = false := firstGo_lt slot L k (by rw [EF.out]; exact hkf) hk2
        rw [hgo] at HC
        clear hgo
        generalize L[k]'hk2 = p at y0 y1 y2 HC
        obtain ⟨nm, amt, by_⟩ := p
        simp only at y0 y1 y2 HC
        go_wp2_with fail
        refine HC.mono ?_
        rintro e w1 ⟨rfl, b1⟩
        have B1 : Hid (Below w.heap.size w w1) := B.out.trans (b1.mono B.out.size)
        clear b1 HC
        go_wp2
        go_roundw
        case rel => exact ⟨k + 1, by omega, by go_num, B1⟩
        case measure => simp only [intOf]; omega
      · obtain rfl : k = f := by omega
        have hgo : goes slot ⟨(L[k]'hk2).nm, (L[k]'hk2).amt, (L[k]'hk2).by_⟩ = true := by
          have := firstGo_at slot L (by rw [EF.out]; exact hk2)
          simp only [EF.out] at this
          exact this
        rw [hgo] at HC
        clear hgo
        generalize L[k]'hk2 = p at y0 y1 y2 HC
        obtain ⟨nm, amt, by_⟩ := p
        simp only at y0 y1 y2 HC
        go_wp2_with fail
        refine HC.mono ?_
        rintro e w1 ⟨rfl, b1⟩
        have B1 : Hid (Below w.heap.size w w1) := B.out.trans (b1.mono B.out.size)
        clear b1 HC
        go_wp2
        go_ret
        exact ⟨by rw [← ER.out, if_pos hlt]; rfl, B1.out⟩
    · have hnf : ¬ f < n := by omega
      go_wp2
      go_ret
      exact ⟨by rw [← ER.out, if_neg hnf]; rfl, B.out⟩
/-- Those that stay. -/
def stay (slot : Int) (L : List Acc) : List Acc := L.filter (fun p => !goes slot p)
theorem stay_snoc (slot : Int) (L : List Acc) (p : Acc) : stay slot (L ++ [p]) = if goes slot p = true then stay slot L else stay slot L ++ [p] := by
  unfold stay
  rw [List.filter_append]
  by_cases h : goes slot p = true
  · rw [if_pos h]; simp [h]
  · rw [if_neg h]; simp [h]
theorem row_set {g n c i : Nat} {M : List Acc} (h : w.ownsRow base 52 3 (.slice (some ⟨g, 0, none⟩) n c) n (cells3 M)) (hn : n = M.length) (hi : i < n) (q : Acc) :
    (((w.setCell ⟨g, i * 3, none⟩ (.string q.nm)).setCell ⟨g, i * 3 + 1, none⟩ (.int .i64 q.amt)).setCell ⟨g, i * 3 + 2, none⟩ (.string q.by_)).ownsRow base 52 3 (.slice (some ⟨g, 0, none⟩) n c) n (cells3 (M.set i q)) ∧
      w.grownBy (((w.setCell ⟨g, i * 3, none⟩ (.string q.nm)).setCell ⟨g, i * 3 + 1, none⟩ (.int .i64 q.amt)).setCell ⟨g, i * 3 + 2, none⟩ (.string q.by_)) (some g) := by
  rcases h.2 with ⟨e1, _⟩ | ⟨g', c', cur, e1, hb, hg, hnc, hcm, hcs, htake⟩
  · simp at e1
  · simp only [Value.slice.injEq, Option.some.injEq, Addr.mk.injEq, and_true, true_and] at e1
    obtain ⟨rfl, rfl⟩ := e1
    rw [setCell_eq_setRow w g _ cur _ _ _ hg]
    have hg1 := setRow_heap w g cur (cur.setIfInBounds (i * 3) (.string q.nm)) _ _ hg
    rw [setCell_eq_setRow _ g _ _ _ _ _ hg1, setRow_setRow]
    have hg2 := setRow_heap w g cur ((cur.setIfInBounds (i * 3) (.string q.nm)).setIfInBounds (i * 3 + 1) (.int .i64 q.amt)) _ _ hg
    rw [setCell_eq_setRow _ g _ _ _ _ _ hg2, setRow_setRow]
    refine ⟨⟨?_, .inr ⟨g, c, _, rfl, hb, setRow_heap w g cur _ _ _ hg, hnc, hcm, ?_, ?_⟩⟩, ⟨rfl, rfl, rfl, by simp, fun k hk hne => setRow_other _ _ _ _ (fun e => hne (by rw [e]))⟩⟩
    · rw [cells3_length, List.length_set]; omega
    · simp only [Array.size_setIfInBounds]; exact hcs
    · rw [cells3_set M i q (by omega), ← htake]
      simp only [Array.toList_setIfInBounds, List.take_set]
/-- The rest is cleared. -/
theorem run_clear_rest {g n c i : Nat} {M : List Acc} (h : w.ownsRow base 52 3 (.slice (some ⟨g, 0, none⟩) n c) n (cells3 M)) (hn : n = M.length) (hi : i < n) (ty : TypeId) (cc : Nat) :
    ∃ w', (Builtin.clear_ #[43] ty #[.slice (some ⟨g, i * 3, none⟩) (n - i) cc]).run Tryz.prog w = .ok (.tuple #[]) w' ∧ w'.ownsRow base 52 3 (.slice (some ⟨g, 0, none⟩) i c) i (cells3 (M.take i)) ∧ w.grownBy w' (some g) := by
  rcases h.2 with ⟨e1, _⟩ | ⟨g', c', cur, e1, hb, hg, hnc, hcm, hcs, htake⟩
  · simp at e1
  · simp only [Value.slice.injEq, Option.some.injEq, Addr.mk.injEq, and_true, true_and] at e1
    obtain ⟨rfl, rfl⟩ := e1
    obtain ⟨zs, ez⟩ : ∃ zs, (Builtin.zeroCells #[.string ⟨#[]⟩, .int .i64 0, .string ⟨#[]⟩] (n - i)).toList = zs := ⟨_, rfl⟩
    have hzl : zs.length = (n - i) * 3 := by rw [← ez]; simp [Builtin.zeroCells]
    have hz1 : ∀ u ∈ zs, u.oneCell' = true := fun u hu => by
      rw [← ez, Array.mem_toList_iff] at hu
      obtain ⟨q, hq, e⟩ := Array.mem_iff_getElem.1 hu
      simp [Builtin.zeroCells] at e
      have h3 : q % 3 < 3 := Nat.mod_lt _ (by omega)
      rcases (show q % 3 = 0 ∨ q % 3 = 1 ∨ q % 3 = 2 by omega) with x | x | x <;> (rw [← e]; simp [x]; try rfl)
    have hst := run_storeCells_at Tryz.prog g (i * 3) 52 zs 0 cur w hg (by rw [hzl, hcs]; omega) hz1
    simp only [Nat.add_zero] at hst
    have hv : ∀ W, (zeroValue 52).run Tryz.prog W = .ok (.agg #[.string ⟨#[]⟩, .int .i64 0, .string ⟨#[]⟩]) W := fun W => by kernel_rfl
    obtain ⟨k, ek⟩ : ∃ k, n - i = k + 1 := ⟨n - i - 1, by omega⟩
    rw [ek] at ez ⊢
    refine ⟨_, by simp [Builtin.clear_, run_underlying Tryz.underlying43, hv, Value.cells, ez, hst]; rfl, ⟨?_, .inr ⟨g, c, _, rfl, hb, setRow_heap _ _ _ _ _ _ hg, by omega, hcm, ?_, ?_⟩⟩, ⟨rfl, rfl, rfl, by simp, fun k hk hne => setRow_other _ _ _ _ (fun e => hne (by rw [e]))⟩⟩
    · rw [cells3_length, List.length_take]; omega
    · simp only [List.size_toArray, List.length_append, List.length_take, hzl, List.length_drop, Array.length_toList]
      omega
    · rw [cells3_take, ← htake, List.take_take, Nat.min_eq_left (by omega)]
      dsimp only
      try rw [List.append_assoc]
      exact List.take_left' (by rw [List.length_take, Array.length_toList]; omega)
/-- What lies in memory while the row is gone through. -/
structure DelI (w : World) (base g n c : Nat) (slot : Int) (L : List Acc) (i j : Nat) (W : World) (M : List Acc) : Prop where
  row : W.ownsRow base 52 3 (.slice (some ⟨g, 0, none⟩) n c) n (cells3 M)
  len : M.length = n
  tk : M.take i = stay slot (L.take j)
  dr : ∀ q, j ≤ q → M[q]? = L[q]?
  gr : w.grownBy W (some g)
theorem DelI.below {W W' : World} {g n c i j : Nat} {slot : Int} {M : List Acc} (h : DelI w base g n c slot L i j W M) (b : Below W.heap.size W W') : DelI w base g n c slot L i j W' M :=
  ⟨owns_kept h.row (fun g e => b.block g (row_kind h.row e).2.1), h.len, h.tk, h.dr, h.gr.trans ⟨b.os, b.tape, b.output, b.size, fun k hk _ => b.block k hk⟩⟩
theorem DelI.step {W : World} {g n c i j : Nat} {slot : Int} {M : List Acc} (h : DelI w base g n c slot L i j W M) (hij : i < j) (hj : j < L.length) (hn : n = L.length) (hs : goes slot L[j] = false) :
    DelI w base g n c slot L (i + 1) (j + 1) (((W.setCell ⟨g, i * 3, none⟩ (.string L[j].nm)).setCell ⟨g, i * 3 + 1, none⟩ (.int .i64 L[j].amt)).setCell ⟨g, i * 3 + 2, none⟩ (.string L[j].by_)) (M.set i L[j]) := by
  obtain ⟨q1, q2⟩ := row_set h.row h.len.symm (show i < n by omega) L[j]
  have hl := h.len
  refine ⟨q1, by rw [List.length_set]; exact h.len, ?_, fun q hq => ?_, h.gr.trans q2⟩
  · rw [List.take_succ_eq_append_getElem hj, stay_snoc, if_neg (by rw [hs]; simp), ← h.tk, List.take_succ_eq_append_getElem (by rw [List.length_set]; omega), List.getElem_set_self, List.take_set, List.set_eq_of_length_le (by rw [List.length_take]; omega)]
  · rw [List.getElem?_set_ne (by omega)]
    exact h.dr q (by omega)
theorem DelI.skip {W : World} {g n c i j : Nat} {slot : Int} {M : List Acc} (h : DelI w base g n c slot L i j W M) (hj : j < L.length) (hs : goes slot L[j] = true) : DelI w base g n c slot L i (j + 1) W M := by
  refine ⟨h.row, h.len, ?_, fun q hq => h.dr q (by omega), h.gr⟩
  rw [List.take_succ_eq_append_getElem hj, stay_snoc, if_pos hs]
  exact h.tk
set_option maxRecDepth 100000 in
set_option maxHeartbeats 4000000 in
theorem deleteFunc_any (hrow : w.ownsRow base 52 3 sv L.length (cells3 L)) (S : Nat) (slot : Int) (hT : Tabs w) (hbT : 3 ≤ base) (hbase : base ≤ w.heap.size) (hS : w.heap[S]? = some (.cells #[.int .i64 slot] 3 (0, 0))) (hn : ∀ p ∈ L, p.nm.size ≤ 24) (hl : L.length ≤ 200) :
    Calls Tryz.prog 71 #[sv, .func (.func 72) #[] #[.pointer (some ⟨S, 0, none⟩)]] w fun e w' => ∃ a c, e = .returned (.slice a (stay slot L).length c) ∧ w'.ownsRow base 52 3 (.slice a (stay slot L).length c) (stay slot L).length (cells3 (stay slot L)) ∧ w.grownBy w' sv.ownBlock ∧ (Value.slice a (stay slot L).length c).ownBlock = sv.ownBlock := by
  obtain ⟨a, cap, esv, hA, hnil⟩ := row_accs hrow rfl
  have hS0 : w.cell? ⟨S, 0, none⟩ = some (.int .i64 slot) := by simp [World.cell?, hS]
  have HX := indexFunc_any a cap S slot hA hT hS0 hn hl
  have hfl := firstGo_le slot L
  by_cases hf : firstGo slot L < L.length
  · rw [if_pos hf] at HX
    obtain ⟨g, c, e2, _⟩ := row_at hrow rfl hf
    rw [e2] at hrow ⊢
    rw [esv] at e2
    injection e2 with e3 _ e4
    subst e3 e4
    have hgo := firstGo_at slot L hf
    have hst : L.take (firstGo slot L) = stay slot (L.take (firstGo slot L + 1)) := by
      rw [List.take_succ_eq_append_getElem hf, stay_snoc, if_pos hgo]
      exact (firstGo_take slot L _ (Nat.le_refl _)).symm
    have HROW : Hid (w.ownsRow base 52 3 (.slice (some ⟨g, 0, none⟩) L.length cap) L.length (cells3 L)) := hrow
    have HST : Hid (L.take (firstGo slot L) = stay slot (L.take (firstGo slot L + 1))) := hst
    have HT : Hid (Tabs w) := hT
    have HS : Hid (w.heap[S]? = some (.cells #[.int .i64 slot] 3 (0, 0))) := hS
    have HN : Hid (∀ p ∈ L, p.nm.size ≤ 24) := hn
    have HG : Hid (∃ cur, w.heap[g]? = some (.cells cur 52 (0, 0))) := (row_kind hrow (g := g) rfl).2.2
    have HGB : Hid (base ≤ g) := (row_kind hrow (g := g) rfl).1
    obtain ⟨f, ef⟩ : ∃ f, firstGo slot L = f := ⟨_, rfl⟩
    rw [ef] at HX hf HST
    obtain ⟨n, en⟩ : ∃ n, L.length = n := ⟨_, rfl⟩
    have EN : Hid (L.length = n) := en
    rw [en] at HX hf hl HROW ⊢
    have hnc : n ≤ cap := by
      obtain ⟨_, _, e5, _, h6, _⟩ := row_form HROW.out
      injection e5 with _ _ e6
      omega
    have hf1 : ((f : Int) == -1) = false := by simp
    have hf2 : ¬ ((f : Int) = -1) := by omega
    clear hrow hst hT hS hn hA hnil hS0 esv hgo ef en hfl
    go_enter Tryz.func71, Tryz.ntmps71
    go_wp2_with fail
    refine HX.mono ?_
    clear HX
    rintro e w1 ⟨rfl, b1⟩
    have D0 : Hid (DelI w base g n cap slot L f (f + 1) w1 L) := (⟨HROW.out, EN.out, HST.out, fun q _ => rfl, ⟨rfl, rfl, rfl, Nat.le_refl _, fun _ _ _ => rfl⟩⟩ : DelI w base g n cap slot L f (f + 1) w L).below b1
    clear b1
    go_wp2
    go_loopw [5, 6] (fun si sj wr => ∃ (i j : Nat) (M : List Acc), i < j ∧ j ≤ n ∧ si = .int .i64 i ∧ sj = .int .i64 j ∧ Hid (DelI w base g n cap slot L i j wr M)) (fun _ sj _ => n - (intOf sj).toNat)
    case atStart => exact ⟨f, f + 1, L, by omega, by omega, rfl, by go_num, D0⟩
    case round =>
      clear D0
      obtain ⟨i, j, M, hij, hjn, rfl, rfl, D⟩ := hrel
      by_cases hlt : j < n
      · have hj2 : j < L.length := by rw [EN.out]; exact hlt
        have hjM : j < M.length := by rw [D.out.len]; exact hlt
        have eM : M[j] = L[j] := by
          have := D.out.dr j (Nat.le_refl _)
          rw [List.getElem?_eq_getElem hjM, List.getElem?_eq_getElem hj2] at this
          injection this
        obtain ⟨g2, c2, e2, y0, y1, y2⟩ := row_at D.out.row D.out.len.symm hjM
        injection e2 with e3 e5 e4
        simp only [Option.some.injEq, Addr.mk.injEq, and_true] at e3
        subst e3
        clear e5 e4
        rw [eM] at y0 y1 y2
        have hbel : Below base w wr := ⟨D.out.gr.os, D.out.gr.tape, D.out.gr.output, D.out.gr.size, fun k hk => D.out.gr.block k (by omega) (fun e => by cases e; have := HGB.out; omega)⟩
        have hTr : Tabs wr := HT.out.below hbel hbT
        have hSr : wr.heap[S]? = some (.cells #[.int .i64 slot] 3 (0, 0)) := (D.out.gr.block S (Array.getElem?_eq_some_iff.1 HS.out).1 (fun e => by
          cases e
          obtain ⟨cur, hc⟩ := HG.out
          rw [HS.out] at hc
          injection hc with hc
          injection hc with _ hc
          exact absurd hc (by decide))).trans HS.out
        obtain ⟨wb, ewb⟩ : ∃ wb, wb = wr.alloc (.cells #[.string (L[j]'hj2).nm, .int .i64 (L[j]'hj2).amt, .string (L[j]'hj2).by_] 52) := ⟨_, rfl⟩
        have bb : Below wr.heap.size wr wb := by rw [ewb]; exact (Below.refl _ wr).alloc (Nat.le_refl _) _
        have HC := drop1_any S slot wb (hTr.below bb hTr.size) ((bb.cell (p := ⟨S, 0, none⟩) (Array.getElem?_eq_some_iff.1 hSr).1).trans (by simp [World.cell?, hSr])) (L[j]'hj2).nm (L[j]'hj2).by_ (L[j]'hj2).amt (HN.out _ (List.getElem_mem hj2))
        have t0 : wb.cell? ⟨wr.heap.size, 0, none⟩ = some (.string (L[j]'hj2).nm) := by rw [ewb, World.cell?_alloc_mark]; rfl
        have t1 : wb.cell? ⟨wr.heap.size, 1, none⟩ = some (.int .i64 (L[j]'hj2).amt) := by rw [ewb, World.cell?_alloc_mark]; rfl
        have t2 : wb.cell? ⟨wr.heap.size, 2, none⟩ = some (.string (L[j]'hj2).by_) := by rw [ewb, World.cell?_alloc_mark]; rfl
        have hzb : wr.heap.size < wb.heap.size := by rw [ewb]; simp
        have DB : Hid (DelI w base g n cap slot L i j wb M) := D.out.below bb
        cases hg : goes slot (L[j]'hj2) with
        | true =>
          have DS : Hid (∀ W, Below wb.heap.size wb W → DelI w base g n cap slot L i (j + 1) W M) := fun W b => (DB.out.below b).skip hj2 hg
          have hg' : goes slot ⟨(L[j]'hj2).nm, (L[j]'hj2).amt, (L[j]'hj2).by_⟩ = true := hg
          rw [hg'] at HC
          clear hg hg' eM DB D
          generalize L[j]'hj2 = p at y0 y1 y2 HC t0 t1 t2 ewb
          obtain ⟨nm, amt, by_⟩ := p
          simp only at y0 y1 y2 HC t0 t1 t2 ewb
          go_wp2_with fail
          rw [← ewb]
          refine HC.mono ?_
          rintro e w2 ⟨rfl, b2⟩
          have D2 := DS.out w2 b2
          have D2' : Hid (DelI w base g n cap slot L i (j + 1) w2 M) := D2
          clear D2 DS b2 HC bb ewb
          go_wp2
          go_roundw
          case rel => exact ⟨i, j + 1, M, by omega, by omega, rfl, by go_num, D2'⟩
          case measure => simp only [intOf]; omega
        | false =>
          have DS : Hid (∀ W, Below wb.heap.size wb W → DelI w base g n cap slot L (i + 1) (j + 1) (((W.setCell ⟨g, i * 3, none⟩ (.string (L[j]'hj2).nm)).setCell ⟨g, i * 3 + 1, none⟩ (.int .i64 (L[j]'hj2).amt)).setCell ⟨g, i * 3 + 2, none⟩ (.string (L[j]'hj2).by_)) (M.set i (L[j]'hj2))) := fun W b => (DB.out.below b).step hij hj2 EN.out.symm hg
          have DC : Hid (∀ W, Below wb.heap.size wb W → (∃ v, W.cell? ⟨g, i * 3, none⟩ = some v) ∧ (∃ v, W.cell? ⟨g, i * 3 + 1, none⟩ = some v) ∧ (∃ v, W.cell? ⟨g, i * 3 + 2, none⟩ = some v) ∧ (∀ q, W.frozen? ⟨g, q, none⟩ = false)) := fun W b => by
            have hd := DB.out.below b
            obtain ⟨g5, c5, e5, z0, z1, z2⟩ := row_at hd.row hd.len.symm (show i < M.length by rw [hd.len]; omega)
            injection e5 with e6 _ _
            simp only [Option.some.injEq, Addr.mk.injEq, and_true] at e6
            subst e6
            obtain ⟨_, _, cur, hcur⟩ := row_kind hd.row (g := g) rfl
            exact ⟨⟨_, z0⟩, ⟨_, z1⟩, ⟨_, z2⟩, fun q => by simp [World.frozen?, hcur]⟩
          have hg' : goes slot ⟨(L[j]'hj2).nm, (L[j]'hj2).amt, (L[j]'hj2).by_⟩ = false := hg
          rw [hg'] at HC
          have hgne : g ≠ wr.heap.size := by
            have := (row_kind D.out.row (g := g) rfl).2.1
            omega
          clear hg hg' eM DB D
          generalize L[j]'hj2 = p at y0 y1 y2 HC t0 t1 t2 ewb DS
          obtain ⟨nm, amt, by_⟩ := p
          simp only at y0 y1 y2 HC t0 t1 t2 ewb DS
          go_wp2_with fail
          rw [← ewb]
          refine HC.mono ?_
          rintro e w2 ⟨rfl, b2⟩
          have D2 := DS.out w2 b2
          have D2' : Hid (DelI w base g n cap slot L (i + 1) (j + 1) (((w2.setCell ⟨g, i * 3, none⟩ (.string nm)).setCell ⟨g, i * 3 + 1, none⟩ (.int .i64 amt)).setCell ⟨g, i * 3 + 2, none⟩ (.string by_)) (M.set i ⟨nm, amt, by_⟩)) := D2
          obtain ⟨⟨v0, x0⟩, ⟨v1, x1⟩, ⟨v2, x2⟩, xf⟩ := DC.out w2 b2
          have s0 := (b2.cell (p := ⟨wr.heap.size, 0, none⟩) hzb).trans t0
          have s1 := (b2.cell (p := ⟨wr.heap.size, 1, none⟩) hzb).trans t1
          have s2 := (b2.cell (p := ⟨wr.heap.size, 2, none⟩) hzb).trans t2
          clear D2 DS DC b2 HC bb ewb t0 t1 t2
          go_wp2
          go_roundw
          case rel => exact ⟨i + 1, j + 1, _, by omega, by omega, by go_num, by go_num, D2'⟩
          case measure => simp only [intOf]; omega
      · obtain rfl : j = n := by omega
        have hin : i < j := hij
        obtain ⟨w3, r3, o3, g3⟩ := run_clear_rest D.out.row D.out.len.symm hij 0 (cap - i)
        have etk : M.take i = stay slot L := by
          have := D.out.tk
          rwa [List.take_of_length_le (show L.length ≤ j by rw [EN.out]; exact Nat.le_refl _)] at this
        have eil : (stay slot L).length = i := by rw [← etk, List.length_take, D.out.len]; omega
        rw [etk] at o3
        have O3 : Hid (w3.ownsRow base 52 3 (.slice (some ⟨g, 0, none⟩) i cap) i (cells3 (stay slot L))) := o3
        have G3 : Hid (w.grownBy w3 (some g)) := D.out.gr.trans g3
        have EI : Hid ((stay slot L).length = i) := eil
        have hci : ¬ (cap = i) := by omega
        have hic : i ≤ cap := by omega
        have hij' : i ≤ j := by omega
        clear o3 g3 etk eil D
        go_wp2
        go_ret
        refine ⟨some ⟨g, 0, none⟩, cap, ?_, ?_, G3.out, rfl⟩
        · rw [EI.out]
          rfl
        · rw [EI.out]
          exact O3.out
  · have hfe : firstGo slot L = L.length := by omega
    have hstay : stay slot L = L := by
      have := firstGo_take slot L L.length (by omega)
      rw [List.take_length] at this
      exact this
    rw [if_neg hf] at HX
    rw [hstay]
    have HROW : Hid (w.ownsRow base 52 3 sv L.length (cells3 L)) := hrow
    have HES : Hid (sv = .slice a L.length cap) := esv
    rw [esv]
    clear hrow hA hT hS hn hS0 hf hfe hstay esv hfl
    go_enter Tryz.func71, Tryz.ntmps71
    go_wp2_with fail
    refine HX.mono ?_
    clear HX
    rintro e w1 ⟨rfl, b1⟩
    have O1 : Hid (w1.ownsRow base 52 3 (.slice a L.length cap) L.length (cells3 L)) := by
      show w1.ownsRow base 52 3 (.slice a L.length cap) L.length (cells3 L)
      rw [← HES.out]
      exact owns_kept HROW.out (fun g e => b1.block g (row_kind HROW.out e).2.1)
    have G1 : Hid (w.grownBy w1 (Value.slice a L.length cap).ownBlock) := ⟨b1.os, b1.tape, b1.output, b1.size, fun k hk _ => b1.block k hk⟩
    clear b1
    go_wp2
    go_ret
    exact ⟨a, cap, rfl, O1.out, G1.out, rfl⟩
end
end Go.Proofs.YtdchnfggmkokhaaGreatDoor

namespace Go.Proofs.YtdchnfggmkokhaaGreatDoor
open Go.RowKit Cod
attribute [local go_sem] Oper.semAt_some
set_option linter.unusedVariables false

theorem Fit.stay {L : List Acc} (h : Fit L) (slot : Int) : Fit (stay slot L) :=
  ⟨h.srt.sublist List.filter_sublist, Nat.le_trans (List.length_filter_le _ _) h.len, fun a ha => h.amt a (List.mem_filter.1 ha).1, fun a ha => h.nm a (List.mem_filter.1 ha).1, fun a ha => h.by_ a (List.mem_filter.1 ha).1⟩
section
variable {w : World} {base N : Nat} {sv : Value} {L : List Acc}
theorem BookIn.cut {w3 : World} {a3 : Option Addr} {c3 : Nat} {L' : List Acc} (h : BookIn w base N sv L) (o : w3.ownsRow base 52 3 (.slice a3 L'.length c3) L'.length (cells3 L')) (gr : w.grownBy w3 sv.ownBlock) (hs : (Value.slice a3 L'.length c3).ownBlock = sv.ownBlock) (hf : Fit L') : w3.cell? ⟨N, 0, none⟩ = some sv ∧ w3.frozen? ⟨N, 0, none⟩ = false ∧ BTold w (w3.setCell ⟨N, 0, none⟩ (.slice a3 L'.length c3)) base N sv L' := by
  have hN : w3.heap[N]? = some (.cells #[sv] 45 (0, 0)) := (gr.block N h.ltN (fun e => h.ne e.symm rfl)).trans h.hN
  have e := setCell_eq_setRow w3 N 0 _ _ _ (.slice a3 L'.length c3) hN
  have hne : ∀ g, (Value.slice a3 L'.length c3).ownBlock = some g → g ≠ N := fun g e q => by
    obtain ⟨_, _, cur, h3⟩ := row_kind o e
    rw [q, hN] at h3
    injection h3 with h3
    injection h3 with _ h3
    exact absurd h3 (by decide)
  refine ⟨by simp [World.cell?, hN], by simp [World.frozen?, hN], .slice a3 L'.length c3, ⟨?_, ?_, h.bN, hf⟩, ⟨?_, ?_, ?_, ?_, fun k hk h1 h2 => ?_⟩, fun k q => .inl (by rw [← hs]; exact q)⟩
  · rw [e]
    exact setRow_heap _ _ _ _ _ _ hN
  · rw [e]
    exact owns_kept o (fun g q => setRow_other _ _ _ _ (hne g q))
  · rw [e]; exact gr.os
  · rw [e]; exact gr.tape
  · rw [e]; exact gr.output
  · rw [e]; simpa using gr.size
  · rw [e, setRow_other _ _ _ _ h1]
    exact gr.block k hk (fun q => h2 q)
set_option maxRecDepth 100000 in
set_option maxHeartbeats 1000000 in
theorem drop_any (h : BookIn w base N sv L) (hT : Tabs w) (hbT : 3 ≤ base) (slot : Int) : Calls Tryz.prog 36 #[.pointer (some ⟨N, 0, none⟩), .int .i64 slot] w fun e w' => e = .returned (.int .i64 ((L.length : Int) - ((stay slot L).length : Int))) ∧ BTold w w' base N sv (stay slot L) := by
  obtain ⟨w1, ew1⟩ : ∃ w1, w1 = w.alloc (.cells #[.int .i64 slot] 3) := ⟨_, rfl⟩
  have b1 : Below w.heap.size w w1 := by rw [ew1]; exact (Below.refl _ w).alloc (Nat.le_refl _) _
  have h1 := h.below b1
  have HL1 := len_any h1
  have HD := deleteFunc_any h1.row w.heap.size slot (hT.below b1 hT.size) hbT h1.size (by rw [ew1]; exact heap_alloc_new w _) (fun p hp => (h.fit.acc hp).1) h.fit.len
  have H1 : Hid (BookIn w1 base N sv L) := h1
  have B1 : Hid (Below w.heap.size w w1) := b1
  have HF : Hid (Fit (stay slot L)) := h.fit.stay slot
  obtain ⟨a, cap, esv, _⟩ := h.sv_form
  have c0 := h1.c0
  have hle : (stay slot L).length ≤ L.length := List.length_filter_le _ _
  have hll := h.fit.len
  rw [esv] at c0 HD
  have ES : Hid (sv = .slice a L.length cap) := esv
  clear h h1 b1 hT esv
  go_enter Tryz.func36, Tryz.ntmps36
  go_wp2_with fail
  rw [← ew1]
  refine HL1.mono ?_
  rintro e w2 ⟨rfl, rfl⟩
  clear HL1 ew1
  go_wp2_with fail
  refine HD.mono ?_
  clear HD
  rintro e w3 ⟨a3, c3, rfl, o3, g3, s3⟩
  rw [← ES.out] at g3 s3
  obtain ⟨z0, z1, z2⟩ := H1.out.cut o3 g3 s3 HF.out
  have Z2 : Hid (BTold w2 (w3.setCell ⟨N, 0, none⟩ (.slice a3 (stay slot L).length c3)) base N sv (stay slot L)) := z2
  have HL2 : Hid (Calls Tryz.prog 43 #[.pointer (some ⟨N, 0, none⟩)] (w3.setCell ⟨N, 0, none⟩ (.slice a3 (stay slot L).length c3)) fun e w' => e = .returned (.int .i64 ((stay slot L).length : Nat)) ∧ w' = (w3.setCell ⟨N, 0, none⟩ (.slice a3 (stay slot L).length c3))) := by
    obtain ⟨sv', q, _⟩ := z2
    exact len_any q
  clear o3 g3 s3 z2
  go_wp2_with fail
  refine HL2.out.mono ?_
  rintro e w4 ⟨rfl, rfl⟩
  clear HL2
  go_wp2
  go_ret
  exact ⟨rfl, Z2.out.after B1.out⟩
end
section
variable {w0 w : World} {N : Nat} {L : List Acc}
theorem my_drop (h : MyB w0 w N L) (hT : Tabs w0) (slot : Int) : Calls Tryz.prog 36 #[.pointer (some ⟨N, 0, none⟩), .int .i64 slot] w fun e w' => e = .returned (.int .i64 ((L.length : Int) - ((stay slot L).length : Int))) ∧ MyB w0 w' N (stay slot L) := by
  obtain ⟨sv, h1, b⟩ := h
  exact (drop_any h1 (hT.below b hT.size) hT.size slot).mono (by rintro e w' ⟨rfl, q⟩; exact ⟨rfl, MyB.told h1 b q⟩)
theorem my_rows (h : MyB w0 w N L) (hT : Tabs w0) (slot : Int) : Calls Tryz.prog 40 #[.pointer (some ⟨N, 0, none⟩), .int .i64 slot] w fun e w' => ∃ a c, e = .returned (.slice a (rowsOf slot L).length c) ∧ RowsAt w' a (rowsOf slot L).length (rowsOf slot L) ∧ Below w.heap.size w w' ∧ MyB w0 w' N L := by
  obtain ⟨sv, h1, b⟩ := h
  refine (rows_any h1 (hT.below b hT.size) slot).mono ?_
  rintro e w' ⟨a, c, rfl, q, b1⟩
  obtain ⟨a', c', e', q'⟩ := rowsAt_owned q rfl (by have := rowsOf_len slot L; have := h1.fit.len; omega)
  cases e'
  exact ⟨a, c, rfl, q', b1, sv, h1.below b1, b.trans (b1.mono b.size)⟩
end
end Go.Proofs.YtdchnfggmkokhaaGreatDoor

namespace Go.Proofs.YtdchnfggmkokhaaGreatDoor
open Go.RowKit
set_option linter.unusedVariables false

/-- The reference's book in memory. -/
structure RefB (w : World) (base N : Nat) (sv : Value) (L : List Acc) : Prop where
  hN : w.heap[N]? = some (.cells #[sv] 28 (0, 0))
  row : w.ownsRow base 89 3 sv L.length (cells3 L)
  bN : base ≤ N
  fit : Fit L
theorem info_qacc : (Tryz.prog.info? 89).map (fun i => (i.zero, i.size, i.bytes)) = some (some (.agg #[.string ⟨#[]⟩, .int .i64 0, .string ⟨#[]⟩]), 3, 40) := by kernel_rfl
section
variable {w w' : World} {base N : Nat} {sv : Value} {L : List Acc}
theorem RefB.ltN (h : RefB w base N sv L) : N < w.heap.size := (Array.getElem?_eq_some_iff.1 h.hN).1
theorem RefB.size (h : RefB w base N sv L) : base ≤ w.heap.size := Nat.le_trans h.bN (Nat.le_of_lt h.ltN)
theorem RefB.ne (h : RefB w base N sv L) {g : Nat} (e : sv.ownBlock = some g) : g ≠ N := fun q => by
  obtain ⟨_, _, cur, h3⟩ := row_kind h.row e
  rw [q, h.hN] at h3
  injection h3 with h3
  injection h3 with _ h3
  exact absurd h3 (by decide)
theorem RefB.keep (h : RefB w base N sv L) (kN : w'.heap[N]? = w.heap[N]?) (kr : ∀ g, sv.ownBlock = some g → w'.heap[g]? = w.heap[g]?) : RefB w' base N sv L :=
  { h with hN := kN.trans h.hN, row := owns_kept h.row kr }
theorem RefB.below (h : RefB w base N sv L) (k : Below w.heap.size w w') : RefB w' base N sv L :=
  h.keep (k.block N h.ltN) (fun g e => k.block g (row_kind h.row e).2.1)
theorem RefB.base_le (h : RefB w base N sv L) {b' : Nat} (hb : b' ≤ base) : RefB w b' N sv L :=
  { h with
    row := ⟨h.row.1, h.row.2.imp id (by rintro ⟨g, c, cur, e, h1, h2⟩; exact ⟨g, c, cur, e, Nat.le_trans hb h1, h2⟩)⟩
    bN := Nat.le_trans hb h.bN }
theorem RefB.c0 (h : RefB w base N sv L) : w.cell? ⟨N, 0, none⟩ = some sv := by have := h.hN; simp [World.cell?, this]
theorem RefB.fz (h : RefB w base N sv L) (i : Nat) : w.frozen? ⟨N, i, none⟩ = false := by have := h.hN; simp [World.frozen?, this]
theorem RefB.chg_below (h : RefB w base N sv L) (c : Chg w w' N sv.ownBlock) : Below base w w' :=
  c.below h.size h.bN (fun g e => (row_kind h.row e).1)
theorem RefB.sv_form (h : RefB w base N sv L) : ∃ a c, sv = .slice a L.length c ∧ (a = none → c = 0) ∧ L.length ≤ c ∧ c ≤ maxLen := by
  obtain ⟨a, c, h1, h2, h3, h4, _⟩ := row_form h.row
  exact ⟨a, c, h1, h2, h3, h4⟩
theorem qrow_at {v : Value} {l : List Acc} {n : Nat} (h : w.ownsRow base 89 3 v n (cells3 l)) (hn : n = l.length) {k : Nat} (hk : k < l.length) : ∃ g c, v = .slice (some ⟨g, 0, none⟩) l.length c ∧ w.cell? ⟨g, k * 3, none⟩ = some (.string l[k].nm) ∧ w.cell? ⟨g, k * 3 + 1, none⟩ = some (.int .i64 l[k].amt) ∧ w.cell? ⟨g, k * 3 + 2, none⟩ = some (.string l[k].by_) := by
  subst hn
  rcases h.2 with ⟨_, h0⟩ | ⟨g, c, cur, rfl, hb, hg, hnc, hcm, hcs, htake⟩
  · omega
  · refine ⟨g, c, rfl, ?_⟩
    obtain ⟨h1, h2, h3⟩ := cells3_at l k hk
    rw [← htake, List.getElem?_take, if_pos (by omega)] at h1 h2 h3
    simp only [World.cell?, hg]
    exact ⟨by simpa using h1, by simpa using h2, by simpa using h3⟩
theorem qrow_accs {v : Value} {l : List Acc} {n : Nat} (h : w.ownsRow base 89 3 v n (cells3 l)) (hn : n = l.length) : ∃ a c, v = .slice a l.length c ∧ AccsAt w a l ∧ (a = none → c = 0) := by
  obtain ⟨a, c, e, hnil, _⟩ := row_form h
  subst hn
  refine ⟨a, c, e, ?_, hnil⟩
  by_cases h0 : l = []
  · exact .inl h0
  · have hl : 0 < l.length := List.length_pos_iff.2 h0
    obtain ⟨g, c', e2, _⟩ := qrow_at h rfl hl
    rw [e] at e2
    cases e2
    refine .inr ⟨g, 0, rfl, fun j hj => ?_⟩
    obtain ⟨g', c'', e3, q⟩ := qrow_at h rfl hj
    rw [e] at e3
    cases e3
    rw [Nat.zero_add]
    exact q
end
end Go.Proofs.YtdchnfggmkokhaaGreatDoor

namespace Go.Proofs.YtdchnfggmkokhaaGreatDoor
open Go.RowKit
attribute [local go_sem] Oper.semAt_some
set_option linter.unusedVariables false

theorem bytesLess_is : ∀ (x y : List UInt8), Op.bytesLess x y = decide (x < y)
  | [], [] => by simp [Op.bytesLess]
  | _ :: _, [] => by simp [Op.bytesLess]
  | [], _ :: _ => by simp [Op.bytesLess]
  | a :: x, b :: y => by
    rw [Op.bytesLess, bytesLess_is x y]
    simp only [List.cons_lt_cons_iff]
    by_cases h1 : a < b <;> by_cases h2 : a = b <;> by_cases h3 : x < y <;> simp [h1, h2, h3]
theorem less_ahead (a b : ByteArray) : Op.bytesLess a.toList b.toList = decide (Ahead a b) := by
  rw [bytesLess_is, ByteArray.toList_eq, ByteArray.toList_eq]
  rfl
section
variable {w : World} {base N : Nat} {sv : Value} {L : List Acc}
set_option maxRecDepth 100000 in
set_option maxHeartbeats 2000000 in
theorem qfind_any (h : RefB w base N sv L) (t : ByteArray) :
    Calls Tryz.prog 63 #[.pointer (some ⟨N, 0, none⟩), .string t] w fun e w' => e = .returned (.tuple #[.int .i64 (under L t : Nat), .bool (hasN L t)]) ∧ Below w.heap.size w w' := by
  have c0 := h.c0
  obtain ⟨a, cap, esv, _⟩ := h.sv_form
  have H : Hid (RefB w base N sv L) := h
  have HS : Hid (Sorted L) := h.fit.srt
  have ES : Hid (sv = .slice a L.length cap) := esv
  rw [esv] at c0
  have hl : L.length ≤ 200 := h.fit.len
  obtain ⟨n, en⟩ : ∃ n, L.length = n := ⟨_, rfl⟩
  have EN : Hid (L.length = n) := en
  rw [en] at c0 hl
  obtain ⟨u, eu⟩ : ∃ u, under L t = u := ⟨_, rfl⟩
  have EU : Hid (under L t = u) := eu
  obtain ⟨f, ef⟩ : ∃ f, hasN L t = f := ⟨_, rfl⟩
  have EF : Hid (hasN L t = f) := ef
  rw [eu, ef]
  clear h esv en eu ef
  go_enter Tryz.func63, Tryz.ntmps63
  go_wp2
  go_loop [6] (fun i => ∃ k : Nat, k ≤ n ∧ i = .int .i64 k ∧ Hid (∀ j (hj : j < L.length), j < k → Ahead L[j].nm t)) (fun i => n - (intOf i).toNat)
  case atStart => exact ⟨0, Nat.zero_le _, rfl, fun j hj h => by omega⟩
  case round =>
    obtain ⟨k, hk, rfl, I⟩ := hrel
    by_cases hlt : k < n
    · have hk2 : k < L.length := by rw [EN.out]; exact hlt
      obtain ⟨g, cp, e2, y0, y1, y2⟩ := qrow_at H.out.row rfl hk2
      rw [ES.out] at e2
      injection e2 with e3 e4 e5
      subst e3
      clear e4 e5
      obtain ⟨p, ep⟩ : ∃ p, L[k]'hk2 = p := ⟨_, rfl⟩
      have EP : Hid (∀ h, L[k]'h = p) := fun _ => ep
      rw [ep] at y0 y1 y2
      clear ep
      obtain ⟨nm, amt, by_⟩ := p
      simp only at y0 y1 y2
      by_cases hah : Ahead nm t
      · have hls : Op.bytesLess nm.toList t.toList = true := by rw [less_ahead, decide_eq_true hah]
        have I2 : Hid (∀ j (hj : j < L.length), j < k + 1 → Ahead L[j].nm t) := fun j hj h => by
          rcases Nat.lt_or_ge j k with x | x
          · exact I.out j hj x
          · obtain rfl : j = k := by omega
            rw [EP.out]
            exact hah
        clear hah
        go_wp2
        go_round
        case rel => exact ⟨k + 1, by omega, by go_num, I2⟩
        case measure => simp only [intOf]; omega
      · have hls : Op.bytesLess nm.toList t.toList = false := by rw [less_ahead, decide_eq_false hah]
        have hku : u = k := by
          rw [← EU.out]
          refine under_split HS.out (by omega) I.out (fun j hj hkj x => ?_)
          rcases Nat.lt_or_ge k j with y | y
          · have := (List.pairwise_iff_getElem.1 HS.out) k j hk2 hj y
            rw [EP.out] at this
            exact hah (ahead_trans this x)
          · obtain rfl : j = k := by omega
            rw [EP.out] at x
            exact hah x
        subst hku
        by_cases hnt : nm = t
        · have hf : f = true := by
            rw [← EF.out, hasN_iff HS.out]
            exact ⟨by rw [EU.out]; exact hk2, by simp only [EU.out]; rw [EP.out]; exact hnt⟩
          have HF : Hid (f = true) := hf
          have heq : (nm.toList == t.toList) = true := by rw [hnt]; simp
          have heq2 : nm.toList = t.toList := by rw [hnt]
          clear hah hf hnt heq2
          go_wp2
          go_quiet (fail)
          go_wp2
          go_ret2
          exact ⟨by rw [HF.out]; rfl, below_drewN' (Below.refl _ w) _⟩
        · have hf : f = false := by
            rw [← EF.out, Bool.eq_false_iff]
            intro x
            obtain ⟨h1, h2⟩ := (hasN_iff HS.out t).1 x
            simp only [EU.out] at h2
            rw [EP.out] at h2
            exact hnt h2
          have HF : Hid (f = false) := hf
          have heq := text_ne hnt
          clear hah hf hnt
          go_wp2
          go_quiet (fail)
          go_wp2
          go_ret2
          exact ⟨by rw [HF.out]; rfl, below_drewN' (Below.refl _ w) _⟩
    · obtain rfl : k = n := by omega
      have hku : u = k := by
        rw [← EU.out]
        exact under_split HS.out (by rw [EN.out]; exact Nat.le_refl _) I.out (fun j hj hkj x => by have := EN.out; omega)
      subst hku
      have hf : f = false := by
        rw [← EF.out, Bool.eq_false_iff]
        intro x
        obtain ⟨h1, h2⟩ := (hasN_iff HS.out t).1 x
        have := EN.out
        have := EU.out
        omega
      have HF : Hid (f = false) := hf
      clear hf
      go_wp2
      go_quiet (fail)
      go_wp2
      go_ret2
      exact ⟨by rw [HF.out]; rfl, below_drewN' (Below.refl _ w) _⟩
end
end Go.Proofs.YtdchnfggmkokhaaGreatDoor
