/- The law's fixed calls. -/
import Derived.Test.YtogbcciocgpknaaXAskW
import Derived.Test.YtogbcciocgpknaaTaC
import Derived.Deep.MidRow
namespace Go.Proofs.Ytogbcciocgpknaa
open Go.RowKit Go.Shelf
attribute [local go_sem] Oper.semAt_some
set_option linter.unusedVariables false

def T0 : TxnD := ⟨⟨#[97, 110, 110, 47, 107, 47, 49, 46, 49]⟩, ⟨#[97, 110, 110]⟩, ⟨#[107]⟩, ⟨#[98, 111, 98]⟩, 5, false, 0⟩
theorem asksL_T0 : asksL 1 3 [T0] = [((2 : Int), wantC T0), ((3 : Int), wantC T0)] := by
  simp [asksL, othersL, upto, askOf]
set_option maxRecDepth 100000 in
set_option maxHeartbeats 4000000 in
theorem knownX_any (w : World) : Calls Try.prog 21 #[] w fun e w' => e = .returned (.bool true) ∧ Below w.heap.size w w' := by
  have bA : Below w.heap.size w (w.alloc (.cells #[.string ⟨#[97, 110, 110, 47, 107, 47, 49, 46, 49]⟩, .string ⟨#[97, 110, 110]⟩, .string ⟨#[107]⟩, .string ⟨#[98, 111, 98]⟩, .int .i64 5, .bool false, .int .i64 0] 90)) := (Below.refl _ w).alloc (Nat.le_refl _) _
  have BA : Hid (Below w.heap.size w (w.alloc (.cells #[.string ⟨#[97, 110, 110, 47, 107, 47, 49, 46, 49]⟩, .string ⟨#[97, 110, 110]⟩, .string ⟨#[107]⟩, .string ⟨#[98, 111, 98]⟩, .int .i64 5, .bool false, .int .i64 0] 90))) := bA
  have HA := asks_any 1 3 (some ⟨w.heap.size, 0, none⟩) 1 1 [T0] (w.alloc (.cells #[.string ⟨#[97, 110, 110, 47, 107, 47, 49, 46, 49]⟩, .string ⟨#[97, 110, 110]⟩, .string ⟨#[107]⟩, .string ⟨#[98, 111, 98]⟩, .int .i64 5, .bool false, .int .i64 0] 90)) ⟨rfl, .inr ⟨w.heap.size, 0, rfl, by simp, fun i hi j v hv => by
    obtain rfl : i = 0 := by simpa using hi
    rw [Nat.zero_mul, Nat.zero_add]
    try rw [Nat.zero_add]
    simp only [World.cell?, heap_alloc_new]
    simpa [T0, TxnD.cells] using hv⟩⟩ (fun e => by cases e) (by omega)
  rw [asksL_T0] at HA
  clear bA
  go_enter Try.func21, Try.ntmps21
  go_wp2_with fail
  refine HA.mono ?_
  rintro e w2 ⟨v, rfl, o, b2⟩
  clear HA
  obtain ⟨a', c', rfl, hat, _⟩ := recs_owned askCells18 o rfl
  obtain ⟨g, off, rfl, h0⟩ := hat.at (i := 0) (by decide)
  obtain ⟨g', off', eg, h1⟩ := hat.at (i := 1) (by decide)
  cases eg
  have B2 : Hid (Below w.heap.size w w2) := BA.out.trans (b2.mono BA.out.size)
  have hg : g < w2.heap.size := World.block_lt_of_cell? w2 _ (h0 0 _ rfl)
  have r0 : ∀ W, Below w2.heap.size w2 W → W.rangeAt g off [.int .i64 2, .int .i64 2, .int .i64 0, .string ⟨#[]⟩, .string ⟨#[]⟩, .int .i64 0, .string ⟨#[]⟩, .int .i64 0, .int .i64 0, .string ⟨#[97, 110, 110, 47, 107, 47, 49, 46, 49]⟩, .string ⟨#[98, 111, 98]⟩, .int .i64 5, .int .i64 0, .int .i64 0, .int .i64 0, .int .i64 0, .bool false, .slice none 0 0] := fun W bW j v hv => by
    rw [bW.cell (p := ⟨g, off + j, none⟩) hg]
    have := h0 j v hv
    simpa using this
  have r1 : ∀ W, Below w2.heap.size w2 W → W.rangeAt g (off + 18) [.int .i64 3, .int .i64 2, .int .i64 0, .string ⟨#[]⟩, .string ⟨#[]⟩, .int .i64 0, .string ⟨#[]⟩, .int .i64 0, .int .i64 0, .string ⟨#[97, 110, 110, 47, 107, 47, 49, 46, 49]⟩, .string ⟨#[98, 111, 98]⟩, .int .i64 5, .int .i64 0, .int .i64 0, .int .i64 0, .int .i64 0, .bool false, .slice none 0 0] := fun W bW j v hv => by
    rw [bW.cell (p := ⟨g, off + 18 + j, none⟩) hg]
    have := h1 j v hv
    simpa using this
  have k0 := r0 w2 (Below.refl _ _) 0 _ rfl
  have k1 := r0 w2 (Below.refl _ _) 1 _ rfl
  have k2 := r1 w2 (Below.refl _ _) 0 _ rfl
  simp only [Nat.add_zero, List.length_cons, List.length_nil, Nat.reduceAdd] at k0 k1 k2 ⊢
  obtain ⟨C0, e0⟩ : ∃ C0 : List Value, C0 = [.int .i64 2, .int .i64 2, .int .i64 0, .string ⟨#[]⟩, .string ⟨#[]⟩, .int .i64 0, .string ⟨#[]⟩, .int .i64 0, .int .i64 0, .string ⟨#[97, 110, 110, 47, 107, 47, 49, 46, 49]⟩, .string ⟨#[98, 111, 98]⟩, .int .i64 5, .int .i64 0, .int .i64 0, .int .i64 0, .int .i64 0, .bool false, .slice none 0 0] := ⟨_, rfl⟩
  obtain ⟨C1, e1⟩ : ∃ C1 : List Value, C1 = [.int .i64 3, .int .i64 2, .int .i64 0, .string ⟨#[]⟩, .string ⟨#[]⟩, .int .i64 0, .string ⟨#[]⟩, .int .i64 0, .int .i64 0, .string ⟨#[97, 110, 110, 47, 107, 47, 49, 46, 49]⟩, .string ⟨#[98, 111, 98]⟩, .int .i64 5, .int .i64 0, .int .i64 0, .int .i64 0, .int .i64 0, .bool false, .slice none 0 0] := ⟨_, rfl⟩
  have R0 : Hid (w2.rangeAt g off C0) := by rw [e0]; exact r0 w2 (Below.refl _ _)
  have R1 : Hid (∀ W, Below w2.heap.size w2 W → W.rangeAt g (off + 18) C1) := by rw [e1]; exact r1
  have S0 : Hid ((Try.prog.info? 40).map (·.size) = some C0.length) := by rw [e0]; show _ = _; kernel_rfl
  have S1 : Hid ((Try.prog.info? 40).map (·.size) = some C1.length) := by rw [e1]; show _ = _; kernel_rfl
  have N0 : Hid (∀ W, Calls Try.prog 50 #[.agg C0.toArray, .agg #[.int .i64 5, .bool false, .int .i64 0, .int .i64 0, .slice none 0 0, .slice none 0 0]] W fun e w' => e = .returned (.tuple #[.agg #[.int .i64 0, .int .i64 0, .string ⟨#[]⟩, .string ⟨#[]⟩, .int .i64 0, .string ⟨#[]⟩, .int .i64 0, .int .i64 0, .string ⟨#[]⟩, .string ⟨#[]⟩, .int .i64 0, .int .i64 0, .int .i64 0, .int .i64 0, .int .i64 0, .bool false, .slice none 0 0], .bool false]) ∧ Below W.heap.size W w') := by
    rw [e0]; exact fun W => next_any 2 (wantC T0) 5 false 0 0 _ _ W
  have N1 : Hid (∀ W, Calls Try.prog 50 #[.agg C1.toArray, .agg #[.int .i64 0, .bool false, .int .i64 0, .int .i64 0, .slice none 0 0, .slice none 0 0]] W fun e w' => e = .returned (.tuple #[.agg #[.int .i64 3, .int .i64 0, .string ⟨#[]⟩, .string ⟨#[]⟩, .int .i64 0, .string ⟨#[]⟩, .int .i64 0, .int .i64 0, .string ⟨#[97, 110, 110, 47, 107, 47, 49, 46, 49]⟩, .string ⟨#[]⟩, .int .i64 0, .int .i64 0, .int .i64 0, .int .i64 0, .int .i64 0, .bool false, .slice none 0 0], .bool true]) ∧ Below W.heap.size W w') := by
    rw [e1]; exact fun W => next_any 3 (wantC T0) 0 false 0 0 _ _ W
  clear o b2 hat h0 h1 hg r0 r1 e0 e1 BA
  go_wp2_with (first
    | (refine wpList_load_mid rfl 40 (.tmp 36) rfl g off rfl C0 _ R0.out Try.underlying40 rfl S0.out ?_))
  refine (N0.out _).mono ?_
  rintro e w3 ⟨rfl, b3⟩
  have B3 : Hid (∀ o, Below w2.heap.size w2 (w3.alloc o)) := fun o => b3.trans (((Below.refl _ w3).alloc (Nat.le_refl _) _).mono b3.size)
  have B5 : Hid (∀ o W, Below (w3.alloc o).heap.size (w3.alloc o) W → Below w.heap.size w W) := fun o W h => by
    have h3 := B2.out.trans ((B3.out o).mono B2.out.size)
    exact h3.trans (h.mono h3.size)
  clear b3 R0 S0 N0 k0 k1 k2
  go_wp2_with (first
    | (refine wpList_load_mid rfl 40 (.tmp 44) rfl g (off + 18) rfl C1 _ (R1.out _ (B3.out _)) Try.underlying40 rfl S1.out ?_))
  refine (N1.out _).mono ?_
  rintro e w4 ⟨rfl, b4⟩
  have B4 : Hid (∀ o, Below w.heap.size w (w4.alloc o)) := fun o => by
    have h4 := B5.out _ _ b4
    exact h4.trans (((Below.refl _ w4).alloc (Nat.le_refl _) _).mono h4.size)
  clear b4 R1 S1 N1 B3 B2 B5
  go_wp2
  go_ret
  exact ⟨rfl, B4.out _⟩
end Go.Proofs.Ytogbcciocgpknaa
