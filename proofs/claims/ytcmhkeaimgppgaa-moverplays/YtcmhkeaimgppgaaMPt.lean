/- MoverPlays: small facts for the walk. -/
import Derived.Test.YtcmhkeaimgppgaaMP19
import Derived.Test.YtcmhkeaimgppgaaMP23
import Derived.Test.YtcmhkeaimgppgaaMP32
import Derived.Test.YtcmhkeaimgppgaaMP37
import Derived.Test.YtcmhkeaimgppgaaRAsks
namespace Go.Proofs.Ytcmhkeaimgppgaa
open Go.RowKit Go.Shelf
set_option linter.unusedVariables false

theorem mop_box {W : World} {B : Nat} {c : MopV} (h : W.heap[B]? = some (.cells c.cells.toArray 44 (0, 0))) : W.cell? ⟨B, 0, none⟩ = some (.int .i64 c.k) ∧ W.rangeAt B 1 [.int .i64 c.x.slot, .int .i64 c.x.fr, .int .i64 c.x.to, .int .i64 c.x.ep, .int .i64 c.x.ph, .int .i64 c.x.n] ∧ W.rangeAt B 7 c.ask ∧ W.rangeAt B 25 [.int .i64 c.r.why, .bool c.r.wait, .int .i64 c.r.rw, .int .i64 c.r.ra, c.r.rows, .slice c.r.da c.r.l.length c.r.dc] := by
  have hr := range_box h
  exact ⟨hr 0 _ rfl, range_part hr 1 6, range_part hr 7 18, range_part hr 25 6⟩
theorem grown_box {X X' : World} {row : Option Nat} {B : Nat} {cs : Array Value} {t : TypeId} {z : Nat × Nat} (hg : X.grownBy X' row) (hr : ∀ g, row = some g → ∃ cur, X.heap[g]? = some (.cells cur 5 (0, 0))) (h : X.heap[B]? = some (.cells cs t z)) (ht : t ≠ 5) : X'.heap[B]? = some (.cells cs t z) :=
  (hg.block _ (Array.getElem?_eq_some_iff.1 h).1 (fun e => by
    obtain ⟨cur, hc⟩ := hr B e.symm
    exact cells_ne h hc ht rfl)).trans h
theorem told_res (M : MD) (x : MvD) (q : AskI) (a : Option Addr) (cap : Nat) (r : ResD) : toldM M x q ⟨r.why, r.wait, 0, 0, .slice none 0 0, a, cap, r.l⟩ = toldM M x q r := by
  obtain ⟨why, wait, rw_, ra, rows, da, dc, l⟩ := r
  rfl
/-- Behind what was asked: the bytes that the program told are spoiled. -/
theorem ask_spoil {w w1 Y Z Z' : World} {G1 G2 L : Nat} {M R : MD} {c : MopV} {u : Value} {n : Nat} {xs : List Value} (h : PI w (fun g => g < w1.heap.size) Z G1 G2 L M R c) (hb : w.heap.size ≤ w1.heap.size) (hu : Y.ownsRow w1.heap.size 5 1 u n xs) (huZ : Z.ownsRow w1.heap.size 5 1 u n xs) (hl : ∀ g, (Value.slice c.da c.dl.length c.dc).ownBlock = some g → Y.heap.size ≤ g) (hg : Z.grownBy Z' u.ownBlock) : PI w (fun _ => True) Z' G1 G2 L M R c :=
  (h.spoil hg fun g e => by
    obtain ⟨k1, k2, _⟩ := row_kind hu e
    obtain ⟨_, _, k3⟩ := row_kind huZ e
    exact ⟨Nat.le_trans hb k1, k3, Nat.not_lt.2 k1, fun e2 => by have := hl g e2; omega⟩).sub (fun _ _ _ => trivial)
/-- Behind what was told. -/
theorem told_spoil {w V Z Z' : World} {G1 G2 L : Nat} {M R : MD} {c : MopV} {u : Value} {n : Nat} {xs : List Value} (h : PI w (fun g => u.ownBlock ≠ some g) Z G1 G2 L M R c) (hb : w.heap.size ≤ V.heap.size) (huZ : Z.ownsRow V.heap.size 5 1 u n xs) (hl : ∀ g, (Value.slice c.da c.dl.length c.dc).ownBlock = some g → g < V.heap.size) (hg : Z.grownBy Z' u.ownBlock) : PI w (fun _ => True) Z' G1 G2 L M R c :=
  (h.spoil hg fun g e => by
    obtain ⟨k1, _, k3⟩ := row_kind huZ e
    exact ⟨Nat.le_trans hb k1, k3, fun e2 => e2 e, fun e2 => by have := hl g e2; omega⟩).sub (fun _ _ _ => trivial)
theorem PI.own_lt {w X : World} {D : Nat → Prop} {G1 G2 L : Nat} {M R : MD} {c : MopV} (h : PI w D X G1 G2 L M R c) : ∀ g, (Value.slice c.da c.dl.length c.dc).ownBlock = some g → g < X.heap.size := fun g e => (row_kind h.ls e).2.1
/-- A box that is made and filled. -/
theorem box_new {X : World} (Z : Array Value) (t : TypeId) (cs : Array Value) : Below X.heap.size X ((X.alloc (.cells Z t)).setRow X.heap.size cs) ∧ ((X.alloc (.cells Z t)).setRow X.heap.size cs).heap[X.heap.size]? = some (.cells cs t (0, 0)) ∧ (X.alloc (.cells Z t)).heap[X.heap.size]? = some (.cells Z t (0, 0)) ∧ X.heap.size < ((X.alloc (.cells Z t)).setRow X.heap.size cs).heap.size :=
  ⟨below_row ((Below.refl _ X).alloc (Nat.le_refl _) _) (Nat.le_refl _) _, setRow_self (heap_alloc_new X _), heap_alloc_new X _, by simp [World.setRow]⟩
theorem askP_len {M : MD} {x : MvD} {p : PAsk} (h : askP M x = some p) : p.l.length ≤ M.d.length := by
  unfold askP at h
  split at h
  · cases h; simp
  · split at h
    · split at h
      · cases h
        dsimp only
        rw [List.length_take, List.length_drop]
        omega
      · cases h; simp
    · split at h
      · cases h; simp
      · cases h
theorem duty_k {k : Int} : ((k == 0) = true → k = 0) := by simp
end Go.Proofs.Ytcmhkeaimgppgaa
