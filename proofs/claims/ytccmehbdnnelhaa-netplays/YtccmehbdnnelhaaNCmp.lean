/- Package net: letters in a slice; comparing turns. -/
import Derived.Test.YtccmehbdnnelhaaNMath
namespace Go.Proofs.Ytccmehbdnnelhaa
open Go.RowKit
set_option linter.unusedVariables false

/-- Letters in a slice. -/
def PostsAt (w : World) (a : Option Addr) (l : List Post) : Prop := l = [] ∨ ∃ g o, a = some ⟨g, o, none⟩ ∧ ∀ i (hi : i < l.length), w.cell? ⟨g, o + i * 4, none⟩ = some (.int .i64 l[i].fr) ∧ w.cell? ⟨g, o + i * 4 + 1, none⟩ = some (.int .i64 l[i].to) ∧ w.cell? ⟨g, o + i * 4 + 2, none⟩ = some l[i].dv ∧ w.cell? ⟨g, o + i * 4 + 3, none⟩ = some (.int .i64 (l[i].t : Int))
theorem PostsAt.below {w w' : World} {a : Option Addr} {l : List Post} (h : PostsAt w a l) (b : Below w.heap.size w w') : PostsAt w' a l := by
  refine h.imp id ?_
  rintro ⟨g, o, e, hc⟩
  refine ⟨g, o, e, fun i hi => ?_⟩
  obtain ⟨h1, h2, h3, h4⟩ := hc i hi
  refine ⟨?_, ?_, ?_, ?_⟩
  · rw [b.cell (p := ⟨g, o + i * 4, none⟩) (World.block_lt_of_cell? w _ h1)]; exact h1
  · rw [b.cell (p := ⟨g, o + i * 4 + 1, none⟩) (World.block_lt_of_cell? w _ h2)]; exact h2
  · rw [b.cell (p := ⟨g, o + i * 4 + 2, none⟩) (World.block_lt_of_cell? w _ h3)]; exact h3
  · rw [b.cell (p := ⟨g, o + i * 4 + 3, none⟩) (World.block_lt_of_cell? w _ h4)]; exact h4
def cmpI (x y : Int) : Int := if x < y then -1 else if y < x then 1 else 0
theorem isNaN_any (x : Int) (w : World) : Calls Try.prog 48 #[.int .i64 x] w fun e w' => e = .returned (.bool false) ∧ w' = w := by
  have hx : (x != x) = false := by simp
  go_enter Try.func48, Try.ntmps48
  go_wp2
  go_ret
  exact ⟨rfl, rfl⟩
set_option maxRecDepth 100000 in
theorem compare_any (x y : Int) (w : World) : Calls Try.prog 43 #[.int .i64 x, .int .i64 y] w fun e w' => e = .returned (.int .i64 (cmpI x y)) ∧ w' = w := by
  unfold cmpI
  by_cases h1 : x < y
  · rw [if_pos h1]
    go_enter Try.func43, Try.ntmps43
    go_wp2_with (go_at_call 48; refine (isNaN_any _ _).mono ?_; rintro e w1 ⟨rfl, rfl⟩)
    go_ret
    exact ⟨rfl, rfl⟩
  · rw [if_neg h1]
    by_cases h2 : y < x
    · rw [if_pos h2]
      go_enter Try.func43, Try.ntmps43
      go_wp2_with (go_at_call 48; refine (isNaN_any _ _).mono ?_; rintro e w1 ⟨rfl, rfl⟩)
      go_ret
      exact ⟨rfl, rfl⟩
    · rw [if_neg h2]
      go_enter Try.func43, Try.ntmps43
      go_wp2_with (go_at_call 48; refine (isNaN_any _ _).mono ?_; rintro e w1 ⟨rfl, rfl⟩)
      go_ret
      exact ⟨rfl, rfl⟩
set_option maxRecDepth 100000 in
theorem place1_any (f to : Int) (dv : Value) (t s : Int) (w : World) : Calls Try.prog 45 #[.agg #[.int .i64 f, .int .i64 to, dv, .int .i64 t], .int .i64 s] w fun e w' => e = .returned (.int .i64 (cmpI t s)) ∧ Below w.heap.size w w' := by
  have HC := fun W => compare_any t s W
  have BB : Hid (Below w.heap.size w (w.alloc (.cells #[.int .i64 f, .int .i64 to, dv, .int .i64 t] 69))) := (Below.refl _ w).alloc (Nat.le_refl _) _
  go_enter Try.func45, Try.ntmps45
  go_wp2_with (go_at_call 43; refine (HC _).mono ?_; rintro e w1 ⟨rfl, rfl⟩)
  go_ret
  exact ⟨rfl, BB.out⟩
end Go.Proofs.Ytccmehbdnnelhaa
