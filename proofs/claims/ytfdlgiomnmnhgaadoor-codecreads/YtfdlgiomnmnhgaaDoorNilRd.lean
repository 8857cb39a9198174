/- What the Reader's calls answer where there is none. -/
import Derived.Test.YtfdlgiomnmnhgaaDoorSized
namespace Go.Proofs.YtfdlgiomnmnhgaaDoor
open Go.RowKit Cod
set_option linter.unusedVariables false

set_option maxRecDepth 100000 in
theorem nilReads (w : World) : Calls Tryd.prog 69 #[.pointer none] w fun e w' => e = .returned (.bool false) ∧ w' = w := by
  go_enter Tryd.func69, Tryd.ntmps69
  go_wp2
  go_ret
  exact ⟨rfl, rfl⟩
set_option maxRecDepth 100000 in
theorem nilAt (w : World) : Calls Tryd.prog 31 #[.pointer none] w fun e w' => e = .returned (.int .i64 0) ∧ w' = w := by
  go_enter Tryd.func31, Tryd.ntmps31
  go_wp2
  go_ret
  exact ⟨rfl, rfl⟩
set_option maxRecDepth 100000 in
theorem nilEnd (w : World) : Calls Tryd.prog 32 #[.pointer none] w fun e w' => e = .returned (.int .i64 2) ∧ w' = w := by
  go_enter Tryd.func32, Tryd.ntmps32
  go_wp2
  go_ret
  exact ⟨rfl, rfl⟩
set_option maxRecDepth 100000 in
theorem nilUint (w : World) : Calls Tryd.prog 34 #[.pointer none] w fun e w' => e = .returned (.int .u64 0) ∧ w' = w := by
  go_enter Tryd.func34, Tryd.ntmps34
  go_wp2_with fail
  refine (nilReads _).mono ?_
  rintro e x ⟨rfl, rfl⟩
  go_wp2
  go_ret
  exact ⟨rfl, rfl⟩
set_option maxRecDepth 100000 in
theorem nilInt (w : World) : Calls Tryd.prog 35 #[.pointer none] w fun e w' => e = .returned (.int .i64 0) ∧ w' = w := by
  go_enter Tryd.func35, Tryd.ntmps35
  go_wp2_with fail
  refine (nilUint _).mono ?_
  rintro e x ⟨rfl, rfl⟩
  go_wp2
  go_ret
  exact ⟨congrArg (fun z => Ending.returned (.int .i64 z)) (by decide +kernel : bits BinOp.xor IntKind.i64 0 (wrap64 (-wrap64 (bits BinOp.and IntKind.u64 0 1))) = 0), rfl⟩
set_option maxRecDepth 100000 in
theorem nilBool (w : World) : Calls Tryd.prog 38 #[.pointer none] w fun e w' => e = .returned (.bool false) ∧ w' = w := by
  go_enter Tryd.func38, Tryd.ntmps38
  go_wp2_with fail
  refine (nilReads _).mono ?_
  rintro e x ⟨rfl, rfl⟩
  go_wp2
  go_ret
  exact ⟨rfl, rfl⟩
set_option maxRecDepth 100000 in
theorem nilCount (most : Int) (w : World) : Calls Tryd.prog 39 #[.pointer none, .int .i64 most] w fun e w' => e = .returned (.int .i64 0) ∧ w' = w := by
  go_enter Tryd.func39, Tryd.ntmps39
  go_wp2_with fail
  refine (nilAt _).mono ?_
  rintro e x ⟨rfl, rfl⟩
  go_wp2_with fail
  refine (nilUint _).mono ?_
  rintro e x ⟨rfl, rfl⟩
  go_wp2_with fail
  refine (nilReads _).mono ?_
  rintro e x ⟨rfl, rfl⟩
  go_wp2
  go_ret
  exact ⟨rfl, rfl⟩
set_option maxRecDepth 100000 in
theorem nilSized (w : World) : Calls Tryd.prog 71 #[.pointer none] w fun e w' => e = .returned (.slice none 0 0) ∧ w' = w := by
  go_enter Tryd.func71, Tryd.ntmps71
  go_wp2_with fail
  refine (nilCount 65536 _).mono ?_
  rintro e x ⟨rfl, rfl⟩
  go_wp2_with fail
  refine (nilReads _).mono ?_
  rintro e x ⟨rfl, rfl⟩
  go_wp2
  go_ret
  exact ⟨rfl, rfl⟩
set_option maxRecDepth 100000 in
theorem nilText (w : World) : Calls Tryd.prog 37 #[.pointer none] w fun e w' => e = .returned (.string ⟨#[]⟩) ∧ w' = w := by
  have t1 : (convert 22 9 (.slice none 0 0)).run Tryd.prog w = .ok (.string (textOf [])) w := run_to_text w none 0 0 [] ⟨rfl, by simp, .inl rfl⟩
  rw [show textOf [] = ⟨#[]⟩ from rfl] at t1
  go_enter Tryd.func37, Tryd.ntmps37
  go_wp2_with fail
  refine (nilSized _).mono ?_
  rintro e x ⟨rfl, rfl⟩
  go_wp2
  go_ret
  exact ⟨rfl, rfl⟩
set_option maxRecDepth 100000 in
theorem nilBytes (w : World) : Calls Tryd.prog 36 #[.pointer none] w fun e w' => ∃ a c, e = .returned (.slice a 0 c) ∧ Below w.heap.size w w' := by
  go_enter Tryd.func36, Tryd.ntmps36
  go_wp2_with fail
  refine (nilSized _).mono ?_
  rintro e x ⟨rfl, rfl⟩
  go_wp2_with fail
  refine (clone_any none 0 0 [] _ ⟨rfl, by simp, .inl rfl⟩ (fun _ => rfl) (by omega)).mono ?_
  rintro e w1 ⟨v1, rfl, o1, b1⟩
  obtain ⟨a1, c1, rfl, _⟩ := owned_seen o1 (by unfold maxLen; omega)
  go_wp2
  go_ret
  exact ⟨_, _, rfl, b1⟩
end Go.Proofs.YtfdlgiomnmnhgaaDoor

