/- What slices.Clone of bytes does; what addUint, addInt, addText do. -/
import Derived.Test.YtccmehbdnnelhaaMem
namespace Go.Proofs.Ytccmehbdnnelhaa
open Go.RowKit
set_option linter.unusedVariables false

theorem owns_empty (w : World) (base : Nat) (hb : base ≤ w.heap.size) : (w.alloc (.cells #[] 5)).ownsRow base 5 1 (.slice (some ⟨w.heap.size, 0, none⟩) 0 0) 0 (cellsOf []) :=
  ⟨rfl, .inr ⟨w.heap.size, 0, #[], rfl, hb, heap_alloc_new w _, Nat.le_refl _, by unfold maxLen; omega, rfl, rfl⟩⟩

set_option maxHeartbeats 400000 in
theorem clone_any (a : Option Addr) (len cap : Nat) (l : List (BitVec 8)) (w : World) (h : Seen w a len l) (hnil : a = none → cap = 0) (hm : len ≤ 140737488355328) :
    Calls Try.prog 29 #[.slice a len cap] w fun e w' => ∃ v, e = .returned v ∧ w'.ownsRow w.heap.size 5 1 v len (cellsOf l) ∧ Below w.heap.size w w' := by
  have qT : ∀ (w : World) (a : Option Addr) (n c n' c' : Nat), (binOp .eql 30 (.slice a n c) (.slice none n' c')).run Try.prog w = .ok (.bool a.isNone) w := fun w a n c n' c' => Lib.run_eql_slice_nil w _ _ a n c n' c' Try.underlying30
  cases a with
  | none =>
    obtain ⟨h1, h2, h3⟩ := h
    have h0 : len = 0 := by
      rcases h3 with h3 | ⟨b, off, h, _⟩
      · exact h3
      · cases h
    subst h0
    obtain rfl : l = [] := List.eq_nil_of_length_eq_zero h1.symm
    obtain rfl := hnil rfl
    clear h1 h2 h3 hnil hm
    go_enter Try.func29, Try.ntmps29
    go_wp2
    go_ret
    exact ⟨_, rfl, World.ownsRow_nil _ _ _ _, Below.refl _ _⟩
  | some x =>
    have hs : Seen (w.alloc (.cells #[] 5)) (some x) len l := h.below ((Below.refl _ w).alloc (Nat.le_refl _) _)
    obtain ⟨v', w', hr, hown, hgrow⟩ := run_append_bytes 30 (w.alloc (.cells #[] 5)) w.heap.size _ 0 [] (owns_empty w w.heap.size (Nat.le_refl _)) (some x) len cap l hs (fun e => by cases e) (by omega) (by simp)
    rw [List.nil_append, Nat.zero_add] at hown
    have HR : Hid _ := hr
    have HB : Hid (Below w.heap.size w w') := ((Below.refl _ w).alloc (Nat.le_refl _) _).grown hgrow (by simp) (fun k e => by cases e; exact Nat.le_refl _)
    have HO : Hid _ := hown
    clear h hs hnil hm hr hgrow hown
    go_enter Try.func29, Try.ntmps29
    go_wp2_with (at_builtin; refine wpList_append_known rfl (.tmp 5) (.tmp 6) 30 30 rfl _ _ rfl rfl _ _ HR.out ?_)
    go_ret
    exact ⟨_, rfl, HO.out, HB.out⟩
end Go.Proofs.Ytccmehbdnnelhaa
