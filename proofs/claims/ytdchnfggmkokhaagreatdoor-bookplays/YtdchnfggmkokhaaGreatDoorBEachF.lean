/- Each answers a function over a book's rows, as they are now. -/
import Derived.Test.YtdchnfggmkokhaaGreatDoorBSame
namespace Go.Proofs.YtdchnfggmkokhaaGreatDoor
open Go.RowKit Cod
attribute [local go_sem] Oper.semAt_some
set_option linter.unusedVariables false
theorem values_any (a : Option Addr) (n c : Nat) (w : World) : Calls Tryz.prog 80 #[.slice a n c] w fun e w' => e = .returned (.func (.func 97) #[] #[.pointer (some ⟨w.heap.size, 0, none⟩)]) ∧ w' = w.alloc (.cells #[.slice a n c] 66) := by
  go_enter Tryz.func80, Tryz.ntmps80
  go_wp2
  go_ret
  exact ⟨rfl, rfl⟩
/-- Each: a function, its box, and the rows that it goes over, in memory of their own. -/
theorem each_any {w : World} {base N : Nat} {sv : Value} {L : List Acc} (h : BookIn w base N sv L) (hT : Tabs w) : Calls Tryz.prog 49 #[.pointer (some ⟨N, 0, none⟩)] w fun e w' => ∃ b a c, e = .returned (.func (.func 97) #[] #[.pointer (some ⟨b, 0, none⟩)]) ∧ w.heap.size ≤ b ∧ w'.heap[b]? = some (.cells #[.slice a (rowsOf (-1) L).length c] 66 (0, 0)) ∧ w'.ownsRow w.heap.size 50 2 (.slice a (rowsOf (-1) L).length c) (rowsOf (-1) L).length (cells2 (rowsOf (-1) L)) ∧ Below w.heap.size w w' := by
  have HC := rows_any h hT (-1)
  clear h hT
  generalize rowsOf (-1) L = R at *
  obtain ⟨n, en⟩ : ∃ n, R.length = n := ⟨_, rfl⟩
  rw [en] at HC ⊢
  clear en
  go_enter Tryz.func49, Tryz.ntmps49
  go_wp2_with fail
  refine HC.mono ?_
  clear HC
  rintro e w2 ⟨a, c, rfl, o2, b2⟩
  have O2 : Hid _ := o2
  have B2 : Hid _ := b2
  clear o2 b2
  have HV := values_any a n c w2
  go_wp2_with fail
  refine HV.mono ?_
  rintro e w3 ⟨rfl, e3⟩
  have E3 : Hid _ := e3
  clear HV e3
  go_wp2
  go_ret
  have b3 : Below w2.heap.size w2 (w2.alloc (.cells #[.slice a n c] 66)) := (Below.refl _ w2).alloc (Nat.le_refl _) _
  rw [← E3.out] at b3
  exact ⟨w2.heap.size, a, c, rfl, B2.out.size, by rw [E3.out]; exact heap_alloc_new w2 _, owns_kept O2.out (fun g e => b3.block g (row_kind O2.out e).2.1), B2.out.trans (b3.mono B2.out.size)⟩
end Go.Proofs.YtdchnfggmkokhaaGreatDoor
