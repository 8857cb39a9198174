/- NetKeeps. -/
import Derived.Test.YtccmehbdnnelhaaNLet
namespace Go.Proofs.Ytccmehbdnnelhaa
open Go.RowKit Go.Maps
attribute [local go_sem] Oper.semAt_some
set_option linter.unusedVariables false

theorem less_byN {k n : Nat} (h : k < n) : n - (intOf (.int .i64 ((k : Int) + 1))).toNat < n - (intOf (.int .i64 (k : Int))).toNat := by
  simp only [intOf]
  omega
theorem count_next {ms : List OpN} {i k : Nat} (h1 : i ≤ k) (h2 : k < ms.length) (f : OpN → Bool) : ((ms.take (k + 1)).drop i).countP f = ((ms.take k).drop i).countP f + (if f ms[k] then 1 else 0) := by
  rw [List.take_succ_eq_append_getElem h2, List.drop_append_of_le_length (by simp; omega), List.countP_append, List.countP_singleton]
end Go.Proofs.Ytccmehbdnnelhaa
