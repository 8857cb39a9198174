/- Package chart's reference: Do. Written by gen_rd.py. -/
import Derived.Test.YtpdgmlljjjeifaaChRefA
import Derived.Test.YtpdgmlljjjeifaaChRefT
import Derived.Test.YtpdgmlljjjeifaaChRefV
namespace Go.Proofs.Ytpdgmlljjjeifaa
open Go.RowKit
attribute [local go_sem] Oper.semAt_some
set_option linter.unusedVariables false
section
variable {w w' : World} {base Q O E cO cE : Nat} {L : List Int}
theorem rdo_any (hc : RC w base Q O E cO cE L) (hf : Fine L) (h3 : Ph3 L) (k s h n p : Int) : Calls Try.prog 30 #[.pointer (some ⟨Q, 0, none⟩), .agg #[.int .i64 k, .int .i64 s, .int .i64 h, .int .i64 n, .int .i64 p]] w fun e w' => RTold w w' base Q O E cO cE e (doC L k s h n p) := by
  unfold doC
  by_cases h1 : k = 1
  · subst h1; rw [if_pos rfl]; exact rdo_move hc hf s h n p
  rw [if_neg h1]
  by_cases h2 : k = 2
  · subst h2; rw [if_pos rfl]; exact rdo_step hc hf h3 s h n p
  rw [if_neg h2]
  by_cases h3 : k = 3
  · subst h3; rw [if_pos rfl]; exact rdo_audit hc hf s h n p
  rw [if_neg h3]
  by_cases h4 : k = 4
  · subst h4; rw [if_pos rfl]; exact rdo_cut hc hf s h n p
  rw [if_neg h4]
  by_cases h5 : k = 5
  · subst h5; rw [if_pos rfl]; exact rdo_thaw hc hf s h n p
  rw [if_neg h5]
  exact rdo_none hc hf k s h n p (by omega)
end
end Go.Proofs.Ytpdgmlljjjeifaa
