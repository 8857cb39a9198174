/- What the reference's Reader.Bytes and Text do. -/
import Derived.Test.YtpdgmlljjjeifaaRefRc
import Derived.Test.YtpdgmlljjjeifaaSteps
import Derived.Test.YtpdgmlljjjeifaaSized
import Derived.Test.YtpdgmlljjjeifaaGetReply
namespace Go.Proofs.Ytpdgmlljjjeifaa
open Go.RowKit Cod
set_option linter.unusedVariables false
set_option linter.unusedSimpArgs false

theorem RRd.keep {w w' : World} {R A B : Nat} {l : List (BitVec 8)} {at_ why : Nat} (h : RRd w R A B l at_ why) (hb : Below w.heap.size w w') : RRd w' R A B l at_ why := by
  obtain ⟨a, cap, hh, hs, h3⟩ := h
  exact ⟨a, cap, (hb.block R (Array.getElem?_eq_some_iff.1 hh).1).trans hh, hs.below hb, h3⟩
theorem exec_append {P : Program} {o : Oper} {a : Act} {w w' : World} {v u x : Value} (s y : Operand) (t : TypeId) (ho : o.op = .call { callee := .builtin .append, args := #[s, y], argTypes := #[t, t] }) (hs : a.eval s = u) (hx : a.eval y = x) (hr : (Builtin.append_ #[t, t] o.type #[u, x]).run P w = .ok v w') : (execOp a.eval o).run P w = .ok (.value v) w' := by
  unfold execOp
  simp only [ho, resolve, invoke, builtin, Sem.run_bind, Sem.run_pure, Result.andThen_ok, List.map_toArray, List.map_cons, List.map_nil, hs, hx, hr]
/-- What Bytes answers. -/
def RBT (w w' : World) (R A B : Nat) (l : List (BitVec 8)) (S : List (BitVec 8) × Nat × Nat) (e : Ending) : Prop :=
  ∃ v, e = .returned v ∧ w'.ownsRow w.heap.size 5 1 v S.1.length (cellsOf S.1) ∧ S.1.length ≤ 65536 ∧ RRd w' R A B l S.2.1 S.2.2 ∧ w.grownBy w' (some R)
theorem rbt_err {w w' : World} {R A B : Nat} {l : List (BitVec 8)} {a y : Nat} (h : RRd w' R A B l a y) (g : w.grownBy w' (some R)) : RBT w w' R A B l ([], a, y) (.returned (.slice none 0 0)) :=
  ⟨_, rfl, World.ownsRow_nil _ _ _ _, by simp, h, g⟩
end Go.Proofs.Ytpdgmlljjjeifaa

