/- Bytes that came in, opened, with the bound that the row's sizes give. -/
import Derived.Test.YtnpebdnfdbeiaaaDFrameB
namespace Go.Proofs.Ytnpebdnfdbeiaaa
open Go.ChangeShapes Go.WideShapes Go.ChangeAt Go.RowKit Go.Deep
set_option linter.unusedVariables false

theorem open_bytesS {H : Type} {enc : TypeId × Value → H} {W : World} {v : Value} {d : DataW H} {p : List MemPlace} {base : Nat} (hv : Value.okWide Try.prog W .any base 22 v) (h : DataW.Trod enc Try.prog W 0 (fun _ => true) true 22 v d p)
    {ts : List TypeId} {ds : List (DataW H)} (hsz : (DataW.weightsEach Try.prog ts ds).all (· ≤ reachBytes) = true) (j : Nat) (htj : ts[j]? = some 22) (hdj : ds[j]? = some d) :
    ∃ (l : List (BitVec 8)) (a : Option Addr) (cap : Nat), v = .slice a l.length cap ∧ Seen W a l.length l ∧ l.length ≤ cap ∧ (a = none → cap = 0) ∧ cap ≤ 140737488351232 := by
  obtain ⟨a, len, cap, l, rfl, hs, hc, hn, hd⟩ := open_bytes hv h
  have e := hs.1
  subst e
  refine ⟨l, a, cap, rfl, hs, hc, hn, ?_⟩
  rcases hd with rfl | ⟨es, sp, rfl, e⟩
  · omega
  · have := List.all_eq_true.1 hsz (cap * 1) (DataW.weights_mem_each htj hdj _ (by
      rw [DataW.weights, Try.underlying22]
      have e1 : Try.prog.bytesOf 5 = 1 := by kernel_rfl
      refine List.mem_cons.2 (.inl ?_)
      rw [e1]
      first | (simp; omega) | omega | (rw [← e]; simp)))
    have h2 : cap * 1 ≤ reachBytes := by simpa using this
    unfold reachBytes at h2
    omega
end Go.Proofs.Ytnpebdnfdbeiaaa
