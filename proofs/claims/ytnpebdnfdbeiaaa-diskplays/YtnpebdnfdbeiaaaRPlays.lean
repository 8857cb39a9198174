/- DiskPlays: the law. -/
import Derived.Test.YtnpebdnfdbeiaaaRPlaysB
import Derived.Test.YtnpebdnfdbeiaaaRPlaysC
namespace Go.Proofs.Ytnpebdnfdbeiaaa
open Go.RowKit
set_option linter.unusedVariables false

theorem plays_any (sec : Int) (ia : Option Addr) (icap : Nat) (l : List (BitVec 8)) (a : Option Addr) (len cap : Nat) (os : List OpX) (w : World) (hs : Seen w ia l.length l) (hc : l.length ≤ icap) (hnil : ia = none → icap = 0) (hcm : icap ≤ 140737488351232) (h : OpsAt w a len os) (hz : ∀ o ∈ os, o.b.length ≤ 140737488351232) :
    Calls Try.prog 3 #[.int .i64 sec, .slice ia l.length icap, .slice a len cap] w fun e w' => e = .returned (.bool true) ∧ Below w.heap.size w w' := by
  by_cases hv : l.length % 256 = 0 ∧ 1 ≤ l.length / 256 ∧ l.length / 256 ≤ 4096
  · obtain ⟨n, en⟩ : ∃ n, l.length / 256 = n := ⟨_, rfl⟩
    have el : l.length = 256 * n := by omega
    rw [el] at hs hc ⊢
    by_cases hsn : 1 ≤ sec ∧ sec ≤ 4096
    · obtain ⟨sn, rfl⟩ : ∃ sn : Nat, sec = sn := ⟨sec.toNat, by omega⟩
      exact plays_full_ok sn (by omega) (by omega) ia icap n l a len cap os w (by omega) (by omega) hs hnil hc hcm h hz
    · exact plays_full_no sec hsn ia icap n l a len cap os w (by omega) (by omega) hs hnil hc hcm h hz
  · by_cases hsn : 1 ≤ sec ∧ sec ≤ 4096
    · obtain ⟨sn, rfl⟩ : ∃ sn : Nat, sec = sn := ⟨sec.toNat, by omega⟩
      exact plays_none_ok sn (by omega) (by omega) ia icap _ l a len cap w hv hs hnil hc hcm
    · exact plays_none_no sec hsn ia icap _ l a len cap w hv hs hnil hc hcm
end Go.Proofs.Ytnpebdnfdbeiaaa
