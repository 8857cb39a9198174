/- ChartCommands: what was written is read; plain. -/
import Derived.Test.YtpdgmlljjjeifaaChCodeR
namespace Go.Proofs.Ytpdgmlljjjeifaa
open Go.RowKit Cod
set_option linter.unusedVariables false
theorem dropL (a b : List (BitVec 8)) : (a ++ b).drop a.length = b := by simp
theorem pr_step {l r : List (BitVec 8)} {j : Nat} {z : Int} {m : Nat} (hz : i64in z) (hp : prS l j = (m, 0)) (hd : l.drop m = enc (zig z) ++ r) : prV l j = z ∧ prS l (j + 1) = (m + (enc (zig z)).length, 0) := by
  have h := rU_back hd (zig_lt z hz)
  constructor
  · unfold prV
    rw [hp]
    show zag (rU l m 0).1 = z
    rw [h, zag_zig]
  · show (rU l (prS l j).1 (prS l j).2).2 = _
    rw [hp]
    show (rU l m 0).2 = _
    rw [h]
theorem cmdB_len (k s h n p : Int) (hk : i64in k) (hs : i64in s) (hh : i64in h) (hn : i64in n) (hp : i64in p) : (cmdB k s h n p).length ≤ 50 := by
  have e0 := enc_zig hk
  have e1 := enc_zig hs
  have e2 := enc_zig hh
  have e3 := enc_zig hn
  have e4 := enc_zig hp
  unfold cmdB
  simp only [List.length_append, List.length_nil]
  omega
theorem parse_back (k s h n p : Int) (hk : i64in k) (hs : i64in s) (hh : i64in h) (hn : i64in n) (hp : i64in p) : parseR (cmdB k s h n p) = [k, s, h, n, p, 0] := by
  have hl := cmdB_len k s h n p hk hs hh hn hp
  obtain ⟨l, el⟩ : ∃ l, cmdB k s h n p = l := ⟨_, rfl⟩
  have e0 : l = enc (zig k) ++ (enc (zig s) ++ (enc (zig h) ++ (enc (zig n) ++ (enc (zig p) ++ [])))) := by rw [← el]; unfold cmdB; simp
  rw [el] at hl ⊢
  have a0 := pr_step (l := l) (j := 0) hk rfl (by rw [e0]; rfl)
  have a1 := pr_step (l := l) (j := 1) hs a0.2 (by rw [e0, Nat.zero_add, dropL])
  have a2 := pr_step (l := l) (j := 2) hh a1.2 (by rw [e0, Nat.zero_add, ← List.drop_drop, dropL, dropL])
  have a3 := pr_step (l := l) (j := 3) hn a2.2 (by rw [e0, Nat.zero_add, ← List.drop_drop, ← List.drop_drop, dropL, dropL, dropL])
  have a4 := pr_step (l := l) (j := 4) hp a3.2 (by rw [e0, Nat.zero_add, ← List.drop_drop, ← List.drop_drop, ← List.drop_drop, dropL, dropL, dropL, dropL])
  have hlen : l.length = 0 + (enc (zig k)).length + (enc (zig s)).length + (enc (zig h)).length + (enc (zig n)).length + (enc (zig p)).length := by
    rw [e0]; simp only [List.length_append, List.length_nil]; omega
  have hE : parseE l = 0 := by
    unfold parseE
    rw [a4.2]
    unfold rEnd
    rw [if_neg (by simp), if_neg (by rw [hlen]; exact Nat.lt_irrefl _)]
  unfold parseR
  rw [if_neg (by omega), if_neg (by rw [hE]; simp), a0.1, a1.1, a2.1, a3.1, a4.1]
end Go.Proofs.Ytpdgmlljjjeifaa
