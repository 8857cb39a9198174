/- MoverSends: what is asked and told, plainly; the row of all pieces. -/
import Derived.Test.YtfpdffihggphaaaMKp
import Derived.Test.YtfpdffihggphaaaMSr8
import Derived.Test.YtfpdffihggphaaaMSr18
namespace Go.Proofs.Ytfpdffihggphaaa
open Go.RowKit Go.Shelf
set_option linter.unusedVariables false

def XS : MvD := ⟨3, 1, 2, 4, 2, 7⟩
def K0 : MD := ⟨7, false, [], 0⟩
def KS (l : List (BitVec 8)) (k : Nat) : MD := ⟨7, true, l, k⟩
def endS (l : List (BitVec 8)) (k : Nat) : Nat := if l.length < k + 1000 then l.length else k + 1000
theorem f1 : knowM MD.zero XS = K0 := by simp [knowM, XS, MD.zero, K0]
theorem f2 : askP K0 XS = some ⟨1, 8, 3, 4, 0, false, []⟩ := rfl
theorem f3 (ua : Option Addr) (uc : Nat) (da : Option Addr) (dc : Nat) (l : List (BitVec 8)) : toldM K0 XS ⟨1, 8, 3, 4, 0, false, ua, 0, uc⟩ ⟨0, false, 0, 0, .slice none 0 0, da, dc, l⟩ = (KS l 0, false) := by
  simp [toldM, dutyG, dutiesL, XS, K0, knowM, learnQ, learnM, heldM, KS]
theorem f4 (l : List (BitVec 8)) (k : Nat) : knowM (KS l k) XS = KS l k := by simp [knowM, XS, KS]
theorem f5 (l : List (BitVec 8)) (k : Nat) : askP (KS l k) XS = some ⟨2, 9, 3, 4, k, decide (endS l k = l.length), (l.drop k).take (endS l k - k)⟩ := by
  unfold askP
  rw [if_neg (show ¬ XS.ph = 1 by simp [XS]), if_pos (show XS.ph = 2 from rfl), if_pos (show (KS l k).has = true from rfl)]
  rfl
theorem endS_ge (l : List (BitVec 8)) (k : Nat) (hk : k ≤ l.length) : k ≤ endS l k := by unfold endS; split <;> omega
theorem endS_le (l : List (BitVec 8)) (k : Nat) (hk : k ≤ l.length) : endS l k ≤ l.length := by unfold endS; split <;> omega
theorem endS_k (l : List (BitVec 8)) (k : Nat) : endS l k ≤ k + 1000 := by unfold endS; split <;> omega
theorem endS_len (l : List (BitVec 8)) (k : Nat) (hk : k ≤ l.length) : ((l.drop k).take (endS l k - k)).length = endS l k - k := by
  have := endS_le l k hk
  simp
  omega
theorem endS_app (l : List (BitVec 8)) (k : Nat) (hk : k ≤ l.length) : l.take k ++ (l.drop k).take (endS l k - k) = l.take (endS l k) := by
  have h1 := endS_ge l k hk
  have : endS l k = k + (endS l k - k) := by omega
  rw [this, List.take_add]
  congr 3
  omega
theorem f6 (l : List (BitVec 8)) (k : Nat) (hk : k ≤ l.length) (last : Bool) (ua : Option Addr) (uc : Nat) : toldM (KS l k) XS ⟨2, 9, 3, 4, k, last, ua, endS l k - k, uc⟩ R2 = (KS l (endS l k), last) := by
  have h1 := endS_ge l k hk
  have h2 := endS_le l k hk
  have e : (if l.length < k + (endS l k - k) then l.length else k + (endS l k - k)) = endS l k := by split <;> omega
  simp [toldM, dutyG, dutiesL, XS, KS, knowM, learnQ, learnM, installedM, R2, e]
theorem MvIn.sub {w : World} {b b' : Bs} {G : Nat} {M : MD} (h : MvIn w b G M) (hn : b'.n ≤ b.n) (hD : ∀ g, g < w.heap.size → b.D g → b'.D g) : MvIn w b' G M := by
  obtain ⟨a, c, h1, h2⟩ := h.ex
  exact ⟨⟨a, c, h1, ownsRow_low h2.1 hn, fun g e => hD g (row_kind h2.1 e).2.1 (h2.2 g e)⟩, Nat.le_trans hn h.bG, h.fits, h.len⟩
theorem MvIn.grown {w w' : World} {b : Bs} {G : Nat} {M : MD} {row : Option Nat} (h : MvIn w b G M) (hg : w.grownBy w' row) (hG : row ≠ some G) (hD : ∀ g, b.D g → row ≠ some g) : MvIn w' b G M := by
  obtain ⟨a, c, h1, h2⟩ := h.ex
  refine ⟨⟨a, c, (hg.block _ h.lt (fun e => hG e.symm)).trans h1, owns_kept h2.1 (fun g e => hg.block g (row_kind h2.1 e).2.1 (fun e2 => hD g (h2.2 g e) e2.symm)), h2.2⟩, h.bG, h.fits, h.len⟩
/-- append(v, a...), and where it lies then. -/
theorem run_append_bytes2 (ty : TypeId) (w : World) (base : Nat) (v : Value) (n : Nat) (l : List (BitVec 8)) (hown : w.ownsRow base 5 1 v n (cellsOf l)) (aa : Option Addr) (la ca : Nat) (A : List (BitVec 8)) (hA : Seen w aa la A) (hnil : aa = none → ca = 0)
    (hb : n + la ≤ 140737488355328) (hbase : base ≤ w.heap.size) :
    ∃ v' w', (Builtin.append_ #[26, 26] ty #[v, .slice aa la ca]).run Try.prog w = .ok v' w' ∧ w'.ownsRow base 5 1 v' (n + la) (cellsOf (l ++ A)) ∧ w.grownBy w' v.ownBlock ∧ (v'.ownBlock = v.ownBlock ∨ v'.ownBlock = some w.heap.size) := by
  obtain ⟨i0, hi, hz0, hz1, hz2⟩ := info_parts info5
  cases aa with
  | none =>
    obtain ⟨h1, h2, h3⟩ := hA
    have hla : la = 0 := by
      rcases h3 with h3 | ⟨b, off, h, _⟩
      · exact h3
      · cases h
    subst hla
    have hAn : A = [] := List.eq_nil_of_length_eq_zero h1.symm
    subst hAn
    rw [hnil rfl]
    have hr := run_append_owned_none (P := Try.prog) (w := w) base 26 ty 5 i0 1 Try.underlying26 hi v n _ hown
    refine ⟨v, w, hr, by simpa using hown, ⟨rfl, rfl, rfl, Nat.le_refl _, fun _ _ _ => rfl⟩, .inl rfl⟩
  | some x =>
    obtain ⟨v', Z, hr, q1, q2, _, q4⟩ := run_append_own_at (P := Try.prog) w base 26 ty 5 i0 (.int .u8 0) 1 1 Try.underlying26 hi hz0 hz1 hz2 rfl (by omega) v n (cellsOf l) hown x la ca (cellsOf A) (by rw [cellsOf_length, hA.1]; omega) (append_news hA x rfl) (one_cells' A) (by unfold maxLen; omega) (by omega) hbase
    exact ⟨v', Z, hr, by rw [cellsOf_append]; exact q1, q2, q4⟩
end Go.Proofs.Ytfpdffihggphaaa
