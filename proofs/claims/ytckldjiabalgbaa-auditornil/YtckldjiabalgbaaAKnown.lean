/- Package auditor: the law's fixed calls. -/
import Derived.Test.YtckldjiabalgbaaAKnP
import Derived.Deep.Cut
namespace Go.Proofs.Ytckldjiabalgbaa
open Go.RowKit Go.Sort
attribute [local go_sem] Oper.semAt_some
set_option linter.unusedVariables false

/-- Told of one row. -/
theorem told_one {w W : World} {g : Nat} {D : AuD} {C0 C1 : List Value} (h : KSt w W g D C0 C1) (hD : D.sh = (2 : Nat)) (hn : D.n = 1) (hp : D.ph = 1) (t : ByteArray) (m : Int) {i : Nat} (hi : i < 2) {k : Int} (hk : (i : Int) + 1 = k) (hl : ∀ v, leftN (setD D v i) 2 = 1 - i) :
    Calls Try.prog 9 #[.pointer (some ⟨w.heap.size, 0, none⟩), .int .i64 1, .int .i64 1, .agg (ask6 k).toArray, .agg #[.int .i64 0, .bool false, .int .i64 0, .int .i64 0, .slice (some ⟨W.heap.size, 0, none⟩) 1 1, .slice none 0 0]] (W.alloc (.cells #[.string t, .int .i64 m] 28)) fun e Z => ∃ q n, RowsX Z q 1 [(t, m)] ∧ (q = none → n = 0) ∧ (∀ x, q = some x → x.block ≠ w.heap.size) ∧ (∀ K, K < W.heap.size → K ≠ w.heap.size → Z.heap[K]? = W.heap[K]?) ∧
      ((i = 0 ∧ e = .returned (.tuple #[.agg #[.int .i64 0, .int .i64 0, .int .i64 0, .int .i64 0, .int .i64 0], .bool false]) ∧ KSt w Z g (setD D (.slice q 1 n) i) C0 C1) ∨ (i = 1 ∧ e = .returned (.tuple #[.agg #[.int .i64 4, .int .i64 0, .int .i64 0, .int .i64 1, .int .i64 0], .bool true]) ∧ KSt w Z g { setD D (.slice q 1 n) i with wh := true } C0 C1)) := by
  have bA : Below W.heap.size W (W.alloc (.cells #[.string t, .int .i64 m] 28)) := (Below.refl _ W).alloc (Nat.le_refl _) _
  have hx := h.below bA
  have hr : RowsX (W.alloc (.cells #[.string t, .int .i64 m] 28)) (some ⟨W.heap.size, 0, none⟩) [(t, m)].length [(t, m)] := by
    refine ⟨rfl, by simp, .inr ⟨W.heap.size, 0, rfl, fun j hj => ?_⟩⟩
    obtain rfl : j = 0 := by simpa using hj
    constructor <;> simp
  have hgW : w.heap.size < W.heap.size := by have := h.gn.1; have := h.gn.2; omega
  have kd : knowD D 1 1 = D := by unfold knowD; rw [if_neg (by rw [hn]; simp), if_neg (by rw [hp]; simp)]
  have HT := toldA_collect hx.au hD (by omega) (by omega) hi 1 0 ⟨#[]⟩ ⟨#[]⟩ 0 ⟨#[]⟩ 0 0 ⟨#[]⟩ ⟨#[]⟩ 0 0 0 0 false (.slice none 0 0) false 0 0 (some ⟨W.heap.size, 0, none⟩) 1 [(t, m)] (.slice none 0 0) hr (fun e => by cases e) (by simp) (fun x e _ => by cases e; show W.heap.size ≠ w.heap.size; omega)
  rw [hk, kd] at HT
  have sz : (W.alloc (.cells #[.string t, .int .i64 m] 28)).heap.size = W.heap.size + 1 := by simp
  generalize W.alloc (.cells #[.string t, .int .i64 m] 28) = V at *
  refine Calls.mono HT ?_
  rintro e Z ⟨v, o, kp, hz, en, hcase⟩
  obtain ⟨q, n, rfl, hq0, _⟩ := row_form o
  obtain ⟨r1, r2, r3⟩ := rows_own o rfl (by simp)
  refine ⟨q, n, r1, r2, fun x ex => by have := (r3 x ex).1; omega, fun K hK hn => (kp K (by omega) hn).trans (bA.block K hK), ?_⟩
  rcases hcase with ⟨hl0, rfl, ha⟩ | ⟨hl0, rfl, ha⟩
  · rw [hl] at hl0
    exact .inl ⟨by omega, rfl, hx.told kp hz en ha⟩
  · rw [hl] at hl0
    exact .inr ⟨by omega, rfl, hx.told kp hz en ha⟩
def dA (q : Option Addr) (n : Nat) : AuD := ⟨2, 1, 1, true, false, false, .slice q 1 n, .slice none 0 0, .slice none 0 0, false⟩
def dB (q : Option Addr) (n : Nat) (q' : Option Addr) (n' : Nat) : AuD := ⟨2, 1, 1, true, true, false, .slice q 1 n, .slice q' 1 n', .slice none 0 0, true⟩
theorem info_a18 (k : Int) : (Try.prog.info? 53).map (·.size) = some (ask6 k).length := by kernel_rfl
end Go.Proofs.Ytckldjiabalgbaa
