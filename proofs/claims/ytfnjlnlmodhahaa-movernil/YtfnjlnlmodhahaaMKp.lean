/- The law's fixed calls. -/
import Derived.Test.YtfnjlnlmodhahaaMKr8
import Derived.Test.YtfnjlnlmodhahaaMKr13
namespace Go.Proofs.Ytfnjlnlmodhahaa
open Go.RowKit Go.Shelf
attribute [local go_sem] Oper.semAt_some
set_option linter.unusedVariables false

/-- A law's own mover beside its move: what asks answers where something is asked. -/
theorem my_asks {w W : World} {base : Bs} {G Bx : Nat} {M : MD} {x : MvD} {p : PAsk} (hm : MvIn W base G M) (hG : w.heap.size ≤ G) (hb : Below w.heap.size w W) (hx : W.heap[Bx]? = some (.cells #[.int .i64 x.slot, .int .i64 x.fr, .int .i64 x.to, .int .i64 x.ep, .int .i64 x.ph, .int .i64 x.n] 28 (0, 0))) (hp : askP (knowM M x) x = some p) (hl : p.l.length ≤ 140737488351232) :
    Calls Try.prog 8 #[.pointer (some ⟨G, 0, none⟩), .agg #[.int .i64 x.slot, .int .i64 x.fr, .int .i64 x.to, .int .i64 x.ep, .int .i64 x.ph, .int .i64 x.n]] W fun e W' => ∃ g c ua uc cur, e = .returned (.slice (some ⟨g, 0, none⟩) 1 c) ∧ W'.rangeAt g 0 (AskV.cells (p.v (.slice ua p.l.length uc))) ∧ W'.heap[g]? = some (.cells cur 37 (0, 0)) ∧ Seen W' ua p.l.length p.l ∧ (ua = none → uc = 0) ∧ MvIn W' base G (knowM M x) ∧ Below w.heap.size w W' ∧ W'.heap[Bx]? = some (.cells #[.int .i64 x.slot, .int .i64 x.fr, .int .i64 x.to, .int .i64 x.ep, .int .i64 x.ph, .int .i64 x.n] 28 (0, 0)) ∧ OnlyR W W' G ∧ ua ≠ some ⟨g, 0, none⟩ ∧ W.heap.size ≤ g := by
  refine (asks_any hm x).mono ?_
  rintro e W' ⟨v, rfl, ht, h1, h2⟩
  rw [hp] at ht
  obtain ⟨u, r1, r2⟩ := ht
  obtain ⟨ua, uc, rfl, hs, hn, _⟩ := owned_seen r2 (by unfold maxLen; omega)
  obtain ⟨g, c, rfl, hr, hbg, hlt, cur, hg⟩ := told_row r1 rfl
  have nx : Bx ≠ G := fun e => by
    obtain ⟨ma, mc, mg, _⟩ := hm.ex
    rw [e, mg] at hx
    injection hx with hx
    injection hx with _ hx
    exact absurd hx (by decide)
  refine ⟨g, c, ua, uc, cur, rfl, hr, hg, hs, hn, h1, hb.trans (h2.toBelow hG hb.size), (h2.block _ (Array.getElem?_eq_some_iff.1 hx).1 nx).trans hx, h2, fun e => ?_, hbg⟩
  subst e
  obtain ⟨_, _, cur2, hc⟩ := row_kind r2 rfl
  rw [hg] at hc
  injection hc with hc
  injection hc with _ hc
  exact absurd hc (by decide)
def X1 : MvD := ⟨3, 1, 2, 1, 1, 1⟩
def X2 : MvD := ⟨3, 1, 2, 1, 2, 1⟩
def K1 : MD := ⟨1, false, [], 0⟩
def K2 (Z : List (BitVec 8)) : MD := ⟨1, true, Z, 0⟩
def K3 (Z : List (BitVec 8)) : MD := ⟨1, true, Z, 1000⟩
def R1 (Z : List (BitVec 8)) : ResD := ⟨0, false, 0, 0, .slice none 0 0, none, 0, Z⟩
def R2 : ResD := ⟨0, false, 0, 0, .slice none 0 0, none, 0, []⟩
theorem e1 : knowM MD.zero X1 = K1 := by simp [knowM, X1, MD.zero, K1]
theorem e2 : askP K1 X1 = some ⟨1, 8, 3, 1, 0, false, []⟩ := rfl
theorem e3 (Z : List (BitVec 8)) (hZ : Z.length = 1500) (ua : Option Addr) (uc : Nat) : toldM K1 X1 ⟨1, 8, 3, 1, 0, false, ua, 0, uc⟩ (R1 Z) = (K2 Z, true) := by
  simp [toldM, dutyG, dutiesL, X1, K1, knowM, learnQ, learnM, heldM, R1, K2]
theorem e4 (Z : List (BitVec 8)) (hZ : Z.length = 1500) : knowM (K2 Z) X2 = K2 Z := by simp [knowM, X2, K2]
theorem e5 (Z : List (BitVec 8)) (hZ : Z.length = 1500) : askP (K2 Z) X2 = some ⟨2, 9, 3, 1, 0, false, Z.take 1000⟩ := by
  simp [askP, X2, K2, endM, hZ]
theorem e6 (Z : List (BitVec 8)) (hZ : Z.length = 1500) (ua : Option Addr) (uc : Nat) : toldM (K2 Z) X2 ⟨2, 9, 3, 1, 0, false, ua, 1000, uc⟩ R2 = (K3 Z, false) := by
  simp [toldM, dutyG, dutiesL, X2, K2, knowM, learnQ, learnM, installedM, R2, K3, hZ]
theorem e7 (Z : List (BitVec 8)) (hZ : Z.length = 1500) : knowM (K3 Z) X2 = K3 Z := by simp [knowM, X2, K3]
theorem e8 (Z : List (BitVec 8)) (hZ : Z.length = 1500) : askP (K3 Z) X2 = some ⟨2, 9, 3, 1, 1000, true, (Z.drop 1000).take 500⟩ := by
  simp [askP, X2, K3, endM, hZ]
end Go.Proofs.Ytfnjlnlmodhahaa
