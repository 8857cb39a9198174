/- Package raft: a replica alone in memory. -/
import Derived.Test.YthnocbflnakdmaaLComp
namespace Go.Proofs.Ythnocbflnakdmaa
open Go.RowKit
set_option linter.unusedVariables false

/-- A replica alone: what it is. -/
structure RD where
  grp : Int
  term : Int
  voted : Int
  role : Int
  leader : Int
  commit : Int
  el : Int
  tm : Int
  v0 : Bool
  o0 : Int
  o1 : Int
  o2 : Int
  o3 : Int
  o4 : Int
def RD.cells (d : RD) (lg : Nat) : Array Value := #[.int .i64 d.grp, .int .i64 0, .int .i64 1, .int .i64 d.term, .int .i64 d.voted, .int .i64 d.role, .int .i64 d.leader, .int .i64 d.commit, .pointer (some ⟨lg, 0, none⟩), .int .i64 d.el, .int .i64 d.tm, .slice none 0 0, .bool d.v0, .bool false, .bool false, .bool false, .bool false,
  .int .i64 d.o0, .int .i64 0, .int .i64 0, .int .i64 d.o1, .int .i64 0, .int .i64 0, .int .i64 d.o2, .int .i64 0, .int .i64 0, .int .i64 d.o3, .int .i64 0, .int .i64 0, .int .i64 d.o4, .int .i64 0, .int .i64 0, .pointer none, .pointer none, .pointer none]
/-- A replica alone in memory. -/
structure Solo (w : World) (base R lg : Nat) (d : RD) (sv : Value) (L : List EntV) : Prop where
  hR : w.heap[R]? = some (.cells (d.cells lg) 80 (0, 0))
  log : LogIn w base lg 0 0 sv L
  bR : base ≤ R
section
variable {w w' : World} {base R lg : Nat} {d : RD} {sv : Value} {L : List EntV}
theorem Solo.ltR (h : Solo w base R lg d sv L) : R < w.heap.size := (Array.getElem?_eq_some_iff.1 h.hR).1
theorem Solo.cell (h : Solo w base R lg d sv L) (i : Nat) : w.cell? ⟨R, i, none⟩ = (d.cells lg)[i]? := by have := h.hR; simp [World.cell?, this]
theorem Solo.fz (h : Solo w base R lg d sv L) (i : Nat) : w.frozen? ⟨R, i, none⟩ = false := by have := h.hR; simp [World.frozen?, this]
theorem Solo.below (h : Solo w base R lg d sv L) (b : Below w.heap.size w w') : Solo w' base R lg d sv L := ⟨(b.block R h.ltR).trans h.hR, h.log.below b, h.bR⟩
theorem Solo.notLog (h : Solo w base R lg d sv L) : R ≠ lg := fun e => by
  have h1 := h.hR
  rw [e, h.log.hN] at h1
  injection h1 with h1
  injection h1 with _ h2
  exact absurd h2 (by decide)
theorem Solo.notRow (h : Solo w base R lg d sv L) : some R ≠ sv.ownBlock := fun e => by
  obtain ⟨_, _, cur, h1⟩ := row_kind h.log.row e.symm
  rw [h.hR] at h1
  injection h1 with h1
  injection h1 with _ h2
  exact absurd h2 (by decide)
theorem Solo.size (h : Solo w base R lg d sv L) : base ≤ w.heap.size := h.log.size
/-- A cell of a replica is written. -/
theorem Solo.set (h : Solo w base R lg d sv L) (i : Nat) (v : Value) (d' : RD) (e : (d.cells lg).setIfInBounds i v = d'.cells lg) : Solo (w.setCell ⟨R, i, none⟩ v) base R lg d' sv L ∧ Below base w (w.setCell ⟨R, i, none⟩ v) := by
  have hb : ∀ k, k ≠ R → (w.setCell ⟨R, i, none⟩ v).heap[k]? = w.heap[k]? := fun k hk => Below.heap_setCell _ _ _ _ hk
  have hr : (w.setCell ⟨R, i, none⟩ v).heap[R]? = some (.cells (d'.cells lg) 80 (0, 0)) := by
    obtain ⟨hlt, hk⟩ := Array.getElem?_eq_some_iff.1 h.hR
    show (w.heap.modify R _)[R]? = _
    rw [Array.getElem?_eq_getElem (by rw [Array.size_modify]; exact hlt), Array.getElem_modify_self, hk, ← e]
    rfl
  refine ⟨⟨hr, { h.log with hN := (hb lg (Ne.symm h.notLog)).trans h.log.hN, row := owns_kept h.log.row (fun g e2 => hb g (fun x => h.notRow (by rw [← x]; exact e2.symm))), dat := fun e2 he => (h.log.dat e2 he).keep fun g ⟨cs, z, e3⟩ => hb g (fun x => by
      subst x
      rw [h.hR] at e3
      injection e3 with e3
      injection e3 with _ e4
      exact absurd e4 (by decide)) }, h.bR⟩, (Below.refl _ w).setCell h.bR v⟩
/-- The log is changed by itself. -/
theorem Solo.chg {sv' : Value} {L' : List EntV} (h : Solo w base R lg d sv L) (g : Chg w w' lg sv.ownBlock) (l' : LogIn w' base lg 0 0 sv' L') : Solo w' base R lg d sv' L' ∧ Below base w w' :=
  ⟨⟨(g.block R h.ltR h.notLog h.notRow).trans h.hR, l', h.bR⟩, h.log.chg_below g⟩
theorem Solo.drewN (h : Solo w base R lg d sv L) (q : Nat) : Solo (w.drewN q) base R lg d sv L := h.below (below_drewN' (Below.refl _ _) q)
end
end Go.Proofs.Ythnocbflnakdmaa
