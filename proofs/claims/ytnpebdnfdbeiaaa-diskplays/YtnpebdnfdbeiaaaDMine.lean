/- A disk of the law's own; a script's cells. -/
import Derived.Test.YtnpebdnfdbeiaaaDPure
import Derived.Test.YtnpebdnfdbeiaaaDLoad
import Derived.Test.YtnpebdnfdbeiaaaText
namespace Go.Proofs.Ytnpebdnfdbeiaaa
open Go.RowKit
set_option linter.unusedVariables false

/-- A disk of the law's own. -/
structure Mine (w0 w : World) (m : DM) (n : Nat) (s : DS) : Prop where
  d : Dsk w m n s
  f : Fresh w0.heap.size m
  b : Below w0.heap.size w0 w
theorem Mine.done {w0 w w' : World} {m m' : DM} {n : Nat} {s s' : DS} (h : Mine w0 w m n s) (r : DoR w w' m m' n s') : Mine w0 w' m' n s' := ⟨r.d, h.f.next r.n h.b.size, h.b.trans (r.o.low h.f h.b.size)⟩
theorem Mine.below {w0 w w' : World} {m : DM} {n : Nat} {s : DS} (h : Mine w0 w m n s) (b : Below w.heap.size w w') : Mine w0 w' m n s := ⟨h.d.below b, h.f, h.b.trans (b.mono h.b.size)⟩
theorem Mine.drew {w0 w : World} {m : DM} {n : Nat} {s : DS} (h : Mine w0 w m n s) : Mine w0 w.drew m n s := h.below (Below.refl _ w).drew
/-- The cells of a script's call. -/
theorem OpsAt.at {w0 w : World} {a : Option Addr} {len : Nat} {os : List OpX} (h : OpsAt w0 a len os) (b : Below w0.heap.size w0 w) {k : Nat} (hk : k < os.length) : ∃ g off, a = some ⟨g, off, none⟩ ∧ w.cell? ⟨g, off + k * 4, none⟩ = some (.int .i64 os[k].k) ∧ w.cell? ⟨g, off + k * 4 + 1, none⟩ = some (.int .i64 os[k].n) ∧
    w.cell? ⟨g, off + k * 4 + 2, none⟩ = some (.slice os[k].ba os[k].b.length os[k].bc) ∧ w.cell? ⟨g, off + k * 4 + 3, none⟩ = some (.slice os[k].la os[k].zs.length os[k].lc) ∧ os[k].At w0 := by
  have h' := h.below b
  rcases h'.2.2 with e | ⟨g, off, rfl, hc⟩
  · have := h'.1; omega
  · rcases h.2.2 with e | ⟨g', off', e, hc'⟩
    · have := h.1; omega
    · obtain ⟨_, c0, c1, c2, c3⟩ := hc k hk
      exact ⟨g, off, rfl, c0, c1, c2, c3, (hc' k hk).1⟩
end Go.Proofs.Ytnpebdnfdbeiaaa
