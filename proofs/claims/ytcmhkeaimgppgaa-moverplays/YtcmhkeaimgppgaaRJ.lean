/- The reference's mover: what is there while Told looks at an Install. -/
import Derived.Test.YtcmhkeaimgppgaaRH
namespace Go.Proofs.Ytcmhkeaimgppgaa
open Go.RowKit Go.Shelf
attribute [local go_sem] Oper.semAt_some
set_option linter.unusedVariables false

def instR (K : MD) (x : MvD) (q : AskI) (r : ResD) : MD × Bool := if x.ph = 2 then installedM K q.cat q.cn q.last r.why else (K, false)
section
variable {w V V' : World} {base : Bs} {G N : Nat} {K : MD} {x : MvD} {C1 : List Value} {q : AskI} {r : ResD}
theorem RT1.rh (h : RT1 w V base G N K x C1 q r) : ∃ a c, RH w V base G K.n K.has K.at_ a c K.d x := by
  obtain ⟨a, c, g, o⟩ := h.m.ex
  exact ⟨a, c, g, o, h.xb, h.z, h.ch, h.gl, h.m.bG, h.m.len⟩
theorem RT1.far (h : RT1 w V base G N K x C1 q r) (o : OnlyR V V' G) (i : Nat) : V'.cell? ⟨w.heap.size + 2, i, none⟩ = (#[.int .i64 r.why, .bool r.wait, .int .i64 r.rw, .int .i64 r.ra, r.rows, .slice r.da r.l.length r.dc] : Array Value)[i]? ∧ V'.cell? ⟨N, i, none⟩ = C1[i]? := by
  have gl := h.gl
  have lo := h.lo
  refine ⟨?_, ?_⟩
  · simp only [World.cell?, (o.block _ (Array.getElem?_eq_some_iff.1 h.rb).1 (by omega)).trans h.rb]
    rfl
  · simp only [World.cell?, (o.block _ (Array.getElem?_eq_some_iff.1 h.c).1 (by omega)).trans h.c]
    simp
end
end Go.Proofs.Ytcmhkeaimgppgaa
