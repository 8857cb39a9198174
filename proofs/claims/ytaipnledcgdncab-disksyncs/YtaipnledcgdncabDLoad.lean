/- What Load does. -/
import Derived.Test.YtaipnledcgdncabDNew
namespace Go.Proofs.Ytaipnledcgdncab
open Go.RowKit
set_option linter.unusedVariables false

theorem owns_form {w : World} {base n : Nat} {v : Value} {l : List (BitVec 8)} (h : w.ownsRow base 5 1 v n (cellsOf l)) (hn : 1 ≤ n) : ∃ g c, v = .slice (some ⟨g, 0, none⟩) n c ∧ base ≤ g ∧ g < w.heap.size := by
  rcases h.2 with ⟨e, h0⟩ | ⟨g, c, cur, e, hb, hg, _⟩
  · omega
  · exact ⟨g, c, e, hb, (Array.getElem?_eq_some_iff.1 hg).1⟩
theorem loaded_dsk {w w1 w2 : World} {n ga gb ca cb : Nat} {l : List (BitVec 8)} (hn1 : 1 ≤ n) (hn2 : n ≤ 4096) (hl : l.length = 256 * n) (o1 : w1.ownsRow w.heap.size 5 1 (.slice (some ⟨ga, 0, none⟩) (256 * n) ca) (256 * n) (cellsOf l)) (b1 : Below w.heap.size w w1) (z1 : w.heap.size ≤ ga ∧ ga < w1.heap.size)
    (o2 : w2.ownsRow w1.heap.size 5 1 (.slice (some ⟨gb, 0, none⟩) (256 * n) cb) (256 * n) (cellsOf l)) (b2 : Below w1.heap.size w1 w2) (z2 : w1.heap.size ≤ gb ∧ gb < w2.heap.size) :
    Dsk (w2.alloc (.cells #[.slice (some ⟨ga, 0, none⟩) (256 * n) ca, .slice (some ⟨gb, 0, none⟩) (256 * n) cb, .slice none 0 0, .bool false, .bool false, .bool false] 44)) ⟨w2.heap.size, ga, gb, ca, cb, .slice none 0 0⟩ n (loadD l) ∧
    Below w.heap.size w (w2.alloc (.cells #[.slice (some ⟨ga, 0, none⟩) (256 * n) ca, .slice (some ⟨gb, 0, none⟩) (256 * n) cb, .slice none 0 0, .bool false, .bool false, .bool false] 44)) ∧
    ∀ k, (⟨w2.heap.size, ga, gb, ca, cb, .slice none 0 0⟩ : DM).own k → w.heap.size ≤ k := by
  have b3 : ∀ o, Below w2.heap.size w2 (w2.alloc o) := fun o => (Below.refl _ w2).alloc (Nat.le_refl _) o
  have s1 := b1.size
  have s2 := b2.size
  refine ⟨⟨⟨hn1, hn2, hl, hl, (fun x hx => by cases hx), by simp [loadD]⟩, heap_alloc_new w2 _, ?_, ?_, World.ownsRow_nil _ _ _ _, ?_⟩, b1.trans (((b2.trans ((b3 _).mono (by omega))).mono (by omega))), ?_⟩
  · refine owns_same (w := w1) ⟨o1.1, o1.2.imp id fun ⟨g, cap, cur, e1, e2, e3⟩ => ⟨g, cap, cur, e1, Nat.zero_le _, e3⟩⟩ (fun g e => ?_)
    obtain rfl : ga = g := by simpa [Value.ownBlock] using e
    rw [(b3 _).block _ (by omega), b2.block _ (by omega)]
  · refine owns_same (w := w2) ⟨o2.1, o2.2.imp id fun ⟨g, cap, cur, e1, e2, e3⟩ => ⟨g, cap, cur, e1, Nat.zero_le _, e3⟩⟩ (fun g e => ?_)
    obtain rfl : gb = g := by simpa [Value.ownBlock] using e
    rw [(b3 _).block _ (by omega)]
  · show ga ≠ gb
    omega
  · rintro k (e | e | e | e)
    · have e' : k = w2.heap.size := e; omega
    · have e' : k = ga := e; omega
    · have e' : k = gb := e; omega
    · cases e
end Go.Proofs.Ytaipnledcgdncab
