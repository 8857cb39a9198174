/- Copying bytes into a row; making rows. -/
import Derived.Test.YtikpmaecbfebkaaDoorDSmall
import Derived.Laws.IdiomCopy
import Derived.Lib.LazyBuf
namespace Go.Proofs.YtikpmaecbfebkaaDoor
open Go.RowKit
set_option linter.unusedVariables false

/-- Only one block has changed, none is new. -/
structure Just (g : Nat) (w w' : World) : Prop where
  os : w'.os = w.os
  tape : w'.tape = w.tape
  output : w'.output = w.output
  size : w'.heap.size = w.heap.size
  block : ∀ k, k ≠ g → w'.heap[k]? = w.heap[k]?
theorem Just.refl (g : Nat) (w : World) : Just g w w := ⟨rfl, rfl, rfl, rfl, fun _ _ => rfl⟩
theorem just_row (w : World) (g : Nat) (cs : Array Value) : Just g w (w.setRow g cs) := ⟨rfl, rfl, rfl, by simp, fun k hk => setRow_other w g k cs hk⟩
theorem exec_copy {P : Program} {ρ : Operand → Value} {o : Oper} {d s : Operand} {t tn : TypeId} {vd vs : Value} {w w' : World} {v : Value} (ho : o.op = .call { callee := .builtin .copy, args := #[d, s], argTypes := #[t, tn] })
    (hd : ρ d = vd) (hs : ρ s = vs) (h : (Builtin.copy_ #[t, tn] o.type #[vd, vs]).run P w = .ok v w') : (execOp ρ o).run P w = .ok (.value v) w' := by
  unfold execOp
  simp [ho, hd, hs, go_sem, h]
theorem info5s : (Tryd.prog.info? 5).map (·.size) = some 1 := by kernel_rfl
/-- copy of bytes into a row. -/
theorem copy_bytes (w : World) (base g L c o dl dc : Nat) (X : List (BitVec 8)) (hown : w.ownsRow base 5 1 (.slice (some ⟨g, 0, none⟩) L c) L (cellsOf X)) (a : Option Addr) (sl sc : Nat) (S : List (BitVec 8)) (hS : Seen w a sl S) (hfit : o + min sl dl ≤ L) (ty : TypeId) :
    ∃ w', (Builtin.copy_ #[22, 22] ty #[.slice (some ⟨g, o, none⟩) dl dc, .slice a sl sc]).run Tryd.prog w = .ok (goInt (min sl dl : Nat)) w' ∧
      w'.ownsRow base 5 1 (.slice (some ⟨g, 0, none⟩) L c) L (cellsOf (X.take o ++ S.take dl ++ X.drop (o + min sl dl))) ∧ Just g w w' := by
  have hXL : X.length = L := by have := hown.1; rw [cellsOf_length] at this; omega
  by_cases h0 : min sl dl = 0
  · refine ⟨w, ?_, ?_, Just.refl g w⟩
    · rw [h0]
      exact run_copy_none w _ _ ty 5 _ _ dl dc sl sc Tryd.underlying22 info5s h0
    · have e : S.take dl = [] := by
        have := hS.1
        rcases Nat.eq_zero_or_pos dl with h | h
        · rw [h]; rfl
        · have : S = [] := List.eq_nil_of_length_eq_zero (by omega)
          rw [this]; simp
      rw [e, h0, List.append_nil, Nat.add_zero, List.take_append_drop]
      exact hown
  · obtain ⟨h1, h2, h3⟩ := hS
    rcases h3 with h3 | ⟨b, off, rfl, hc⟩
    · omega
    · rcases hown.2 with ⟨e, _⟩ | ⟨g', c', cur, e, hb, hg, hnc, hcm, hcs, htake⟩
      · cases e
      · cases e
        have hlen : (S.take dl).length = min sl dl := by rw [List.length_take]; omega
        have hsrc : ∀ j v, (cellsOf (S.take dl))[j]? = some v → w.cell? ((⟨b, off, none⟩ : Addr).add j) = some v := fun j v hj => by
          have hj1 : j < (S.take dl).length := by have := (List.getElem?_eq_some_iff.1 hj).1; rwa [cellsOf_length] at this
          have hj2 : j < S.length := by rw [List.length_take] at hj1; omega
          rw [Addr.add_lit, hc j hj2, ← hj]
          simp [cellsOf, hj2, show j < dl by rw [List.length_take] at hj1; omega]
        have hcur : L ≤ cur.size := by rw [hcs]; omega
        have hr := run_copy_row (P := Tryd.prog) w 22 22 ty 5 g o dl dc ⟨b, off, none⟩ sl sc cur 5 (cellsOf (S.take dl)) Tryd.underlying22 info5s hg (by rw [cellsOf_length, hlen]) hsrc (by rw [cellsOf_length, hlen]; omega) (one_cells' _)
        rw [cellsOf_length, hlen] at hr
        refine ⟨_, hr, ?_, just_row w g _⟩
        refine ⟨?_, .inr ⟨g, c, _, rfl, hb, setRow_heap w g cur _ 5 (0, 0) hg, hnc, hcm, ?_, ?_⟩⟩
        · rw [cellsOf_length]; simp; omega
        · simp [cellsOf_length]; omega
        · rw [Nat.mul_one] at htake ⊢
          have hco : ∀ i, i ≤ L → cur.toList.take i = (cellsOf X).take i := fun i hi => by rw [← htake, List.take_take, Nat.min_eq_left hi]
          have hdo : (cur.toList.drop (o + min sl dl)).take (L - (o + min sl dl)) = (cellsOf X).drop (o + min sl dl) := by
            rw [← htake, List.drop_take]
          have hoL : o ≤ L := by omega
          have l1 : ((cellsOf X).take o).length = o := by rw [List.length_take, cellsOf_length]; omega
          have l2 : ((cellsOf X).take o ++ cellsOf (S.take dl)).length = o + min sl dl := by rw [List.length_append, l1, cellsOf_length, hlen]
          rw [hco o hoL]
          show List.take L ((cellsOf X).take o ++ cellsOf (S.take dl) ++ cur.toList.drop (o + min sl dl)) = _
          rw [List.take_append, List.take_of_length_le (l := (cellsOf X).take o ++ cellsOf (S.take dl)) (by omega), l2, hdo]
          simp [cellsOf, List.map_take, List.map_drop]
end Go.Proofs.YtikpmaecbfebkaaDoor
