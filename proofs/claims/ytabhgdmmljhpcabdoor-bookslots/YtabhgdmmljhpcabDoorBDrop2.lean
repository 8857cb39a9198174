/- Package book: Drop itself; a law's own book and its rows. -/
import Derived.Test.YtabhgdmmljhpcabDoorBDrop
import Derived.Test.YtabhgdmmljhpcabDoorBSame
namespace Go.Proofs.YtabhgdmmljhpcabDoor
open Go.RowKit Cod
attribute [local go_sem] Oper.semAt_some
set_option linter.unusedVariables false

theorem Fit.stay {L : List Acc} (h : Fit L) (slot : Int) : Fit (stay slot L) :=
  ⟨h.srt.sublist List.filter_sublist, Nat.le_trans (List.length_filter_le _ _) h.len, fun a ha => h.amt a (List.mem_filter.1 ha).1, fun a ha => h.nm a (List.mem_filter.1 ha).1, fun a ha => h.by_ a (List.mem_filter.1 ha).1⟩
section
variable {w : World} {base N : Nat} {sv : Value} {L : List Acc}
theorem BookIn.cut {w3 : World} {a3 : Option Addr} {c3 : Nat} {L' : List Acc} (h : BookIn w base N sv L) (o : w3.ownsRow base 42 3 (.slice a3 L'.length c3) L'.length (cells3 L')) (gr : w.grownBy w3 sv.ownBlock) (hs : (Value.slice a3 L'.length c3).ownBlock = sv.ownBlock) (hf : Fit L') : w3.cell? ⟨N, 0, none⟩ = some sv ∧ w3.frozen? ⟨N, 0, none⟩ = false ∧ BTold w (w3.setCell ⟨N, 0, none⟩ (.slice a3 L'.length c3)) base N sv L' := by
  have hN : w3.heap[N]? = some (.cells #[sv] 38 (0, 0)) := (gr.block N h.ltN (fun e => h.ne e.symm rfl)).trans h.hN
  have e := setCell_eq_setRow w3 N 0 _ _ _ (.slice a3 L'.length c3) hN
  have hne : ∀ g, (Value.slice a3 L'.length c3).ownBlock = some g → g ≠ N := fun g e q => by
    obtain ⟨_, _, cur, h3⟩ := row_kind o e
    rw [q, hN] at h3
    injection h3 with h3
    injection h3 with _ h3
    exact absurd h3 (by decide)
  refine ⟨by simp [World.cell?, hN], by simp [World.frozen?, hN], .slice a3 L'.length c3, ⟨?_, ?_, h.bN, hf⟩, ⟨?_, ?_, ?_, ?_, fun k hk h1 h2 => ?_⟩, fun k q => .inl (by rw [← hs]; exact q)⟩
  · rw [e]
    exact setRow_heap _ _ _ _ _ _ hN
  · rw [e]
    exact owns_kept o (fun g q => setRow_other _ _ _ _ (hne g q))
  · rw [e]; exact gr.os
  · rw [e]; exact gr.tape
  · rw [e]; exact gr.output
  · rw [e]; simpa using gr.size
  · rw [e, setRow_other _ _ _ _ h1]
    exact gr.block k hk (fun q => h2 q)
set_option maxRecDepth 100000 in
set_option maxHeartbeats 1000000 in
theorem drop_any (h : BookIn w base N sv L) (hT : Tabs w) (hbT : 3 ≤ base) (slot : Int) : Calls Tryd.prog 9 #[.pointer (some ⟨N, 0, none⟩), .int .i64 slot] w fun e w' => e = .returned (.int .i64 ((L.length : Int) - ((stay slot L).length : Int))) ∧ BTold w w' base N sv (stay slot L) := by
  obtain ⟨w1, ew1⟩ : ∃ w1, w1 = w.alloc (.cells #[.int .i64 slot] 3) := ⟨_, rfl⟩
  have b1 : Below w.heap.size w w1 := by rw [ew1]; exact (Below.refl _ w).alloc (Nat.le_refl _) _
  have h1 := h.below b1
  have HL1 := len_any h1
  have HD := deleteFunc_any h1.row w.heap.size slot (hT.below b1 hT.size) hbT h1.size (by rw [ew1]; exact heap_alloc_new w _) (fun p hp => (h.fit.acc hp).1) h.fit.len
  have H1 : Hid (BookIn w1 base N sv L) := h1
  have B1 : Hid (Below w.heap.size w w1) := b1
  have HF : Hid (Fit (stay slot L)) := h.fit.stay slot
  obtain ⟨a, cap, esv, _⟩ := h.sv_form
  have c0 := h1.c0
  have hle : (stay slot L).length ≤ L.length := List.length_filter_le _ _
  have hll := h.fit.len
  rw [esv] at c0 HD
  have ES : Hid (sv = .slice a L.length cap) := esv
  clear h h1 b1 hT esv
  go_enter Tryd.func9, Tryd.ntmps9
  go_wp2_with fail
  rw [← ew1]
  refine HL1.mono ?_
  rintro e w2 ⟨rfl, rfl⟩
  clear HL1 ew1
  go_wp2_with fail
  refine HD.mono ?_
  clear HD
  rintro e w3 ⟨a3, c3, rfl, o3, g3, s3⟩
  rw [← ES.out] at g3 s3
  obtain ⟨z0, z1, z2⟩ := H1.out.cut o3 g3 s3 HF.out
  have Z2 : Hid (BTold w2 (w3.setCell ⟨N, 0, none⟩ (.slice a3 (stay slot L).length c3)) base N sv (stay slot L)) := z2
  have HL2 : Hid (Calls Tryd.prog 8 #[.pointer (some ⟨N, 0, none⟩)] (w3.setCell ⟨N, 0, none⟩ (.slice a3 (stay slot L).length c3)) fun e w' => e = .returned (.int .i64 ((stay slot L).length : Nat)) ∧ w' = (w3.setCell ⟨N, 0, none⟩ (.slice a3 (stay slot L).length c3))) := by
    obtain ⟨sv', q, _⟩ := z2
    exact len_any q
  clear o3 g3 s3 z2
  go_wp2_with fail
  refine HL2.out.mono ?_
  rintro e w4 ⟨rfl, rfl⟩
  clear HL2
  go_wp2
  go_ret
  exact ⟨rfl, Z2.out.after B1.out⟩
end
section
variable {w0 w : World} {N : Nat} {L : List Acc}
theorem my_drop (h : MyB w0 w N L) (hT : Tabs w0) (slot : Int) : Calls Tryd.prog 9 #[.pointer (some ⟨N, 0, none⟩), .int .i64 slot] w fun e w' => e = .returned (.int .i64 ((L.length : Int) - ((stay slot L).length : Int))) ∧ MyB w0 w' N (stay slot L) := by
  obtain ⟨sv, h1, b⟩ := h
  exact (drop_any h1 (hT.below b hT.size) hT.size slot).mono (by rintro e w' ⟨rfl, q⟩; exact ⟨rfl, MyB.told h1 b q⟩)
theorem my_rows (h : MyB w0 w N L) (hT : Tabs w0) (slot : Int) : Calls Tryd.prog 6 #[.pointer (some ⟨N, 0, none⟩), .int .i64 slot] w fun e w' => ∃ a c, e = .returned (.slice a (rowsOf slot L).length c) ∧ RowsAt w' a (rowsOf slot L).length (rowsOf slot L) ∧ Below w.heap.size w w' ∧ MyB w0 w' N L := by
  obtain ⟨sv, h1, b⟩ := h
  refine (rows_any h1 (hT.below b hT.size) slot).mono ?_
  rintro e w' ⟨a, c, rfl, q, b1⟩
  obtain ⟨a', c', e', q'⟩ := rowsAt_owned q rfl (by have := rowsOf_len slot L; have := h1.fit.len; omega)
  cases e'
  exact ⟨a, c, rfl, q', b1, sv, h1.below b1, b.trans (b1.mono b.size)⟩
end
end Go.Proofs.YtabhgdmmljhpcabDoor
