/- What GetReply does: its rows lie in new memory. -/
import Derived.Test.YtogbcciocgpknaaTaM
namespace Go.Proofs.Ytogbcciocgpknaa
open Go.RowKit Cod
set_option linter.unusedVariables false

theorem owns_len {w : World} {base size k vn vc : Nat} {e : TypeId} {va : Option Addr} {xs : List Value} (h : w.ownsRow base e size (.slice va vn vc) k xs) : vn = k := by
  rcases h.2 with ⟨e1, e2⟩ | ⟨g, c, cur, e1, _⟩
  · cases e1; exact e2.symm
  · cases e1; rfl
set_option maxRecDepth 100000 in
set_option maxHeartbeats 1600000 in
theorem getReply_own (R : Nat) (l : List (BitVec 8)) (at_ why : Nat) (w : World) (h : Rdr w R l at_ why) :
    Calls Try.prog 43 #[.pointer (some ⟨R, 0, none⟩)] w fun e w' => ∃ a n c, e = .returned (.agg #[.int .i64 (zag (rRe1 l at_ why).1), .int .i64 (zag (rRe2 l at_ why).1), .slice a n c]) ∧ n ≤ 600 ∧ (rRe4 l at_ why).1.length = n ∧ w'.ownsRow w.heap.size 62 2 (.slice a n c) n (rowCells (rRe4 l at_ why).1) ∧ Rdr w' R l (rRe4 l at_ why).2.1 (rRe4 l at_ why).2.2 ∧ w.grownBy w' (some R) := by
  generalize hw1 : (w.alloc (.cells #[.int .i64 0, .int .i64 0, .slice none 0 0] 32)).alloc (.cells #[.int .i64 0, .int .i64 0, .slice none 0 0] 32) = w1
  have f1 : Hid (Fill w w1 R l at_ why 32 #[.int .i64 0, .int .i64 0, .slice none 0 0] #[.int .i64 0, .int .i64 0, .slice none 0 0]) := by rw [← hw1]; exact Fill.start h _ _ _
  have HW : Hid _ := hw1
  have hlt := h.lt
  have C1 : Hid (∀ w', Rdr w' R l at_ why → Calls Try.prog 33 #[.pointer (some ⟨R, 0, none⟩)] w' fun e w'' => e = .returned (.int .i64 (zag (rRe1 l at_ why).1)) ∧ Rdr w'' R l (rRe1 l at_ why).2.1 (rRe1 l at_ why).2.2 ∧ w'.grownBy w'' (some R)) := fun w' h => by rw [rRe1]; exact rInt_any R l at_ why w' h
  have C2 : Hid (∀ w', Rdr w' R l (rRe1 l at_ why).2.1 (rRe1 l at_ why).2.2 → Calls Try.prog 33 #[.pointer (some ⟨R, 0, none⟩)] w' fun e w'' => e = .returned (.int .i64 (zag (rRe2 l at_ why).1)) ∧ Rdr w'' R l (rRe2 l at_ why).2.1 (rRe2 l at_ why).2.2 ∧ w'.grownBy w'' (some R)) := fun w' h => by rw [rRe2]; exact rInt_any R l _ _ w' h
  have C3 : Hid (∀ w', Rdr w' R l (rRe2 l at_ why).2.1 (rRe2 l at_ why).2.2 → Calls Try.prog 70 #[.pointer (some ⟨R, 0, none⟩), .int .i64 600] w' fun e w'' => e = .returned (.int .i64 (rRe3 l at_ why).1) ∧ Rdr w'' R l (rRe3 l at_ why).2.1 (rRe3 l at_ why).2.2 ∧ w'.grownBy w'' (some R)) := fun w' h => by rw [rRe3]; exact rCount_any R l 600 (by omega) _ _ w' h
  have hn600 : (rRe3 l at_ why).1 ≤ 600 := by rw [rRe3]; exact rC_most l 600 _ _ (by omega)
  have H4 : Hid (rRe4 l at_ why = rRows l (rRe3 l at_ why).2.1 (rRe3 l at_ why).2.2 (rRe3 l at_ why).1) := (rfl : _ = _)
  rw [H4.out]
  generalize zag (rRe1 l at_ why).1 = k1 at *
  generalize (rRe1 l at_ why).2.1 = p1 at *
  generalize (rRe1 l at_ why).2.2 = y1 at *
  generalize zag (rRe2 l at_ why).1 = k2 at *
  generalize (rRe2 l at_ why).2.1 = p2 at *
  generalize (rRe2 l at_ why).2.2 = y2 at *
  generalize (rRe3 l at_ why).1 = n at *
  generalize (rRe3 l at_ why).2.1 = p3 at *
  generalize (rRe3 l at_ why).2.2 = y3 at *
  clear h hw1 H4
  go_enter Try.func43, Try.ntmps43
  go_wp2_with fail
  rw [HW.out]
  refine (C1.out _ f1.out.rdr).mono ?_
  rintro e v1 ⟨rfl, r1, g1⟩
  have d1 : Hid (Fill w v1 R l p1 y1 32 #[.int .i64 0, .int .i64 0, .slice none 0 0] #[.int .i64 0, .int .i64 0, .slice none 0 0]) := f1.out.call r1 g1
  have c1 : v1.cell? ⟨w.heap.size + 1, 0, none⟩ = some (.int .i64 0) := (d1.out.cell 0).1
  have z1 := (d1.out.cell 0).2
  have f2 : Hid (Fill w (v1.setCell ⟨w.heap.size + 1, 0, none⟩ (.int .i64 k1)) R l p1 y1 32 #[.int .i64 0, .int .i64 0, .slice none 0 0] #[.int .i64 k1, .int .i64 0, .slice none 0 0]) := d1.out.store 0 _
  clear r1 g1 C1 f1 d1
  go_wp2_with fail
  refine (C2.out _ f2.out.rdr).mono ?_
  rintro e v2 ⟨rfl, r2, g2⟩
  have d2 : Hid (Fill w v2 R l p2 y2 32 #[.int .i64 0, .int .i64 0, .slice none 0 0] #[.int .i64 k1, .int .i64 0, .slice none 0 0]) := f2.out.call r2 g2
  have c2 : v2.cell? ⟨w.heap.size + 1, 1, none⟩ = some (.int .i64 0) := (d2.out.cell 1).1
  have z2 := (d2.out.cell 1).2
  have f3 : Hid (Fill w (v2.setCell ⟨w.heap.size + 1, 1, none⟩ (.int .i64 k2)) R l p2 y2 32 #[.int .i64 0, .int .i64 0, .slice none 0 0] #[.int .i64 k1, .int .i64 k2, .slice none 0 0]) := d2.out.store 1 _
  clear r2 g2 C2 f2 d2
  go_wp2_with fail
  refine (C3.out _ f3.out.rdr).mono ?_
  rintro e v3 ⟨rfl, r3, g3⟩
  have f4 : Hid (Fill w v3 R l p3 y3 32 #[.int .i64 0, .int .i64 0, .slice none 0 0] #[.int .i64 k1, .int .i64 k2, .slice none 0 0]) := f3.out.call r3 g3
  clear r3 g3 C3 f3
  go_wp2
  go_loopw [12] (fun i wr => ∃ (k : Nat) (va : Option Addr) (vn vc : Nat), k ≤ n ∧ i = .int .i64 k ∧ Fill w wr R l (rRows l p3 y3 k).2.1 (rRows l p3 y3 k).2.2 32 #[.int .i64 0, .int .i64 0, .slice none 0 0] #[.int .i64 k1, .int .i64 k2, .slice va vn vc] ∧ wr.ownsRow (w.heap.size + 2) 62 2 (.slice va vn vc) k (rowCells (rRows l p3 y3 k).1))
    (fun i _ => n - (intOf i).toNat)
  case atStart => exact ⟨0, none, 0, 0, Nat.zero_le _, rfl, f4.out, World.ownsRow_nil _ _ _ _⟩
  case round =>
    obtain ⟨k, va, vn, vc, hk, rfl, hf, hown⟩ := hrel
    have HF : Hid (Fill w wr R l (rRows l p3 y3 k).2.1 (rRows l p3 y3 k).2.2 32 #[.int .i64 0, .int .i64 0, .slice none 0 0] #[.int .i64 k1, .int .i64 k2, .slice va vn vc]) := hf
    have HO : Hid (wr.ownsRow (w.heap.size + 2) 62 2 (.slice va vn vc) k (rowCells (rRows l p3 y3 k).1)) := hown
    clear hf hown f4
    by_cases hkn : k < n
    · have HG : Hid (∀ w', Rdr w' R l (rRows l p3 y3 k).2.1 (rRows l p3 y3 k).2.2 → Calls Try.prog 71 #[.pointer (some ⟨R, 0, none⟩)] w' fun e w'' => e = .returned (.agg #[.string (rRow l (rRows l p3 y3 k).2.1 (rRows l p3 y3 k).2.2).1.1, .int .i64 (rRow l (rRows l p3 y3 k).2.1 (rRows l p3 y3 k).2.2).1.2]) ∧ Rdr w'' R l (rRows l p3 y3 (k + 1)).2.1 (rRows l p3 y3 (k + 1)).2.2 ∧ w'.grownBy w'' (some R)) := fun w' h => getRow_any R l _ _ w' h
      have HS : Hid (rowCells (rRows l p3 y3 (k + 1)).1 = rowCells (rRows l p3 y3 k).1 ++ [.string (rRow l (rRows l p3 y3 k).2.1 (rRows l p3 y3 k).2.2).1.1, .int .i64 (rRow l (rRows l p3 y3 k).2.1 (rRows l p3 y3 k).2.2).1.2]) := rowCells_snoc _ _
      generalize (rRow l (rRows l p3 y3 k).2.1 (rRows l p3 y3 k).2.2).1.1 = rs at *
      generalize (rRow l (rRows l p3 y3 k).2.1 (rRows l p3 y3 k).2.2).1.2 = rn at *
      obtain ⟨i0, hi, hz0, hz1, hz2⟩ := info_parts info_row
      have kc : wr.cell? ⟨w.heap.size + 1, 2, none⟩ = some (.slice va vn vc) := (HF.out.cell 2).1
      have kf := (HF.out.cell 2).2
      have ks : w.heap.size + 1 < wr.heap.size := (Array.getElem?_eq_some_iff.1 HF.out.new).1
      have kR : (some (w.heap.size + 1) : Option Nat) ≠ some R := fun e => by have := Option.some.inj e; omega
      have kO : (some (w.heap.size + 1) : Option Nat) ≠ (Value.slice va vn vc).ownBlock := fun e => by have := (HO.out.lt _ e.symm).1; omega
      go_wp2_with fail
      go_region_law
        (first
          | (go_simp; go_at_call 71; refine (HG.out _ ?_).mono ?_; exact HF.out.rdr; rintro e w2 ⟨rfl, r2, gg2⟩; have g2 : wr.grownBy w2 (some R) := ⟨gg2.os, gg2.tape, gg2.output, gg2.size, gg2.block⟩; clear gg2; obtain ⟨mc, mf⟩ := st_grown g2 kR ⟨kc, kf⟩; obtain ⟨nc, nf⟩ := st_alloc (.cells #[.string rs, .int .i64 rn] 62) ⟨mc, mf⟩; have hz2' := g2.size)
          | (refine step_append_lies _ (by rfl) _ _ _ (by rfl) (w.heap.size + 2) 62 i0 _ 2 24 Try.underlying30 hi hz0 hz1 hz2 rfl (by omega) (.slice va vn vc) k (rowCells (rRows l p3 y3 k).1) (by rfl) (((owns_far HO.out g2 (by omega)).alloc _).drew)
              ⟨w2.heap.size, 0, none⟩ 1 1 [.string rs, .int .i64 rn] (by rfl) (by rfl) (World.news_of_block (cs := #[.string rs, .int .i64 rn]) (t := 62) (fr := (0, 0)) (heap_alloc_new w2 _)) (by simp [Value.oneCell'])
              (by omega) (by unfold maxLen; omega) (by omega) (by simp; omega) (w2.heap.size + 1) (by simp) ?_; intro gg cap w3 hown3 hgrow hat hlt3; obtain ⟨qc, qf⟩ := st_grown hgrow kO (st_alloc _ ⟨mc, mf⟩)))
      all_goals
        (have fB : Hid (Fill w (w3.setCell ⟨w.heap.size + 1, 2, none⟩ (.slice (some ⟨gg, 0, none⟩) (k + 1) cap)) R l (rRows l p3 y3 (k + 1)).2.1 (rRows l p3 y3 (k + 1)).2.2 32 #[.int .i64 0, .int .i64 0, .slice none 0 0] #[.int .i64 k1, .int .i64 k2, .slice (some ⟨gg, 0, none⟩) (k + 1) cap]) :=
           ((((HF.out.call r2 g2).alloc _).grow hgrow (fun g e => (HO.out.lt _ e).1)).store 2 _)
         have oB : Hid ((w3.setCell ⟨w.heap.size + 1, 2, none⟩ (.slice (some ⟨gg, 0, none⟩) (k + 1) cap)).ownsRow (w.heap.size + 2) 62 2 (.slice (some ⟨gg, 0, none⟩) (k + 1) cap) (k + 1) (rowCells (rRows l p3 y3 (k + 1)).1)) := by
           show World.ownsRow _ _ _ _ _ _ _
           rw [HS.out]
           exact owns_set hown3 _ _ (by show w.heap.size + 1 < w.heap.size + 2; omega)
         clear r2 g2 hown3 hgrow hat
         go_wp2
         go_roundw
         case rel => exact ⟨k + 1, some ⟨gg, 0, none⟩, k + 1, cap, by omega, by go_num, fB.out, oB.out⟩
         case measure => simp only [intOf]; omega)
    · obtain rfl : k = n := by omega
      have n0 : wr.cell? ⟨w.heap.size + 1, 0, none⟩ = some (.int .i64 k1) := (HF.out.cell 0).1
      have n1 : wr.cell? ⟨w.heap.size + 1, 1, none⟩ = some (.int .i64 k2) := (HF.out.cell 1).1
      have n2 : wr.cell? ⟨w.heap.size + 1, 2, none⟩ = some (.slice va vn vc) := (HF.out.cell 2).1
      have o0 : wr.cell? ⟨w.heap.size, 0, none⟩ = some (.int .i64 0) := by simp [World.cell?, HF.out.old]
      have o1 : wr.cell? ⟨w.heap.size, 1, none⟩ = some (.int .i64 0) := by simp [World.cell?, HF.out.old]
      have o2 : wr.cell? ⟨w.heap.size, 2, none⟩ = some (.slice none 0 0) := by simp [World.cell?, HF.out.old]
      have oz : ∀ i, wr.frozen? ⟨w.heap.size, i, none⟩ = false := fun i => by simp [World.frozen?, HF.out.old]
      go_wp2_with fail
      have ff := (((HF.out.put 0 (.int .i64 k1)).put 1 (.int .i64 k2)).put 2 (.slice va vn vc))
      have oo := owns_set (owns_set (owns_set HO.out ⟨w.heap.size, 0, none⟩ (.int .i64 k1) (by show w.heap.size < w.heap.size + 2; omega)) ⟨w.heap.size, 1, none⟩ (.int .i64 k2) (by show w.heap.size < w.heap.size + 2; omega)) ⟨w.heap.size, 2, none⟩ (.slice va vn vc) (by show w.heap.size < w.heap.size + 2; omega)
      exact bodyPost_ret (results_cell_row rfl _ _ w.heap.size 32 _ _ _ rfl ff.old Try.underlying32 rfl (by kernel_rfl)) rfl (by
        obtain rfl : vn = k := owns_len oo
        exact ⟨va, vn, vc, rfl, by omega, rRows_length l p3 y3 vn, owns_mono' oo (by omega), ff.rdr, ff.grown⟩)
end Go.Proofs.Ytogbcciocgpknaa

namespace Go.Proofs.Ytogbcciocgpknaa
open Go.RowKit Cod
set_option linter.unusedVariables false

theorem FillR.grow {w0 w w' : World} {R A B : Nat} {l : List (BitVec 8)} {at_ why : Nat} {t : TypeId} {zs cs : Array Value} {row : Option Nat} (h : FillR w0 w R A B l at_ why t zs cs) (hg : w.grownBy w' row) (hr : ∀ g, row = some g → w0.heap.size + 2 ≤ g) :
    FillR w0 w' R A B l at_ why t zs cs := by
  have hlt := h.lt
  have hbd := h.bd
  have s1 := (Array.getElem?_eq_some_iff.1 h.old).1
  have s2 := (Array.getElem?_eq_some_iff.1 h.new).1
  have g0 := h.grown
  refine ⟨h.rdr.since (hg.block _ h.rdr.lt (fun e => by have := hr _ e.symm; omega)) (fun k hk hk2 => hg.block k hk2 (fun e => by have := hr k e.symm; omega)), by rw [hg.block _ s1 (fun e => by have := hr _ e.symm; omega)]; exact h.old, by rw [hg.block _ s2 (fun e => by have := hr _ e.symm; omega)]; exact h.new, ?_, hlt, hbd⟩
  exact ⟨hg.os.trans g0.os, hg.tape.trans g0.tape, hg.output.trans g0.output, Nat.le_trans g0.size hg.size, fun k hk hne => (hg.block k (Nat.lt_of_lt_of_le hk g0.size) (fun e => by have := hr k e.symm; omega)).trans (g0.block k hk hne)⟩
theorem FillR.alloc {w0 w : World} {R A B : Nat} {l : List (BitVec 8)} {at_ why : Nat} {t : TypeId} {zs cs : Array Value} (h : FillR w0 w R A B l at_ why t zs cs) (o : Obj) : FillR w0 (w.alloc o) R A B l at_ why t zs cs :=
  h.grow (row := none) (grown_alloc (grown_refl w none) o) (fun g e => by cases e)
set_option maxRecDepth 100000 in
set_option maxHeartbeats 1600000 in
theorem refGetReply_any (R A B : Nat) (l : List (BitVec 8)) (at_ why : Nat) (w : World) (h : RRd w R A B l at_ why) (hB : B ≤ w.heap.size) :
    Calls Try.prog 45 #[.pointer (some ⟨R, 0, none⟩)] w fun e w' => ∃ a n c, e = .returned (.agg #[.int .i64 (zag (rRe1 l at_ why).1), .int .i64 (zag (rRe2 l at_ why).1), .slice a n c]) ∧ RowsAt w' a n (rRe4 l at_ why).1 ∧ RRd w' R A B l (rRe4 l at_ why).2.1 (rRe4 l at_ why).2.2 ∧ w.grownBy w' (some R) := by
  generalize hw1 : (w.alloc (.cells #[.int .i64 0, .int .i64 0, .slice none 0 0] 32)).alloc (.cells #[.int .i64 0, .int .i64 0, .slice none 0 0] 32) = w1
  have f1 : Hid (FillR w w1 R A B l at_ why 32 #[.int .i64 0, .int .i64 0, .slice none 0 0] #[.int .i64 0, .int .i64 0, .slice none 0 0]) := by rw [← hw1]; exact FillR.start h hB _ _ _
  have HW : Hid _ := hw1
  have hlt := h.lt
  have C1 : Hid (∀ w', RRd w' R A B l at_ why → Calls Try.prog 38 #[.pointer (some ⟨R, 0, none⟩)] w' fun e w'' => e = .returned (.int .i64 (zag (rRe1 l at_ why).1)) ∧ RRd w'' R A B l (rRe1 l at_ why).2.1 (rRe1 l at_ why).2.2 ∧ w'.grownBy w'' (some R)) := fun w' h => by rw [rRe1]; exact refRInt_any R A B l at_ why w' h
  have C2 : Hid (∀ w', RRd w' R A B l (rRe1 l at_ why).2.1 (rRe1 l at_ why).2.2 → Calls Try.prog 38 #[.pointer (some ⟨R, 0, none⟩)] w' fun e w'' => e = .returned (.int .i64 (zag (rRe2 l at_ why).1)) ∧ RRd w'' R A B l (rRe2 l at_ why).2.1 (rRe2 l at_ why).2.2 ∧ w'.grownBy w'' (some R)) := fun w' h => by rw [rRe2]; exact refRInt_any R A B l _ _ w' h
  have C3 : Hid (∀ w', RRd w' R A B l (rRe2 l at_ why).2.1 (rRe2 l at_ why).2.2 → Calls Try.prog 72 #[.pointer (some ⟨R, 0, none⟩), .int .i64 600] w' fun e w'' => e = .returned (.int .i64 (rRe3 l at_ why).1) ∧ RRd w'' R A B l (rRe3 l at_ why).2.1 (rRe3 l at_ why).2.2 ∧ w'.grownBy w'' (some R)) := fun w' h => by rw [rRe3]; exact refRCount_any R A B l 600 (by omega) (by omega) _ _ w' h
  have hn600 : (rRe3 l at_ why).1 ≤ 600 := by rw [rRe3]; exact rC_most l 600 _ _ (by omega)
  have H4 : Hid (rRe4 l at_ why = rRows l (rRe3 l at_ why).2.1 (rRe3 l at_ why).2.2 (rRe3 l at_ why).1) := (rfl : _ = _)
  rw [H4.out]
  generalize zag (rRe1 l at_ why).1 = k1 at *
  generalize (rRe1 l at_ why).2.1 = p1 at *
  generalize (rRe1 l at_ why).2.2 = y1 at *
  generalize zag (rRe2 l at_ why).1 = k2 at *
  generalize (rRe2 l at_ why).2.1 = p2 at *
  generalize (rRe2 l at_ why).2.2 = y2 at *
  generalize (rRe3 l at_ why).1 = n at *
  generalize (rRe3 l at_ why).2.1 = p3 at *
  generalize (rRe3 l at_ why).2.2 = y3 at *
  clear h hw1 H4
  go_enter Try.func45, Try.ntmps45
  go_wp2_with fail
  rw [HW.out]
  refine (C1.out _ f1.out.rdr).mono ?_
  rintro e v1 ⟨rfl, r1, g1⟩
  have d1 : Hid (FillR w v1 R A B l p1 y1 32 #[.int .i64 0, .int .i64 0, .slice none 0 0] #[.int .i64 0, .int .i64 0, .slice none 0 0]) := f1.out.call r1 g1
  have c1 : v1.cell? ⟨w.heap.size + 1, 0, none⟩ = some (.int .i64 0) := (d1.out.cell 0).1
  have z1 := (d1.out.cell 0).2
  have f2 : Hid (FillR w (v1.setCell ⟨w.heap.size + 1, 0, none⟩ (.int .i64 k1)) R A B l p1 y1 32 #[.int .i64 0, .int .i64 0, .slice none 0 0] #[.int .i64 k1, .int .i64 0, .slice none 0 0]) := d1.out.store 0 _
  clear r1 g1 C1 f1 d1
  go_wp2_with fail
  refine (C2.out _ f2.out.rdr).mono ?_
  rintro e v2 ⟨rfl, r2, g2⟩
  have d2 : Hid (FillR w v2 R A B l p2 y2 32 #[.int .i64 0, .int .i64 0, .slice none 0 0] #[.int .i64 k1, .int .i64 0, .slice none 0 0]) := f2.out.call r2 g2
  have c2 : v2.cell? ⟨w.heap.size + 1, 1, none⟩ = some (.int .i64 0) := (d2.out.cell 1).1
  have z2 := (d2.out.cell 1).2
  have f3 : Hid (FillR w (v2.setCell ⟨w.heap.size + 1, 1, none⟩ (.int .i64 k2)) R A B l p2 y2 32 #[.int .i64 0, .int .i64 0, .slice none 0 0] #[.int .i64 k1, .int .i64 k2, .slice none 0 0]) := d2.out.store 1 _
  clear r2 g2 C2 f2 d2
  go_wp2_with fail
  refine (C3.out _ f3.out.rdr).mono ?_
  rintro e v3 ⟨rfl, r3, g3⟩
  have f4 : Hid (FillR w v3 R A B l p3 y3 32 #[.int .i64 0, .int .i64 0, .slice none 0 0] #[.int .i64 k1, .int .i64 k2, .slice none 0 0]) := f3.out.call r3 g3
  clear r3 g3 C3 f3
  go_wp2
  go_loopw [5] (fun i wr => ∃ (k : Nat) (va : Option Addr) (vn vc : Nat), k ≤ n ∧ i = .int .i64 k ∧ FillR w wr R A B l (rRows l p3 y3 k).2.1 (rRows l p3 y3 k).2.2 32 #[.int .i64 0, .int .i64 0, .slice none 0 0] #[.int .i64 k1, .int .i64 k2, .slice va vn vc] ∧ wr.ownsRow (w.heap.size + 2) 62 2 (.slice va vn vc) k (rowCells (rRows l p3 y3 k).1))
    (fun i _ => n - (intOf i).toNat)
  case atStart => exact ⟨0, none, 0, 0, Nat.zero_le _, rfl, f4.out, World.ownsRow_nil _ _ _ _⟩
  case round =>
    obtain ⟨k, va, vn, vc, hk, rfl, hf, hown⟩ := hrel
    have HF0 : Hid (FillR w wr R A B l (rRows l p3 y3 k).2.1 (rRows l p3 y3 k).2.2 32 #[.int .i64 0, .int .i64 0, .slice none 0 0] #[.int .i64 k1, .int .i64 k2, .slice va vn vc]) := hf
    have HO0 : Hid (wr.ownsRow (w.heap.size + 2) 62 2 (.slice va vn vc) k (rowCells (rRows l p3 y3 k).1)) := hown
    clear hf hown f4
    by_cases hkn : k < n
    · have HT : Hid (∀ w', RRd w' R A B l (rRows l p3 y3 k).2.1 (rRows l p3 y3 k).2.2 → Calls Try.prog 68 #[.pointer (some ⟨R, 0, none⟩)] w' fun e w'' => e = .returned (.string (rRow l (rRows l p3 y3 k).2.1 (rRows l p3 y3 k).2.2).1.1) ∧ RRd w'' R A B l (rS l (rRows l p3 y3 k).2.1 (rRows l p3 y3 k).2.2).2.1 (rS l (rRows l p3 y3 k).2.1 (rRows l p3 y3 k).2.2).2.2 ∧ w'.grownBy w'' (some R)) := fun w' h => refRText_any R A B l _ _ w' h
      have HG : Hid (∀ w', RRd w' R A B l (rS l (rRows l p3 y3 k).2.1 (rRows l p3 y3 k).2.2).2.1 (rS l (rRows l p3 y3 k).2.1 (rRows l p3 y3 k).2.2).2.2 → Calls Try.prog 38 #[.pointer (some ⟨R, 0, none⟩)] w' fun e w'' => e = .returned (.int .i64 (rRow l (rRows l p3 y3 k).2.1 (rRows l p3 y3 k).2.2).1.2) ∧ RRd w'' R A B l (rRows l p3 y3 (k + 1)).2.1 (rRows l p3 y3 (k + 1)).2.2 ∧ w'.grownBy w'' (some R)) := fun w' h => refRInt_any R A B l _ _ w' h
      have HS : Hid (rowCells (rRows l p3 y3 (k + 1)).1 = rowCells (rRows l p3 y3 k).1 ++ [.string (rRow l (rRows l p3 y3 k).2.1 (rRows l p3 y3 k).2.2).1.1, .int .i64 (rRow l (rRows l p3 y3 k).2.1 (rRows l p3 y3 k).2.2).1.2]) := rowCells_snoc _ _
      generalize (rRow l (rRows l p3 y3 k).2.1 (rRows l p3 y3 k).2.2).1.1 = rs at *
      generalize (rRow l (rRows l p3 y3 k).2.1 (rRows l p3 y3 k).2.2).1.2 = rn at *
      generalize (rS l (rRows l p3 y3 k).2.1 (rRows l p3 y3 k).2.2).2.1 = p5 at *
      generalize (rS l (rRows l p3 y3 k).2.1 (rRows l p3 y3 k).2.2).2.2 = y5 at *
      have hlt9 := HF0.out.lt
      go_wp2_with fail
      refine (HT.out wr HF0.out.rdr).mono ?_
      rintro e x ⟨rfl, rx, gx⟩
      have HF : Hid (FillR w x R A B l p5 y5 32 #[.int .i64 0, .int .i64 0, .slice none 0 0] #[.int .i64 k1, .int .i64 k2, .slice va vn vc]) := HF0.out.call rx gx
      have HO : Hid (x.ownsRow (w.heap.size + 2) 62 2 (.slice va vn vc) k (rowCells (rRows l p3 y3 k).1)) := owns_far HO0.out gx (by omega)
      clear rx gx HF0 HO0 HT
      obtain ⟨i0, hi, hz0, hz1, hz2⟩ := info_parts info_row
      have kc : x.cell? ⟨w.heap.size + 1, 2, none⟩ = some (.slice va vn vc) := (HF.out.cell 2).1
      have kf := (HF.out.cell 2).2
      have ks : w.heap.size + 1 < x.heap.size := (Array.getElem?_eq_some_iff.1 HF.out.new).1
      have kR : (some (w.heap.size + 1) : Option Nat) ≠ some R := fun e => by have := Option.some.inj e; omega
      have kO : (some (w.heap.size + 1) : Option Nat) ≠ (Value.slice va vn vc).ownBlock := fun e => by have := (HO.out.lt _ e.symm).1; omega
      go_wp2_with fail
      go_region_law
        (first
          | (go_simp; go_at_call 38; refine (HG.out _ ?_).mono ?_; exact HF.out.rdr; rintro e w2 ⟨rfl, r2, gg2⟩; have g2 : x.grownBy w2 (some R) := ⟨gg2.os, gg2.tape, gg2.output, gg2.size, gg2.block⟩; clear gg2; obtain ⟨mc, mf⟩ := st_grown g2 kR ⟨kc, kf⟩; obtain ⟨nc, nf⟩ := st_alloc (.cells #[.string rs, .int .i64 rn] 62) ⟨mc, mf⟩; have hz2' := g2.size)
          | (refine step_append_lies _ (by rfl) _ _ _ (by rfl) (w.heap.size + 2) 62 i0 _ 2 24 Try.underlying30 hi hz0 hz1 hz2 rfl (by omega) (.slice va vn vc) k (rowCells (rRows l p3 y3 k).1) (by rfl) (((owns_far HO.out g2 (by omega)).alloc _).drew)
              ⟨w2.heap.size, 0, none⟩ 1 1 [.string rs, .int .i64 rn] (by rfl) (by rfl) (World.news_of_block (cs := #[.string rs, .int .i64 rn]) (t := 62) (fr := (0, 0)) (heap_alloc_new w2 _)) (by simp [Value.oneCell'])
              (by omega) (by unfold maxLen; omega) (by omega) (by simp; omega) (w2.heap.size + 1) (by simp) ?_; intro gg cap w3 hown3 hgrow hat hlt3; obtain ⟨qc, qf⟩ := st_grown hgrow kO (st_alloc _ ⟨mc, mf⟩)))
      all_goals
        (have fB : Hid (FillR w (w3.setCell ⟨w.heap.size + 1, 2, none⟩ (.slice (some ⟨gg, 0, none⟩) (k + 1) cap)) R A B l (rRows l p3 y3 (k + 1)).2.1 (rRows l p3 y3 (k + 1)).2.2 32 #[.int .i64 0, .int .i64 0, .slice none 0 0] #[.int .i64 k1, .int .i64 k2, .slice (some ⟨gg, 0, none⟩) (k + 1) cap]) :=
           ((((HF.out.call r2 g2).alloc _).grow hgrow (fun g e => (HO.out.lt _ e).1)).store 2 _)
         have oB : Hid ((w3.setCell ⟨w.heap.size + 1, 2, none⟩ (.slice (some ⟨gg, 0, none⟩) (k + 1) cap)).ownsRow (w.heap.size + 2) 62 2 (.slice (some ⟨gg, 0, none⟩) (k + 1) cap) (k + 1) (rowCells (rRows l p3 y3 (k + 1)).1)) := by
           show World.ownsRow _ _ _ _ _ _ _
           rw [HS.out]
           exact owns_set hown3 _ _ (by show w.heap.size + 1 < w.heap.size + 2; omega)
         clear r2 g2 hown3 hgrow hat
         go_wp2
         go_roundw
         case rel => exact ⟨k + 1, some ⟨gg, 0, none⟩, k + 1, cap, by omega, by go_num, fB.out, oB.out⟩
         case measure => simp only [intOf]; omega)
    · obtain rfl : k = n := by omega
      have n0 : wr.cell? ⟨w.heap.size + 1, 0, none⟩ = some (.int .i64 k1) := (HF0.out.cell 0).1
      have n1 : wr.cell? ⟨w.heap.size + 1, 1, none⟩ = some (.int .i64 k2) := (HF0.out.cell 1).1
      have n2 : wr.cell? ⟨w.heap.size + 1, 2, none⟩ = some (.slice va vn vc) := (HF0.out.cell 2).1
      have o0 : wr.cell? ⟨w.heap.size, 0, none⟩ = some (.int .i64 0) := by simp [World.cell?, HF0.out.old]
      have o1 : wr.cell? ⟨w.heap.size, 1, none⟩ = some (.int .i64 0) := by simp [World.cell?, HF0.out.old]
      have o2 : wr.cell? ⟨w.heap.size, 2, none⟩ = some (.slice none 0 0) := by simp [World.cell?, HF0.out.old]
      have oz : ∀ i, wr.frozen? ⟨w.heap.size, i, none⟩ = false := fun i => by simp [World.frozen?, HF0.out.old]
      go_wp2_with fail
      have ff := (((HF0.out.put 0 (.int .i64 k1)).put 1 (.int .i64 k2)).put 2 (.slice va vn vc))
      have oo := owns_set (owns_set (owns_set HO0.out ⟨w.heap.size, 0, none⟩ (.int .i64 k1) (by show w.heap.size < w.heap.size + 2; omega)) ⟨w.heap.size, 1, none⟩ (.int .i64 k2) (by show w.heap.size < w.heap.size + 2; omega)) ⟨w.heap.size, 2, none⟩ (.slice va vn vc) (by show w.heap.size < w.heap.size + 2; omega)
      exact bodyPost_ret (results_cell_row rfl _ _ w.heap.size 32 _ _ _ rfl ff.old Try.underlying32 rfl (by kernel_rfl)) rfl ⟨va, vn, vc, rfl, rows_owned oo (rRows_length l p3 y3 k) (by omega), ff.rdr, ff.grown⟩
end Go.Proofs.Ytogbcciocgpknaa

namespace Go.Proofs.Ytogbcciocgpknaa
open Go.RowKit Cod
set_option linter.unusedVariables false

set_option maxRecDepth 100000 in
set_option maxHeartbeats 1600000 in
theorem refGetReply_own (R A B : Nat) (l : List (BitVec 8)) (at_ why : Nat) (w : World) (h : RRd w R A B l at_ why) (hB : B ≤ w.heap.size) :
    Calls Try.prog 45 #[.pointer (some ⟨R, 0, none⟩)] w fun e w' => ∃ a n c, e = .returned (.agg #[.int .i64 (zag (rRe1 l at_ why).1), .int .i64 (zag (rRe2 l at_ why).1), .slice a n c]) ∧ n ≤ 600 ∧ (rRe4 l at_ why).1.length = n ∧ w'.ownsRow w.heap.size 62 2 (.slice a n c) n (rowCells (rRe4 l at_ why).1) ∧ RRd w' R A B l (rRe4 l at_ why).2.1 (rRe4 l at_ why).2.2 ∧ w.grownBy w' (some R) := by
  generalize hw1 : (w.alloc (.cells #[.int .i64 0, .int .i64 0, .slice none 0 0] 32)).alloc (.cells #[.int .i64 0, .int .i64 0, .slice none 0 0] 32) = w1
  have f1 : Hid (FillR w w1 R A B l at_ why 32 #[.int .i64 0, .int .i64 0, .slice none 0 0] #[.int .i64 0, .int .i64 0, .slice none 0 0]) := by rw [← hw1]; exact FillR.start h hB _ _ _
  have HW : Hid _ := hw1
  have hlt := h.lt
  have C1 : Hid (∀ w', RRd w' R A B l at_ why → Calls Try.prog 38 #[.pointer (some ⟨R, 0, none⟩)] w' fun e w'' => e = .returned (.int .i64 (zag (rRe1 l at_ why).1)) ∧ RRd w'' R A B l (rRe1 l at_ why).2.1 (rRe1 l at_ why).2.2 ∧ w'.grownBy w'' (some R)) := fun w' h => by rw [rRe1]; exact refRInt_any R A B l at_ why w' h
  have C2 : Hid (∀ w', RRd w' R A B l (rRe1 l at_ why).2.1 (rRe1 l at_ why).2.2 → Calls Try.prog 38 #[.pointer (some ⟨R, 0, none⟩)] w' fun e w'' => e = .returned (.int .i64 (zag (rRe2 l at_ why).1)) ∧ RRd w'' R A B l (rRe2 l at_ why).2.1 (rRe2 l at_ why).2.2 ∧ w'.grownBy w'' (some R)) := fun w' h => by rw [rRe2]; exact refRInt_any R A B l _ _ w' h
  have C3 : Hid (∀ w', RRd w' R A B l (rRe2 l at_ why).2.1 (rRe2 l at_ why).2.2 → Calls Try.prog 72 #[.pointer (some ⟨R, 0, none⟩), .int .i64 600] w' fun e w'' => e = .returned (.int .i64 (rRe3 l at_ why).1) ∧ RRd w'' R A B l (rRe3 l at_ why).2.1 (rRe3 l at_ why).2.2 ∧ w'.grownBy w'' (some R)) := fun w' h => by rw [rRe3]; exact refRCount_any R A B l 600 (by omega) (by omega) _ _ w' h
  have hn600 : (rRe3 l at_ why).1 ≤ 600 := by rw [rRe3]; exact rC_most l 600 _ _ (by omega)
  have H4 : Hid (rRe4 l at_ why = rRows l (rRe3 l at_ why).2.1 (rRe3 l at_ why).2.2 (rRe3 l at_ why).1) := (rfl : _ = _)
  rw [H4.out]
  generalize zag (rRe1 l at_ why).1 = k1 at *
  generalize (rRe1 l at_ why).2.1 = p1 at *
  generalize (rRe1 l at_ why).2.2 = y1 at *
  generalize zag (rRe2 l at_ why).1 = k2 at *
  generalize (rRe2 l at_ why).2.1 = p2 at *
  generalize (rRe2 l at_ why).2.2 = y2 at *
  generalize (rRe3 l at_ why).1 = n at *
  generalize (rRe3 l at_ why).2.1 = p3 at *
  generalize (rRe3 l at_ why).2.2 = y3 at *
  clear h hw1 H4
  go_enter Try.func45, Try.ntmps45
  go_wp2_with fail
  rw [HW.out]
  refine (C1.out _ f1.out.rdr).mono ?_
  rintro e v1 ⟨rfl, r1, g1⟩
  have d1 : Hid (FillR w v1 R A B l p1 y1 32 #[.int .i64 0, .int .i64 0, .slice none 0 0] #[.int .i64 0, .int .i64 0, .slice none 0 0]) := f1.out.call r1 g1
  have c1 : v1.cell? ⟨w.heap.size + 1, 0, none⟩ = some (.int .i64 0) := (d1.out.cell 0).1
  have z1 := (d1.out.cell 0).2
  have f2 : Hid (FillR w (v1.setCell ⟨w.heap.size + 1, 0, none⟩ (.int .i64 k1)) R A B l p1 y1 32 #[.int .i64 0, .int .i64 0, .slice none 0 0] #[.int .i64 k1, .int .i64 0, .slice none 0 0]) := d1.out.store 0 _
  clear r1 g1 C1 f1 d1
  go_wp2_with fail
  refine (C2.out _ f2.out.rdr).mono ?_
  rintro e v2 ⟨rfl, r2, g2⟩
  have d2 : Hid (FillR w v2 R A B l p2 y2 32 #[.int .i64 0, .int .i64 0, .slice none 0 0] #[.int .i64 k1, .int .i64 0, .slice none 0 0]) := f2.out.call r2 g2
  have c2 : v2.cell? ⟨w.heap.size + 1, 1, none⟩ = some (.int .i64 0) := (d2.out.cell 1).1
  have z2 := (d2.out.cell 1).2
  have f3 : Hid (FillR w (v2.setCell ⟨w.heap.size + 1, 1, none⟩ (.int .i64 k2)) R A B l p2 y2 32 #[.int .i64 0, .int .i64 0, .slice none 0 0] #[.int .i64 k1, .int .i64 k2, .slice none 0 0]) := d2.out.store 1 _
  clear r2 g2 C2 f2 d2
  go_wp2_with fail
  refine (C3.out _ f3.out.rdr).mono ?_
  rintro e v3 ⟨rfl, r3, g3⟩
  have f4 : Hid (FillR w v3 R A B l p3 y3 32 #[.int .i64 0, .int .i64 0, .slice none 0 0] #[.int .i64 k1, .int .i64 k2, .slice none 0 0]) := f3.out.call r3 g3
  clear r3 g3 C3 f3
  go_wp2
  go_loopw [5] (fun i wr => ∃ (k : Nat) (va : Option Addr) (vn vc : Nat), k ≤ n ∧ i = .int .i64 k ∧ FillR w wr R A B l (rRows l p3 y3 k).2.1 (rRows l p3 y3 k).2.2 32 #[.int .i64 0, .int .i64 0, .slice none 0 0] #[.int .i64 k1, .int .i64 k2, .slice va vn vc] ∧ wr.ownsRow (w.heap.size + 2) 62 2 (.slice va vn vc) k (rowCells (rRows l p3 y3 k).1))
    (fun i _ => n - (intOf i).toNat)
  case atStart => exact ⟨0, none, 0, 0, Nat.zero_le _, rfl, f4.out, World.ownsRow_nil _ _ _ _⟩
  case round =>
    obtain ⟨k, va, vn, vc, hk, rfl, hf, hown⟩ := hrel
    have HF0 : Hid (FillR w wr R A B l (rRows l p3 y3 k).2.1 (rRows l p3 y3 k).2.2 32 #[.int .i64 0, .int .i64 0, .slice none 0 0] #[.int .i64 k1, .int .i64 k2, .slice va vn vc]) := hf
    have HO0 : Hid (wr.ownsRow (w.heap.size + 2) 62 2 (.slice va vn vc) k (rowCells (rRows l p3 y3 k).1)) := hown
    clear hf hown f4
    by_cases hkn : k < n
    · have HT : Hid (∀ w', RRd w' R A B l (rRows l p3 y3 k).2.1 (rRows l p3 y3 k).2.2 → Calls Try.prog 68 #[.pointer (some ⟨R, 0, none⟩)] w' fun e w'' => e = .returned (.string (rRow l (rRows l p3 y3 k).2.1 (rRows l p3 y3 k).2.2).1.1) ∧ RRd w'' R A B l (rS l (rRows l p3 y3 k).2.1 (rRows l p3 y3 k).2.2).2.1 (rS l (rRows l p3 y3 k).2.1 (rRows l p3 y3 k).2.2).2.2 ∧ w'.grownBy w'' (some R)) := fun w' h => refRText_any R A B l _ _ w' h
      have HG : Hid (∀ w', RRd w' R A B l (rS l (rRows l p3 y3 k).2.1 (rRows l p3 y3 k).2.2).2.1 (rS l (rRows l p3 y3 k).2.1 (rRows l p3 y3 k).2.2).2.2 → Calls Try.prog 38 #[.pointer (some ⟨R, 0, none⟩)] w' fun e w'' => e = .returned (.int .i64 (rRow l (rRows l p3 y3 k).2.1 (rRows l p3 y3 k).2.2).1.2) ∧ RRd w'' R A B l (rRows l p3 y3 (k + 1)).2.1 (rRows l p3 y3 (k + 1)).2.2 ∧ w'.grownBy w'' (some R)) := fun w' h => refRInt_any R A B l _ _ w' h
      have HS : Hid (rowCells (rRows l p3 y3 (k + 1)).1 = rowCells (rRows l p3 y3 k).1 ++ [.string (rRow l (rRows l p3 y3 k).2.1 (rRows l p3 y3 k).2.2).1.1, .int .i64 (rRow l (rRows l p3 y3 k).2.1 (rRows l p3 y3 k).2.2).1.2]) := rowCells_snoc _ _
      generalize (rRow l (rRows l p3 y3 k).2.1 (rRows l p3 y3 k).2.2).1.1 = rs at *
      generalize (rRow l (rRows l p3 y3 k).2.1 (rRows l p3 y3 k).2.2).1.2 = rn at *
      generalize (rS l (rRows l p3 y3 k).2.1 (rRows l p3 y3 k).2.2).2.1 = p5 at *
      generalize (rS l (rRows l p3 y3 k).2.1 (rRows l p3 y3 k).2.2).2.2 = y5 at *
      have hlt9 := HF0.out.lt
      go_wp2_with fail
      refine (HT.out wr HF0.out.rdr).mono ?_
      rintro e x ⟨rfl, rx, gx⟩
      have HF : Hid (FillR w x R A B l p5 y5 32 #[.int .i64 0, .int .i64 0, .slice none 0 0] #[.int .i64 k1, .int .i64 k2, .slice va vn vc]) := HF0.out.call rx gx
      have HO : Hid (x.ownsRow (w.heap.size + 2) 62 2 (.slice va vn vc) k (rowCells (rRows l p3 y3 k).1)) := owns_far HO0.out gx (by omega)
      clear rx gx HF0 HO0 HT
      obtain ⟨i0, hi, hz0, hz1, hz2⟩ := info_parts info_row
      have kc : x.cell? ⟨w.heap.size + 1, 2, none⟩ = some (.slice va vn vc) := (HF.out.cell 2).1
      have kf := (HF.out.cell 2).2
      have ks : w.heap.size + 1 < x.heap.size := (Array.getElem?_eq_some_iff.1 HF.out.new).1
      have kR : (some (w.heap.size + 1) : Option Nat) ≠ some R := fun e => by have := Option.some.inj e; omega
      have kO : (some (w.heap.size + 1) : Option Nat) ≠ (Value.slice va vn vc).ownBlock := fun e => by have := (HO.out.lt _ e.symm).1; omega
      go_wp2_with fail
      go_region_law
        (first
          | (go_simp; go_at_call 38; refine (HG.out _ ?_).mono ?_; exact HF.out.rdr; rintro e w2 ⟨rfl, r2, gg2⟩; have g2 : x.grownBy w2 (some R) := ⟨gg2.os, gg2.tape, gg2.output, gg2.size, gg2.block⟩; clear gg2; obtain ⟨mc, mf⟩ := st_grown g2 kR ⟨kc, kf⟩; obtain ⟨nc, nf⟩ := st_alloc (.cells #[.string rs, .int .i64 rn] 62) ⟨mc, mf⟩; have hz2' := g2.size)
          | (refine step_append_lies _ (by rfl) _ _ _ (by rfl) (w.heap.size + 2) 62 i0 _ 2 24 Try.underlying30 hi hz0 hz1 hz2 rfl (by omega) (.slice va vn vc) k (rowCells (rRows l p3 y3 k).1) (by rfl) (((owns_far HO.out g2 (by omega)).alloc _).drew)
              ⟨w2.heap.size, 0, none⟩ 1 1 [.string rs, .int .i64 rn] (by rfl) (by rfl) (World.news_of_block (cs := #[.string rs, .int .i64 rn]) (t := 62) (fr := (0, 0)) (heap_alloc_new w2 _)) (by simp [Value.oneCell'])
              (by omega) (by unfold maxLen; omega) (by omega) (by simp; omega) (w2.heap.size + 1) (by simp) ?_; intro gg cap w3 hown3 hgrow hat hlt3; obtain ⟨qc, qf⟩ := st_grown hgrow kO (st_alloc _ ⟨mc, mf⟩)))
      all_goals
        (have fB : Hid (FillR w (w3.setCell ⟨w.heap.size + 1, 2, none⟩ (.slice (some ⟨gg, 0, none⟩) (k + 1) cap)) R A B l (rRows l p3 y3 (k + 1)).2.1 (rRows l p3 y3 (k + 1)).2.2 32 #[.int .i64 0, .int .i64 0, .slice none 0 0] #[.int .i64 k1, .int .i64 k2, .slice (some ⟨gg, 0, none⟩) (k + 1) cap]) :=
           ((((HF.out.call r2 g2).alloc _).grow hgrow (fun g e => (HO.out.lt _ e).1)).store 2 _)
         have oB : Hid ((w3.setCell ⟨w.heap.size + 1, 2, none⟩ (.slice (some ⟨gg, 0, none⟩) (k + 1) cap)).ownsRow (w.heap.size + 2) 62 2 (.slice (some ⟨gg, 0, none⟩) (k + 1) cap) (k + 1) (rowCells (rRows l p3 y3 (k + 1)).1)) := by
           show World.ownsRow _ _ _ _ _ _ _
           rw [HS.out]
           exact owns_set hown3 _ _ (by show w.heap.size + 1 < w.heap.size + 2; omega)
         clear r2 g2 hown3 hgrow hat
         go_wp2
         go_roundw
         case rel => exact ⟨k + 1, some ⟨gg, 0, none⟩, k + 1, cap, by omega, by go_num, fB.out, oB.out⟩
         case measure => simp only [intOf]; omega)
    · obtain rfl : k = n := by omega
      have n0 : wr.cell? ⟨w.heap.size + 1, 0, none⟩ = some (.int .i64 k1) := (HF0.out.cell 0).1
      have n1 : wr.cell? ⟨w.heap.size + 1, 1, none⟩ = some (.int .i64 k2) := (HF0.out.cell 1).1
      have n2 : wr.cell? ⟨w.heap.size + 1, 2, none⟩ = some (.slice va vn vc) := (HF0.out.cell 2).1
      have o0 : wr.cell? ⟨w.heap.size, 0, none⟩ = some (.int .i64 0) := by simp [World.cell?, HF0.out.old]
      have o1 : wr.cell? ⟨w.heap.size, 1, none⟩ = some (.int .i64 0) := by simp [World.cell?, HF0.out.old]
      have o2 : wr.cell? ⟨w.heap.size, 2, none⟩ = some (.slice none 0 0) := by simp [World.cell?, HF0.out.old]
      have oz : ∀ i, wr.frozen? ⟨w.heap.size, i, none⟩ = false := fun i => by simp [World.frozen?, HF0.out.old]
      go_wp2_with fail
      have ff := (((HF0.out.put 0 (.int .i64 k1)).put 1 (.int .i64 k2)).put 2 (.slice va vn vc))
      have oo := owns_set (owns_set (owns_set HO0.out ⟨w.heap.size, 0, none⟩ (.int .i64 k1) (by show w.heap.size < w.heap.size + 2; omega)) ⟨w.heap.size, 1, none⟩ (.int .i64 k2) (by show w.heap.size < w.heap.size + 2; omega)) ⟨w.heap.size, 2, none⟩ (.slice va vn vc) (by show w.heap.size < w.heap.size + 2; omega)
      exact bodyPost_ret (results_cell_row rfl _ _ w.heap.size 32 _ _ _ rfl ff.old Try.underlying32 rfl (by kernel_rfl)) rfl (by
        obtain rfl : vn = k := owns_len oo
        exact ⟨va, vn, vc, rfl, by omega, rRows_length l p3 y3 vn, owns_mono' oo (by omega), ff.rdr, ff.grown⟩)
end Go.Proofs.Ytogbcciocgpknaa
