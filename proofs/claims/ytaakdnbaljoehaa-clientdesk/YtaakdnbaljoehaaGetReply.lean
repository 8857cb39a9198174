/- What getRow and GetReply do. -/
import Derived.Test.YtaakdnbaljoehaaGetOp
import Derived.Deep.AppendLies
import Derived.Deep.RegionLaw
namespace Go.Proofs.Ytaakdnbaljoehaa
open Go.RowKit Cod
set_option linter.unusedVariables false

set_option maxRecDepth 100000 in
set_option maxHeartbeats 800000 in
theorem getRow_any (R : Nat) (l : List (BitVec 8)) (at_ why : Nat) (w : World) (h : Rdr w R l at_ why) :
    Calls Try.prog 82 #[.pointer (some ⟨R, 0, none⟩)] w fun e w' => e = .returned (.agg #[.string (rRow l at_ why).1.1, .int .i64 (rRow l at_ why).1.2]) ∧ Rdr w' R l (rRow l at_ why).2.1 (rRow l at_ why).2.2 ∧ w.grownBy w' (some R) := by
  generalize hw1 : (w.alloc (.cells #[.string ⟨#[]⟩, .int .i64 0] 59)).alloc (.cells #[.string ⟨#[]⟩, .int .i64 0] 59) = w1
  have f1 : Hid (Fill w w1 R l at_ why 59 #[.string ⟨#[]⟩, .int .i64 0] #[.string ⟨#[]⟩, .int .i64 0]) := by rw [← hw1]; exact Fill.start h _ _ _
  have HW : Hid _ := hw1
  simp only [rRow]
  have C1 : Hid (∀ w', Rdr w' R l at_ why → Calls Try.prog 80 #[.pointer (some ⟨R, 0, none⟩)] w' fun e w'' => e = .returned (.string (textOf (rS l at_ why).1)) ∧ Rdr w'' R l (rS l at_ why).2.1 (rS l at_ why).2.2 ∧ w'.grownBy w'' (some R)) := fun w' h => rText_any R l at_ why w' h
  generalize textOf (rS l at_ why).1 = s1 at *
  generalize (rS l at_ why).2.1 = p1 at *
  generalize (rS l at_ why).2.2 = y1 at *
  have C2 : Hid (∀ w', Rdr w' R l p1 y1 → Calls Try.prog 47 #[.pointer (some ⟨R, 0, none⟩)] w' fun e w'' => e = .returned (.int .i64 (zag (rU l p1 y1).1)) ∧ Rdr w'' R l (rU l p1 y1).2.1 (rU l p1 y1).2.2 ∧ w'.grownBy w'' (some R)) := fun w' h => rInt_any R l p1 y1 w' h
  generalize zag (rU l p1 y1).1 = k2 at *
  generalize (rU l p1 y1).2.1 = p2 at *
  generalize (rU l p1 y1).2.2 = y2 at *
  clear h hw1
  go_enter Try.func82, Try.ntmps82
  go_wp2_with fail
  rw [HW.out]
  refine (C1.out _ f1.out.rdr).mono ?_
  rintro e v1 ⟨rfl, r1, g1⟩
  have d1 : Hid (Fill w v1 R l p1 y1 59 #[.string ⟨#[]⟩, .int .i64 0] #[.string ⟨#[]⟩, .int .i64 0]) := f1.out.call r1 g1
  have c1 : v1.cell? ⟨w.heap.size + 1, 0, none⟩ = some (.string ⟨#[]⟩) := (d1.out.cell 0).1
  have z1 := (d1.out.cell 0).2
  have f2 : Hid (Fill w (v1.setCell ⟨w.heap.size + 1, 0, none⟩ (.string s1)) R l p1 y1 59 #[.string ⟨#[]⟩, .int .i64 0] #[.string s1, .int .i64 0]) := d1.out.store 0 _
  clear r1 g1 C1 f1 d1
  go_wp2_with fail
  refine (C2.out _ f2.out.rdr).mono ?_
  rintro e v2 ⟨rfl, r2, g2⟩
  have d2 : Hid (Fill w v2 R l p2 y2 59 #[.string ⟨#[]⟩, .int .i64 0] #[.string s1, .int .i64 0]) := f2.out.call r2 g2
  have c2 : v2.cell? ⟨w.heap.size + 1, 1, none⟩ = some (.int .i64 0) := (d2.out.cell 1).1
  have z2 := (d2.out.cell 1).2
  have f3 : Hid (Fill w (v2.setCell ⟨w.heap.size + 1, 1, none⟩ (.int .i64 k2)) R l p2 y2 59 #[.string ⟨#[]⟩, .int .i64 0] #[.string s1, .int .i64 k2]) := d2.out.store 1 _
  clear r2 g2 C2 f2 d2
  obtain ⟨wl, hwl⟩ : ∃ wl, v2.setCell ⟨w.heap.size + 1, 1, none⟩ (.int .i64 k2) = wl := ⟨_, rfl⟩
  rw [hwl] at f3
  have n0 : wl.cell? ⟨w.heap.size + 1, 0, none⟩ = some (.string s1) := (f3.out.cell 0).1
  have n1 : wl.cell? ⟨w.heap.size + 1, 1, none⟩ = some (.int .i64 k2) := (f3.out.cell 1).1
  have o0 : wl.cell? ⟨w.heap.size, 0, none⟩ = some (.string ⟨#[]⟩) := by simp [World.cell?, f3.out.old]
  have o1 : wl.cell? ⟨w.heap.size, 1, none⟩ = some (.int .i64 0) := by simp [World.cell?, f3.out.old]
  have oz : ∀ i, wl.frozen? ⟨w.heap.size, i, none⟩ = false := fun i => by simp [World.frozen?, f3.out.old]
  go_wp2_with fail
  have ff := ((f3.out.put 0 (.string s1)).put 1 (.int .i64 k2))
  exact bodyPost_ret (results_cell_row rfl _ _ w.heap.size 59 _ _ _ rfl ff.old Try.underlying59 rfl (by kernel_rfl)) rfl ⟨rfl, ff.rdr, ff.grown⟩
/-- Rows as cells. -/
def rowCells (rows : List (ByteArray × Int)) : List Value := rows.flatMap fun r => [.string r.1, .int .i64 r.2]
theorem rowCells_snoc (rows : List (ByteArray × Int)) (r : ByteArray × Int) : rowCells (rows ++ [r]) = rowCells rows ++ [.string r.1, .int .i64 r.2] := by simp [rowCells]
theorem rowCells_get : ∀ (rows : List (ByteArray × Int)) (j : Nat) (hj : j < rows.length), (rowCells rows)[j * 2]? = some (.string rows[j].1) ∧ (rowCells rows)[j * 2 + 1]? = some (.int .i64 rows[j].2)
  | r :: rest, 0, _ => by simp [rowCells]
  | r :: rest, j + 1, hj => by
    have ih := rowCells_get rest j (by simpa using hj)
    have e1 : (j + 1) * 2 = j * 2 + 1 + 1 := by omega
    simp only [rowCells, List.flatMap_cons, List.cons_append, List.nil_append, e1, List.getElem?_cons_succ, List.getElem_cons_succ] at ih ⊢
    exact ih
theorem rows_owned {w : World} {base n : Nat} {a : Option Addr} {k cap : Nat} {rows : List (ByteArray × Int)} (h : w.ownsRow base 59 2 (.slice a k cap) n (rowCells rows)) (hl : rows.length = n) (hm : n ≤ 140737488355328) : RowsAt w a k rows := by
  rcases h.2 with ⟨e, rfl⟩ | ⟨g, c, cur, e, hg, hcell, hnc, hcm, hcs, htake⟩
  · cases e
    exact ⟨hl.symm, by omega, .inl rfl⟩
  · cases e
    refine ⟨hl.symm, by omega, ?_⟩
    by_cases h0 : n = 0
    · exact .inl h0
    · refine .inr ⟨g, 0, rfl, fun j hj => ?_⟩
      obtain ⟨h1, h2⟩ := rowCells_get rows j hj
      rw [← htake] at h1 h2
      rw [List.getElem?_take] at h1 h2
      rw [if_pos (by omega)] at h1
      rw [if_pos (by omega)] at h2
      simp only [World.cell?, hcell, Nat.zero_add]
      exact ⟨by simpa using h1, by simpa using h2⟩
theorem owns_far {w w' : World} {base R n size : Nat} {e : TypeId} {v : Value} {xs : List Value} (h : w.ownsRow base e size v n xs) (hg : w.grownBy w' (some R)) (hR : R < base) : w'.ownsRow base e size v n xs := by
  refine ⟨h.1, h.2.imp id ?_⟩
  rintro ⟨g, cap, cur, e1, e2, e3, e4⟩
  refine ⟨g, cap, cur, e1, e2, ?_, e4⟩
  rw [hg.block g (Array.getElem?_eq_some_iff.1 e3).1 (fun e => by have := Option.some.inj e; omega)]
  exact e3
theorem owns_set {w : World} {base n size : Nat} {e : TypeId} {v : Value} {xs : List Value} (h : w.ownsRow base e size v n xs) (a : Addr) (u : Value) (ha : a.block < base) : (w.setCell a u).ownsRow base e size v n xs := by
  refine ⟨h.1, h.2.imp id ?_⟩
  rintro ⟨g, cap, cur, e1, e2, e3, e4⟩
  refine ⟨g, cap, cur, e1, e2, ?_, e4⟩
  rw [Below.heap_setCell _ _ _ g (fun e => by omega)]
  exact e3
theorem st_alloc {w : World} {a : Addr} {v : Value} (o : Obj) (h : w.cell? a = some v ∧ w.frozen? a = false) : (w.alloc o).cell? a = some v ∧ (w.alloc o).frozen? a = false := by
  have hb : (w.alloc o).heap[a.block]? = w.heap[a.block]? := Below.heap_alloc w o a.block (World.block_lt_of_cell? w _ h.1)
  rw [World.cell?_of_block hb, World.frozen?_of_block hb]
  exact h
theorem st_grown {w w' : World} {row : Option Nat} {a : Addr} {v : Value} (hg : w.grownBy w' row) (hne : some a.block ≠ row) (h : w.cell? a = some v ∧ w.frozen? a = false) : w'.cell? a = some v ∧ w'.frozen? a = false := by
  have hl := World.block_lt_of_cell? w _ h.1
  rw [hg.cell_far a hl hne, hg.frozen_far a hl hne]
  exact h
theorem info_row : (Try.prog.info? 59).map (fun i => (i.zero, i.size, i.bytes)) = some (some (.agg #[.string ⟨#[]⟩, .int .i64 0]), 2, 24) := by kernel_rfl
set_option maxRecDepth 100000 in
set_option maxHeartbeats 1600000 in
theorem getReply_any (R : Nat) (l : List (BitVec 8)) (at_ why : Nat) (w : World) (h : Rdr w R l at_ why) :
    Calls Try.prog 68 #[.pointer (some ⟨R, 0, none⟩)] w fun e w' => ∃ a n c, e = .returned (.agg #[.int .i64 (zag (rRe1 l at_ why).1), .int .i64 (zag (rRe2 l at_ why).1), .slice a n c]) ∧ RowsAt w' a n (rRe4 l at_ why).1 ∧ Rdr w' R l (rRe4 l at_ why).2.1 (rRe4 l at_ why).2.2 ∧ w.grownBy w' (some R) := by
  generalize hw1 : (w.alloc (.cells #[.int .i64 0, .int .i64 0, .slice none 0 0] 28)).alloc (.cells #[.int .i64 0, .int .i64 0, .slice none 0 0] 28) = w1
  have f1 : Hid (Fill w w1 R l at_ why 28 #[.int .i64 0, .int .i64 0, .slice none 0 0] #[.int .i64 0, .int .i64 0, .slice none 0 0]) := by rw [← hw1]; exact Fill.start h _ _ _
  have HW : Hid _ := hw1
  have hlt := h.lt
  have C1 : Hid (∀ w', Rdr w' R l at_ why → Calls Try.prog 47 #[.pointer (some ⟨R, 0, none⟩)] w' fun e w'' => e = .returned (.int .i64 (zag (rRe1 l at_ why).1)) ∧ Rdr w'' R l (rRe1 l at_ why).2.1 (rRe1 l at_ why).2.2 ∧ w'.grownBy w'' (some R)) := fun w' h => by rw [rRe1]; exact rInt_any R l at_ why w' h
  have C2 : Hid (∀ w', Rdr w' R l (rRe1 l at_ why).2.1 (rRe1 l at_ why).2.2 → Calls Try.prog 47 #[.pointer (some ⟨R, 0, none⟩)] w' fun e w'' => e = .returned (.int .i64 (zag (rRe2 l at_ why).1)) ∧ Rdr w'' R l (rRe2 l at_ why).2.1 (rRe2 l at_ why).2.2 ∧ w'.grownBy w'' (some R)) := fun w' h => by rw [rRe2]; exact rInt_any R l _ _ w' h
  have C3 : Hid (∀ w', Rdr w' R l (rRe2 l at_ why).2.1 (rRe2 l at_ why).2.2 → Calls Try.prog 81 #[.pointer (some ⟨R, 0, none⟩), .int .i64 600] w' fun e w'' => e = .returned (.int .i64 (rRe3 l at_ why).1) ∧ Rdr w'' R l (rRe3 l at_ why).2.1 (rRe3 l at_ why).2.2 ∧ w'.grownBy w'' (some R)) := fun w' h => by rw [rRe3]; exact rCount_any R l 600 (by omega) _ _ w' h
  have hn600 : (rRe3 l at_ why).1 ≤ 600 := by rw [rRe3]; exact rC_most l 600 _ _ (by omega)
  have H4 : Hid (rRe4 l at_ why = rRows l (rRe3 l at_ why).2.1 (rRe3 l at_ why).2.2 (rRe3 l at_ why).1) := (rfl : _ = _)
  rw [H4.out]
  generalize zag (rRe1 l at_ why).1 = k1 at *
  generalize (rRe1 l at_ why).2.1 = p1 at *
  generalize (rRe1 l at_ why).2.2 = y1 at *
  generalize zag (rRe2 l at_ why).1 = k2 at *
  generalize (rRe2 l at_ why).2.1 = p2 at *
  generalize (rRe2 l at_ why).2.2 = y2 at *
  generalize (rRe3 l at_ why).1 = n at *
  generalize (rRe3 l at_ why).2.1 = p3 at *
  generalize (rRe3 l at_ why).2.2 = y3 at *
  clear h hw1 H4
  go_enter Try.func68, Try.ntmps68
  go_wp2_with fail
  rw [HW.out]
  refine (C1.out _ f1.out.rdr).mono ?_
  rintro e v1 ⟨rfl, r1, g1⟩
  have d1 : Hid (Fill w v1 R l p1 y1 28 #[.int .i64 0, .int .i64 0, .slice none 0 0] #[.int .i64 0, .int .i64 0, .slice none 0 0]) := f1.out.call r1 g1
  have c1 : v1.cell? ⟨w.heap.size + 1, 0, none⟩ = some (.int .i64 0) := (d1.out.cell 0).1
  have z1 := (d1.out.cell 0).2
  have f2 : Hid (Fill w (v1.setCell ⟨w.heap.size + 1, 0, none⟩ (.int .i64 k1)) R l p1 y1 28 #[.int .i64 0, .int .i64 0, .slice none 0 0] #[.int .i64 k1, .int .i64 0, .slice none 0 0]) := d1.out.store 0 _
  clear r1 g1 C1 f1 d1
  go_wp2_with fail
  refine (C2.out _ f2.out.rdr).mono ?_
  rintro e v2 ⟨rfl, r2, g2⟩
  have d2 : Hid (Fill w v2 R l p2 y2 28 #[.int .i64 0, .int .i64 0, .slice none 0 0] #[.int .i64 k1, .int .i64 0, .slice none 0 0]) := f2.out.call r2 g2
  have c2 : v2.cell? ⟨w.heap.size + 1, 1, none⟩ = some (.int .i64 0) := (d2.out.cell 1).1
  have z2 := (d2.out.cell 1).2
  have f3 : Hid (Fill w (v2.setCell ⟨w.heap.size + 1, 1, none⟩ (.int .i64 k2)) R l p2 y2 28 #[.int .i64 0, .int .i64 0, .slice none 0 0] #[.int .i64 k1, .int .i64 k2, .slice none 0 0]) := d2.out.store 1 _
  clear r2 g2 C2 f2 d2
  go_wp2_with fail
  refine (C3.out _ f3.out.rdr).mono ?_
  rintro e v3 ⟨rfl, r3, g3⟩
  have f4 : Hid (Fill w v3 R l p3 y3 28 #[.int .i64 0, .int .i64 0, .slice none 0 0] #[.int .i64 k1, .int .i64 k2, .slice none 0 0]) := f3.out.call r3 g3
  clear r3 g3 C3 f3
  go_wp2
  go_loopw [12] (fun i wr => ∃ (k : Nat) (va : Option Addr) (vn vc : Nat), k ≤ n ∧ i = .int .i64 k ∧ Fill w wr R l (rRows l p3 y3 k).2.1 (rRows l p3 y3 k).2.2 28 #[.int .i64 0, .int .i64 0, .slice none 0 0] #[.int .i64 k1, .int .i64 k2, .slice va vn vc] ∧ wr.ownsRow (w.heap.size + 2) 59 2 (.slice va vn vc) k (rowCells (rRows l p3 y3 k).1))
    (fun i _ => n - (intOf i).toNat)
  case atStart => exact ⟨0, none, 0, 0, Nat.zero_le _, rfl, f4.out, World.ownsRow_nil _ _ _ _⟩
  case round =>
    obtain ⟨k, va, vn, vc, hk, rfl, hf, hown⟩ := hrel
    have HF : Hid (Fill w wr R l (rRows l p3 y3 k).2.1 (rRows l p3 y3 k).2.2 28 #[.int .i64 0, .int .i64 0, .slice none 0 0] #[.int .i64 k1, .int .i64 k2, .slice va vn vc]) := hf
    have HO : Hid (wr.ownsRow (w.heap.size + 2) 59 2 (.slice va vn vc) k (rowCells (rRows l p3 y3 k).1)) := hown
    clear hf hown f4
    by_cases hkn : k < n
    · have HG : Hid (∀ w', Rdr w' R l (rRows l p3 y3 k).2.1 (rRows l p3 y3 k).2.2 → Calls Try.prog 82 #[.pointer (some ⟨R, 0, none⟩)] w' fun e w'' => e = .returned (.agg #[.string (rRow l (rRows l p3 y3 k).2.1 (rRows l p3 y3 k).2.2).1.1, .int .i64 (rRow l (rRows l p3 y3 k).2.1 (rRows l p3 y3 k).2.2).1.2]) ∧ Rdr w'' R l (rRows l p3 y3 (k + 1)).2.1 (rRows l p3 y3 (k + 1)).2.2 ∧ w'.grownBy w'' (some R)) := fun w' h => getRow_any R l _ _ w' h
      have HS : Hid (rowCells (rRows l p3 y3 (k + 1)).1 = rowCells (rRows l p3 y3 k).1 ++ [.string (rRow l (rRows l p3 y3 k).2.1 (rRows l p3 y3 k).2.2).1.1, .int .i64 (rRow l (rRows l p3 y3 k).2.1 (rRows l p3 y3 k).2.2).1.2]) := rowCells_snoc _ _
      generalize (rRow l (rRows l p3 y3 k).2.1 (rRows l p3 y3 k).2.2).1.1 = rs at *
      generalize (rRow l (rRows l p3 y3 k).2.1 (rRows l p3 y3 k).2.2).1.2 = rn at *
      obtain ⟨i0, hi, hz0, hz1, hz2⟩ := info_parts info_row
      have kc : wr.cell? ⟨w.heap.size + 1, 2, none⟩ = some (.slice va vn vc) := (HF.out.cell 2).1
      have kf := (HF.out.cell 2).2
      have ks : w.heap.size + 1 < wr.heap.size := (Array.getElem?_eq_some_iff.1 HF.out.new).1
      have kR : (some (w.heap.size + 1) : Option Nat) ≠ some R := fun e => by have := Option.some.inj e; omega
      have kO : (some (w.heap.size + 1) : Option Nat) ≠ (Value.slice va vn vc).ownBlock := fun e => by have := (HO.out.lt _ e.symm).1; omega
      go_wp2_with fail
      go_region_law
        (first
          | (go_simp; go_at_call 82; refine (HG.out _ ?_).mono ?_; exact HF.out.rdr; rintro e w2 ⟨rfl, r2, gg2⟩; have g2 : wr.grownBy w2 (some R) := ⟨gg2.os, gg2.tape, gg2.output, gg2.size, gg2.block⟩; clear gg2; obtain ⟨mc, mf⟩ := st_grown g2 kR ⟨kc, kf⟩; obtain ⟨nc, nf⟩ := st_alloc (.cells #[.string rs, .int .i64 rn] 59) ⟨mc, mf⟩; have hz2' := g2.size)
          | (refine step_append_lies _ (by rfl) _ _ _ (by rfl) (w.heap.size + 2) 59 i0 _ 2 24 Try.underlying26 hi hz0 hz1 hz2 rfl (by omega) (.slice va vn vc) k (rowCells (rRows l p3 y3 k).1) (by rfl) (((owns_far HO.out g2 (by omega)).alloc _).drew)
              ⟨w2.heap.size, 0, none⟩ 1 1 [.string rs, .int .i64 rn] (by rfl) (by rfl) (World.news_of_block (cs := #[.string rs, .int .i64 rn]) (t := 59) (fr := (0, 0)) (heap_alloc_new w2 _)) (by simp [Value.oneCell'])
              (by omega) (by unfold maxLen; omega) (by omega) (by simp; omega) (w2.heap.size + 1) (by simp) ?_; intro gg cap w3 hown3 hgrow hat hlt3; obtain ⟨qc, qf⟩ := st_grown hgrow kO (st_alloc _ ⟨mc, mf⟩)))
      all_goals
        (have fB : Hid (Fill w (w3.setCell ⟨w.heap.size + 1, 2, none⟩ (.slice (some ⟨gg, 0, none⟩) (k + 1) cap)) R l (rRows l p3 y3 (k + 1)).2.1 (rRows l p3 y3 (k + 1)).2.2 28 #[.int .i64 0, .int .i64 0, .slice none 0 0] #[.int .i64 k1, .int .i64 k2, .slice (some ⟨gg, 0, none⟩) (k + 1) cap]) :=
           ((((HF.out.call r2 g2).alloc _).grow hgrow (fun g e => (HO.out.lt _ e).1)).store 2 _)
         have oB : Hid ((w3.setCell ⟨w.heap.size + 1, 2, none⟩ (.slice (some ⟨gg, 0, none⟩) (k + 1) cap)).ownsRow (w.heap.size + 2) 59 2 (.slice (some ⟨gg, 0, none⟩) (k + 1) cap) (k + 1) (rowCells (rRows l p3 y3 (k + 1)).1)) := by
           show World.ownsRow _ _ _ _ _ _ _
           rw [HS.out]
           exact owns_set hown3 _ _ (by show w.heap.size + 1 < w.heap.size + 2; omega)
         clear r2 g2 hown3 hgrow hat
         go_wp2
         go_roundw
         case rel => exact ⟨k + 1, some ⟨gg, 0, none⟩, k + 1, cap, by omega, by go_num, fB.out, oB.out⟩
         case measure => simp only [intOf]; omega)
    · obtain rfl : k = n := by omega
      have n0 : wr.cell? ⟨w.heap.size + 1, 0, none⟩ = some (.int .i64 k1) := (HF.out.cell 0).1
      have n1 : wr.cell? ⟨w.heap.size + 1, 1, none⟩ = some (.int .i64 k2) := (HF.out.cell 1).1
      have n2 : wr.cell? ⟨w.heap.size + 1, 2, none⟩ = some (.slice va vn vc) := (HF.out.cell 2).1
      have o0 : wr.cell? ⟨w.heap.size, 0, none⟩ = some (.int .i64 0) := by simp [World.cell?, HF.out.old]
      have o1 : wr.cell? ⟨w.heap.size, 1, none⟩ = some (.int .i64 0) := by simp [World.cell?, HF.out.old]
      have o2 : wr.cell? ⟨w.heap.size, 2, none⟩ = some (.slice none 0 0) := by simp [World.cell?, HF.out.old]
      have oz : ∀ i, wr.frozen? ⟨w.heap.size, i, none⟩ = false := fun i => by simp [World.frozen?, HF.out.old]
      go_wp2_with fail
      have ff := (((HF.out.put 0 (.int .i64 k1)).put 1 (.int .i64 k2)).put 2 (.slice va vn vc))
      have oo := owns_set (owns_set (owns_set HO.out ⟨w.heap.size, 0, none⟩ (.int .i64 k1) (by show w.heap.size < w.heap.size + 2; omega)) ⟨w.heap.size, 1, none⟩ (.int .i64 k2) (by show w.heap.size < w.heap.size + 2; omega)) ⟨w.heap.size, 2, none⟩ (.slice va vn vc) (by show w.heap.size < w.heap.size + 2; omega)
      exact bodyPost_ret (results_cell_row rfl _ _ w.heap.size 28 _ _ _ rfl ff.old Try.underlying28 rfl (by kernel_rfl)) rfl ⟨va, vn, vc, rfl, rows_owned oo (rRows_length l p3 y3 k) (by omega), ff.rdr, ff.grown⟩
end Go.Proofs.Ytaakdnbaljoehaa
