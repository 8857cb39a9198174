/- What getRow and GetReply do. -/
import Derived.Test.YtogbcciocgpknaaTaK
import Derived.Deep.AppendLies
import Derived.Deep.RegionLaw
import Derived.Test.YtogbcciocgpknaaTaL
import Derived.Test.YtogbcciocgpknaaTaB
namespace Go.Proofs.Ytogbcciocgpknaa
open Go.RowKit Cod
set_option linter.unusedVariables false

set_option maxRecDepth 100000 in
set_option maxHeartbeats 800000 in
theorem getRow_any (R : Nat) (l : List (BitVec 8)) (at_ why : Nat) (w : World) (h : Rdr w R l at_ why) :
    Calls Try.prog 71 #[.pointer (some ⟨R, 0, none⟩)] w fun e w' => e = .returned (.agg #[.string (rRow l at_ why).1.1, .int .i64 (rRow l at_ why).1.2]) ∧ Rdr w' R l (rRow l at_ why).2.1 (rRow l at_ why).2.2 ∧ w.grownBy w' (some R) := by
  generalize hw1 : (w.alloc (.cells #[.string ⟨#[]⟩, .int .i64 0] 62)).alloc (.cells #[.string ⟨#[]⟩, .int .i64 0] 62) = w1
  have f1 : Hid (Fill w w1 R l at_ why 62 #[.string ⟨#[]⟩, .int .i64 0] #[.string ⟨#[]⟩, .int .i64 0]) := by rw [← hw1]; exact Fill.start h _ _ _
  have HW : Hid _ := hw1
  simp only [rRow]
  have C1 : Hid (∀ w', Rdr w' R l at_ why → Calls Try.prog 65 #[.pointer (some ⟨R, 0, none⟩)] w' fun e w'' => e = .returned (.string (textOf (rS l at_ why).1)) ∧ Rdr w'' R l (rS l at_ why).2.1 (rS l at_ why).2.2 ∧ w'.grownBy w'' (some R)) := fun w' h => rText_any R l at_ why w' h
  generalize textOf (rS l at_ why).1 = s1 at *
  generalize (rS l at_ why).2.1 = p1 at *
  generalize (rS l at_ why).2.2 = y1 at *
  have C2 : Hid (∀ w', Rdr w' R l p1 y1 → Calls Try.prog 33 #[.pointer (some ⟨R, 0, none⟩)] w' fun e w'' => e = .returned (.int .i64 (zag (rU l p1 y1).1)) ∧ Rdr w'' R l (rU l p1 y1).2.1 (rU l p1 y1).2.2 ∧ w'.grownBy w'' (some R)) := fun w' h => rInt_any R l p1 y1 w' h
  generalize zag (rU l p1 y1).1 = k2 at *
  generalize (rU l p1 y1).2.1 = p2 at *
  generalize (rU l p1 y1).2.2 = y2 at *
  clear h hw1
  go_enter Try.func71, Try.ntmps71
  go_wp2_with fail
  rw [HW.out]
  refine (C1.out _ f1.out.rdr).mono ?_
  rintro e v1 ⟨rfl, r1, g1⟩
  have d1 : Hid (Fill w v1 R l p1 y1 62 #[.string ⟨#[]⟩, .int .i64 0] #[.string ⟨#[]⟩, .int .i64 0]) := f1.out.call r1 g1
  have c1 : v1.cell? ⟨w.heap.size + 1, 0, none⟩ = some (.string ⟨#[]⟩) := (d1.out.cell 0).1
  have z1 := (d1.out.cell 0).2
  have f2 : Hid (Fill w (v1.setCell ⟨w.heap.size + 1, 0, none⟩ (.string s1)) R l p1 y1 62 #[.string ⟨#[]⟩, .int .i64 0] #[.string s1, .int .i64 0]) := d1.out.store 0 _
  clear r1 g1 C1 f1 d1
  go_wp2_with fail
  refine (C2.out _ f2.out.rdr).mono ?_
  rintro e v2 ⟨rfl, r2, g2⟩
  have d2 : Hid (Fill w v2 R l p2 y2 62 #[.string ⟨#[]⟩, .int .i64 0] #[.string s1, .int .i64 0]) := f2.out.call r2 g2
  have c2 : v2.cell? ⟨w.heap.size + 1, 1, none⟩ = some (.int .i64 0) := (d2.out.cell 1).1
  have z2 := (d2.out.cell 1).2
  have f3 : Hid (Fill w (v2.setCell ⟨w.heap.size + 1, 1, none⟩ (.int .i64 k2)) R l p2 y2 62 #[.string ⟨#[]⟩, .int .i64 0] #[.string s1, .int .i64 k2]) := d2.out.store 1 _
  clear r2 g2 C2 f2 d2
  obtain ⟨wl, hwl⟩ : ∃ wl, v2.setCell ⟨w.heap.size + 1, 1, none⟩ (.int .i64 k2) = wl := ⟨_, rfl⟩
  rw [hwl] at f3
  have n0 : wl.cell? ⟨w.heap.size + 1, 0, none⟩ = some (.string s1) := (f3.out.cell 0).1
  have n1 : wl.cell? ⟨w.heap.size + 1, 1, none⟩ = some (.int .i64 k2) := (f3.out.cell 1).1
  have o0 : wl.cell? ⟨w.heap.size, 0, none⟩ = some (.string ⟨#[]⟩) := by simp [World.cell?, f3.out.old]
  have o1 : wl.cell? ⟨w.heap.size, 1, none⟩ = some (.int .i64 0) := by simp [World.cell?, f3.out.old]
  have oz : ∀ i, wl.frozen? ⟨w.heap.size, i, none⟩ = false := fun i => by simp [World.frozen?, f3.out.old]
  go_wp2_with fail
  have ff := ((f3.out.put 0 (.string s1)).put 1 (.int .i64 k2))
  exact bodyPost_ret (results_cell_row rfl _ _ w.heap.size 62 _ _ _ rfl ff.old Try.underlying62 rfl (by kernel_rfl)) rfl ⟨rfl, ff.rdr, ff.grown⟩
/-- Rows as cells. -/
def rowCells (rows : List (ByteArray × Int)) : List Value := rows.flatMap fun r => [.string r.1, .int .i64 r.2]
theorem rowCells_snoc (rows : List (ByteArray × Int)) (r : ByteArray × Int) : rowCells (rows ++ [r]) = rowCells rows ++ [.string r.1, .int .i64 r.2] := by simp [rowCells]
theorem rowCells_get : ∀ (rows : List (ByteArray × Int)) (j : Nat) (hj : j < rows.length), (rowCells rows)[j * 2]? = some (.string rows[j].1) ∧ (rowCells rows)[j * 2 + 1]? = some (.int .i64 rows[j].2)
  | r :: rest, 0, _ => by simp [rowCells]
  | r :: rest, j + 1, hj => by
    have ih := rowCells_get rest j (by simpa using hj)
    have e1 : (j + 1) * 2 = j * 2 + 1 + 1 := by omega
    simp only [rowCells, List.flatMap_cons, List.cons_append, List.nil_append, e1, List.getElem?_cons_succ, List.getElem_cons_succ] at ih ⊢
    exact ih
theorem rows_owned {w : World} {base n : Nat} {a : Option Addr} {k cap : Nat} {rows : List (ByteArray × Int)} (h : w.ownsRow base 62 2 (.slice a k cap) n (rowCells rows)) (hl : rows.length = n) (hm : n ≤ 140737488355328) : RowsAt w a k rows := by
  rcases h.2 with ⟨e, rfl⟩ | ⟨g, c, cur, e, hg, hcell, hnc, hcm, hcs, htake⟩
  · cases e
    exact ⟨hl.symm, by omega, .inl rfl⟩
  · cases e
    refine ⟨hl.symm, by omega, ?_⟩
    by_cases h0 : n = 0
    · exact .inl h0
    · refine .inr ⟨g, 0, rfl, fun j hj => ?_⟩
      obtain ⟨h1, h2⟩ := rowCells_get rows j hj
      rw [← htake] at h1 h2
      rw [List.getElem?_take] at h1 h2
      rw [if_pos (by omega)] at h1
      rw [if_pos (by omega)] at h2
      simp only [World.cell?, hcell, Nat.zero_add]
      exact ⟨by simpa using h1, by simpa using h2⟩
theorem owns_far {w w' : World} {base R n size : Nat} {e : TypeId} {v : Value} {xs : List Value} (h : w.ownsRow base e size v n xs) (hg : w.grownBy w' (some R)) (hR : R < base) : w'.ownsRow base e size v n xs := by
  refine ⟨h.1, h.2.imp id ?_⟩
  rintro ⟨g, cap, cur, e1, e2, e3, e4⟩
  refine ⟨g, cap, cur, e1, e2, ?_, e4⟩
  rw [hg.block g (Array.getElem?_eq_some_iff.1 e3).1 (fun e => by have := Option.some.inj e; omega)]
  exact e3
theorem owns_set {w : World} {base n size : Nat} {e : TypeId} {v : Value} {xs : List Value} (h : w.ownsRow base e size v n xs) (a : Addr) (u : Value) (ha : a.block < base) : (w.setCell a u).ownsRow base e size v n xs := by
  refine ⟨h.1, h.2.imp id ?_⟩
  rintro ⟨g, cap, cur, e1, e2, e3, e4⟩
  refine ⟨g, cap, cur, e1, e2, ?_, e4⟩
  rw [Below.heap_setCell _ _ _ g (fun e => by omega)]
  exact e3
theorem st_alloc {w : World} {a : Addr} {v : Value} (o : Obj) (h : w.cell? a = some v ∧ w.frozen? a = false) : (w.alloc o).cell? a = some v ∧ (w.alloc o).frozen? a = false := by
  have hb : (w.alloc o).heap[a.block]? = w.heap[a.block]? := Below.heap_alloc w o a.block (World.block_lt_of_cell? w _ h.1)
  rw [World.cell?_of_block hb, World.frozen?_of_block hb]
  exact h
theorem st_grown {w w' : World} {row : Option Nat} {a : Addr} {v : Value} (hg : w.grownBy w' row) (hne : some a.block ≠ row) (h : w.cell? a = some v ∧ w.frozen? a = false) : w'.cell? a = some v ∧ w'.frozen? a = false := by
  have hl := World.block_lt_of_cell? w _ h.1
  rw [hg.cell_far a hl hne, hg.frozen_far a hl hne]
  exact h
theorem info_row : (Try.prog.info? 62).map (fun i => (i.zero, i.size, i.bytes)) = some (some (.agg #[.string ⟨#[]⟩, .int .i64 0]), 2, 24) := by kernel_rfl
set_option maxRecDepth 100000 in
set_option maxHeartbeats 1600000 in
theorem getReply_any (R : Nat) (l : List (BitVec 8)) (at_ why : Nat) (w : World) (h : Rdr w R l at_ why) :
    Calls Try.prog 43 #[.pointer (some ⟨R, 0, none⟩)] w fun e w' => ∃ a n c, e = .returned (.agg #[.int .i64 (zag (rRe1 l at_ why).1), .int .i64 (zag (rRe2 l at_ why).1), .slice a n c]) ∧ RowsAt w' a n (rRe4 l at_ why).1 ∧ Rdr w' R l (rRe4 l at_ why).2.1 (rRe4 l at_ why).2.2 ∧ w.grownBy w' (some R) := by
  generalize hw1 : (w.alloc (.cells #[.int .i64 0, .int .i64 0, .slice none 0 0] 32)).alloc (.cells #[.int .i64 0, .int .i64 0, .slice none 0 0] 32) = w1
  have f1 : Hid (Fill w w1 R l at_ why 32 #[.int .i64 0, .int .i64 0, .slice none 0 0] #[.int .i64 0, .int .i64 0, .slice none 0 0]) := by rw [← hw1]; exact Fill.start h _ _ _
  have HW : Hid _ := hw1
  have hlt := h.lt
  have C1 : Hid (∀ w', Rdr w' R l at_ why → Calls Try.prog 33 #[.pointer (some ⟨R, 0, none⟩)] w' fun e w'' => e = .returned (.int .i64 (zag (rRe1 l at_ why).1)) ∧ Rdr w'' R l (rRe1 l at_ why).2.1 (rRe1 l at_ why).2.2 ∧ w'.grownBy w'' (some R)) := fun w' h => by rw [rRe1]; exact rInt_any R l at_ why w' h
  have C2 : Hid (∀ w', Rdr w' R l (rRe1 l at_ why).2.1 (rRe1 l at_ why).2.2 → Calls Try.prog 33 #[.pointer (some ⟨R, 0, none⟩)] w' fun e w'' => e = .returned (.int .i64 (zag (rRe2 l at_ why).1)) ∧ Rdr w'' R l (rRe2 l at_ why).2.1 (rRe2 l at_ why).2.2 ∧ w'.grownBy w'' (some R)) := fun w' h => by rw [rRe2]; exact rInt_any R l _ _ w' h
  have C3 : Hid (∀ w', Rdr w' R l (rRe2 l at_ why).2.1 (rRe2 l at_ why).2.2 → Calls Try.prog 70 #[.pointer (some ⟨R, 0, none⟩), .int .i64 600] w' fun e w'' => e = .returned (.int .i64 (rRe3 l at_ why).1) ∧ Rdr w'' R l (rRe3 l at_ why).2.1 (rRe3 l at_ why).2.2 ∧ w'.grownBy w'' (some R)) := fun w' h => by rw [rRe3]; exact rCount_any R l 600 (by omega) _ _ w' h
  have hn600 : (rRe3 l at_ why).1 ≤ 600 := by rw [rRe3]; exact rC_most l 600 _ _ (by omega)
  have H4 : Hid (rRe4 l at_ why = rRows l (rRe3 l at_ why).2.1 (rRe3 l at_ why).2.2 (rRe3 l at_ why).1) := (rfl : _ = _)
  rw [H4.out]
  generalize zag (rRe1 l at_ why).1 = k1 at *
  generalize (rRe1 l at_ why).2.1 = p1 at *
  generalize (rRe1 l at_ why).2.2 = y1 at *
  generalize zag (rRe2 l at_ why).1 = k2 at *
  generalize (rRe2 l at_ why).2.1 = p2 at *
  generalize (rRe2 l at_ why).2.2 = y2 at *
  generalize (rRe3 l at_ why).1 = n at *
  generalize (rRe3 l at_ why).2.1 = p3 at *
  generalize (rRe3 l at_ why).2.2 = y3 at *
  clear h hw1 H4
  go_enter Try.func43, Try.ntmps43
  go_wp2_with fail
  rw [HW.out]
  refine (C1.out _ f1.out.rdr).mono ?_
  rintro e v1 ⟨rfl, r1, g1⟩
  have d1 : Hid (Fill w v1 R l p1 y1 32 #[.int .i64 0, .int .i64 0, .slice none 0 0] #[.int .i64 0, .int .i64 0, .slice none 0 0]) := f1.out.call r1 g1
  have c1 : v1.cell? ⟨w.heap.size + 1, 0, none⟩ = some (.int .i64 0) := (d1.out.cell 0).1
  have z1 := (d1.out.cell 0).2
  have f2 : Hid (Fill w (v1.setCell ⟨w.heap.size + 1, 0, none⟩ (.int .i64 k1)) R l p1 y1 32 #[.int .i64 0, .int .i64 0, .slice none 0 0] #[.int .i64 k1, .int .i64 0, .slice none 0 0]) := d1.out.store 0 _
  clear r1 g1 C1 f1 d1
  go_wp2_with fail
  refine (C2.out _ f2.out.rdr).mono ?_
  rintro e v2 ⟨rfl, r2, g2⟩
  have d2 : Hid (Fill w v2 R l p2 y2 32 #[.int .i64 0, .int .i64 0, .slice none 0 0] #[.int .i64 k1, .int .i64 0, .slice none 0 0]) := f2.out.call r2 g2
  have c2 : v2.cell? ⟨w.heap.size + 1, 1, none⟩ = some (.int .i64 0) := (d2.out.cell 1).1
  have z2 := (d2.out.cell 1).2
  have f3 : Hid (Fill w (v2.setCell ⟨w.heap.size + 1, 1, none⟩ (.int .i64 k2)) R l p2 y2 32 #[.int .i64 0, .int .i64 0, .slice none 0 0] #[.int .i64 k1, .int .i64 k2, .slice none 0 0]) := d2.out.store 1 _
  clear r2 g2 C2 f2 d2
  go_wp2_with fail
  refine (C3.out _ f3.out.rdr).mono ?_
  rintro e v3 ⟨rfl, r3, g3⟩
  have f4 : Hid (Fill w v3 R l p3 y3 32 #[.int .i64 0, .int .i64 0, .slice none 0 0] #[.int .i64 k1, .int .i64 k2, .slice none 0 0]) := f3.out.call r3 g3
  clear r3 g3 C3 f3
  go_wp2
  go_loopw [12] (fun i wr => ∃ (k : Nat) (va : Option Addr) (vn vc : Nat), k ≤ n ∧ i = .int .i64 k ∧ Fill w wr R l (rRows l p3 y3 k).2.1 (rRows l p3 y3 k).2.2 32 #[.int .i64 0, .int .i64 0, .slice none 0 0] #[.int .i64 k1, .int .i64 k2, .slice va vn vc] ∧ wr.ownsRow (w.heap.size + 2) 62 2 (.slice va vn vc) k (rowCells (rRows l p3 y3 k).1))
    (fun i _ => n - (intOf i).toNat)
  case atStart => exact ⟨0, none, 0, 0, Nat.zero_le _, rfl, f4.out, World.ownsRow_nil _ _ _ _⟩
  case round =>
    obtain ⟨k, va, vn, vc, hk, rfl, hf, hown⟩ := hrel
    have HF : Hid (Fill w wr R l (rRows l p3 y3 k).2.1 (rRows l p3 y3 k).2.2 32 #[.int .i64 0, .int .i64 0, .slice none 0 0] #[.int .i64 k1, .int .i64 k2, .slice va vn vc]) := hf
    have HO : Hid (wr.ownsRow (w.heap.size + 2) 62 2 (.slice va vn vc) k (rowCells (rRows l p3 y3 k).1)) := hown
    clear hf hown f4
    by_cases hkn : k < n
    · have HG : Hid (∀ w', Rdr w' R l (rRows l p3 y3 k).2.1 (rRows l p3 y3 k).2.2 → Calls Try.prog 71 #[.pointer (some ⟨R, 0, none⟩)] w' fun e w'' => e = .returned (.agg #[.string (rRow l (rRows l p3 y3 k).2.1 (rRows l p3 y3 k).2.2).1.1, .int .i64 (rRow l (rRows l p3 y3 k).2.1 (rRows l p3 y3 k).2.2).1.2]) ∧ Rdr w'' R l (rRows l p3 y3 (k + 1)).2.1 (rRows l p3 y3 (k + 1)).2.2 ∧ w'.grownBy w'' (some R)) := fun w' h => getRow_any R l _ _ w' h
      have HS : Hid (rowCells (rRows l p3 y3 (k + 1)).1 = rowCells (rRows l p3 y3 k).1 ++ [.string (rRow l (rRows l p3 y3 k).2.1 (rRows l p3 y3 k).2.2).1.1, .int .i64 (rRow l (rRows l p3 y3 k).2.1 (rRows l p3 y3 k).2.2).1.2]) := rowCells_snoc _ _
      generalize (rRow l (rRows l p3 y3 k).2.1 (rRows l p3 y3 k).2.2).1.1 = rs at *
      generalize (rRow l (rRows l p3 y3 k).2.1 (rRows l p3 y3 k).2.2).1.2 = rn at *
      obtain ⟨i0, hi, hz0, hz1, hz2⟩ := info_parts info_row
      have kc : wr.cell? ⟨w.heap.size + 1, 2, none⟩ = some (.slice va vn vc) := (HF.out.cell 2).1
      have kf := (HF.out.cell 2).2
      have ks : w.heap.size + 1 < wr.heap.size := (Array.getElem?_eq_some_iff.1 HF.out.new).1
      have kR : (some (w.heap.size + 1) : Option Nat) ≠ some R := fun e => by have := Option.some.inj e; omega
      have kO : (some (w.heap.size + 1) : Option Nat) ≠ (Value.slice va vn vc).ownBlock := fun e => by have := (HO.out.lt _ e.symm).1; omega
      go_wp2_with fail
      go_region_law
        (first
          | (go_simp; go_at_call 71; refine (HG.out _ ?_).mono ?_; exact HF.out.rdr; rintro e w2 ⟨rfl, r2, gg2⟩; have g2 : wr.grownBy w2 (some R) := ⟨gg2.os, gg2.tape, gg2.output, gg2.size, gg2.block⟩; clear gg2; obtain ⟨mc, mf⟩ := st_grown g2 kR ⟨kc, kf⟩; obtain ⟨nc, nf⟩ := st_alloc (.cells #[.string rs, .int .i64 rn] 62) ⟨mc, mf⟩; have hz2' := g2.size)
          | (refine step_append_lies _ (by rfl) _ _ _ (by rfl) (w.heap.size + 2) 62 i0 _ 2 24 Try.underlying30 hi hz0 hz1 hz2 rfl (by omega) (.slice va vn vc) k (rowCells (rRows l p3 y3 k).1) (by rfl) (((owns_far HO.out g2 (by omega)).alloc _).drew)
              ⟨w2.heap.size, 0, none⟩ 1 1 [.string rs, .int .i64 rn] (by rfl) (by rfl) (World.news_of_block (cs := #[.string rs, .int .i64 rn]) (t := 62) (fr := (0, 0)) (heap_alloc_new w2 _)) (by simp [Value.oneCell'])
              (by omega) (by unfold maxLen; omega) (by omega) (by simp; omega) (w2.heap.size + 1) (by simp) ?_; intro gg cap w3 hown3 hgrow hat hlt3; obtain ⟨qc, qf⟩ := st_grown hgrow kO (st_alloc _ ⟨mc, mf⟩)))
      all_goals
        (have fB : Hid (Fill w (w3.setCell ⟨w.heap.size + 1, 2, none⟩ (.slice (some ⟨gg, 0, none⟩) (k + 1) cap)) R l (rRows l p3 y3 (k + 1)).2.1 (rRows l p3 y3 (k + 1)).2.2 32 #[.int .i64 0, .int .i64 0, .slice none 0 0] #[.int .i64 k1, .int .i64 k2, .slice (some ⟨gg, 0, none⟩) (k + 1) cap]) :=
           ((((HF.out.call r2 g2).alloc _).grow hgrow (fun g e => (HO.out.lt _ e).1)).store 2 _)
         have oB : Hid ((w3.setCell ⟨w.heap.size + 1, 2, none⟩ (.slice (some ⟨gg, 0, none⟩) (k + 1) cap)).ownsRow (w.heap.size + 2) 62 2 (.slice (some ⟨gg, 0, none⟩) (k + 1) cap) (k + 1) (rowCells (rRows l p3 y3 (k + 1)).1)) := by
           show World.ownsRow _ _ _ _ _ _ _
           rw [HS.out]
           exact owns_set hown3 _ _ (by show w.heap.size + 1 < w.heap.size + 2; omega)
         clear r2 g2 hown3 hgrow hat
         go_wp2
         go_roundw
         case rel => exact ⟨k + 1, some ⟨gg, 0, none⟩, k + 1, cap, by omega, by go_num, fB.out, oB.out⟩
         case measure => simp only [intOf]; omega)
    · obtain rfl : k = n := by omega
      have n0 : wr.cell? ⟨w.heap.size + 1, 0, none⟩ = some (.int .i64 k1) := (HF.out.cell 0).1
      have n1 : wr.cell? ⟨w.heap.size + 1, 1, none⟩ = some (.int .i64 k2) := (HF.out.cell 1).1
      have n2 : wr.cell? ⟨w.heap.size + 1, 2, none⟩ = some (.slice va vn vc) := (HF.out.cell 2).1
      have o0 : wr.cell? ⟨w.heap.size, 0, none⟩ = some (.int .i64 0) := by simp [World.cell?, HF.out.old]
      have o1 : wr.cell? ⟨w.heap.size, 1, none⟩ = some (.int .i64 0) := by simp [World.cell?, HF.out.old]
      have o2 : wr.cell? ⟨w.heap.size, 2, none⟩ = some (.slice none 0 0) := by simp [World.cell?, HF.out.old]
      have oz : ∀ i, wr.frozen? ⟨w.heap.size, i, none⟩ = false := fun i => by simp [World.frozen?, HF.out.old]
      go_wp2_with fail
      have ff := (((HF.out.put 0 (.int .i64 k1)).put 1 (.int .i64 k2)).put 2 (.slice va vn vc))
      have oo := owns_set (owns_set (owns_set HO.out ⟨w.heap.size, 0, none⟩ (.int .i64 k1) (by show w.heap.size < w.heap.size + 2; omega)) ⟨w.heap.size, 1, none⟩ (.int .i64 k2) (by show w.heap.size < w.heap.size + 2; omega)) ⟨w.heap.size, 2, none⟩ (.slice va vn vc) (by show w.heap.size < w.heap.size + 2; omega)
      exact bodyPost_ret (results_cell_row rfl _ _ w.heap.size 32 _ _ _ rfl ff.old Try.underlying32 rfl (by kernel_rfl)) rfl ⟨va, vn, vc, rfl, rows_owned oo (rRows_length l p3 y3 k) (by omega), ff.rdr, ff.grown⟩
end Go.Proofs.Ytogbcciocgpknaa

namespace Go.Proofs.Ytogbcciocgpknaa
open Go.RowKit Cod
set_option linter.unusedVariables false
set_option linter.unusedSimpArgs false

theorem RRd.keep {w w' : World} {R A B : Nat} {l : List (BitVec 8)} {at_ why : Nat} (h : RRd w R A B l at_ why) (hb : Below w.heap.size w w') : RRd w' R A B l at_ why := by
  obtain ⟨a, cap, hh, hs, h3⟩ := h
  exact ⟨a, cap, (hb.block R (Array.getElem?_eq_some_iff.1 hh).1).trans hh, hs.below hb, h3⟩
theorem exec_append {P : Program} {o : Oper} {a : Act} {w w' : World} {v u x : Value} (s y : Operand) (t : TypeId) (ho : o.op = .call { callee := .builtin .append, args := #[s, y], argTypes := #[t, t] }) (hs : a.eval s = u) (hx : a.eval y = x) (hr : (Builtin.append_ #[t, t] o.type #[u, x]).run P w = .ok v w') : (execOp a.eval o).run P w = .ok (.value v) w' := by
  unfold execOp
  simp only [ho, resolve, invoke, builtin, Sem.run_bind, Sem.run_pure, Result.andThen_ok, List.map_toArray, List.map_cons, List.map_nil, hs, hx, hr]
/-- What Bytes answers. -/
def RBT (w w' : World) (R A B : Nat) (l : List (BitVec 8)) (S : List (BitVec 8) × Nat × Nat) (e : Ending) : Prop :=
  ∃ v, e = .returned v ∧ w'.ownsRow w.heap.size 5 1 v S.1.length (cellsOf S.1) ∧ S.1.length ≤ 65536 ∧ RRd w' R A B l S.2.1 S.2.2 ∧ w.grownBy w' (some R)
theorem rbt_err {w w' : World} {R A B : Nat} {l : List (BitVec 8)} {a y : Nat} (h : RRd w' R A B l a y) (g : w.grownBy w' (some R)) : RBT w w' R A B l ([], a, y) (.returned (.slice none 0 0)) :=
  ⟨_, rfl, World.ownsRow_nil _ _ _ _, by simp, h, g⟩
set_option maxRecDepth 100000 in
set_option maxHeartbeats 3200000 in
theorem refRBytes_any (R A B : Nat) (l : List (BitVec 8)) (at_ why : Nat) (w : World) (h : RRd w R A B l at_ why) :
    Calls Try.prog 39 #[.pointer (some ⟨R, 0, none⟩)] w fun e w' => RBT w w' R A B l (rS l at_ why) e := by
  have HU := refRUint_any R A B l at_ why w h
  obtain ⟨a, cap, c0, c1, c2, hfr, _⟩ := h.cells
  have hat0 : at_ ≤ l.length := by obtain ⟨_, _, _, _, _, _, _, h6, _⟩ := h; exact h6
  have HM : Hid (l.length ≤ 140737488355328) := by obtain ⟨_, _, _, _, _, _, _, _, h7⟩ := h; exact h7
  have HAT : Hid (at_ ≤ l.length) := hat0
  have HLT : Hid (R < w.heap.size) := h.lt
  have HUS : Hid ((rU l at_ why).1 < 18446744073709551616) := rU_small l at_ why
  have HUA : Hid ((rU l at_ why).2.1 ≤ l.length) := rU_at l at_ why hat0
  have HC : Hid (rC l 65536 at_ why = if (rU l at_ why).2.2 ≠ 0 then (0, (rU l at_ why).2.1, (rU l at_ why).2.2) else if (65536 : Int) < 0 ∨ (65536 : Int) < (rU l at_ why).1 then (0, at_, 3) else if l.length - (rU l at_ why).2.1 < (rU l at_ why).1 then (0, at_, 10) else rU l at_ why) := by show _ = _; rw [rC]
  have HS : Hid (∀ n p y, rC l 65536 at_ why = (n, p, y) → rS l at_ why = if y ≠ 0 then ([], p, y) else ((l.drop p).take n, p + n, 0)) := fun n p y e => by rw [rS, e]
  have HOK : Hid (∀ n p, rC l 65536 at_ why = (n, p, 0) → l ≠ []) := fun n p e => (rC_ok hat0 e).1
  have HE : Hid ((rU l at_ why).2.2 ≠ 0 → rU l at_ why = (0, at_, (rU l at_ why).2.2)) := rU_err l at_ why
  obtain ⟨T, hT⟩ : ∃ T, rC l 65536 at_ why = T := ⟨_, rfl⟩
  obtain ⟨S, hS⟩ : ∃ S, rS l at_ why = S := ⟨_, rfl⟩
  rw [hT] at HC HS HOK
  rw [hS] at HS ⊢
  clear h hfr hT hS c0 c2 hat0
  generalize rU l at_ why = U at *
  obtain ⟨n, p, y⟩ := U
  simp only at HU HC HE HUS HUA
  by_cases hy : y = 0
  · subst hy
    have HC2 : Hid (T = if (65536 : Int) < n then (0, at_, 3) else if l.length - p < n then (0, at_, 10) else (n, p, 0)) := by show _ = _; rw [HC.out]; simp
    clear HC HE
    by_cases hA : (65536 : Int) < n
    · have HC3 : Hid (S = ([], at_, 3)) := by have e := HS.out 0 at_ 3 (by rw [HC2.out, if_pos hA]); rw [e]; simp [Hid]
      clear HC2
      go_enter Try.func39, Try.ntmps39
      go_wp2_with fail
      refine HU.mono ?_
      rintro e w1 ⟨rfl, r1, g1⟩
      obtain ⟨a', cap', d0, d1, d2, dfr, sn', nil', kc', ne', _, _⟩ := r1.cells
      have R1 : Hid (RRd w1 R A B l p 0) := r1
      have G1 : Hid (w.grownBy w1 (some R)) := g1
      have SN : Hid (Seen w1 a' l.length l) := sn'
      have KC : Hid (l.length ≤ cap') := kc'
      clear r1 g1 c1 sn' nil' kc' ne'
      go_wp2_with fail
      obtain ⟨x, hx⟩ : ∃ x, w1.setCell ⟨R, 2, none⟩ (.int .i64 3) = x := ⟨_, rfl⟩
      have rx : RRd x R A B l p 3 := by rw [← hx]; exact R1.out.put 3
      have gx : w.grownBy x (some R) := by rw [← hx]; exact grown_put G1.out _ _
      obtain ⟨a2, cap2, f0, f1, f2, ffr, _, _, _, _, _, _⟩ := rx.cells
      have RX : Hid (RRd x R A B l p 3) := rx
      have GX : Hid (w.grownBy x (some R)) := gx
      rw [hx]
      clear hx rx gx d0 d1 d2 dfr
      have hz : ((3 : Int) == 0) = false := rfl
      go_quiet (fail)
      go_wp2
      go_ret
      rw [HC3.out]
      exact rbt_err ((RX.out.drawn nq).go at_ HAT.out) (grown_put (grown_drawn GX.out nq) _ _)
    · have hsub : IntKind.i64.wrap ((l.length : Int) - (p : Int)) = ((l.length - p : Nat) : Int) := by have := HM.out; have := HUA.out; rw [IntKind.wrap_i64]; omega
      have hsub2 : IntKind.u64.wrap ((l.length - p : Nat) : Int) = ((l.length - p : Nat) : Int) := by have := HM.out; rw [IntKind.wrap_u64]; omega
      by_cases hB : l.length - p < n
      · have HC3 : Hid (S = ([], at_, 10)) := by have e := HS.out 0 at_ 10 (by rw [HC2.out, if_neg hA, if_pos hB]); rw [e]; simp [Hid]
        have hB' : ((l.length - p : Nat) : Int) < (n : Int) := by omega
        clear HC2 hB
        go_enter Try.func39, Try.ntmps39
        go_wp2_with fail
        refine HU.mono ?_
        rintro e w1 ⟨rfl, r1, g1⟩
        obtain ⟨a', cap', d0, d1, d2, dfr, sn', nil', kc', ne', _, _⟩ := r1.cells
        have R1 : Hid (RRd w1 R A B l p 0) := r1
        have G1 : Hid (w.grownBy w1 (some R)) := g1
        have SN : Hid (Seen w1 a' l.length l) := sn'
        have KC : Hid (l.length ≤ cap') := kc'
        clear r1 g1 c1 sn' nil' kc' ne'
        go_wp2_with fail
        go_quiet (fail)
        go_wp2
        go_ret
        rw [HC3.out]
        exact rbt_err (((R1.out.drawn nq).put 10).go at_ HAT.out) (grown_put (grown_put (grown_drawn G1.out nq) _ _) _ _)
      · have hT := HC2.out
        rw [if_neg hA, if_neg hB] at hT
        have hl : l ≠ [] := HOK.out n p hT
        have HC3 : Hid (S = ((l.drop p).take n, p + n, 0)) := by have e := HS.out n p 0 hT; rw [e]; simp [Hid]
        have HNP : Hid (n ≤ 65536 ∧ p + n ≤ l.length) := ⟨by omega, by have := HUA.out; omega⟩
        have hB' : ¬ ((l.length - p : Nat) : Int) < (n : Int) := by omega
        have hwn : wrap64 (n : Int) = n := by have := HNP.out; unfold wrap64; omega
        have hwn2 : IntKind.i64.wrap (n : Int) = n := by have := HNP.out; rw [IntKind.wrap_i64]; omega
        have hadd : IntKind.i64.wrap ((p : Int) + (n : Int)) = (p : Int) + (n : Int) := by have := HNP.out; have := HM.out; rw [IntKind.wrap_i64]; omega
        clear HC2 hB hT
        go_enter Try.func39, Try.ntmps39
        go_wp2_with fail
        refine HU.mono ?_
        rintro e w1 ⟨rfl, r1, g1⟩
        obtain ⟨a', cap', d0, d1, d2, dfr, sn', nil', kc', ne', _, _⟩ := r1.cells
        have R1 : Hid (RRd w1 R A B l p 0) := r1
        have G1 : Hid (w.grownBy w1 (some R)) := g1
        have SN : Hid (Seen w1 a' l.length l) := sn'
        have KC : Hid (l.length ≤ cap') := kc'
        clear r1 g1 c1 sn' nil' kc' ne'
        obtain ⟨b, off, rfl⟩ : ∃ b off, a' = some ⟨b, off, none⟩ := by
          rcases SN.out.2.2 with h3 | ⟨b, off, rfl, _⟩
          · exact absurd (List.eq_nil_of_length_eq_zero h3) hl
          · exact ⟨b, off, rfl⟩
        go_wp2_with fail
        go_quiet (fail)
        go_wp2_with fail
        obtain ⟨x, hx⟩ : ∃ x, (w1.drewN nq).drew = x := ⟨_, rfl⟩
        have x0 : x.cell? ⟨R, 0, none⟩ = some (.slice (some ⟨b, off, none⟩) l.length cap') := by rw [← hx]; exact d0
        have x1 : x.cell? ⟨R, 1, none⟩ = some (.int .i64 p) := by rw [← hx]; exact d1
        have RX : Hid (RRd x R A B l p 0) := by rw [← hx]; exact R1.out
        have GX : Hid (w.grownBy x (some R)) := by rw [← hx]; exact ⟨G1.out.os, G1.out.tape, G1.out.output, G1.out.size, G1.out.block⟩
        have SX : Hid (Seen x (some ⟨b, off, none⟩) l.length l) := by rw [← hx]; exact SN.out
        have hpn := HNP.out
        have hkc := KC.out
        obtain ⟨a3, hx3⟩ : ∃ a3, (if cap' = p then some (⟨b, off, none⟩ : Addr) else some ⟨b, off + p, none⟩) = a3 := ⟨_, rfl⟩
        have hx3' : (if cap' = p then some (⟨b, off, none⟩ : Addr) else some ((⟨b, off, none⟩ : Addr).add p)) = a3 := by rw [Addr.add_lit]; exact hx3
        have S3 : Seen x a3 n ((l.drop p).take n) := by
          have := (SX.out.drop p cap' (by omega) hkc).take n (by omega)
          rw [hx3'] at this
          exact this
        have N3 : a3 = none → cap' - p = 0 := fun e => by rw [← hx3] at e; split at e <;> cases e
        obtain ⟨v, z, hr, ho, hg⟩ := run_append_bytes 25 x x.heap.size (.slice none 0 0) 0 [] (World.ownsRow_nil _ _ _ _) a3 n (cap' - p) ((l.drop p).take n) S3 N3 (by omega) (Nat.le_refl _)
        rw [List.nil_append, Nat.zero_add] at ho
        have hbz : Below x.heap.size x z := (Below.refl _ x).grown hg (Nat.le_refl _) (fun k e => by cases e)
        have RZ : Hid (RRd z R A B l p 0) := RX.out.keep hbz
        have GZ : Hid (w.grownBy z (some R)) := ⟨hbz.os.trans GX.out.os, hbz.tape.trans GX.out.tape, hbz.output.trans GX.out.output, Nat.le_trans GX.out.size hbz.size, fun k hk hne => (hbz.block k (Nat.lt_of_lt_of_le hk GX.out.size)).trans (GX.out.block k hk hne)⟩
        have z0 : z.cell? ⟨R, 0, none⟩ = some (.slice (some ⟨b, off, none⟩) l.length cap') := (hbz.cell (p := ⟨R, 0, none⟩) (World.block_lt_of_cell? x _ x0)).trans x0
        have z1 : z.cell? ⟨R, 1, none⟩ = some (.int .i64 p) := (hbz.cell (p := ⟨R, 1, none⟩) (World.block_lt_of_cell? x _ x1)).trans x1
        have OZ : Hid (z.ownsRow x.heap.size 5 1 v n (cellsOf ((l.drop p).take n))) := ho
        have zfr : ∀ i, z.frozen? ⟨R, i, none⟩ = false := by obtain ⟨_, _, _, _, _, q, _⟩ := RZ.out.cells; exact q
        have i1 : (0 : Int) ≤ (p : Int) := by omega
        have i2 : (p : Int) ≤ (p : Int) + (n : Int) := by omega
        have i3 : (p : Int) + (n : Int) ≤ (cap' : Int) := by omega
        have i4 : ((p : Int) + (n : Int)).toNat = p + n := by omega
        have i5 : p + n - p = n := by omega
        have i6 : (0 : Int) ≤ (p : Int) + (n : Int) := by omega
        refine wp_region_held_drew (S := fun w' => w'.cell? ⟨R, 0, none⟩ = some (.slice (some ⟨b, off, none⟩) l.length cap') ∧ w'.cell? ⟨R, 1, none⟩ = some (.int .i64 p)) (by kernel_rfl) (by rw [hx]; exact ⟨x0, x1⟩) (fun hHeld => ?_)
        rw [hx] at hHeld ⊢
        clear hx ho hg hbz S3 N3 d0 d1 d2 dfr
        refine take_run (i := 0) (oi := { dst := some 56, op := Go.Op.move (Go.Operand.tmp 5), type := 25, pos := "ref.go:127", after := #[], guard := none }) (v := ?_) rfl (by kernel_rfl) (by kernel_rfl) (by kernel_rfl) (fun _ _ _ h => h) (by rfl) ?_ hHeld ?_
        rotate_left
        · (intro wq hSw; obtain ⟨s0, s1⟩ := hSw; go_simp <;> with_reducible rfl)
        try simp only [Act.put, List.setIfInBounds_toArray, List.set_cons_zero, List.set_cons_succ]
        refine take_run (i := 1) (oi := { dst := some 57, op := Go.Op.move (Go.Operand.tmp 0), type := 78, pos := "ref.go:127", after := #[], guard := none }) (v := ?_) rfl (by kernel_rfl) (by kernel_rfl) (by kernel_rfl) (fun _ _ _ h => h) (by rfl) ?_ hHeld ?_
        rotate_left
        · (intro wq hSw; obtain ⟨s0, s1⟩ := hSw; go_simp <;> with_reducible rfl)
        try simp only [Act.put, List.setIfInBounds_toArray, List.set_cons_zero, List.set_cons_succ]
        refine take_run (i := 2) (oi := { dst := some 58, op := Go.Op.nilCheck (Go.Operand.tmp 57), type := 0, pos := "ref.go:127", after := #[{ on := 1, ground := Go.Ground.data }], guard := none }) (v := ?_) rfl (by kernel_rfl) (by kernel_rfl) (by kernel_rfl) (fun _ _ _ h => h) (by rfl) ?_ hHeld ?_
        rotate_left
        · (intro wq hSw; obtain ⟨s0, s1⟩ := hSw; go_simp <;> with_reducible rfl)
        try simp only [Act.put, List.setIfInBounds_toArray, List.set_cons_zero, List.set_cons_succ]
        refine take_run (i := 3) (oi := { dst := some 59, op := Go.Op.fieldAddr 105 (Go.Operand.tmp 58) 0, type := 0, pos := "ref.go:127", after := #[{ on := 2, ground := Go.Ground.data }], guard := none }) (v := ?_) rfl (by kernel_rfl) (by kernel_rfl) (by kernel_rfl) (fun _ _ _ h => h) (by rfl) ?_ hHeld ?_
        rotate_left
        · (intro wq hSw; obtain ⟨s0, s1⟩ := hSw; go_simp <;> with_reducible rfl)
        try simp only [Act.put, List.setIfInBounds_toArray, List.set_cons_zero, List.set_cons_succ]
        refine take_run (i := 4) (oi := { dst := some 60, op := Go.Op.load 25 (Go.Operand.tmp 59), type := 25, pos := "ref.go:127", after := #[{ on := 3, ground := Go.Ground.data }], guard := none }) (v := ?_) rfl (by kernel_rfl) (by kernel_rfl) (by kernel_rfl) (fun _ _ _ h => h) (by rfl) ?_ hHeld ?_
        rotate_left
        · (intro wq hSw; obtain ⟨s0, s1⟩ := hSw; go_simp <;> with_reducible rfl)
        try simp only [Act.put, List.setIfInBounds_toArray, List.set_cons_zero, List.set_cons_succ]
        refine take_run (i := 5) (oi := { dst := some 61, op := Go.Op.move (Go.Operand.tmp 0), type := 78, pos := "ref.go:127", after := #[], guard := none }) (v := ?_) rfl (by kernel_rfl) (by kernel_rfl) (by kernel_rfl) (fun _ _ _ h => h) (by rfl) ?_ hHeld ?_
        rotate_left
        · (intro wq hSw; obtain ⟨s0, s1⟩ := hSw; go_simp <;> with_reducible rfl)
        try simp only [Act.put, List.setIfInBounds_toArray, List.set_cons_zero, List.set_cons_succ]
        refine take_run (i := 6) (oi := { dst := some 62, op := Go.Op.nilCheck (Go.Operand.tmp 61), type := 0, pos := "ref.go:127", after := #[{ on := 5, ground := Go.Ground.data }], guard := none }) (v := ?_) rfl (by kernel_rfl) (by kernel_rfl) (by kernel_rfl) (fun _ _ _ h => h) (by rfl) ?_ hHeld ?_
        rotate_left
        · (intro wq hSw; obtain ⟨s0, s1⟩ := hSw; go_simp <;> with_reducible rfl)
        try simp only [Act.put, List.setIfInBounds_toArray, List.set_cons_zero, List.set_cons_succ]
        refine take_run (i := 7) (oi := { dst := some 63, op := Go.Op.fieldAddr 105 (Go.Operand.tmp 62) 1, type := 0, pos := "ref.go:127", after := #[{ on := 6, ground := Go.Ground.data }], guard := none }) (v := ?_) rfl (by kernel_rfl) (by kernel_rfl) (by kernel_rfl) (fun _ _ _ h => h) (by rfl) ?_ hHeld ?_
        rotate_left
        · (intro wq hSw; obtain ⟨s0, s1⟩ := hSw; go_simp <;> with_reducible rfl)
        try simp only [Act.put, List.setIfInBounds_toArray, List.set_cons_zero, List.set_cons_succ]
        refine take_run (i := 8) (oi := { dst := some 64, op := Go.Op.load 3 (Go.Operand.tmp 63), type := 3, pos := "ref.go:127", after := #[{ on := 7, ground := Go.Ground.data }], guard := none }) (v := ?_) rfl (by kernel_rfl) (by kernel_rfl) (by kernel_rfl) (fun _ _ _ h => h) (by rfl) ?_ hHeld ?_
        rotate_left
        · (intro wq hSw; obtain ⟨s0, s1⟩ := hSw; go_simp <;> with_reducible rfl)
        try simp only [Act.put, List.setIfInBounds_toArray, List.set_cons_zero, List.set_cons_succ]
        refine take_run (i := 9) (oi := { dst := some 65, op := Go.Op.move (Go.Operand.tmp 0), type := 78, pos := "ref.go:127", after := #[], guard := none }) (v := ?_) rfl (by kernel_rfl) (by kernel_rfl) (by kernel_rfl) (fun _ _ _ h => h) (by rfl) ?_ hHeld ?_
        rotate_left
        · (intro wq hSw; obtain ⟨s0, s1⟩ := hSw; go_simp <;> with_reducible rfl)
        try simp only [Act.put, List.setIfInBounds_toArray, List.set_cons_zero, List.set_cons_succ]
        refine take_run (i := 10) (oi := { dst := some 66, op := Go.Op.nilCheck (Go.Operand.tmp 65), type := 0, pos := "ref.go:127", after := #[{ on := 9, ground := Go.Ground.data }], guard := none }) (v := ?_) rfl (by kernel_rfl) (by kernel_rfl) (by kernel_rfl) (fun _ _ _ h => h) (by rfl) ?_ hHeld ?_
        rotate_left
        · (intro wq hSw; obtain ⟨s0, s1⟩ := hSw; go_simp <;> with_reducible rfl)
        try simp only [Act.put, List.setIfInBounds_toArray, List.set_cons_zero, List.set_cons_succ]
        refine take_run (i := 11) (oi := { dst := some 67, op := Go.Op.fieldAddr 105 (Go.Operand.tmp 66) 1, type := 0, pos := "ref.go:127", after := #[{ on := 10, ground := Go.Ground.data }], guard := none }) (v := ?_) rfl (by kernel_rfl) (by kernel_rfl) (by kernel_rfl) (fun _ _ _ h => h) (by rfl) ?_ hHeld ?_
        rotate_left
        · (intro wq hSw; obtain ⟨s0, s1⟩ := hSw; go_simp <;> with_reducible rfl)
        try simp only [Act.put, List.setIfInBounds_toArray, List.set_cons_zero, List.set_cons_succ]
        refine take_run (i := 12) (oi := { dst := some 68, op := Go.Op.load 3 (Go.Operand.tmp 67), type := 3, pos := "ref.go:127", after := #[{ on := 11, ground := Go.Ground.data }], guard := none }) (v := ?_) rfl (by kernel_rfl) (by kernel_rfl) (by kernel_rfl) (fun _ _ _ h => h) (by rfl) ?_ hHeld ?_
        rotate_left
        · (intro wq hSw; obtain ⟨s0, s1⟩ := hSw; go_simp <;> with_reducible rfl)
        try simp only [Act.put, List.setIfInBounds_toArray, List.set_cons_zero, List.set_cons_succ]
        refine take_run (i := 13) (oi := { dst := some 69, op := Go.Op.move (Go.Operand.tmp 4), type := 97, pos := "ref.go:127", after := #[], guard := none }) (v := ?_) rfl (by kernel_rfl) (by kernel_rfl) (by kernel_rfl) (fun _ _ _ h => h) (by rfl) ?_ hHeld ?_
        rotate_left
        · (intro wq hSw; obtain ⟨s0, s1⟩ := hSw; go_simp <;> with_reducible rfl)
        try simp only [Act.put, List.setIfInBounds_toArray, List.set_cons_zero, List.set_cons_succ]
        refine take_run (i := 14) (oi := { dst := some 70, op := Go.Op.convert 97 3 (Go.Operand.tmp 69), type := 3, pos := "ref.go:127", after := #[{ on := 13, ground := Go.Ground.data }], guard := none }) (v := ?_) rfl (by kernel_rfl) (by kernel_rfl) (by kernel_rfl) (fun _ _ _ h => h) (by rfl) ?_ hHeld ?_
        rotate_left
        · (intro wq hSw; obtain ⟨s0, s1⟩ := hSw; go_simp <;> with_reducible rfl)
        try simp only [Act.put, List.setIfInBounds_toArray, List.set_cons_zero, List.set_cons_succ]
        refine take_run (i := 15) (oi := { dst := some 71, op := Go.Op.binOp Go.BinOp.add 3 (Go.Operand.tmp 68) (Go.Operand.tmp 70) 3, type := 3, pos := "ref.go:127", after := #[{ on := 12, ground := Go.Ground.data }, { on := 14, ground := Go.Ground.data }], guard := none }) (v := ?_) rfl (by kernel_rfl) (by kernel_rfl) (by kernel_rfl) (fun _ _ _ h => h) (by rfl) ?_ hHeld ?_
        rotate_left
        · (intro wq hSw; obtain ⟨s0, s1⟩ := hSw; go_simp <;> with_reducible rfl)
        try simp only [Act.put, List.setIfInBounds_toArray, List.set_cons_zero, List.set_cons_succ]
        refine take_run (i := 16) (oi := { dst := some 72, op := Go.Op.slice 25 (Go.Operand.tmp 60) (some (Go.Operand.tmp 64)) (some (Go.Operand.tmp 71)) none, type := 25, pos := "ref.go:127", after := #[{ on := 4, ground := Go.Ground.data }, { on := 8, ground := Go.Ground.data }, { on := 15, ground := Go.Ground.data }], guard := none }) (v := ?_) rfl (by kernel_rfl) (by kernel_rfl) (by kernel_rfl) (fun _ _ _ h => h) (by rfl) ?_ hHeld ?_
        rotate_left
        · (intro wq hSw; obtain ⟨s0, s1⟩ := hSw; go_simp <;> with_reducible rfl)
        try simp only [Act.put, List.setIfInBounds_toArray, List.set_cons_zero, List.set_cons_succ]
        refine take_make (i := 17) (oi := { dst := some 73, op := Go.Op.call { callee := Go.Callee.builtin Go.Builtin.append, args := #[Go.Operand.tmp 56, Go.Operand.tmp 72], argTypes := #[25, 25] }, type := 25, pos := "ref.go:127", after := #[{ on := 0, ground := Go.Ground.data }, { on := 16, ground := Go.Ground.data }], guard := none }) rfl (by kernel_rfl) (by rfl) (exec_append (.tmp 56) (.tmp 72) 25 rfl rfl rfl hr) (show _ ∧ _ from ⟨z0, z1⟩) ?_
        try simp only [Act.put, List.setIfInBounds_toArray, List.set_cons_zero, List.set_cons_succ]
        clear hHeld
        have hHeld : z.cell? ⟨R, 0, none⟩ = some (.slice (some ⟨b, off, none⟩) l.length cap') ∧ z.cell? ⟨R, 1, none⟩ = some (.int .i64 p) := ⟨z0, z1⟩
        refine take_run (i := 18) (oi := { dst := some 5, op := Go.Op.assign (Go.Operand.tmp 73), type := 25, pos := "ref.go:127", after := #[{ on := 17, ground := Go.Ground.data }, { on := 17, ground := Go.Ground.chain }, { on := 0, ground := Go.Ground.phase }, { on := 1, ground := Go.Ground.phase }, { on := 2, ground := Go.Ground.phase }, { on := 3, ground := Go.Ground.phase }, { on := 4, ground := Go.Ground.phase }, { on := 5, ground := Go.Ground.phase }, { on := 6, ground := Go.Ground.phase }, { on := 7, ground := Go.Ground.phase }, { on := 8, ground := Go.Ground.phase }, { on := 9, ground := Go.Ground.phase }, { on := 10, ground := Go.Ground.phase }, { on := 11, ground := Go.Ground.phase }, { on := 12, ground := Go.Ground.phase }, { on := 13, ground := Go.Ground.phase }, { on := 14, ground := Go.Ground.phase }, { on := 15, ground := Go.Ground.phase }, { on := 16, ground := Go.Ground.phase }, { on := 17, ground := Go.Ground.phase }], guard := none }) (v := ?_) rfl (by kernel_rfl) (by kernel_rfl) (by kernel_rfl) (fun _ _ _ h => h) (by rfl) ?_ hHeld ?_
        rotate_left
        · (intro wq hSw; obtain ⟨s0, s1⟩ := hSw; go_simp <;> with_reducible rfl)
        try simp only [Act.put, List.setIfInBounds_toArray, List.set_cons_zero, List.set_cons_succ]
        refine wpAnyH_done (by kernel_rfl) ?_ _
        clear hr i1 i2 i3 i4 i5 i6 hx3 hx3' hpn hkc x0 x1 hHeld
        go_wp2
        go_ret
        rw [HC3.out]
        have hlen : ((l.drop p).take n).length = n := by have := HNP.out; rw [List.length_take, List.length_drop]; omega
        have h1 := RZ.out.go (p + n) HNP.out.2
        rw [show (((p + n : Nat)) : Int) = (p : Int) + (n : Int) by omega] at h1
        refine ⟨v, rfl, ?_, by rw [hlen]; exact HNP.out.1, h1, grown_put GZ.out _ _⟩
        have h2 := owns_set OZ.out ⟨R, 1, none⟩ (.int .i64 ((p : Int) + (n : Int))) (by show R < _; exact Nat.lt_of_lt_of_le HLT.out GX.out.size)
        show World.ownsRow _ _ _ _ _ ((l.drop p).take n).length _
        rw [hlen]
        exact owns_mono' h2 GX.out.size
  · have HC2 : Hid (S = ([], at_, y)) := by
      have e := HE.out hy
      have e2 : p = at_ := by injection e with _ e; injection e
      have e3 := HS.out 0 at_ y (by rw [HC.out, if_pos hy, e2])
      rw [e3, if_pos hy]
      rfl
    have hy1 : ((y : Int) == 0) = false := by simp; omega
    have hy2 : ((y : Int) != 0) = true := by simp; omega
    clear HC HE hy
    go_enter Try.func39, Try.ntmps39
    go_wp2_with fail
    refine HU.mono ?_
    rintro e w1 ⟨rfl, r1, g1⟩
    obtain ⟨a', cap', d0, d1, d2, dfr, sn', nil', kc', ne', _, _⟩ := r1.cells
    have R1 : Hid (RRd w1 R A B l p y) := r1
    have G1 : Hid (w.grownBy w1 (some R)) := g1
    have SN : Hid (Seen w1 a' l.length l) := sn'
    have KC : Hid (l.length ≤ cap') := kc'
    clear r1 g1 c1 sn' nil' kc' ne'
    go_wp2_with fail
    go_quiet (fail)
    go_wp2
    go_ret
    rw [HC2.out]
    exact rbt_err ((R1.out.drawn nq).go at_ HAT.out) (grown_put (grown_drawn G1.out nq) _ _)
theorem refRText_any (R A B : Nat) (l : List (BitVec 8)) (at_ why : Nat) (w : World) (h : RRd w R A B l at_ why) :
    Calls Try.prog 68 #[.pointer (some ⟨R, 0, none⟩)] w fun e w' => e = .returned (.string (textOf (rS l at_ why).1)) ∧ RRd w' R A B l (rS l at_ why).2.1 (rS l at_ why).2.2 ∧ w.grownBy w' (some R) := by
  have HC := refRBytes_any R A B l at_ why w h
  clear h
  generalize rS l at_ why = t at *
  go_enter Try.func68, Try.ntmps68
  go_wp2_with fail
  refine HC.mono ?_
  rintro e w1 ⟨v, rfl, o1, k1, r1, g1⟩
  obtain ⟨a, cap, rfl, s1, _, _⟩ := owned_seen o1 (by unfold maxLen; omega)
  have t1 := run_to_text w1 a _ cap _ s1
  have R1 : Hid (RRd w1 R A B l t.2.1 t.2.2) := r1
  have G1 : Hid (w.grownBy w1 (some R)) := g1
  clear HC s1 o1 k1 r1 g1
  go_wp2
  go_ret
  exact ⟨rfl, R1.out, G1.out⟩
end Go.Proofs.Ytogbcciocgpknaa


namespace Go.Proofs.Ytogbcciocgpknaa
open Go.RowKit Cod
set_option linter.unusedVariables false

theorem RRd.since {w w' : World} {R A B : Nat} {l : List (BitVec 8)} {at_ why : Nat} (h : RRd w R A B l at_ why) (hR : w'.heap[R]? = w.heap[R]?) (hb : ∀ k, k < B → k < w.heap.size → w'.heap[k]? = w.heap[k]?) : RRd w' R A B l at_ why := by
  obtain ⟨a0, cap, hh, hs, hn, hk, hne, hat, hm⟩ := h
  exact ⟨a0, cap, hR.trans hh, hs.since (fun hl x hx => hb _ (hne hl x hx).2.2 (hs.lt hl x hx)), hn, hk, hne, hat, hm⟩
/-- A struct that is filled by reads of the reference's Reader. -/
structure FillR (w0 w : World) (R A B : Nat) (l : List (BitVec 8)) (at_ why : Nat) (t : TypeId) (zs cs : Array Value) : Prop where
  rdr : RRd w R A B l at_ why
  old : w.heap[w0.heap.size]? = some (.cells zs t (0, 0))
  new : w.heap[w0.heap.size + 1]? = some (.cells cs t (0, 0))
  grown : w0.grownBy w (some R)
  lt : R < w0.heap.size
  bd : B ≤ w0.heap.size
theorem FillR.start {w : World} {R A B : Nat} {l : List (BitVec 8)} {at_ why : Nat} (h : RRd w R A B l at_ why) (hB : B ≤ w.heap.size) (t : TypeId) (zs cs : Array Value) :
    FillR w ((w.alloc (.cells zs t)).alloc (.cells cs t)) R A B l at_ why t zs cs := by
  have b1 : Below w.heap.size w (w.alloc (.cells zs t)) := (Below.refl _ w).alloc (Nat.le_refl _) _
  have b2 : Below w.heap.size w ((w.alloc (.cells zs t)).alloc (.cells cs t)) := b1.alloc b1.size _
  refine ⟨h.keep b2, ?_, ?_, ?_, h.lt, hB⟩
  · rw [Below.heap_alloc _ _ _ (by simp)]
    exact heap_alloc_new w _
  · have := heap_alloc_new (w.alloc (.cells zs t)) (.cells cs t)
    simpa using this
  · exact grown_alloc (grown_alloc (grown_refl w _) _) _
theorem FillR.call {w0 w w' : World} {R A B : Nat} {l : List (BitVec 8)} {at_ why at' why' : Nat} {t : TypeId} {zs cs : Array Value} (h : FillR w0 w R A B l at_ why t zs cs) (hr : RRd w' R A B l at' why') (hg : w.grownBy w' (some R)) :
    FillR w0 w' R A B l at' why' t zs cs := by
  have hlt := h.lt
  have s1 := (Array.getElem?_eq_some_iff.1 h.old).1
  have s2 := (Array.getElem?_eq_some_iff.1 h.new).1
  exact ⟨hr, by rw [hg.block _ s1 (fun e => by have := Option.some.inj e; omega)]; exact h.old, by rw [hg.block _ s2 (fun e => by have := Option.some.inj e; omega)]; exact h.new, h.grown.trans hg, hlt, h.bd⟩
theorem FillR.store {w0 w : World} {R A B : Nat} {l : List (BitVec 8)} {at_ why : Nat} {t : TypeId} {zs cs : Array Value} (h : FillR w0 w R A B l at_ why t zs cs) (i : Nat) (v : Value) :
    FillR w0 (w.setCell ⟨w0.heap.size + 1, i, none⟩ v) R A B l at_ why t zs (cs.setIfInBounds i v) := by
  have hlt := h.lt
  have hbd := h.bd
  exact ⟨h.rdr.since (Below.heap_setCell _ _ _ _ (by show R ≠ w0.heap.size + 1; omega)) (fun k hk _ => Below.heap_setCell _ _ _ k (by show k ≠ w0.heap.size + 1; omega)), by rw [Below.heap_setCell _ _ _ _ (by simp)]; exact h.old, set_block h.new i v, grown_cell h.grown _ _ (by simp), hlt, hbd⟩
theorem FillR.put {w0 w : World} {R A B : Nat} {l : List (BitVec 8)} {at_ why : Nat} {t : TypeId} {zs cs : Array Value} (h : FillR w0 w R A B l at_ why t zs cs) (i : Nat) (v : Value) :
    FillR w0 (w.setCell ⟨w0.heap.size, i, none⟩ v) R A B l at_ why t (zs.setIfInBounds i v) cs := by
  have hlt := h.lt
  have hbd := h.bd
  exact ⟨h.rdr.since (Below.heap_setCell _ _ _ _ (by show R ≠ w0.heap.size; omega)) (fun k hk _ => Below.heap_setCell _ _ _ k (by show k ≠ w0.heap.size; omega)), set_block h.old i v, by rw [Below.heap_setCell _ _ _ _ (by simp)]; exact h.new, grown_cell h.grown _ _ (by simp), hlt, hbd⟩
theorem FillR.cell {w0 w : World} {R A B : Nat} {l : List (BitVec 8)} {at_ why : Nat} {t : TypeId} {zs cs : Array Value} (h : FillR w0 w R A B l at_ why t zs cs) (i : Nat) : w.cell? ⟨w0.heap.size + 1, i, none⟩ = cs[i]? ∧ w.frozen? ⟨w0.heap.size + 1, i, none⟩ = false := by
  simp [World.cell?, World.frozen?, h.new]
set_option maxRecDepth 100000 in
set_option maxHeartbeats 1600000 in
theorem refGetOp_any (R A B : Nat) (l : List (BitVec 8)) (at_ why : Nat) (w : World) (h : RRd w R A B l at_ why) (hB : B ≤ w.heap.size) :
    Calls Try.prog 67 #[.pointer (some ⟨R, 0, none⟩)] w fun e w' => e = .returned (rOpV l at_ why).val ∧ RRd w' R A B l (rOp7 l at_ why).2.1 (rOp7 l at_ why).2.2 ∧ w.grownBy w' (some R) := by
  generalize hw1 : (w.alloc (.cells #[.int .i64 0, .string ⟨#[]⟩, .string ⟨#[]⟩, .int .i64 0, .string ⟨#[]⟩, .int .i64 0, .int .i64 0] 23)).alloc (.cells #[.int .i64 0, .string ⟨#[]⟩, .string ⟨#[]⟩, .int .i64 0, .string ⟨#[]⟩, .int .i64 0, .int .i64 0] 23) = w1
  have f1 : Hid (FillR w w1 R A B l at_ why 23 #[.int .i64 0, .string ⟨#[]⟩, .string ⟨#[]⟩, .int .i64 0, .string ⟨#[]⟩, .int .i64 0, .int .i64 0] #[.int .i64 0, .string ⟨#[]⟩, .string ⟨#[]⟩, .int .i64 0, .string ⟨#[]⟩, .int .i64 0, .int .i64 0]) := by rw [← hw1]; exact FillR.start h hB _ _ _
  have HW : Hid _ := hw1
  have hV : Hid (rOpV l at_ why = ⟨zag (rOp1 l at_ why).1, textOf (rOp2 l at_ why).1, textOf (rOp3 l at_ why).1, zag (rOp4 l at_ why).1, textOf (rOp5 l at_ why).1, zag (rOp6 l at_ why).1, zag (rOp7 l at_ why).1⟩) := (rfl : _ = _)
  rw [hV.out]
  have C1 : Hid (∀ w', RRd w' R A B l at_ why → Calls Try.prog 38 #[.pointer (some ⟨R, 0, none⟩)] w' fun e w'' => e = .returned (.int .i64 (zag (rOp1 l at_ why).1)) ∧ RRd w'' R A B l (rOp1 l at_ why).2.1 (rOp1 l at_ why).2.2 ∧ w'.grownBy w'' (some R)) := fun w' h => by rw [rOp1]; exact refRInt_any R A B l at_ why w' h
  have C2 : Hid (∀ w', RRd w' R A B l (rOp1 l at_ why).2.1 (rOp1 l at_ why).2.2 → Calls Try.prog 68 #[.pointer (some ⟨R, 0, none⟩)] w' fun e w'' => e = .returned (.string (textOf (rOp2 l at_ why).1)) ∧ RRd w'' R A B l (rOp2 l at_ why).2.1 (rOp2 l at_ why).2.2 ∧ w'.grownBy w'' (some R)) := fun w' h => by rw [rOp2]; exact refRText_any R A B l (rOp1 l at_ why).2.1 (rOp1 l at_ why).2.2 w' h
  have C3 : Hid (∀ w', RRd w' R A B l (rOp2 l at_ why).2.1 (rOp2 l at_ why).2.2 → Calls Try.prog 68 #[.pointer (some ⟨R, 0, none⟩)] w' fun e w'' => e = .returned (.string (textOf (rOp3 l at_ why).1)) ∧ RRd w'' R A B l (rOp3 l at_ why).2.1 (rOp3 l at_ why).2.2 ∧ w'.grownBy w'' (some R)) := fun w' h => by rw [rOp3]; exact refRText_any R A B l (rOp2 l at_ why).2.1 (rOp2 l at_ why).2.2 w' h
  have C4 : Hid (∀ w', RRd w' R A B l (rOp3 l at_ why).2.1 (rOp3 l at_ why).2.2 → Calls Try.prog 38 #[.pointer (some ⟨R, 0, none⟩)] w' fun e w'' => e = .returned (.int .i64 (zag (rOp4 l at_ why).1)) ∧ RRd w'' R A B l (rOp4 l at_ why).2.1 (rOp4 l at_ why).2.2 ∧ w'.grownBy w'' (some R)) := fun w' h => by rw [rOp4]; exact refRInt_any R A B l (rOp3 l at_ why).2.1 (rOp3 l at_ why).2.2 w' h
  have C5 : Hid (∀ w', RRd w' R A B l (rOp4 l at_ why).2.1 (rOp4 l at_ why).2.2 → Calls Try.prog 68 #[.pointer (some ⟨R, 0, none⟩)] w' fun e w'' => e = .returned (.string (textOf (rOp5 l at_ why).1)) ∧ RRd w'' R A B l (rOp5 l at_ why).2.1 (rOp5 l at_ why).2.2 ∧ w'.grownBy w'' (some R)) := fun w' h => by rw [rOp5]; exact refRText_any R A B l (rOp4 l at_ why).2.1 (rOp4 l at_ why).2.2 w' h
  have C6 : Hid (∀ w', RRd w' R A B l (rOp5 l at_ why).2.1 (rOp5 l at_ why).2.2 → Calls Try.prog 38 #[.pointer (some ⟨R, 0, none⟩)] w' fun e w'' => e = .returned (.int .i64 (zag (rOp6 l at_ why).1)) ∧ RRd w'' R A B l (rOp6 l at_ why).2.1 (rOp6 l at_ why).2.2 ∧ w'.grownBy w'' (some R)) := fun w' h => by rw [rOp6]; exact refRInt_any R A B l (rOp5 l at_ why).2.1 (rOp5 l at_ why).2.2 w' h
  have C7 : Hid (∀ w', RRd w' R A B l (rOp6 l at_ why).2.1 (rOp6 l at_ why).2.2 → Calls Try.prog 38 #[.pointer (some ⟨R, 0, none⟩)] w' fun e w'' => e = .returned (.int .i64 (zag (rOp7 l at_ why).1)) ∧ RRd w'' R A B l (rOp7 l at_ why).2.1 (rOp7 l at_ why).2.2 ∧ w'.grownBy w'' (some R)) := fun w' h => by rw [rOp7]; exact refRInt_any R A B l (rOp6 l at_ why).2.1 (rOp6 l at_ why).2.2 w' h
  generalize (rOp1 l at_ why).2.1 = p1 at *
  generalize (rOp1 l at_ why).2.2 = y1 at *
  generalize zag (rOp1 l at_ why).1 = k1 at *
  generalize (rOp2 l at_ why).2.1 = p2 at *
  generalize (rOp2 l at_ why).2.2 = y2 at *
  generalize textOf (rOp2 l at_ why).1 = s2 at *
  generalize (rOp3 l at_ why).2.1 = p3 at *
  generalize (rOp3 l at_ why).2.2 = y3 at *
  generalize textOf (rOp3 l at_ why).1 = s3 at *
  generalize (rOp4 l at_ why).2.1 = p4 at *
  generalize (rOp4 l at_ why).2.2 = y4 at *
  generalize zag (rOp4 l at_ why).1 = k4 at *
  generalize (rOp5 l at_ why).2.1 = p5 at *
  generalize (rOp5 l at_ why).2.2 = y5 at *
  generalize textOf (rOp5 l at_ why).1 = s5 at *
  generalize (rOp6 l at_ why).2.1 = p6 at *
  generalize (rOp6 l at_ why).2.2 = y6 at *
  generalize zag (rOp6 l at_ why).1 = k6 at *
  generalize (rOp7 l at_ why).2.1 = p7 at *
  generalize (rOp7 l at_ why).2.2 = y7 at *
  generalize zag (rOp7 l at_ why).1 = k7 at *
  clear h hw1 hV
  go_enter Try.func67, Try.ntmps67
  go_wp2_with fail
  rw [HW.out]
  refine (C1.out _ f1.out.rdr).mono ?_
  rintro e v1 ⟨rfl, r1, g1⟩
  have d1 : Hid (FillR w v1 R A B l p1 y1 23 #[.int .i64 0, .string ⟨#[]⟩, .string ⟨#[]⟩, .int .i64 0, .string ⟨#[]⟩, .int .i64 0, .int .i64 0] #[.int .i64 0, .string ⟨#[]⟩, .string ⟨#[]⟩, .int .i64 0, .string ⟨#[]⟩, .int .i64 0, .int .i64 0]) := f1.out.call r1 g1
  have c1 := (d1.out.cell 0).1
  have z1 := (d1.out.cell 0).2
  simp only [List.getElem?_toArray] at c1
  have f2 : Hid (FillR w (v1.setCell ⟨w.heap.size + 1, 0, none⟩ (.int .i64 k1)) R A B l p1 y1 23 #[.int .i64 0, .string ⟨#[]⟩, .string ⟨#[]⟩, .int .i64 0, .string ⟨#[]⟩, .int .i64 0, .int .i64 0] #[.int .i64 k1, .string ⟨#[]⟩, .string ⟨#[]⟩, .int .i64 0, .string ⟨#[]⟩, .int .i64 0, .int .i64 0]) := d1.out.store 0 _
  clear r1 g1 C1 f1 d1
  go_wp2_with fail
  refine (C2.out _ f2.out.rdr).mono ?_
  rintro e v2 ⟨rfl, r2, g2⟩
  have d2 : Hid (FillR w v2 R A B l p2 y2 23 #[.int .i64 0, .string ⟨#[]⟩, .string ⟨#[]⟩, .int .i64 0, .string ⟨#[]⟩, .int .i64 0, .int .i64 0] #[.int .i64 k1, .string ⟨#[]⟩, .string ⟨#[]⟩, .int .i64 0, .string ⟨#[]⟩, .int .i64 0, .int .i64 0]) := f2.out.call r2 g2
  have c2 := (d2.out.cell 1).1
  have z2 := (d2.out.cell 1).2
  simp only [List.getElem?_toArray] at c2
  have f3 : Hid (FillR w (v2.setCell ⟨w.heap.size + 1, 1, none⟩ (.string s2)) R A B l p2 y2 23 #[.int .i64 0, .string ⟨#[]⟩, .string ⟨#[]⟩, .int .i64 0, .string ⟨#[]⟩, .int .i64 0, .int .i64 0] #[.int .i64 k1, .string s2, .string ⟨#[]⟩, .int .i64 0, .string ⟨#[]⟩, .int .i64 0, .int .i64 0]) := d2.out.store 1 _
  clear r2 g2 C2 f2 d2
  go_wp2_with fail
  refine (C3.out _ f3.out.rdr).mono ?_
  rintro e v3 ⟨rfl, r3, g3⟩
  have d3 : Hid (FillR w v3 R A B l p3 y3 23 #[.int .i64 0, .string ⟨#[]⟩, .string ⟨#[]⟩, .int .i64 0, .string ⟨#[]⟩, .int .i64 0, .int .i64 0] #[.int .i64 k1, .string s2, .string ⟨#[]⟩, .int .i64 0, .string ⟨#[]⟩, .int .i64 0, .int .i64 0]) := f3.out.call r3 g3
  have c3 := (d3.out.cell 2).1
  have z3 := (d3.out.cell 2).2
  simp only [List.getElem?_toArray] at c3
  have f4 : Hid (FillR w (v3.setCell ⟨w.heap.size + 1, 2, none⟩ (.string s3)) R A B l p3 y3 23 #[.int .i64 0, .string ⟨#[]⟩, .string ⟨#[]⟩, .int .i64 0, .string ⟨#[]⟩, .int .i64 0, .int .i64 0] #[.int .i64 k1, .string s2, .string s3, .int .i64 0, .string ⟨#[]⟩, .int .i64 0, .int .i64 0]) := d3.out.store 2 _
  clear r3 g3 C3 f3 d3
  go_wp2_with fail
  refine (C4.out _ f4.out.rdr).mono ?_
  rintro e v4 ⟨rfl, r4, g4⟩
  have d4 : Hid (FillR w v4 R A B l p4 y4 23 #[.int .i64 0, .string ⟨#[]⟩, .string ⟨#[]⟩, .int .i64 0, .string ⟨#[]⟩, .int .i64 0, .int .i64 0] #[.int .i64 k1, .string s2, .string s3, .int .i64 0, .string ⟨#[]⟩, .int .i64 0, .int .i64 0]) := f4.out.call r4 g4
  have c4 := (d4.out.cell 3).1
  have z4 := (d4.out.cell 3).2
  simp only [List.getElem?_toArray] at c4
  have f5 : Hid (FillR w (v4.setCell ⟨w.heap.size + 1, 3, none⟩ (.int .i64 k4)) R A B l p4 y4 23 #[.int .i64 0, .string ⟨#[]⟩, .string ⟨#[]⟩, .int .i64 0, .string ⟨#[]⟩, .int .i64 0, .int .i64 0] #[.int .i64 k1, .string s2, .string s3, .int .i64 k4, .string ⟨#[]⟩, .int .i64 0, .int .i64 0]) := d4.out.store 3 _
  clear r4 g4 C4 f4 d4
  go_wp2_with fail
  refine (C5.out _ f5.out.rdr).mono ?_
  rintro e v5 ⟨rfl, r5, g5⟩
  have d5 : Hid (FillR w v5 R A B l p5 y5 23 #[.int .i64 0, .string ⟨#[]⟩, .string ⟨#[]⟩, .int .i64 0, .string ⟨#[]⟩, .int .i64 0, .int .i64 0] #[.int .i64 k1, .string s2, .string s3, .int .i64 k4, .string ⟨#[]⟩, .int .i64 0, .int .i64 0]) := f5.out.call r5 g5
  have c5 := (d5.out.cell 4).1
  have z5 := (d5.out.cell 4).2
  simp only [List.getElem?_toArray] at c5
  have f6 : Hid (FillR w (v5.setCell ⟨w.heap.size + 1, 4, none⟩ (.string s5)) R A B l p5 y5 23 #[.int .i64 0, .string ⟨#[]⟩, .string ⟨#[]⟩, .int .i64 0, .string ⟨#[]⟩, .int .i64 0, .int .i64 0] #[.int .i64 k1, .string s2, .string s3, .int .i64 k4, .string s5, .int .i64 0, .int .i64 0]) := d5.out.store 4 _
  clear r5 g5 C5 f5 d5
  go_wp2_with fail
  refine (C6.out _ f6.out.rdr).mono ?_
  rintro e v6 ⟨rfl, r6, g6⟩
  have d6 : Hid (FillR w v6 R A B l p6 y6 23 #[.int .i64 0, .string ⟨#[]⟩, .string ⟨#[]⟩, .int .i64 0, .string ⟨#[]⟩, .int .i64 0, .int .i64 0] #[.int .i64 k1, .string s2, .string s3, .int .i64 k4, .string s5, .int .i64 0, .int .i64 0]) := f6.out.call r6 g6
  have c6 := (d6.out.cell 5).1
  have z6 := (d6.out.cell 5).2
  simp only [List.getElem?_toArray] at c6
  have f7 : Hid (FillR w (v6.setCell ⟨w.heap.size + 1, 5, none⟩ (.int .i64 k6)) R A B l p6 y6 23 #[.int .i64 0, .string ⟨#[]⟩, .string ⟨#[]⟩, .int .i64 0, .string ⟨#[]⟩, .int .i64 0, .int .i64 0] #[.int .i64 k1, .string s2, .string s3, .int .i64 k4, .string s5, .int .i64 k6, .int .i64 0]) := d6.out.store 5 _
  clear r6 g6 C6 f6 d6
  go_wp2_with fail
  refine (C7.out _ f7.out.rdr).mono ?_
  rintro e v7 ⟨rfl, r7, g7⟩
  have d7 : Hid (FillR w v7 R A B l p7 y7 23 #[.int .i64 0, .string ⟨#[]⟩, .string ⟨#[]⟩, .int .i64 0, .string ⟨#[]⟩, .int .i64 0, .int .i64 0] #[.int .i64 k1, .string s2, .string s3, .int .i64 k4, .string s5, .int .i64 k6, .int .i64 0]) := f7.out.call r7 g7
  have c7 := (d7.out.cell 6).1
  have z7 := (d7.out.cell 6).2
  simp only [List.getElem?_toArray] at c7
  have f8 : Hid (FillR w (v7.setCell ⟨w.heap.size + 1, 6, none⟩ (.int .i64 k7)) R A B l p7 y7 23 #[.int .i64 0, .string ⟨#[]⟩, .string ⟨#[]⟩, .int .i64 0, .string ⟨#[]⟩, .int .i64 0, .int .i64 0] #[.int .i64 k1, .string s2, .string s3, .int .i64 k4, .string s5, .int .i64 k6, .int .i64 k7]) := d7.out.store 6 _
  clear r7 g7 C7 f7 d7
  obtain ⟨wl, hwl⟩ : ∃ wl, v7.setCell ⟨w.heap.size + 1, 6, none⟩ (.int .i64 k7) = wl := ⟨_, rfl⟩
  rw [hwl] at f8
  have n0 : wl.cell? ⟨w.heap.size + 1, 0, none⟩ = some (.int .i64 k1) := (f8.out.cell 0).1
  have o0 : wl.cell? ⟨w.heap.size, 0, none⟩ = some (.int .i64 0) := by simp [World.cell?, f8.out.old]
  have n1 : wl.cell? ⟨w.heap.size + 1, 1, none⟩ = some (.string s2) := (f8.out.cell 1).1
  have o1 : wl.cell? ⟨w.heap.size, 1, none⟩ = some (.string ⟨#[]⟩) := by simp [World.cell?, f8.out.old]
  have n2 : wl.cell? ⟨w.heap.size + 1, 2, none⟩ = some (.string s3) := (f8.out.cell 2).1
  have o2 : wl.cell? ⟨w.heap.size, 2, none⟩ = some (.string ⟨#[]⟩) := by simp [World.cell?, f8.out.old]
  have n3 : wl.cell? ⟨w.heap.size + 1, 3, none⟩ = some (.int .i64 k4) := (f8.out.cell 3).1
  have o3 : wl.cell? ⟨w.heap.size, 3, none⟩ = some (.int .i64 0) := by simp [World.cell?, f8.out.old]
  have n4 : wl.cell? ⟨w.heap.size + 1, 4, none⟩ = some (.string s5) := (f8.out.cell 4).1
  have o4 : wl.cell? ⟨w.heap.size, 4, none⟩ = some (.string ⟨#[]⟩) := by simp [World.cell?, f8.out.old]
  have n5 : wl.cell? ⟨w.heap.size + 1, 5, none⟩ = some (.int .i64 k6) := (f8.out.cell 5).1
  have o5 : wl.cell? ⟨w.heap.size, 5, none⟩ = some (.int .i64 0) := by simp [World.cell?, f8.out.old]
  have n6 : wl.cell? ⟨w.heap.size + 1, 6, none⟩ = some (.int .i64 k7) := (f8.out.cell 6).1
  have o6 : wl.cell? ⟨w.heap.size, 6, none⟩ = some (.int .i64 0) := by simp [World.cell?, f8.out.old]
  have oz : ∀ i, wl.frozen? ⟨w.heap.size, i, none⟩ = false := fun i => by simp [World.frozen?, f8.out.old]
  go_wp2_with fail
  have ff := (((((((f8.out.put 0 (.int .i64 k1)).put 1 (.string s2)).put 2 (.string s3)).put 3 (.int .i64 k4)).put 4 (.string s5)).put 5 (.int .i64 k6)).put 6 (.int .i64 k7))
  exact bodyPost_ret (results_cell_row rfl _ _ w.heap.size 23 _ _ _ rfl ff.old Try.underlying23 rfl (by kernel_rfl)) rfl ⟨rfl, ff.rdr, ff.grown⟩
end Go.Proofs.Ytogbcciocgpknaa
