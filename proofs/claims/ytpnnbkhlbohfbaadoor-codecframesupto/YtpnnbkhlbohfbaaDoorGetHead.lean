/- What getHead and getEntry do. -/
import Derived.Test.YtpnnbkhlbohfbaaDoorGetReply
import Derived.Test.YtpnnbkhlbohfbaaDoorMsg
import Derived.Laws.Tables
namespace Go.Proofs.YtpnnbkhlbohfbaaDoor
open Go.RowKit Cod
set_option linter.unusedVariables false

theorem Fill.putRow {w0 w : World} {R : Nat} {l : List (BitVec 8)} {at_ why : Nat} {t : TypeId} {zs cs : Array Value} (h : Fill w0 w R l at_ why t zs cs) (vs : Array Value) : Fill w0 (w.setRow w0.heap.size vs) R l at_ why t vs cs := by
  have hlt := h.lt
  have g0 := h.grown
  exact ⟨h.rdr.since (fun k hk => setRow_other _ _ _ _ (by omega)), setRow_heap _ _ _ _ _ _ h.old, by rw [setRow_other _ _ _ _ (by omega)]; exact h.new, ⟨g0.os, g0.tape, g0.output, by simpa using g0.size, fun k hk hne => by rw [setRow_other _ _ _ _ (by omega)]; exact g0.block k hk hne⟩, hlt⟩
theorem owns_setRow {w : World} {base n size : Nat} {e : TypeId} {v : Value} {xs : List Value} (h : w.ownsRow base e size v n xs) (g : Nat) (cs : Array Value) (hg : g < base) : (w.setRow g cs).ownsRow base e size v n xs := by
  refine ⟨h.1, h.2.imp id ?_⟩
  rintro ⟨b, cap, cur, e1, e2, e3, e4⟩
  exact ⟨b, cap, cur, e1, e2, by rw [setRow_other _ _ _ _ (by omega)]; exact e3, e4⟩
/-- Reading what stands ahead of a message's entries. -/
def rHd1 (l : List (BitVec 8)) (at_ why : Nat) := rU l at_ why
def rHd2 (l : List (BitVec 8)) (at_ why : Nat) := rU l (rHd1 l at_ why).2.1 (rHd1 l at_ why).2.2
def rHd3 (l : List (BitVec 8)) (at_ why : Nat) := rU l (rHd2 l at_ why).2.1 (rHd2 l at_ why).2.2
def rHd4 (l : List (BitVec 8)) (at_ why : Nat) := rU l (rHd3 l at_ why).2.1 (rHd3 l at_ why).2.2
def rHd5 (l : List (BitVec 8)) (at_ why : Nat) := rU l (rHd4 l at_ why).2.1 (rHd4 l at_ why).2.2
def rHd6 (l : List (BitVec 8)) (at_ why : Nat) := rU l (rHd5 l at_ why).2.1 (rHd5 l at_ why).2.2
def rHd7 (l : List (BitVec 8)) (at_ why : Nat) := rU l (rHd6 l at_ why).2.1 (rHd6 l at_ why).2.2
def rHd8 (l : List (BitVec 8)) (at_ why : Nat) := rU l (rHd7 l at_ why).2.1 (rHd7 l at_ why).2.2
def rHd9 (l : List (BitVec 8)) (at_ why : Nat) := rB l (rHd8 l at_ why).2.1 (rHd8 l at_ why).2.2
def rHdV (l : List (BitVec 8)) (at_ why : Nat) : HeadD := ⟨zag (rHd1 l at_ why).1, zag (rHd2 l at_ why).1, zag (rHd3 l at_ why).1, zag (rHd4 l at_ why).1, zag (rHd5 l at_ why).1, zag (rHd6 l at_ why).1, zag (rHd7 l at_ why).1, zag (rHd8 l at_ why).1, (rHd9 l at_ why).1⟩
theorem rHd_goes (l : List (BitVec 8)) (at_ why : Nat) (h : at_ ≤ l.length) : Goes l at_ why (rHd9 l at_ why).2.1 (rHd9 l at_ why).2.2 := by
  have g1 : Goes l at_ why (rHd1 l at_ why).2.1 (rHd1 l at_ why).2.2 := rU_goes l at_ why h
  have g2 : Goes l (rHd1 l at_ why).2.1 (rHd1 l at_ why).2.2 (rHd2 l at_ why).2.1 (rHd2 l at_ why).2.2 := by rw [rHd2]; exact rU_goes l _ _ g1.2.1
  have g3 : Goes l (rHd2 l at_ why).2.1 (rHd2 l at_ why).2.2 (rHd3 l at_ why).2.1 (rHd3 l at_ why).2.2 := by rw [rHd3]; exact rU_goes l _ _ g2.2.1
  have g4 : Goes l (rHd3 l at_ why).2.1 (rHd3 l at_ why).2.2 (rHd4 l at_ why).2.1 (rHd4 l at_ why).2.2 := by rw [rHd4]; exact rU_goes l _ _ g3.2.1
  have g5 : Goes l (rHd4 l at_ why).2.1 (rHd4 l at_ why).2.2 (rHd5 l at_ why).2.1 (rHd5 l at_ why).2.2 := by rw [rHd5]; exact rU_goes l _ _ g4.2.1
  have g6 : Goes l (rHd5 l at_ why).2.1 (rHd5 l at_ why).2.2 (rHd6 l at_ why).2.1 (rHd6 l at_ why).2.2 := by rw [rHd6]; exact rU_goes l _ _ g5.2.1
  have g7 : Goes l (rHd6 l at_ why).2.1 (rHd6 l at_ why).2.2 (rHd7 l at_ why).2.1 (rHd7 l at_ why).2.2 := by rw [rHd7]; exact rU_goes l _ _ g6.2.1
  have g8 : Goes l (rHd7 l at_ why).2.1 (rHd7 l at_ why).2.2 (rHd8 l at_ why).2.1 (rHd8 l at_ why).2.2 := by rw [rHd8]; exact rU_goes l _ _ g7.2.1
  have g9 : Goes l (rHd8 l at_ why).2.1 (rHd8 l at_ why).2.2 (rHd9 l at_ why).2.1 (rHd9 l at_ why).2.2 := by rw [rHd9]; exact rB_goes l _ _ g8.2.1
  exact g1.trans (g2.trans (g3.trans (g4.trans (g5.trans (g6.trans (g7.trans (g8.trans (g9))))))))
set_option maxRecDepth 100000 in
set_option maxHeartbeats 3200000 in
theorem getHead_any (R : Nat) (l : List (BitVec 8)) (at_ why : Nat) (w : World) (h : Rdr w R l at_ why) :
    Calls Tryd.prog 20 #[.pointer (some ⟨R, 0, none⟩)] w fun e w' => e = .returned ((rHdV l at_ why).val (.slice none 0 0) (.slice none 0 0)) ∧ Rdr w' R l (rHd9 l at_ why).2.1 (rHd9 l at_ why).2.2 ∧ w.grownBy w' (some R) := by
  generalize hw1 : (w.alloc (.cells #[.int .i64 0, .int .i64 0, .int .i64 0, .int .i64 0, .int .i64 0, .int .i64 0, .int .i64 0, .int .i64 0, .bool false, .slice none 0 0, .slice none 0 0] 29)).alloc (.cells #[.int .i64 0, .int .i64 0, .int .i64 0, .int .i64 0, .int .i64 0, .int .i64 0, .int .i64 0, .int .i64 0, .bool false, .slice none 0 0, .slice none 0 0] 29) = w1
  have f1 : Hid (Fill w w1 R l at_ why 29 #[.int .i64 0, .int .i64 0, .int .i64 0, .int .i64 0, .int .i64 0, .int .i64 0, .int .i64 0, .int .i64 0, .bool false, .slice none 0 0, .slice none 0 0] #[.int .i64 0, .int .i64 0, .int .i64 0, .int .i64 0, .int .i64 0, .int .i64 0, .int .i64 0, .int .i64 0, .bool false, .slice none 0 0, .slice none 0 0]) := by rw [← hw1]; exact Fill.start h _ _ _
  have HW : Hid _ := hw1
  have hV : Hid (rHdV l at_ why = ⟨zag (rHd1 l at_ why).1, zag (rHd2 l at_ why).1, zag (rHd3 l at_ why).1, zag (rHd4 l at_ why).1, zag (rHd5 l at_ why).1, zag (rHd6 l at_ why).1, zag (rHd7 l at_ why).1, zag (rHd8 l at_ why).1, (rHd9 l at_ why).1⟩) := (rfl : _ = _)
  rw [hV.out]
  have C1 : Hid (∀ w', Rdr w' R l at_ why → Calls Tryd.prog 48 #[.pointer (some ⟨R, 0, none⟩)] w' fun e w'' => e = .returned (.int .i64 (zag (rHd1 l at_ why).1)) ∧ Rdr w'' R l (rHd1 l at_ why).2.1 (rHd1 l at_ why).2.2 ∧ w'.grownBy w'' (some R)) := fun w' h => by rw [rHd1]; exact rInt_any R l at_ why w' h
  have C2 : Hid (∀ w', Rdr w' R l (rHd1 l at_ why).2.1 (rHd1 l at_ why).2.2 → Calls Tryd.prog 48 #[.pointer (some ⟨R, 0, none⟩)] w' fun e w'' => e = .returned (.int .i64 (zag (rHd2 l at_ why).1)) ∧ Rdr w'' R l (rHd2 l at_ why).2.1 (rHd2 l at_ why).2.2 ∧ w'.grownBy w'' (some R)) := fun w' h => by rw [rHd2]; exact rInt_any R l (rHd1 l at_ why).2.1 (rHd1 l at_ why).2.2 w' h
  have C3 : Hid (∀ w', Rdr w' R l (rHd2 l at_ why).2.1 (rHd2 l at_ why).2.2 → Calls Tryd.prog 48 #[.pointer (some ⟨R, 0, none⟩)] w' fun e w'' => e = .returned (.int .i64 (zag (rHd3 l at_ why).1)) ∧ Rdr w'' R l (rHd3 l at_ why).2.1 (rHd3 l at_ why).2.2 ∧ w'.grownBy w'' (some R)) := fun w' h => by rw [rHd3]; exact rInt_any R l (rHd2 l at_ why).2.1 (rHd2 l at_ why).2.2 w' h
  have C4 : Hid (∀ w', Rdr w' R l (rHd3 l at_ why).2.1 (rHd3 l at_ why).2.2 → Calls Tryd.prog 48 #[.pointer (some ⟨R, 0, none⟩)] w' fun e w'' => e = .returned (.int .i64 (zag (rHd4 l at_ why).1)) ∧ Rdr w'' R l (rHd4 l at_ why).2.1 (rHd4 l at_ why).2.2 ∧ w'.grownBy w'' (some R)) := fun w' h => by rw [rHd4]; exact rInt_any R l (rHd3 l at_ why).2.1 (rHd3 l at_ why).2.2 w' h
  have C5 : Hid (∀ w', Rdr w' R l (rHd4 l at_ why).2.1 (rHd4 l at_ why).2.2 → Calls Tryd.prog 48 #[.pointer (some ⟨R, 0, none⟩)] w' fun e w'' => e = .returned (.int .i64 (zag (rHd5 l at_ why).1)) ∧ Rdr w'' R l (rHd5 l at_ why).2.1 (rHd5 l at_ why).2.2 ∧ w'.grownBy w'' (some R)) := fun w' h => by rw [rHd5]; exact rInt_any R l (rHd4 l at_ why).2.1 (rHd4 l at_ why).2.2 w' h
  have C6 : Hid (∀ w', Rdr w' R l (rHd5 l at_ why).2.1 (rHd5 l at_ why).2.2 → Calls Tryd.prog 48 #[.pointer (some ⟨R, 0, none⟩)] w' fun e w'' => e = .returned (.int .i64 (zag (rHd6 l at_ why).1)) ∧ Rdr w'' R l (rHd6 l at_ why).2.1 (rHd6 l at_ why).2.2 ∧ w'.grownBy w'' (some R)) := fun w' h => by rw [rHd6]; exact rInt_any R l (rHd5 l at_ why).2.1 (rHd5 l at_ why).2.2 w' h
  have C7 : Hid (∀ w', Rdr w' R l (rHd6 l at_ why).2.1 (rHd6 l at_ why).2.2 → Calls Tryd.prog 48 #[.pointer (some ⟨R, 0, none⟩)] w' fun e w'' => e = .returned (.int .i64 (zag (rHd7 l at_ why).1)) ∧ Rdr w'' R l (rHd7 l at_ why).2.1 (rHd7 l at_ why).2.2 ∧ w'.grownBy w'' (some R)) := fun w' h => by rw [rHd7]; exact rInt_any R l (rHd6 l at_ why).2.1 (rHd6 l at_ why).2.2 w' h
  have C8 : Hid (∀ w', Rdr w' R l (rHd7 l at_ why).2.1 (rHd7 l at_ why).2.2 → Calls Tryd.prog 48 #[.pointer (some ⟨R, 0, none⟩)] w' fun e w'' => e = .returned (.int .i64 (zag (rHd8 l at_ why).1)) ∧ Rdr w'' R l (rHd8 l at_ why).2.1 (rHd8 l at_ why).2.2 ∧ w'.grownBy w'' (some R)) := fun w' h => by rw [rHd8]; exact rInt_any R l (rHd7 l at_ why).2.1 (rHd7 l at_ why).2.2 w' h
  have C9 : Hid (∀ w', Rdr w' R l (rHd8 l at_ why).2.1 (rHd8 l at_ why).2.2 → Calls Tryd.prog 49 #[.pointer (some ⟨R, 0, none⟩)] w' fun e w'' => e = .returned (.bool (rHd9 l at_ why).1) ∧ Rdr w'' R l (rHd9 l at_ why).2.1 (rHd9 l at_ why).2.2 ∧ w'.grownBy w'' (some R)) := fun w' h => by rw [rHd9]; exact rBool_any R l (rHd8 l at_ why).2.1 (rHd8 l at_ why).2.2 w' h
  generalize (rHd1 l at_ why).2.1 = p1 at *
  generalize (rHd1 l at_ why).2.2 = y1 at *
  generalize zag (rHd1 l at_ why).1 = k1 at *
  generalize (rHd2 l at_ why).2.1 = p2 at *
  generalize (rHd2 l at_ why).2.2 = y2 at *
  generalize zag (rHd2 l at_ why).1 = k2 at *
  generalize (rHd3 l at_ why).2.1 = p3 at *
  generalize (rHd3 l at_ why).2.2 = y3 at *
  generalize zag (rHd3 l at_ why).1 = k3 at *
  generalize (rHd4 l at_ why).2.1 = p4 at *
  generalize (rHd4 l at_ why).2.2 = y4 at *
  generalize zag (rHd4 l at_ why).1 = k4 at *
  generalize (rHd5 l at_ why).2.1 = p5 at *
  generalize (rHd5 l at_ why).2.2 = y5 at *
  generalize zag (rHd5 l at_ why).1 = k5 at *
  generalize (rHd6 l at_ why).2.1 = p6 at *
  generalize (rHd6 l at_ why).2.2 = y6 at *
  generalize zag (rHd6 l at_ why).1 = k6 at *
  generalize (rHd7 l at_ why).2.1 = p7 at *
  generalize (rHd7 l at_ why).2.2 = y7 at *
  generalize zag (rHd7 l at_ why).1 = k7 at *
  generalize (rHd8 l at_ why).2.1 = p8 at *
  generalize (rHd8 l at_ why).2.2 = y8 at *
  generalize zag (rHd8 l at_ why).1 = k8 at *
  generalize (rHd9 l at_ why).2.1 = p9 at *
  generalize (rHd9 l at_ why).2.2 = y9 at *
  generalize (rHd9 l at_ why).1 = k9 at *
  clear h hw1 hV
  go_enter Tryd.func20, Tryd.ntmps20
  go_wp2_with fail
  rw [HW.out]
  refine (C1.out _ f1.out.rdr).mono ?_
  rintro e v1 ⟨rfl, r1, g1⟩
  have d1 : Hid (Fill w v1 R l p1 y1 29 #[.int .i64 0, .int .i64 0, .int .i64 0, .int .i64 0, .int .i64 0, .int .i64 0, .int .i64 0, .int .i64 0, .bool false, .slice none 0 0, .slice none 0 0] #[.int .i64 0, .int .i64 0, .int .i64 0, .int .i64 0, .int .i64 0, .int .i64 0, .int .i64 0, .int .i64 0, .bool false, .slice none 0 0, .slice none 0 0]) := f1.out.call r1 g1
  have c1 : v1.cell? ⟨w.heap.size + 1, 0, none⟩ = some (.int .i64 0) := (d1.out.cell 0).1
  have z1 := (d1.out.cell 0).2
  have f2 : Hid (Fill w (v1.setCell ⟨w.heap.size + 1, 0, none⟩ (.int .i64 k1)) R l p1 y1 29 #[.int .i64 0, .int .i64 0, .int .i64 0, .int .i64 0, .int .i64 0, .int .i64 0, .int .i64 0, .int .i64 0, .bool false, .slice none 0 0, .slice none 0 0] #[.int .i64 k1, .int .i64 0, .int .i64 0, .int .i64 0, .int .i64 0, .int .i64 0, .int .i64 0, .int .i64 0, .bool false, .slice none 0 0, .slice none 0 0]) := d1.out.store 0 _
  clear r1 g1 C1 f1 d1
  go_wp2_with fail
  clear c1 z1
  refine (C2.out _ f2.out.rdr).mono ?_
  rintro e v2 ⟨rfl, r2, g2⟩
  have d2 : Hid (Fill w v2 R l p2 y2 29 #[.int .i64 0, .int .i64 0, .int .i64 0, .int .i64 0, .int .i64 0, .int .i64 0, .int .i64 0, .int .i64 0, .bool false, .slice none 0 0, .slice none 0 0] #[.int .i64 k1, .int .i64 0, .int .i64 0, .int .i64 0, .int .i64 0, .int .i64 0, .int .i64 0, .int .i64 0, .bool false, .slice none 0 0, .slice none 0 0]) := f2.out.call r2 g2
  have c2 : v2.cell? ⟨w.heap.size + 1, 1, none⟩ = some (.int .i64 0) := (d2.out.cell 1).1
  have z2 := (d2.out.cell 1).2
  have f3 : Hid (Fill w (v2.setCell ⟨w.heap.size + 1, 1, none⟩ (.int .i64 k2)) R l p2 y2 29 #[.int .i64 0, .int .i64 0, .int .i64 0, .int .i64 0, .int .i64 0, .int .i64 0, .int .i64 0, .int .i64 0, .bool false, .slice none 0 0, .slice none 0 0] #[.int .i64 k1, .int .i64 k2, .int .i64 0, .int .i64 0, .int .i64 0, .int .i64 0, .int .i64 0, .int .i64 0, .bool false, .slice none 0 0, .slice none 0 0]) := d2.out.store 1 _
  clear r2 g2 C2 f2 d2
  go_wp2_with fail
  clear c2 z2
  refine (C3.out _ f3.out.rdr).mono ?_
  rintro e v3 ⟨rfl, r3, g3⟩
  have d3 : Hid (Fill w v3 R l p3 y3 29 #[.int .i64 0, .int .i64 0, .int .i64 0, .int .i64 0, .int .i64 0, .int .i64 0, .int .i64 0, .int .i64 0, .bool false, .slice none 0 0, .slice none 0 0] #[.int .i64 k1, .int .i64 k2, .int .i64 0, .int .i64 0, .int .i64 0, .int .i64 0, .int .i64 0, .int .i64 0, .bool false, .slice none 0 0, .slice none 0 0]) := f3.out.call r3 g3
  have c3 : v3.cell? ⟨w.heap.size + 1, 2, none⟩ = some (.int .i64 0) := (d3.out.cell 2).1
  have z3 := (d3.out.cell 2).2
  have f4 : Hid (Fill w (v3.setCell ⟨w.heap.size + 1, 2, none⟩ (.int .i64 k3)) R l p3 y3 29 #[.int .i64 0, .int .i64 0, .int .i64 0, .int .i64 0, .int .i64 0, .int .i64 0, .int .i64 0, .int .i64 0, .bool false, .slice none 0 0, .slice none 0 0] #[.int .i64 k1, .int .i64 k2, .int .i64 k3, .int .i64 0, .int .i64 0, .int .i64 0, .int .i64 0, .int .i64 0, .bool false, .slice none 0 0, .slice none 0 0]) := d3.out.store 2 _
  clear r3 g3 C3 f3 d3
  go_wp2_with fail
  clear c3 z3
  refine (C4.out _ f4.out.rdr).mono ?_
  rintro e v4 ⟨rfl, r4, g4⟩
  have d4 : Hid (Fill w v4 R l p4 y4 29 #[.int .i64 0, .int .i64 0, .int .i64 0, .int .i64 0, .int .i64 0, .int .i64 0, .int .i64 0, .int .i64 0, .bool false, .slice none 0 0, .slice none 0 0] #[.int .i64 k1, .int .i64 k2, .int .i64 k3, .int .i64 0, .int .i64 0, .int .i64 0, .int .i64 0, .int .i64 0, .bool false, .slice none 0 0, .slice none 0 0]) := f4.out.call r4 g4
  have c4 : v4.cell? ⟨w.heap.size + 1, 3, none⟩ = some (.int .i64 0) := (d4.out.cell 3).1
  have z4 := (d4.out.cell 3).2
  have f5 : Hid (Fill w (v4.setCell ⟨w.heap.size + 1, 3, none⟩ (.int .i64 k4)) R l p4 y4 29 #[.int .i64 0, .int .i64 0, .int .i64 0, .int .i64 0, .int .i64 0, .int .i64 0, .int .i64 0, .int .i64 0, .bool false, .slice none 0 0, .slice none 0 0] #[.int .i64 k1, .int .i64 k2, .int .i64 k3, .int .i64 k4, .int .i64 0, .int .i64 0, .int .i64 0, .int .i64 0, .bool false, .slice none 0 0, .slice none 0 0]) := d4.out.store 3 _
  clear r4 g4 C4 f4 d4
  go_wp2_with fail
  clear c4 z4
  refine (C5.out _ f5.out.rdr).mono ?_
  rintro e v5 ⟨rfl, r5, g5⟩
  have d5 : Hid (Fill w v5 R l p5 y5 29 #[.int .i64 0, .int .i64 0, .int .i64 0, .int .i64 0, .int .i64 0, .int .i64 0, .int .i64 0, .int .i64 0, .bool false, .slice none 0 0, .slice none 0 0] #[.int .i64 k1, .int .i64 k2, .int .i64 k3, .int .i64 k4, .int .i64 0, .int .i64 0, .int .i64 0, .int .i64 0, .bool false, .slice none 0 0, .slice none 0 0]) := f5.out.call r5 g5
  have c5 : v5.cell? ⟨w.heap.size + 1, 4, none⟩ = some (.int .i64 0) := (d5.out.cell 4).1
  have z5 := (d5.out.cell 4).2
  have f6 : Hid (Fill w (v5.setCell ⟨w.heap.size + 1, 4, none⟩ (.int .i64 k5)) R l p5 y5 29 #[.int .i64 0, .int .i64 0, .int .i64 0, .int .i64 0, .int .i64 0, .int .i64 0, .int .i64 0, .int .i64 0, .bool false, .slice none 0 0, .slice none 0 0] #[.int .i64 k1, .int .i64 k2, .int .i64 k3, .int .i64 k4, .int .i64 k5, .int .i64 0, .int .i64 0, .int .i64 0, .bool false, .slice none 0 0, .slice none 0 0]) := d5.out.store 4 _
  clear r5 g5 C5 f5 d5
  go_wp2_with fail
  clear c5 z5
  refine (C6.out _ f6.out.rdr).mono ?_
  rintro e v6 ⟨rfl, r6, g6⟩
  have d6 : Hid (Fill w v6 R l p6 y6 29 #[.int .i64 0, .int .i64 0, .int .i64 0, .int .i64 0, .int .i64 0, .int .i64 0, .int .i64 0, .int .i64 0, .bool false, .slice none 0 0, .slice none 0 0] #[.int .i64 k1, .int .i64 k2, .int .i64 k3, .int .i64 k4, .int .i64 k5, .int .i64 0, .int .i64 0, .int .i64 0, .bool false, .slice none 0 0, .slice none 0 0]) := f6.out.call r6 g6
  have c6 : v6.cell? ⟨w.heap.size + 1, 5, none⟩ = some (.int .i64 0) := (d6.out.cell 5).1
  have z6 := (d6.out.cell 5).2
  have f7 : Hid (Fill w (v6.setCell ⟨w.heap.size + 1, 5, none⟩ (.int .i64 k6)) R l p6 y6 29 #[.int .i64 0, .int .i64 0, .int .i64 0, .int .i64 0, .int .i64 0, .int .i64 0, .int .i64 0, .int .i64 0, .bool false, .slice none 0 0, .slice none 0 0] #[.int .i64 k1, .int .i64 k2, .int .i64 k3, .int .i64 k4, .int .i64 k5, .int .i64 k6, .int .i64 0, .int .i64 0, .bool false, .slice none 0 0, .slice none 0 0]) := d6.out.store 5 _
  clear r6 g6 C6 f6 d6
  go_wp2_with fail
  clear c6 z6
  refine (C7.out _ f7.out.rdr).mono ?_
  rintro e v7 ⟨rfl, r7, g7⟩
  have d7 : Hid (Fill w v7 R l p7 y7 29 #[.int .i64 0, .int .i64 0, .int .i64 0, .int .i64 0, .int .i64 0, .int .i64 0, .int .i64 0, .int .i64 0, .bool false, .slice none 0 0, .slice none 0 0] #[.int .i64 k1, .int .i64 k2, .int .i64 k3, .int .i64 k4, .int .i64 k5, .int .i64 k6, .int .i64 0, .int .i64 0, .bool false, .slice none 0 0, .slice none 0 0]) := f7.out.call r7 g7
  have c7 : v7.cell? ⟨w.heap.size + 1, 6, none⟩ = some (.int .i64 0) := (d7.out.cell 6).1
  have z7 := (d7.out.cell 6).2
  have f8 : Hid (Fill w (v7.setCell ⟨w.heap.size + 1, 6, none⟩ (.int .i64 k7)) R l p7 y7 29 #[.int .i64 0, .int .i64 0, .int .i64 0, .int .i64 0, .int .i64 0, .int .i64 0, .int .i64 0, .int .i64 0, .bool false, .slice none 0 0, .slice none 0 0] #[.int .i64 k1, .int .i64 k2, .int .i64 k3, .int .i64 k4, .int .i64 k5, .int .i64 k6, .int .i64 k7, .int .i64 0, .bool false, .slice none 0 0, .slice none 0 0]) := d7.out.store 6 _
  clear r7 g7 C7 f7 d7
  go_wp2_with fail
  clear c7 z7
  refine (C8.out _ f8.out.rdr).mono ?_
  rintro e v8 ⟨rfl, r8, g8⟩
  have d8 : Hid (Fill w v8 R l p8 y8 29 #[.int .i64 0, .int .i64 0, .int .i64 0, .int .i64 0, .int .i64 0, .int .i64 0, .int .i64 0, .int .i64 0, .bool false, .slice none 0 0, .slice none 0 0] #[.int .i64 k1, .int .i64 k2, .int .i64 k3, .int .i64 k4, .int .i64 k5, .int .i64 k6, .int .i64 k7, .int .i64 0, .bool false, .slice none 0 0, .slice none 0 0]) := f8.out.call r8 g8
  have c8 : v8.cell? ⟨w.heap.size + 1, 7, none⟩ = some (.int .i64 0) := (d8.out.cell 7).1
  have z8 := (d8.out.cell 7).2
  have f9 : Hid (Fill w (v8.setCell ⟨w.heap.size + 1, 7, none⟩ (.int .i64 k8)) R l p8 y8 29 #[.int .i64 0, .int .i64 0, .int .i64 0, .int .i64 0, .int .i64 0, .int .i64 0, .int .i64 0, .int .i64 0, .bool false, .slice none 0 0, .slice none 0 0] #[.int .i64 k1, .int .i64 k2, .int .i64 k3, .int .i64 k4, .int .i64 k5, .int .i64 k6, .int .i64 k7, .int .i64 k8, .bool false, .slice none 0 0, .slice none 0 0]) := d8.out.store 7 _
  clear r8 g8 C8 f8 d8
  go_wp2_with fail
  clear c8 z8
  refine (C9.out _ f9.out.rdr).mono ?_
  rintro e v9 ⟨rfl, r9, g9⟩
  have d9 : Hid (Fill w v9 R l p9 y9 29 #[.int .i64 0, .int .i64 0, .int .i64 0, .int .i64 0, .int .i64 0, .int .i64 0, .int .i64 0, .int .i64 0, .bool false, .slice none 0 0, .slice none 0 0] #[.int .i64 k1, .int .i64 k2, .int .i64 k3, .int .i64 k4, .int .i64 k5, .int .i64 k6, .int .i64 k7, .int .i64 k8, .bool false, .slice none 0 0, .slice none 0 0]) := f9.out.call r9 g9
  have c9 : v9.cell? ⟨w.heap.size + 1, 8, none⟩ = some (.bool false) := (d9.out.cell 8).1
  have z9 := (d9.out.cell 8).2
  have f10 : Hid (Fill w (v9.setCell ⟨w.heap.size + 1, 8, none⟩ (.bool k9)) R l p9 y9 29 #[.int .i64 0, .int .i64 0, .int .i64 0, .int .i64 0, .int .i64 0, .int .i64 0, .int .i64 0, .int .i64 0, .bool false, .slice none 0 0, .slice none 0 0] #[.int .i64 k1, .int .i64 k2, .int .i64 k3, .int .i64 k4, .int .i64 k5, .int .i64 k6, .int .i64 k7, .int .i64 k8, .bool k9, .slice none 0 0, .slice none 0 0]) := d9.out.store 8 _
  clear r9 g9 C9 f9 d9
  have ff : Hid (Fill w ((v9.setCell ⟨w.heap.size + 1, 8, none⟩ (.bool k9)).setRow w.heap.size #[.int .i64 k1, .int .i64 k2, .int .i64 k3, .int .i64 k4, .int .i64 k5, .int .i64 k6, .int .i64 k7, .int .i64 k8, .bool k9, .slice none 0 0, .slice none 0 0]) R l p9 y9 29 #[.int .i64 k1, .int .i64 k2, .int .i64 k3, .int .i64 k4, .int .i64 k5, .int .i64 k6, .int .i64 k7, .int .i64 k8, .bool k9, .slice none 0 0, .slice none 0 0] #[.int .i64 k1, .int .i64 k2, .int .i64 k3, .int .i64 k4, .int .i64 k5, .int .i64 k6, .int .i64 k7, .int .i64 k8, .bool k9, .slice none 0 0, .slice none 0 0]) := f10.out.putRow _
  have hold : Hid ((v9.setCell ⟨w.heap.size + 1, 8, none⟩ (.bool k9)).heap[w.heap.size]? = some (.cells #[.int .i64 0, .int .i64 0, .int .i64 0, .int .i64 0, .int .i64 0, .int .i64 0, .int .i64 0, .int .i64 0, .bool false, .slice none 0 0, .slice none 0 0] 29 (0, 0))) := f10.out.old
  have hnew : Hid ((v9.setCell ⟨w.heap.size + 1, 8, none⟩ (.bool k9)).heap[w.heap.size + 1]? = some (.cells #[.int .i64 k1, .int .i64 k2, .int .i64 k3, .int .i64 k4, .int .i64 k5, .int .i64 k6, .int .i64 k7, .int .i64 k8, .bool k9, .slice none 0 0, .slice none 0 0] 29 (0, 0))) := f10.out.new
  go_wp2_with (first
    | (refine wpList_load_row rfl 29 (.tmp 3) rfl (w.heap.size + 1) rfl 29 _ (0, 0) _ hnew.out Tryd.underlying29 rfl (by kernel_rfl) ?_)
    | (refine wpList_store_row rfl 29 (.tmp 2) (.tmp 31) rfl w.heap.size #[.int .i64 k1, .int .i64 k2, .int .i64 k3, .int .i64 k4, .int .i64 k5, .int .i64 k6, .int .i64 k7, .int .i64 k8, .bool k9, .slice none 0 0, .slice none 0 0] rfl rfl 29 _ hold.out (by kernel_rfl) rfl (by simp [Value.oneCell']) ?_))
  exact bodyPost_ret (results_cell_row rfl _ _ w.heap.size 29 _ _ _ rfl ff.out.old Tryd.underlying29 rfl (by kernel_rfl)) rfl ⟨rfl, ff.out.rdr, ff.out.grown⟩
/-- Reading an entry. -/
def rEn1 (l : List (BitVec 8)) (at_ why : Nat) := rU l at_ why
def rEn2 (l : List (BitVec 8)) (at_ why : Nat) := rS l (rEn1 l at_ why).2.1 (rEn1 l at_ why).2.2
theorem rEn_goes (l : List (BitVec 8)) (at_ why : Nat) (h : at_ ≤ l.length) : Goes l at_ why (rEn2 l at_ why).2.1 (rEn2 l at_ why).2.2 := by
  have g1 : Goes l at_ why (rEn1 l at_ why).2.1 (rEn1 l at_ why).2.2 := rU_goes l at_ why h
  have g2 : Goes l (rEn1 l at_ why).2.1 (rEn1 l at_ why).2.2 (rEn2 l at_ why).2.1 (rEn2 l at_ why).2.2 := by rw [rEn2]; exact rS_goes l _ _ g1.2.1
  exact g1.trans g2
set_option maxRecDepth 100000 in
set_option maxHeartbeats 1600000 in
theorem getEntry_any (R : Nat) (l : List (BitVec 8)) (at_ why : Nat) (w : World) (h : Rdr w R l at_ why) :
    Calls Tryd.prog 22 #[.pointer (some ⟨R, 0, none⟩)] w fun e w' => ∃ a c, e = .returned (.agg #[.int .i64 (zag (rEn1 l at_ why).1), .slice a (rEn2 l at_ why).1.length c]) ∧ w'.ownsRow (w.heap.size + 2) 5 1 (.slice a (rEn2 l at_ why).1.length c) (rEn2 l at_ why).1.length (cellsOf (rEn2 l at_ why).1) ∧ (rEn2 l at_ why).1.length ≤ 65536 ∧ Rdr w' R l (rEn2 l at_ why).2.1 (rEn2 l at_ why).2.2 ∧ w.grownBy w' (some R) := by
  generalize hw1 : (w.alloc (.cells #[.int .i64 0, .slice none 0 0] 55)).alloc (.cells #[.int .i64 0, .slice none 0 0] 55) = w1
  have sz1 : w1.heap.size = w.heap.size + 2 := by rw [← hw1]; simp
  have f1 : Hid (Fill w w1 R l at_ why 55 #[.int .i64 0, .slice none 0 0] #[.int .i64 0, .slice none 0 0]) := by rw [← hw1]; exact Fill.start h _ _ _
  have HW : Hid _ := hw1
  have C1 : Hid (∀ w', Rdr w' R l at_ why → Calls Tryd.prog 48 #[.pointer (some ⟨R, 0, none⟩)] w' fun e w'' => e = .returned (.int .i64 (zag (rEn1 l at_ why).1)) ∧ Rdr w'' R l (rEn1 l at_ why).2.1 (rEn1 l at_ why).2.2 ∧ w'.grownBy w'' (some R)) := fun w' h => by rw [rEn1]; exact rInt_any R l at_ why w' h
  have C2 : Hid (∀ w', Rdr w' R l (rEn1 l at_ why).2.1 (rEn1 l at_ why).2.2 → Calls Tryd.prog 23 #[.pointer (some ⟨R, 0, none⟩)] w' fun e w'' => ∃ v, e = .returned v ∧ w''.ownsRow w'.heap.size 5 1 v (rEn2 l at_ why).1.length (cellsOf (rEn2 l at_ why).1) ∧ (rEn2 l at_ why).1.length ≤ 65536 ∧ Rdr w'' R l (rEn2 l at_ why).2.1 (rEn2 l at_ why).2.2 ∧ w'.grownBy w'' (some R)) := fun w' h => by rw [rEn2]; exact rBytes_any R l _ _ w' h
  generalize zag (rEn1 l at_ why).1 = k1 at *
  generalize (rEn1 l at_ why).2.1 = p1 at *
  generalize (rEn1 l at_ why).2.2 = y1 at *
  generalize (rEn2 l at_ why).1 = q at *
  generalize (rEn2 l at_ why).2.1 = p2 at *
  generalize (rEn2 l at_ why).2.2 = y2 at *
  clear h hw1
  go_enter Tryd.func22, Tryd.ntmps22
  go_wp2_with fail
  rw [HW.out]
  refine (C1.out _ f1.out.rdr).mono ?_
  rintro e v1 ⟨rfl, r1, g1⟩
  have d1 : Hid (Fill w v1 R l p1 y1 55 #[.int .i64 0, .slice none 0 0] #[.int .i64 0, .slice none 0 0]) := f1.out.call r1 g1
  have c1 : v1.cell? ⟨w.heap.size + 1, 0, none⟩ = some (.int .i64 0) := (d1.out.cell 0).1
  have z1 := (d1.out.cell 0).2
  have S1 : Hid (w.heap.size + 2 ≤ v1.heap.size) := by have := g1.size; show _ ≤ _; omega
  have f2 : Hid (Fill w (v1.setCell ⟨w.heap.size + 1, 0, none⟩ (.int .i64 k1)) R l p1 y1 55 #[.int .i64 0, .slice none 0 0] #[.int .i64 k1, .slice none 0 0]) := d1.out.store 0 _
  clear r1 g1 C1 f1 d1 sz1
  go_wp2_with fail
  refine (C2.out _ f2.out.rdr).mono ?_
  rintro e v2 ⟨vv, rfl, o2, m2, r2, g2⟩
  obtain ⟨qa, qc, rfl, _⟩ := owned_form o2
  have O2 : Hid (v2.ownsRow (w.heap.size + 2) 5 1 (.slice qa q.length qc) q.length (cellsOf q)) := owns_mono' o2 (by have := S1.out; simpa [World.setCell] using this)
  have M2 : Hid _ := m2
  have d2 : Hid (Fill w v2 R l p2 y2 55 #[.int .i64 0, .slice none 0 0] #[.int .i64 k1, .slice none 0 0]) := f2.out.call r2 g2
  have c2 : v2.cell? ⟨w.heap.size + 1, 1, none⟩ = some (.slice none 0 0) := (d2.out.cell 1).1
  have z2 := (d2.out.cell 1).2
  have f3 : Hid (Fill w (v2.setCell ⟨w.heap.size + 1, 1, none⟩ (.slice qa q.length qc)) R l p2 y2 55 #[.int .i64 0, .slice none 0 0] #[.int .i64 k1, .slice qa q.length qc]) := d2.out.store 1 _
  clear r2 g2 C2 f2 d2 o2 m2 c1 z1
  have ff : Hid (Fill w ((v2.setCell ⟨w.heap.size + 1, 1, none⟩ (.slice qa q.length qc)).setRow w.heap.size #[.int .i64 k1, .slice qa q.length qc]) R l p2 y2 55 #[.int .i64 k1, .slice qa q.length qc] #[.int .i64 k1, .slice qa q.length qc]) := f3.out.putRow _
  have fo : Hid (((v2.setCell ⟨w.heap.size + 1, 1, none⟩ (.slice qa q.length qc)).setRow w.heap.size #[.int .i64 k1, .slice qa q.length qc]).ownsRow (w.heap.size + 2) 5 1 (.slice qa q.length qc) q.length (cellsOf q)) := owns_setRow (owns_set O2.out ⟨w.heap.size + 1, 1, none⟩ _ (by show w.heap.size + 1 < w.heap.size + 2; omega)) w.heap.size _ (by omega)
  have hold : Hid ((v2.setCell ⟨w.heap.size + 1, 1, none⟩ (.slice qa q.length qc)).heap[w.heap.size]? = some (.cells #[.int .i64 0, .slice none 0 0] 55 (0, 0))) := f3.out.old
  have hnew : Hid ((v2.setCell ⟨w.heap.size + 1, 1, none⟩ (.slice qa q.length qc)).heap[w.heap.size + 1]? = some (.cells #[.int .i64 k1, .slice qa q.length qc] 55 (0, 0))) := f3.out.new
  go_wp2_with (first
    | (refine wpList_load_row rfl 55 (.tmp 3) rfl (w.heap.size + 1) rfl 55 _ (0, 0) _ hnew.out Tryd.underlying55 rfl (by kernel_rfl) ?_)
    | (refine wpList_store_row rfl 55 (.tmp 2) (.tmp 10) rfl w.heap.size #[.int .i64 k1, .slice qa q.length qc] rfl rfl 55 _ hold.out (by kernel_rfl) rfl (by simp [Value.oneCell']) ?_))
  exact bodyPost_ret (results_cell_row rfl _ _ w.heap.size 55 _ _ _ rfl ff.out.old Tryd.underlying55 rfl (by kernel_rfl)) rfl ⟨qa, qc, rfl, fo.out, M2.out, ff.out.rdr, ff.out.grown⟩
end Go.Proofs.YtpnnbkhlbohfbaaDoor
