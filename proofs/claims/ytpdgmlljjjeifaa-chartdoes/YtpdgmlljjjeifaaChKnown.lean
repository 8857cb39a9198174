/- Package chart: a law's own chart; the law's fixed calls. Written by gen_kn.py. -/
import Derived.Test.YtpdgmlljjjeifaaChGood
namespace Go.Proofs.Ytpdgmlljjjeifaa
open Go.RowKit
attribute [local go_sem] Oper.semAt_some
set_option linter.unusedVariables false
/-- A law's own chart: what was there ahead of the law is as it was. -/
structure MyC (w0 w : World) (R : Nat) (L : List Int) (N : Nat) : Prop where
  c : CIn w w0.heap.size R L
  b : Below w0.heap.size w0 w
  g : Good L N
section
variable {w0 w w' : World} {R : Nat} {L : List Int} {N : Nat}
theorem MyC.below (h : MyC w0 w R L N) (b : Below w.heap.size w w') : MyC w0 w' R L N := ⟨h.c.below b, h.b.trans (b.mono h.b.size), h.g⟩
theorem MyC.alloc (h : MyC w0 w R L N) (o : Obj) : MyC w0 (w.alloc o) R L N := h.below ((Below.refl _ w).alloc (Nat.le_refl _) o)
theorem MyC.drewN (h : MyC w0 w R L N) (n : Nat) : MyC w0 (w.drewN n) R L N := h.below (below_drewN' (Below.refl _ w) n)
theorem my_new (n : Int) (h : 1 ≤ n ∧ n ≤ 3) (w0 w : World) (b : Below w0.heap.size w0 w) : Calls Try.prog 9 #[.int .i64 n] w fun e w' => e = .returned (.tuple #[.pointer (some ⟨w.heap.size, 0, none⟩), .int .i64 0]) ∧ MyC w0 w' w.heap.size (newL n 16) 0 ∧ Below w.heap.size w w' :=
  (new_ok n h w).mono fun e w' ⟨he, hc, hb⟩ => ⟨he, ⟨⟨hc.hR, hc.len, b.size⟩, b.trans (hb.mono b.size), good_new n h⟩, hb⟩
theorem my_do (h : MyC w0 w R L N) (hN : N ≤ 1000) (k s t n p : Int) : Calls Try.prog 15 #[.pointer (some ⟨R, 0, none⟩), .agg #[.int .i64 k, .int .i64 s, .int .i64 t, .int .i64 n, .int .i64 p]] w fun e w' => e = .returned (doC L k s t n p).1.v ∧ MyC w0 w' R (doC L k s t n p).2 (N + 1) ∧ OnlyR w w' R :=
  (do_any h.c (h.g.fine (by omega)) k s t n p).mono fun e w' ⟨he, hc, ho⟩ => ⟨he, ⟨hc, h.b.trans (ho.toBelow h.c.bR h.b.size), h.g.doC k s t n p⟩, ho⟩
end
def kL1 : List Int := (doC (newL 2 16) 1 0 2 0 0).2
theorem kR1 : (doC (newL 2 16) 1 0 2 0 0).1 = ⟨0, true, 1⟩ := by kernel_rfl
def kL2 : List Int := (doC (kL1) 2 0 0 1 1).2
theorem kR2 : (doC (kL1) 2 0 0 1 1).1 = ⟨0, false, 1⟩ := by kernel_rfl
def kL3 : List Int := (doC (kL2) 2 0 0 1 2).2
theorem kR3 : (doC (kL2) 2 0 0 1 2).1 = ⟨0, false, 1⟩ := by kernel_rfl
def kL4 : List Int := (doC (kL3) 3 0 0 0 0).2
theorem kR4 : (doC (kL3) 3 0 0 0 0).1 = ⟨50, false, 0⟩ := by kernel_rfl
def kL5 : List Int := (doC (kL4) 2 0 0 1 3).2
theorem kR5 : (doC (kL4) 2 0 0 1 3).1 = ⟨0, false, 1⟩ := by kernel_rfl
def kL6 : List Int := (doC (kL5) 3 0 0 0 0).2
theorem kR6 : (doC (kL5) 3 0 0 0 0).1 = ⟨0, true, 2⟩ := by kernel_rfl
theorem kO0 : own_ (newL 2 16) 0 = 1 := by kernel_rfl
theorem kO6 : own_ kL6 0 = 2 := by kernel_rfl
theorem kE6 : epo_ kL6 0 = 1 := by kernel_rfl
set_option maxRecDepth 100000 in
set_option maxHeartbeats 4000000 in
theorem knownC_any (w : World) : Calls Try.prog 11 #[] w fun e w' => e = .returned (.bool true) ∧ Below w.heap.size w w' := by
  have HN := my_new 2 (by omega) w w (Below.refl _ w)
  obtain ⟨R, eR⟩ : ∃ R, w.heap.size = R := ⟨_, rfl⟩
  have ER : Hid (w.heap.size = R) := eR
  rw [eR] at HN
  clear eR
  go_enter Try.func11, Try.ntmps11
  go_wp2_with fail
  refine HN.mono ?_
  clear HN
  rintro e w1 ⟨rfl, h1, _⟩
  have HO := owner_any h1.c 0
  rw [kO0] at HO
  have H1 : Hid (MyC w w1 R (newL 2 16) 0) := h1
  clear h1
  go_wp2_with fail
  refine HO.mono ?_
  clear HO
  rintro e w2 ⟨rfl, b2⟩
  have H2 : Hid (MyC w w2 R (newL 2 16) 0) := H1.out.below b2
  clear b2 H1
  have HD := my_do H2.out (by omega) 1 0 2 0 0
  rw [kR1, show (doC (newL 2 16) 1 0 2 0 0).2 = kL1 from rfl] at HD
  dsimp only [Rs.v] at HD
  go_wp2_with fail
  refine HD.mono ?_
  clear HD
  rintro e w3 ⟨rfl, h3, o3⟩
  have H3 : Hid (MyC w w3 R kL1 1) := h3
  clear h3 o3 H2
  obtain ⟨w4, e4⟩ : ∃ x, w3.alloc (.cells #[.int .i64 0, .bool true, .int .i64 1] 35) = x := ⟨_, rfl⟩
  obtain ⟨Sm, s4⟩ : ∃ x, w3.heap.size = x := ⟨_, rfl⟩
  have H4 : Hid (MyC w w4 R kL1 1) := by rw [← e4]; exact H3.out.alloc _
  have BSm0 : Hid (Blk w4 Sm #[.int .i64 0, .bool true, .int .i64 1] 35) := by rw [← e4, ← s4]; exact Blk.new _ _ _
  clear H3
  have BSm : Hid (Blk w4 Sm #[.int .i64 0, .bool true, .int .i64 1] 35) := BSm0.out
  clear BSm0
  have E4 : Hid _ := e4
  have T4 : Hid (w3.heap.size = Sm) := s4
  clear e4 s4
  have HD := my_do H4.out (by omega) 2 0 0 1 1
  rw [kR2, show (doC (kL1) 2 0 0 1 1).2 = kL2 from rfl] at HD
  dsimp only [Rs.v] at HD
  go_wp2_with fail
  rw [E4.out, T4.out]
  clear E4 T4
  refine HD.mono ?_
  clear HD
  rintro e w5 ⟨rfl, h5, o5⟩
  have H5 : Hid (MyC w w5 R kL2 2) := h5
  have Sm_ : Hid (Blk w5 Sm #[.int .i64 0, .bool true, .int .i64 1] 35) := BSm.out.only o5 (H4.out.c.ne BSm.out (by decide))
  clear h5 o5 H4 BSm
  have BSm : Hid (Blk w5 Sm #[.int .i64 0, .bool true, .int .i64 1] 35) := Sm_.out
  clear Sm_
  have HD := my_do H5.out (by omega) 2 0 0 1 2
  rw [kR3, show (doC (kL2) 2 0 0 1 2).2 = kL3 from rfl] at HD
  dsimp only [Rs.v] at HD
  go_wp2_with fail
  refine HD.mono ?_
  clear HD
  rintro e w6 ⟨rfl, h6, o6⟩
  have H6 : Hid (MyC w w6 R kL3 3) := h6
  have Sm_ : Hid (Blk w6 Sm #[.int .i64 0, .bool true, .int .i64 1] 35) := BSm.out.only o6 (H5.out.c.ne BSm.out (by decide))
  clear h6 o6 H5 BSm
  have BSm : Hid (Blk w6 Sm #[.int .i64 0, .bool true, .int .i64 1] 35) := Sm_.out
  clear Sm_
  have HD := my_do H6.out (by omega) 3 0 0 0 0
  rw [kR4, show (doC (kL3) 3 0 0 0 0).2 = kL4 from rfl] at HD
  dsimp only [Rs.v] at HD
  go_wp2_with fail
  refine HD.mono ?_
  clear HD
  rintro e w7 ⟨rfl, h7, o7⟩
  have H7 : Hid (MyC w w7 R kL4 4) := h7
  have Sm_ : Hid (Blk w7 Sm #[.int .i64 0, .bool true, .int .i64 1] 35) := BSm.out.only o7 (H6.out.c.ne BSm.out (by decide))
  clear h7 o7 H6 BSm
  have BSm : Hid (Blk w7 Sm #[.int .i64 0, .bool true, .int .i64 1] 35) := Sm_.out
  clear Sm_
  obtain ⟨w8, e8⟩ : ∃ x, w7.alloc (.cells #[.int .i64 50, .bool false, .int .i64 0] 35) = x := ⟨_, rfl⟩
  obtain ⟨Sx, s8⟩ : ∃ x, w7.heap.size = x := ⟨_, rfl⟩
  have H8 : Hid (MyC w w8 R kL4 4) := by rw [← e8]; exact H7.out.alloc _
  have BSx0 : Hid (Blk w8 Sx #[.int .i64 50, .bool false, .int .i64 0] 35) := by rw [← e8, ← s8]; exact Blk.new _ _ _
  have Sm_ : Hid (Blk w8 Sm #[.int .i64 0, .bool true, .int .i64 1] 35) := by rw [← e8]; exact BSm.out.alloc _
  clear H7 BSm
  have BSm : Hid (Blk w8 Sm #[.int .i64 0, .bool true, .int .i64 1] 35) := Sm_.out
  clear Sm_
  have BSx : Hid (Blk w8 Sx #[.int .i64 50, .bool false, .int .i64 0] 35) := BSx0.out
  clear BSx0
  have E8 : Hid _ := e8
  have T8 : Hid (w7.heap.size = Sx) := s8
  clear e8 s8
  have HD := my_do H8.out (by omega) 2 0 0 1 3
  rw [kR5, show (doC (kL4) 2 0 0 1 3).2 = kL5 from rfl] at HD
  dsimp only [Rs.v] at HD
  go_wp2_with fail
  rw [E8.out, T8.out]
  clear E8 T8
  refine HD.mono ?_
  clear HD
  rintro e w9 ⟨rfl, h9, o9⟩
  have H9 : Hid (MyC w w9 R kL5 5) := h9
  have Sm_ : Hid (Blk w9 Sm #[.int .i64 0, .bool true, .int .i64 1] 35) := BSm.out.only o9 (H8.out.c.ne BSm.out (by decide))
  have Sx_ : Hid (Blk w9 Sx #[.int .i64 50, .bool false, .int .i64 0] 35) := BSx.out.only o9 (H8.out.c.ne BSx.out (by decide))
  clear h9 o9 H8 BSm BSx
  have BSm : Hid (Blk w9 Sm #[.int .i64 0, .bool true, .int .i64 1] 35) := Sm_.out
  clear Sm_
  have BSx : Hid (Blk w9 Sx #[.int .i64 50, .bool false, .int .i64 0] 35) := Sx_.out
  clear Sx_
  have HD := my_do H9.out (by omega) 3 0 0 0 0
  rw [kR6, show (doC (kL5) 3 0 0 0 0).2 = kL6 from rfl] at HD
  dsimp only [Rs.v] at HD
  go_wp2_with fail
  refine HD.mono ?_
  clear HD
  rintro e w10 ⟨rfl, h10, o10⟩
  have H10 : Hid (MyC w w10 R kL6 6) := h10
  have Sm_ : Hid (Blk w10 Sm #[.int .i64 0, .bool true, .int .i64 1] 35) := BSm.out.only o10 (H9.out.c.ne BSm.out (by decide))
  have Sx_ : Hid (Blk w10 Sx #[.int .i64 50, .bool false, .int .i64 0] 35) := BSx.out.only o10 (H9.out.c.ne BSx.out (by decide))
  clear h10 o10 H9 BSm BSx
  have BSm : Hid (Blk w10 Sm #[.int .i64 0, .bool true, .int .i64 1] 35) := Sm_.out
  clear Sm_
  have BSx : Hid (Blk w10 Sx #[.int .i64 50, .bool false, .int .i64 0] 35) := Sx_.out
  clear Sx_
  have m1 : w10.cell? ⟨Sm, 1, none⟩ = some (.bool true) := BSm.out.cell 1
  have m2 : w10.cell? ⟨Sm, 2, none⟩ = some (.int .i64 1) := BSm.out.cell 2
  have ltm := BSm.out.lt
  obtain ⟨w11, e11⟩ : ∃ x, w10.alloc (.cells #[.int .i64 0, .bool true, .int .i64 2] 35) = x := ⟨_, rfl⟩
  obtain ⟨Sy, s11⟩ : ∃ x, w10.heap.size = x := ⟨_, rfl⟩
  have H11 : Hid (MyC w w11 R kL6 6) := by rw [← e11]; exact H10.out.alloc _
  have BSy0 : Hid (Blk w11 Sy #[.int .i64 0, .bool true, .int .i64 2] 35) := by rw [← e11, ← s11]; exact Blk.new _ _ _
  have Sm_ : Hid (Blk w11 Sm #[.int .i64 0, .bool true, .int .i64 1] 35) := by rw [← e11]; exact BSm.out.alloc _
  have Sx_ : Hid (Blk w11 Sx #[.int .i64 50, .bool false, .int .i64 0] 35) := by rw [← e11]; exact BSx.out.alloc _
  clear H10 BSm BSx
  have BSm : Hid (Blk w11 Sm #[.int .i64 0, .bool true, .int .i64 1] 35) := Sm_.out
  clear Sm_
  have BSx : Hid (Blk w11 Sx #[.int .i64 50, .bool false, .int .i64 0] 35) := Sx_.out
  clear Sx_
  have BSy : Hid (Blk w11 Sy #[.int .i64 0, .bool true, .int .i64 2] 35) := BSy0.out
  clear BSy0
  have E11 : Hid _ := e11
  have T11 : Hid (w10.heap.size = Sy) := s11
  clear e11 s11
  have HO := owner_any H11.out.c 0
  rw [kO6] at HO
  go_wp2_with fail
  rw [E11.out, T11.out]
  clear E11 T11 m1 m2 ltm
  refine HO.mono ?_
  clear HO
  rintro e x1 ⟨rfl, c1⟩
  have J1 : Hid (MyC w x1 R kL6 6) := H11.out.below c1
  have M1 : Hid (Blk x1 Sx #[.int .i64 50, .bool false, .int .i64 0] 35 ∧ Blk x1 Sy #[.int .i64 0, .bool true, .int .i64 2] 35) := ⟨BSx.out.below c1, BSy.out.below c1⟩
  have HE := epoch_any J1.out.c 0
  rw [kE6] at HE
  clear c1
  go_wp2_with fail
  refine HE.mono ?_
  clear HE
  rintro e x2 ⟨rfl, c2⟩
  have J2 : Hid (MyC w x2 R kL6 6) := J1.out.below c2
  have z0 : x2.cell? ⟨Sx, 0, none⟩ = some (.int .i64 50) := (M1.out.1.below c2).cell 0
  have z1 : x2.cell? ⟨Sy, 1, none⟩ = some (.bool true) := (M1.out.2.below c2).cell 1
  have z2 : x2.cell? ⟨Sy, 2, none⟩ = some (.int .i64 2) := (M1.out.2.below c2).cell 2
  clear c2
  go_wp2
  go_ret
  exact ⟨rfl, J2.out.b⟩
end Go.Proofs.Ytpdgmlljjjeifaa
