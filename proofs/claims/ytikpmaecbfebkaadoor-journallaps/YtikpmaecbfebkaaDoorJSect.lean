/- Package journal: the bytes of a sector. -/
import Derived.Test.YtikpmaecbfebkaaDoorJMeth
namespace Go.Proofs.YtikpmaecbfebkaaDoor
open Go.RowKit
set_option linter.unusedVariables false

theorem alloc_two (y : World) (a b : Value) (T : TypeId) : (y.alloc (.cells #[a, b] T)).cell? ⟨y.heap.size, 0, none⟩ = some a ∧ (y.alloc (.cells #[a, b] T)).cell? ⟨y.heap.size, 1, none⟩ = some b := by
  have h := heap_alloc_new y (.cells #[a, b] T)
  obtain ⟨z, ez⟩ : ∃ z, y.alloc (.cells #[a, b] T) = z := ⟨_, rfl⟩
  rw [ez] at h ⊢
  simp [World.cell?, h]
/-- A sector's bytes behind its sum; all of them. -/
def restB (s mk : Nat) (D : List (BitVec 8)) : List (BitVec 8) := leB 8 s ++ ([BitVec.ofNat 8 mk, BitVec.ofNat 8 D.length] ++ (D ++ List.replicate (242 - D.length) 0#8))
def secB (s mk : Nat) (D : List (BitVec 8)) : List (BitVec 8) := leB 4 (Crc.more 0#32 (restB s mk D)).toNat ++ restB s mk D
theorem restB_length {s mk : Nat} {D : List (BitVec 8)} (h : D.length ≤ 242) : (restB s mk D).length = 252 := by unfold restB; simp [leB_length]; omega
theorem secB_length {s mk : Nat} {D : List (BitVec 8)} (h : D.length ≤ 242) : (secB s mk D).length = 256 := by unfold secB; rw [List.length_append, leB_length, restB_length h]
/-- The sector ahead of its sum. -/
def pre4 (s mk : Nat) (D : List (BitVec 8)) : List (BitVec 8) := List.replicate 4 0#8 ++ restB s mk D
theorem over_app (A p q B : List (BitVec 8)) (h : p.length = q.length) : over (A ++ (q ++ B)) A.length p = A ++ (p ++ B) := by
  unfold over
  rw [List.take_left, ← List.append_assoc A q B, h, List.drop_left' (by simp)]
  simp
theorem set_app (A B : List (BitVec 8)) (x y : BitVec 8) : (A ++ x :: B).set A.length y = A ++ y :: B := by rw [List.set_append_right _ _ (Nat.le_refl _)]; simp
theorem sect_steps {s mk : Nat} {D : List (BitVec 8)} (h : D.length ≤ 242) :
    over (over (List.replicate 256 0#8) 4 (leB 8 s) |>.set 12 (BitVec.ofNat 8 mk) |>.set 13 (BitVec.ofNat 8 D.length)) 14 D = pre4 s mk D := by
  have e0 : List.replicate 256 0#8 = List.replicate 4 0#8 ++ (List.replicate 8 0#8 ++ (0#8 :: 0#8 :: (List.replicate D.length 0#8 ++ List.replicate (242 - D.length) 0#8))) := by
    rw [List.replicate_append_replicate, show D.length + (242 - D.length) = 242 by omega]
    rfl
  have e1 : over (List.replicate 256 0#8) 4 (leB 8 s) = List.replicate 4 0#8 ++ (leB 8 s ++ (0#8 :: 0#8 :: (List.replicate D.length 0#8 ++ List.replicate (242 - D.length) 0#8))) := by
    rw [e0]
    exact over_app (List.replicate 4 0#8) (leB 8 s) (List.replicate 8 0#8) _ (by rw [leB_length, List.length_replicate])
  have e2 : (over (List.replicate 256 0#8) 4 (leB 8 s)).set 12 (BitVec.ofNat 8 mk) = (List.replicate 4 0#8 ++ leB 8 s) ++ (BitVec.ofNat 8 mk :: 0#8 :: (List.replicate D.length 0#8 ++ List.replicate (242 - D.length) 0#8)) := by
    rw [e1, ← List.append_assoc]
    have := set_app (List.replicate 4 0#8 ++ leB 8 s) (0#8 :: (List.replicate D.length 0#8 ++ List.replicate (242 - D.length) 0#8)) 0#8 (BitVec.ofNat 8 mk)
    rw [List.length_append, leB_length, List.length_replicate] at this
    exact this
  have e3 : ((over (List.replicate 256 0#8) 4 (leB 8 s)).set 12 (BitVec.ofNat 8 mk)).set 13 (BitVec.ofNat 8 D.length) = (List.replicate 4 0#8 ++ leB 8 s ++ [BitVec.ofNat 8 mk]) ++ (BitVec.ofNat 8 D.length :: (List.replicate D.length 0#8 ++ List.replicate (242 - D.length) 0#8)) := by
    rw [e2]
    have := set_app (List.replicate 4 0#8 ++ leB 8 s ++ [BitVec.ofNat 8 mk]) (List.replicate D.length 0#8 ++ List.replicate (242 - D.length) 0#8) 0#8 (BitVec.ofNat 8 D.length)
    rw [List.length_append, List.length_append, leB_length, List.length_replicate] at this
    rw [← this]
    simp
  rw [e3]
  have := over_app (List.replicate 4 0#8 ++ leB 8 s ++ [BitVec.ofNat 8 mk, BitVec.ofNat 8 D.length]) D (List.replicate D.length 0#8) (List.replicate (242 - D.length) 0#8) (by simp)
  rw [List.length_append, List.length_append, leB_length, List.length_replicate] at this
  unfold pre4 restB
  have e4 : (List.replicate 4 0#8 ++ leB 8 s ++ [BitVec.ofNat 8 mk]) ++ (BitVec.ofNat 8 D.length :: (List.replicate D.length 0#8 ++ List.replicate (242 - D.length) 0#8)) = List.replicate 4 0#8 ++ leB 8 s ++ [BitVec.ofNat 8 mk, BitVec.ofNat 8 D.length] ++ (List.replicate D.length 0#8 ++ List.replicate (242 - D.length) 0#8) := by simp
  rw [e4]
  refine this.trans ?_
  simp
theorem sect_last {s mk : Nat} {D : List (BitVec 8)} (x : Nat) : over (pre4 s mk D) 0 (leB 4 x) = leB 4 x ++ restB s mk D := by
  have := over_app [] (leB 4 x) (List.replicate 4 0#8) (restB s mk D) (by rw [leB_length, List.length_replicate])
  exact this
theorem just_below {g N : Nat} {w a b : World} (h : Below N w a) (j : Just g a b) (hg : N ≤ g) : Below N w b := ⟨j.os.trans h.os, j.tape.trans h.tape, j.output.trans h.output, by rw [j.size]; exact h.size, fun k hk => (j.block k (by omega)).trans (h.block k hk)⟩
set_option maxRecDepth 100000 in
set_option maxHeartbeats 6400000 in
theorem sector_bytes (mk : Nat) (a : Option Addr) (cap : Nat) (D : List (BitVec 8)) (s : Nat) (w : World) (hT : Tabs w) (hS : Seen w a D.length D) (hm : mk < 256) (hD : D.length ≤ 242) (hs : s < 9223372036854775808) :
    Calls Tryd.prog 54 #[.agg #[.int .u8 (mk : Int), .slice a D.length cap], .int .i64 (s : Int)] w fun e w' => ∃ g, e = .returned (.slice (some ⟨g, 0, none⟩) 256 256) ∧ w'.ownsRow w.heap.size 5 1 (.slice (some ⟨g, 0, none⟩) 256 256) 256 (cellsOf (secB s mk D)) ∧ Below w.heap.size w w' := by
  obtain ⟨k0, k1⟩ := alloc_two w (.int .u8 (mk : Int)) (.slice a D.length cap) 88
  have b1 := (Below.refl w.heap.size w).alloc (Nat.le_refl _) (.cells #[.int .u8 (mk : Int), .slice a D.length cap] 88)
  have z1 : (w.alloc (.cells #[.int .u8 (mk : Int), .slice a D.length cap] 88)).heap.size = w.heap.size + 1 := by simp
  obtain ⟨w1, ew⟩ : ∃ x, w.alloc (.cells #[.int .u8 (mk : Int), .slice a D.length cap] 88) = x := ⟨_, rfl⟩
  have EW : Hid (w.alloc (.cells #[.int .u8 (mk : Int), .slice a D.length cap] 88) = w1) := ew
  rw [ew] at k0 k1 b1 z1
  obtain ⟨w2, hm2, o2, g2, z2⟩ := make_bytes w1 256 (by omega)
  rw [show ((256 : Nat) : Int) = 256 from rfl] at hm2
  have b2 : Below w1.heap.size w1 w2 := (Below.refl _ w1).grown g2 (Nat.le_refl _) (fun k e => by cases e)
  obtain ⟨g, eg⟩ : ∃ g, w1.heap.size = g := ⟨_, rfl⟩
  have hBg : w.heap.size ≠ g := by omega
  have bw : Below w.heap.size w w2 := b1.trans (b2.mono b1.size)
  rw [eg] at hm2 o2
  have o2' : w2.ownsRow w.heap.size 5 1 (.slice (some ⟨g, 0, none⟩) 256 256) 256 (cellsOf (List.replicate 256 0#8)) := ⟨o2.1, o2.2.imp id (fun ⟨g', c', cur, e, h1, h2⟩ => ⟨g', c', cur, e, by omega, h2⟩)⟩
  have PUT1 := put_any w.heap.size g 256 256 4 8 252 s (List.replicate 256 0#8) w2 o2' (by omega) (by omega) (by omega) (by omega)
  have wsu : IntKind.u64.wrap (s : Int) = (s : Int) := by rw [IntKind.wrap_u64]; omega
  have hB1 : w.heap.size < w1.heap.size := by omega
  have C1a : Hid (∀ X, Just g w2 X → X.cell? ⟨w.heap.size, 0, none⟩ = some (.int .u8 (mk : Int)) ∧ X.cell? ⟨w.heap.size, 1, none⟩ = some (.slice a D.length cap)) := fun X j => by
    have q : X.heap[w.heap.size]? = w1.heap[w.heap.size]? := (j.block _ hBg).trans (b2.block _ hB1)
    rw [World.cell?_of_block (w := w1) (a := ⟨w.heap.size, 0, none⟩) q, World.cell?_of_block (w := w1) (a := ⟨w.heap.size, 1, none⟩) q]
    exact ⟨k0, k1⟩
  have SEE : Hid (∀ X, Just g w2 X → Seen X a D.length D) := fun X j => hS.below (just_below bw j (by omega))
  have TAB : Hid (∀ X, Just g w2 X → Tabs X) := fun X j => hT.below (just_below bw j (by omega)) hT.size
  have BLW : Hid (∀ X, Just g w2 X → Below w.heap.size w X) := fun X j => just_below bw j (by omega)
  have HM : Hid _ := hm2
  have HDm : Hid (mk < 256 ∧ D.length ≤ 242) := ⟨hm, hD⟩
  obtain ⟨dn, edn⟩ : ∃ n, D.length = n := ⟨_, rfl⟩
  have EDN : Hid (D.length = dn) := edn
  rw [edn] at EW C1a SEE
  rw [edn]
  have hdn : dn ≤ 242 := by omega
  have wdn : IntKind.u8.wrap (dn : Int) = (dn : Int) := by rw [IntKind.wrap_u8]; omega
  clear hT hS hm hD hs k0 k1 b1 z1 ew o2 g2 z2 b2 bw hm2 o2' hB1 edn
  go_enter Tryd.func54, Tryd.ntmps54
  rw [← EW.out] at HM
  go_wp2_with (refine wpList_value rfl (exec_make (t := 22) (l := .const (.int .i64 256)) (c := .const (.int .i64 256)) rfl rfl rfl HM.out) ?_)
  refine PUT1.mono ?_
  rintro e x1 ⟨⟨u, rfl⟩, o1, j1⟩
  have R1l : (over (List.replicate 256 0#8) 4 (leB 8 s)).length = 256 := by have := o1.1; rw [cellsOf_length] at this; omega
  obtain ⟨R1, eR1⟩ : ∃ R, over (List.replicate 256 0#8) 4 (leB 8 s) = R := ⟨_, rfl⟩
  have ER1 : Hid (over (List.replicate 256 0#8) 4 (leB 8 s) = R1) := eR1
  rw [eR1] at o1 R1l
  have vm : V (BitVec.ofNat 8 mk) = (mk : Int) := by unfold V; rw [BitVec.toNat_ofNat, Nat.mod_eq_of_lt HDm.out.1]
  have vd : V (BitVec.ofNat 8 dn) = (dn : Int) := by unfold V; rw [BitVec.toNat_ofNat, Nat.mod_eq_of_lt (by omega)]
  have o2 := (o1.stored 12 (.int .u8 (V (BitVec.ofNat 8 mk)))).1
  rw [cellsOf_set, vm] at o2
  have j2 := j1.trans (Just.set g 12 x1 (.int .u8 (mk : Int)))
  have o3 := (o2.stored 13 (.int .u8 (V (BitVec.ofNat 8 dn)))).1
  rw [cellsOf_set, vd] at o3
  have j3 := j2.trans (Just.set g 13 (x1.setCell ⟨g, 12, none⟩ (.int .u8 (mk : Int))) (.int .u8 (dn : Int)))
  have c12 : x1.cell? ⟨g, 12, none⟩ = some (.int .u8 (V (R1.getD 12 0#8))) := by rw [o1.cellAt 12 (by omega)]; simp [cellsOf, R1l]
  have f12 := o1.frozenAt 12
  have c13 : (x1.setCell ⟨g, 12, none⟩ (.int .u8 (mk : Int))).cell? ⟨g, 13, none⟩ = some (.int .u8 (V ((R1.set 12 (BitVec.ofNat 8 mk)).getD 13 0#8))) := by rw [o2.cellAt 13 (by omega)]; simp [cellsOf, R1l]
  have f13 := o2.frozenAt 13
  have b0 := (C1a.out x1 j1).1
  have b1 := (C1a.out _ j2).2
  obtain ⟨y12, ey12⟩ : ∃ y, V (R1.getD 12 0#8) = y := ⟨_, rfl⟩
  obtain ⟨y13, ey13⟩ : ∃ y, V ((R1.set 12 (BitVec.ofNat 8 mk)).getD 13 0#8) = y := ⟨_, rfl⟩
  rw [ey12] at c12
  rw [ey13] at c13
  obtain ⟨x3, ex3⟩ : ∃ x, (x1.setCell ⟨g, 12, none⟩ (.int .u8 (mk : Int))).setCell ⟨g, 13, none⟩ (.int .u8 (dn : Int)) = x := ⟨_, rfl⟩
  have EX3 : Hid ((x1.setCell ⟨g, 12, none⟩ (.int .u8 (mk : Int))).setCell ⟨g, 13, none⟩ (.int .u8 (dn : Int)) = x3) := ex3
  rw [ex3] at o3 j3
  have O3 : Hid (x3.drew.ownsRow w.heap.size 5 1 (.slice (some ⟨g, 0, none⟩) 256 256) 256 (cellsOf ((R1.set 12 (BitVec.ofNat 8 mk)).set 13 (BitVec.ofNat 8 dn)))) := o3
  have J3 : Hid (Just g w2 x3.drew) := ⟨j3.os, j3.tape, j3.output, j3.size, j3.block⟩
  clear o1 o2 o3 j1 j2 j3 R1l vm vd eR1 ey12 ey13 ex3 PUT1 HM
  go_wp2_with fail
  rw [EX3.out]
  obtain ⟨x5, hc5, o5, j5⟩ := copy_bytes x3.drew w.heap.size g 256 256 14 242 242 _ O3.out a dn cap D (SEE.out _ J3.out) (by omega) 3
  have e5 : ((R1.set 12 (BitVec.ofNat 8 mk)).set 13 (BitVec.ofNat 8 dn)).take 14 ++ D.take 242 ++ ((R1.set 12 (BitVec.ofNat 8 mk)).set 13 (BitVec.ofNat 8 dn)).drop (14 + min dn 242) = pre4 s mk D := by
    rw [List.take_of_length_le (l := D) HDm.out.2, Nat.min_eq_left hdn, ← sect_steps HDm.out.2, ER1.out]
    unfold over
    rw [EDN.out]
  rw [e5] at o5
  have HC5 : Hid _ := hc5
  have j35 := J3.out.trans j5
  have C1 : Hid (x3.drew.cell? ⟨w.heap.size, 1, none⟩ = some (.slice a dn cap)) := (C1a.out _ J3.out).2
  have C5 : Hid (x5.cell? ⟨w.heap.size, 1, none⟩ = some (.slice a dn cap)) := (C1a.out _ j35).2
  have O5 : Hid (x5.drew.ownsRow w.heap.size 5 1 (.slice (some ⟨g, 0, none⟩) 256 256) 256 (cellsOf (pre4 s mk D))) := o5
  have J5 : Hid (Just g w2 x5.drew) := ⟨j35.os, j35.tape, j35.output, j35.size, j35.block⟩
  have pl : (pre4 s mk D).length = 256 := by unfold pre4; rw [List.length_append, restB_length HDm.out.2, List.length_replicate]
  have pd : (pre4 s mk D).drop 4 = restB s mk D := by unfold pre4; rw [List.drop_left' (by simp)]
  have SM : Hid (Calls Tryd.prog 71 #[.slice (some ⟨g, 4, none⟩) 252 252] x5.drew fun e w' => e = .returned (.int .u32 ((Crc.more 0#32 (restB s mk D)).toNat : Nat)) ∧ ∃ n, w' = x5.drew.drewN n) := by
    have q := seen_tail (o := 4) (seen_owned O5.out pl (by unfold maxLen; omega)) (by omega)
    rw [pd] at q
    exact sum_any _ _ _ _ x5.drew (TAB.out _ J5.out) q
  have hcs := crc_lt (Crc.more 0#32 (restB s mk D))
  have SB : Hid (leB 4 (Crc.more 0#32 (restB s mk D)).toNat ++ restB s mk D = secB s mk D) := rfl
  obtain ⟨cs, ecs⟩ : ∃ c, (Crc.more 0#32 (restB s mk D)).toNat = c := ⟨_, rfl⟩
  rw [ecs] at SM hcs SB
  have wcs : IntKind.u64.wrap (cs : Int) = (cs : Int) := by rw [IntKind.wrap_u64]; omega
  have PT : Hid (∀ nq, Calls Tryd.prog 70 #[.slice (some ⟨g, 0, none⟩) 4 256, .int .u64 cs] (x5.drew.drewN nq) fun e w' => (∃ u, e = .returned u) ∧ w'.ownsRow w.heap.size 5 1 (.slice (some ⟨g, 0, none⟩) 256 256) 256 (cellsOf (over (pre4 s mk D) 0 (leB 4 cs))) ∧ Just g (x5.drew.drewN nq) w') := fun nq => put_any w.heap.size g 256 256 0 4 256 cs (pre4 s mk D) _ O5.out (by omega) (by omega) (by omega) (by omega)
  clear hc5 o5 j5 e5 j35 pl pd ecs C1a SEE O3 J3 EX3 O5 c12 c13 f12 f13 b0 b1
  refine wp_region_held_drew (S := fun X => X.cell? ⟨w.heap.size, 1, none⟩ = some (.slice a dn cap)) (by kernel_rfl) C1.out (fun hHeld => ?_)
  refine take_run (i := 0) (oi := { dst := some 22, op := Go.Op.move (Go.Operand.tmp 5), type := 22, pos := "sector.go:41", after := #[], guard := none }) (v := .slice (some ⟨g, 0, none⟩) 256 256) rfl (by kernel_rfl) (by kernel_rfl) (by kernel_rfl) (fun _ _ _ h => h) (by rfl) ?_ hHeld ?_
  · (intro wq hSw; go_simp <;> with_reducible rfl)
  try simp only [Act.put, List.setIfInBounds_toArray, List.set_cons_zero, List.set_cons_succ]
  refine take_run (i := 1) (oi := { dst := some 23, op := Go.Op.slice 22 (Go.Operand.tmp 22) (some (Go.Operand.const (Go.Value.int Go.IntKind.i64 14))) none none, type := 22, pos := "sector.go:41", after := #[{ on := 0, ground := Go.Ground.data }], guard := none }) (v := .slice (some ⟨g, 14, none⟩) 242 242) rfl (by kernel_rfl) (by kernel_rfl) (by kernel_rfl) (fun _ _ _ h => h) (by rfl) ?_ hHeld ?_
  · (intro wq hSw; go_simp <;> with_reducible rfl)
  try simp only [Act.put, List.setIfInBounds_toArray, List.set_cons_zero, List.set_cons_succ]
  refine take_run (i := 2) (oi := { dst := some 24, op := Go.Op.fieldAddr 88 (Go.Operand.tmp 2) 1, type := 0, pos := "sector.go:41", after := #[], guard := none }) (v := .pointer (some ⟨w.heap.size, 1, none⟩)) rfl (by kernel_rfl) (by kernel_rfl) (by kernel_rfl) (fun _ _ _ h => h) (by rfl) ?_ hHeld ?_
  · (intro wq hSw; go_simp <;> with_reducible rfl)
  try simp only [Act.put, List.setIfInBounds_toArray, List.set_cons_zero, List.set_cons_succ]
  refine take_run (i := 3) (oi := { dst := some 25, op := Go.Op.load 22 (Go.Operand.tmp 24), type := 22, pos := "sector.go:41", after := #[{ on := 2, ground := Go.Ground.data }], guard := none }) (v := .slice a dn cap) rfl (by kernel_rfl) (by kernel_rfl) (by kernel_rfl) (fun _ _ _ h => h) (by rfl) ?_ hHeld ?_
  · (intro wq hSw; have k1 := hSw; go_simp <;> with_reducible rfl)
  try simp only [Act.put, List.setIfInBounds_toArray, List.set_cons_zero, List.set_cons_succ]
  refine take_make (i := 4) (oi := { dst := some 26, op := Go.Op.call { callee := Go.Callee.builtin Go.Builtin.copy, args := #[Go.Operand.tmp 23, Go.Operand.tmp 25], argTypes := #[22, 22] }, type := 3, pos := "sector.go:41", after := #[{ on := 1, ground := Go.Ground.data }, { on := 3, ground := Go.Ground.data }], guard := none }) (v := goInt (min dn 242 : Nat)) (w' := x5) rfl (by kernel_rfl) (by rfl) (exec_copy (t := 22) (tn := 22) rfl rfl rfl HC5.out) C5.out ?_
  try simp only [Act.put, List.setIfInBounds_toArray, List.set_cons_zero, List.set_cons_succ]
  clear hHeld
  refine wpAnyH_done (by kernel_rfl) ?_ _
  go_wp2_with fail
  refine wp_region_held_drew (S := fun X => True) (by kernel_rfl) trivial (fun hHeld => ?_)
  refine take_run (i := 0) (oi := { dst := some 27, op := Go.Op.move (Go.Operand.tmp 5), type := 22, pos := "sector.go:42", after := #[], guard := none }) (v := .slice (some ⟨g, 0, none⟩) 256 256) rfl (by kernel_rfl) (by kernel_rfl) (by kernel_rfl) (fun _ _ _ h => h) (by rfl) ?_ hHeld ?_
  · (intro wq hSw; go_simp <;> with_reducible rfl)
  try simp only [Act.put, List.setIfInBounds_toArray, List.set_cons_zero, List.set_cons_succ]
  refine take_run (i := 1) (oi := { dst := some 28, op := Go.Op.slice 22 (Go.Operand.tmp 27) none (some (Go.Operand.const (Go.Value.int Go.IntKind.i64 4))) none, type := 22, pos := "sector.go:42", after := #[{ on := 0, ground := Go.Ground.data }], guard := none }) (v := .slice (some ⟨g, 0, none⟩) 4 256) rfl (by kernel_rfl) (by kernel_rfl) (by kernel_rfl) (fun _ _ _ h => h) (by rfl) ?_ hHeld ?_
  · (intro wq hSw; go_simp <;> with_reducible rfl)
  try simp only [Act.put, List.setIfInBounds_toArray, List.set_cons_zero, List.set_cons_succ]
  refine take_run (i := 2) (oi := { dst := some 29, op := Go.Op.move (Go.Operand.tmp 5), type := 22, pos := "sector.go:42", after := #[], guard := none }) (v := .slice (some ⟨g, 0, none⟩) 256 256) rfl (by kernel_rfl) (by kernel_rfl) (by kernel_rfl) (fun _ _ _ h => h) (by rfl) ?_ hHeld ?_
  · (intro wq hSw; go_simp <;> with_reducible rfl)
  try simp only [Act.put, List.setIfInBounds_toArray, List.set_cons_zero, List.set_cons_succ]
  refine take_run (i := 3) (oi := { dst := some 30, op := Go.Op.slice 22 (Go.Operand.tmp 29) (some (Go.Operand.const (Go.Value.int Go.IntKind.i64 4))) none none, type := 22, pos := "sector.go:42", after := #[{ on := 2, ground := Go.Ground.data }], guard := none }) (v := .slice (some ⟨g, 4, none⟩) 252 252) rfl (by kernel_rfl) (by kernel_rfl) (by kernel_rfl) (fun _ _ _ h => h) (by rfl) ?_ hHeld ?_
  · (intro wq hSw; go_simp <;> with_reducible rfl)
  try simp only [Act.put, List.setIfInBounds_toArray, List.set_cons_zero, List.set_cons_succ]
  refine take_call (i := 4) (oi := { dst := some 31, op := Go.Op.call { callee := Go.Callee.value (Go.Operand.func 71), args := #[Go.Operand.tmp 30], argTypes := #[22] }, type := 104, pos := "sector.go:42", after := #[{ on := 3, ground := Go.Ground.data }], guard := none }) rfl (by kernel_rfl) (by rfl) 71 _ (by go_simp <;> with_reducible rfl) ?_
  refine (SM.out).mono ?_
  rintro e y1 ⟨rfl, nq, rfl⟩
  refine ⟨.int .u32 (cs : Nat), rfl, trivial, ?_⟩
  try simp only [Act.put, List.setIfInBounds_toArray, List.set_cons_zero, List.set_cons_succ]
  refine take_run (i := 5) (oi := { dst := some 32, op := Go.Op.convert 104 103 (Go.Operand.tmp 31), type := 103, pos := "sector.go:42", after := #[{ on := 4, ground := Go.Ground.data }], guard := none }) (v := .int .u64 (cs : Nat)) rfl (by kernel_rfl) (by kernel_rfl) (by kernel_rfl) (fun _ _ _ h => h) (by rfl) ?_ hHeld ?_
  · (intro wq hSw; go_simp <;> with_reducible rfl)
  try simp only [Act.put, List.setIfInBounds_toArray, List.set_cons_zero, List.set_cons_succ]
  refine take_call (i := 6) (oi := { dst := some 33, op := Go.Op.call { callee := Go.Callee.value (Go.Operand.func 70), args := #[Go.Operand.tmp 28, Go.Operand.tmp 32], argTypes := #[22, 103] }, type := 0, pos := "sector.go:42", after := #[{ on := 1, ground := Go.Ground.data }, { on := 5, ground := Go.Ground.data }, { on := 4, ground := Go.Ground.chain }], guard := none }) rfl (by kernel_rfl) (by rfl) 70 _ (by go_simp <;> with_reducible rfl) ?_
  refine (PT.out nq).mono ?_
  rintro e y2 ⟨⟨u, rfl⟩, o6, j6⟩
  refine ⟨_, rfl, trivial, ?_⟩
  try simp only [Act.put, List.setIfInBounds_toArray, List.set_cons_zero, List.set_cons_succ]
  clear hHeld
  refine wpAnyH_done (by kernel_rfl) ?_ _
  have FIN : Hid (y2.ownsRow w.heap.size 5 1 (.slice (some ⟨g, 0, none⟩) 256 256) 256 (cellsOf (secB s mk D)) ∧ Below w.heap.size w y2) := by
    rw [sect_last, SB.out] at o6
    exact ⟨o6, BLW.out _ (J5.out.trans ⟨j6.os, j6.tape, j6.output, j6.size, j6.block⟩)⟩
  clear o6 j6
  go_wp2
  go_ret
  exact ⟨g, rfl, FIN.out⟩
end Go.Proofs.YtikpmaecbfebkaaDoor
