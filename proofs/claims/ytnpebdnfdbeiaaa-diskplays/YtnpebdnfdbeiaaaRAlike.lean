/- What is told of a disk and of the reference's is alike. -/
import Derived.Test.YtnpebdnfdbeiaaaRRead
import Derived.Test.YtnpebdnfdbeiaaaRSync
import Derived.Test.YtnpebdnfdbeiaaaDDo
namespace Go.Proofs.Ytnpebdnfdbeiaaa
open Go.RowKit
set_option linter.unusedVariables false

theorem seen_more {w y X : World} {g n : Nat} {l : List (BitVec 8)} (h : Seen y (some ⟨g, 0, none⟩) n l) (b : Below y.heap.size y X) : Seen X (some ⟨g, 0, none⟩) n l := Seen.below h b
set_option maxRecDepth 100000 in
set_option maxHeartbeats 6400000 in
theorem alike_any (md : DM) (mr : RM) (n : Nat) (s : DS) (w : World) (hd : Dsk w md n s) (hr : RDsk w mr n s) (he : s.even) (hn : n ≤ 20) :
    Calls Try.prog 14 #[.pointer (some ⟨md.D, 0, none⟩), .pointer (some ⟨mr.R, 0, none⟩)] w fun e w' => e = .returned (.bool true) ∧ Below w.heap.size w w' := by
  have HN : Hid (1 ≤ n ∧ n ≤ 20) := ⟨hd.ok.n1, hn⟩
  have LI : Hid (s.img.length = 256 * n) := hd.ok.li
  have HI := image_any md n s w hd
  have HRI : Hid (∀ X, Below w.heap.size w X → Calls Try.prog 29 #[.pointer (some ⟨mr.R, 0, none⟩)] X fun e w' => ∃ v, e = .returned v ∧ w'.ownsRow X.heap.size 5 1 v (256 * n) (cellsOf s.img) ∧ Below X.heap.size X w') := fun X b => refImage_any mr n s X (hr.below b)
  have HSz : Hid (∀ X, Below w.heap.size w X → Calls Try.prog 30 #[.pointer (some ⟨md.D, 0, none⟩)] X fun e w' => e = .returned (.int .i64 n) ∧ w' = X) := fun X b => size_any md n s X (hd.below b)
  have HUn : Hid (∀ X, Below w.heap.size w X → Calls Try.prog 31 #[.pointer (some ⟨md.D, 0, none⟩)] X fun e w' => e = .returned (.int .i64 (s.ws.length : Nat)) ∧ w' = X) := fun X b => unsynced_any md n s X (hd.below b)
  have HDe : Hid (∀ X, Below w.heap.size w X → Calls Try.prog 32 #[.pointer (some ⟨md.D, 0, none⟩)] X fun e w' => e = .returned (.bool s.de) ∧ w' = X) := fun X b => dead_any md n s X (hd.below b)
  have HRd : Hid (∀ (X : World) (i : Nat), Below w.heap.size w X → i < n → Calls Try.prog 22 #[.pointer (some ⟨md.D, 0, none⟩), .int .i64 (i : Int)] X fun e w' => ∃ g, e = .returned (.tuple #[.slice (some ⟨g, 0, none⟩) 256 256, .int .i64 0]) ∧ w'.ownsRow X.heap.size 5 1 (.slice (some ⟨g, 0, none⟩) 256 256) 256 (cellsOf (readD s i)) ∧ Below X.heap.size X w') := fun X i b hi => read_any md n s i X (hd.below b) hi
  have HRr : Hid (∀ (X : World) (i : Nat), Below w.heap.size w X → i < n → Calls Try.prog 33 #[.pointer (some ⟨mr.R, 0, none⟩), .int .i64 (i : Int)] X fun e w' => ∃ g, e = .returned (.tuple #[.slice (some ⟨g, 0, none⟩) 256 256, .int .i64 0]) ∧ X.heap.size ≤ g ∧ Con w' g (readD s i) ∧ Below X.heap.size X w') := fun X i b hi => refRead_any mr n s i X (hr.below b) he hi
  have HNd : Hid (∀ (X : World) (i : Int), Below w.heap.size w X → ¬ (0 ≤ i ∧ i < n) → Calls Try.prog 22 #[.pointer (some ⟨md.D, 0, none⟩), .int .i64 i] X fun e w' => e = .returned (.tuple #[.slice none 0 0, .int .i64 1]) ∧ w' = X) := fun X i b hi => read_no md n s i X (hd.below b) hi
  have HNr : Hid (∀ (X : World) (i : Int), Below w.heap.size w X → ¬ (0 ≤ i ∧ i < n) → Calls Try.prog 33 #[.pointer (some ⟨mr.R, 0, none⟩), .int .i64 i] X fun e w' => e = .returned (.tuple #[.slice none 0 0, .int .i64 1]) ∧ w' = X) := fun X i b hi => refRead_no mr n s i X (hr.below b) hi
  obtain ⟨gv, cv, es⟩ := hr.sform
  obtain ⟨la, lc, el⟩ := hr.lform
  have FAC0 : Hid (∀ X, Below w.heap.size w X → X.cell? ⟨mr.R, 0, none⟩ = some (.slice (some ⟨gv, 0, none⟩) n cv) ∧ X.cell? ⟨mr.R, 1, none⟩ = some (.slice la s.ws.length lc) ∧ X.cell? ⟨mr.R, 4, none⟩ = some (.bool s.de)) := fun X b => by
    have q := (hr.below b).cells
    rw [es, el] at q
    exact ⟨q.1, q.2.1, q.2.2.2.2.1⟩
  have SPN : Hid (∀ X : World, Calls Try.prog 10 #[.slice none 0 0] X fun e w' => (∃ u, e = .returned u) ∧ X.grownBy w' none) := fun X => spoil_row X.heap.size (.slice none 0 0) 0 [] X (World.ownsRow_nil _ _ _ _) (Nat.le_refl _) (by omega)
  have tn : ∀ X : World, (convert 22 9 (.slice none 0 0)).run Try.prog X = .ok (.string (textOf [])) X := fun X => run_to_text X none 0 0 [] ⟨rfl, by simp, .inl rfl⟩
  have RL : Hid (∀ i, i < n → (readD s i).length = 256) := fun i hi => sec_length (by have := hd.ok.ln; omega)
  obtain ⟨I, eI⟩ : ∃ I, s.img = I := ⟨_, rfl⟩
  obtain ⟨N, eN⟩ : ∃ N, s.ws.length = N := ⟨_, rfl⟩
  obtain ⟨de, ede⟩ : ∃ b, s.de = b := ⟨_, rfl⟩
  obtain ⟨rd, erd⟩ : ∃ f, readD s = f := ⟨_, rfl⟩
  obtain ⟨R, eR⟩ : ∃ R, mr.R = R := ⟨_, rfl⟩
  obtain ⟨D, eD⟩ : ∃ D, md.D = D := ⟨_, rfl⟩
  rw [eI] at HI HRI LI
  rw [eN] at HUn FAC0
  rw [ede] at HDe FAC0
  rw [erd] at HRd HRr RL
  rw [eR] at HRI HRr HNr FAC0
  rw [eD] at HI HSz HUn HDe HRd HNd
  rw [eR, eD]
  have ti := text_self (textOf I)
  clear hd hr he hn es el eI eN ede erd eR eD
  go_enter Try.func14, Try.ntmps14
  go_wp2_with fail
  refine HI.mono ?_
  rintro e w1 ⟨v1, rfl, o1, b1⟩
  obtain ⟨g1, c1, rfl, z1⟩ := owns_form o1 (by have := HN.out.1; omega)
  have O1 : Hid (w1.ownsRow w.heap.size 5 1 (.slice (some ⟨g1, 0, none⟩) (256 * n) c1) (256 * n) (cellsOf I)) := o1
  have S1 : Hid (Seen w1 (some ⟨g1, 0, none⟩) (256 * n) I) := seen_owned o1 LI.out (by unfold maxLen; have := HN.out.2; omega)
  have B1 : Hid (Below w.heap.size w w1) := b1
  have FAC : Hid (∀ X, Below w1.heap.size w1 X → X.cell? ⟨R, 0, none⟩ = some (.slice (some ⟨gv, 0, none⟩) n cv) ∧ X.cell? ⟨R, 1, none⟩ = some (.slice la N lc) ∧ X.cell? ⟨R, 4, none⟩ = some (.bool de)) := fun X b => FAC0.out X (b1.trans (b.mono b1.size))
  clear HI o1 b1 z1
  go_wp2_with fail
  refine wp_region_held_drew (S := fun X => Below w1.drew.heap.size w1.drew X) (by kernel_rfl) (Below.refl _ _) (fun hHeld => ?_)
  refine take_run (i := 0) (oi := { dst := some 13, op := Go.Op.move (Go.Operand.tmp 5), type := 22, pos := "law.go:53", after := #[], guard := none }) (v := .slice (some ⟨g1, 0, none⟩) (256 * n) c1) rfl (by kernel_rfl) (by kernel_rfl) (by kernel_rfl) (fun _ _ _ h => h) (by rfl) ?_ hHeld ?_
  · (intro wq hSw; go_simp <;> with_reducible rfl)
  try simp only [Act.put, List.setIfInBounds_toArray, List.set_cons_zero, List.set_cons_succ]
  refine take_run (i := 1) (oi := { dst := some 14, op := Go.Op.convert 22 9 (Go.Operand.tmp 13), type := 9, pos := "law.go:53", after := #[{ on := 0, ground := Go.Ground.data }], guard := none }) (v := .string (textOf I)) rfl (by kernel_rfl) (by kernel_rfl) (by kernel_rfl) (fun _ _ _ h => h) (by rfl) ?_ hHeld ?_
  · (intro wq hSw; have tt := run_to_text wq (some ⟨g1, 0, none⟩) (256 * n) c1 _ (Seen.below S1.out ((Below.refl w1.heap.size w1).drew.trans hSw)); go_simp <;> with_reducible rfl)
  try simp only [Act.put, List.setIfInBounds_toArray, List.set_cons_zero, List.set_cons_succ]
  refine take_run (i := 2) (oi := { dst := some 15, op := Go.Op.move (Go.Operand.tmp 1), type := 28, pos := "law.go:53", after := #[], guard := none }) (v := .pointer (some ⟨R, 0, none⟩)) rfl (by kernel_rfl) (by kernel_rfl) (by kernel_rfl) (fun _ _ _ h => h) (by rfl) ?_ hHeld ?_
  · (intro wq hSw; go_simp <;> with_reducible rfl)
  try simp only [Act.put, List.setIfInBounds_toArray, List.set_cons_zero, List.set_cons_succ]
  refine take_call (i := 3) (oi := { dst := some 16, op := Go.Op.call { callee := Go.Callee.value (Go.Operand.func 29), args := #[Go.Operand.tmp 15], argTypes := #[28] }, type := 22, pos := "law.go:53", after := #[{ on := 2, ground := Go.Ground.data }], guard := none }) rfl (by kernel_rfl) (by rfl) 29 _ (by go_simp <;> with_reducible rfl) ?_
  refine (HRI.out w1.drew B1.out.drew).mono ?_
  rintro e y1 ⟨v2, rfl, o2, b2⟩
  obtain ⟨g2, c2, rfl, z2⟩ := owns_form o2 (by have := HN.out.1; omega)
  have S2 : Hid (Seen y1 (some ⟨g2, 0, none⟩) (256 * n) I) := seen_owned o2 LI.out (by unfold maxLen; have := HN.out.2; omega)
  have BY : Hid (Below w1.heap.size w1 y1) := (Below.refl w1.heap.size w1).drew.trans b2
  refine ⟨.slice (some ⟨g2, 0, none⟩) (256 * n) c2, rfl, b2, held_more (S' := fun X => Below y1.heap.size y1 X) (fun X hX => b2.trans (hX.mono b2.size)) _ _ _ _ ?_⟩
  try simp only [Act.put, List.setIfInBounds_toArray, List.set_cons_zero, List.set_cons_succ]
  have r1 := Below.refl y1.heap.size y1
  clear o2 b2 z2 hHeld
  refine take_run (i := 4) (oi := { dst := some 17, op := Go.Op.convert 22 9 (Go.Operand.tmp 16), type := 9, pos := "law.go:53", after := #[{ on := 3, ground := Go.Ground.data }], guard := none }) (v := .string (textOf I)) rfl (by kernel_rfl) (by kernel_rfl) (by kernel_rfl) (fun _ _ _ h => h) (by rfl) ?_ r1 ?_
  · (intro wq hSw; have tt := run_to_text wq (some ⟨g2, 0, none⟩) (256 * n) c2 _ (Seen.below S2.out hSw); go_simp <;> with_reducible rfl)
  try simp only [Act.put, List.setIfInBounds_toArray, List.set_cons_zero, List.set_cons_succ]
  refine take_run (i := 5) (oi := { dst := some 18, op := Go.Op.binOp Go.BinOp.neq 9 (Go.Operand.tmp 14) (Go.Operand.tmp 17) 9, type := 4, pos := "law.go:53", after := #[{ on := 1, ground := Go.Ground.data }, { on := 4, ground := Go.Ground.data }], guard := none }) (v := .bool false) rfl (by kernel_rfl) (by kernel_rfl) (by kernel_rfl) (fun _ _ _ h => h) (by rfl) ?_ r1 ?_
  · (intro wq hSw; go_simp <;> with_reducible rfl)
  try simp only [Act.put, List.setIfInBounds_toArray, List.set_cons_zero, List.set_cons_succ]
  refine take_run (i := 6) (oi := { dst := some 19, op := Go.Op.move (Go.Operand.tmp 18), type := 4, pos := "law.go:53", after := #[{ on := 5, ground := Go.Ground.data }, { on := 3, ground := Go.Ground.chain }], guard := none }) (v := .bool false) rfl (by kernel_rfl) (by kernel_rfl) (by kernel_rfl) (fun _ _ _ h => h) (by rfl) ?_ r1 ?_
  · (intro wq hSw; go_simp <;> with_reducible rfl)
  try simp only [Act.put, List.setIfInBounds_toArray, List.set_cons_zero, List.set_cons_succ]
  refine take_run (i := 7) (oi := { dst := some 20, op := Go.Op.move (Go.Operand.tmp 0), type := 24, pos := "law.go:53", after := #[{ on := 6, ground := Go.Ground.guard }], guard := some (6, false) }) (v := .pointer (some ⟨D, 0, none⟩)) rfl (by kernel_rfl) (by kernel_rfl) (by kernel_rfl) (fun _ _ _ h => h) (by rfl) ?_ r1 ?_
  · (intro wq hSw; go_simp <;> with_reducible rfl)
  try simp only [Act.put, List.setIfInBounds_toArray, List.set_cons_zero, List.set_cons_succ]
  refine take_run (i := 9) (oi := { dst := some 22, op := Go.Op.move (Go.Operand.tmp 1), type := 28, pos := "law.go:53", after := #[{ on := 6, ground := Go.Ground.guard }], guard := some (6, false) }) (v := .pointer (some ⟨R, 0, none⟩)) rfl (by kernel_rfl) (by kernel_rfl) (by kernel_rfl) (fun _ _ _ h => h) (by rfl) ?_ r1 ?_
  · (intro wq hSw; go_simp <;> with_reducible rfl)
  try simp only [Act.put, List.setIfInBounds_toArray, List.set_cons_zero, List.set_cons_succ]
  refine take_run (i := 10) (oi := { dst := some 23, op := Go.Op.nilCheck (Go.Operand.tmp 22), type := 0, pos := "law.go:53", after := #[{ on := 9, ground := Go.Ground.data }, { on := 6, ground := Go.Ground.guard }], guard := some (6, false) }) (v := .pointer (some ⟨R, 0, none⟩)) rfl (by kernel_rfl) (by kernel_rfl) (by kernel_rfl) (fun _ _ _ h => h) (by rfl) ?_ r1 ?_
  · (intro wq hSw; go_simp <;> with_reducible rfl)
  try simp only [Act.put, List.setIfInBounds_toArray, List.set_cons_zero, List.set_cons_succ]
  refine take_run (i := 11) (oi := { dst := some 24, op := Go.Op.fieldAddr 39 (Go.Operand.tmp 23) 0, type := 0, pos := "law.go:53", after := #[{ on := 10, ground := Go.Ground.data }, { on := 6, ground := Go.Ground.guard }], guard := some (6, false) }) (v := .pointer (some ⟨R, 0, none⟩)) rfl (by kernel_rfl) (by kernel_rfl) (by kernel_rfl) (fun _ _ _ h => h) (by rfl) ?_ r1 ?_
  · (intro wq hSw; go_simp <;> with_reducible rfl)
  try simp only [Act.put, List.setIfInBounds_toArray, List.set_cons_zero, List.set_cons_succ]
  refine take_run (i := 12) (oi := { dst := some 25, op := Go.Op.load 36 (Go.Operand.tmp 24), type := 36, pos := "law.go:53", after := #[{ on := 11, ground := Go.Ground.data }, { on := 6, ground := Go.Ground.guard }], guard := some (6, false) }) (v := .slice (some ⟨gv, 0, none⟩) n cv) rfl (by kernel_rfl) (by kernel_rfl) (by kernel_rfl) (fun _ _ _ h => h) (by rfl) ?_ r1 ?_
  · (intro wq hSw; obtain ⟨s0, s1, s4⟩ := FAC.out wq (BY.out.trans (hSw.mono BY.out.size)); go_simp <;> with_reducible rfl)
  try simp only [Act.put, List.setIfInBounds_toArray, List.set_cons_zero, List.set_cons_succ]
  refine take_run (i := 13) (oi := { dst := some 26, op := Go.Op.call { callee := Go.Callee.builtin Go.Builtin.len, args := #[Go.Operand.tmp 25], argTypes := #[36] }, type := 3, pos := "law.go:53", after := #[{ on := 12, ground := Go.Ground.data }, { on := 6, ground := Go.Ground.guard }], guard := some (6, false) }) (v := .int .i64 (n : Nat)) rfl (by kernel_rfl) (by kernel_rfl) (by kernel_rfl) (fun _ _ _ h => h) (by rfl) ?_ r1 ?_
  · (intro wq hSw; go_simp <;> with_reducible rfl)
  try simp only [Act.put, List.setIfInBounds_toArray, List.set_cons_zero, List.set_cons_succ]
  refine take_call (i := 8) (oi := { dst := some 21, op := Go.Op.call { callee := Go.Callee.value (Go.Operand.func 30), args := #[Go.Operand.tmp 20], argTypes := #[24] }, type := 3, pos := "law.go:53", after := #[{ on := 7, ground := Go.Ground.data }, { on := 6, ground := Go.Ground.chain }, { on := 6, ground := Go.Ground.guard }], guard := some (6, false) }) rfl (by kernel_rfl) (by rfl) 30 _ (by go_simp <;> with_reducible rfl) ?_
  refine (HSz.out _ (B1.out.trans (BY.out.mono B1.out.size))).mono ?_
  rintro e y9 ⟨rfl, rfl⟩
  refine ⟨.int .i64 (n : Nat), rfl, r1, ?_⟩
  try simp only [Act.put, List.setIfInBounds_toArray, List.set_cons_zero, List.set_cons_succ]
  refine take_run (i := 14) (oi := { dst := some 27, op := Go.Op.binOp Go.BinOp.neq 3 (Go.Operand.tmp 21) (Go.Operand.tmp 26) 3, type := 4, pos := "law.go:53", after := #[{ on := 8, ground := Go.Ground.data }, { on := 13, ground := Go.Ground.data }, { on := 6, ground := Go.Ground.guard }], guard := some (6, false) }) (v := .bool false) rfl (by kernel_rfl) (by kernel_rfl) (by kernel_rfl) (fun _ _ _ h => h) (by rfl) ?_ r1 ?_
  · (intro wq hSw; go_simp <;> with_reducible rfl)
  try simp only [Act.put, List.setIfInBounds_toArray, List.set_cons_zero, List.set_cons_succ]
  refine take_run (i := 15) (oi := { dst := some 28, op := Go.Op.pick (Go.Operand.tmp 19) (Go.Operand.const (Go.Value.bool true)) (Go.Operand.tmp 27), type := 4, pos := "law.go:53", after := #[{ on := 6, ground := Go.Ground.data }, { on := 14, ground := Go.Ground.data }], guard := none }) (v := .bool false) rfl (by kernel_rfl) (by kernel_rfl) (by kernel_rfl) (fun _ _ _ h => h) (by rfl) ?_ r1 ?_
  · (intro wq hSw; go_simp <;> with_reducible rfl)
  try simp only [Act.put, List.setIfInBounds_toArray, List.set_cons_zero, List.set_cons_succ]
  refine take_run (i := 16) (oi := { dst := some 29, op := Go.Op.move (Go.Operand.tmp 28), type := 4, pos := "law.go:53", after := #[{ on := 15, ground := Go.Ground.data }, { on := 8, ground := Go.Ground.chain }], guard := none }) (v := .bool false) rfl (by kernel_rfl) (by kernel_rfl) (by kernel_rfl) (fun _ _ _ h => h) (by rfl) ?_ r1 ?_
  · (intro wq hSw; go_simp <;> with_reducible rfl)
  try simp only [Act.put, List.setIfInBounds_toArray, List.set_cons_zero, List.set_cons_succ]
  refine take_run (i := 17) (oi := { dst := some 30, op := Go.Op.move (Go.Operand.tmp 0), type := 24, pos := "law.go:53", after := #[{ on := 16, ground := Go.Ground.guard }], guard := some (16, false) }) (v := .pointer (some ⟨D, 0, none⟩)) rfl (by kernel_rfl) (by kernel_rfl) (by kernel_rfl) (fun _ _ _ h => h) (by rfl) ?_ r1 ?_
  · (intro wq hSw; go_simp <;> with_reducible rfl)
  try simp only [Act.put, List.setIfInBounds_toArray, List.set_cons_zero, List.set_cons_succ]
  refine take_run (i := 19) (oi := { dst := some 32, op := Go.Op.move (Go.Operand.tmp 1), type := 28, pos := "law.go:53", after := #[{ on := 16, ground := Go.Ground.guard }], guard := some (16, false) }) (v := .pointer (some ⟨R, 0, none⟩)) rfl (by kernel_rfl) (by kernel_rfl) (by kernel_rfl) (fun _ _ _ h => h) (by rfl) ?_ r1 ?_
  · (intro wq hSw; go_simp <;> with_reducible rfl)
  try simp only [Act.put, List.setIfInBounds_toArray, List.set_cons_zero, List.set_cons_succ]
  refine take_run (i := 20) (oi := { dst := some 33, op := Go.Op.nilCheck (Go.Operand.tmp 32), type := 0, pos := "law.go:53", after := #[{ on := 19, ground := Go.Ground.data }, { on := 16, ground := Go.Ground.guard }], guard := some (16, false) }) (v := .pointer (some ⟨R, 0, none⟩)) rfl (by kernel_rfl) (by kernel_rfl) (by kernel_rfl) (fun _ _ _ h => h) (by rfl) ?_ r1 ?_
  · (intro wq hSw; go_simp <;> with_reducible rfl)
  try simp only [Act.put, List.setIfInBounds_toArray, List.set_cons_zero, List.set_cons_succ]
  refine take_run (i := 21) (oi := { dst := some 34, op := Go.Op.fieldAddr 39 (Go.Operand.tmp 33) 1, type := 0, pos := "law.go:53", after := #[{ on := 20, ground := Go.Ground.data }, { on := 16, ground := Go.Ground.guard }], guard := some (16, false) }) (v := .pointer (some ⟨R, 1, none⟩)) rfl (by kernel_rfl) (by kernel_rfl) (by kernel_rfl) (fun _ _ _ h => h) (by rfl) ?_ r1 ?_
  · (intro wq hSw; go_simp <;> with_reducible rfl)
  try simp only [Act.put, List.setIfInBounds_toArray, List.set_cons_zero, List.set_cons_succ]
  refine take_run (i := 22) (oi := { dst := some 35, op := Go.Op.load 37 (Go.Operand.tmp 34), type := 37, pos := "law.go:53", after := #[{ on := 21, ground := Go.Ground.data }, { on := 16, ground := Go.Ground.guard }], guard := some (16, false) }) (v := .slice la N lc) rfl (by kernel_rfl) (by kernel_rfl) (by kernel_rfl) (fun _ _ _ h => h) (by rfl) ?_ r1 ?_
  · (intro wq hSw; obtain ⟨s0, s1, s4⟩ := FAC.out wq (BY.out.trans (hSw.mono BY.out.size)); go_simp <;> with_reducible rfl)
  try simp only [Act.put, List.setIfInBounds_toArray, List.set_cons_zero, List.set_cons_succ]
  refine take_run (i := 23) (oi := { dst := some 36, op := Go.Op.call { callee := Go.Callee.builtin Go.Builtin.len, args := #[Go.Operand.tmp 35], argTypes := #[37] }, type := 3, pos := "law.go:53", after := #[{ on := 22, ground := Go.Ground.data }, { on := 16, ground := Go.Ground.guard }], guard := some (16, false) }) (v := .int .i64 (N : Nat)) rfl (by kernel_rfl) (by kernel_rfl) (by kernel_rfl) (fun _ _ _ h => h) (by rfl) ?_ r1 ?_
  · (intro wq hSw; go_simp <;> with_reducible rfl)
  try simp only [Act.put, List.setIfInBounds_toArray, List.set_cons_zero, List.set_cons_succ]
  refine take_call (i := 18) (oi := { dst := some 31, op := Go.Op.call { callee := Go.Callee.value (Go.Operand.func 31), args := #[Go.Operand.tmp 30], argTypes := #[24] }, type := 3, pos := "law.go:53", after := #[{ on := 17, ground := Go.Ground.data }, { on := 16, ground := Go.Ground.chain }, { on := 16, ground := Go.Ground.guard }], guard := some (16, false) }) rfl (by kernel_rfl) (by rfl) 31 _ (by go_simp <;> with_reducible rfl) ?_
  refine (HUn.out _ (B1.out.trans (BY.out.mono B1.out.size))).mono ?_
  rintro e y9 ⟨rfl, rfl⟩
  refine ⟨.int .i64 (N : Nat), rfl, r1, ?_⟩
  try simp only [Act.put, List.setIfInBounds_toArray, List.set_cons_zero, List.set_cons_succ]
  refine take_run (i := 24) (oi := { dst := some 37, op := Go.Op.binOp Go.BinOp.neq 3 (Go.Operand.tmp 31) (Go.Operand.tmp 36) 3, type := 4, pos := "law.go:53", after := #[{ on := 18, ground := Go.Ground.data }, { on := 23, ground := Go.Ground.data }, { on := 16, ground := Go.Ground.guard }], guard := some (16, false) }) (v := .bool false) rfl (by kernel_rfl) (by kernel_rfl) (by kernel_rfl) (fun _ _ _ h => h) (by rfl) ?_ r1 ?_
  · (intro wq hSw; go_simp <;> with_reducible rfl)
  try simp only [Act.put, List.setIfInBounds_toArray, List.set_cons_zero, List.set_cons_succ]
  refine take_run (i := 25) (oi := { dst := some 38, op := Go.Op.pick (Go.Operand.tmp 29) (Go.Operand.const (Go.Value.bool true)) (Go.Operand.tmp 37), type := 4, pos := "law.go:53", after := #[{ on := 16, ground := Go.Ground.data }, { on := 24, ground := Go.Ground.data }], guard := none }) (v := .bool false) rfl (by kernel_rfl) (by kernel_rfl) (by kernel_rfl) (fun _ _ _ h => h) (by rfl) ?_ r1 ?_
  · (intro wq hSw; go_simp <;> with_reducible rfl)
  try simp only [Act.put, List.setIfInBounds_toArray, List.set_cons_zero, List.set_cons_succ]
  refine take_run (i := 26) (oi := { dst := some 39, op := Go.Op.move (Go.Operand.tmp 38), type := 4, pos := "law.go:53", after := #[{ on := 25, ground := Go.Ground.data }, { on := 18, ground := Go.Ground.chain }], guard := none }) (v := .bool false) rfl (by kernel_rfl) (by kernel_rfl) (by kernel_rfl) (fun _ _ _ h => h) (by rfl) ?_ r1 ?_
  · (intro wq hSw; go_simp <;> with_reducible rfl)
  try simp only [Act.put, List.setIfInBounds_toArray, List.set_cons_zero, List.set_cons_succ]
  refine take_run (i := 27) (oi := { dst := some 40, op := Go.Op.move (Go.Operand.tmp 0), type := 24, pos := "law.go:53", after := #[{ on := 26, ground := Go.Ground.guard }], guard := some (26, false) }) (v := .pointer (some ⟨D, 0, none⟩)) rfl (by kernel_rfl) (by kernel_rfl) (by kernel_rfl) (fun _ _ _ h => h) (by rfl) ?_ r1 ?_
  · (intro wq hSw; go_simp <;> with_reducible rfl)
  try simp only [Act.put, List.setIfInBounds_toArray, List.set_cons_zero, List.set_cons_succ]
  refine take_run (i := 29) (oi := { dst := some 42, op := Go.Op.move (Go.Operand.tmp 1), type := 28, pos := "law.go:53", after := #[{ on := 26, ground := Go.Ground.guard }], guard := some (26, false) }) (v := .pointer (some ⟨R, 0, none⟩)) rfl (by kernel_rfl) (by kernel_rfl) (by kernel_rfl) (fun _ _ _ h => h) (by rfl) ?_ r1 ?_
  · (intro wq hSw; go_simp <;> with_reducible rfl)
  try simp only [Act.put, List.setIfInBounds_toArray, List.set_cons_zero, List.set_cons_succ]
  refine take_run (i := 30) (oi := { dst := some 43, op := Go.Op.nilCheck (Go.Operand.tmp 42), type := 0, pos := "law.go:53", after := #[{ on := 29, ground := Go.Ground.data }, { on := 26, ground := Go.Ground.guard }], guard := some (26, false) }) (v := .pointer (some ⟨R, 0, none⟩)) rfl (by kernel_rfl) (by kernel_rfl) (by kernel_rfl) (fun _ _ _ h => h) (by rfl) ?_ r1 ?_
  · (intro wq hSw; go_simp <;> with_reducible rfl)
  try simp only [Act.put, List.setIfInBounds_toArray, List.set_cons_zero, List.set_cons_succ]
  refine take_run (i := 31) (oi := { dst := some 44, op := Go.Op.fieldAddr 39 (Go.Operand.tmp 43) 4, type := 0, pos := "law.go:53", after := #[{ on := 30, ground := Go.Ground.data }, { on := 26, ground := Go.Ground.guard }], guard := some (26, false) }) (v := .pointer (some ⟨R, 4, none⟩)) rfl (by kernel_rfl) (by kernel_rfl) (by kernel_rfl) (fun _ _ _ h => h) (by rfl) ?_ r1 ?_
  · (intro wq hSw; go_simp <;> with_reducible rfl)
  try simp only [Act.put, List.setIfInBounds_toArray, List.set_cons_zero, List.set_cons_succ]
  refine take_run (i := 32) (oi := { dst := some 45, op := Go.Op.load 4 (Go.Operand.tmp 44), type := 4, pos := "law.go:53", after := #[{ on := 31, ground := Go.Ground.data }, { on := 26, ground := Go.Ground.guard }], guard := some (26, false) }) (v := .bool de) rfl (by kernel_rfl) (by kernel_rfl) (by kernel_rfl) (fun _ _ _ h => h) (by rfl) ?_ r1 ?_
  · (intro wq hSw; obtain ⟨s0, s1, s4⟩ := FAC.out wq (BY.out.trans (hSw.mono BY.out.size)); go_simp <;> with_reducible rfl)
  try simp only [Act.put, List.setIfInBounds_toArray, List.set_cons_zero, List.set_cons_succ]
  refine take_call (i := 28) (oi := { dst := some 41, op := Go.Op.call { callee := Go.Callee.value (Go.Operand.func 32), args := #[Go.Operand.tmp 40], argTypes := #[24] }, type := 4, pos := "law.go:53", after := #[{ on := 27, ground := Go.Ground.data }, { on := 26, ground := Go.Ground.chain }, { on := 26, ground := Go.Ground.guard }], guard := some (26, false) }) rfl (by kernel_rfl) (by rfl) 32 _ (by go_simp <;> with_reducible rfl) ?_
  refine (HDe.out _ (B1.out.trans (BY.out.mono B1.out.size))).mono ?_
  rintro e y9 ⟨rfl, rfl⟩
  refine ⟨.bool de, rfl, r1, ?_⟩
  try simp only [Act.put, List.setIfInBounds_toArray, List.set_cons_zero, List.set_cons_succ]
  refine take_run (i := 33) (oi := { dst := some 46, op := Go.Op.binOp Go.BinOp.neq 4 (Go.Operand.tmp 41) (Go.Operand.tmp 45) 4, type := 4, pos := "law.go:53", after := #[{ on := 28, ground := Go.Ground.data }, { on := 32, ground := Go.Ground.data }, { on := 26, ground := Go.Ground.guard }], guard := some (26, false) }) (v := .bool false) rfl (by kernel_rfl) (by kernel_rfl) (by kernel_rfl) (fun _ _ _ h => h) (by rfl) ?_ r1 ?_
  · (intro wq hSw; go_simp <;> with_reducible rfl)
  try simp only [Act.put, List.setIfInBounds_toArray, List.set_cons_zero, List.set_cons_succ]
  refine take_run (i := 34) (oi := { dst := some 47, op := Go.Op.pick (Go.Operand.tmp 39) (Go.Operand.const (Go.Value.bool true)) (Go.Operand.tmp 46), type := 4, pos := "law.go:53", after := #[{ on := 26, ground := Go.Ground.data }, { on := 33, ground := Go.Ground.data }], guard := none }) (v := .bool false) rfl (by kernel_rfl) (by kernel_rfl) (by kernel_rfl) (fun _ _ _ h => h) (by rfl) ?_ r1 ?_
  · (intro wq hSw; go_simp <;> with_reducible rfl)
  try simp only [Act.put, List.setIfInBounds_toArray, List.set_cons_zero, List.set_cons_succ]
  refine wpAnyH_done (by kernel_rfl) ?_ _
  clear r1
  have OY : Hid (y9.ownsRow w.heap.size 5 1 (.slice (some ⟨g1, 0, none⟩) (256 * n) c1) (256 * n) (cellsOf I)) := owns_same O1.out (fun k e => BY.out.block k (O1.out.lt k e).2)
  have B2 : Hid (Below w.heap.size w y9) := B1.out.trans (BY.out.mono B1.out.size)
  clear S1 S2 O1 B1 BY FAC HRI HSz HUn HDe
  go_wp2_with fail
  refine (spoil_row w.heap.size _ _ _ y9 OY.out B2.out.size (by have := HN.out.2; omega)).mono ?_
  rintro e w3 ⟨⟨u, rfl⟩, g3⟩
  have B3 : Hid (Below w.heap.size w w3) := B2.out.grown g3 B2.out.size (fun k e => (OY.out.lt k e).1)
  clear g3 OY B2
  go_wp2_with fail
  go_loopw [6] (fun iv wr => ∃ i : Int, iv = .int .i64 i ∧ Hid (-1 ≤ i ∧ i ≤ (n : Int) + 1) ∧ Hid (Below w.heap.size w wr)) (fun iv _ => ((n : Int) + 1 - intOf iv).toNat)
  case atStart => exact ⟨-1, rfl, ⟨by omega, by omega⟩, B3.out⟩
  case round =>
    clear B3
    obtain ⟨i, rfl, hi, hB⟩ := hrel
    have c0 := (FAC0.out wr hB.out).1
    by_cases hlt : i ≤ (n : Int)
    · have HI2 : Hid (-1 ≤ i ∧ i ≤ (n : Int)) := ⟨hi.out.1, hlt⟩
      have b20 : i ≤ 20 := by have := HN.out.2; omega
      have bm1 : -1 ≤ i := hi.out.1
      by_cases hin : 0 ≤ i ∧ i < (n : Int)
      · obtain ⟨j, rfl⟩ : ∃ j : Nat, i = j := ⟨i.toNat, by omega⟩
        have HJ : Hid (j < n) := by show j < n; omega
        have tr := text_self (textOf (rd j))
        clear hin hi
        go_wp2_with fail
        refine (HRd.out wr j hB.out HJ.out).mono ?_
        rintro e x1 ⟨ga, rfl, oa, ba⟩
        have bw : Below w.heap.size w x1 := hB.out.trans (ba.mono hB.out.size)
        have OA : Hid (x1.ownsRow wr.heap.size 5 1 (.slice (some ⟨ga, 0, none⟩) 256 256) 256 (cellsOf (rd j)) ∧ Below wr.heap.size wr x1) := ⟨oa, ba⟩
        have BW : Hid (Below w.heap.size w x1) := bw
        clear oa ba bw
        go_wp2_with fail
        refine (HRr.out x1 j BW.out HJ.out).mono ?_
        rintro e x2 ⟨gb, rfl, _, ob, bb⟩
        have t1 := run_to_text x2 (some ⟨ga, 0, none⟩) 256 256 (rd j) (Seen.below (seen_owned OA.out.1 (RL.out j HJ.out) (by unfold maxLen; omega)) bb)
        have t2 := run_to_text x2 (some ⟨gb, 0, none⟩) 256 256 (rd j) ob.seen
        have OB : Hid (x2.ownsRow wr.heap.size 5 1 (.slice (some ⟨ga, 0, none⟩) 256 256) 256 (cellsOf (rd j)) ∧ Below wr.heap.size wr x2) := ⟨owns_same OA.out.1 (fun k e => bb.block k (OA.out.1.lt k e).2), OA.out.2.trans (bb.mono OA.out.2.size)⟩
        clear ob bb OA
        go_wp2_with fail
        refine (spoil_row wr.heap.size _ _ _ x2 OB.out.1 OB.out.2.size (by omega)).mono ?_
        rintro e x3 ⟨⟨u, rfl⟩, g3⟩
        have B4 : Hid (Below w.heap.size w x3) := (hB.out.trans (OB.out.2.mono hB.out.size)).grown g3 (hB.out.trans (OB.out.2.mono hB.out.size)).size (fun k e => Nat.le_trans hB.out.size (OB.out.1.lt k e).1)
        clear g3 OB BW t1 t2
        go_wp2
        go_roundw
        case rel => exact ⟨(j : Int) + 1, rfl, ⟨by have := HI2.out; omega, by have := HI2.out; omega⟩, B4.out⟩
        case measure => simp only [intOf]; have := HI2.out; omega
      · have HJ : Hid (¬ (0 ≤ i ∧ i < (n : Int))) := hin
        clear hin hi
        have tt := text_self (textOf [])
        have t1 := tn wr
        go_wp2_with fail
        refine (HNd.out wr i hB.out HJ.out).mono ?_
        rintro e x1 ⟨rfl, rfl⟩
        go_wp2_with fail
        refine (HNr.out x1 i hB.out HJ.out).mono ?_
        rintro e x2 ⟨rfl, rfl⟩
        go_wp2_with fail
        refine (SPN.out x2).mono ?_
        rintro e x3 ⟨⟨u, rfl⟩, g3⟩
        have B4 : Hid (Below w.heap.size w x3) := hB.out.grown g3 hB.out.size (fun k e => by cases e)
        clear g3 t1
        go_wp2
        go_roundw
        case rel => exact ⟨i + 1, rfl, ⟨by have := HI2.out; omega, by have := HI2.out; omega⟩, B4.out⟩
        case measure => simp only [intOf]; have := HI2.out; omega
    · clear hi
      go_wp2
      go_ret
      exact ⟨rfl, hB.out⟩
end Go.Proofs.Ytnpebdnfdbeiaaa
