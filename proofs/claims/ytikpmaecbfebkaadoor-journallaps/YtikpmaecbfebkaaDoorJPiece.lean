/- Package journal: pieceOf. -/
import Derived.Test.YtikpmaecbfebkaaDoorJPlace
namespace Go.Proofs.YtikpmaecbfebkaaDoor
open Go.RowKit
set_option linter.unusedVariables false

/-- A sector is right as a number. -/
def rightP (l : List (BitVec 8)) (s : Nat) : Prop := le ((l.drop 4).take 8) = s ∧ (l.getD 12 0#8).toNat ≤ 3 ∧ 1 ≤ (l.getD 13 0#8).toNat ∧ (l.getD 13 0#8).toNat ≤ 242 ∧ le (l.take 4) = (Crc.more 0#32 (l.drop 4)).toNat
instance (l : List (BitVec 8)) (s : Nat) : Decidable (rightP l s) := by unfold rightP; infer_instance
theorem seen_sub {w : World} {g o k n : Nat} {l : List (BitVec 8)} (h : Seen w (some ⟨g, 0, none⟩) n l) (hk : o + k ≤ n) : Seen w (some ⟨g, o, none⟩) k ((l.drop o).take k) := by
  have hl : l.length = n := h.1.symm
  have h2 := h.2.1
  have e : ((l.drop o).take k).length = k := by simp; omega
  refine ⟨e.symm, by omega, ?_⟩
  by_cases h0 : k = 0
  · exact .inl h0
  · refine .inr ⟨g, o, rfl, fun j hj => ?_⟩
    rw [e] at hj
    rcases h.2.2 with h3 | ⟨b, off, e2, hc⟩
    · omega
    · cases e2
      have := hc (o + j) (by omega)
      rw [Nat.zero_add] at this
      rw [this]
      simp [hj, show o + j < l.length by omega]
theorem seen_tail {w : World} {g o n : Nat} {l : List (BitVec 8)} (h : Seen w (some ⟨g, 0, none⟩) n l) (hk : o ≤ n) : Seen w (some ⟨g, o, none⟩) (n - o) (l.drop o) := by
  have := seen_sub (o := o) (k := n - o) h (by omega)
  rwa [List.take_of_length_le (by simp; have := h.1; omega)] at this
theorem crc_lt (x : Crc.W) : x.toNat < 4294967296 := x.isLt
set_option maxRecDepth 100000 in
set_option maxHeartbeats 3200000 in
theorem pieceOf_any (g : Nat) (l : List (BitVec 8)) (s : Nat) (w : World) (hT : Tabs w) (h : Seen w (some ⟨g, 0, none⟩) 256 l) (hs : s < 9223372036854775808) :
    Calls Tryd.prog 80 #[.slice (some ⟨g, 0, none⟩) 256 256, .int .i64 (s : Int)] w fun e w' => Below w.heap.size w w' ∧ ((rightP l s ∧ e = .returned (.tuple #[.agg #[.int .u8 ((l.getD 12 0#8).toNat : Int), .slice (some ⟨g, 14, none⟩) (l.getD 13 0#8).toNat (l.getD 13 0#8).toNat], .bool true])) ∨ (¬ rightP l s ∧ e = .returned (.tuple #[.agg #[.int .u8 0, .slice none 0 0], .bool false]))) := by
  have B1 : Hid (Below w.heap.size w (w.alloc (.cells #[.int .u8 0, .slice none 0 0] 88))) := (Below.refl _ w).alloc (Nat.le_refl _) _
  have hz := heap_alloc_new w (.cells #[.int .u8 0, .slice none 0 0] 88)
  have hsz : (w.alloc (.cells #[.int .u8 0, .slice none 0 0] 88)).heap.size = w.heap.size + 1 := by simp
  obtain ⟨w1, ew⟩ : ∃ w1, w.alloc (.cells #[.int .u8 0, .slice none 0 0] 88) = w1 := ⟨_, rfl⟩
  rw [ew] at B1 hz hsz
  have EW : Hid (w.alloc (.cells #[.int .u8 0, .slice none 0 0] 88) = w1) := ew
  have HZ : Hid (∀ X, Below w1.heap.size w1 X → X.heap[w.heap.size]? = some (.cells #[.int .u8 0, .slice none 0 0] 88 (0, 0))) := fun X b => by rw [b.block _ (by omega)]; exact hz
  have h1 := h.below B1.out
  have CB : Hid (∀ X, Below w1.drew.heap.size w1.drew X → ∀ j, j < 256 → X.cell? ⟨g, j, none⟩ = some (.int .u8 (V (l.getD j 0#8)))) := fun X b j hj => by
    rcases (h1.below ((Below.refl w1.heap.size w1).drew.trans b)).2.2 with e | ⟨b', off, e, hc⟩
    · omega
    · cases e
      have := hc j (by have := h.1; omega)
      rwa [Nat.zero_add] at this
  have G8 : Hid (∀ X, Below w1.heap.size w1 X → Calls Tryd.prog 83 #[.slice (some ⟨g, 4, none⟩) 8 252] X fun e w' => e = .returned (.int .u64 (le ((l.drop 4).take 8) : Nat)) ∧ w' = X) := fun X b => get_any _ _ _ _ X (seen_sub (h1.below b) (by omega)) (by simp; omega)
  have G4 : Hid (∀ X, Below w1.heap.size w1 X → Calls Tryd.prog 83 #[.slice (some ⟨g, 0, none⟩) 4 256] X fun e w' => e = .returned (.int .u64 (le (l.take 4) : Nat)) ∧ w' = X) := fun X b => get_any _ _ _ _ X ((h1.below b).take 4 (by omega)) (by simp; omega)
  have SM : Hid (∀ X, Below w1.heap.size w1 X → Calls Tryd.prog 71 #[.slice (some ⟨g, 4, none⟩) 252 252] X fun e w' => e = .returned (.int .u32 ((Crc.more 0#32 (l.drop 4)).toNat : Nat)) ∧ ∃ n, w' = X.drewN n) := fun X b => sum_any _ _ _ _ X ((hT.below B1.out hT.size).below b (Nat.le_trans hT.size B1.out.size)) (seen_tail (h1.below b) (by omega))
  have hl8 := le_lt ((l.drop 4).take 8)
  have hl4 := le_lt (l.take 4)
  have l8 : ((l.drop 4).take 8).length = 8 := by simp; have := h.1; omega
  have l4 : (l.take 4).length = 4 := by simp; have := h.1; omega
  rw [l8] at hl8
  rw [l4] at hl4
  have hcs := crc_lt (Crc.more 0#32 (l.drop 4))
  have hmk := (l.getD 12 0#8).isLt
  have hln := (l.getD 13 0#8).isLt
  have RP : Hid (rightP l s ↔ le ((l.drop 4).take 8) = s ∧ (l.getD 12 0#8).toNat ≤ 3 ∧ 1 ≤ (l.getD 13 0#8).toNat ∧ (l.getD 13 0#8).toNat ≤ 242 ∧ le (l.take 4) = (Crc.more 0#32 (l.drop 4)).toNat) := Iff.rfl
  have E12 : Hid (V (l.getD 12 0#8) = ((l.getD 12 0#8).toNat : Int)) := rfl
  have E13 : Hid (V (l.getD 13 0#8) = ((l.getD 13 0#8).toNat : Int)) := rfl
  obtain ⟨n8, e8⟩ : ∃ n, le ((l.drop 4).take 8) = n := ⟨_, rfl⟩
  obtain ⟨n4, e4⟩ : ∃ n, le (l.take 4) = n := ⟨_, rfl⟩
  obtain ⟨cs, ecs⟩ : ∃ n, (Crc.more 0#32 (l.drop 4)).toNat = n := ⟨_, rfl⟩
  obtain ⟨mk, emk⟩ : ∃ n, (l.getD 12 0#8).toNat = n := ⟨_, rfl⟩
  obtain ⟨ln, eln⟩ : ∃ n, (l.getD 13 0#8).toNat = n := ⟨_, rfl⟩
  rw [e8] at G8 hl8 RP
  rw [e4] at G4 hl4 RP
  rw [ecs] at SM hcs RP
  rw [emk] at hmk RP E12
  rw [eln] at hln RP E13
  rw [emk, eln]
  have ws : IntKind.u64.wrap (s : Int) = (s : Int) := by rw [IntKind.wrap_u64]; omega
  have wc : IntKind.u64.wrap (cs : Int) = (cs : Int) := by rw [IntKind.wrap_u64]; omega
  have wl : IntKind.i64.wrap (ln : Int) = (ln : Int) := by rw [IntKind.wrap_i64]; omega
  clear h h1 hT ew hz hsz e8 e4 ecs emk eln l8 l4
  go_enter Tryd.func80, Tryd.ntmps80
  go_wp2_with fail
  rw [EW.out]
  refine wp_region_held_drew (S := fun X => Below w1.drew.heap.size w1.drew X) (by kernel_rfl) (Below.refl _ _) (fun hHeld => ?_)
  refine take_run (i := 0) (oi := { dst := some 9, op := Go.Op.move (Go.Operand.tmp 0), type := 22, pos := "sector.go:48", after := #[], guard := none }) (v := .slice (some ⟨g, 0, none⟩) 256 256) rfl (by kernel_rfl) (by kernel_rfl) (by kernel_rfl) (fun _ _ _ h => h) (by rfl) ?_ hHeld ?_
  · (intro wq hSw; go_simp <;> with_reducible rfl)
  try simp only [Act.put, List.setIfInBounds_toArray, List.set_cons_zero, List.set_cons_succ]
  refine take_run (i := 1) (oi := { dst := some 10, op := Go.Op.indexAddr 22 (Go.Operand.tmp 9) (Go.Operand.const (Go.Value.int Go.IntKind.i64 12)), type := 0, pos := "sector.go:48", after := #[{ on := 0, ground := Go.Ground.data }], guard := none }) (v := .pointer (some ⟨g, 12, none⟩)) rfl (by kernel_rfl) (by kernel_rfl) (by kernel_rfl) (fun _ _ _ h => h) (by rfl) ?_ hHeld ?_
  · (intro wq hSw; go_simp <;> with_reducible rfl)
  try simp only [Act.put, List.setIfInBounds_toArray, List.set_cons_zero, List.set_cons_succ]
  refine take_run (i := 2) (oi := { dst := some 11, op := Go.Op.load 5 (Go.Operand.tmp 10), type := 5, pos := "sector.go:48", after := #[{ on := 1, ground := Go.Ground.data }], guard := none }) (v := .int .u8 (mk : Int)) rfl (by kernel_rfl) (by kernel_rfl) (by kernel_rfl) (fun _ _ _ h => h) (by rfl) ?_ hHeld ?_
  · (intro wq hSw; have k1 := CB.out wq hSw 12 (by omega); have k2 := CB.out wq hSw 13 (by omega); rw [E12.out] at k1; rw [E13.out] at k2; go_simp <;> with_reducible rfl)
  try simp only [Act.put, List.setIfInBounds_toArray, List.set_cons_zero, List.set_cons_succ]
  refine take_run (i := 3) (oi := { dst := some 12, op := Go.Op.move (Go.Operand.tmp 0), type := 22, pos := "sector.go:48", after := #[{ on := 7, ground := Go.Ground.gcOnly Go.Departure.lateStores }], guard := none }) (v := .slice (some ⟨g, 0, none⟩) 256 256) rfl (by kernel_rfl) (by kernel_rfl) (by kernel_rfl) (fun _ _ _ h => h) (by rfl) ?_ hHeld ?_
  · (intro wq hSw; go_simp <;> with_reducible rfl)
  try simp only [Act.put, List.setIfInBounds_toArray, List.set_cons_zero, List.set_cons_succ]
  refine take_run (i := 4) (oi := { dst := some 13, op := Go.Op.indexAddr 22 (Go.Operand.tmp 12) (Go.Operand.const (Go.Value.int Go.IntKind.i64 13)), type := 0, pos := "sector.go:48", after := #[{ on := 3, ground := Go.Ground.data }, { on := 7, ground := Go.Ground.gcOnly Go.Departure.lateStores }], guard := none }) (v := .pointer (some ⟨g, 13, none⟩)) rfl (by kernel_rfl) (by kernel_rfl) (by kernel_rfl) (fun _ _ _ h => h) (by rfl) ?_ hHeld ?_
  · (intro wq hSw; go_simp <;> with_reducible rfl)
  try simp only [Act.put, List.setIfInBounds_toArray, List.set_cons_zero, List.set_cons_succ]
  refine take_run (i := 5) (oi := { dst := some 14, op := Go.Op.load 5 (Go.Operand.tmp 13), type := 5, pos := "sector.go:48", after := #[{ on := 4, ground := Go.Ground.data }, { on := 7, ground := Go.Ground.gcOnly Go.Departure.lateStores }], guard := none }) (v := .int .u8 (ln : Int)) rfl (by kernel_rfl) (by kernel_rfl) (by kernel_rfl) (fun _ _ _ h => h) (by rfl) ?_ hHeld ?_
  · (intro wq hSw; have k1 := CB.out wq hSw 12 (by omega); have k2 := CB.out wq hSw 13 (by omega); rw [E12.out] at k1; rw [E13.out] at k2; go_simp <;> with_reducible rfl)
  try simp only [Act.put, List.setIfInBounds_toArray, List.set_cons_zero, List.set_cons_succ]
  refine take_run (i := 6) (oi := { dst := some 15, op := Go.Op.convert 5 3 (Go.Operand.tmp 14), type := 3, pos := "sector.go:48", after := #[{ on := 5, ground := Go.Ground.data }, { on := 7, ground := Go.Ground.gcOnly Go.Departure.lateStores }], guard := none }) (v := .int .i64 (ln : Int)) rfl (by kernel_rfl) (by kernel_rfl) (by kernel_rfl) (fun _ _ _ h => h) (by rfl) ?_ hHeld ?_
  · (intro wq hSw; go_simp <;> with_reducible rfl)
  try simp only [Act.put, List.setIfInBounds_toArray, List.set_cons_zero, List.set_cons_succ]
  refine take_run (i := 7) (oi := { dst := some 6, op := Go.Op.assign (Go.Operand.tmp 11), type := 5, pos := "sector.go:48", after := #[{ on := 2, ground := Go.Ground.data }, { on := 0, ground := Go.Ground.phase }, { on := 1, ground := Go.Ground.phase }, { on := 2, ground := Go.Ground.phase }, { on := 3, ground := Go.Ground.textOnly Go.Departure.lateStores }, { on := 4, ground := Go.Ground.textOnly Go.Departure.lateStores }, { on := 5, ground := Go.Ground.textOnly Go.Departure.lateStores }, { on := 6, ground := Go.Ground.textOnly Go.Departure.lateStores }], guard := none }) (v := .int .u8 (mk : Int)) rfl (by kernel_rfl) (by kernel_rfl) (by kernel_rfl) (fun _ _ _ h => h) (by rfl) ?_ hHeld ?_
  · (intro wq hSw; go_simp <;> with_reducible rfl)
  try simp only [Act.put, List.setIfInBounds_toArray, List.set_cons_zero, List.set_cons_succ]
  refine take_run (i := 8) (oi := { dst := some 7, op := Go.Op.assign (Go.Operand.tmp 15), type := 3, pos := "sector.go:48", after := #[{ on := 6, ground := Go.Ground.data }, { on := 7, ground := Go.Ground.chain }, { on := 0, ground := Go.Ground.phase }, { on := 1, ground := Go.Ground.phase }, { on := 2, ground := Go.Ground.phase }, { on := 3, ground := Go.Ground.phase }, { on := 4, ground := Go.Ground.phase }, { on := 5, ground := Go.Ground.phase }, { on := 6, ground := Go.Ground.phase }, { on := 7, ground := Go.Ground.phase }], guard := none }) (v := .int .i64 (ln : Int)) rfl (by kernel_rfl) (by kernel_rfl) (by kernel_rfl) (fun _ _ _ h => h) (by rfl) ?_ hHeld ?_
  · (intro wq hSw; go_simp <;> with_reducible rfl)
  try simp only [Act.put, List.setIfInBounds_toArray, List.set_cons_zero, List.set_cons_succ]
  clear hHeld
  refine wpAnyH_done (by kernel_rfl) ?_ _
  clear CB E12 E13
  go_wp2_with fail
  refine (G8.out w1.drew (Below.refl _ w1).drew).mono ?_
  rintro e w2 ⟨rfl, rfl⟩
  clear G8
  by_cases q1 : n8 = s
  · subst q1
    by_cases q2 : mk ≤ 3
    · have q2' : ¬ (3 : Int) < (mk : Int) := by omega
      by_cases q3 : 1 ≤ ln
      · have q3' : ¬ (ln : Int) < 1 := by omega
        by_cases q4 : ln ≤ 242
        · have q4' : ¬ (242 : Int) < (ln : Int) := by omega
          have RQ : Hid (rightP l n8 ↔ n4 = cs) := by
            have := RP.out
            show _ ↔ _
            rw [this]
            exact ⟨fun h => h.2.2.2.2, fun h => ⟨rfl, q2, q3, q4, h⟩⟩
          have wl2 : IntKind.i64.wrap (14 + (ln : Int)) = 14 + (ln : Int) := by rw [IntKind.wrap_i64]; omega
          have t14 : (14 + (ln : Int)).toNat = 14 + ln := by omega
          have u1 : (14 : Int) ≤ 14 + (ln : Int) := by omega
          have u2 : 14 + (ln : Int) ≤ 256 := by omega
          have u3 : ¬ (14 + ln - 14 = 0) := by omega
          have u4 : 14 + ln - 14 = ln := by omega
          have u5 : (0 : Int) ≤ 14 + (ln : Int) := by omega
          have u6 : ¬ (14 + ln = 14) := by omega
          have LB : Hid (1 ≤ ln ∧ ln ≤ 242) := ⟨q3, q4⟩
          clear RP q2 q3 q4
          go_wp2_with fail
          by_cases q5 : n4 = cs
          · have RT : Hid (rightP l n8) := RQ.out.2 q5
            subst q5
            clear RQ
            refine wp_region_held_drew (S := fun X => Below w1.drew.drew.heap.size w1.drew.drew X) (by kernel_rfl) (Below.refl _ _) (fun hHeld => ?_)
            refine take_run (i := 0) (oi := { dst := some 37, op := Go.Op.move (Go.Operand.tmp 0), type := 22, pos := "sector.go:54", after := #[], guard := none }) (v := .slice (some ⟨g, 0, none⟩) 256 256) rfl (by kernel_rfl) (by kernel_rfl) (by kernel_rfl) (fun _ _ _ h => h) (by rfl) ?_ hHeld ?_
            · (intro wq hSw; go_simp <;> with_reducible rfl)
            try simp only [Act.put, List.setIfInBounds_toArray, List.set_cons_zero, List.set_cons_succ]
            refine take_run (i := 1) (oi := { dst := some 38, op := Go.Op.slice 22 (Go.Operand.tmp 37) none (some (Go.Operand.const (Go.Value.int Go.IntKind.i64 4))) none, type := 22, pos := "sector.go:54", after := #[{ on := 0, ground := Go.Ground.data }], guard := none }) (v := .slice (some ⟨g, 0, none⟩) 4 256) rfl (by kernel_rfl) (by kernel_rfl) (by kernel_rfl) (fun _ _ _ h => h) (by rfl) ?_ hHeld ?_
            · (intro wq hSw; go_simp <;> with_reducible rfl)
            try simp only [Act.put, List.setIfInBounds_toArray, List.set_cons_zero, List.set_cons_succ]
            refine take_run (i := 3) (oi := { dst := some 40, op := Go.Op.move (Go.Operand.tmp 0), type := 22, pos := "sector.go:54", after := #[], guard := none }) (v := .slice (some ⟨g, 0, none⟩) 256 256) rfl (by kernel_rfl) (by kernel_rfl) (by kernel_rfl) (fun _ _ _ h => h) (by rfl) ?_ hHeld ?_
            · (intro wq hSw; go_simp <;> with_reducible rfl)
            try simp only [Act.put, List.setIfInBounds_toArray, List.set_cons_zero, List.set_cons_succ]
            refine take_run (i := 4) (oi := { dst := some 41, op := Go.Op.slice 22 (Go.Operand.tmp 40) (some (Go.Operand.const (Go.Value.int Go.IntKind.i64 4))) none none, type := 22, pos := "sector.go:54", after := #[{ on := 3, ground := Go.Ground.data }], guard := none }) (v := .slice (some ⟨g, 4, none⟩) 252 252) rfl (by kernel_rfl) (by kernel_rfl) (by kernel_rfl) (fun _ _ _ h => h) (by rfl) ?_ hHeld ?_
            · (intro wq hSw; go_simp <;> with_reducible rfl)
            try simp only [Act.put, List.setIfInBounds_toArray, List.set_cons_zero, List.set_cons_succ]
            refine take_call (i := 2) (oi := { dst := some 39, op := Go.Op.call { callee := Go.Callee.value (Go.Operand.func 83), args := #[Go.Operand.tmp 38], argTypes := #[22] }, type := 103, pos := "sector.go:54", after := #[{ on := 1, ground := Go.Ground.data }], guard := none }) rfl (by kernel_rfl) (by rfl) 83 _ (by go_simp <;> with_reducible rfl) ?_
            refine (G4.out w1.drew.drew (Below.refl _ w1).drew.drew).mono ?_
            rintro e y1 ⟨rfl, rfl⟩
            refine ⟨.int .u64 (n4 : Nat), rfl, hHeld, ?_⟩
            try simp only [Act.put, List.setIfInBounds_toArray, List.set_cons_zero, List.set_cons_succ]
            refine take_call (i := 5) (oi := { dst := some 42, op := Go.Op.call { callee := Go.Callee.value (Go.Operand.func 71), args := #[Go.Operand.tmp 41], argTypes := #[22] }, type := 104, pos := "sector.go:54", after := #[{ on := 4, ground := Go.Ground.data }, { on := 2, ground := Go.Ground.chain }], guard := none }) rfl (by kernel_rfl) (by rfl) 71 _ (by go_simp <;> with_reducible rfl) ?_
            refine (SM.out w1.drew.drew (Below.refl _ w1).drew.drew).mono ?_
            rintro e y1 ⟨rfl, nq, rfl⟩
            have hH2 : Below w1.drew.drew.heap.size w1.drew.drew (w1.drew.drew.drewN nq) := below_drewN _ nq
            refine ⟨.int .u32 (n4 : Nat), rfl, hH2, ?_⟩
            try simp only [Act.put, List.setIfInBounds_toArray, List.set_cons_zero, List.set_cons_succ]
            refine take_run (i := 6) (oi := { dst := some 43, op := Go.Op.convert 104 103 (Go.Operand.tmp 42), type := 103, pos := "sector.go:54", after := #[{ on := 5, ground := Go.Ground.data }], guard := none }) (v := .int .u64 (n4 : Nat)) rfl (by kernel_rfl) (by kernel_rfl) (by kernel_rfl) (fun _ _ _ h => h) (by rfl) ?_ hH2 ?_
            · (intro wq hSw; go_simp <;> with_reducible rfl)
            try simp only [Act.put, List.setIfInBounds_toArray, List.set_cons_zero, List.set_cons_succ]
            refine take_run (i := 7) (oi := { dst := some 44, op := Go.Op.binOp Go.BinOp.neq 103 (Go.Operand.tmp 39) (Go.Operand.tmp 43) 103, type := 4, pos := "sector.go:54", after := #[{ on := 2, ground := Go.Ground.data }, { on := 6, ground := Go.Ground.data }], guard := none }) (v := .bool false) rfl (by kernel_rfl) (by kernel_rfl) (by kernel_rfl) (fun _ _ _ h => h) (by rfl) ?_ hH2 ?_
            · (intro wq hSw; go_simp <;> with_reducible rfl)
            try simp only [Act.put, List.setIfInBounds_toArray, List.set_cons_zero, List.set_cons_succ]
            refine take_run (i := 8) (oi := { dst := some 36, op := Go.Op.assign (Go.Operand.tmp 44), type := 4, pos := "sector.go:54", after := #[{ on := 7, ground := Go.Ground.data }, { on := 5, ground := Go.Ground.chain }], guard := none }) (v := .bool false) rfl (by kernel_rfl) (by kernel_rfl) (by kernel_rfl) (fun _ _ _ h => h) (by rfl) ?_ hH2 ?_
            · (intro wq hSw; go_simp <;> with_reducible rfl)
            try simp only [Act.put, List.setIfInBounds_toArray, List.set_cons_zero, List.set_cons_succ]
            clear hHeld hH2
            refine wpAnyH_done (by kernel_rfl) ?_ _
            go_wp2_with (first | (refine wpList_store_row rfl 88 (.tmp 4) (.tmp 53) rfl w.heap.size #[.int .u8 (mk : Int), .slice (some ⟨g, 14, none⟩) ln ln] rfl rfl 88 _ (HZ.out _ (below_drewN w1 _)) (by kernel_rfl) rfl (by simp [Value.oneCell']) ?_))
            exact bodyPost_ret (results_row rfl _ _ w.heap.size 88 _ _ _ rfl (setRow_heap _ _ _ _ _ _ (HZ.out _ (below_drewN w1 _))) Tryd.underlying88 rfl (by kernel_rfl)) rfl ⟨row_below (B1.out.trans ((below_drewN w1 _).mono B1.out.size)) (Nat.le_refl _), .inl ⟨RT.out, rfl⟩⟩
          · have RF : Hid (¬ rightP l n8) := fun h => q5 (RQ.out.1 h)
            have q5' : ((n4 : Int) == (cs : Int)) = false := by rw [beq_eq_false_iff_ne]; omega
            have q6 : ¬ (n4 : Int) = (cs : Int) := by omega
            clear RQ
            refine wp_region_held_drew (S := fun X => Below w1.drew.drew.heap.size w1.drew.drew X) (by kernel_rfl) (Below.refl _ _) (fun hHeld => ?_)
            refine take_run (i := 0) (oi := { dst := some 37, op := Go.Op.move (Go.Operand.tmp 0), type := 22, pos := "sector.go:54", after := #[], guard := none }) (v := .slice (some ⟨g, 0, none⟩) 256 256) rfl (by kernel_rfl) (by kernel_rfl) (by kernel_rfl) (fun _ _ _ h => h) (by rfl) ?_ hHeld ?_
            · (intro wq hSw; go_simp <;> with_reducible rfl)
            try simp only [Act.put, List.setIfInBounds_toArray, List.set_cons_zero, List.set_cons_succ]
            refine take_run (i := 1) (oi := { dst := some 38, op := Go.Op.slice 22 (Go.Operand.tmp 37) none (some (Go.Operand.const (Go.Value.int Go.IntKind.i64 4))) none, type := 22, pos := "sector.go:54", after := #[{ on := 0, ground := Go.Ground.data }], guard := none }) (v := .slice (some ⟨g, 0, none⟩) 4 256) rfl (by kernel_rfl) (by kernel_rfl) (by kernel_rfl) (fun _ _ _ h => h) (by rfl) ?_ hHeld ?_
            · (intro wq hSw; go_simp <;> with_reducible rfl)
            try simp only [Act.put, List.setIfInBounds_toArray, List.set_cons_zero, List.set_cons_succ]
            refine take_run (i := 3) (oi := { dst := some 40, op := Go.Op.move (Go.Operand.tmp 0), type := 22, pos := "sector.go:54", after := #[], guard := none }) (v := .slice (some ⟨g, 0, none⟩) 256 256) rfl (by kernel_rfl) (by kernel_rfl) (by kernel_rfl) (fun _ _ _ h => h) (by rfl) ?_ hHeld ?_
            · (intro wq hSw; go_simp <;> with_reducible rfl)
            try simp only [Act.put, List.setIfInBounds_toArray, List.set_cons_zero, List.set_cons_succ]
            refine take_run (i := 4) (oi := { dst := some 41, op := Go.Op.slice 22 (Go.Operand.tmp 40) (some (Go.Operand.const (Go.Value.int Go.IntKind.i64 4))) none none, type := 22, pos := "sector.go:54", after := #[{ on := 3, ground := Go.Ground.data }], guard := none }) (v := .slice (some ⟨g, 4, none⟩) 252 252) rfl (by kernel_rfl) (by kernel_rfl) (by kernel_rfl) (fun _ _ _ h => h) (by rfl) ?_ hHeld ?_
            · (intro wq hSw; go_simp <;> with_reducible rfl)
            try simp only [Act.put, List.setIfInBounds_toArray, List.set_cons_zero, List.set_cons_succ]
            refine take_call (i := 2) (oi := { dst := some 39, op := Go.Op.call { callee := Go.Callee.value (Go.Operand.func 83), args := #[Go.Operand.tmp 38], argTypes := #[22] }, type := 103, pos := "sector.go:54", after := #[{ on := 1, ground := Go.Ground.data }], guard := none }) rfl (by kernel_rfl) (by rfl) 83 _ (by go_simp <;> with_reducible rfl) ?_
            refine (G4.out w1.drew.drew (Below.refl _ w1).drew.drew).mono ?_
            rintro e y1 ⟨rfl, rfl⟩
            refine ⟨.int .u64 (n4 : Nat), rfl, hHeld, ?_⟩
            try simp only [Act.put, List.setIfInBounds_toArray, List.set_cons_zero, List.set_cons_succ]
            refine take_call (i := 5) (oi := { dst := some 42, op := Go.Op.call { callee := Go.Callee.value (Go.Operand.func 71), args := #[Go.Operand.tmp 41], argTypes := #[22] }, type := 104, pos := "sector.go:54", after := #[{ on := 4, ground := Go.Ground.data }, { on := 2, ground := Go.Ground.chain }], guard := none }) rfl (by kernel_rfl) (by rfl) 71 _ (by go_simp <;> with_reducible rfl) ?_
            refine (SM.out w1.drew.drew (Below.refl _ w1).drew.drew).mono ?_
            rintro e y1 ⟨rfl, nq, rfl⟩
            have hH2 : Below w1.drew.drew.heap.size w1.drew.drew (w1.drew.drew.drewN nq) := below_drewN _ nq
            refine ⟨.int .u32 (cs : Nat), rfl, hH2, ?_⟩
            try simp only [Act.put, List.setIfInBounds_toArray, List.set_cons_zero, List.set_cons_succ]
            refine take_run (i := 6) (oi := { dst := some 43, op := Go.Op.convert 104 103 (Go.Operand.tmp 42), type := 103, pos := "sector.go:54", after := #[{ on := 5, ground := Go.Ground.data }], guard := none }) (v := .int .u64 (cs : Nat)) rfl (by kernel_rfl) (by kernel_rfl) (by kernel_rfl) (fun _ _ _ h => h) (by rfl) ?_ hH2 ?_
            · (intro wq hSw; go_simp <;> with_reducible rfl)
            try simp only [Act.put, List.setIfInBounds_toArray, List.set_cons_zero, List.set_cons_succ]
            refine take_run (i := 7) (oi := { dst := some 44, op := Go.Op.binOp Go.BinOp.neq 103 (Go.Operand.tmp 39) (Go.Operand.tmp 43) 103, type := 4, pos := "sector.go:54", after := #[{ on := 2, ground := Go.Ground.data }, { on := 6, ground := Go.Ground.data }], guard := none }) (v := .bool true) rfl (by kernel_rfl) (by kernel_rfl) (by kernel_rfl) (fun _ _ _ h => h) (by rfl) ?_ hH2 ?_
            · (intro wq hSw; go_simp <;> with_reducible rfl)
            try simp only [Act.put, List.setIfInBounds_toArray, List.set_cons_zero, List.set_cons_succ]
            refine take_run (i := 8) (oi := { dst := some 36, op := Go.Op.assign (Go.Operand.tmp 44), type := 4, pos := "sector.go:54", after := #[{ on := 7, ground := Go.Ground.data }, { on := 5, ground := Go.Ground.chain }], guard := none }) (v := .bool true) rfl (by kernel_rfl) (by kernel_rfl) (by kernel_rfl) (fun _ _ _ h => h) (by rfl) ?_ hH2 ?_
            · (intro wq hSw; go_simp <;> with_reducible rfl)
            try simp only [Act.put, List.setIfInBounds_toArray, List.set_cons_zero, List.set_cons_succ]
            clear hHeld hH2
            refine wpAnyH_done (by kernel_rfl) ?_ _
            go_wp2_with (first | (refine wpList_store_row rfl 88 (.tmp 4) (.tmp 45) rfl w.heap.size #[.int .u8 0, .slice none 0 0] rfl rfl 88 _ (HZ.out _ (below_drewN w1 _)) (by kernel_rfl) rfl (by simp [Value.oneCell']) ?_))
            exact bodyPost_ret (results_row rfl _ _ w.heap.size 88 _ _ _ rfl (setRow_heap _ _ _ _ _ _ (HZ.out _ (below_drewN w1 _))) Tryd.underlying88 rfl (by kernel_rfl)) rfl ⟨row_below (B1.out.trans ((below_drewN w1 _).mono B1.out.size)) (Nat.le_refl _), .inr ⟨RF.out, rfl⟩⟩
        · have q4' : (242 : Int) < (ln : Int) := by omega
          have RF : Hid (¬ rightP l n8) := fun h => q4 (RP.out.1 h).2.2.2.1
          clear RP q2 q3 q4
          go_wp2_with (first | (refine wpList_store_row rfl 88 (.tmp 4) (.tmp 35) rfl w.heap.size #[.int .u8 0, .slice none 0 0] rfl rfl 88 _ (HZ.out w1.drew ((Below.refl _ w1).drew)) (by kernel_rfl) rfl (by simp [Value.oneCell']) ?_))
          exact bodyPost_ret (results_row rfl _ _ w.heap.size 88 _ _ _ rfl (setRow_heap _ _ _ _ _ _ (HZ.out w1.drew ((Below.refl _ w1).drew))) Tryd.underlying88 rfl (by kernel_rfl)) rfl ⟨row_below (B1.out.trans (((Below.refl _ w1).drew).mono B1.out.size)) (Nat.le_refl _), .inr ⟨RF.out, rfl⟩⟩
      · have q3' : (ln : Int) < 1 := by omega
        have RF : Hid (¬ rightP l n8) := fun h => q3 (RP.out.1 h).2.2.1
        clear RP q2 q3
        go_wp2_with (first | (refine wpList_store_row rfl 88 (.tmp 4) (.tmp 35) rfl w.heap.size #[.int .u8 0, .slice none 0 0] rfl rfl 88 _ (HZ.out w1.drew ((Below.refl _ w1).drew)) (by kernel_rfl) rfl (by simp [Value.oneCell']) ?_))
        exact bodyPost_ret (results_row rfl _ _ w.heap.size 88 _ _ _ rfl (setRow_heap _ _ _ _ _ _ (HZ.out w1.drew ((Below.refl _ w1).drew))) Tryd.underlying88 rfl (by kernel_rfl)) rfl ⟨row_below (B1.out.trans (((Below.refl _ w1).drew).mono B1.out.size)) (Nat.le_refl _), .inr ⟨RF.out, rfl⟩⟩
    · have q2' : (3 : Int) < (mk : Int) := by omega
      have RF : Hid (¬ rightP l n8) := fun h => q2 (RP.out.1 h).2.1
      clear RP q2
      go_wp2_with (first | (refine wpList_store_row rfl 88 (.tmp 4) (.tmp 35) rfl w.heap.size #[.int .u8 0, .slice none 0 0] rfl rfl 88 _ (HZ.out w1.drew ((Below.refl _ w1).drew)) (by kernel_rfl) rfl (by simp [Value.oneCell']) ?_))
      exact bodyPost_ret (results_row rfl _ _ w.heap.size 88 _ _ _ rfl (setRow_heap _ _ _ _ _ _ (HZ.out w1.drew ((Below.refl _ w1).drew))) Tryd.underlying88 rfl (by kernel_rfl)) rfl ⟨row_below (B1.out.trans (((Below.refl _ w1).drew).mono B1.out.size)) (Nat.le_refl _), .inr ⟨RF.out, rfl⟩⟩
  · have q1' : ((n8 : Int) == (s : Int)) = false := by rw [beq_eq_false_iff_ne]; omega
    have RF : Hid (¬ rightP l s) := fun h => q1 (RP.out.1 h).1
    clear RP q1
    go_wp2_with (first | (refine wpList_store_row rfl 88 (.tmp 4) (.tmp 23) rfl w.heap.size #[.int .u8 0, .slice none 0 0] rfl rfl 88 _ (HZ.out w1.drew ((Below.refl _ w1).drew)) (by kernel_rfl) rfl (by simp [Value.oneCell']) ?_))
    exact bodyPost_ret (results_row rfl _ _ w.heap.size 88 _ _ _ rfl (setRow_heap _ _ _ _ _ _ (HZ.out w1.drew ((Below.refl _ w1).drew))) Tryd.underlying88 rfl (by kernel_rfl)) rfl ⟨row_below (B1.out.trans (((Below.refl _ w1).drew).mono B1.out.size)) (Nat.le_refl _), .inr ⟨RF.out, rfl⟩⟩
end Go.Proofs.YtikpmaecbfebkaaDoor
