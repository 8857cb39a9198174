/- Package journal: wipe, where nothing stands that is right. -/
import Derived.Test.YtikpmaecbfebkaaDoorJRec
namespace Go.Proofs.YtikpmaecbfebkaaDoor
open Go.RowKit
set_option linter.unusedVariables false

set_option maxRecDepth 100000 in
set_option maxHeartbeats 3200000 in
theorem wipe_clean (m : DM) (n : Nat) (d : DS) (J fr sz st nx : Nat) (dead : Bool) (w : World) (hT : Tabs w) (hd : Dsk w m n d) (hj : JAt w J m.D fr sz st nx dead) (h1 : 1 ≤ nx) (h2 : nx ≤ 4611686018427380000) (hz : 1 ≤ sz) (hs : fr + sz ≤ n) (hno : ∀ s, nx ≤ s → s < nx + sz → ¬ rightP (atS d fr sz s) s) :
    Calls Tryd.prog 48 #[.pointer (some ⟨J, 0, none⟩)] w fun e w' => e = .returned (.int .i64 0) ∧ Below w.heap.size w w' := by
  have hn := hd.ok.n2
  have HB : Hid (1 ≤ nx ∧ nx ≤ 4611686018427380000 ∧ 1 ≤ sz ∧ fr + sz ≤ n ∧ n ≤ 4096) := ⟨h1, h2, hz, hs, hn⟩
  have HT : Hid (Tabs w) := hT
  have HD : Hid (Dsk w m n d) := hd
  have HJ : Hid (JAt w J m.D fr sz st nx dead) := hj
  have HNo : Hid (∀ s, nx ≤ s → s < nx + sz → ¬ rightP (atS d fr sz s) s) := hno
  have c4 := hj.cells.2.2.2.2.1
  clear hT hd hj h1 h2 hz hs hn hno
  go_enter Tryd.func48, Tryd.ntmps48
  go_wp2_with fail
  go_loopw [3, 4] (fun wv sv wr => ∃ s : Nat, wv = .bool false ∧ sv = .int .i64 (s : Int) ∧ Hid (nx ≤ s ∧ s ≤ nx + sz) ∧ Hid (Below w.heap.size w wr)) (fun _ sv _ => (nx + sz) - (intOf sv).toNat)
  case atStart => exact ⟨nx, rfl, rfl, ⟨Nat.le_refl _, by omega⟩, Below.refl _ w⟩
  case round =>
    obtain ⟨s, rfl, rfl, hk, hB⟩ := hrel
    have hJ := (HJ.out.below hB.out)
    have CC : Hid (wr.drew.cell? ⟨J, 4, none⟩ = some (.int .i64 (nx : Int)) ∧ wr.drew.cell? ⟨J, 2, none⟩ = some (.int .i64 (sz : Int))) := ⟨hJ.cells.2.2.2.2.1, hJ.cells.2.2.1⟩
    have wsz : IntKind.i64.wrap ((nx : Int) + (sz : Int)) = (nx : Int) + (sz : Int) := by rw [IntKind.wrap_i64]; have := HB.out; omega
    by_cases hlt : s < nx + sz
    · have g1 : (s : Int) < (nx : Int) + (sz : Int) := by omega
      have HPc := piece_any m n d J fr sz st nx dead s wr.drew ((HT.out.below hB.out HT.out.size).below (Below.refl _ wr).drew (Nat.le_trans HT.out.size hB.out.size)) ((HD.out.below hB.out).below (Below.refl _ wr).drew) (hJ.below (Below.refl _ wr).drew) (by have := HB.out; have := hk.out; omega) (by have := HB.out; omega) HB.out.2.2.1 HB.out.2.2.2.1
      have hno := HNo.out s hk.out.1 hlt
      have sb : (s : Int) < 4611686018427387904 := by have := HB.out; omega
      have HLT : Hid (s < nx + sz ∧ nx ≤ s) := ⟨hlt, hk.out.1⟩
      have WK : Hid ((s : Int) + 1 = ((s + 1 : Nat) : Int)) := by show (s : Int) + 1 = ((s + 1 : Nat) : Int); omega
      have HN1 : Hid (¬ rightP (atS d fr sz s) s) := hno
      clear hlt hk hno hJ c4
      go_wp2_with fail
      refine wp_region_held_drew (S := fun X => X.cell? ⟨J, 4, none⟩ = some (.int .i64 (nx : Int)) ∧ X.cell? ⟨J, 2, none⟩ = some (.int .i64 (sz : Int))) (by kernel_rfl) CC.out (fun hHeld => ?_)
      refine take_run (i := 0) (oi := { dst := some 12, op := Go.Op.move (Go.Operand.tmp 4), type := 2, pos := "journal.go:88", after := #[], guard := none }) (v := .int .i64 (s : Int)) rfl (by kernel_rfl) (by kernel_rfl) (by kernel_rfl) (fun _ _ _ h => h) (by rfl) ?_ hHeld ?_
      · (intro wq hSw; go_simp <;> with_reducible rfl)
      try simp only [Act.put, List.setIfInBounds_toArray, List.set_cons_zero, List.set_cons_succ]
      refine take_run (i := 1) (oi := { dst := some 13, op := Go.Op.move (Go.Operand.tmp 0), type := 37, pos := "journal.go:88", after := #[], guard := none }) (v := .pointer (some ⟨J, 0, none⟩)) rfl (by kernel_rfl) (by kernel_rfl) (by kernel_rfl) (fun _ _ _ h => h) (by rfl) ?_ hHeld ?_
      · (intro wq hSw; go_simp <;> with_reducible rfl)
      try simp only [Act.put, List.setIfInBounds_toArray, List.set_cons_zero, List.set_cons_succ]
      refine take_run (i := 2) (oi := { dst := some 14, op := Go.Op.nilCheck (Go.Operand.tmp 13), type := 0, pos := "journal.go:88", after := #[{ on := 1, ground := Go.Ground.data }], guard := none }) (v := .pointer (some ⟨J, 0, none⟩)) rfl (by kernel_rfl) (by kernel_rfl) (by kernel_rfl) (fun _ _ _ h => h) (by rfl) ?_ hHeld ?_
      · (intro wq hSw; go_simp <;> with_reducible rfl)
      try simp only [Act.put, List.setIfInBounds_toArray, List.set_cons_zero, List.set_cons_succ]
      refine take_run (i := 3) (oi := { dst := some 15, op := Go.Op.fieldAddr 80 (Go.Operand.tmp 14) 4, type := 0, pos := "journal.go:88", after := #[{ on := 2, ground := Go.Ground.data }], guard := none }) (v := .pointer (some ⟨J, 4, none⟩)) rfl (by kernel_rfl) (by kernel_rfl) (by kernel_rfl) (fun _ _ _ h => h) (by rfl) ?_ hHeld ?_
      · (intro wq hSw; go_simp <;> with_reducible rfl)
      try simp only [Act.put, List.setIfInBounds_toArray, List.set_cons_zero, List.set_cons_succ]
      refine take_run (i := 4) (oi := { dst := some 16, op := Go.Op.load 2 (Go.Operand.tmp 15), type := 2, pos := "journal.go:88", after := #[{ on := 3, ground := Go.Ground.data }], guard := none }) (v := .int .i64 (nx : Int)) rfl (by kernel_rfl) (by kernel_rfl) (by kernel_rfl) (fun _ _ _ h => h) (by rfl) ?_ hHeld ?_
      · (intro wq hSw; obtain ⟨s3, s2⟩ := hSw; go_simp <;> with_reducible rfl)
      try simp only [Act.put, List.setIfInBounds_toArray, List.set_cons_zero, List.set_cons_succ]
      refine take_run (i := 5) (oi := { dst := some 17, op := Go.Op.move (Go.Operand.tmp 0), type := 37, pos := "journal.go:88", after := #[], guard := none }) (v := .pointer (some ⟨J, 0, none⟩)) rfl (by kernel_rfl) (by kernel_rfl) (by kernel_rfl) (fun _ _ _ h => h) (by rfl) ?_ hHeld ?_
      · (intro wq hSw; go_simp <;> with_reducible rfl)
      try simp only [Act.put, List.setIfInBounds_toArray, List.set_cons_zero, List.set_cons_succ]
      refine take_run (i := 6) (oi := { dst := some 18, op := Go.Op.nilCheck (Go.Operand.tmp 17), type := 0, pos := "journal.go:88", after := #[{ on := 5, ground := Go.Ground.data }], guard := none }) (v := .pointer (some ⟨J, 0, none⟩)) rfl (by kernel_rfl) (by kernel_rfl) (by kernel_rfl) (fun _ _ _ h => h) (by rfl) ?_ hHeld ?_
      · (intro wq hSw; go_simp <;> with_reducible rfl)
      try simp only [Act.put, List.setIfInBounds_toArray, List.set_cons_zero, List.set_cons_succ]
      refine take_run (i := 7) (oi := { dst := some 19, op := Go.Op.fieldAddr 80 (Go.Operand.tmp 18) 2, type := 0, pos := "journal.go:88", after := #[{ on := 6, ground := Go.Ground.data }], guard := none }) (v := .pointer (some ⟨J, 2, none⟩)) rfl (by kernel_rfl) (by kernel_rfl) (by kernel_rfl) (fun _ _ _ h => h) (by rfl) ?_ hHeld ?_
      · (intro wq hSw; go_simp <;> with_reducible rfl)
      try simp only [Act.put, List.setIfInBounds_toArray, List.set_cons_zero, List.set_cons_succ]
      refine take_run (i := 8) (oi := { dst := some 20, op := Go.Op.load 3 (Go.Operand.tmp 19), type := 3, pos := "journal.go:88", after := #[{ on := 7, ground := Go.Ground.data }], guard := none }) (v := .int .i64 (sz : Int)) rfl (by kernel_rfl) (by kernel_rfl) (by kernel_rfl) (fun _ _ _ h => h) (by rfl) ?_ hHeld ?_
      · (intro wq hSw; obtain ⟨s3, s2⟩ := hSw; go_simp <;> with_reducible rfl)
      try simp only [Act.put, List.setIfInBounds_toArray, List.set_cons_zero, List.set_cons_succ]
      refine take_run (i := 9) (oi := { dst := some 21, op := Go.Op.binOp Go.BinOp.add 2 (Go.Operand.tmp 16) (Go.Operand.tmp 20) 2, type := 2, pos := "journal.go:88", after := #[{ on := 4, ground := Go.Ground.data }, { on := 8, ground := Go.Ground.data }], guard := none }) (v := .int .i64 ((nx : Int) + (sz : Int))) rfl (by kernel_rfl) (by kernel_rfl) (by kernel_rfl) (fun _ _ _ h => h) (by rfl) ?_ hHeld ?_
      · (intro wq hSw; go_simp <;> with_reducible rfl)
      try simp only [Act.put, List.setIfInBounds_toArray, List.set_cons_zero, List.set_cons_succ]
      refine take_run (i := 10) (oi := { dst := some 22, op := Go.Op.binOp Go.BinOp.lss 2 (Go.Operand.tmp 12) (Go.Operand.tmp 21) 2, type := 4, pos := "journal.go:88", after := #[{ on := 0, ground := Go.Ground.data }, { on := 9, ground := Go.Ground.data }], guard := none }) (v := .bool true) rfl (by kernel_rfl) (by kernel_rfl) (by kernel_rfl) (fun _ _ _ h => h) (by rfl) ?_ hHeld ?_
      · (intro wq hSw; go_simp <;> with_reducible rfl)
      try simp only [Act.put, List.setIfInBounds_toArray, List.set_cons_zero, List.set_cons_succ]
      clear hHeld
      refine wpAnyH_done (by kernel_rfl) ?_ _
      clear CC
      go_wp2_with fail
      refine HPc.mono ?_
      rintro e y ⟨by_, hres⟩
      have BY : Hid (Below w.heap.size w (y.alloc (.cells #[.int .u8 0, .slice none 0 0] 88))) := (hB.out.trans (((Below.refl wr.heap.size wr).drew.trans by_).mono hB.out.size)).alloc (hB.out.trans (((Below.refl wr.heap.size wr).drew.trans by_).mono hB.out.size)).size _
      clear by_ HPc
      rcases hres with ⟨hr, _⟩ | ⟨_, rfl⟩
      · exact absurd hr HN1.out
      · have ZZ : Hid _ := heap_alloc_new y (.cells #[.int .u8 0, .slice none 0 0] 88)
        have HSA : Hid _ := World.setRow_alloc_new y #[.int .u8 0, .slice none 0 0] #[.int .u8 0, .slice none 0 0] 88
        go_wp2_with (first | (refine wpList_store_row rfl 88 (.tmp 5) (.tmp 29) rfl y.heap.size #[.int .u8 0, .slice none 0 0] rfl rfl 88 _ ZZ.out (by kernel_rfl) rfl (by simp [Value.oneCell']) ?_; rw [HSA.out]))
        rw [WK.out]
        go_roundw
        case rel => exact ⟨s + 1, rfl, rfl, ⟨by have := HLT.out; omega, by have := HLT.out; omega⟩, BY.out⟩
        case measure => exact less_by HLT.out.1
    · have g1 : ¬ (s : Int) < (nx : Int) + (sz : Int) := by omega
      clear hlt hk hJ c4
      go_wp2_with fail
      refine wp_region_held_drew (S := fun X => X.cell? ⟨J, 4, none⟩ = some (.int .i64 (nx : Int)) ∧ X.cell? ⟨J, 2, none⟩ = some (.int .i64 (sz : Int))) (by kernel_rfl) CC.out (fun hHeld => ?_)
      refine take_run (i := 0) (oi := { dst := some 12, op := Go.Op.move (Go.Operand.tmp 4), type := 2, pos := "journal.go:88", after := #[], guard := none }) (v := .int .i64 (s : Int)) rfl (by kernel_rfl) (by kernel_rfl) (by kernel_rfl) (fun _ _ _ h => h) (by rfl) ?_ hHeld ?_
      · (intro wq hSw; go_simp <;> with_reducible rfl)
      try simp only [Act.put, List.setIfInBounds_toArray, List.set_cons_zero, List.set_cons_succ]
      refine take_run (i := 1) (oi := { dst := some 13, op := Go.Op.move (Go.Operand.tmp 0), type := 37, pos := "journal.go:88", after := #[], guard := none }) (v := .pointer (some ⟨J, 0, none⟩)) rfl (by kernel_rfl) (by kernel_rfl) (by kernel_rfl) (fun _ _ _ h => h) (by rfl) ?_ hHeld ?_
      · (intro wq hSw; go_simp <;> with_reducible rfl)
      try simp only [Act.put, List.setIfInBounds_toArray, List.set_cons_zero, List.set_cons_succ]
      refine take_run (i := 2) (oi := { dst := some 14, op := Go.Op.nilCheck (Go.Operand.tmp 13), type := 0, pos := "journal.go:88", after := #[{ on := 1, ground := Go.Ground.data }], guard := none }) (v := .pointer (some ⟨J, 0, none⟩)) rfl (by kernel_rfl) (by kernel_rfl) (by kernel_rfl) (fun _ _ _ h => h) (by rfl) ?_ hHeld ?_
      · (intro wq hSw; go_simp <;> with_reducible rfl)
      try simp only [Act.put, List.setIfInBounds_toArray, List.set_cons_zero, List.set_cons_succ]
      refine take_run (i := 3) (oi := { dst := some 15, op := Go.Op.fieldAddr 80 (Go.Operand.tmp 14) 4, type := 0, pos := "journal.go:88", after := #[{ on := 2, ground := Go.Ground.data }], guard := none }) (v := .pointer (some ⟨J, 4, none⟩)) rfl (by kernel_rfl) (by kernel_rfl) (by kernel_rfl) (fun _ _ _ h => h) (by rfl) ?_ hHeld ?_
      · (intro wq hSw; go_simp <;> with_reducible rfl)
      try simp only [Act.put, List.setIfInBounds_toArray, List.set_cons_zero, List.set_cons_succ]
      refine take_run (i := 4) (oi := { dst := some 16, op := Go.Op.load 2 (Go.Operand.tmp 15), type := 2, pos := "journal.go:88", after := #[{ on := 3, ground := Go.Ground.data }], guard := none }) (v := .int .i64 (nx : Int)) rfl (by kernel_rfl) (by kernel_rfl) (by kernel_rfl) (fun _ _ _ h => h) (by rfl) ?_ hHeld ?_
      · (intro wq hSw; obtain ⟨s3, s2⟩ := hSw; go_simp <;> with_reducible rfl)
      try simp only [Act.put, List.setIfInBounds_toArray, List.set_cons_zero, List.set_cons_succ]
      refine take_run (i := 5) (oi := { dst := some 17, op := Go.Op.move (Go.Operand.tmp 0), type := 37, pos := "journal.go:88", after := #[], guard := none }) (v := .pointer (some ⟨J, 0, none⟩)) rfl (by kernel_rfl) (by kernel_rfl) (by kernel_rfl) (fun _ _ _ h => h) (by rfl) ?_ hHeld ?_
      · (intro wq hSw; go_simp <;> with_reducible rfl)
      try simp only [Act.put, List.setIfInBounds_toArray, List.set_cons_zero, List.set_cons_succ]
      refine take_run (i := 6) (oi := { dst := some 18, op := Go.Op.nilCheck (Go.Operand.tmp 17), type := 0, pos := "journal.go:88", after := #[{ on := 5, ground := Go.Ground.data }], guard := none }) (v := .pointer (some ⟨J, 0, none⟩)) rfl (by kernel_rfl) (by kernel_rfl) (by kernel_rfl) (fun _ _ _ h => h) (by rfl) ?_ hHeld ?_
      · (intro wq hSw; go_simp <;> with_reducible rfl)
      try simp only [Act.put, List.setIfInBounds_toArray, List.set_cons_zero, List.set_cons_succ]
      refine take_run (i := 7) (oi := { dst := some 19, op := Go.Op.fieldAddr 80 (Go.Operand.tmp 18) 2, type := 0, pos := "journal.go:88", after := #[{ on := 6, ground := Go.Ground.data }], guard := none }) (v := .pointer (some ⟨J, 2, none⟩)) rfl (by kernel_rfl) (by kernel_rfl) (by kernel_rfl) (fun _ _ _ h => h) (by rfl) ?_ hHeld ?_
      · (intro wq hSw; go_simp <;> with_reducible rfl)
      try simp only [Act.put, List.setIfInBounds_toArray, List.set_cons_zero, List.set_cons_succ]
      refine take_run (i := 8) (oi := { dst := some 20, op := Go.Op.load 3 (Go.Operand.tmp 19), type := 3, pos := "journal.go:88", after := #[{ on := 7, ground := Go.Ground.data }], guard := none }) (v := .int .i64 (sz : Int)) rfl (by kernel_rfl) (by kernel_rfl) (by kernel_rfl) (fun _ _ _ h => h) (by rfl) ?_ hHeld ?_
      · (intro wq hSw; obtain ⟨s3, s2⟩ := hSw; go_simp <;> with_reducible rfl)
      try simp only [Act.put, List.setIfInBounds_toArray, List.set_cons_zero, List.set_cons_succ]
      refine take_run (i := 9) (oi := { dst := some 21, op := Go.Op.binOp Go.BinOp.add 2 (Go.Operand.tmp 16) (Go.Operand.tmp 20) 2, type := 2, pos := "journal.go:88", after := #[{ on := 4, ground := Go.Ground.data }, { on := 8, ground := Go.Ground.data }], guard := none }) (v := .int .i64 ((nx : Int) + (sz : Int))) rfl (by kernel_rfl) (by kernel_rfl) (by kernel_rfl) (fun _ _ _ h => h) (by rfl) ?_ hHeld ?_
      · (intro wq hSw; go_simp <;> with_reducible rfl)
      try simp only [Act.put, List.setIfInBounds_toArray, List.set_cons_zero, List.set_cons_succ]
      refine take_run (i := 10) (oi := { dst := some 22, op := Go.Op.binOp Go.BinOp.lss 2 (Go.Operand.tmp 12) (Go.Operand.tmp 21) 2, type := 4, pos := "journal.go:88", after := #[{ on := 0, ground := Go.Ground.data }, { on := 9, ground := Go.Ground.data }], guard := none }) (v := .bool false) rfl (by kernel_rfl) (by kernel_rfl) (by kernel_rfl) (fun _ _ _ h => h) (by rfl) ?_ hHeld ?_
      · (intro wq hSw; go_simp <;> with_reducible rfl)
      try simp only [Act.put, List.setIfInBounds_toArray, List.set_cons_zero, List.set_cons_succ]
      clear hHeld
      refine wpAnyH_done (by kernel_rfl) ?_ _
      go_wp2
      go_ret
      exact ⟨rfl, hB.out.drew⟩
end Go.Proofs.YtikpmaecbfebkaaDoor
