/- NetKeeps. -/
import Derived.Test.YtginkikkenegkaaNLet
namespace Go.Proofs.Ytginkikkenegkaa
open Go.RowKit Go.Maps
attribute [local go_sem] Oper.semAt_some
set_option linter.unusedVariables false

theorem less_byN {k n : Nat} (h : k < n) : n - (intOf (.int .i64 ((k : Int) + 1))).toNat < n - (intOf (.int .i64 (k : Int))).toNat := by
  simp only [intOf]
  omega
theorem count_next {ms : List OpN} {i k : Nat} (h1 : i ≤ k) (h2 : k < ms.length) (f : OpN → Bool) : ((ms.take (k + 1)).drop i).countP f = ((ms.take k).drop i).countP f + (if f ms[k] then 1 else 0) := by
  rw [List.take_succ_eq_append_getElem h2, List.drop_append_of_le_length (by simp; omega), List.countP_append, List.countP_singleton]
set_option maxRecDepth 100000 in
set_option maxHeartbeats 2000000 in
theorem keeps_any (la : Option Addr) (ln lc : Nat) (os : List OpN) (w : World) (h : OpsN w la ln os) : Calls Try.prog 6 #[.slice la ln lc] w fun e w' => e = .returned (.bool true) ∧ Below w.heap.size w w' := by
  have HO : Hid (OpsN w la ln os) := h
  clear h
  go_enter Try.func6, Try.ntmps6
  go_wp2_with fail
  refine (new_any w).mono ?_
  rintro e w1 ⟨rfl, n1, b1⟩
  have K1' : Kpt w w1 w.heap.size 0 [] (.slice none 0 0) [] := ⟨⟨fun p hp => (by cases hp), .inl ⟨n1, rfl, rfl⟩⟩, World.ownsRow_nil _ _ _ _, b1⟩
  obtain ⟨N, eN⟩ : ∃ N, w.heap.size = N := ⟨_, rfl⟩
  have K1 : Hid (Kpt w w1 N 0 [] (.slice none 0 0) []) := by rw [← eN]; exact K1'
  rw [eN]
  clear K1' n1 b1 eN
  go_wp2_with fail
  go_loopw [4, 5] (fun sv iv wr => ∃ (k T : Nat) (L : List Post) (ms : List OpN) (v' : Value), v' = sv ∧ iv = .int .i64 (k : Int) ∧ Hid (k ≤ 100 ∧ k ≤ os.length ∧ T = L.length ∧ L.length ≤ k) ∧ Hid (Kpt w wr N T L v' ms) ∧ Hid (Twin L ms ∧ ∀ q ∈ ms, q.At w)) (fun _ iv _ => 100 - (intOf iv).toNat)
  case atStart => exact ⟨0, 0, [], [], _, rfl, rfl, ⟨by omega, by omega, rfl, by simp⟩, K1.out, Twin.nil, fun q hq => by cases hq⟩
  case round =>
    clear K1
    obtain ⟨k, T, L, ms, v', rfl, rfl, hk, hK, hT⟩ := hrel
    have hln : ln = os.length := HO.out.1
    by_cases hlt : k < os.length ∧ k < 100
    · obtain ⟨b, off, rfl, oa, o0, o1, o2, o3⟩ := HO.out.at hlt.1
      obtain ⟨o, eo⟩ : ∃ o, os[k] = o := ⟨_, rfl⟩
      rw [eo] at oa o1 o2 o3
      have OA : Hid (o.At w) := oa
      have CC : Hid (∀ X, Below w.heap.size w X → X.cell? ⟨b, off + k * 4 + 1, none⟩ = some (.int .i64 o.f) ∧ X.cell? ⟨b, off + k * 4 + 2, none⟩ = some (.int .i64 o.n) ∧ X.cell? ⟨b, off + k * 4 + 3, none⟩ = some (.slice o.a o.b.length o.c)) := fun X hX =>
        ⟨by rw [hX.cell (p := ⟨b, off + k * 4 + 1, none⟩) (World.block_lt_of_cell? w _ o1)]; exact o1, by rw [hX.cell (p := ⟨b, off + k * 4 + 2, none⟩) (World.block_lt_of_cell? w _ o2)]; exact o2, by rw [hX.cell (p := ⟨b, off + k * 4 + 3, none⟩) (World.block_lt_of_cell? w _ o3)]; exact o3⟩
      have h1 : (k : Int) < (ln : Int) := by omega
      have h2 : (k : Int) < 100 := by omega
      have hkl : k < ln := by omega
      have HK : Hid (k < os.length ∧ k < 100) := hlt
      have wk : IntKind.i64.wrap ((k : Int) + 1) = (k : Int) + 1 := by rw [IntKind.wrap_i64]; omega
      have KD : Hid (Kpt w wr.drew N T L v' ms) := hK.out.below (Below.refl _ wr).drew
      have BW : Hid (Below w.heap.size w wr.drew) := KD.out.2.2
      have HSd := send_any KD.out.1 o.f o.n o.a o.c o.b ((OA.out.below KD.out.2.2).hb) OA.out.hbn (by have := hk.out; omega) (by have := hk.out; omega)
      clear hlt oa o0 o1 o2 o3 eo hln
      go_wp2_with fail
      refine wp_region_held_drew (S := fun X => Below w.heap.size w X) (by kernel_rfl) BW.out (fun hHeld => ?_)
      refine take_run (i := 0) (oi := { dst := some 24, op := Go.Op.move (Go.Operand.tmp 3), type := 23, pos := "law.go:175", after := #[], guard := none }) (v := .pointer (some ⟨N, 0, none⟩)) rfl (by kernel_rfl) (by kernel_rfl) (by kernel_rfl) (fun _ _ _ h => h) (by rfl) ?_ hHeld ?_
      · (intro wq hSw; go_simp <;> with_reducible rfl)
      try simp only [Act.put, List.setIfInBounds_toArray, List.set_cons_zero, List.set_cons_succ]
      refine take_run (i := 1) (oi := { dst := some 25, op := Go.Op.move (Go.Operand.tmp 0), type := 22, pos := "law.go:175", after := #[], guard := none }) (v := .slice (some ⟨b, off, none⟩) ln lc) rfl (by kernel_rfl) (by kernel_rfl) (by kernel_rfl) (fun _ _ _ h => h) (by rfl) ?_ hHeld ?_
      · (intro wq hSw; go_simp <;> with_reducible rfl)
      try simp only [Act.put, List.setIfInBounds_toArray, List.set_cons_zero, List.set_cons_succ]
      refine take_run (i := 2) (oi := { dst := some 26, op := Go.Op.move (Go.Operand.tmp 5), type := 3, pos := "law.go:175", after := #[], guard := none }) (v := .int .i64 (k : Int)) rfl (by kernel_rfl) (by kernel_rfl) (by kernel_rfl) (fun _ _ _ h => h) (by rfl) ?_ hHeld ?_
      · (intro wq hSw; go_simp <;> with_reducible rfl)
      try simp only [Act.put, List.setIfInBounds_toArray, List.set_cons_zero, List.set_cons_succ]
      refine take_run (i := 3) (oi := { dst := some 27, op := Go.Op.indexAddr 22 (Go.Operand.tmp 25) (Go.Operand.tmp 26), type := 0, pos := "law.go:175", after := #[{ on := 1, ground := Go.Ground.data }, { on := 2, ground := Go.Ground.data }], guard := none }) (v := .pointer (some ⟨b, off + k * 4, none⟩)) rfl (by kernel_rfl) (by kernel_rfl) (by kernel_rfl) (fun _ _ _ h => h) (by rfl) ?_ hHeld ?_
      · (intro wq hSw; go_simp <;> with_reducible rfl)
      try simp only [Act.put, List.setIfInBounds_toArray, List.set_cons_zero, List.set_cons_succ]
      refine take_run (i := 4) (oi := { dst := some 28, op := Go.Op.fieldAddr 32 (Go.Operand.tmp 27) 1, type := 0, pos := "law.go:175", after := #[{ on := 3, ground := Go.Ground.data }], guard := none }) (v := .pointer (some ⟨b, off + k * 4 + 1, none⟩)) rfl (by kernel_rfl) (by kernel_rfl) (by kernel_rfl) (fun _ _ _ h => h) (by rfl) ?_ hHeld ?_
      · (intro wq hSw; go_simp <;> with_reducible rfl)
      try simp only [Act.put, List.setIfInBounds_toArray, List.set_cons_zero, List.set_cons_succ]
      refine take_run (i := 5) (oi := { dst := some 29, op := Go.Op.load 3 (Go.Operand.tmp 28), type := 3, pos := "law.go:175", after := #[{ on := 4, ground := Go.Ground.data }], guard := none }) (v := .int .i64 o.f) rfl (by kernel_rfl) (by kernel_rfl) (by kernel_rfl) (fun _ _ _ h => h) (by rfl) ?_ hHeld ?_
      · (intro wq hSw; have cc := (CC.out wq hSw).1; go_simp <;> with_reducible rfl)
      try simp only [Act.put, List.setIfInBounds_toArray, List.set_cons_zero, List.set_cons_succ]
      refine take_run (i := 6) (oi := { dst := some 30, op := Go.Op.move (Go.Operand.tmp 0), type := 22, pos := "law.go:175", after := #[], guard := none }) (v := .slice (some ⟨b, off, none⟩) ln lc) rfl (by kernel_rfl) (by kernel_rfl) (by kernel_rfl) (fun _ _ _ h => h) (by rfl) ?_ hHeld ?_
      · (intro wq hSw; go_simp <;> with_reducible rfl)
      try simp only [Act.put, List.setIfInBounds_toArray, List.set_cons_zero, List.set_cons_succ]
      refine take_run (i := 7) (oi := { dst := some 31, op := Go.Op.move (Go.Operand.tmp 5), type := 3, pos := "law.go:175", after := #[], guard := none }) (v := .int .i64 (k : Int)) rfl (by kernel_rfl) (by kernel_rfl) (by kernel_rfl) (fun _ _ _ h => h) (by rfl) ?_ hHeld ?_
      · (intro wq hSw; go_simp <;> with_reducible rfl)
      try simp only [Act.put, List.setIfInBounds_toArray, List.set_cons_zero, List.set_cons_succ]
      refine take_run (i := 8) (oi := { dst := some 32, op := Go.Op.indexAddr 22 (Go.Operand.tmp 30) (Go.Operand.tmp 31), type := 0, pos := "law.go:175", after := #[{ on := 6, ground := Go.Ground.data }, { on := 7, ground := Go.Ground.data }], guard := none }) (v := .pointer (some ⟨b, off + k * 4, none⟩)) rfl (by kernel_rfl) (by kernel_rfl) (by kernel_rfl) (fun _ _ _ h => h) (by rfl) ?_ hHeld ?_
      · (intro wq hSw; go_simp <;> with_reducible rfl)
      try simp only [Act.put, List.setIfInBounds_toArray, List.set_cons_zero, List.set_cons_succ]
      refine take_run (i := 9) (oi := { dst := some 33, op := Go.Op.fieldAddr 32 (Go.Operand.tmp 32) 2, type := 0, pos := "law.go:175", after := #[{ on := 8, ground := Go.Ground.data }], guard := none }) (v := .pointer (some ⟨b, off + k * 4 + 2, none⟩)) rfl (by kernel_rfl) (by kernel_rfl) (by kernel_rfl) (fun _ _ _ h => h) (by rfl) ?_ hHeld ?_
      · (intro wq hSw; go_simp <;> with_reducible rfl)
      try simp only [Act.put, List.setIfInBounds_toArray, List.set_cons_zero, List.set_cons_succ]
      refine take_run (i := 10) (oi := { dst := some 34, op := Go.Op.load 3 (Go.Operand.tmp 33), type := 3, pos := "law.go:175", after := #[{ on := 9, ground := Go.Ground.data }], guard := none }) (v := .int .i64 o.n) rfl (by kernel_rfl) (by kernel_rfl) (by kernel_rfl) (fun _ _ _ h => h) (by rfl) ?_ hHeld ?_
      · (intro wq hSw; have cc := (CC.out wq hSw).2.1; go_simp <;> with_reducible rfl)
      try simp only [Act.put, List.setIfInBounds_toArray, List.set_cons_zero, List.set_cons_succ]
      refine take_run (i := 11) (oi := { dst := some 35, op := Go.Op.move (Go.Operand.tmp 0), type := 22, pos := "law.go:175", after := #[], guard := none }) (v := .slice (some ⟨b, off, none⟩) ln lc) rfl (by kernel_rfl) (by kernel_rfl) (by kernel_rfl) (fun _ _ _ h => h) (by rfl) ?_ hHeld ?_
      · (intro wq hSw; go_simp <;> with_reducible rfl)
      try simp only [Act.put, List.setIfInBounds_toArray, List.set_cons_zero, List.set_cons_succ]
      refine take_run (i := 12) (oi := { dst := some 36, op := Go.Op.move (Go.Operand.tmp 5), type := 3, pos := "law.go:175", after := #[], guard := none }) (v := .int .i64 (k : Int)) rfl (by kernel_rfl) (by kernel_rfl) (by kernel_rfl) (fun _ _ _ h => h) (by rfl) ?_ hHeld ?_
      · (intro wq hSw; go_simp <;> with_reducible rfl)
      try simp only [Act.put, List.setIfInBounds_toArray, List.set_cons_zero, List.set_cons_succ]
      refine take_run (i := 13) (oi := { dst := some 37, op := Go.Op.indexAddr 22 (Go.Operand.tmp 35) (Go.Operand.tmp 36), type := 0, pos := "law.go:175", after := #[{ on := 11, ground := Go.Ground.data }, { on := 12, ground := Go.Ground.data }], guard := none }) (v := .pointer (some ⟨b, off + k * 4, none⟩)) rfl (by kernel_rfl) (by kernel_rfl) (by kernel_rfl) (fun _ _ _ h => h) (by rfl) ?_ hHeld ?_
      · (intro wq hSw; go_simp <;> with_reducible rfl)
      try simp only [Act.put, List.setIfInBounds_toArray, List.set_cons_zero, List.set_cons_succ]
      refine take_run (i := 14) (oi := { dst := some 38, op := Go.Op.fieldAddr 32 (Go.Operand.tmp 37) 3, type := 0, pos := "law.go:175", after := #[{ on := 13, ground := Go.Ground.data }], guard := none }) (v := .pointer (some ⟨b, off + k * 4 + 3, none⟩)) rfl (by kernel_rfl) (by kernel_rfl) (by kernel_rfl) (fun _ _ _ h => h) (by rfl) ?_ hHeld ?_
      · (intro wq hSw; go_simp <;> with_reducible rfl)
      try simp only [Act.put, List.setIfInBounds_toArray, List.set_cons_zero, List.set_cons_succ]
      refine take_run (i := 15) (oi := { dst := some 39, op := Go.Op.load 30 (Go.Operand.tmp 38), type := 30, pos := "law.go:175", after := #[{ on := 14, ground := Go.Ground.data }], guard := none }) (v := .slice o.a o.b.length o.c) rfl (by kernel_rfl) (by kernel_rfl) (by kernel_rfl) (fun _ _ _ h => h) (by rfl) ?_ hHeld ?_
      · (intro wq hSw; have cc := (CC.out wq hSw).2.2; go_simp <;> with_reducible rfl)
      try simp only [Act.put, List.setIfInBounds_toArray, List.set_cons_zero, List.set_cons_succ]
      refine take_call (i := 16) (oi := { dst := some 40, op := Go.Op.call { callee := Go.Callee.value (Go.Operand.func 11), args := #[Go.Operand.tmp 24, Go.Operand.tmp 29, Go.Operand.tmp 34, Go.Operand.tmp 39], argTypes := #[23, 3, 3, 30] }, type := 37, pos := "law.go:175", after := #[{ on := 0, ground := Go.Ground.data }, { on := 5, ground := Go.Ground.data }, { on := 10, ground := Go.Ground.data }, { on := 15, ground := Go.Ground.data }], guard := none }) rfl (by kernel_rfl) (by rfl) 11 _ (by go_simp <;> with_reducible rfl) ?_
      refine HSd.mono ?_
      rintro e w3 (⟨_, rfl, b3⟩ | ⟨_, _, rfl, b3⟩ | ⟨_, _, rfl, dv, n3, k3⟩)
      · refine ⟨.int .i64 1, rfl, BW.out.trans (b3.mono BW.out.size), ?_⟩
        try simp only [Act.put, List.setIfInBounds_toArray, List.set_cons_zero, List.set_cons_succ]
        refine take_run (i := 17) (oi := { dst := some 41, op := Go.Op.binOp Go.BinOp.eql 37 (Go.Operand.tmp 40) (Go.Operand.const (Go.Value.int Go.IntKind.i64 0)) 37, type := 4, pos := "law.go:175", after := #[{ on := 16, ground := Go.Ground.data }], guard := none }) (v := .bool false) rfl (by kernel_rfl) (by kernel_rfl) (by kernel_rfl) (fun _ _ _ h => h) (by rfl) ?_ (BW.out.trans (b3.mono BW.out.size)) ?_
        · (intro wq hSw; go_simp <;> with_reducible rfl)
        try simp only [Act.put, List.setIfInBounds_toArray, List.set_cons_zero, List.set_cons_succ]
        refine wpAnyH_done (by kernel_rfl) ?_ _
        have K3 : Hid (Kpt w w3 N T L v' ms) := KD.out.below b3
        clear b3 hHeld HSd
        go_wp2
        go_roundw
        case rel => exact ⟨k + 1, T, L, ms, v', rfl, rfl, ⟨by have := HK.out; omega, by have := HK.out; omega, hk.out.2.2.1, by have := hk.out; omega⟩, K3.out, hT.out⟩
        case measure => exact less_byN HK.out.2
      · refine ⟨.int .i64 3, rfl, BW.out.trans (b3.mono BW.out.size), ?_⟩
        try simp only [Act.put, List.setIfInBounds_toArray, List.set_cons_zero, List.set_cons_succ]
        refine take_run (i := 17) (oi := { dst := some 41, op := Go.Op.binOp Go.BinOp.eql 37 (Go.Operand.tmp 40) (Go.Operand.const (Go.Value.int Go.IntKind.i64 0)) 37, type := 4, pos := "law.go:175", after := #[{ on := 16, ground := Go.Ground.data }], guard := none }) (v := .bool false) rfl (by kernel_rfl) (by kernel_rfl) (by kernel_rfl) (fun _ _ _ h => h) (by rfl) ?_ (BW.out.trans (b3.mono BW.out.size)) ?_
        · (intro wq hSw; go_simp <;> with_reducible rfl)
        try simp only [Act.put, List.setIfInBounds_toArray, List.set_cons_zero, List.set_cons_succ]
        refine wpAnyH_done (by kernel_rfl) ?_ _
        have K3 : Hid (Kpt w w3 N T L v' ms) := KD.out.below b3
        clear b3 hHeld HSd
        go_wp2
        go_roundw
        case rel => exact ⟨k + 1, T, L, ms, v', rfl, rfl, ⟨by have := HK.out; omega, by have := HK.out; omega, hk.out.2.2.1, by have := hk.out; omega⟩, K3.out, hT.out⟩
        case measure => exact less_byN HK.out.2
      · refine ⟨.int .i64 0, rfl, BW.out.trans k3.1, ?_⟩
        try simp only [Act.put, List.setIfInBounds_toArray, List.set_cons_zero, List.set_cons_succ]
        refine take_run (i := 17) (oi := { dst := some 41, op := Go.Op.binOp Go.BinOp.eql 37 (Go.Operand.tmp 40) (Go.Operand.const (Go.Value.int Go.IntKind.i64 0)) 37, type := 4, pos := "law.go:175", after := #[{ on := 16, ground := Go.Ground.data }], guard := none }) (v := .bool true) rfl (by kernel_rfl) (by kernel_rfl) (by kernel_rfl) (fun _ _ _ h => h) (by rfl) ?_ (BW.out.trans k3.1) ?_
        · (intro wq hSw; go_simp <;> with_reducible rfl)
        try simp only [Act.put, List.setIfInBounds_toArray, List.set_cons_zero, List.set_cons_succ]
        refine wpAnyH_done (by kernel_rfl) ?_ _
        have k4 : Kpt w w3 N (T + 1) (L ++ [⟨o.f, o.n, dv, o.b, T⟩]) v' ms := KD.out.nk k3 n3
        have k4d := k4.below (Below.refl _ w3).drew
        obtain ⟨g, gc, w4, hap, k5⟩ := k4d.grow o (by have := hT.out.1.1; have := hk.out; omega)
        have HAP : Hid _ := hap
        have B3 : Hid (Below w.heap.size w w3.drew) := k4d.2.2
        have BX : Hid (Below w.heap.size w (w3.drew.alloc (.cells #[.int .i64 o.f, .int .i64 o.n, .slice o.a o.b.length o.c] 48))) := k4d.2.2.trans (((Below.refl _ w3.drew).alloc (Nat.le_refl _) _).mono k4d.2.2.size)
        have K5 : Hid (Kpt w w4 N (T + 1) (L ++ [⟨o.f, o.n, dv, o.b, T⟩]) (.slice (some ⟨g, 0, none⟩) (ms.length + 1) gc) (ms ++ [o])) := k5
        have TW : Hid (Twin (L ++ [⟨o.f, o.n, dv, o.b, T⟩]) (ms ++ [o]) ∧ ∀ q ∈ ms ++ [o], q.At w) := ⟨hT.out.1.snoc o dv T, fun q hq => by
          rcases List.mem_append.1 hq with hq | hq
          · exact hT.out.2 q hq
          · rw [List.mem_singleton.1 hq]; exact OA.out⟩
        clear k3 n3 k4 k4d hap k5 hHeld HSd
        go_wp2_with fail
        refine wp_region_held_drew (S := fun X => Below w.heap.size w X) (by kernel_rfl) B3.out (fun hHeld => ?_)
        refine take_run (i := 0) (oi := { dst := some 42, op := Go.Op.move (Go.Operand.tmp 4), type := 26, pos := "law.go:176", after := #[], guard := none }) (v := v') rfl (by kernel_rfl) (by kernel_rfl) (by kernel_rfl) (fun _ _ _ h => h) (by rfl) ?_ hHeld ?_
        · (intro wq hSw; go_simp <;> with_reducible rfl)
        try simp only [Act.put, List.setIfInBounds_toArray, List.set_cons_zero, List.set_cons_succ]
        refine take_run (i := 1) (oi := { dst := some 43, op := Go.Op.move (Go.Operand.tmp 0), type := 22, pos := "law.go:176", after := #[], guard := none }) (v := .slice (some ⟨b, off, none⟩) ln lc) rfl (by kernel_rfl) (by kernel_rfl) (by kernel_rfl) (fun _ _ _ h => h) (by rfl) ?_ hHeld ?_
        · (intro wq hSw; go_simp <;> with_reducible rfl)
        try simp only [Act.put, List.setIfInBounds_toArray, List.set_cons_zero, List.set_cons_succ]
        refine take_run (i := 2) (oi := { dst := some 44, op := Go.Op.move (Go.Operand.tmp 5), type := 3, pos := "law.go:176", after := #[], guard := none }) (v := .int .i64 (k : Int)) rfl (by kernel_rfl) (by kernel_rfl) (by kernel_rfl) (fun _ _ _ h => h) (by rfl) ?_ hHeld ?_
        · (intro wq hSw; go_simp <;> with_reducible rfl)
        try simp only [Act.put, List.setIfInBounds_toArray, List.set_cons_zero, List.set_cons_succ]
        refine take_run (i := 3) (oi := { dst := some 45, op := Go.Op.indexAddr 22 (Go.Operand.tmp 43) (Go.Operand.tmp 44), type := 0, pos := "law.go:176", after := #[{ on := 1, ground := Go.Ground.data }, { on := 2, ground := Go.Ground.data }], guard := none }) (v := .pointer (some ⟨b, off + k * 4, none⟩)) rfl (by kernel_rfl) (by kernel_rfl) (by kernel_rfl) (fun _ _ _ h => h) (by rfl) ?_ hHeld ?_
        · (intro wq hSw; go_simp <;> with_reducible rfl)
        try simp only [Act.put, List.setIfInBounds_toArray, List.set_cons_zero, List.set_cons_succ]
        refine take_run (i := 4) (oi := { dst := some 46, op := Go.Op.fieldAddr 32 (Go.Operand.tmp 45) 1, type := 0, pos := "law.go:176", after := #[{ on := 3, ground := Go.Ground.data }], guard := none }) (v := .pointer (some ⟨b, off + k * 4 + 1, none⟩)) rfl (by kernel_rfl) (by kernel_rfl) (by kernel_rfl) (fun _ _ _ h => h) (by rfl) ?_ hHeld ?_
        · (intro wq hSw; go_simp <;> with_reducible rfl)
        try simp only [Act.put, List.setIfInBounds_toArray, List.set_cons_zero, List.set_cons_succ]
        refine take_run (i := 5) (oi := { dst := some 47, op := Go.Op.load 3 (Go.Operand.tmp 46), type := 3, pos := "law.go:176", after := #[{ on := 4, ground := Go.Ground.data }], guard := none }) (v := .int .i64 o.f) rfl (by kernel_rfl) (by kernel_rfl) (by kernel_rfl) (fun _ _ _ h => h) (by rfl) ?_ hHeld ?_
        · (intro wq hSw; have cc := (CC.out wq hSw).1; go_simp <;> with_reducible rfl)
        try simp only [Act.put, List.setIfInBounds_toArray, List.set_cons_zero, List.set_cons_succ]
        refine take_run (i := 6) (oi := { dst := some 48, op := Go.Op.move (Go.Operand.tmp 0), type := 22, pos := "law.go:176", after := #[], guard := none }) (v := .slice (some ⟨b, off, none⟩) ln lc) rfl (by kernel_rfl) (by kernel_rfl) (by kernel_rfl) (fun _ _ _ h => h) (by rfl) ?_ hHeld ?_
        · (intro wq hSw; go_simp <;> with_reducible rfl)
        try simp only [Act.put, List.setIfInBounds_toArray, List.set_cons_zero, List.set_cons_succ]
        refine take_run (i := 7) (oi := { dst := some 49, op := Go.Op.move (Go.Operand.tmp 5), type := 3, pos := "law.go:176", after := #[], guard := none }) (v := .int .i64 (k : Int)) rfl (by kernel_rfl) (by kernel_rfl) (by kernel_rfl) (fun _ _ _ h => h) (by rfl) ?_ hHeld ?_
        · (intro wq hSw; go_simp <;> with_reducible rfl)
        try simp only [Act.put, List.setIfInBounds_toArray, List.set_cons_zero, List.set_cons_succ]
        refine take_run (i := 8) (oi := { dst := some 50, op := Go.Op.indexAddr 22 (Go.Operand.tmp 48) (Go.Operand.tmp 49), type := 0, pos := "law.go:176", after := #[{ on := 6, ground := Go.Ground.data }, { on := 7, ground := Go.Ground.data }], guard := none }) (v := .pointer (some ⟨b, off + k * 4, none⟩)) rfl (by kernel_rfl) (by kernel_rfl) (by kernel_rfl) (fun _ _ _ h => h) (by rfl) ?_ hHeld ?_
        · (intro wq hSw; go_simp <;> with_reducible rfl)
        try simp only [Act.put, List.setIfInBounds_toArray, List.set_cons_zero, List.set_cons_succ]
        refine take_run (i := 9) (oi := { dst := some 51, op := Go.Op.fieldAddr 32 (Go.Operand.tmp 50) 2, type := 0, pos := "law.go:176", after := #[{ on := 8, ground := Go.Ground.data }], guard := none }) (v := .pointer (some ⟨b, off + k * 4 + 2, none⟩)) rfl (by kernel_rfl) (by kernel_rfl) (by kernel_rfl) (fun _ _ _ h => h) (by rfl) ?_ hHeld ?_
        · (intro wq hSw; go_simp <;> with_reducible rfl)
        try simp only [Act.put, List.setIfInBounds_toArray, List.set_cons_zero, List.set_cons_succ]
        refine take_run (i := 10) (oi := { dst := some 52, op := Go.Op.load 3 (Go.Operand.tmp 51), type := 3, pos := "law.go:176", after := #[{ on := 9, ground := Go.Ground.data }], guard := none }) (v := .int .i64 o.n) rfl (by kernel_rfl) (by kernel_rfl) (by kernel_rfl) (fun _ _ _ h => h) (by rfl) ?_ hHeld ?_
        · (intro wq hSw; have cc := (CC.out wq hSw).2.1; go_simp <;> with_reducible rfl)
        try simp only [Act.put, List.setIfInBounds_toArray, List.set_cons_zero, List.set_cons_succ]
        refine take_run (i := 11) (oi := { dst := some 53, op := Go.Op.move (Go.Operand.tmp 0), type := 22, pos := "law.go:176", after := #[], guard := none }) (v := .slice (some ⟨b, off, none⟩) ln lc) rfl (by kernel_rfl) (by kernel_rfl) (by kernel_rfl) (fun _ _ _ h => h) (by rfl) ?_ hHeld ?_
        · (intro wq hSw; go_simp <;> with_reducible rfl)
        try simp only [Act.put, List.setIfInBounds_toArray, List.set_cons_zero, List.set_cons_succ]
        refine take_run (i := 12) (oi := { dst := some 54, op := Go.Op.move (Go.Operand.tmp 5), type := 3, pos := "law.go:176", after := #[], guard := none }) (v := .int .i64 (k : Int)) rfl (by kernel_rfl) (by kernel_rfl) (by kernel_rfl) (fun _ _ _ h => h) (by rfl) ?_ hHeld ?_
        · (intro wq hSw; go_simp <;> with_reducible rfl)
        try simp only [Act.put, List.setIfInBounds_toArray, List.set_cons_zero, List.set_cons_succ]
        refine take_run (i := 13) (oi := { dst := some 55, op := Go.Op.indexAddr 22 (Go.Operand.tmp 53) (Go.Operand.tmp 54), type := 0, pos := "law.go:176", after := #[{ on := 11, ground := Go.Ground.data }, { on := 12, ground := Go.Ground.data }], guard := none }) (v := .pointer (some ⟨b, off + k * 4, none⟩)) rfl (by kernel_rfl) (by kernel_rfl) (by kernel_rfl) (fun _ _ _ h => h) (by rfl) ?_ hHeld ?_
        · (intro wq hSw; go_simp <;> with_reducible rfl)
        try simp only [Act.put, List.setIfInBounds_toArray, List.set_cons_zero, List.set_cons_succ]
        refine take_run (i := 14) (oi := { dst := some 56, op := Go.Op.fieldAddr 32 (Go.Operand.tmp 55) 3, type := 0, pos := "law.go:176", after := #[{ on := 13, ground := Go.Ground.data }], guard := none }) (v := .pointer (some ⟨b, off + k * 4 + 3, none⟩)) rfl (by kernel_rfl) (by kernel_rfl) (by kernel_rfl) (fun _ _ _ h => h) (by rfl) ?_ hHeld ?_
        · (intro wq hSw; go_simp <;> with_reducible rfl)
        try simp only [Act.put, List.setIfInBounds_toArray, List.set_cons_zero, List.set_cons_succ]
        refine take_run (i := 15) (oi := { dst := some 57, op := Go.Op.load 30 (Go.Operand.tmp 56), type := 30, pos := "law.go:176", after := #[{ on := 14, ground := Go.Ground.data }], guard := none }) (v := .slice o.a o.b.length o.c) rfl (by kernel_rfl) (by kernel_rfl) (by kernel_rfl) (fun _ _ _ h => h) (by rfl) ?_ hHeld ?_
        · (intro wq hSw; have cc := (CC.out wq hSw).2.2; go_simp <;> with_reducible rfl)
        try simp only [Act.put, List.setIfInBounds_toArray, List.set_cons_zero, List.set_cons_succ]
        refine take_run (i := 16) (oi := { dst := some 58, op := Go.Op.build 48 #[(0, Go.Operand.tmp 47), (1, Go.Operand.tmp 52), (2, Go.Operand.tmp 57)], type := 48, pos := "law.go:176", after := #[{ on := 5, ground := Go.Ground.data }, { on := 10, ground := Go.Ground.data }, { on := 15, ground := Go.Ground.data }], guard := none }) (v := .agg #[.int .i64 o.f, .int .i64 o.n, .slice o.a o.b.length o.c]) rfl (by kernel_rfl) (by kernel_rfl) (by kernel_rfl) (fun _ _ _ h => h) (by rfl) ?_ hHeld ?_
        · (intro wq hSw; go_simp <;> with_reducible rfl)
        try simp only [Act.put, List.setIfInBounds_toArray, List.set_cons_zero, List.set_cons_succ]
        refine take_val (i := 17) (oi := { dst := some 59, op := Go.Op.buildSlice 26 1 #[(0, Go.Operand.tmp 58)], type := 26, pos := "law.go:176", after := #[{ on := 16, ground := Go.Ground.data }], guard := none }) (.slice (some ⟨w3.heap.size, 0, none⟩) 1 1) rfl (by kernel_rfl) (by rfl) (by go_simp <;> with_reducible rfl) BX.out ?_
        try simp only [Act.put, List.setIfInBounds_toArray, List.set_cons_zero, List.set_cons_succ]
        refine take_val (i := 18) (oi := { dst := some 60, op := Go.Op.call { callee := Go.Callee.builtin Go.Builtin.append, args := #[Go.Operand.tmp 42, Go.Operand.tmp 59], argTypes := #[26, 26] }, type := 26, pos := "law.go:176", after := #[{ on := 0, ground := Go.Ground.data }, { on := 17, ground := Go.Ground.data }], guard := none }) (.slice (some ⟨g, 0, none⟩) (ms.length + 1) gc) rfl (by kernel_rfl) (by rfl) (exec_appN (.tmp 42) (.tmp 59) 26 rfl rfl rfl HAP.out) K5.out.2.2 ?_
        try simp only [Act.put, List.setIfInBounds_toArray, List.set_cons_zero, List.set_cons_succ]
        refine take_run (i := 19) (oi := { dst := some 4, op := Go.Op.assign (Go.Operand.tmp 60), type := 26, pos := "law.go:176", after := #[{ on := 18, ground := Go.Ground.data }, { on := 18, ground := Go.Ground.chain }, { on := 0, ground := Go.Ground.phase }, { on := 1, ground := Go.Ground.phase }, { on := 2, ground := Go.Ground.phase }, { on := 3, ground := Go.Ground.phase }, { on := 4, ground := Go.Ground.phase }, { on := 5, ground := Go.Ground.phase }, { on := 6, ground := Go.Ground.phase }, { on := 7, ground := Go.Ground.phase }, { on := 8, ground := Go.Ground.phase }, { on := 9, ground := Go.Ground.phase }, { on := 10, ground := Go.Ground.phase }, { on := 11, ground := Go.Ground.phase }, { on := 12, ground := Go.Ground.phase }, { on := 13, ground := Go.Ground.phase }, { on := 14, ground := Go.Ground.phase }, { on := 15, ground := Go.Ground.phase }, { on := 16, ground := Go.Ground.phase }, { on := 17, ground := Go.Ground.phase }, { on := 18, ground := Go.Ground.phase }], guard := none }) (v := .slice (some ⟨g, 0, none⟩) (ms.length + 1) gc) rfl (by kernel_rfl) (by kernel_rfl) (by kernel_rfl) (fun _ _ _ h => h) (by rfl) ?_ K5.out.2.2 ?_
        · (intro wq hSw; go_simp <;> with_reducible rfl)
        try simp only [Act.put, List.setIfInBounds_toArray, List.set_cons_zero, List.set_cons_succ]
        refine wpAnyH_done (by kernel_rfl) ?_ _
        clear hHeld HAP BX B3
        go_wp2
        go_roundw
        case rel => exact ⟨k + 1, T + 1, L ++ [⟨o.f, o.n, dv, o.b, T⟩], ms ++ [o], Value.slice (some ⟨g, 0, none⟩) (ms.length + 1) gc, rfl, rfl, ⟨by have := HK.out; omega, by have := HK.out; omega, by have := hk.out.2.2.1; simp; omega, by have := hk.out; simp; omega⟩, K5, TW⟩
        case measure => exact less_byN HK.out.2
    · obtain ⟨sa, sc, es⟩ := hK.out.form
      subst es
      have hT2 : Hid (ms.length ≤ 100 ∧ T ≤ 100) := ⟨by have := hT.out.1.1; have := hk.out; omega, by have := hk.out; omega⟩
      have KK : Hid (Kpt w wr N T L (.slice sa ms.length sc) ms) := hK.out
      obtain ⟨M, eM⟩ : ∃ M, ms.length = M := ⟨_, rfl⟩
      have EM : Hid (ms.length = M) := eM
      have KK' : Hid (Kpt w wr N T L (.slice sa M sc) ms) := by rw [← eM]; exact KK.out
      rw [eM]
      clear eM KK hK
      by_cases hk2 : k < os.length
      · have h1 : (k : Int) < (ln : Int) := by omega
        have h2 : ¬ ((k : Int) < 100) := by omega
        clear hlt hk2 hln
        go_wp2_with fail
        go_loopw [6] (fun iv wr => ∃ (i T : Nat) (L2 : List Post), iv = .int .i64 (i : Int) ∧ Hid (i ≤ M ∧ T ≤ 100) ∧ Hid (Kpt w wr N T L2 (.slice sa M sc) ms) ∧ Hid (Twin L2 (ms.drop i))) (fun iv _ => 101 - (intOf iv).toNat)
        case atStart => exact ⟨0, T, L, rfl, ⟨Nat.zero_le _, hT2.out.2⟩, KK'.out, by rw [List.drop_zero]; exact hT.out.1⟩
        case round =>
          clear KK'
          obtain ⟨i, T2, L2, rfl, hi, hK2, hTw⟩ := hrel
          by_cases hlt : i < M
          · have him : i < ms.length := by have := EM.out; omega
            have kk : Kpt w wr N T2 L2 (.slice sa ms.length sc) ms := by rw [EM.out]; exact hK2.out
            obtain ⟨g, rfl, q0, q1, q2⟩ := kk.at him
            clear q0 q2
            have ed : ms.drop i = ms[i] :: ms.drop (i + 1) := List.drop_eq_getElem_cons him
            obtain ⟨o, eo⟩ : ∃ o, ms[i] = o := ⟨_, rfl⟩
            rw [eo] at q1 ed
            have hne : L2 ≠ [] := fun e => by have := hTw.out.1; rw [e, ed] at this; simp at this
            obtain ⟨p, L3, rfl⟩ := List.exists_cons_of_ne_nil hne
            have tw : Twin (p :: L3) (o :: ms.drop (i + 1)) := by rw [← ed]; exact hTw.out
            have TW : Hid (Twin (p :: L3) (o :: ms.drop (i + 1))) := tw
            have PO : Hid (p.fr = o.f ∧ p.to = o.n ∧ p.b = o.b) := by have := tw.2 0 (by simp) (by simp); show p.fr = o.f ∧ p.to = o.n ∧ p.b = o.b; simpa using this
            have ED : Hid (ms.drop i = o :: ms.drop (i + 1)) := ed
            have EO : Hid (∀ h : i < ms.length, ms[i] = o) := fun _ => eo
            have HI : Hid (i < M ∧ i < ms.length ∧ M ≤ 100) := ⟨hlt, him, by have := hT2.out.1; have := EM.out; omega⟩
            have OA : Hid (o.At w) := by have := hT.out.2 ms[i] (List.getElem_mem him); rw [eo] at this; exact this
            have h3 : (i : Int) < (M : Int) := by omega
            have wi : IntKind.i64.wrap ((i : Int) + 1) = (i : Int) + 1 := by rw [IntKind.wrap_i64]; have := HI.out; omega
            clear hTw ed eo tw hne hlt him kk
            go_wp2_with fail
            obtain ⟨wo, rfl⟩ : ∃ wo : World, wo = wr := ⟨_, rfl⟩
            go_loopw [7, 8] (fun tv kv wr => ∃ (k c q : Nat), tv = .int .i64 (c : Int) ∧ kv = .int .i64 (k : Int) ∧ Hid (i ≤ k ∧ k ≤ M ∧ c = ((ms.take k).drop i).countP (fun x => decide (x.n = o.n)) ∧ c ≤ k) ∧ wr = wo.drewN q) (fun _ kv _ => 101 - (intOf kv).toNat)
            case atStart => exact ⟨i, 0, 0, rfl, rfl, ⟨Nat.le_refl _, by have := HI.out; omega, by rw [List.drop_eq_nil_of_le (by simp; omega)]; rfl, Nat.zero_le _⟩, rfl⟩
            case round =>
              obtain ⟨k, c, q, rfl, rfl, hkk, rfl⟩ := hrel
              by_cases hlt : k < M
              · have hkm : k < ms.length := by have := EM.out; omega
                have kk : Kpt w wo N T2 (p :: L3) (.slice (some ⟨g, 0, none⟩) ms.length sc) ms := by rw [EM.out]; exact hK2.out
                obtain ⟨g', eg, p0, p1, p2⟩ := kk.at hkm
                clear p0 p2
                cases eg
                obtain ⟨x, ex⟩ : ∃ x, ms[k] = x := ⟨_, rfl⟩
                rw [ex] at p1
                have CN : Hid (((ms.take (k + 1)).drop i).countP (fun x => decide (x.n = o.n)) = ((ms.take k).drop i).countP (fun x => decide (x.n = o.n)) + (if decide (x.n = o.n) then 1 else 0)) := by have := count_next hkk.out.1 hkm (fun x => decide (x.n = o.n)); rw [ex] at this; exact this
                have h4 : (k : Int) < (M : Int) := by omega
                have HKk : Hid (k < M ∧ M ≤ 100) := ⟨hlt, HI.out.2.2⟩
                have wk2 : IntKind.i64.wrap ((k : Int) + 1) = (k : Int) + 1 := by rw [IntKind.wrap_i64]; have := HKk.out; omega
                have wc : IntKind.i64.wrap ((c : Int) + 1) = (c : Int) + 1 := by rw [IntKind.wrap_i64]; have := HKk.out; have := hkk.out; omega
                clear kk ex hkm hlt
                by_cases hx : x.n = o.n
                · have CN2 : Hid (c + 1 = ((ms.take (k + 1)).drop i).countP (fun x => decide (x.n = o.n))) := by show _ = _; rw [CN.out, hkk.out.2.2.1, if_pos (by simp [hx])]
                  rw [hx] at p1
                  have e1 : (o.n == o.n) = true := by simp
                  clear hx CN
                  go_wp2_with fail
                  go_quiet (fail)
                  go_wp2
                  go_roundw
                  case rel => exact ⟨k + 1, c + 1, _, rfl, rfl, ⟨by have := hkk.out; omega, by have := HKk.out; omega, CN2.out, by have := hkk.out; omega⟩, rfl⟩
                  case measure => exact less_byN (show k < 101 by have := HKk.out; omega)
                · have CN2 : Hid (c = ((ms.take (k + 1)).drop i).countP (fun x => decide (x.n = o.n))) := by show _ = _; rw [CN.out, hkk.out.2.2.1, if_neg (by simp [hx])]; omega
                  have e1 : (x.n == o.n) = false := by simp [hx]
                  obtain ⟨xn, exn⟩ : ∃ xn, x.n = xn := ⟨_, rfl⟩
                  rw [exn] at p1 e1 hx
                  clear exn CN
                  go_wp2_with fail
                  go_quiet (fail)
                  go_wp2
                  go_roundw
                  case rel => exact ⟨k + 1, c, _, rfl, rfl, ⟨by have := hkk.out; omega, by have := HKk.out; omega, CN2.out, by have := hkk.out; omega⟩, rfl⟩
                  case measure => exact less_byN (show k < 101 by have := HKk.out; omega)
              · have h4 : ¬ ((k : Int) < (M : Int)) := by omega
                have kq : Kpt w (wo.drewN q) N T2 (p :: L3) (.slice (some ⟨g, 0, none⟩) M sc) ms := hK2.out.below ⟨rfl, rfl, rfl, Nat.le_refl _, fun _ _ => rfl⟩
                obtain ⟨Bm, bx, hn⟩ := kq.1.has (by simp)
                have ec : (box (p :: L3) o.n).length = c := by
                  rw [TW.out.box, ← ED.out, hkk.out.2.2.1]
                  have : ms.take k = ms := List.take_of_length_le (by have := EM.out; have := hkk.out; omega)
                  rw [this]
                have HTo := to_any hn (k := o.n) OA.out.hn
                rw [ec] at HTo
                have HLn := len_any hn
                have el : (((p :: L3).length : Nat) : Int) = (M : Int) - (i : Int) := by
                  have := TW.out.1
                  have h6 : (o :: ms.drop (i + 1)).length = ms.length - i := by rw [← ED.out, List.length_drop]
                  have := EM.out
                  have := HI.out
                  omega
                rw [el] at HLn
                have KQ : Hid (Kpt w (wo.drewN q) N T2 (p :: L3) (.slice (some ⟨g, 0, none⟩) M sc) ms) := kq
                have wl : IntKind.i64.wrap ((M : Int) - (i : Int)) = (M : Int) - (i : Int) := by rw [IntKind.wrap_i64]; have := HI.out; omega
                have e1 : ((c : Int) != (c : Int)) = false := by simp
                have e2 : (((M : Int) - (i : Int)) != ((M : Int) - (i : Int))) = false := by simp
                clear hlt kq hn ec el
                go_wp2_with fail
                refine HTo.mono ?_
                rintro e x1 ⟨rfl, hx1⟩
                subst x1
                clear HTo
                go_wp2_with fail
                refine HLn.mono ?_
                rintro e x2 ⟨rfl, bx2⟩
                have k2 := KQ.out.below bx2
                obtain ⟨Bm2, bxx, hn2⟩ := k2.1.has (by simp)
                have HTk : Calls Try.prog 12 #[.pointer (some ⟨N, 0, none⟩), .int .i64 0] x2 _ := take_any hn2 k2.1.1 0 (by have := hi.out; omega)
                have K2 : Hid (Kpt w x2 N T2 (p :: L3) (.slice (some ⟨g, 0, none⟩) M sc) ms) := k2
                clear HLn bx2 k2 hn2 q1 KQ
                go_wp2_with fail
                refine HTk.mono ?_
                clear HTk
                rintro e x3 (⟨y, _⟩ | ⟨j, hj, v, y, rfl, d3, bx3, n3, k3⟩)
                · exact absurd y (by simp)
                obtain rfl : j = 0 := by omega
                simp only [List.getElem_cons_zero] at d3 ⊢
                rw [PO.out.1, PO.out.2.1]
                rw [PO.out.2.2] at d3
                obtain ⟨va, vc, rfl, s3, u3, g3⟩ := d3
                have sm3 : Small L3 := fun r hr => K2.out.1.1 r (List.mem_cons_of_mem _ hr)
                have n3' : NetIn x3 w.heap.size N Bm2 bx3 L3 T2 := n3
                have kp3 : Kpt w x3 N T2 L3 (.slice (some ⟨g, 0, none⟩) M sc) ms := K2.out.nk k3 ⟨sm3, .inr ⟨_, _, n3'⟩⟩
                have ba := (Below.refl _ x3).alloc (Nat.le_refl _) (.cells #[.int .i64 o.f, .int .i64 o.n, .slice va o.b.length vc] 40)
                have r9 := row3 x3 (.int .i64 o.f) (.int .i64 o.n) (.slice va o.b.length vc)
                have kp6 := kp3.below ba
                have s6 := s3.below ba
                obtain ⟨P9, eP9⟩ : ∃ P9, x3.heap.size = P9 := ⟨_, rfl⟩
                rw [eP9] at r9
                obtain ⟨x6, e6⟩ : ∃ x6, x3.alloc (.cells #[.int .i64 o.f, .int .i64 o.n, .slice va o.b.length vc] 40) = x6 := ⟨_, rfl⟩
                rw [e6] at r9 kp6 s6
                have R9 : Hid (∀ X, Below x6.heap.size x6 X → X.heap[P9]? = some (.cells #[.int .i64 o.f, .int .i64 o.n, .slice va o.b.length vc] 40 (0, 0))) := fun X hX => (hX.block P9 (Array.getElem?_eq_some_iff.1 r9).1).trans r9
                have kp6' : Kpt w x6 N T2 L3 (.slice (some ⟨g, 0, none⟩) ms.length sc) ms := by rw [EM.out]; exact kp6
                obtain ⟨g', eg, z0, z1, z2⟩ := kp6'.at HI.out.2.1
                cases eg
                rw [EO.out HI.out.2.1] at z0 z1 z2
                have SC : Hid (∀ X, Below x6.heap.size x6 X → X.cell? ⟨g, i * 3, none⟩ = some (.int .i64 o.f) ∧ X.cell? ⟨g, i * 3 + 1, none⟩ = some (.int .i64 o.n) ∧ X.cell? ⟨g, i * 3 + 2, none⟩ = some (.slice o.a o.b.length o.c)) := fun X hX =>
                  ⟨by rw [hX.cell (p := ⟨g, i * 3, none⟩) (World.block_lt_of_cell? x6 _ z0)]; exact z0, by rw [hX.cell (p := ⟨g, i * 3 + 1, none⟩) (World.block_lt_of_cell? x6 _ z1)]; exact z1, by rw [hX.cell (p := ⟨g, i * 3 + 2, none⟩) (World.block_lt_of_cell? x6 _ z2)]; exact z2⟩
                have SMS : Hid (∀ X, Below x6.heap.size x6 X → Calls Try.prog 17 #[.agg #[.int .i64 o.f, .int .i64 o.n, .slice va o.b.length vc], .agg #[.int .i64 o.f, .int .i64 o.n, .slice o.a o.b.length o.c]] X fun e w' => e = .returned (.bool true) ∧ Below X.heap.size X w') := fun X hX => same_same o.f o.n va o.a vc o.c o.b X (s6.below hX) ((OA.out.below (kp6.2.2.trans (hX.mono kp6.2.2.size))).hb)
                have K6 : Hid (Kpt w x6 N T2 L3 (.slice (some ⟨g, 0, none⟩) M sc) ms) := kp6
                have E6 : Hid _ := e6
                have EP : Hid _ := eP9
                have iM : i < M := HI.out.1
                clear hj y n3 n3' k3 kp3 ba r9 kp6 kp6' s3 s6 u3 g3 z0 z1 z2 sm3 e6 eP9 K2
                go_wp2_with fail
                rw [show _ = x6 from E6.out]
                try rw [show x3.heap.size = P9 from EP.out]
                refine wp_region_held_drew (S := fun X => Below x6.heap.size x6 X) (by kernel_rfl) (Below.refl _ x6).drew (fun hHeld => ?_)
                refine take_run (i := 0) (oi := { dst := some 110, op := Go.Op.move (Go.Operand.tmp 10), type := 37, pos := "law.go:190", after := #[], guard := none }) (v := .int .i64 0) rfl (by kernel_rfl) (by kernel_rfl) (by kernel_rfl) (fun _ _ _ h => h) (by rfl) ?_ hHeld ?_
                · (intro wq hSw; go_simp <;> with_reducible rfl)
                try simp only [Act.put, List.setIfInBounds_toArray, List.set_cons_zero, List.set_cons_succ]
                refine take_run (i := 1) (oi := { dst := some 111, op := Go.Op.binOp Go.BinOp.neq 37 (Go.Operand.tmp 110) (Go.Operand.const (Go.Value.int Go.IntKind.i64 0)) 37, type := 4, pos := "law.go:190", after := #[{ on := 0, ground := Go.Ground.data }], guard := none }) (v := .bool false) rfl (by kernel_rfl) (by kernel_rfl) (by kernel_rfl) (fun _ _ _ h => h) (by rfl) ?_ hHeld ?_
                · (intro wq hSw; go_simp <;> with_reducible rfl)
                try simp only [Act.put, List.setIfInBounds_toArray, List.set_cons_zero, List.set_cons_succ]
                refine take_run (i := 2) (oi := { dst := some 112, op := Go.Op.move (Go.Operand.tmp 111), type := 4, pos := "law.go:190", after := #[{ on := 1, ground := Go.Ground.data }], guard := none }) (v := .bool false) rfl (by kernel_rfl) (by kernel_rfl) (by kernel_rfl) (fun _ _ _ h => h) (by rfl) ?_ hHeld ?_
                · (intro wq hSw; go_simp <;> with_reducible rfl)
                try simp only [Act.put, List.setIfInBounds_toArray, List.set_cons_zero, List.set_cons_succ]
                refine take_row (i := 3) (oi := { dst := some 113, op := Go.Op.load 40 (Go.Operand.tmp 9), type := 40, pos := "law.go:190", after := #[{ on := 2, ground := Go.Ground.guard }], guard := some (2, false) }) rfl (by kernel_rfl) (by kernel_rfl) (by kernel_rfl) 40 (.tmp 9) P9 40 #[.int .i64 o.f, .int .i64 o.n, .slice va o.b.length vc] (0, 0) _ (fun _ _ _ h => h) (by rfl) rfl (by go_simp <;> with_reducible rfl) (fun X hX => R9.out X hX) Try.underlying40 rfl (by kernel_rfl) hHeld ?_
                try simp only [Act.put, List.setIfInBounds_toArray, List.set_cons_zero, List.set_cons_succ]
                refine take_run (i := 5) (oi := { dst := some 115, op := Go.Op.move (Go.Operand.tmp 4), type := 26, pos := "law.go:190", after := #[{ on := 2, ground := Go.Ground.guard }], guard := some (2, false) }) (v := .slice (some ⟨g, 0, none⟩) M sc) rfl (by kernel_rfl) (by kernel_rfl) (by kernel_rfl) (fun _ _ _ h => h) (by rfl) ?_ hHeld ?_
                · (intro wq hSw; go_simp <;> with_reducible rfl)
                try simp only [Act.put, List.setIfInBounds_toArray, List.set_cons_zero, List.set_cons_succ]
                refine take_run (i := 6) (oi := { dst := some 116, op := Go.Op.move (Go.Operand.tmp 6), type := 3, pos := "law.go:190", after := #[{ on := 2, ground := Go.Ground.guard }], guard := some (2, false) }) (v := .int .i64 (i : Int)) rfl (by kernel_rfl) (by kernel_rfl) (by kernel_rfl) (fun _ _ _ h => h) (by rfl) ?_ hHeld ?_
                · (intro wq hSw; go_simp <;> with_reducible rfl)
                try simp only [Act.put, List.setIfInBounds_toArray, List.set_cons_zero, List.set_cons_succ]
                refine take_run (i := 7) (oi := { dst := some 117, op := Go.Op.indexAddr 26 (Go.Operand.tmp 115) (Go.Operand.tmp 116), type := 0, pos := "law.go:190", after := #[{ on := 5, ground := Go.Ground.data }, { on := 6, ground := Go.Ground.data }, { on := 2, ground := Go.Ground.guard }], guard := some (2, false) }) (v := .pointer (some ⟨g, i * 3, none⟩)) rfl (by kernel_rfl) (by kernel_rfl) (by kernel_rfl) (fun _ _ _ h => h) (by rfl) ?_ hHeld ?_
                · (intro wq hSw; go_simp <;> with_reducible rfl)
                try simp only [Act.put, List.setIfInBounds_toArray, List.set_cons_zero, List.set_cons_succ]
                refine take_run (i := 8) (oi := { dst := some 118, op := Go.Op.load 48 (Go.Operand.tmp 117), type := 48, pos := "law.go:190", after := #[{ on := 7, ground := Go.Ground.data }, { on := 2, ground := Go.Ground.guard }], guard := some (2, false) }) (v := .agg #[.int .i64 o.f, .int .i64 o.n, .slice o.a o.b.length o.c]) rfl (by kernel_rfl) (by kernel_rfl) (by kernel_rfl) (fun _ _ _ h => h) (by rfl) ?_ hHeld ?_
                · (intro wq hSw; have c0 := (SC.out wq hSw).1; have c1 := (SC.out wq hSw).2.1; have c2 := (SC.out wq hSw).2.2; go_simp <;> with_reducible rfl)
                try simp only [Act.put, List.setIfInBounds_toArray, List.set_cons_zero, List.set_cons_succ]
                refine take_call (i := 4) (oi := { dst := some 114, op := Go.Op.call { callee := Go.Callee.value (Go.Operand.func 18), args := #[Go.Operand.tmp 113], argTypes := #[40] }, type := 48, pos := "law.go:190", after := #[{ on := 3, ground := Go.Ground.data }, { on := 2, ground := Go.Ground.chain }, { on := 2, ground := Go.Ground.guard }], guard := some (2, false) }) rfl (by kernel_rfl) (by rfl) 18 _ (by go_simp <;> with_reducible rfl) ?_
                refine (as_any o.f o.n va o.b.length vc _).mono ?_
                rintro e y1 ⟨rfl, by1⟩
                refine ⟨.agg #[.int .i64 o.f, .int .i64 o.n, .slice va o.b.length vc], rfl, hHeld.trans (by1.mono hHeld.size), ?_⟩
                try simp only [Act.put, List.setIfInBounds_toArray, List.set_cons_zero, List.set_cons_succ]
                have hy1 := hHeld.trans (by1.mono hHeld.size)
                refine take_call (i := 9) (oi := { dst := some 119, op := Go.Op.call { callee := Go.Callee.value (Go.Operand.func 17), args := #[Go.Operand.tmp 114, Go.Operand.tmp 118], argTypes := #[48, 48] }, type := 4, pos := "law.go:190", after := #[{ on := 4, ground := Go.Ground.data }, { on := 8, ground := Go.Ground.data }, { on := 4, ground := Go.Ground.chain }, { on := 2, ground := Go.Ground.guard }], guard := some (2, false) }) rfl (by kernel_rfl) (by rfl) 17 _ (by go_simp <;> with_reducible rfl) ?_
                refine (SMS.out y1 hy1).mono ?_
                rintro e y2 ⟨rfl, by2⟩
                refine ⟨.bool true, rfl, hy1.trans (by2.mono hy1.size), ?_⟩
                try simp only [Act.put, List.setIfInBounds_toArray, List.set_cons_zero, List.set_cons_succ]
                have hy2 := hy1.trans (by2.mono hy1.size)
                refine take_run (i := 10) (oi := { dst := some 120, op := Go.Op.unOp Go.UnOp.not 4 (Go.Operand.tmp 119), type := 4, pos := "law.go:190", after := #[{ on := 9, ground := Go.Ground.data }, { on := 2, ground := Go.Ground.guard }], guard := some (2, false) }) (v := .bool false) rfl (by kernel_rfl) (by kernel_rfl) (by kernel_rfl) (fun _ _ _ h => h) (by rfl) ?_ hy2 ?_
                · (intro wq hSw; go_simp <;> with_reducible rfl)
                try simp only [Act.put, List.setIfInBounds_toArray, List.set_cons_zero, List.set_cons_succ]
                refine take_run (i := 11) (oi := { dst := some 121, op := Go.Op.pick (Go.Operand.tmp 112) (Go.Operand.const (Go.Value.bool true)) (Go.Operand.tmp 120), type := 4, pos := "law.go:190", after := #[{ on := 2, ground := Go.Ground.data }, { on := 10, ground := Go.Ground.data }], guard := none }) (v := .bool false) rfl (by kernel_rfl) (by kernel_rfl) (by kernel_rfl) (fun _ _ _ h => h) (by rfl) ?_ hy2 ?_
                · (intro wq hSw; go_simp <;> with_reducible rfl)
                try simp only [Act.put, List.setIfInBounds_toArray, List.set_cons_zero, List.set_cons_succ]
                have Y2 : Hid (Below x6.heap.size x6 y2) := hy2
                clear hHeld by1 hy1 by2 hy2
                refine wpAnyH_done (by kernel_rfl) ?_ _
                have K7 : Hid (Kpt w y2 N T2 L3 (.slice (some ⟨g, 0, none⟩) M sc) ms) := K6.out.below Y2.out
                clear K6 R9 SC SMS E6 EP
                go_wp2
                go_roundw
                case rel => exact ⟨i + 1, T2, L3, rfl, ⟨by have := HI.out; omega, hi.out.2⟩, K7.out, TW.out.tail⟩
                case measure => exact less_byN (show i < 101 by have := HI.out; omega)
          · have h3 : ¬ ((i : Int) < (M : Int)) := by omega
            have e0 : L2 = [] := by
              have := hTw.out.1
              rw [List.length_drop] at this
              have := EM.out
              exact List.eq_nil_of_length_eq_zero (by omega)
            subst e0
            have HLn : Calls Try.prog 19 #[.pointer (some ⟨N, 0, none⟩)] wr fun e w' => e = .returned (.int .i64 0) ∧ Below wr.heap.size wr w' := netS_len hK2.out.1
            clear hlt
            go_wp2_with fail
            refine HLn.mono ?_
            rintro e x1 ⟨rfl, b1⟩
            have B1 : Hid (Below w.heap.size w x1) := hK2.out.2.2.trans (b1.mono hK2.out.2.2.size)
            clear HLn b1
            go_wp2_with fail
            refine (knownN_any x1).mono ?_
            rintro e x2 ⟨rfl, b2⟩
            have B2 : Hid (Below w.heap.size w x2) := B1.out.trans (b2.mono B1.out.size)
            clear b2
            go_wp2
            go_ret
            exact ⟨rfl, B2.out⟩
      · have h1 : ¬ ((k : Int) < (ln : Int)) := by omega
        clear hlt hk2 hln
        go_wp2_with fail
        go_loopw [6] (fun iv wr => ∃ (i T : Nat) (L2 : List Post), iv = .int .i64 (i : Int) ∧ Hid (i ≤ M ∧ T ≤ 100) ∧ Hid (Kpt w wr N T L2 (.slice sa M sc) ms) ∧ Hid (Twin L2 (ms.drop i))) (fun iv _ => 101 - (intOf iv).toNat)
        case atStart => exact ⟨0, T, L, rfl, ⟨Nat.zero_le _, hT2.out.2⟩, KK'.out, by rw [List.drop_zero]; exact hT.out.1⟩
        case round =>
          clear KK'
          obtain ⟨i, T2, L2, rfl, hi, hK2, hTw⟩ := hrel
          by_cases hlt : i < M
          · have him : i < ms.length := by have := EM.out; omega
            have kk : Kpt w wr N T2 L2 (.slice sa ms.length sc) ms := by rw [EM.out]; exact hK2.out
            obtain ⟨g, rfl, q0, q1, q2⟩ := kk.at him
            clear q0 q2
            have ed : ms.drop i = ms[i] :: ms.drop (i + 1) := List.drop_eq_getElem_cons him
            obtain ⟨o, eo⟩ : ∃ o, ms[i] = o := ⟨_, rfl⟩
            rw [eo] at q1 ed
            have hne : L2 ≠ [] := fun e => by have := hTw.out.1; rw [e, ed] at this; simp at this
            obtain ⟨p, L3, rfl⟩ := List.exists_cons_of_ne_nil hne
            have tw : Twin (p :: L3) (o :: ms.drop (i + 1)) := by rw [← ed]; exact hTw.out
            have TW : Hid (Twin (p :: L3) (o :: ms.drop (i + 1))) := tw
            have PO : Hid (p.fr = o.f ∧ p.to = o.n ∧ p.b = o.b) := by have := tw.2 0 (by simp) (by simp); show p.fr = o.f ∧ p.to = o.n ∧ p.b = o.b; simpa using this
            have ED : Hid (ms.drop i = o :: ms.drop (i + 1)) := ed
            have EO : Hid (∀ h : i < ms.length, ms[i] = o) := fun _ => eo
            have HI : Hid (i < M ∧ i < ms.length ∧ M ≤ 100) := ⟨hlt, him, by have := hT2.out.1; have := EM.out; omega⟩
            have OA : Hid (o.At w) := by have := hT.out.2 ms[i] (List.getElem_mem him); rw [eo] at this; exact this
            have h3 : (i : Int) < (M : Int) := by omega
            have wi : IntKind.i64.wrap ((i : Int) + 1) = (i : Int) + 1 := by rw [IntKind.wrap_i64]; have := HI.out; omega
            clear hTw ed eo tw hne hlt him kk
            go_wp2_with fail
            obtain ⟨wo, rfl⟩ : ∃ wo : World, wo = wr := ⟨_, rfl⟩
            go_loopw [7, 8] (fun tv kv wr => ∃ (k c q : Nat), tv = .int .i64 (c : Int) ∧ kv = .int .i64 (k : Int) ∧ Hid (i ≤ k ∧ k ≤ M ∧ c = ((ms.take k).drop i).countP (fun x => decide (x.n = o.n)) ∧ c ≤ k) ∧ wr = wo.drewN q) (fun _ kv _ => 101 - (intOf kv).toNat)
            case atStart => exact ⟨i, 0, 0, rfl, rfl, ⟨Nat.le_refl _, by have := HI.out; omega, by rw [List.drop_eq_nil_of_le (by simp; omega)]; rfl, Nat.zero_le _⟩, rfl⟩
            case round =>
              obtain ⟨k, c, q, rfl, rfl, hkk, rfl⟩ := hrel
              by_cases hlt : k < M
              · have hkm : k < ms.length := by have := EM.out; omega
                have kk : Kpt w wo N T2 (p :: L3) (.slice (some ⟨g, 0, none⟩) ms.length sc) ms := by rw [EM.out]; exact hK2.out
                obtain ⟨g', eg, p0, p1, p2⟩ := kk.at hkm
                clear p0 p2
                cases eg
                obtain ⟨x, ex⟩ : ∃ x, ms[k] = x := ⟨_, rfl⟩
                rw [ex] at p1
                have CN : Hid (((ms.take (k + 1)).drop i).countP (fun x => decide (x.n = o.n)) = ((ms.take k).drop i).countP (fun x => decide (x.n = o.n)) + (if decide (x.n = o.n) then 1 else 0)) := by have := count_next hkk.out.1 hkm (fun x => decide (x.n = o.n)); rw [ex] at this; exact this
                have h4 : (k : Int) < (M : Int) := by omega
                have HKk : Hid (k < M ∧ M ≤ 100) := ⟨hlt, HI.out.2.2⟩
                have wk2 : IntKind.i64.wrap ((k : Int) + 1) = (k : Int) + 1 := by rw [IntKind.wrap_i64]; have := HKk.out; omega
                have wc : IntKind.i64.wrap ((c : Int) + 1) = (c : Int) + 1 := by rw [IntKind.wrap_i64]; have := HKk.out; have := hkk.out; omega
                clear kk ex hkm hlt
                by_cases hx : x.n = o.n
                · have CN2 : Hid (c + 1 = ((ms.take (k + 1)).drop i).countP (fun x => decide (x.n = o.n))) := by show _ = _; rw [CN.out, hkk.out.2.2.1, if_pos (by simp [hx])]
                  rw [hx] at p1
                  have e1 : (o.n == o.n) = true := by simp
                  clear hx CN
                  go_wp2_with fail
                  go_quiet (fail)
                  go_wp2
                  go_roundw
                  case rel => exact ⟨k + 1, c + 1, _, rfl, rfl, ⟨by have := hkk.out; omega, by have := HKk.out; omega, CN2.out, by have := hkk.out; omega⟩, rfl⟩
                  case measure => exact less_byN (show k < 101 by have := HKk.out; omega)
                · have CN2 : Hid (c = ((ms.take (k + 1)).drop i).countP (fun x => decide (x.n = o.n))) := by show _ = _; rw [CN.out, hkk.out.2.2.1, if_neg (by simp [hx])]; omega
                  have e1 : (x.n == o.n) = false := by simp [hx]
                  obtain ⟨xn, exn⟩ : ∃ xn, x.n = xn := ⟨_, rfl⟩
                  rw [exn] at p1 e1 hx
                  clear exn CN
                  go_wp2_with fail
                  go_quiet (fail)
                  go_wp2
                  go_roundw
                  case rel => exact ⟨k + 1, c, _, rfl, rfl, ⟨by have := hkk.out; omega, by have := HKk.out; omega, CN2.out, by have := hkk.out; omega⟩, rfl⟩
                  case measure => exact less_byN (show k < 101 by have := HKk.out; omega)
              · have h4 : ¬ ((k : Int) < (M : Int)) := by omega
                have kq : Kpt w (wo.drewN q) N T2 (p :: L3) (.slice (some ⟨g, 0, none⟩) M sc) ms := hK2.out.below ⟨rfl, rfl, rfl, Nat.le_refl _, fun _ _ => rfl⟩
                obtain ⟨Bm, bx, hn⟩ := kq.1.has (by simp)
                have ec : (box (p :: L3) o.n).length = c := by
                  rw [TW.out.box, ← ED.out, hkk.out.2.2.1]
                  have : ms.take k = ms := List.take_of_length_le (by have := EM.out; have := hkk.out; omega)
                  rw [this]
                have HTo := to_any hn (k := o.n) OA.out.hn
                rw [ec] at HTo
                have HLn := len_any hn
                have el : (((p :: L3).length : Nat) : Int) = (M : Int) - (i : Int) := by
                  have := TW.out.1
                  have h6 : (o :: ms.drop (i + 1)).length = ms.length - i := by rw [← ED.out, List.length_drop]
                  have := EM.out
                  have := HI.out
                  omega
                rw [el] at HLn
                have KQ : Hid (Kpt w (wo.drewN q) N T2 (p :: L3) (.slice (some ⟨g, 0, none⟩) M sc) ms) := kq
                have wl : IntKind.i64.wrap ((M : Int) - (i : Int)) = (M : Int) - (i : Int) := by rw [IntKind.wrap_i64]; have := HI.out; omega
                have e1 : ((c : Int) != (c : Int)) = false := by simp
                have e2 : (((M : Int) - (i : Int)) != ((M : Int) - (i : Int))) = false := by simp
                clear hlt kq hn ec el
                go_wp2_with fail
                refine HTo.mono ?_
                rintro e x1 ⟨rfl, hx1⟩
                subst x1
                clear HTo
                go_wp2_with fail
                refine HLn.mono ?_
                rintro e x2 ⟨rfl, bx2⟩
                have k2 := KQ.out.below bx2
                obtain ⟨Bm2, bxx, hn2⟩ := k2.1.has (by simp)
                have HTk : Calls Try.prog 12 #[.pointer (some ⟨N, 0, none⟩), .int .i64 0] x2 _ := take_any hn2 k2.1.1 0 (by have := hi.out; omega)
                have K2 : Hid (Kpt w x2 N T2 (p :: L3) (.slice (some ⟨g, 0, none⟩) M sc) ms) := k2
                clear HLn bx2 k2 hn2 q1 KQ
                go_wp2_with fail
                refine HTk.mono ?_
                clear HTk
                rintro e x3 (⟨y, _⟩ | ⟨j, hj, v, y, rfl, d3, bx3, n3, k3⟩)
                · exact absurd y (by simp)
                obtain rfl : j = 0 := by omega
                simp only [List.getElem_cons_zero] at d3 ⊢
                rw [PO.out.1, PO.out.2.1]
                rw [PO.out.2.2] at d3
                obtain ⟨va, vc, rfl, s3, u3, g3⟩ := d3
                have sm3 : Small L3 := fun r hr => K2.out.1.1 r (List.mem_cons_of_mem _ hr)
                have n3' : NetIn x3 w.heap.size N Bm2 bx3 L3 T2 := n3
                have kp3 : Kpt w x3 N T2 L3 (.slice (some ⟨g, 0, none⟩) M sc) ms := K2.out.nk k3 ⟨sm3, .inr ⟨_, _, n3'⟩⟩
                have ba := (Below.refl _ x3).alloc (Nat.le_refl _) (.cells #[.int .i64 o.f, .int .i64 o.n, .slice va o.b.length vc] 40)
                have r9 := row3 x3 (.int .i64 o.f) (.int .i64 o.n) (.slice va o.b.length vc)
                have kp6 := kp3.below ba
                have s6 := s3.below ba
                obtain ⟨P9, eP9⟩ : ∃ P9, x3.heap.size = P9 := ⟨_, rfl⟩
                rw [eP9] at r9
                obtain ⟨x6, e6⟩ : ∃ x6, x3.alloc (.cells #[.int .i64 o.f, .int .i64 o.n, .slice va o.b.length vc] 40) = x6 := ⟨_, rfl⟩
                rw [e6] at r9 kp6 s6
                have R9 : Hid (∀ X, Below x6.heap.size x6 X → X.heap[P9]? = some (.cells #[.int .i64 o.f, .int .i64 o.n, .slice va o.b.length vc] 40 (0, 0))) := fun X hX => (hX.block P9 (Array.getElem?_eq_some_iff.1 r9).1).trans r9
                have kp6' : Kpt w x6 N T2 L3 (.slice (some ⟨g, 0, none⟩) ms.length sc) ms := by rw [EM.out]; exact kp6
                obtain ⟨g', eg, z0, z1, z2⟩ := kp6'.at HI.out.2.1
                cases eg
                rw [EO.out HI.out.2.1] at z0 z1 z2
                have SC : Hid (∀ X, Below x6.heap.size x6 X → X.cell? ⟨g, i * 3, none⟩ = some (.int .i64 o.f) ∧ X.cell? ⟨g, i * 3 + 1, none⟩ = some (.int .i64 o.n) ∧ X.cell? ⟨g, i * 3 + 2, none⟩ = some (.slice o.a o.b.length o.c)) := fun X hX =>
                  ⟨by rw [hX.cell (p := ⟨g, i * 3, none⟩) (World.block_lt_of_cell? x6 _ z0)]; exact z0, by rw [hX.cell (p := ⟨g, i * 3 + 1, none⟩) (World.block_lt_of_cell? x6 _ z1)]; exact z1, by rw [hX.cell (p := ⟨g, i * 3 + 2, none⟩) (World.block_lt_of_cell? x6 _ z2)]; exact z2⟩
                have SMS : Hid (∀ X, Below x6.heap.size x6 X → Calls Try.prog 17 #[.agg #[.int .i64 o.f, .int .i64 o.n, .slice va o.b.length vc], .agg #[.int .i64 o.f, .int .i64 o.n, .slice o.a o.b.length o.c]] X fun e w' => e = .returned (.bool true) ∧ Below X.heap.size X w') := fun X hX => same_same o.f o.n va o.a vc o.c o.b X (s6.below hX) ((OA.out.below (kp6.2.2.trans (hX.mono kp6.2.2.size))).hb)
                have K6 : Hid (Kpt w x6 N T2 L3 (.slice (some ⟨g, 0, none⟩) M sc) ms) := kp6
                have E6 : Hid _ := e6
                have EP : Hid _ := eP9
                have iM : i < M := HI.out.1
                clear hj y n3 n3' k3 kp3 ba r9 kp6 kp6' s3 s6 u3 g3 z0 z1 z2 sm3 e6 eP9 K2
                go_wp2_with fail
                rw [show _ = x6 from E6.out]
                try rw [show x3.heap.size = P9 from EP.out]
                refine wp_region_held_drew (S := fun X => Below x6.heap.size x6 X) (by kernel_rfl) (Below.refl _ x6).drew (fun hHeld => ?_)
                refine take_run (i := 0) (oi := { dst := some 110, op := Go.Op.move (Go.Operand.tmp 10), type := 37, pos := "law.go:190", after := #[], guard := none }) (v := .int .i64 0) rfl (by kernel_rfl) (by kernel_rfl) (by kernel_rfl) (fun _ _ _ h => h) (by rfl) ?_ hHeld ?_
                · (intro wq hSw; go_simp <;> with_reducible rfl)
                try simp only [Act.put, List.setIfInBounds_toArray, List.set_cons_zero, List.set_cons_succ]
                refine take_run (i := 1) (oi := { dst := some 111, op := Go.Op.binOp Go.BinOp.neq 37 (Go.Operand.tmp 110) (Go.Operand.const (Go.Value.int Go.IntKind.i64 0)) 37, type := 4, pos := "law.go:190", after := #[{ on := 0, ground := Go.Ground.data }], guard := none }) (v := .bool false) rfl (by kernel_rfl) (by kernel_rfl) (by kernel_rfl) (fun _ _ _ h => h) (by rfl) ?_ hHeld ?_
                · (intro wq hSw; go_simp <;> with_reducible rfl)
                try simp only [Act.put, List.setIfInBounds_toArray, List.set_cons_zero, List.set_cons_succ]
                refine take_run (i := 2) (oi := { dst := some 112, op := Go.Op.move (Go.Operand.tmp 111), type := 4, pos := "law.go:190", after := #[{ on := 1, ground := Go.Ground.data }], guard := none }) (v := .bool false) rfl (by kernel_rfl) (by kernel_rfl) (by kernel_rfl) (fun _ _ _ h => h) (by rfl) ?_ hHeld ?_
                · (intro wq hSw; go_simp <;> with_reducible rfl)
                try simp only [Act.put, List.setIfInBounds_toArray, List.set_cons_zero, List.set_cons_succ]
                refine take_row (i := 3) (oi := { dst := some 113, op := Go.Op.load 40 (Go.Operand.tmp 9), type := 40, pos := "law.go:190", after := #[{ on := 2, ground := Go.Ground.guard }], guard := some (2, false) }) rfl (by kernel_rfl) (by kernel_rfl) (by kernel_rfl) 40 (.tmp 9) P9 40 #[.int .i64 o.f, .int .i64 o.n, .slice va o.b.length vc] (0, 0) _ (fun _ _ _ h => h) (by rfl) rfl (by go_simp <;> with_reducible rfl) (fun X hX => R9.out X hX) Try.underlying40 rfl (by kernel_rfl) hHeld ?_
                try simp only [Act.put, List.setIfInBounds_toArray, List.set_cons_zero, List.set_cons_succ]
                refine take_run (i := 5) (oi := { dst := some 115, op := Go.Op.move (Go.Operand.tmp 4), type := 26, pos := "law.go:190", after := #[{ on := 2, ground := Go.Ground.guard }], guard := some (2, false) }) (v := .slice (some ⟨g, 0, none⟩) M sc) rfl (by kernel_rfl) (by kernel_rfl) (by kernel_rfl) (fun _ _ _ h => h) (by rfl) ?_ hHeld ?_
                · (intro wq hSw; go_simp <;> with_reducible rfl)
                try simp only [Act.put, List.setIfInBounds_toArray, List.set_cons_zero, List.set_cons_succ]
                refine take_run (i := 6) (oi := { dst := some 116, op := Go.Op.move (Go.Operand.tmp 6), type := 3, pos := "law.go:190", after := #[{ on := 2, ground := Go.Ground.guard }], guard := some (2, false) }) (v := .int .i64 (i : Int)) rfl (by kernel_rfl) (by kernel_rfl) (by kernel_rfl) (fun _ _ _ h => h) (by rfl) ?_ hHeld ?_
                · (intro wq hSw; go_simp <;> with_reducible rfl)
                try simp only [Act.put, List.setIfInBounds_toArray, List.set_cons_zero, List.set_cons_succ]
                refine take_run (i := 7) (oi := { dst := some 117, op := Go.Op.indexAddr 26 (Go.Operand.tmp 115) (Go.Operand.tmp 116), type := 0, pos := "law.go:190", after := #[{ on := 5, ground := Go.Ground.data }, { on := 6, ground := Go.Ground.data }, { on := 2, ground := Go.Ground.guard }], guard := some (2, false) }) (v := .pointer (some ⟨g, i * 3, none⟩)) rfl (by kernel_rfl) (by kernel_rfl) (by kernel_rfl) (fun _ _ _ h => h) (by rfl) ?_ hHeld ?_
                · (intro wq hSw; go_simp <;> with_reducible rfl)
                try simp only [Act.put, List.setIfInBounds_toArray, List.set_cons_zero, List.set_cons_succ]
                refine take_run (i := 8) (oi := { dst := some 118, op := Go.Op.load 48 (Go.Operand.tmp 117), type := 48, pos := "law.go:190", after := #[{ on := 7, ground := Go.Ground.data }, { on := 2, ground := Go.Ground.guard }], guard := some (2, false) }) (v := .agg #[.int .i64 o.f, .int .i64 o.n, .slice o.a o.b.length o.c]) rfl (by kernel_rfl) (by kernel_rfl) (by kernel_rfl) (fun _ _ _ h => h) (by rfl) ?_ hHeld ?_
                · (intro wq hSw; have c0 := (SC.out wq hSw).1; have c1 := (SC.out wq hSw).2.1; have c2 := (SC.out wq hSw).2.2; go_simp <;> with_reducible rfl)
                try simp only [Act.put, List.setIfInBounds_toArray, List.set_cons_zero, List.set_cons_succ]
                refine take_call (i := 4) (oi := { dst := some 114, op := Go.Op.call { callee := Go.Callee.value (Go.Operand.func 18), args := #[Go.Operand.tmp 113], argTypes := #[40] }, type := 48, pos := "law.go:190", after := #[{ on := 3, ground := Go.Ground.data }, { on := 2, ground := Go.Ground.chain }, { on := 2, ground := Go.Ground.guard }], guard := some (2, false) }) rfl (by kernel_rfl) (by rfl) 18 _ (by go_simp <;> with_reducible rfl) ?_
                refine (as_any o.f o.n va o.b.length vc _).mono ?_
                rintro e y1 ⟨rfl, by1⟩
                refine ⟨.agg #[.int .i64 o.f, .int .i64 o.n, .slice va o.b.length vc], rfl, hHeld.trans (by1.mono hHeld.size), ?_⟩
                try simp only [Act.put, List.setIfInBounds_toArray, List.set_cons_zero, List.set_cons_succ]
                have hy1 := hHeld.trans (by1.mono hHeld.size)
                refine take_call (i := 9) (oi := { dst := some 119, op := Go.Op.call { callee := Go.Callee.value (Go.Operand.func 17), args := #[Go.Operand.tmp 114, Go.Operand.tmp 118], argTypes := #[48, 48] }, type := 4, pos := "law.go:190", after := #[{ on := 4, ground := Go.Ground.data }, { on := 8, ground := Go.Ground.data }, { on := 4, ground := Go.Ground.chain }, { on := 2, ground := Go.Ground.guard }], guard := some (2, false) }) rfl (by kernel_rfl) (by rfl) 17 _ (by go_simp <;> with_reducible rfl) ?_
                refine (SMS.out y1 hy1).mono ?_
                rintro e y2 ⟨rfl, by2⟩
                refine ⟨.bool true, rfl, hy1.trans (by2.mono hy1.size), ?_⟩
                try simp only [Act.put, List.setIfInBounds_toArray, List.set_cons_zero, List.set_cons_succ]
                have hy2 := hy1.trans (by2.mono hy1.size)
                refine take_run (i := 10) (oi := { dst := some 120, op := Go.Op.unOp Go.UnOp.not 4 (Go.Operand.tmp 119), type := 4, pos := "law.go:190", after := #[{ on := 9, ground := Go.Ground.data }, { on := 2, ground := Go.Ground.guard }], guard := some (2, false) }) (v := .bool false) rfl (by kernel_rfl) (by kernel_rfl) (by kernel_rfl) (fun _ _ _ h => h) (by rfl) ?_ hy2 ?_
                · (intro wq hSw; go_simp <;> with_reducible rfl)
                try simp only [Act.put, List.setIfInBounds_toArray, List.set_cons_zero, List.set_cons_succ]
                refine take_run (i := 11) (oi := { dst := some 121, op := Go.Op.pick (Go.Operand.tmp 112) (Go.Operand.const (Go.Value.bool true)) (Go.Operand.tmp 120), type := 4, pos := "law.go:190", after := #[{ on := 2, ground := Go.Ground.data }, { on := 10, ground := Go.Ground.data }], guard := none }) (v := .bool false) rfl (by kernel_rfl) (by kernel_rfl) (by kernel_rfl) (fun _ _ _ h => h) (by rfl) ?_ hy2 ?_
                · (intro wq hSw; go_simp <;> with_reducible rfl)
                try simp only [Act.put, List.setIfInBounds_toArray, List.set_cons_zero, List.set_cons_succ]
                have Y2 : Hid (Below x6.heap.size x6 y2) := hy2
                clear hHeld by1 hy1 by2 hy2
                refine wpAnyH_done (by kernel_rfl) ?_ _
                have K7 : Hid (Kpt w y2 N T2 L3 (.slice (some ⟨g, 0, none⟩) M sc) ms) := K6.out.below Y2.out
                clear K6 R9 SC SMS E6 EP
                go_wp2
                go_roundw
                case rel => exact ⟨i + 1, T2, L3, rfl, ⟨by have := HI.out; omega, hi.out.2⟩, K7.out, TW.out.tail⟩
                case measure => exact less_byN (show i < 101 by have := HI.out; omega)
          · have h3 : ¬ ((i : Int) < (M : Int)) := by omega
            have e0 : L2 = [] := by
              have := hTw.out.1
              rw [List.length_drop] at this
              have := EM.out
              exact List.eq_nil_of_length_eq_zero (by omega)
            subst e0
            have HLn : Calls Try.prog 19 #[.pointer (some ⟨N, 0, none⟩)] wr fun e w' => e = .returned (.int .i64 0) ∧ Below wr.heap.size wr w' := netS_len hK2.out.1
            clear hlt
            go_wp2_with fail
            refine HLn.mono ?_
            rintro e x1 ⟨rfl, b1⟩
            have B1 : Hid (Below w.heap.size w x1) := hK2.out.2.2.trans (b1.mono hK2.out.2.2.size)
            clear HLn b1
            go_wp2_with fail
            refine (knownN_any x1).mono ?_
            rintro e x2 ⟨rfl, b2⟩
            have B2 : Hid (Below w.heap.size w x2) := B1.out.trans (b2.mono B1.out.size)
            clear b2
            go_wp2
            go_ret
            exact ⟨rfl, B2.out⟩
end Go.Proofs.Ytginkikkenegkaa
