/- What Crash does. -/
import Derived.Test.YtnpebdnfdbeiaaaDSync
namespace Go.Proofs.Ytnpebdnfdbeiaaa
open Go.RowKit
set_option linter.unusedVariables false

/-- Numbers in memory. -/
def IAt (w : World) (a : Option Addr) (n : Nat) (zs : List Int) : Prop :=
  n = zs.length ∧ zs.length ≤ maxLen ∧ (∀ z ∈ zs, -9223372036854775808 ≤ z ∧ z < 9223372036854775808) ∧ (n = 0 ∨ ∃ b off, a = some ⟨b, off, none⟩ ∧ ∀ j (hj : j < zs.length), w.cell? ⟨b, off + j, none⟩ = some (.int .i64 zs[j]))
theorem IAt.below {w w' : World} {a : Option Addr} {n : Nat} {zs : List Int} (h : IAt w a n zs) (hb : Below w.heap.size w w') : IAt w' a n zs := by
  obtain ⟨h1, h2, h3, h4⟩ := h
  refine ⟨h1, h2, h3, h4.imp id ?_⟩
  rintro ⟨b, off, ha, hc⟩
  refine ⟨b, off, ha, fun j hj => ?_⟩
  rw [hb.cell (p := ⟨b, off + j, none⟩) (World.block_lt_of_cell? w _ (hc j hj))]
  exact hc j hj
theorem reachSome_nil (l : List (BitVec 8)) (zs : List Int) : reachSome l [] zs = l := by cases zs <;> rfl
theorem reachSome_take : ∀ (ws : List (Nat × List (BitVec 8))) (zs : List Int) (l : List (BitVec 8)) (k : Nat) (h1 : k < ws.length) (h2 : k < zs.length), reachSome l (ws.take (k + 1)) (zs.take (k + 1)) = patch (reachSome l (ws.take k) (zs.take k)) ws[k].1 (ws[k].2.take (clamp zs[k]))
  | x :: ws, z :: zs, l, 0, _, _ => by simp [reachSome, reachSome_nil]
  | x :: ws, z :: zs, l, k + 1, h1, h2 => by
    simp only [List.take_succ_cons, reachSome]
    exact reachSome_take ws zs _ k (by simpa using h1) (by simpa using h2)
theorem reachSome_min : ∀ (ws : List (Nat × List (BitVec 8))) (zs : List Int) (l : List (BitVec 8)) (k : Nat), k = min zs.length ws.length → reachSome l (ws.take k) (zs.take k) = reachSome l ws zs
  | [], zs, l, k, h => by cases zs <;> simp [reachSome_nil, reachSome]
  | x :: ws, [], l, k, h => by
    have : k = 0 := by simpa using h
    subst this
    simp [reachSome]
  | x :: ws, z :: zs, l, k, h => by
    obtain ⟨j, rfl⟩ : ∃ j, k = j + 1 := ⟨k - 1, by simp at h; omega⟩
    simp only [List.take_succ_cons, reachSome]
    exact reachSome_min ws zs _ j (by simp at h; omega)
theorem again_take {ws : List (Nat × List (BitVec 8))} {k : Nat} (hk : k < ws.length) (img l : List (BitVec 8)) : again img l (ws.take (k + 1)) = patch (again img l (ws.take k)) ws[k].1 (sec img ws[k].1) := by
  unfold again
  rw [List.take_add_one, List.foldl_append]
  simp [hk]
theorem Only.cell {m : DM} {w w' : World} (h : Only m w w') {p : Addr} {v : Value} (hp : w.cell? p = some v) (ho : ¬ m.own p.block) : w'.cell? p = some v := by
  rw [World.cell?_of_block (w := w) (h.block p.block (World.block_lt_of_cell? w _ hp) ho)]
  exact hp
theorem crash_nil (v : Value) (w : World) : Calls Try.prog 17 #[.pointer none, v] w fun e w' => e = .returned (.int .i64 2) ∧ w' = w := by
  go_enter Try.func17, Try.ntmps17
  go_wp2
  go_ret
  exact ⟨rfl, rfl⟩
set_option maxRecDepth 100000 in
set_option maxHeartbeats 4000000 in
theorem crash_any (m : DM) (n : Nat) (s : DS) (a : Option Addr) (len cap : Nat) (zs : List Int) (w : World) (h : Dsk w m n s) (hz : IAt w a len zs) (hno : ∀ y, a = some y → zs ≠ [] → ¬ m.own y.block) :
    Calls Try.prog 17 #[.pointer (some ⟨m.D, 0, none⟩), .slice a len cap] w fun e w' => ∃ m', e = .returned (.int .i64 0) ∧ m'.D = m.D ∧ Dsk w' m' n (crashD s zs) ∧ Only m w w' ∧ m.next m' w.heap.size := by
  obtain ⟨aw, cw, hwv, hgw⟩ := h.wform
  obtain ⟨_, _, c2, _⟩ := h.cells
  rw [hwv] at c2
  have H : Hid (Dsk w m n s) := h
  have HZ : Hid (IAt w a len zs) := hz
  have HNO : Hid (∀ y, a = some y → zs ≠ [] → ¬ m.own y.block) := hno
  have HWV : Hid (m.wv = .slice aw s.ws.length cw) := hwv
  obtain ⟨K, hK⟩ : ∃ K : Nat, K = min zs.length s.ws.length := ⟨_, rfl⟩
  have hmin : min (len : Int) (s.ws.length : Int) = (K : Int) := by rw [hK, hz.1]; omega
  have HKK : Hid (K = min zs.length s.ws.length) := hK
  have HMin : Hid (min (len : Int) (s.ws.length : Int) = (K : Int)) := hmin
  have HLen : Hid (len = zs.length) := hz.1
  clear h hz hno hwv hK hmin
  go_enter Try.func17, Try.ntmps17
  go_wp2_with (refine wpList_value rfl (exec_min (x := .tmp 11) (y := .tmp 16) rfl rfl rfl HMin.out) ?_)
  go_loopw [18] (fun i wr => ∃ k : Nat, i = .int .i64 k ∧ Hid (k ≤ K) ∧ Hid (Dsk wr m n { s with img := reachSome s.img (s.ws.take k) (zs.take k) } ∧ Only m w wr))
    (fun i _ => K - (intOf i).toNat)
  case atStart => exact ⟨0, rfl, Nat.zero_le _, ⟨by simp only [List.take_zero, reachSome]; exact H.out, Only.refl m w⟩⟩
  case round =>
    obtain ⟨k, rfl, hk, hD⟩ := hrel
    by_cases hlt : k < K
    · have hk1 : k < s.ws.length := by have := HKK.out; omega
      have hk2 : k < zs.length := by have := HKK.out; omega
      obtain ⟨b, off, rfl, hcell⟩ : ∃ b off, a = some ⟨b, off, none⟩ ∧ ∀ j (hj : j < zs.length), w.cell? ⟨b, off + j, none⟩ = some (.int .i64 zs[j]) := by
        rcases HZ.out.2.2.2 with h0 | h0
        · have := HLen.out; omega
        · exact h0
      obtain ⟨z, hzk⟩ : ∃ z, zs[k] = z := ⟨_, rfl⟩
      have ck := hcell k hk2
      rw [hzk] at ck
      have ck' : wr.cell? ⟨b, off + k, none⟩ = some (.int .i64 z) := hD.out.2.cell ck (HNO.out ⟨b, off, none⟩ rfl (fun e => by rw [e] at hk2; simp at hk2))
      have HCL : Hid (min (max z 0) 256 = ((clamp z : Nat) : Int)) := by show min (max z 0) 256 = ((clamp z : Nat) : Int); unfold clamp; omega
      have HR := reach_any m n _ k (clamp z) wr hD.out.1 hk1 (clamp_le z)
      have er := reachSome_take s.ws zs s.img k hk1 hk2
      rw [hzk] at er
      have HE : Hid _ := er
      have h1 : (k : Int) < (K : Int) := by omega
      have h2 : (k : Int) < (len : Int) := by have := HLen.out; omega
      have HLT : Hid (k < K) := hlt
      have WK : Hid (wrap64 ((k : Int) + 1) = ((k + 1 : Nat) : Int)) := by show wrap64 ((k : Int) + 1) = ((k + 1 : Nat) : Int); have := H.out.ok.lk; unfold wrap64; omega
      clear hcell ck er
      go_wp2_with (first
        | refine wpList_value rfl (exec_max (x := .tmp 26) (y := .const (.int .i64 0)) rfl rfl rfl rfl) ?_
        | refine wpList_value rfl (exec_min (x := .tmp 27) (y := .const (.int .i64 256)) rfl rfl rfl HCL.out) ?_)
      refine HR.mono ?_
      rintro e w1 ⟨⟨v, rfl⟩, d1, o1⟩
      have D1 : Hid (Dsk w1 m n { s with img := reachSome s.img (s.ws.take (k + 1)) (zs.take (k + 1)) } ∧ Only m w w1) := ⟨by rw [HE.out]; exact d1, hD.out.2.trans (DM.next.refl m _) o1⟩
      clear d1 o1
      go_wp2
      rw [WK.out]
      go_roundw
      case rel => exact ⟨k + 1, rfl, HLT.out, D1.out⟩
      case measure => exact less_by HLT.out
    · have hkk : k = K := by have := hk.out; omega
      have h1 : ¬ (k : Int) < (K : Int) := by omega
      have e3 := reachSome_min s.ws zs s.img k (by rw [hkk]; exact HKK.out)
      rw [e3] at hD
      obtain ⟨I, hI⟩ : ∃ I, reachSome s.img s.ws zs = I := ⟨_, rfl⟩
      have HCO : Hid (crashD s zs = ⟨I, again I s.now s.ws, [], false, false, false⟩) := by show crashD s zs = _; unfold crashD; rw [hI]
      rw [hI] at hD
      obtain ⟨_, _, c2', _⟩ := hD.out.1.cells
      rw [HWV.out] at c2'
      clear hkk e3 hI hlt c2 HKK HMin hk HZ HNO HLen
      go_wp2_with fail
      go_loopw [36] (fun i wr => ∃ k : Nat, i = .int .i64 k ∧ Hid (k ≤ s.ws.length) ∧ Hid (Dsk wr m n { s with img := I, now := again I s.now (s.ws.take k) } ∧ Only m w wr))
        (fun i _ => s.ws.length - (intOf i).toNat)
      case atStart => exact ⟨0, rfl, Nat.zero_le _, ⟨hD.out.1, hD.out.2⟩⟩
      case round =>
        clear hD
        obtain ⟨j, rfl, hj, hD⟩ := hrel
        by_cases hlt : j < s.ws.length
        · obtain ⟨g, c, hwv, gi, gn, gD, cx, _⟩ := hD.out.1.wcell_at hlt
          have er := again_take hlt I s.now
          have hxo := (H.out.ok.lw _ (List.getElem_mem hlt)).1
          obtain ⟨x, hx⟩ : ∃ x, s.ws[j] = x := ⟨_, rfl⟩
          have cx' : wr.cell? ⟨g, j * 257, none⟩ = some (.int .i64 (x.1 : Int)) := by rw [cx]; show some (Value.int .i64 ((s.ws[j]).1 : Int)) = _; rw [hx]
          rw [hx] at er hxo
          obtain ⟨d0, d1, d2, _⟩ := hD.out.1.cells
          rw [hwv] at d2
          have hd := hD.out.1.below (Below.refl _ wr).drew
          obtain ⟨v, w1, hc, dd, jj⟩ := hd.patch_now hxo (some ⟨m.gi, 256 * x.1, none⟩) 256 _ (hd.seen_img hxo) 3
          have HS1 := sector_any m.gn (256 * n) m.cn x.1 wr.drew (by have := H.out.ok.n2; omega) H.out.caps.2 (by have := H.out.ok.n2; omega)
          have HS2 := sector_any m.gi (256 * n) m.ci x.1 wr.drew (by have := H.out.ok.n2; omega) H.out.caps.1 (by have := H.out.ok.n2; omega)
          have FIN : Hid (Dsk w1 m n { s with img := I, now := again I s.now (s.ws.take (j + 1)) } ∧ Only m w w1) := ⟨by rw [er]; exact dd, hD.out.2.trans (DM.next.refl m _) ((jj.only (.inr (.inr (.inl rfl)))).drew)⟩
          have HCp : Hid _ := hc
          have h3 : (j : Int) < (s.ws.length : Int) := by omega
          have HLT : Hid (j < s.ws.length) := hlt
          have WK : Hid (wrap64 ((j : Int) + 1) = ((j + 1 : Nat) : Int)) := by show wrap64 ((j : Int) + 1) = ((j + 1 : Nat) : Int); have := H.out.ok.lk; unfold wrap64; omega
          clear cx er hxo hx hwv hd dd jj hc
          go_wp2_with fail
          refine (wpIn_wide (n := 1)).1 ?_
          refine wpIn_region_any (by kernel_rfl) ?_
          change wpAnyIn _ _ _ _ _ _ _ _ _ (World.drew _)
          refine any_take 0 (oi := { dst := some 47, op := Go.Op.move (Go.Operand.tmp 0), type := 24, pos := "disk.go:158", after := #[], guard := none }) (.pointer (some ⟨m.D, 0, none⟩)) rfl (by kernel_rfl) (by kernel_rfl) (by kernel_rfl) (fun _ _ _ h => h) (by rfl) (by intro wq; go_simp <;> with_reducible rfl) (fun _ => rfl) ?_
          simp only [Act.put, List.setIfInBounds_toArray, List.set_cons_zero, List.set_cons_succ]
          refine any_take 1 (oi := { dst := some 48, op := Go.Op.nilCheck (Go.Operand.tmp 47), type := 0, pos := "disk.go:158", after := #[{ on := 0, ground := Go.Ground.data }], guard := none }) (.pointer (some ⟨m.D, 0, none⟩)) rfl (by kernel_rfl) (by kernel_rfl) (by kernel_rfl) (fun _ _ _ h => h) (by rfl) (by intro wq; go_simp <;> with_reducible rfl) (fun _ => rfl) ?_
          simp only [Act.put, List.setIfInBounds_toArray, List.set_cons_zero, List.set_cons_succ]
          refine any_take 2 (oi := { dst := some 49, op := Go.Op.fieldAddr 54 (Go.Operand.tmp 48) 1, type := 0, pos := "disk.go:158", after := #[{ on := 1, ground := Go.Ground.data }], guard := none }) (.pointer (some ⟨m.D, 1, none⟩)) rfl (by kernel_rfl) (by kernel_rfl) (by kernel_rfl) (fun _ _ _ h => h) (by rfl) (by intro wq; go_simp <;> with_reducible rfl) (fun _ => rfl) ?_
          simp only [Act.put, List.setIfInBounds_toArray, List.set_cons_zero, List.set_cons_succ]
          refine any_take 4 (oi := { dst := some 51, op := Go.Op.move (Go.Operand.tmp 7), type := 3, pos := "disk.go:158", after := #[], guard := none }) (.int .i64 (x.1 : Int)) rfl (by kernel_rfl) (by kernel_rfl) (by kernel_rfl) (fun _ _ _ h => h) (by rfl) (by intro wq; go_simp <;> with_reducible rfl) (fun _ => rfl) ?_
          simp only [Act.put, List.setIfInBounds_toArray, List.set_cons_zero, List.set_cons_succ]
          refine any_take 6 (oi := { dst := some 53, op := Go.Op.move (Go.Operand.tmp 0), type := 24, pos := "disk.go:158", after := #[], guard := none }) (.pointer (some ⟨m.D, 0, none⟩)) rfl (by kernel_rfl) (by kernel_rfl) (by kernel_rfl) (fun _ _ _ h => h) (by rfl) (by intro wq; go_simp <;> with_reducible rfl) (fun _ => rfl) ?_
          simp only [Act.put, List.setIfInBounds_toArray, List.set_cons_zero, List.set_cons_succ]
          refine any_take 7 (oi := { dst := some 54, op := Go.Op.nilCheck (Go.Operand.tmp 53), type := 0, pos := "disk.go:158", after := #[{ on := 6, ground := Go.Ground.data }], guard := none }) (.pointer (some ⟨m.D, 0, none⟩)) rfl (by kernel_rfl) (by kernel_rfl) (by kernel_rfl) (fun _ _ _ h => h) (by rfl) (by intro wq; go_simp <;> with_reducible rfl) (fun _ => rfl) ?_
          simp only [Act.put, List.setIfInBounds_toArray, List.set_cons_zero, List.set_cons_succ]
          refine any_take 8 (oi := { dst := some 55, op := Go.Op.fieldAddr 54 (Go.Operand.tmp 54) 0, type := 0, pos := "disk.go:158", after := #[{ on := 7, ground := Go.Ground.data }], guard := none }) (.pointer (some ⟨m.D, 0, none⟩)) rfl (by kernel_rfl) (by kernel_rfl) (by kernel_rfl) (fun _ _ _ h => h) (by rfl) (by intro wq; go_simp <;> with_reducible rfl) (fun _ => rfl) ?_
          simp only [Act.put, List.setIfInBounds_toArray, List.set_cons_zero, List.set_cons_succ]
          refine any_take 10 (oi := { dst := some 57, op := Go.Op.move (Go.Operand.tmp 7), type := 3, pos := "disk.go:158", after := #[], guard := none }) (.int .i64 (x.1 : Int)) rfl (by kernel_rfl) (by kernel_rfl) (by kernel_rfl) (fun _ _ _ h => h) (by rfl) (by intro wq; go_simp <;> with_reducible rfl) (fun _ => rfl) ?_
          simp only [Act.put, List.setIfInBounds_toArray, List.set_cons_zero, List.set_cons_succ]
          refine any_two 3 9 (by kernel_rfl) ?_ ?_
          · -- 3
            refine op_value (.slice (some ⟨m.gn, 0, none⟩) (256 * n) m.cn) (i := 3) (oi := { dst := some 50, op := Go.Op.load 22 (Go.Operand.tmp 49), type := 22, pos := "disk.go:158", after := #[{ on := 2, ground := Go.Ground.data }], guard := none }) rfl (by rfl) (by go_simp <;> with_reducible rfl) ?_
            simp only [Act.put, List.setIfInBounds_toArray, List.set_cons_zero, List.set_cons_succ]
            refine any_two 5 9 (by kernel_rfl) ?_ ?_
            · -- 5
              refine op_call (i := 5) (oi := { dst := some 52, op := Go.Op.call { callee := Go.Callee.value (Go.Operand.func 36), args := #[Go.Operand.tmp 50, Go.Operand.tmp 51], argTypes := #[22, 3] }, type := 22, pos := "disk.go:158", after := #[{ on := 3, ground := Go.Ground.data }, { on := 4, ground := Go.Ground.data }], guard := none }) 36 _ rfl (by rfl) (by go_simp <;> with_reducible rfl) ?_
              refine (HS1).mono ?_
              rintro e w9 ⟨rfl, rfl⟩
              refine ⟨_, rfl, ?_⟩
              simp only [Act.put, List.setIfInBounds_toArray, List.set_cons_zero, List.set_cons_succ]
              refine any_one 9 (by kernel_rfl) ?_
              refine op_value (.slice (some ⟨m.gi, 0, none⟩) (256 * n) m.ci) (i := 9) (oi := { dst := some 56, op := Go.Op.load 22 (Go.Operand.tmp 55), type := 22, pos := "disk.go:158", after := #[{ on := 8, ground := Go.Ground.data }], guard := none }) rfl (by rfl) (by go_simp <;> with_reducible rfl) ?_
              simp only [Act.put, List.setIfInBounds_toArray, List.set_cons_zero, List.set_cons_succ]
              refine any_one 11 (by kernel_rfl) ?_
              refine op_call (i := 11) (oi := { dst := some 58, op := Go.Op.call { callee := Go.Callee.value (Go.Operand.func 36), args := #[Go.Operand.tmp 56, Go.Operand.tmp 57], argTypes := #[22, 3] }, type := 22, pos := "disk.go:158", after := #[{ on := 9, ground := Go.Ground.data }, { on := 10, ground := Go.Ground.data }, { on := 5, ground := Go.Ground.chain }], guard := none }) 36 _ rfl (by rfl) (by go_simp <;> with_reducible rfl) ?_
              refine (HS2).mono ?_
              rintro e w9 ⟨rfl, rfl⟩
              refine ⟨_, rfl, ?_⟩
              simp only [Act.put, List.setIfInBounds_toArray, List.set_cons_zero, List.set_cons_succ]
              refine any_one 12 (by kernel_rfl) ?_
              refine op_value (v) (i := 12) (oi := { dst := some 59, op := Go.Op.call { callee := Go.Callee.builtin Go.Builtin.copy, args := #[Go.Operand.tmp 52, Go.Operand.tmp 58], argTypes := #[22, 22] }, type := 3, pos := "disk.go:158", after := #[{ on := 5, ground := Go.Ground.data }, { on := 11, ground := Go.Ground.data }, { on := 11, ground := Go.Ground.chain }], guard := none }) rfl (by rfl) (exec_copy (t := 22) (tn := 22) rfl rfl rfl HCp.out) ?_
              simp only [Act.put, List.setIfInBounds_toArray, List.set_cons_zero, List.set_cons_succ]
              refine wpAnyIn_done (by kernel_rfl) ?_ _
              go_wp2
              rw [WK.out]
              go_roundw
              case rel => exact ⟨j + 1, rfl, HLT.out, FIN.out⟩
              case measure => exact less_by HLT.out
            · -- 9
              refine op_value (.slice (some ⟨m.gi, 0, none⟩) (256 * n) m.ci) (i := 9) (oi := { dst := some 56, op := Go.Op.load 22 (Go.Operand.tmp 55), type := 22, pos := "disk.go:158", after := #[{ on := 8, ground := Go.Ground.data }], guard := none }) rfl (by rfl) (by go_simp <;> with_reducible rfl) ?_
              simp only [Act.put, List.setIfInBounds_toArray, List.set_cons_zero, List.set_cons_succ]
              refine any_one 5 (by kernel_rfl) ?_
              refine op_call (i := 5) (oi := { dst := some 52, op := Go.Op.call { callee := Go.Callee.value (Go.Operand.func 36), args := #[Go.Operand.tmp 50, Go.Operand.tmp 51], argTypes := #[22, 3] }, type := 22, pos := "disk.go:158", after := #[{ on := 3, ground := Go.Ground.data }, { on := 4, ground := Go.Ground.data }], guard := none }) 36 _ rfl (by rfl) (by go_simp <;> with_reducible rfl) ?_
              refine (HS1).mono ?_
              rintro e w9 ⟨rfl, rfl⟩
              refine ⟨_, rfl, ?_⟩
              simp only [Act.put, List.setIfInBounds_toArray, List.set_cons_zero, List.set_cons_succ]
              refine any_one 11 (by kernel_rfl) ?_
              refine op_call (i := 11) (oi := { dst := some 58, op := Go.Op.call { callee := Go.Callee.value (Go.Operand.func 36), args := #[Go.Operand.tmp 56, Go.Operand.tmp 57], argTypes := #[22, 3] }, type := 22, pos := "disk.go:158", after := #[{ on := 9, ground := Go.Ground.data }, { on := 10, ground := Go.Ground.data }, { on := 5, ground := Go.Ground.chain }], guard := none }) 36 _ rfl (by rfl) (by go_simp <;> with_reducible rfl) ?_
              refine (HS2).mono ?_
              rintro e w9 ⟨rfl, rfl⟩
              refine ⟨_, rfl, ?_⟩
              simp only [Act.put, List.setIfInBounds_toArray, List.set_cons_zero, List.set_cons_succ]
              refine any_one 12 (by kernel_rfl) ?_
              refine op_value (v) (i := 12) (oi := { dst := some 59, op := Go.Op.call { callee := Go.Callee.builtin Go.Builtin.copy, args := #[Go.Operand.tmp 52, Go.Operand.tmp 58], argTypes := #[22, 22] }, type := 3, pos := "disk.go:158", after := #[{ on := 5, ground := Go.Ground.data }, { on := 11, ground := Go.Ground.data }, { on := 11, ground := Go.Ground.chain }], guard := none }) rfl (by rfl) (exec_copy (t := 22) (tn := 22) rfl rfl rfl HCp.out) ?_
              simp only [Act.put, List.setIfInBounds_toArray, List.set_cons_zero, List.set_cons_succ]
              refine wpAnyIn_done (by kernel_rfl) ?_ _
              go_wp2
              rw [WK.out]
              go_roundw
              case rel => exact ⟨j + 1, rfl, HLT.out, FIN.out⟩
              case measure => exact less_by HLT.out
          · -- 9
            refine op_value (.slice (some ⟨m.gi, 0, none⟩) (256 * n) m.ci) (i := 9) (oi := { dst := some 56, op := Go.Op.load 22 (Go.Operand.tmp 55), type := 22, pos := "disk.go:158", after := #[{ on := 8, ground := Go.Ground.data }], guard := none }) rfl (by rfl) (by go_simp <;> with_reducible rfl) ?_
            simp only [Act.put, List.setIfInBounds_toArray, List.set_cons_zero, List.set_cons_succ]
            refine any_one 3 (by kernel_rfl) ?_
            refine op_value (.slice (some ⟨m.gn, 0, none⟩) (256 * n) m.cn) (i := 3) (oi := { dst := some 50, op := Go.Op.load 22 (Go.Operand.tmp 49), type := 22, pos := "disk.go:158", after := #[{ on := 2, ground := Go.Ground.data }], guard := none }) rfl (by rfl) (by go_simp <;> with_reducible rfl) ?_
            simp only [Act.put, List.setIfInBounds_toArray, List.set_cons_zero, List.set_cons_succ]
            refine any_one 5 (by kernel_rfl) ?_
            refine op_call (i := 5) (oi := { dst := some 52, op := Go.Op.call { callee := Go.Callee.value (Go.Operand.func 36), args := #[Go.Operand.tmp 50, Go.Operand.tmp 51], argTypes := #[22, 3] }, type := 22, pos := "disk.go:158", after := #[{ on := 3, ground := Go.Ground.data }, { on := 4, ground := Go.Ground.data }], guard := none }) 36 _ rfl (by rfl) (by go_simp <;> with_reducible rfl) ?_
            refine (HS1).mono ?_
            rintro e w9 ⟨rfl, rfl⟩
            refine ⟨_, rfl, ?_⟩
            simp only [Act.put, List.setIfInBounds_toArray, List.set_cons_zero, List.set_cons_succ]
            refine any_one 11 (by kernel_rfl) ?_
            refine op_call (i := 11) (oi := { dst := some 58, op := Go.Op.call { callee := Go.Callee.value (Go.Operand.func 36), args := #[Go.Operand.tmp 56, Go.Operand.tmp 57], argTypes := #[22, 3] }, type := 22, pos := "disk.go:158", after := #[{ on := 9, ground := Go.Ground.data }, { on := 10, ground := Go.Ground.data }, { on := 5, ground := Go.Ground.chain }], guard := none }) 36 _ rfl (by rfl) (by go_simp <;> with_reducible rfl) ?_
            refine (HS2).mono ?_
            rintro e w9 ⟨rfl, rfl⟩
            refine ⟨_, rfl, ?_⟩
            simp only [Act.put, List.setIfInBounds_toArray, List.set_cons_zero, List.set_cons_succ]
            refine any_one 12 (by kernel_rfl) ?_
            refine op_value (v) (i := 12) (oi := { dst := some 59, op := Go.Op.call { callee := Go.Callee.builtin Go.Builtin.copy, args := #[Go.Operand.tmp 52, Go.Operand.tmp 58], argTypes := #[22, 22] }, type := 3, pos := "disk.go:158", after := #[{ on := 5, ground := Go.Ground.data }, { on := 11, ground := Go.Ground.data }, { on := 11, ground := Go.Ground.chain }], guard := none }) rfl (by rfl) (exec_copy (t := 22) (tn := 22) rfl rfl rfl HCp.out) ?_
            simp only [Act.put, List.setIfInBounds_toArray, List.set_cons_zero, List.set_cons_succ]
            refine wpAnyIn_done (by kernel_rfl) ?_ _
            go_wp2
            rw [WK.out]
            go_roundw
            case rel => exact ⟨j + 1, rfl, HLT.out, FIN.out⟩
            case measure => exact less_by HLT.out
        · have hkk : j = s.ws.length := by have := hj.out; omega
          have h3 : ¬ (j : Int) < (s.ws.length : Int) := by omega
          have e4 : s.ws.take j = s.ws := by rw [hkk, List.take_length]
          rw [e4] at hD
          obtain ⟨d1, d2, d3⟩ := hD.out.1.calm
          obtain ⟨p1, q1⟩ := d1.put 3 (.bool false) _ { s with img := I, now := again I s.now s.ws, ws := [], fa := false } rfl rfl rfl rfl rfl
          obtain ⟨p2, q2⟩ := p1.put 4 (.bool false) _ { s with img := I, now := again I s.now s.ws, ws := [], fa := false, de := false } rfl rfl rfl rfl rfl
          obtain ⟨p3, q3⟩ := p2.put 5 (.bool false) _ ⟨I, again I s.now s.ws, [], false, false, false⟩ rfl rfl rfl rfl rfl
          have nx : m.next { m with wv := .slice none 0 0 } w.heap.size := ⟨rfl, rfl, rfl, fun k e => by cases e⟩
          have FIN : Hid (Dsk (((((wr.setCell ⟨m.D, 2, none⟩ (.slice none 0 0)).setCell ⟨m.D, 3, none⟩ (.bool false)).setCell ⟨m.D, 4, none⟩ (.bool false))).setCell ⟨m.D, 5, none⟩ (.bool false)) { m with wv := .slice none 0 0 } n ⟨I, again I s.now s.ws, [], false, false, false⟩ ∧ Only m w (((((wr.setCell ⟨m.D, 2, none⟩ (.slice none 0 0)).setCell ⟨m.D, 3, none⟩ (.bool false)).setCell ⟨m.D, 4, none⟩ (.bool false))).setCell ⟨m.D, 5, none⟩ (.bool false)) ∧ m.next { m with wv := .slice none 0 0 } w.heap.size) :=
            ⟨p3, (((hD.out.2.trans (DM.next.refl m _) d2).trans nx q1).trans nx q2).trans nx q3, nx⟩
          obtain ⟨_, _, k2, k3, k4, k5, kf⟩ := hD.out.1.cells
          rw [HWV.out] at k2
          have kf2 := kf 2
          have kf3 := kf 3
          have kf4 := kf 4
          have kf5 := kf 5
          clear kf p1 q1 p2 q2 p3 q3 nx d1 d2 d3 hD hkk e4 hlt
          go_wp2
          go_ret
          exact ⟨rfl, { m with wv := .slice none 0 0 }, rfl, by rw [HCO.out]; exact FIN.out.1, FIN.out.2⟩
end Go.Proofs.Ytnpebdnfdbeiaaa
