/- DiskCopies: the law. -/
import Derived.Test.YtaipnledcgdncaaDCopies
namespace Go.Proofs.Ytaipnledcgdncaa
open Go.RowKit
set_option linter.unusedVariables false

set_option maxRecDepth 100000 in
set_option maxHeartbeats 12800000 in
theorem copies_any (a : Option Addr) (len cap : Nat) (os : List OpX) (a1 : Option Addr) (len1 cap1 : Nat) (os1 : List OpX) (a2 : Option Addr) (len2 cap2 : Nat) (os2 : List OpX) (w : World) (h : OpsAt w a len os) (hz : ∀ o ∈ os, o.b.length ≤ 140737488351232) (h1 : OpsAt w a1 len1 os1) (hz1 : ∀ o ∈ os1, o.b.length ≤ 140737488351232) (h2 : OpsAt w a2 len2 os2) (hz2 : ∀ o ∈ os2, o.b.length ≤ 140737488351232) :
    Calls Try.prog 8 #[.slice a len cap, .slice a1 len1 cap1, .slice a2 len2 cap2] w fun e w' => e = .returned (.bool true) ∧ Below w.heap.size w w' := by
  have FA := fun k => runD_facts (newD_ok (n := 5) (by omega) (by omega)) (newD_even 5) rfl os k
  have ST := fun k => runD_step 5 (newD 5) os k
  have F0 : runD 5 (newD 5) (os.take 0) = newD 5 := rfl
  have HN := hold_new w
  obtain ⟨s0, e0⟩ : ∃ s, newD 5 = s := ⟨_, rfl⟩
  rw [e0] at HN FA ST F0
  clear e0
  have HFA : Hid _ := FA
  have HST : Hid _ := ST
  have HF0 : Hid _ := F0
  have HO : Hid (OpsAt w a len os) := h
  have HZ : Hid (∀ o ∈ os, o.b.length ≤ 140737488351232) := hz
  have HL : Hid (len = os.length) := h.1
  have HO1 : Hid (OpsAt w a1 len1 os1) := h1
  have HZ1 : Hid (∀ o ∈ os1, o.b.length ≤ 140737488351232) := hz1
  have HL1 : Hid (len1 = os1.length) := h1.1
  have HO2 : Hid (OpsAt w a2 len2 os2) := h2
  have HZ2 : Hid (∀ o ∈ os2, o.b.length ≤ 140737488351232) := hz2
  have HL2 : Hid (len2 = os2.length) := h2.1
  clear FA ST F0 h hz h1 hz1 h2 hz2
  go_enter Try.func8, Try.ntmps8
  go_wp2_with fail
  refine HN.mono ?_
  rintro e w1 ⟨D, rfl, h1⟩
  have H1 : Hid (Hold w w1 D s0 []) := h1
  clear HN h1
  go_wp2_with fail
  go_loopw [9] (fun i wr => ∃ k : Nat, i = .int .i64 k ∧ Hid (k ≤ len ∧ k ≤ 40) ∧ Hid (Hold w wr D (runD 5 s0 (os.take k)) [])) (fun i _ => 40 - (intOf i).toNat)
  case atStart => exact ⟨0, rfl, ⟨Nat.zero_le _, Nat.zero_le _⟩, by rw [HF0.out]; exact H1.out⟩
  case round =>
    clear H1
    obtain ⟨k, rfl, hk, hM⟩ := hrel
    by_cases hlt : k < len ∧ k < 40
    · have hko : k < os.length := by have := HL.out; omega
      obtain ⟨g, off, rfl, c0, c1, c2, c3, hat⟩ := HO.out.at hM.out.low hko
      have es := HST.out k hko
      have hz1 := HZ.out _ (List.getElem_mem hko)
      obtain ⟨o, eo⟩ : ∃ o, os[k] = o := ⟨_, rfl⟩
      rw [eo] at c0 c1 c2 c3 hat es hz1
      have HD := hold_do hM.out o hat (by have := (HFA.out k (by omega) (by have := hlt.2; omega)).2.2; have := hlt.2; omega) hz1
      have h1 : (k : Int) < (len : Int) := by omega
      have h2 : (k : Int) < 40 := by omega
      have HLT : Hid (k < len ∧ k < 40) := hlt
      have ES : Hid _ := es
      have WK : Hid ((k : Int) + 1 = ((k + 1 : Nat) : Int)) := by show (k : Int) + 1 = ((k + 1 : Nat) : Int); omega
      clear hlt hko eo hz1 es hat hk
      go_wp2_with fail
      refine HD.mono ?_
      rintro e w2 ⟨rfl, r⟩
      have M2 : Hid (Hold w w2 D (runD 5 s0 (os.take (k + 1))) []) := by rw [ES.out]; exact r
      clear r HD hM ES
      go_wp2
      rw [WK.out]
      go_roundw
      case rel => exact ⟨k + 1, rfl, ⟨HLT.out.1, HLT.out.2⟩, M2.out⟩
      case measure => exact less_by HLT.out.2
    · have hx : ¬ (k : Int) < (len : Int) ∨ ((k : Int) < (len : Int) ∧ ¬ (k : Int) < 40) := by omega
      have FK := HFA.out k (by have := hk.out.1; have := HL.out; omega) (by have := hk.out.2; omega)
      have hk40 : (runD 5 s0 (os.take k)).ws.length ≤ 40 := by have := FK.2.2; have := hk.out.2; omega
      obtain ⟨s, es⟩ : ∃ s, runD 5 s0 (os.take k) = s := ⟨_, rfl⟩
      rw [es] at FK hM hk40
      have FM1 : Hid _ := runD_more FK.1 (by omega) os1
      have FM2 : Hid _ := runD_more FK.1 (by omega) os2
      have ST1 : Hid _ := runD_step 5 s os1
      have ST2 : Hid _ := runD_step 5 s os2
      have H40 : Hid (s.ws.length ≤ 40) := hk40
      have HC := copy_first hM.out
      clear hlt FK es hM HFA HST HF0 HO HZ HL hk hk40
      rcases hx with h1 | ⟨h1, h2⟩
      all_goals
        go_wp2_with fail
        refine HC.mono ?_
        rintro e w2 ⟨C, rfl, u2⟩
        have U2 : Hid _ := u2
        clear u2 HC
        go_wp2_with fail
        refine (copy_second U2.out).mono ?_
        rintro e w3 ⟨X, rfl, t3⟩
        have T3 : Hid _ := t3
        clear t3 U2
        go_wp2_with fail
        go_loopw [12] (fun i wr => ∃ k : Nat, i = .int .i64 k ∧ Hid (k ≤ len2 ∧ k ≤ 40) ∧ Hid (Trio w wr C D X s (runD 5 s (os2.take k)))) (fun i _ => 40 - (intOf i).toNat)
        case atStart => exact ⟨0, rfl, ⟨Nat.zero_le _, Nat.zero_le _⟩, T3.out⟩
        case round =>
          clear T3
          obtain ⟨k, rfl, hk, hM⟩ := hrel
          by_cases hlt : k < len2 ∧ k < 40
          · have hko : k < os2.length := by have := HL2.out; omega
            obtain ⟨g, off, rfl, c0, c1, c2, c3, hat⟩ := HO2.out.at hM.out.low hko
            have es := ST2.out k hko
            have hz1 := HZ2.out _ (List.getElem_mem hko)
            obtain ⟨o, eo⟩ : ∃ o, os2[k] = o := ⟨_, rfl⟩
            rw [eo] at c0 c1 c2 c3 hat es hz1
            have HD := trio_do hM.out o hat (by have := (FM2.out k (by omega) (by have := hlt.2; omega)).2; have := hlt.2; have := H40.out; omega) hz1
            have h1 : (k : Int) < (len2 : Int) := by omega
            have h2 : (k : Int) < 40 := by omega
            have HLT : Hid (k < len2 ∧ k < 40) := hlt
            have ES : Hid _ := es
            have WK : Hid ((k : Int) + 1 = ((k + 1 : Nat) : Int)) := by show (k : Int) + 1 = ((k + 1 : Nat) : Int); omega
            clear hlt hko eo hz1 es hat hk
            go_wp2_with fail
            refine HD.mono ?_
            rintro e w4 ⟨rfl, r⟩
            have M2 : Hid (Trio w w4 C D X s (runD 5 s (os2.take (k + 1)))) := by rw [ES.out]; exact r
            clear r HD hM ES
            go_wp2
            rw [WK.out]
            go_roundw
            case rel => exact ⟨k + 1, rfl, ⟨HLT.out.1, HLT.out.2⟩, M2.out⟩
            case measure => exact less_by HLT.out.2
          · have hx : ¬ (k : Int) < (len2 : Int) ∨ ((k : Int) < (len2 : Int) ∧ ¬ (k : Int) < 40) := by omega
            have U4 : Hid (Duo w wr C D s s) := hM.out.duo
            clear hlt hM hk
            rcases hx with h3 | ⟨h3, h4⟩
            all_goals
              go_wp2_with fail
              go_loopw [13] (fun i wr => ∃ k : Nat, i = .int .i64 k ∧ Hid (k ≤ len1 ∧ k ≤ 40) ∧ Hid (Duo w wr C D (runD 5 s (os1.take k)) (runD 5 s (os1.take k)))) (fun i _ => 40 - (intOf i).toNat)
              case atStart => exact ⟨0, rfl, ⟨Nat.zero_le _, Nat.zero_le _⟩, U4.out⟩
              case round =>
                clear U4
                obtain ⟨k, rfl, hk, hM⟩ := hrel
                by_cases hlt : k < len1 ∧ k < 40
                · have hko : k < os1.length := by have := HL1.out; omega
                  obtain ⟨g, off, rfl, c0, c1, c2, c3, hat⟩ := HO1.out.at hM.out.low hko
                  have hcell : ∀ X, Below w.heap.size w X → X.cell? ⟨g, off + k * 4, none⟩ = some (.int .i64 os1[k].k) ∧ X.cell? ⟨g, off + k * 4 + 1, none⟩ = some (.int .i64 os1[k].n) ∧ X.cell? ⟨g, off + k * 4 + 2, none⟩ = some (.slice os1[k].ba os1[k].b.length os1[k].bc) ∧ X.cell? ⟨g, off + k * 4 + 3, none⟩ = some (.slice os1[k].la os1[k].zs.length os1[k].lc) := fun X hX => by
                    obtain ⟨g', off', e, x0, x1, x2, x3, _⟩ := HO1.out.at hX hko
                    cases e
                    exact ⟨x0, x1, x2, x3⟩
                  have es := ST1.out k hko
                  have hz1 := HZ1.out _ (List.getElem_mem hko)
                  obtain ⟨o, eo⟩ : ∃ o, os1[k] = o := ⟨_, rfl⟩
                  rw [eo] at hat es hz1 hcell
                  have hw1 : (runD 5 s (os1.take k)).ws.length < 1000000 := by have := (FM1.out k (by omega) (by have := hlt.2; omega)).2; have := hlt.2; have := H40.out; omega
                  obtain ⟨t, et⟩ : ∃ t, runD 5 s (os1.take k) = t := ⟨_, rfl⟩
                  rw [et] at es hM hw1
                  obtain ⟨E, eE⟩ : ∃ E, doE 5 t o = E := ⟨_, rfl⟩
                  have DO1 := fun W (u : Duo w W C D t t) => duo_do u o hat hw1 hz1
                  have DO2 := fun W (u : Duo w W D C t (doD 5 t o)) => duo_do u o hat hw1 hz1
                  rw [eE] at DO1 DO2
                  have h1 : (k : Int) < (len1 : Int) := by omega
                  have h2 : (k : Int) < 40 := by omega
                  have HLT : Hid (k < len1 ∧ k < 40) := hlt
                  have ES : Hid _ := es
                  have HCELL : Hid _ := hcell
                  have WK : Hid ((k : Int) + 1 = ((k + 1 : Nat) : Int)) := by show (k : Int) + 1 = ((k + 1 : Nat) : Int); omega
                  clear hlt hko eo hz1 es hat hk c0 c1 c2 c3 hcell hw1 et eE
                  go_wp2_with fail
                  refine wp_region_held_drew (S := fun X => Below w.heap.size w X) (by kernel_rfl) (hM.out.low.trans (((Below.refl _ wr).drew).mono hM.out.low.size)) (fun hHeld => ?_)
                  refine take_run (i := 0) (oi := { dst := some 76, op := Go.Op.move (Go.Operand.tmp 10), type := 24, pos := "law.go:226", after := #[], guard := none }) (v := .pointer (some ⟨C, 0, none⟩)) rfl (by kernel_rfl) (by kernel_rfl) (by kernel_rfl) (fun _ _ _ h => h) (by rfl) ?_ hHeld ?_
                  · (intro wq hSw; go_simp <;> with_reducible rfl)
                  try simp only [Act.put, List.setIfInBounds_toArray, List.set_cons_zero, List.set_cons_succ]
                  refine take_run (i := 1) (oi := { dst := some 77, op := Go.Op.move (Go.Operand.tmp 1), type := 23, pos := "law.go:226", after := #[], guard := none }) (v := .slice (some ⟨g, off, none⟩) len1 cap1) rfl (by kernel_rfl) (by kernel_rfl) (by kernel_rfl) (fun _ _ _ h => h) (by rfl) ?_ hHeld ?_
                  · (intro wq hSw; go_simp <;> with_reducible rfl)
                  try simp only [Act.put, List.setIfInBounds_toArray, List.set_cons_zero, List.set_cons_succ]
                  refine take_run (i := 2) (oi := { dst := some 78, op := Go.Op.move (Go.Operand.tmp 13), type := 3, pos := "law.go:226", after := #[], guard := none }) (v := .int .i64 (k : Int)) rfl (by kernel_rfl) (by kernel_rfl) (by kernel_rfl) (fun _ _ _ h => h) (by rfl) ?_ hHeld ?_
                  · (intro wq hSw; go_simp <;> with_reducible rfl)
                  try simp only [Act.put, List.setIfInBounds_toArray, List.set_cons_zero, List.set_cons_succ]
                  refine take_run (i := 3) (oi := { dst := some 79, op := Go.Op.indexAddr 23 (Go.Operand.tmp 77) (Go.Operand.tmp 78), type := 0, pos := "law.go:226", after := #[{ on := 1, ground := Go.Ground.data }, { on := 2, ground := Go.Ground.data }], guard := none }) (v := .pointer (some ⟨g, off + k * 4, none⟩)) rfl (by kernel_rfl) (by kernel_rfl) (by kernel_rfl) (fun _ _ _ h => h) (by rfl) ?_ hHeld ?_
                  · (intro wq hSw; go_simp <;> with_reducible rfl)
                  try simp only [Act.put, List.setIfInBounds_toArray, List.set_cons_zero, List.set_cons_succ]
                  refine take_run (i := 4) (oi := { dst := some 80, op := Go.Op.load 44 (Go.Operand.tmp 79), type := 44, pos := "law.go:226", after := #[{ on := 3, ground := Go.Ground.data }], guard := none }) (v := .agg #[.int .i64 o.k, .int .i64 o.n, .slice o.ba o.b.length o.bc, .slice o.la o.zs.length o.lc]) rfl (by kernel_rfl) (by kernel_rfl) (by kernel_rfl) (fun _ _ _ h => h) (by rfl) ?_ hHeld ?_
                  · (intro wq hSw; obtain ⟨c0, c1, c2, c3⟩ := HCELL.out wq hSw; go_simp <;> with_reducible rfl)
                  try simp only [Act.put, List.setIfInBounds_toArray, List.set_cons_zero, List.set_cons_succ]
                  refine take_run (i := 6) (oi := { dst := some 82, op := Go.Op.move (Go.Operand.tmp 7), type := 24, pos := "law.go:226", after := #[], guard := none }) (v := .pointer (some ⟨D, 0, none⟩)) rfl (by kernel_rfl) (by kernel_rfl) (by kernel_rfl) (fun _ _ _ h => h) (by rfl) ?_ hHeld ?_
                  · (intro wq hSw; go_simp <;> with_reducible rfl)
                  try simp only [Act.put, List.setIfInBounds_toArray, List.set_cons_zero, List.set_cons_succ]
                  refine take_run (i := 7) (oi := { dst := some 83, op := Go.Op.move (Go.Operand.tmp 1), type := 23, pos := "law.go:226", after := #[], guard := none }) (v := .slice (some ⟨g, off, none⟩) len1 cap1) rfl (by kernel_rfl) (by kernel_rfl) (by kernel_rfl) (fun _ _ _ h => h) (by rfl) ?_ hHeld ?_
                  · (intro wq hSw; go_simp <;> with_reducible rfl)
                  try simp only [Act.put, List.setIfInBounds_toArray, List.set_cons_zero, List.set_cons_succ]
                  refine take_run (i := 8) (oi := { dst := some 84, op := Go.Op.move (Go.Operand.tmp 13), type := 3, pos := "law.go:226", after := #[], guard := none }) (v := .int .i64 (k : Int)) rfl (by kernel_rfl) (by kernel_rfl) (by kernel_rfl) (fun _ _ _ h => h) (by rfl) ?_ hHeld ?_
                  · (intro wq hSw; go_simp <;> with_reducible rfl)
                  try simp only [Act.put, List.setIfInBounds_toArray, List.set_cons_zero, List.set_cons_succ]
                  refine take_run (i := 9) (oi := { dst := some 85, op := Go.Op.indexAddr 23 (Go.Operand.tmp 83) (Go.Operand.tmp 84), type := 0, pos := "law.go:226", after := #[{ on := 7, ground := Go.Ground.data }, { on := 8, ground := Go.Ground.data }], guard := none }) (v := .pointer (some ⟨g, off + k * 4, none⟩)) rfl (by kernel_rfl) (by kernel_rfl) (by kernel_rfl) (fun _ _ _ h => h) (by rfl) ?_ hHeld ?_
                  · (intro wq hSw; go_simp <;> with_reducible rfl)
                  try simp only [Act.put, List.setIfInBounds_toArray, List.set_cons_zero, List.set_cons_succ]
                  refine take_run (i := 10) (oi := { dst := some 86, op := Go.Op.load 44 (Go.Operand.tmp 85), type := 44, pos := "law.go:226", after := #[{ on := 9, ground := Go.Ground.data }], guard := none }) (v := .agg #[.int .i64 o.k, .int .i64 o.n, .slice o.ba o.b.length o.bc, .slice o.la o.zs.length o.lc]) rfl (by kernel_rfl) (by kernel_rfl) (by kernel_rfl) (fun _ _ _ h => h) (by rfl) ?_ hHeld ?_
                  · (intro wq hSw; obtain ⟨c0, c1, c2, c3⟩ := HCELL.out wq hSw; go_simp <;> with_reducible rfl)
                  try simp only [Act.put, List.setIfInBounds_toArray, List.set_cons_zero, List.set_cons_succ]
                  refine take_call (i := 5) (oi := { dst := some 81, op := Go.Op.call { callee := Go.Callee.value (Go.Operand.func 17), args := #[Go.Operand.tmp 76, Go.Operand.tmp 80], argTypes := #[24, 44] }, type := 25, pos := "law.go:226", after := #[{ on := 0, ground := Go.Ground.data }, { on := 4, ground := Go.Ground.data }], guard := none }) rfl (by kernel_rfl) (by rfl) 17 _ (by go_simp <;> with_reducible rfl) ?_
                  refine (DO1 _ (hM.out.below (Below.refl _ wr).drew)).mono ?_
                  rintro e y1 ⟨rfl, r1⟩
                  have hY := r1.low
                  refine ⟨.int .i64 (E : Int), rfl, hY, ?_⟩
                  try simp only [Act.put, List.setIfInBounds_toArray, List.set_cons_zero, List.set_cons_succ]
                  refine take_call (i := 11) (oi := { dst := some 87, op := Go.Op.call { callee := Go.Callee.value (Go.Operand.func 17), args := #[Go.Operand.tmp 82, Go.Operand.tmp 86], argTypes := #[24, 44] }, type := 25, pos := "law.go:226", after := #[{ on := 6, ground := Go.Ground.data }, { on := 10, ground := Go.Ground.data }, { on := 5, ground := Go.Ground.chain }], guard := none }) rfl (by kernel_rfl) (by rfl) 17 _ (by go_simp <;> with_reducible rfl) ?_
                  refine (DO2 _ r1.symm).mono ?_
                  rintro e y2 ⟨rfl, r2⟩
                  have hY2 := r2.low
                  refine ⟨.int .i64 (E : Int), rfl, hY2, ?_⟩
                  try simp only [Act.put, List.setIfInBounds_toArray, List.set_cons_zero, List.set_cons_succ]
                  refine take_run (i := 12) (oi := { dst := some 88, op := Go.Op.binOp Go.BinOp.neq 25 (Go.Operand.tmp 81) (Go.Operand.tmp 87) 25, type := 4, pos := "law.go:226", after := #[{ on := 5, ground := Go.Ground.data }, { on := 11, ground := Go.Ground.data }], guard := none }) (v := .bool false) rfl (by kernel_rfl) (by kernel_rfl) (by kernel_rfl) (fun _ _ _ h => h) (by rfl) ?_ hY2 ?_
                  · (intro wq hSw; go_simp <;> with_reducible rfl)
                  try simp only [Act.put, List.setIfInBounds_toArray, List.set_cons_zero, List.set_cons_succ]
                  have M2 : Hid (Duo w y2 C D (runD 5 s (os1.take (k + 1))) (runD 5 s (os1.take (k + 1)))) := by rw [ES.out]; exact r2.symm
                  clear r1 r2 hY hY2 hHeld hM DO1 DO2 ES HCELL
                  refine wpAnyH_done (by kernel_rfl) ?_ _
                  go_wp2
                  rw [WK.out]
                  go_roundw
                  case rel => exact ⟨k + 1, rfl, ⟨HLT.out.1, HLT.out.2⟩, M2.out⟩
                  case measure => exact less_by HLT.out.2
                · have hx : ¬ (k : Int) < (len1 : Int) ∨ ((k : Int) < (len1 : Int) ∧ ¬ (k : Int) < 40) := by omega
                  obtain ⟨t, et⟩ : ∃ t, runD 5 s (os1.take k) = t := ⟨_, rfl⟩
                  rw [et] at hM
                  have ti := text_self (textOf t.img)
                  clear hlt hk et
                  rcases hx with h5 | ⟨h5, h6⟩
                  all_goals
                    go_wp2_with fail
                    refine wp_region_held_drew (S := fun X => Below wr.heap.size wr X) (by kernel_rfl) ((Below.refl _ wr).drew) (fun hHeld => ?_)
                    refine take_run (i := 0) (oi := { dst := some 89, op := Go.Op.move (Go.Operand.tmp 10), type := 24, pos := "law.go:230", after := #[], guard := none }) (v := .pointer (some ⟨C, 0, none⟩)) rfl (by kernel_rfl) (by kernel_rfl) (by kernel_rfl) (fun _ _ _ h => h) (by rfl) ?_ hHeld ?_
                    · (intro wq hSw; go_simp <;> with_reducible rfl)
                    try simp only [Act.put, List.setIfInBounds_toArray, List.set_cons_zero, List.set_cons_succ]
                    refine take_run (i := 3) (oi := { dst := some 92, op := Go.Op.move (Go.Operand.tmp 7), type := 24, pos := "law.go:230", after := #[], guard := none }) (v := .pointer (some ⟨D, 0, none⟩)) rfl (by kernel_rfl) (by kernel_rfl) (by kernel_rfl) (fun _ _ _ h => h) (by rfl) ?_ hHeld ?_
                    · (intro wq hSw; go_simp <;> with_reducible rfl)
                    try simp only [Act.put, List.setIfInBounds_toArray, List.set_cons_zero, List.set_cons_succ]
                    refine take_call (i := 1) (oi := { dst := some 90, op := Go.Op.call { callee := Go.Callee.value (Go.Operand.func 23), args := #[Go.Operand.tmp 89], argTypes := #[24] }, type := 22, pos := "law.go:230", after := #[{ on := 0, ground := Go.Ground.data }], guard := none }) rfl (by kernel_rfl) (by rfl) 23 _ (by go_simp <;> with_reducible rfl) ?_
                    refine (duo_image (hM.out.below (Below.refl _ wr).drew)).mono ?_
                    rintro e y1 ⟨g1, q1, rfl, s1, b1, u1⟩
                    have b1' := hHeld.trans (b1.mono hHeld.size)
                    refine ⟨.slice (some ⟨g1, 0, none⟩) 1280 q1, rfl, b1', held_more (S' := fun X => Below y1.heap.size y1 X) (fun X hX => b1'.trans (hX.mono b1'.size)) _ _ _ _ ?_⟩
                    try simp only [Act.put, List.setIfInBounds_toArray, List.set_cons_zero, List.set_cons_succ]
                    have r1 := Below.refl y1.heap.size y1
                    refine take_run (i := 2) (oi := { dst := some 91, op := Go.Op.convert 22 9 (Go.Operand.tmp 90), type := 9, pos := "law.go:230", after := #[{ on := 1, ground := Go.Ground.data }], guard := none }) (v := .string (textOf t.img)) rfl (by kernel_rfl) (by kernel_rfl) (by kernel_rfl) (fun _ _ _ h => h) (by rfl) ?_ r1 ?_
                    · (intro wq hSw; have tt := run_to_text wq (some ⟨g1, 0, none⟩) 1280 q1 _ (Seen.below s1 hSw); go_simp <;> with_reducible rfl)
                    try simp only [Act.put, List.setIfInBounds_toArray, List.set_cons_zero, List.set_cons_succ]
                    refine take_call (i := 4) (oi := { dst := some 93, op := Go.Op.call { callee := Go.Callee.value (Go.Operand.func 23), args := #[Go.Operand.tmp 92], argTypes := #[24] }, type := 22, pos := "law.go:230", after := #[{ on := 3, ground := Go.Ground.data }, { on := 1, ground := Go.Ground.chain }], guard := none }) rfl (by kernel_rfl) (by rfl) 23 _ (by go_simp <;> with_reducible rfl) ?_
                    refine (duo_image u1.symm).mono ?_
                    rintro e y2 ⟨g2, q2, rfl, s2, b2, u2⟩
                    refine ⟨.slice (some ⟨g2, 0, none⟩) 1280 q2, rfl, b2, held_more (S' := fun X => Below y2.heap.size y2 X) (fun X hX => b2.trans (hX.mono b2.size)) _ _ _ _ ?_⟩
                    try simp only [Act.put, List.setIfInBounds_toArray, List.set_cons_zero, List.set_cons_succ]
                    have r2 := Below.refl y2.heap.size y2
                    refine take_run (i := 5) (oi := { dst := some 94, op := Go.Op.convert 22 9 (Go.Operand.tmp 93), type := 9, pos := "law.go:230", after := #[{ on := 4, ground := Go.Ground.data }], guard := none }) (v := .string (textOf t.img)) rfl (by kernel_rfl) (by kernel_rfl) (by kernel_rfl) (fun _ _ _ h => h) (by rfl) ?_ r2 ?_
                    · (intro wq hSw; have tt := run_to_text wq (some ⟨g2, 0, none⟩) 1280 q2 _ (Seen.below s2 hSw); go_simp <;> with_reducible rfl)
                    try simp only [Act.put, List.setIfInBounds_toArray, List.set_cons_zero, List.set_cons_succ]
                    refine take_run (i := 6) (oi := { dst := some 95, op := Go.Op.binOp Go.BinOp.eql 9 (Go.Operand.tmp 91) (Go.Operand.tmp 94) 9, type := 4, pos := "law.go:230", after := #[{ on := 2, ground := Go.Ground.data }, { on := 5, ground := Go.Ground.data }], guard := none }) (v := .bool true) rfl (by kernel_rfl) (by kernel_rfl) (by kernel_rfl) (fun _ _ _ h => h) (by rfl) ?_ r2 ?_
                    · (intro wq hSw; go_simp <;> with_reducible rfl)
                    try simp only [Act.put, List.setIfInBounds_toArray, List.set_cons_zero, List.set_cons_succ]
                    refine take_run (i := 7) (oi := { dst := some 96, op := Go.Op.move (Go.Operand.tmp 95), type := 4, pos := "law.go:230", after := #[{ on := 6, ground := Go.Ground.data }, { on := 4, ground := Go.Ground.chain }], guard := none }) (v := .bool true) rfl (by kernel_rfl) (by kernel_rfl) (by kernel_rfl) (fun _ _ _ h => h) (by rfl) ?_ r2 ?_
                    · (intro wq hSw; go_simp <;> with_reducible rfl)
                    try simp only [Act.put, List.setIfInBounds_toArray, List.set_cons_zero, List.set_cons_succ]
                    refine take_run (i := 8) (oi := { dst := some 97, op := Go.Op.move (Go.Operand.tmp 10), type := 24, pos := "law.go:230", after := #[{ on := 7, ground := Go.Ground.guard }], guard := some (7, true) }) (v := .pointer (some ⟨C, 0, none⟩)) rfl (by kernel_rfl) (by kernel_rfl) (by kernel_rfl) (fun _ _ _ h => h) (by rfl) ?_ r2 ?_
                    · (intro wq hSw; go_simp <;> with_reducible rfl)
                    try simp only [Act.put, List.setIfInBounds_toArray, List.set_cons_zero, List.set_cons_succ]
                    refine take_run (i := 10) (oi := { dst := some 99, op := Go.Op.move (Go.Operand.tmp 7), type := 24, pos := "law.go:230", after := #[{ on := 7, ground := Go.Ground.guard }], guard := some (7, true) }) (v := .pointer (some ⟨D, 0, none⟩)) rfl (by kernel_rfl) (by kernel_rfl) (by kernel_rfl) (fun _ _ _ h => h) (by rfl) ?_ r2 ?_
                    · (intro wq hSw; go_simp <;> with_reducible rfl)
                    try simp only [Act.put, List.setIfInBounds_toArray, List.set_cons_zero, List.set_cons_succ]
                    refine take_call (i := 9) (oi := { dst := some 98, op := Go.Op.call { callee := Go.Callee.value (Go.Operand.func 26), args := #[Go.Operand.tmp 97], argTypes := #[24] }, type := 3, pos := "law.go:230", after := #[{ on := 8, ground := Go.Ground.data }, { on := 7, ground := Go.Ground.chain }, { on := 7, ground := Go.Ground.guard }], guard := some (7, true) }) rfl (by kernel_rfl) (by rfl) 26 _ (by go_simp <;> with_reducible rfl) ?_
                    refine (duo_unsynced u2.symm).mono ?_
                    rintro e y3 ⟨rfl, rfl⟩
                    refine ⟨_, rfl, r2, ?_⟩
                    try simp only [Act.put, List.setIfInBounds_toArray, List.set_cons_zero, List.set_cons_succ]
                    refine take_call (i := 11) (oi := { dst := some 100, op := Go.Op.call { callee := Go.Callee.value (Go.Operand.func 26), args := #[Go.Operand.tmp 99], argTypes := #[24] }, type := 3, pos := "law.go:230", after := #[{ on := 10, ground := Go.Ground.data }, { on := 9, ground := Go.Ground.chain }, { on := 7, ground := Go.Ground.guard }], guard := some (7, true) }) rfl (by kernel_rfl) (by rfl) 26 _ (by go_simp <;> with_reducible rfl) ?_
                    refine (duo_unsynced u2).mono ?_
                    rintro e y3 ⟨rfl, rfl⟩
                    refine ⟨_, rfl, r2, ?_⟩
                    try simp only [Act.put, List.setIfInBounds_toArray, List.set_cons_zero, List.set_cons_succ]
                    refine take_run (i := 12) (oi := { dst := some 101, op := Go.Op.binOp Go.BinOp.eql 3 (Go.Operand.tmp 98) (Go.Operand.tmp 100) 3, type := 4, pos := "law.go:230", after := #[{ on := 9, ground := Go.Ground.data }, { on := 11, ground := Go.Ground.data }, { on := 7, ground := Go.Ground.guard }], guard := some (7, true) }) (v := .bool true) rfl (by kernel_rfl) (by kernel_rfl) (by kernel_rfl) (fun _ _ _ h => h) (by rfl) ?_ r2 ?_
                    · (intro wq hSw; go_simp <;> with_reducible rfl)
                    try simp only [Act.put, List.setIfInBounds_toArray, List.set_cons_zero, List.set_cons_succ]
                    refine take_run (i := 13) (oi := { dst := some 102, op := Go.Op.pick (Go.Operand.tmp 96) (Go.Operand.tmp 101) (Go.Operand.const (Go.Value.bool false)), type := 4, pos := "law.go:230", after := #[{ on := 7, ground := Go.Ground.data }, { on := 12, ground := Go.Ground.data }], guard := none }) (v := .bool true) rfl (by kernel_rfl) (by kernel_rfl) (by kernel_rfl) (fun _ _ _ h => h) (by rfl) ?_ r2 ?_
                    · (intro wq hSw; go_simp <;> with_reducible rfl)
                    try simp only [Act.put, List.setIfInBounds_toArray, List.set_cons_zero, List.set_cons_succ]
                    refine take_run (i := 14) (oi := { dst := some 103, op := Go.Op.move (Go.Operand.tmp 102), type := 4, pos := "law.go:230", after := #[{ on := 13, ground := Go.Ground.data }, { on := 11, ground := Go.Ground.chain }], guard := none }) (v := .bool true) rfl (by kernel_rfl) (by kernel_rfl) (by kernel_rfl) (fun _ _ _ h => h) (by rfl) ?_ r2 ?_
                    · (intro wq hSw; go_simp <;> with_reducible rfl)
                    try simp only [Act.put, List.setIfInBounds_toArray, List.set_cons_zero, List.set_cons_succ]
                    refine take_run (i := 15) (oi := { dst := some 104, op := Go.Op.move (Go.Operand.tmp 10), type := 24, pos := "law.go:230", after := #[{ on := 14, ground := Go.Ground.guard }], guard := some (14, true) }) (v := .pointer (some ⟨C, 0, none⟩)) rfl (by kernel_rfl) (by kernel_rfl) (by kernel_rfl) (fun _ _ _ h => h) (by rfl) ?_ r2 ?_
                    · (intro wq hSw; go_simp <;> with_reducible rfl)
                    try simp only [Act.put, List.setIfInBounds_toArray, List.set_cons_zero, List.set_cons_succ]
                    refine take_run (i := 17) (oi := { dst := some 106, op := Go.Op.move (Go.Operand.tmp 7), type := 24, pos := "law.go:230", after := #[{ on := 14, ground := Go.Ground.guard }], guard := some (14, true) }) (v := .pointer (some ⟨D, 0, none⟩)) rfl (by kernel_rfl) (by kernel_rfl) (by kernel_rfl) (fun _ _ _ h => h) (by rfl) ?_ r2 ?_
                    · (intro wq hSw; go_simp <;> with_reducible rfl)
                    try simp only [Act.put, List.setIfInBounds_toArray, List.set_cons_zero, List.set_cons_succ]
                    refine take_call (i := 16) (oi := { dst := some 105, op := Go.Op.call { callee := Go.Callee.value (Go.Operand.func 25), args := #[Go.Operand.tmp 104], argTypes := #[24] }, type := 4, pos := "law.go:230", after := #[{ on := 15, ground := Go.Ground.data }, { on := 14, ground := Go.Ground.chain }, { on := 14, ground := Go.Ground.guard }], guard := some (14, true) }) rfl (by kernel_rfl) (by rfl) 25 _ (by go_simp <;> with_reducible rfl) ?_
                    refine (duo_dead u2.symm).mono ?_
                    rintro e y3 ⟨rfl, rfl⟩
                    refine ⟨_, rfl, r2, ?_⟩
                    try simp only [Act.put, List.setIfInBounds_toArray, List.set_cons_zero, List.set_cons_succ]
                    refine take_call (i := 18) (oi := { dst := some 107, op := Go.Op.call { callee := Go.Callee.value (Go.Operand.func 25), args := #[Go.Operand.tmp 106], argTypes := #[24] }, type := 4, pos := "law.go:230", after := #[{ on := 17, ground := Go.Ground.data }, { on := 16, ground := Go.Ground.chain }, { on := 14, ground := Go.Ground.guard }], guard := some (14, true) }) rfl (by kernel_rfl) (by rfl) 25 _ (by go_simp <;> with_reducible rfl) ?_
                    refine (duo_dead u2).mono ?_
                    rintro e y3 ⟨rfl, rfl⟩
                    refine ⟨_, rfl, r2, ?_⟩
                    try simp only [Act.put, List.setIfInBounds_toArray, List.set_cons_zero, List.set_cons_succ]
                    refine take_run (i := 19) (oi := { dst := some 108, op := Go.Op.binOp Go.BinOp.eql 4 (Go.Operand.tmp 105) (Go.Operand.tmp 107) 4, type := 4, pos := "law.go:230", after := #[{ on := 16, ground := Go.Ground.data }, { on := 18, ground := Go.Ground.data }, { on := 14, ground := Go.Ground.guard }], guard := some (14, true) }) (v := .bool true) rfl (by kernel_rfl) (by kernel_rfl) (by kernel_rfl) (fun _ _ _ h => h) (by rfl) ?_ r2 ?_
                    · (intro wq hSw; go_simp <;> with_reducible rfl)
                    try simp only [Act.put, List.setIfInBounds_toArray, List.set_cons_zero, List.set_cons_succ]
                    refine take_run (i := 20) (oi := { dst := some 109, op := Go.Op.pick (Go.Operand.tmp 103) (Go.Operand.tmp 108) (Go.Operand.const (Go.Value.bool false)), type := 4, pos := "law.go:230", after := #[{ on := 14, ground := Go.Ground.data }, { on := 19, ground := Go.Ground.data }], guard := none }) (v := .bool true) rfl (by kernel_rfl) (by kernel_rfl) (by kernel_rfl) (fun _ _ _ h => h) (by rfl) ?_ r2 ?_
                    · (intro wq hSw; go_simp <;> with_reducible rfl)
                    try simp only [Act.put, List.setIfInBounds_toArray, List.set_cons_zero, List.set_cons_succ]
                    refine take_run (i := 21) (oi := { dst := some 110, op := Go.Op.move (Go.Operand.tmp 109), type := 4, pos := "law.go:230", after := #[{ on := 20, ground := Go.Ground.data }, { on := 18, ground := Go.Ground.chain }], guard := none }) (v := .bool true) rfl (by kernel_rfl) (by kernel_rfl) (by kernel_rfl) (fun _ _ _ h => h) (by rfl) ?_ r2 ?_
                    · (intro wq hSw; go_simp <;> with_reducible rfl)
                    try simp only [Act.put, List.setIfInBounds_toArray, List.set_cons_zero, List.set_cons_succ]
                    refine take_call (i := 22) (oi := { dst := some 111, op := Go.Op.call { callee := Go.Callee.value (Go.Operand.func 16), args := #[], argTypes := #[] }, type := 4, pos := "law.go:230", after := #[{ on := 21, ground := Go.Ground.chain }, { on := 21, ground := Go.Ground.guard }], guard := some (21, true) }) rfl (by kernel_rfl) (by rfl) 16 _ (by go_simp <;> with_reducible rfl) ?_
                    refine (known_any _).mono ?_
                    rintro e y4 ⟨rfl, b4⟩
                    refine ⟨_, rfl, b4, ?_⟩
                    try simp only [Act.put, List.setIfInBounds_toArray, List.set_cons_zero, List.set_cons_succ]
                    refine take_run (i := 23) (oi := { dst := some 112, op := Go.Op.pick (Go.Operand.tmp 110) (Go.Operand.tmp 111) (Go.Operand.const (Go.Value.bool false)), type := 4, pos := "law.go:230", after := #[{ on := 21, ground := Go.Ground.data }, { on := 22, ground := Go.Ground.data }], guard := none }) (v := .bool true) rfl (by kernel_rfl) (by kernel_rfl) (by kernel_rfl) (fun _ _ _ h => h) (by rfl) ?_ b4 ?_
                    · (intro wq hSw; go_simp <;> with_reducible rfl)
                    try simp only [Act.put, List.setIfInBounds_toArray, List.set_cons_zero, List.set_cons_succ]
                    refine take_run (i := 24) (oi := { dst := some 6, op := Go.Op.assign (Go.Operand.tmp 112), type := 4, pos := "law.go:230", after := #[{ on := 23, ground := Go.Ground.data }, { on := 22, ground := Go.Ground.chain }, { on := 0, ground := Go.Ground.phase }, { on := 1, ground := Go.Ground.phase }, { on := 2, ground := Go.Ground.phase }, { on := 3, ground := Go.Ground.phase }, { on := 4, ground := Go.Ground.phase }, { on := 5, ground := Go.Ground.phase }, { on := 6, ground := Go.Ground.phase }, { on := 7, ground := Go.Ground.phase }, { on := 8, ground := Go.Ground.phase }, { on := 9, ground := Go.Ground.phase }, { on := 10, ground := Go.Ground.phase }, { on := 11, ground := Go.Ground.phase }, { on := 12, ground := Go.Ground.phase }, { on := 13, ground := Go.Ground.phase }, { on := 14, ground := Go.Ground.phase }, { on := 15, ground := Go.Ground.phase }, { on := 16, ground := Go.Ground.phase }, { on := 17, ground := Go.Ground.phase }, { on := 18, ground := Go.Ground.phase }, { on := 19, ground := Go.Ground.phase }, { on := 20, ground := Go.Ground.phase }, { on := 21, ground := Go.Ground.phase }, { on := 22, ground := Go.Ground.phase }, { on := 23, ground := Go.Ground.phase }], guard := none }) (v := .bool true) rfl (by kernel_rfl) (by kernel_rfl) (by kernel_rfl) (fun _ _ _ h => h) (by rfl) ?_ b4 ?_
                    · (intro wq hSw; go_simp <;> with_reducible rfl)
                    try simp only [Act.put, List.setIfInBounds_toArray, List.set_cons_zero, List.set_cons_succ]
                    have FIN : Hid (Below w.heap.size w y4) := u2.low.trans (b4.mono u2.low.size)
                    clear r1 r2 b1 b2 b4 s1 s2 u1 u2 b1' hHeld hM
                    refine wpAnyH_done (by kernel_rfl) ?_ _
                    go_wp2
                    go_ret
                    exact ⟨rfl, FIN.out⟩
end Go.Proofs.Ytaipnledcgdncaa
