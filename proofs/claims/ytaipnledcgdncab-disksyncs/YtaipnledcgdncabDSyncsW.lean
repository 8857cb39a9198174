/- DiskSyncs: the law. -/
import Derived.Test.YtaipnledcgdncabDSyncs
namespace Go.Proofs.Ytaipnledcgdncab
open Go.RowKit
set_option linter.unusedVariables false

theorem syncD_even {s : DS} (e : s.even) : (syncD s).even := by
  unfold syncD
  split
  · exact e
  · split
    · exact e
    · exact e
theorem whyS_cases (s : DS) : whyS s = 21 ∨ whyS s = 20 ∨ (whyS s = 0 ∧ syncD s = ⟨reachAll s.img s.ws, s.now, [], s.fa, s.de, s.fu⟩) := by
  unfold whyS syncD
  by_cases h : s.de
  · left; rw [if_pos h]
  · by_cases h2 : s.fa
    · right; left; rw [if_neg h, if_pos h2]
    · right; right; rw [if_neg h, if_neg h2, if_neg h, if_neg h2]; exact ⟨rfl, rfl⟩
theorem crashD_idle {s : DS} (h : s.ws = []) (zs : List Int) : (crashD s zs).img = s.img := by
  show reachSome s.img s.ws zs = s.img
  rw [h]
  cases zs <;> rfl
theorem take_sec (I : List (BitVec 8)) (k : Nat) : I.take (256 * k) ++ sec I k = I.take (256 * (k + 1)) := by
  unfold sec
  rw [← List.take_add]
  rfl
set_option maxRecDepth 100000 in
set_option maxHeartbeats 12800000 in
theorem syncs_any (a : Option Addr) (len cap : Nat) (os : List OpX) (ka : Option Addr) (kl kc : Nat) (zs : List Int) (w : World) (h : OpsAt w a len os) (hz : ∀ o ∈ os, o.b.length ≤ 140737488351232) (hk : IAt w ka kl zs) :
    Calls Try.prog 3 #[.slice a len cap, .slice ka kl kc] w fun e w' => e = .returned (.bool true) ∧ Below w.heap.size w w' := by
  have HN := hold_new w
  have N0 : (newD 5).even ∧ (newD 5).ws = [] := ⟨newD_even 5, rfl⟩
  obtain ⟨s0, e0⟩ : ∃ s, newD 5 = s := ⟨_, rfl⟩
  rw [e0] at HN N0
  clear e0
  have HN0 : Hid (s0.even ∧ s0.ws = []) := N0
  have HO : Hid (OpsAt w a len os) := h
  have HZ : Hid (∀ o ∈ os, o.b.length ≤ 140737488351232) := hz
  have HL : Hid (len = os.length) := h.1
  have HKP : Hid (IAt w ka kl zs) := hk
  clear h hz hk N0
  go_enter Try.func3, Try.ntmps3
  go_wp2_with fail
  refine HN.mono ?_
  rintro e w1 ⟨D, rfl, h1⟩
  have H1 : Hid (Hold w w1 D s0 []) := h1
  clear HN h1
  go_wp2_with fail
  go_loopw [7] (fun i wr => ∃ (k : Nat) (s : DS), i = .int .i64 k ∧ Hid (k ≤ len ∧ k ≤ 40) ∧ Hid (Hold w wr D s []) ∧ Hid (s.even ∧ s.ws = [])) (fun i _ => 40 - (intOf i).toNat)
  case atStart => exact ⟨0, s0, rfl, ⟨Nat.zero_le _, Nat.zero_le _⟩, H1.out, HN0.out⟩
  case round =>
    clear H1 HN0
    obtain ⟨k, s, rfl, hk, hM, hE⟩ := hrel
    by_cases hlt : k < len ∧ k < 40
    · have hko : k < os.length := by have := HL.out; omega
      obtain ⟨g, off, rfl, c0, c1, c2, c3, hat⟩ := HO.out.at hM.out.low hko
      have hz1 := HZ.out _ (List.getElem_mem hko)
      obtain ⟨o, eo⟩ : ∃ o, os[k] = o := ⟨_, rfl⟩
      rw [eo] at c0 c1 c2 c3 hat hz1
      have HD := hold_do hM.out o hat (by rw [hE.out.2]; simp) hz1
      have ev1 := doD_even hM.out.ok hE.out.1 o
      obtain ⟨s1, e1⟩ : ∃ s1, doD 5 s o = s1 := ⟨_, rfl⟩
      rw [e1] at HD ev1
      have h1 : (k : Int) < (len : Int) := by omega
      have h2 : (k : Int) < 40 := by omega
      have HLT : Hid (k < len ∧ k < 40) := hlt
      have EV : Hid (s1.even) := ev1
      have WK : Hid ((k : Int) + 1 = ((k + 1 : Nat) : Int)) := by show (k : Int) + 1 = ((k + 1 : Nat) : Int); omega
      have WC := whyS_cases s1
      clear hlt hko eo hz1 hat hk hE hM ev1 e1
      go_wp2_with fail
      refine HD.mono ?_
      rintro e w2 ⟨rfl, r⟩
      have HS := hold_sync r
      have ES : Hid ((syncD s1).even) := syncD_even EV.out
      clear r HD c0 c1 c2 c3
      rcases WC with e2 | e2 | ⟨e2, e3⟩
      · rw [e2] at HS
        have HCr := fun W (u : Hold w W D (syncD s1) []) => hold_crash u ka kl kc zs (HKP.out.below u.low) (fun y e hne => Nat.lt_of_not_le (fun q => kept_low HKP.out e hne q))
        obtain ⟨t, et⟩ : ∃ t, syncD s1 = t := ⟨_, rfl⟩
        rw [et] at HS HCr ES
        clear e2 et EV
        go_wp2_with fail
        refine HS.mono ?_
        rintro e w3 ⟨rfl, r⟩
        have OK : Hid (t.ok 5) := r.ok
        have HC2 := HCr _ r
        clear r HS HCr
        go_wp2_with fail
        refine HC2.mono ?_
        rintro e w4 ⟨rfl, r⟩
        have R4 : Hid (Hold w w4 D (crashD t zs) []) := r
        clear r HC2
        go_wp2
        rw [WK.out]
        go_roundw
        case rel => exact ⟨k + 1, crashD t zs, rfl, ⟨HLT.out.1, HLT.out.2⟩, R4.out, crashD_even OK.out ES.out _, rfl⟩
        case measure => exact less_by HLT.out.2
      · rw [e2] at HS
        have HCr := fun W (u : Hold w W D (syncD s1) []) => hold_crash u ka kl kc zs (HKP.out.below u.low) (fun y e hne => Nat.lt_of_not_le (fun q => kept_low HKP.out e hne q))
        obtain ⟨t, et⟩ : ∃ t, syncD s1 = t := ⟨_, rfl⟩
        rw [et] at HS HCr ES
        clear e2 et EV
        go_wp2_with fail
        refine HS.mono ?_
        rintro e w3 ⟨rfl, r⟩
        have OK : Hid (t.ok 5) := r.ok
        have HC2 := HCr _ r
        clear r HS HCr
        go_wp2_with fail
        refine HC2.mono ?_
        rintro e w4 ⟨rfl, r⟩
        have R4 : Hid (Hold w w4 D (crashD t zs) []) := r
        clear r HC2
        go_wp2
        rw [WK.out]
        go_roundw
        case rel => exact ⟨k + 1, crashD t zs, rfl, ⟨HLT.out.1, HLT.out.2⟩, R4.out, crashD_even OK.out ES.out _, rfl⟩
        case measure => exact less_by HLT.out.2
      · have EVN : s1.now = reachAll s1.img s1.ws := EV.out
        obtain ⟨t, et⟩ : ∃ t, syncD s1 = t := ⟨_, rfl⟩
        rw [e2, et] at HS
        rw [et] at e3 ES
        obtain ⟨I, eI⟩ : ∃ I, t.img = I := ⟨_, rfl⟩
        have EI : Hid (t.img = I) := eI
        have EW : Hid (t.ws = []) := by show t.ws = []; rw [e3]
        have EN : Hid (∀ i, readD t i = sec I i) := fun i => by unfold readD; rw [← eI, e3]; show sec s1.now i = _; rw [EVN]
        have EC : Hid ((crashD t zs).img = I) := by show (crashD t zs).img = I; rw [crashD_idle EW.out, eI]
        have ti := text_self (textOf I)
        clear e2 e3 et EVN eI EV
        go_wp2_with fail
        refine HS.mono ?_
        rintro e w3 ⟨rfl, r⟩
        have A0 : Hid (Acc w w3 D t (.slice none 0 0) 0 (I.take (256 * 0))) := Acc.new r
        have LI : Hid (I.length = 1280) := by show I.length = 1280; rw [← EI.out]; exact r.ok.li
        clear r HS
        go_wp2_with fail
        go_loopw [8, 9] (fun v i wr => ∃ j : Nat, i = .int .i64 j ∧ Hid (j ≤ 5) ∧ (∃ a l c, v = .slice a l c) ∧ Hid (Acc w wr D t v (256 * j) (I.take (256 * j)))) (fun _ i _ => 5 - (intOf i).toNat)
        case atStart => exact ⟨0, rfl, Nat.zero_le _, ⟨_, _, _, rfl⟩, A0.out⟩
        case round =>
          clear A0
          obtain ⟨j, rfl, hj, ⟨av, lv, cv, rfl⟩, hA⟩ := hrel
          by_cases hjl : j < 5
          · have h5 : (j : Int) < 5 := by omega
            have HJ : Hid (j < 5) := hjl
            have WJ : Hid ((j : Int) + 1 = ((j + 1 : Nat) : Int)) := by show (j : Int) + 1 = ((j + 1 : Nat) : Int); omega
            clear hjl hj
            go_wp2_with fail
            refine (acc_read hA.out j HJ.out).mono ?_
            rintro e x1 ⟨gb, rfl, sb, ab⟩
            obtain ⟨v', x2, hr, ac⟩ := acc_append ab sb (by have := HJ.out; omega)
            rw [EN.out j, take_sec] at ac
            have HR : Hid _ := hr
            have AC : Hid (Acc w x2 D t v' (256 * (j + 1)) (I.take (256 * (j + 1)))) := ac
            have FV : Hid (∃ a l c, v' = .slice a l c) := by
              obtain ⟨_, _, _, o, _⟩ := ac
              rcases o.2 with ⟨e, _⟩ | ⟨g, c, cur, e, _⟩
              · exact ⟨_, _, _, e⟩
              · exact ⟨_, _, _, e⟩
            clear sb ab hr ac hA
            go_wp2_with (at_builtin; refine wpList_append_known rfl (.tmp 57) (.tmp 58) 29 29 rfl _ _ rfl rfl _ _ HR.out ?_)
            rw [WJ.out]
            go_roundw
            case rel => exact ⟨j + 1, rfl, HJ.out, FV.out, AC.out⟩
            case measure => exact less_by HJ.out
          · have h5 : ¬ (j : Int) < 5 := by omega
            obtain rfl : j = 5 := by have := hj.out; omega
            have tk : I.take (256 * 5) = I := List.take_of_length_le (by rw [LI.out]; decide)
            rw [tk] at hA
            obtain ⟨ga, ca, ev⟩ : ∃ ga ca, Value.slice av lv cv = .slice (some ⟨ga, 0, none⟩) 1280 ca := by
              obtain ⟨_, _, _, o, _⟩ := hA.out
              obtain ⟨g, c, e, _⟩ := owns_form o (by omega)
              exact ⟨g, c, e⟩
            cases ev
            have HCp := acc_copy hA.out (by omega)
            clear hjl hj tk hA
            go_wp2_with fail
            refine HCp.mono ?_
            rintro e x1 ⟨C, rfl, u1⟩
            have U1 : Hid (DuoR w x1 C D t t ga I) := u1
            have SA : Hid (Seen x1 (some ⟨ga, 0, none⟩) 1280 I) := by have := u1.seen; rw [LI.out] at this; exact this
            clear u1 HCp
            go_wp2_with fail
            refine wp_region_held_drew (S := fun X => Below x1.heap.size x1 X) (by kernel_rfl) ((Below.refl _ x1).drew) (fun hHeld => ?_)
            refine take_run (i := 0) (oi := { dst := some 62, op := Go.Op.move (Go.Operand.tmp 12), type := 24, pos := "law.go:254", after := #[], guard := none }) (v := .pointer (some ⟨C, 0, none⟩)) rfl (by kernel_rfl) (by kernel_rfl) (by kernel_rfl) (fun _ _ _ h => h) (by rfl) ?_ hHeld ?_
            · (intro wq hSw; go_simp <;> with_reducible rfl)
            try simp only [Act.put, List.setIfInBounds_toArray, List.set_cons_zero, List.set_cons_succ]
            refine take_run (i := 1) (oi := { dst := some 63, op := Go.Op.binOp Go.BinOp.eql 24 (Go.Operand.tmp 62) (Go.Operand.const (Go.Value.pointer none)) 24, type := 4, pos := "law.go:254", after := #[{ on := 0, ground := Go.Ground.data }], guard := none }) (v := .bool false) rfl (by kernel_rfl) (by kernel_rfl) (by kernel_rfl) (fun _ _ _ h => h) (by rfl) ?_ hHeld ?_
            · (intro wq hSw; go_simp <;> with_reducible rfl)
            try simp only [Act.put, List.setIfInBounds_toArray, List.set_cons_zero, List.set_cons_succ]
            refine take_run (i := 2) (oi := { dst := some 64, op := Go.Op.move (Go.Operand.tmp 63), type := 4, pos := "law.go:254", after := #[{ on := 1, ground := Go.Ground.data }], guard := none }) (v := .bool false) rfl (by kernel_rfl) (by kernel_rfl) (by kernel_rfl) (fun _ _ _ h => h) (by rfl) ?_ hHeld ?_
            · (intro wq hSw; go_simp <;> with_reducible rfl)
            try simp only [Act.put, List.setIfInBounds_toArray, List.set_cons_zero, List.set_cons_succ]
            refine take_run (i := 3) (oi := { dst := some 65, op := Go.Op.move (Go.Operand.tmp 5), type := 24, pos := "law.go:254", after := #[{ on := 2, ground := Go.Ground.guard }], guard := some (2, false) }) (v := .pointer (some ⟨D, 0, none⟩)) rfl (by kernel_rfl) (by kernel_rfl) (by kernel_rfl) (fun _ _ _ h => h) (by rfl) ?_ hHeld ?_
            · (intro wq hSw; go_simp <;> with_reducible rfl)
            try simp only [Act.put, List.setIfInBounds_toArray, List.set_cons_zero, List.set_cons_succ]
            refine take_run (i := 6) (oi := { dst := some 68, op := Go.Op.move (Go.Operand.tmp 8), type := 29, pos := "law.go:254", after := #[{ on := 2, ground := Go.Ground.guard }], guard := some (2, false) }) (v := .slice (some ⟨ga, 0, none⟩) 1280 cv) rfl (by kernel_rfl) (by kernel_rfl) (by kernel_rfl) (fun _ _ _ h => h) (by rfl) ?_ hHeld ?_
            · (intro wq hSw; go_simp <;> with_reducible rfl)
            try simp only [Act.put, List.setIfInBounds_toArray, List.set_cons_zero, List.set_cons_succ]
            refine take_run (i := 7) (oi := { dst := some 69, op := Go.Op.convert 29 9 (Go.Operand.tmp 68), type := 9, pos := "law.go:254", after := #[{ on := 6, ground := Go.Ground.data }, { on := 2, ground := Go.Ground.guard }], guard := some (2, false) }) (v := .string (textOf I)) rfl (by kernel_rfl) (by kernel_rfl) (by kernel_rfl) (fun _ _ _ h => h) (by rfl) ?_ hHeld ?_
            · (intro wq hSw; have tt := run_to_text wq (some ⟨ga, 0, none⟩) 1280 cv _ (Seen.below SA.out hSw); go_simp <;> with_reducible rfl)
            try simp only [Act.put, List.setIfInBounds_toArray, List.set_cons_zero, List.set_cons_succ]
            refine take_call (i := 4) (oi := { dst := some 66, op := Go.Op.call { callee := Go.Callee.value (Go.Operand.func 10), args := #[Go.Operand.tmp 65], argTypes := #[24] }, type := 29, pos := "law.go:254", after := #[{ on := 3, ground := Go.Ground.data }, { on := 2, ground := Go.Ground.chain }, { on := 2, ground := Go.Ground.guard }], guard := some (2, false) }) rfl (by kernel_rfl) (by rfl) 10 _ (by go_simp <;> with_reducible rfl) ?_
            refine (duo_image (U1.out.duo.below (Below.refl _ x1).drew).symm).mono ?_
            rintro e y1 ⟨g1, q1, rfl, s1, b1, u1⟩
            have b1' := hHeld.trans (b1.mono hHeld.size)
            refine ⟨.slice (some ⟨g1, 0, none⟩) 1280 q1, rfl, b1', held_more (S' := fun X => Below y1.heap.size y1 X) (fun X hX => b1'.trans (hX.mono b1'.size)) _ _ _ _ ?_⟩
            try simp only [Act.put, List.setIfInBounds_toArray, List.set_cons_zero, List.set_cons_succ]
            have r1 := Below.refl y1.heap.size y1
            rw [EI.out] at s1
            refine take_run (i := 5) (oi := { dst := some 67, op := Go.Op.convert 29 9 (Go.Operand.tmp 66), type := 9, pos := "law.go:254", after := #[{ on := 4, ground := Go.Ground.data }, { on := 2, ground := Go.Ground.guard }], guard := some (2, false) }) (v := .string (textOf I)) rfl (by kernel_rfl) (by kernel_rfl) (by kernel_rfl) (fun _ _ _ h => h) (by rfl) ?_ r1 ?_
            · (intro wq hSw; have tt := run_to_text wq (some ⟨g1, 0, none⟩) 1280 q1 _ (Seen.below s1 hSw); go_simp <;> with_reducible rfl)
            try simp only [Act.put, List.setIfInBounds_toArray, List.set_cons_zero, List.set_cons_succ]
            refine take_run (i := 8) (oi := { dst := some 70, op := Go.Op.binOp Go.BinOp.neq 9 (Go.Operand.tmp 67) (Go.Operand.tmp 69) 9, type := 4, pos := "law.go:254", after := #[{ on := 5, ground := Go.Ground.data }, { on := 7, ground := Go.Ground.data }, { on := 2, ground := Go.Ground.guard }], guard := some (2, false) }) (v := .bool false) rfl (by kernel_rfl) (by kernel_rfl) (by kernel_rfl) (fun _ _ _ h => h) (by rfl) ?_ r1 ?_
            · (intro wq hSw; go_simp <;> with_reducible rfl)
            try simp only [Act.put, List.setIfInBounds_toArray, List.set_cons_zero, List.set_cons_succ]
            refine take_run (i := 9) (oi := { dst := some 71, op := Go.Op.pick (Go.Operand.tmp 64) (Go.Operand.const (Go.Value.bool true)) (Go.Operand.tmp 70), type := 4, pos := "law.go:254", after := #[{ on := 2, ground := Go.Ground.data }, { on := 8, ground := Go.Ground.data }], guard := none }) (v := .bool false) rfl (by kernel_rfl) (by kernel_rfl) (by kernel_rfl) (fun _ _ _ h => h) (by rfl) ?_ r1 ?_
            · (intro wq hSw; go_simp <;> with_reducible rfl)
            try simp only [Act.put, List.setIfInBounds_toArray, List.set_cons_zero, List.set_cons_succ]
            refine take_run (i := 10) (oi := { dst := some 72, op := Go.Op.move (Go.Operand.tmp 71), type := 4, pos := "law.go:254", after := #[{ on := 9, ground := Go.Ground.data }, { on := 4, ground := Go.Ground.chain }], guard := none }) (v := .bool false) rfl (by kernel_rfl) (by kernel_rfl) (by kernel_rfl) (fun _ _ _ h => h) (by rfl) ?_ r1 ?_
            · (intro wq hSw; go_simp <;> with_reducible rfl)
            try simp only [Act.put, List.setIfInBounds_toArray, List.set_cons_zero, List.set_cons_succ]
            refine take_run (i := 11) (oi := { dst := some 73, op := Go.Op.move (Go.Operand.tmp 5), type := 24, pos := "law.go:254", after := #[{ on := 10, ground := Go.Ground.guard }], guard := some (10, false) }) (v := .pointer (some ⟨D, 0, none⟩)) rfl (by kernel_rfl) (by kernel_rfl) (by kernel_rfl) (fun _ _ _ h => h) (by rfl) ?_ r1 ?_
            · (intro wq hSw; go_simp <;> with_reducible rfl)
            try simp only [Act.put, List.setIfInBounds_toArray, List.set_cons_zero, List.set_cons_succ]
            refine take_call (i := 12) (oi := { dst := some 74, op := Go.Op.call { callee := Go.Callee.value (Go.Operand.func 11), args := #[Go.Operand.tmp 73], argTypes := #[24] }, type := 3, pos := "law.go:254", after := #[{ on := 11, ground := Go.Ground.data }, { on := 10, ground := Go.Ground.chain }, { on := 10, ground := Go.Ground.guard }], guard := some (10, false) }) rfl (by kernel_rfl) (by rfl) 11 _ (by go_simp <;> with_reducible rfl) ?_
            refine (duo_unsynced u1).mono ?_
            rintro e y3 ⟨rfl, rfl⟩
            rw [EW.out]
            refine ⟨.int .i64 0, rfl, r1, ?_⟩
            try simp only [Act.put, List.setIfInBounds_toArray, List.set_cons_zero, List.set_cons_succ]
            refine take_run (i := 13) (oi := { dst := some 75, op := Go.Op.binOp Go.BinOp.neq 3 (Go.Operand.tmp 74) (Go.Operand.const (Go.Value.int Go.IntKind.i64 0)) 3, type := 4, pos := "law.go:254", after := #[{ on := 12, ground := Go.Ground.data }, { on := 10, ground := Go.Ground.guard }], guard := some (10, false) }) (v := .bool false) rfl (by kernel_rfl) (by kernel_rfl) (by kernel_rfl) (fun _ _ _ h => h) (by rfl) ?_ r1 ?_
            · (intro wq hSw; go_simp <;> with_reducible rfl)
            try simp only [Act.put, List.setIfInBounds_toArray, List.set_cons_zero, List.set_cons_succ]
            refine take_run (i := 14) (oi := { dst := some 76, op := Go.Op.pick (Go.Operand.tmp 72) (Go.Operand.const (Go.Value.bool true)) (Go.Operand.tmp 75), type := 4, pos := "law.go:254", after := #[{ on := 10, ground := Go.Ground.data }, { on := 13, ground := Go.Ground.data }], guard := none }) (v := .bool false) rfl (by kernel_rfl) (by kernel_rfl) (by kernel_rfl) (fun _ _ _ h => h) (by rfl) ?_ r1 ?_
            · (intro wq hSw; go_simp <;> with_reducible rfl)
            try simp only [Act.put, List.setIfInBounds_toArray, List.set_cons_zero, List.set_cons_succ]
            have U2 : Hid (DuoR w y3 C D t t ga I) := U1.out.below b1'
            clear r1 b1 s1 u1 b1' hHeld U1 SA
            refine wpAnyH_done (by kernel_rfl) ?_ _
            go_wp2_with fail
            refine (duoR_crash U2.out ka kl kc zs HKP.out).mono ?_
            rintro e x3 ⟨rfl, u3⟩
            have U3 : Hid (DuoR w x3 C D (crashD t zs) t ga I) := u3
            have SA : Hid (Seen x3 (some ⟨ga, 0, none⟩) 1280 I) := by have := u3.seen; rw [LI.out] at this; exact this
            clear u3 U2
            go_wp2_with fail
            refine wp_region_held_drew (S := fun X => Below x3.heap.size x3 X) (by kernel_rfl) ((Below.refl _ x3).drew) (fun hHeld => ?_)
            refine take_run (i := 0) (oi := { dst := some 80, op := Go.Op.move (Go.Operand.tmp 12), type := 24, pos := "law.go:258", after := #[], guard := none }) (v := .pointer (some ⟨C, 0, none⟩)) rfl (by kernel_rfl) (by kernel_rfl) (by kernel_rfl) (fun _ _ _ h => h) (by rfl) ?_ hHeld ?_
            · (intro wq hSw; go_simp <;> with_reducible rfl)
            try simp only [Act.put, List.setIfInBounds_toArray, List.set_cons_zero, List.set_cons_succ]
            refine take_run (i := 3) (oi := { dst := some 83, op := Go.Op.move (Go.Operand.tmp 8), type := 29, pos := "law.go:258", after := #[], guard := none }) (v := .slice (some ⟨ga, 0, none⟩) 1280 cv) rfl (by kernel_rfl) (by kernel_rfl) (by kernel_rfl) (fun _ _ _ h => h) (by rfl) ?_ hHeld ?_
            · (intro wq hSw; go_simp <;> with_reducible rfl)
            try simp only [Act.put, List.setIfInBounds_toArray, List.set_cons_zero, List.set_cons_succ]
            refine take_run (i := 4) (oi := { dst := some 84, op := Go.Op.convert 29 9 (Go.Operand.tmp 83), type := 9, pos := "law.go:258", after := #[{ on := 3, ground := Go.Ground.data }], guard := none }) (v := .string (textOf I)) rfl (by kernel_rfl) (by kernel_rfl) (by kernel_rfl) (fun _ _ _ h => h) (by rfl) ?_ hHeld ?_
            · (intro wq hSw; have tt := run_to_text wq (some ⟨ga, 0, none⟩) 1280 cv _ (Seen.below SA.out hSw); go_simp <;> with_reducible rfl)
            try simp only [Act.put, List.setIfInBounds_toArray, List.set_cons_zero, List.set_cons_succ]
            refine take_call (i := 1) (oi := { dst := some 81, op := Go.Op.call { callee := Go.Callee.value (Go.Operand.func 10), args := #[Go.Operand.tmp 80], argTypes := #[24] }, type := 29, pos := "law.go:258", after := #[{ on := 0, ground := Go.Ground.data }], guard := none }) rfl (by kernel_rfl) (by rfl) 10 _ (by go_simp <;> with_reducible rfl) ?_
            refine (duo_image (U3.out.duo.below (Below.refl _ x3).drew)).mono ?_
            rintro e y1 ⟨g1, q1, rfl, s1, b1, u1⟩
            have b1' := hHeld.trans (b1.mono hHeld.size)
            refine ⟨.slice (some ⟨g1, 0, none⟩) 1280 q1, rfl, b1', held_more (S' := fun X => Below y1.heap.size y1 X) (fun X hX => b1'.trans (hX.mono b1'.size)) _ _ _ _ ?_⟩
            try simp only [Act.put, List.setIfInBounds_toArray, List.set_cons_zero, List.set_cons_succ]
            have r1 := Below.refl y1.heap.size y1
            rw [EC.out] at s1
            refine take_run (i := 2) (oi := { dst := some 82, op := Go.Op.convert 29 9 (Go.Operand.tmp 81), type := 9, pos := "law.go:258", after := #[{ on := 1, ground := Go.Ground.data }], guard := none }) (v := .string (textOf I)) rfl (by kernel_rfl) (by kernel_rfl) (by kernel_rfl) (fun _ _ _ h => h) (by rfl) ?_ r1 ?_
            · (intro wq hSw; have tt := run_to_text wq (some ⟨g1, 0, none⟩) 1280 q1 _ (Seen.below s1 hSw); go_simp <;> with_reducible rfl)
            try simp only [Act.put, List.setIfInBounds_toArray, List.set_cons_zero, List.set_cons_succ]
            refine take_run (i := 5) (oi := { dst := some 85, op := Go.Op.binOp Go.BinOp.neq 9 (Go.Operand.tmp 82) (Go.Operand.tmp 84) 9, type := 4, pos := "law.go:258", after := #[{ on := 2, ground := Go.Ground.data }, { on := 4, ground := Go.Ground.data }], guard := none }) (v := .bool false) rfl (by kernel_rfl) (by kernel_rfl) (by kernel_rfl) (fun _ _ _ h => h) (by rfl) ?_ r1 ?_
            · (intro wq hSw; go_simp <;> with_reducible rfl)
            try simp only [Act.put, List.setIfInBounds_toArray, List.set_cons_zero, List.set_cons_succ]
            have HH : Hid (Hold w y1 D t []) := u1.hold
            clear r1 b1 s1 u1 b1' hHeld U3 SA
            refine wpAnyH_done (by kernel_rfl) ?_ _
            go_wp2
            rw [WK.out]
            go_roundw
            case rel => exact ⟨k + 1, t, rfl, ⟨HLT.out.1, HLT.out.2⟩, HH.out, ES.out, EW.out⟩
            case measure => exact less_by HLT.out.2
    · have hx : ¬ (k : Int) < (len : Int) ∨ ((k : Int) < (len : Int) ∧ ¬ (k : Int) < 40) := by omega
      clear hlt hk hE
      rcases hx with h1 | ⟨h1, h2⟩
      all_goals
        go_wp2_with fail
        refine (known_any _).mono ?_
        rintro e y ⟨rfl, b⟩
        have B : Hid (Below w.heap.size w y) := hM.out.low.trans (b.mono hM.out.low.size)
        clear b
        go_wp2
        go_ret
        exact ⟨rfl, B.out⟩
end Go.Proofs.Ytaipnledcgdncab
