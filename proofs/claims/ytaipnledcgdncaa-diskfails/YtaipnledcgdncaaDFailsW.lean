/- DiskFails: the law. -/
import Derived.Test.YtaipnledcgdncaaDFails
namespace Go.Proofs.Ytaipnledcgdncaa
open Go.RowKit
set_option linter.unusedVariables false

theorem Hold.drop {w0 w : World} {D : Nat} {s : DS} {r : Nat × List (BitVec 8)} {rs : List (Nat × List (BitVec 8))} (h : Hold w0 w D s (r :: rs)) : Hold w0 w D s rs := by
  obtain ⟨m, e, h, k⟩ := h
  exact ⟨m, e, h, fun x hx => k x (List.mem_cons_of_mem _ hx)⟩
set_option maxRecDepth 100000 in
set_option maxHeartbeats 6400000 in
theorem fails_any (a : Option Addr) (len cap : Nat) (os : List OpX) (n : Int) (ba : Option Addr) (bc : Nat) (l : List (BitVec 8)) (w : World) (h : OpsAt w a len os) (hz : ∀ o ∈ os, o.b.length ≤ 140737488351232) (hn : -9223372036854775808 ≤ n ∧ n < 9223372036854775808) (hb : Seen w ba l.length l) (hbc : l.length ≤ bc) :
    Calls Try.prog 7 #[.slice a len cap, .int .i64 n, .slice ba l.length bc] w fun e w' => e = .returned (.bool true) ∧ Below w.heap.size w w' := by
  have kc := fun (w : World) (C : Array Value) (n c : Nat) => Lib.run_convert_bytes_const (P := Try.prog) w 22 5 C n c Try.underlying22 Try.underlying5
  have FA := fun k => runD_facts (newD_ok (n := 5) (by omega) (by omega)) (newD_even 5) rfl os k
  have ST := fun k => runD_step 5 (newD 5) os k
  have F0 : runD 5 (newD 5) (os.take 0) = newD 5 := rfl
  have HN := hold_new w
  obtain ⟨s0, e0⟩ : ∃ s, newD 5 = s := ⟨_, rfl⟩
  rw [e0] at HN FA ST F0
  clear e0
  obtain ⟨c, ec⟩ : ∃ c : Nat, (c : Int) = n % 5 := ⟨(n % 5).toNat, by omega⟩
  have HC := fun w => count_any n 5 w (by omega) (by omega) (by omega) (by omega)
  rw [← ec] at HC
  have hc5 : c < 5 := by omega
  have HC5 : Hid (c < 5) := hc5
  have HFA : Hid _ := FA
  have HST : Hid _ := ST
  have HF0 : Hid _ := F0
  have HO : Hid (OpsAt w a len os) := h
  have HZ : Hid (∀ o ∈ os, o.b.length ≤ 140737488351232) := hz
  have HL : Hid (len = os.length) := h.1
  have HB : Hid (Seen w ba l.length l ∧ l.length ≤ bc) := ⟨hb, hbc⟩
  clear FA ST F0 h hz hn hb hbc hc5 ec
  go_enter Try.func7, Try.ntmps7
  go_wp2_with fail
  refine HN.mono ?_
  rintro e w1 ⟨D, rfl, h1⟩
  have H1 : Hid (Hold w w1 D s0 []) := h1
  clear HN h1
  go_wp2_with fail
  go_loopw [9] (fun i wr => ∃ k : Nat, i = .int .i64 k ∧ Hid (k ≤ len ∧ k ≤ 40) ∧ Hid (Hold w wr D (runD 5 s0 (os.take k)) [])) (fun i _ => 40 - (intOf i).toNat)
  case atStart => exact ⟨0, rfl, ⟨Nat.zero_le _, Nat.zero_le _⟩, by rw [HF0.out]; exact H1.out⟩
  case round =>
    clear H1
    obtain ⟨k, rfl, hk, hM⟩ := hrel
    by_cases hlt : k < len ∧ k < 40
    · have hko : k < os.length := by have := HL.out; omega
      obtain ⟨g, off, rfl, c0, c1, c2, c3, hat⟩ := HO.out.at hM.out.low hko
      have es := HST.out k hko
      have hz1 := HZ.out _ (List.getElem_mem hko)
      obtain ⟨o, eo⟩ : ∃ o, os[k] = o := ⟨_, rfl⟩
      rw [eo] at c0 c1 c2 c3 hat es hz1
      have HD := hold_do hM.out o hat (by have := (HFA.out k (by omega) (by have := hlt.2; omega)).2.2; have := hlt.2; omega) hz1
      have h1 : (k : Int) < (len : Int) := by omega
      have h2 : (k : Int) < 40 := by omega
      have HLT : Hid (k < len ∧ k < 40) := hlt
      have ES : Hid _ := es
      have WK : Hid ((k : Int) + 1 = ((k + 1 : Nat) : Int)) := by show (k : Int) + 1 = ((k + 1 : Nat) : Int); omega
      clear hlt hko eo hz1 es hat hk
      go_wp2_with fail
      refine HD.mono ?_
      rintro e w2 ⟨rfl, r⟩
      have M2 : Hid (Hold w w2 D (runD 5 s0 (os.take (k + 1))) []) := by rw [ES.out]; exact r
      clear r HD hM ES
      go_wp2
      rw [WK.out]
      go_roundw
      case rel => exact ⟨k + 1, rfl, ⟨HLT.out.1, HLT.out.2⟩, M2.out⟩
      case measure => exact less_by HLT.out.2
    · have hx : ¬ (k : Int) < (len : Int) ∨ ((k : Int) < (len : Int) ∧ ¬ (k : Int) < 40) := by omega
      have FK := HFA.out k (by have := hk.out.1; have := HL.out; omega) (by have := hk.out.2; omega)
      obtain ⟨s, es⟩ : ∃ s, runD 5 s0 (os.take k) = s := ⟨_, rfl⟩
      rw [es] at FK hM
      have ecr := crashD_still FK.1 FK.2.1
      have HCr := hold_crash hM.out none 0 0 [] ⟨rfl, by simp, (fun z hz => by cases hz), .inl rfl⟩ (fun y e => by cases e)
      rw [ecr] at HCr
      obtain ⟨I, eI⟩ : ∃ I, s.img = I := ⟨_, rfl⟩
      rw [eI] at HCr
      have hy : (l.length ≤ 256 ∧ ¬ (256 : Int) < (l.length : Int)) ∨ ((256 : Int) < (l.length : Int) ∧ 256 ≤ bc) := by
        have := HB.out.2
        by_cases hh : l.length ≤ 256
        · exact .inl ⟨hh, by omega⟩
        · exact .inr ⟨by omega, by omega⟩
      clear hlt FK es ecr eI hM HFA HST HF0 HO HZ HL hk
      rcases hx with h1 | ⟨h1, h2⟩
      all_goals
        go_wp2_with fail
        refine HCr.mono ?_
        rintro e w2 ⟨rfl, h2⟩
        have H2 : Hid (Hold w w2 D (still I) []) := h2
        clear h2 HCr
        go_wp2_with fail
        refine (HC _).mono ?_
        rintro e w3 ⟨rfl, rfl⟩
        rcases hy with ⟨y1, y2⟩ | ⟨y1, y2⟩
        · have SB : Hid (Seen w3 ba l.length l ∧ l.length ≤ 256) := ⟨HB.out.1.below H2.out.low, y1⟩
          clear y1
          go_wp2_with fail
          obtain ⟨B, sb, lb⟩ : ∃ B, Seen w3 ba l.length B ∧ B.length ≤ 256 := ⟨l, SB.out⟩
          obtain ⟨P, eP⟩ : ∃ P, pad B = P := ⟨_, rfl⟩
          clear SB
          refine (f_write H2.out HC5.out _ _ _ B sb lb).mono ?_
          rintro e w4 ⟨rfl, h4⟩
          rw [eP] at h4
          have H4 : Hid (Hold w w4 D (half I c P false false false) []) := h4
          clear h4 H2 sb lb eP
          go_wp2_with fail
          refine (f_unsynced H4.out).mono ?_
          rintro e w' ⟨rfl, rfl⟩
          go_wp2_with fail
          refine (f_read H4.out).mono ?_
          rintro e w5 ⟨g5, rfl, h5⟩
          have H5 : Hid (Hold w w5 D (half I c P false false false) [(g5, P)]) := h5
          clear h5 H4
          go_wp2_with fail
          refine (f_image H5.out).mono ?_
          rintro e w6 ⟨g6, k6, rfl, h6⟩
          have H6 : Hid (Hold w w6 D (half I c P false false false) [(g6, I), (g5, P)]) := h6
          clear h6 H5
          go_wp2_with fail
          refine (f_full H6.out).mono ?_
          rintro e w7 ⟨rfl, h7⟩
          have H7 : Hid (Hold w w7 D (half I c P false false true) [(g6, I), (g5, P)]) := h7
          clear h7 H6
          go_wp2_with fail
          have bA := (Below.refl w7.heap.size w7).alloc (Nat.le_refl _) (.cells #[.int .u8 111, .int .u8 116, .int .u8 104, .int .u8 101, .int .u8 114] 5 (5, 6))
          refine (f_write2 (H7.out.below bA) HC5.out _ 5 5 [111#8, 116#8, 104#8, 101#8, 114#8] (seen_new w7 [111#8, 116#8, 104#8, 101#8, 114#8] 5 (5, 6) (by decide)) (by decide)).mono ?_
          rintro e w8 ⟨rfl, h8⟩
          have H8 : Hid (Hold w w8 D (half I c P false false true) [(g6, I), (g5, P)]) := h8
          clear h8 H7 bA
          go_wp2_with fail
          refine (f_unsynced H8.out).mono ?_
          rintro e w' ⟨rfl, rfl⟩
          go_wp2_with fail
          refine (f_unfull H8.out).mono ?_
          rintro e w9 ⟨rfl, h9⟩
          have H9 : Hid (Hold w w9 D (half I c P false false false) [(g6, I), (g5, P)]) := h9
          clear h9 H8
          go_wp2_with fail
          refine (f_fail H9.out).mono ?_
          rintro e w10 ⟨rfl, h10⟩
          have H10 : Hid (Hold w w10 D (half I c P true false false) [(g6, I), (g5, P)]) := h10
          clear h10 H9
          go_wp2_with fail
          refine (f_sync1 H10.out).mono ?_
          rintro e w11 ⟨rfl, h11⟩
          have H11 : Hid (Hold w w11 D (half I c P true true false) [(g6, I), (g5, P)]) := h11
          clear h11 H10
          go_wp2_with fail
          refine (f_dead H11.out).mono ?_
          rintro e w' ⟨rfl, rfl⟩
          go_wp2_with fail
          refine (f_sync2 H11.out).mono ?_
          rintro e w12 ⟨rfl, h12⟩
          have H12 : Hid (Hold w w12 D (half I c P true true false) [(g6, I), (g5, P)]) := h12
          clear h12 H11
          go_wp2_with fail
          refine (f_write3 H12.out).mono ?_
          rintro e w13 ⟨rfl, h13⟩
          have H13 : Hid (Hold w w13 D (half I c P true true false) [(g6, I), (g5, P)]) := h13
          clear h13 H12
          go_wp2_with fail
          refine (f_read H13.out).mono ?_
          rintro e w14 ⟨g14, rfl, h14⟩
          have H14 : Hid (Hold w w14 D (half I c P true true false) [(g14, P), (g6, I), (g5, P)]) := h14
          have HP : Hid (P.length = 256) := (half_now h14).2.2.1
          have HI : Hid (I.length = 1280) := (half_now h14).2.2.2
          have tp := text_self (textOf P)
          have ti := text_self (textOf I)
          clear h14 H13
          go_wp2_with fail
          refine wp_region_held_drew (S := fun X => Hold w X D (half I c P true true false) [(g14, P), (g6, I), (g5, P)]) (by kernel_rfl) H14.out.drew (fun hHeld => ?_)
          refine take_run (i := 0) (oi := { dst := some 112, op := Go.Op.move (Go.Operand.tmp 14), type := 25, pos := "law.go:200", after := #[], guard := none }) (v := .int .i64 0) rfl (by kernel_rfl) (by kernel_rfl) (by kernel_rfl) (fun _ _ _ h => h) (by rfl) ?_ hHeld ?_
          · (intro wq hSw; go_simp <;> with_reducible rfl)
          try simp only [Act.put, List.setIfInBounds_toArray, List.set_cons_zero, List.set_cons_succ]
          refine take_run (i := 1) (oi := { dst := some 113, op := Go.Op.binOp Go.BinOp.neq 25 (Go.Operand.tmp 112) (Go.Operand.const (Go.Value.int Go.IntKind.i64 0)) 25, type := 4, pos := "law.go:200", after := #[{ on := 0, ground := Go.Ground.data }], guard := none }) (v := .bool false) rfl (by kernel_rfl) (by kernel_rfl) (by kernel_rfl) (fun _ _ _ h => h) (by rfl) ?_ hHeld ?_
          · (intro wq hSw; go_simp <;> with_reducible rfl)
          try simp only [Act.put, List.setIfInBounds_toArray, List.set_cons_zero, List.set_cons_succ]
          refine take_run (i := 2) (oi := { dst := some 114, op := Go.Op.move (Go.Operand.tmp 113), type := 4, pos := "law.go:200", after := #[{ on := 1, ground := Go.Ground.data }], guard := none }) (v := .bool false) rfl (by kernel_rfl) (by kernel_rfl) (by kernel_rfl) (fun _ _ _ h => h) (by rfl) ?_ hHeld ?_
          · (intro wq hSw; go_simp <;> with_reducible rfl)
          try simp only [Act.put, List.setIfInBounds_toArray, List.set_cons_zero, List.set_cons_succ]
          refine take_run (i := 3) (oi := { dst := some 115, op := Go.Op.move (Go.Operand.tmp 13), type := 22, pos := "law.go:200", after := #[{ on := 2, ground := Go.Ground.guard }], guard := some (2, false) }) (v := .slice (some ⟨g14, 0, none⟩) 256 256) rfl (by kernel_rfl) (by kernel_rfl) (by kernel_rfl) (fun _ _ _ h => h) (by rfl) ?_ hHeld ?_
          · (intro wq hSw; go_simp <;> with_reducible rfl)
          try simp only [Act.put, List.setIfInBounds_toArray, List.set_cons_zero, List.set_cons_succ]
          refine take_run (i := 4) (oi := { dst := some 116, op := Go.Op.convert 22 9 (Go.Operand.tmp 115), type := 9, pos := "law.go:200", after := #[{ on := 3, ground := Go.Ground.data }, { on := 2, ground := Go.Ground.guard }], guard := some (2, false) }) (v := .string (textOf P)) rfl (by kernel_rfl) (by kernel_rfl) (by kernel_rfl) (fun _ _ _ h => h) (by rfl) ?_ hHeld ?_
          · (intro wq hSw; have tt := hSw.text (g := g14) (l := P) (by simp) 256 256 HP.out; go_simp <;> with_reducible rfl)
          try simp only [Act.put, List.setIfInBounds_toArray, List.set_cons_zero, List.set_cons_succ]
          refine take_run (i := 5) (oi := { dst := some 117, op := Go.Op.move (Go.Operand.tmp 10), type := 22, pos := "law.go:200", after := #[{ on := 2, ground := Go.Ground.guard }], guard := some (2, false) }) (v := .slice (some ⟨g5, 0, none⟩) 256 256) rfl (by kernel_rfl) (by kernel_rfl) (by kernel_rfl) (fun _ _ _ h => h) (by rfl) ?_ hHeld ?_
          · (intro wq hSw; go_simp <;> with_reducible rfl)
          try simp only [Act.put, List.setIfInBounds_toArray, List.set_cons_zero, List.set_cons_succ]
          refine take_run (i := 6) (oi := { dst := some 118, op := Go.Op.convert 22 9 (Go.Operand.tmp 117), type := 9, pos := "law.go:200", after := #[{ on := 5, ground := Go.Ground.data }, { on := 2, ground := Go.Ground.guard }], guard := some (2, false) }) (v := .string (textOf P)) rfl (by kernel_rfl) (by kernel_rfl) (by kernel_rfl) (fun _ _ _ h => h) (by rfl) ?_ hHeld ?_
          · (intro wq hSw; have tt := hSw.text (g := g5) (l := P) (by simp) 256 256 HP.out; go_simp <;> with_reducible rfl)
          try simp only [Act.put, List.setIfInBounds_toArray, List.set_cons_zero, List.set_cons_succ]
          refine take_run (i := 7) (oi := { dst := some 119, op := Go.Op.binOp Go.BinOp.neq 9 (Go.Operand.tmp 116) (Go.Operand.tmp 118) 9, type := 4, pos := "law.go:200", after := #[{ on := 4, ground := Go.Ground.data }, { on := 6, ground := Go.Ground.data }, { on := 2, ground := Go.Ground.guard }], guard := some (2, false) }) (v := .bool false) rfl (by kernel_rfl) (by kernel_rfl) (by kernel_rfl) (fun _ _ _ h => h) (by rfl) ?_ hHeld ?_
          · (intro wq hSw; go_simp <;> with_reducible rfl)
          try simp only [Act.put, List.setIfInBounds_toArray, List.set_cons_zero, List.set_cons_succ]
          refine take_run (i := 8) (oi := { dst := some 120, op := Go.Op.pick (Go.Operand.tmp 114) (Go.Operand.const (Go.Value.bool true)) (Go.Operand.tmp 119), type := 4, pos := "law.go:200", after := #[{ on := 2, ground := Go.Ground.data }, { on := 7, ground := Go.Ground.data }], guard := none }) (v := .bool false) rfl (by kernel_rfl) (by kernel_rfl) (by kernel_rfl) (fun _ _ _ h => h) (by rfl) ?_ hHeld ?_
          · (intro wq hSw; go_simp <;> with_reducible rfl)
          try simp only [Act.put, List.setIfInBounds_toArray, List.set_cons_zero, List.set_cons_succ]
          refine take_run (i := 9) (oi := { dst := some 121, op := Go.Op.move (Go.Operand.tmp 120), type := 4, pos := "law.go:200", after := #[{ on := 8, ground := Go.Ground.data }, { on := 2, ground := Go.Ground.chain }], guard := none }) (v := .bool false) rfl (by kernel_rfl) (by kernel_rfl) (by kernel_rfl) (fun _ _ _ h => h) (by rfl) ?_ hHeld ?_
          · (intro wq hSw; go_simp <;> with_reducible rfl)
          try simp only [Act.put, List.setIfInBounds_toArray, List.set_cons_zero, List.set_cons_succ]
          refine take_run (i := 10) (oi := { dst := some 122, op := Go.Op.move (Go.Operand.tmp 7), type := 24, pos := "law.go:200", after := #[{ on := 9, ground := Go.Ground.guard }], guard := some (9, false) }) (v := .pointer (some ⟨D, 0, none⟩)) rfl (by kernel_rfl) (by kernel_rfl) (by kernel_rfl) (fun _ _ _ h => h) (by rfl) ?_ hHeld ?_
          · (intro wq hSw; go_simp <;> with_reducible rfl)
          try simp only [Act.put, List.setIfInBounds_toArray, List.set_cons_zero, List.set_cons_succ]
          refine take_run (i := 13) (oi := { dst := some 125, op := Go.Op.move (Go.Operand.tmp 12), type := 22, pos := "law.go:200", after := #[{ on := 9, ground := Go.Ground.guard }], guard := some (9, false) }) (v := .slice (some ⟨g6, 0, none⟩) 1280 k6) rfl (by kernel_rfl) (by kernel_rfl) (by kernel_rfl) (fun _ _ _ h => h) (by rfl) ?_ hHeld ?_
          · (intro wq hSw; go_simp <;> with_reducible rfl)
          try simp only [Act.put, List.setIfInBounds_toArray, List.set_cons_zero, List.set_cons_succ]
          refine take_run (i := 14) (oi := { dst := some 126, op := Go.Op.convert 22 9 (Go.Operand.tmp 125), type := 9, pos := "law.go:200", after := #[{ on := 13, ground := Go.Ground.data }, { on := 9, ground := Go.Ground.guard }], guard := some (9, false) }) (v := .string (textOf I)) rfl (by kernel_rfl) (by kernel_rfl) (by kernel_rfl) (fun _ _ _ h => h) (by rfl) ?_ hHeld ?_
          · (intro wq hSw; have tt := hSw.text (g := g6) (l := I) (by simp) 1280 k6 HI.out; go_simp <;> with_reducible rfl)
          try simp only [Act.put, List.setIfInBounds_toArray, List.set_cons_zero, List.set_cons_succ]
          refine take_call (i := 11) (oi := { dst := some 123, op := Go.Op.call { callee := Go.Callee.value (Go.Operand.func 23), args := #[Go.Operand.tmp 122], argTypes := #[24] }, type := 22, pos := "law.go:200", after := #[{ on := 10, ground := Go.Ground.data }, { on := 9, ground := Go.Ground.chain }, { on := 9, ground := Go.Ground.guard }], guard := some (9, false) }) rfl (by kernel_rfl) (by rfl) 23 _ (by go_simp <;> with_reducible rfl) ?_
          refine (f_image hHeld).mono ?_
          rintro e Y ⟨gY, kY, rfl, hY0⟩
          have hY : Hold w Y D (half I c P true true false) [(g14, P), (g6, I), (g5, P)] := hY0.drop
          refine ⟨.slice (some ⟨gY, 0, none⟩) 1280 kY, rfl, hY, ?_⟩
          try simp only [Act.put, List.setIfInBounds_toArray, List.set_cons_zero, List.set_cons_succ]
          have tY := hY0.text (g := gY) (l := I) (by simp) 1280 kY HI.out
          refine take_here (i := 12) (oi := { dst := some 124, op := Go.Op.convert 22 9 (Go.Operand.tmp 123), type := 9, pos := "law.go:200", after := #[{ on := 11, ground := Go.Ground.data }, { on := 9, ground := Go.Ground.guard }], guard := some (9, false) }) (.string (textOf I)) rfl (by kernel_rfl) (by rfl) (by go_simp <;> with_reducible rfl) hY ?_
          try simp only [Act.put, List.setIfInBounds_toArray, List.set_cons_zero, List.set_cons_succ]
          clear tY hY0
          refine take_run (i := 15) (oi := { dst := some 127, op := Go.Op.binOp Go.BinOp.neq 9 (Go.Operand.tmp 124) (Go.Operand.tmp 126) 9, type := 4, pos := "law.go:200", after := #[{ on := 12, ground := Go.Ground.data }, { on := 14, ground := Go.Ground.data }, { on := 9, ground := Go.Ground.guard }], guard := some (9, false) }) (v := .bool false) rfl (by kernel_rfl) (by kernel_rfl) (by kernel_rfl) (fun _ _ _ h => h) (by rfl) ?_ hY ?_
          · (intro wq hSw; go_simp <;> with_reducible rfl)
          try simp only [Act.put, List.setIfInBounds_toArray, List.set_cons_zero, List.set_cons_succ]
          refine take_run (i := 16) (oi := { dst := some 128, op := Go.Op.pick (Go.Operand.tmp 121) (Go.Operand.const (Go.Value.bool true)) (Go.Operand.tmp 127), type := 4, pos := "law.go:200", after := #[{ on := 9, ground := Go.Ground.data }, { on := 15, ground := Go.Ground.data }], guard := none }) (v := .bool false) rfl (by kernel_rfl) (by kernel_rfl) (by kernel_rfl) (fun _ _ _ h => h) (by rfl) ?_ hY ?_
          · (intro wq hSw; go_simp <;> with_reducible rfl)
          try simp only [Act.put, List.setIfInBounds_toArray, List.set_cons_zero, List.set_cons_succ]
          have H15 : Hid (Hold w Y D (half I c P true true false) [(g14, P), (g6, I), (g5, P)]) := hY
          clear hY hHeld H14
          refine wpAnyH_done (by kernel_rfl) ?_ _
          go_wp2_with fail
          refine (f_crash H15.out).mono ?_
          rintro e w16 ⟨rfl, h16⟩
          have H16 : Hid (Hold w w16 D (still (patch I c P)) [(g14, P), (g6, I), (g5, P)]) := h16
          clear h16 H15
          go_wp2_with fail
          refine (f_read2 H16.out HC5.out HP.out HI.out).mono ?_
          rintro e w17 ⟨g17, rfl, h17⟩
          have H17 : Hid (Hold w w17 D (still (patch I c P)) [(g17, P), (g14, P), (g6, I), (g5, P)]) := h17
          have t17 := h17.text (g := g17) (l := P) (by simp) 256 256 HP.out
          have t5 := h17.text (g := g5) (l := P) (by simp) 256 256 HP.out
          clear h17 H16
          go_wp2_with fail
          refine (f_dead2 H17.out).mono ?_
          rintro e w' ⟨rfl, rfl⟩
          go_wp2_with fail
          refine (f_write H17.out HC5.out none 0 0 [] ⟨rfl, by simp, .inl rfl⟩ (by simp)).mono ?_
          rintro e w18 ⟨rfl, h18⟩
          have H18 : Hid _ := h18
          clear h18 H17 t17 t5
          go_wp2_with fail
          refine (f_sync3 H18.out).mono ?_
          rintro e w19 ⟨rfl, h19⟩
          have B19 : Hid (Below w.heap.size w w19) := h19.low
          clear h19 H18
          go_wp2_with fail
          refine (known_any _).mono ?_
          rintro e w20 ⟨rfl, b20⟩
          have B20 : Hid (Below w.heap.size w w20) := B19.out.trans (b20.mono B19.out.size)
          clear b20 B19
          go_wp2
          go_ret
          exact ⟨rfl, B20.out⟩
        · have SB : Hid (Seen w3 ba 256 (l.take 256) ∧ (l.take 256).length ≤ 256) := ⟨(HB.out.1.take 256 (by omega)).below H2.out.low, by simp; omega⟩
          go_wp2_with fail
          obtain ⟨B, sb, lb⟩ : ∃ B, Seen w3 ba 256 B ∧ B.length ≤ 256 := ⟨_, SB.out⟩
          obtain ⟨P, eP⟩ : ∃ P, pad B = P := ⟨_, rfl⟩
          clear SB
          refine (f_write H2.out HC5.out _ _ _ B sb lb).mono ?_
          rintro e w4 ⟨rfl, h4⟩
          rw [eP] at h4
          have H4 : Hid (Hold w w4 D (half I c P false false false) []) := h4
          clear h4 H2 sb lb eP
          go_wp2_with fail
          refine (f_unsynced H4.out).mono ?_
          rintro e w' ⟨rfl, rfl⟩
          go_wp2_with fail
          refine (f_read H4.out).mono ?_
          rintro e w5 ⟨g5, rfl, h5⟩
          have H5 : Hid (Hold w w5 D (half I c P false false false) [(g5, P)]) := h5
          clear h5 H4
          go_wp2_with fail
          refine (f_image H5.out).mono ?_
          rintro e w6 ⟨g6, k6, rfl, h6⟩
          have H6 : Hid (Hold w w6 D (half I c P false false false) [(g6, I), (g5, P)]) := h6
          clear h6 H5
          go_wp2_with fail
          refine (f_full H6.out).mono ?_
          rintro e w7 ⟨rfl, h7⟩
          have H7 : Hid (Hold w w7 D (half I c P false false true) [(g6, I), (g5, P)]) := h7
          clear h7 H6
          go_wp2_with fail
          have bA := (Below.refl w7.heap.size w7).alloc (Nat.le_refl _) (.cells #[.int .u8 111, .int .u8 116, .int .u8 104, .int .u8 101, .int .u8 114] 5 (5, 6))
          refine (f_write2 (H7.out.below bA) HC5.out _ 5 5 [111#8, 116#8, 104#8, 101#8, 114#8] (seen_new w7 [111#8, 116#8, 104#8, 101#8, 114#8] 5 (5, 6) (by decide)) (by decide)).mono ?_
          rintro e w8 ⟨rfl, h8⟩
          have H8 : Hid (Hold w w8 D (half I c P false false true) [(g6, I), (g5, P)]) := h8
          clear h8 H7 bA
          go_wp2_with fail
          refine (f_unsynced H8.out).mono ?_
          rintro e w' ⟨rfl, rfl⟩
          go_wp2_with fail
          refine (f_unfull H8.out).mono ?_
          rintro e w9 ⟨rfl, h9⟩
          have H9 : Hid (Hold w w9 D (half I c P false false false) [(g6, I), (g5, P)]) := h9
          clear h9 H8
          go_wp2_with fail
          refine (f_fail H9.out).mono ?_
          rintro e w10 ⟨rfl, h10⟩
          have H10 : Hid (Hold w w10 D (half I c P true false false) [(g6, I), (g5, P)]) := h10
          clear h10 H9
          go_wp2_with fail
          refine (f_sync1 H10.out).mono ?_
          rintro e w11 ⟨rfl, h11⟩
          have H11 : Hid (Hold w w11 D (half I c P true true false) [(g6, I), (g5, P)]) := h11
          clear h11 H10
          go_wp2_with fail
          refine (f_dead H11.out).mono ?_
          rintro e w' ⟨rfl, rfl⟩
          go_wp2_with fail
          refine (f_sync2 H11.out).mono ?_
          rintro e w12 ⟨rfl, h12⟩
          have H12 : Hid (Hold w w12 D (half I c P true true false) [(g6, I), (g5, P)]) := h12
          clear h12 H11
          go_wp2_with fail
          refine (f_write3 H12.out).mono ?_
          rintro e w13 ⟨rfl, h13⟩
          have H13 : Hid (Hold w w13 D (half I c P true true false) [(g6, I), (g5, P)]) := h13
          clear h13 H12
          go_wp2_with fail
          refine (f_read H13.out).mono ?_
          rintro e w14 ⟨g14, rfl, h14⟩
          have H14 : Hid (Hold w w14 D (half I c P true true false) [(g14, P), (g6, I), (g5, P)]) := h14
          have HP : Hid (P.length = 256) := (half_now h14).2.2.1
          have HI : Hid (I.length = 1280) := (half_now h14).2.2.2
          have tp := text_self (textOf P)
          have ti := text_self (textOf I)
          clear h14 H13
          go_wp2_with fail
          refine wp_region_held_drew (S := fun X => Hold w X D (half I c P true true false) [(g14, P), (g6, I), (g5, P)]) (by kernel_rfl) H14.out.drew (fun hHeld => ?_)
          refine take_run (i := 0) (oi := { dst := some 112, op := Go.Op.move (Go.Operand.tmp 14), type := 25, pos := "law.go:200", after := #[], guard := none }) (v := .int .i64 0) rfl (by kernel_rfl) (by kernel_rfl) (by kernel_rfl) (fun _ _ _ h => h) (by rfl) ?_ hHeld ?_
          · (intro wq hSw; go_simp <;> with_reducible rfl)
          try simp only [Act.put, List.setIfInBounds_toArray, List.set_cons_zero, List.set_cons_succ]
          refine take_run (i := 1) (oi := { dst := some 113, op := Go.Op.binOp Go.BinOp.neq 25 (Go.Operand.tmp 112) (Go.Operand.const (Go.Value.int Go.IntKind.i64 0)) 25, type := 4, pos := "law.go:200", after := #[{ on := 0, ground := Go.Ground.data }], guard := none }) (v := .bool false) rfl (by kernel_rfl) (by kernel_rfl) (by kernel_rfl) (fun _ _ _ h => h) (by rfl) ?_ hHeld ?_
          · (intro wq hSw; go_simp <;> with_reducible rfl)
          try simp only [Act.put, List.setIfInBounds_toArray, List.set_cons_zero, List.set_cons_succ]
          refine take_run (i := 2) (oi := { dst := some 114, op := Go.Op.move (Go.Operand.tmp 113), type := 4, pos := "law.go:200", after := #[{ on := 1, ground := Go.Ground.data }], guard := none }) (v := .bool false) rfl (by kernel_rfl) (by kernel_rfl) (by kernel_rfl) (fun _ _ _ h => h) (by rfl) ?_ hHeld ?_
          · (intro wq hSw; go_simp <;> with_reducible rfl)
          try simp only [Act.put, List.setIfInBounds_toArray, List.set_cons_zero, List.set_cons_succ]
          refine take_run (i := 3) (oi := { dst := some 115, op := Go.Op.move (Go.Operand.tmp 13), type := 22, pos := "law.go:200", after := #[{ on := 2, ground := Go.Ground.guard }], guard := some (2, false) }) (v := .slice (some ⟨g14, 0, none⟩) 256 256) rfl (by kernel_rfl) (by kernel_rfl) (by kernel_rfl) (fun _ _ _ h => h) (by rfl) ?_ hHeld ?_
          · (intro wq hSw; go_simp <;> with_reducible rfl)
          try simp only [Act.put, List.setIfInBounds_toArray, List.set_cons_zero, List.set_cons_succ]
          refine take_run (i := 4) (oi := { dst := some 116, op := Go.Op.convert 22 9 (Go.Operand.tmp 115), type := 9, pos := "law.go:200", after := #[{ on := 3, ground := Go.Ground.data }, { on := 2, ground := Go.Ground.guard }], guard := some (2, false) }) (v := .string (textOf P)) rfl (by kernel_rfl) (by kernel_rfl) (by kernel_rfl) (fun _ _ _ h => h) (by rfl) ?_ hHeld ?_
          · (intro wq hSw; have tt := hSw.text (g := g14) (l := P) (by simp) 256 256 HP.out; go_simp <;> with_reducible rfl)
          try simp only [Act.put, List.setIfInBounds_toArray, List.set_cons_zero, List.set_cons_succ]
          refine take_run (i := 5) (oi := { dst := some 117, op := Go.Op.move (Go.Operand.tmp 10), type := 22, pos := "law.go:200", after := #[{ on := 2, ground := Go.Ground.guard }], guard := some (2, false) }) (v := .slice (some ⟨g5, 0, none⟩) 256 256) rfl (by kernel_rfl) (by kernel_rfl) (by kernel_rfl) (fun _ _ _ h => h) (by rfl) ?_ hHeld ?_
          · (intro wq hSw; go_simp <;> with_reducible rfl)
          try simp only [Act.put, List.setIfInBounds_toArray, List.set_cons_zero, List.set_cons_succ]
          refine take_run (i := 6) (oi := { dst := some 118, op := Go.Op.convert 22 9 (Go.Operand.tmp 117), type := 9, pos := "law.go:200", after := #[{ on := 5, ground := Go.Ground.data }, { on := 2, ground := Go.Ground.guard }], guard := some (2, false) }) (v := .string (textOf P)) rfl (by kernel_rfl) (by kernel_rfl) (by kernel_rfl) (fun _ _ _ h => h) (by rfl) ?_ hHeld ?_
          · (intro wq hSw; have tt := hSw.text (g := g5) (l := P) (by simp) 256 256 HP.out; go_simp <;> with_reducible rfl)
          try simp only [Act.put, List.setIfInBounds_toArray, List.set_cons_zero, List.set_cons_succ]
          refine take_run (i := 7) (oi := { dst := some 119, op := Go.Op.binOp Go.BinOp.neq 9 (Go.Operand.tmp 116) (Go.Operand.tmp 118) 9, type := 4, pos := "law.go:200", after := #[{ on := 4, ground := Go.Ground.data }, { on := 6, ground := Go.Ground.data }, { on := 2, ground := Go.Ground.guard }], guard := some (2, false) }) (v := .bool false) rfl (by kernel_rfl) (by kernel_rfl) (by kernel_rfl) (fun _ _ _ h => h) (by rfl) ?_ hHeld ?_
          · (intro wq hSw; go_simp <;> with_reducible rfl)
          try simp only [Act.put, List.setIfInBounds_toArray, List.set_cons_zero, List.set_cons_succ]
          refine take_run (i := 8) (oi := { dst := some 120, op := Go.Op.pick (Go.Operand.tmp 114) (Go.Operand.const (Go.Value.bool true)) (Go.Operand.tmp 119), type := 4, pos := "law.go:200", after := #[{ on := 2, ground := Go.Ground.data }, { on := 7, ground := Go.Ground.data }], guard := none }) (v := .bool false) rfl (by kernel_rfl) (by kernel_rfl) (by kernel_rfl) (fun _ _ _ h => h) (by rfl) ?_ hHeld ?_
          · (intro wq hSw; go_simp <;> with_reducible rfl)
          try simp only [Act.put, List.setIfInBounds_toArray, List.set_cons_zero, List.set_cons_succ]
          refine take_run (i := 9) (oi := { dst := some 121, op := Go.Op.move (Go.Operand.tmp 120), type := 4, pos := "law.go:200", after := #[{ on := 8, ground := Go.Ground.data }, { on := 2, ground := Go.Ground.chain }], guard := none }) (v := .bool false) rfl (by kernel_rfl) (by kernel_rfl) (by kernel_rfl) (fun _ _ _ h => h) (by rfl) ?_ hHeld ?_
          · (intro wq hSw; go_simp <;> with_reducible rfl)
          try simp only [Act.put, List.setIfInBounds_toArray, List.set_cons_zero, List.set_cons_succ]
          refine take_run (i := 10) (oi := { dst := some 122, op := Go.Op.move (Go.Operand.tmp 7), type := 24, pos := "law.go:200", after := #[{ on := 9, ground := Go.Ground.guard }], guard := some (9, false) }) (v := .pointer (some ⟨D, 0, none⟩)) rfl (by kernel_rfl) (by kernel_rfl) (by kernel_rfl) (fun _ _ _ h => h) (by rfl) ?_ hHeld ?_
          · (intro wq hSw; go_simp <;> with_reducible rfl)
          try simp only [Act.put, List.setIfInBounds_toArray, List.set_cons_zero, List.set_cons_succ]
          refine take_run (i := 13) (oi := { dst := some 125, op := Go.Op.move (Go.Operand.tmp 12), type := 22, pos := "law.go:200", after := #[{ on := 9, ground := Go.Ground.guard }], guard := some (9, false) }) (v := .slice (some ⟨g6, 0, none⟩) 1280 k6) rfl (by kernel_rfl) (by kernel_rfl) (by kernel_rfl) (fun _ _ _ h => h) (by rfl) ?_ hHeld ?_
          · (intro wq hSw; go_simp <;> with_reducible rfl)
          try simp only [Act.put, List.setIfInBounds_toArray, List.set_cons_zero, List.set_cons_succ]
          refine take_run (i := 14) (oi := { dst := some 126, op := Go.Op.convert 22 9 (Go.Operand.tmp 125), type := 9, pos := "law.go:200", after := #[{ on := 13, ground := Go.Ground.data }, { on := 9, ground := Go.Ground.guard }], guard := some (9, false) }) (v := .string (textOf I)) rfl (by kernel_rfl) (by kernel_rfl) (by kernel_rfl) (fun _ _ _ h => h) (by rfl) ?_ hHeld ?_
          · (intro wq hSw; have tt := hSw.text (g := g6) (l := I) (by simp) 1280 k6 HI.out; go_simp <;> with_reducible rfl)
          try simp only [Act.put, List.setIfInBounds_toArray, List.set_cons_zero, List.set_cons_succ]
          refine take_call (i := 11) (oi := { dst := some 123, op := Go.Op.call { callee := Go.Callee.value (Go.Operand.func 23), args := #[Go.Operand.tmp 122], argTypes := #[24] }, type := 22, pos := "law.go:200", after := #[{ on := 10, ground := Go.Ground.data }, { on := 9, ground := Go.Ground.chain }, { on := 9, ground := Go.Ground.guard }], guard := some (9, false) }) rfl (by kernel_rfl) (by rfl) 23 _ (by go_simp <;> with_reducible rfl) ?_
          refine (f_image hHeld).mono ?_
          rintro e Y ⟨gY, kY, rfl, hY0⟩
          have hY : Hold w Y D (half I c P true true false) [(g14, P), (g6, I), (g5, P)] := hY0.drop
          refine ⟨.slice (some ⟨gY, 0, none⟩) 1280 kY, rfl, hY, ?_⟩
          try simp only [Act.put, List.setIfInBounds_toArray, List.set_cons_zero, List.set_cons_succ]
          have tY := hY0.text (g := gY) (l := I) (by simp) 1280 kY HI.out
          refine take_here (i := 12) (oi := { dst := some 124, op := Go.Op.convert 22 9 (Go.Operand.tmp 123), type := 9, pos := "law.go:200", after := #[{ on := 11, ground := Go.Ground.data }, { on := 9, ground := Go.Ground.guard }], guard := some (9, false) }) (.string (textOf I)) rfl (by kernel_rfl) (by rfl) (by go_simp <;> with_reducible rfl) hY ?_
          try simp only [Act.put, List.setIfInBounds_toArray, List.set_cons_zero, List.set_cons_succ]
          clear tY hY0
          refine take_run (i := 15) (oi := { dst := some 127, op := Go.Op.binOp Go.BinOp.neq 9 (Go.Operand.tmp 124) (Go.Operand.tmp 126) 9, type := 4, pos := "law.go:200", after := #[{ on := 12, ground := Go.Ground.data }, { on := 14, ground := Go.Ground.data }, { on := 9, ground := Go.Ground.guard }], guard := some (9, false) }) (v := .bool false) rfl (by kernel_rfl) (by kernel_rfl) (by kernel_rfl) (fun _ _ _ h => h) (by rfl) ?_ hY ?_
          · (intro wq hSw; go_simp <;> with_reducible rfl)
          try simp only [Act.put, List.setIfInBounds_toArray, List.set_cons_zero, List.set_cons_succ]
          refine take_run (i := 16) (oi := { dst := some 128, op := Go.Op.pick (Go.Operand.tmp 121) (Go.Operand.const (Go.Value.bool true)) (Go.Operand.tmp 127), type := 4, pos := "law.go:200", after := #[{ on := 9, ground := Go.Ground.data }, { on := 15, ground := Go.Ground.data }], guard := none }) (v := .bool false) rfl (by kernel_rfl) (by kernel_rfl) (by kernel_rfl) (fun _ _ _ h => h) (by rfl) ?_ hY ?_
          · (intro wq hSw; go_simp <;> with_reducible rfl)
          try simp only [Act.put, List.setIfInBounds_toArray, List.set_cons_zero, List.set_cons_succ]
          have H15 : Hid (Hold w Y D (half I c P true true false) [(g14, P), (g6, I), (g5, P)]) := hY
          clear hY hHeld H14
          refine wpAnyH_done (by kernel_rfl) ?_ _
          go_wp2_with fail
          refine (f_crash H15.out).mono ?_
          rintro e w16 ⟨rfl, h16⟩
          have H16 : Hid (Hold w w16 D (still (patch I c P)) [(g14, P), (g6, I), (g5, P)]) := h16
          clear h16 H15
          go_wp2_with fail
          refine (f_read2 H16.out HC5.out HP.out HI.out).mono ?_
          rintro e w17 ⟨g17, rfl, h17⟩
          have H17 : Hid (Hold w w17 D (still (patch I c P)) [(g17, P), (g14, P), (g6, I), (g5, P)]) := h17
          have t17 := h17.text (g := g17) (l := P) (by simp) 256 256 HP.out
          have t5 := h17.text (g := g5) (l := P) (by simp) 256 256 HP.out
          clear h17 H16
          go_wp2_with fail
          refine (f_dead2 H17.out).mono ?_
          rintro e w' ⟨rfl, rfl⟩
          go_wp2_with fail
          refine (f_write H17.out HC5.out none 0 0 [] ⟨rfl, by simp, .inl rfl⟩ (by simp)).mono ?_
          rintro e w18 ⟨rfl, h18⟩
          have H18 : Hid _ := h18
          clear h18 H17 t17 t5
          go_wp2_with fail
          refine (f_sync3 H18.out).mono ?_
          rintro e w19 ⟨rfl, h19⟩
          have B19 : Hid (Below w.heap.size w w19) := h19.low
          clear h19 H18
          go_wp2_with fail
          refine (known_any _).mono ?_
          rintro e w20 ⟨rfl, b20⟩
          have B20 : Hid (Below w.heap.size w w20) := B19.out.trans (b20.mono B19.out.size)
          clear b20 B19
          go_wp2
          go_ret
          exact ⟨rfl, B20.out⟩
end Go.Proofs.Ytaipnledcgdncaa
