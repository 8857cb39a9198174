/- DiskSafe: the law. -/
import Derived.Test.YtdgeepaffjkknaaDSafe
namespace Go.Proofs.Ytdgeepaffjkknaa
open Go.RowKit
set_option linter.unusedVariables false

set_option maxRecDepth 100000 in
set_option maxHeartbeats 12800000 in
theorem safe_any (a : Option Addr) (len cap : Nat) (os : List OpX) (a2 : Option Addr) (len2 cap2 : Nat) (os2 : List OpX) (ka : Option Addr) (kl kc : Nat) (zs : List Int) (w : World) (h : OpsAt w a len os) (hz : ∀ o ∈ os, o.b.length ≤ 140737488351232) (h2 : OpsAt w a2 len2 os2) (hz2 : ∀ o ∈ os2, o.b.length ≤ 140737488351232) (hk : IAt w ka kl zs) :
    Calls Try.prog 4 #[.slice a len cap, .slice a2 len2 cap2, .slice ka kl kc] w fun e w' => e = .returned (.bool true) ∧ Below w.heap.size w w' := by
  have HN := keep_new w
  have N0 : (newD 6).ws.length ≤ 0 := Nat.le_refl _
  obtain ⟨s0, e0⟩ : ∃ s, newD 6 = s := ⟨_, rfl⟩
  rw [e0] at HN N0
  clear e0
  have HN0 : Hid (s0.ws.length ≤ 0) := N0
  have HO : Hid (OpsAt w a len os) := h
  have HZ : Hid (∀ o ∈ os, o.b.length ≤ 140737488351232) := hz
  have HL : Hid (len = os.length) := h.1
  have HO2 : Hid (OpsAt w a2 len2 os2) := h2
  have HZ2 : Hid (∀ o ∈ os2, o.b.length ≤ 140737488351232) := hz2
  have HL2 : Hid (len2 = os2.length) := h2.1
  have HKP : Hid (IAt w ka kl zs) := hk
  clear h hz h2 hz2 hk N0
  go_enter Try.func4, Try.ntmps4
  go_wp2_with fail
  refine HN.mono ?_
  rintro e w1 ⟨D, rfl, h1⟩
  have H1 : Hid (Keep w w1 D s0 [] (.slice none 0 0) []) := h1
  clear HN h1
  go_wp2_with fail
  go_loopw [9] (fun i wr => ∃ (k : Nat) (s : DS), i = .int .i64 k ∧ Hid (k ≤ len ∧ k ≤ 60) ∧ Hid (Keep w wr D s [] (.slice none 0 0) []) ∧ Hid (s.ws.length ≤ k)) (fun i _ => 60 - (intOf i).toNat)
  case atStart => exact ⟨0, s0, rfl, ⟨Nat.zero_le _, Nat.zero_le _⟩, H1.out, HN0.out⟩
  case round =>
    clear H1 HN0
    obtain ⟨k, s, rfl, hk, hM, hE⟩ := hrel
    by_cases hlt : k < len ∧ k < 60
    · have hko : k < os.length := by have := HL.out; omega
      obtain ⟨g, off, rfl, c0, c1, c2, c3, hat⟩ := HO.out.at hM.out.low hko
      have hz1 := HZ.out _ (List.getElem_mem hko)
      obtain ⟨o, eo⟩ : ∃ o, os[k] = o := ⟨_, rfl⟩
      rw [eo] at c0 c1 c2 c3 hat hz1
      have HD := keep_do hM.out o hat (by have := hE.out; have := hlt.2; omega) hz1
      have hw1 := doD_ws 6 s o
      have h1 : (k : Int) < (len : Int) := by omega
      have h2 : (k : Int) < 60 := by omega
      have HLT : Hid (k < len ∧ k < 60) := hlt
      have HW : Hid ((doD 6 s o).ws.length ≤ k + 1) := Nat.le_trans hw1 (Nat.succ_le_succ hE.out)
      have WK : Hid ((k : Int) + 1 = ((k + 1 : Nat) : Int)) := by show (k : Int) + 1 = ((k + 1 : Nat) : Int); omega
      clear hlt hko eo hz1 hat hk hE hM hw1
      go_wp2_with fail
      refine HD.mono ?_
      rintro e w2 ⟨rfl, r⟩
      have M2 : Hid (Keep w w2 D (doD 6 s o) [] (.slice none 0 0) []) := r
      clear r HD
      go_wp2
      rw [WK.out]
      go_roundw
      case rel => exact ⟨k + 1, _, rfl, ⟨HLT.out.1, HLT.out.2⟩, M2.out, HW.out⟩
      case measure => exact less_by HLT.out.2
    · have hx : ¬ (k : Int) < (len : Int) ∨ ((k : Int) < (len : Int) ∧ ¬ (k : Int) < 60) := by omega
      have HCr := keep_crash hM.out none 0 0 [] ⟨rfl, by simp, (fun z hz => by cases hz), .inl rfl⟩
      have HT : Told (crashD s []).ws [] ∧ (crashD s []).ws.length ≤ 0 := ⟨(fun x hx => nomatch hx), Nat.le_refl _⟩
      obtain ⟨s1, e1⟩ : ∃ s1, crashD s [] = s1 := ⟨_, rfl⟩
      rw [e1] at HCr HT
      have HT1 : Hid (Told s1.ws [] ∧ s1.ws.length ≤ 0) := HT
      clear e1 HT hlt hk hE hM s0 s
      rcases hx with h1 | ⟨h1, h2⟩
      all_goals
        go_wp2_with fail
        refine HCr.mono ?_
        rintro e w2 ⟨rfl, h2'⟩
        have H2 : Hid (Keep w w2 D s1 [] (.slice none 0 0) []) := h2'
        clear h2' HCr
        go_wp2_with fail
        refine (keep_image H2.out).mono ?_
        rintro e w3 ⟨gs, cs, rfl, h3⟩
        obtain ⟨I, eI⟩ : ∃ I, s1.img = I := ⟨_, rfl⟩
        rw [eI] at h3
        have EI : Hid (s1.img = I) := eI
        have H3 : Hid (Keep w w3 D s1 [(gs, I)] (.slice none 0 0) []) := h3
        have LI0 : Hid (I.length = 1536) := by show I.length = 1536; rw [← eI]; exact h3.ok.li
        clear h3 H2 eI
        go_wp2_with fail
        go_loopw [11, 12] (fun v i wr => ∃ (k : Nat) (s : DS) (ls : List OpX) (va : Option Addr) (vc : Nat), v = .slice va ls.length vc ∧ i = .int .i64 k ∧ Hid (k ≤ len2 ∧ k ≤ 60) ∧ Hid (Keep w wr D s [(gs, I)] (.slice va ls.length vc) ls) ∧ Hid (s.img = I ∧ Told s.ws ls ∧ s.ws.length ≤ k ∧ ls.length ≤ k) ∧ Hid (∀ o ∈ ls, o.At w)) (fun _ i _ => 60 - (intOf i).toNat)
        case atStart => exact ⟨0, s1, [], none, 0, rfl, rfl, ⟨Nat.zero_le _, Nat.zero_le _⟩, H3.out, ⟨EI.out, HT1.out.1, HT1.out.2, Nat.le_refl _⟩, fun o ho => by cases ho⟩
        case round =>
          clear H3 HT1 EI s1
          obtain ⟨k, s, ls, va, vc, rfl, rfl, hk, hM, hT, hAt⟩ := hrel
          by_cases hlt : k < len2 ∧ k < 60
          · have hko : k < os2.length := by have := HL2.out; omega
            obtain ⟨g, off, rfl, c0, c1, c2, c3, hat⟩ := HO2.out.at hM.out.low hko
            have hz1 := HZ2.out _ (List.getElem_mem hko)
            have HRe : Hid (∀ X : World, Below w.heap.size w X → X.cell? ⟨g, off + k * 4, none⟩ = some (.int .i64 os2[k].k) ∧ X.cell? ⟨g, off + k * 4 + 1, none⟩ = some (.int .i64 os2[k].n) ∧ X.cell? ⟨g, off + k * 4 + 2, none⟩ = some (.slice os2[k].ba os2[k].b.length os2[k].bc) ∧ X.cell? ⟨g, off + k * 4 + 3, none⟩ = some (.slice os2[k].la os2[k].zs.length os2[k].lc)) := fun X hX => by
              obtain ⟨g', off', e', c0', c1', c2', c3', _⟩ := HO2.out.at hX hko
              cases e'
              exact ⟨c0', c1', c2', c3'⟩
            obtain ⟨o, eo⟩ : ∃ o, os2[k] = o := ⟨_, rfl⟩
            rw [eo] at c0 c1 c2 c3 hat hz1 HRe
            have HD := keep_do hM.out o hat (by have := hT.out.2.2.1; have := hlt.2; omega) hz1
            have HAtO : Hid (o.At w) := hat
            have h1' : (k : Int) < (len2 : Int) := by omega
            have h2' : (k : Int) < 60 := by omega
            have HLT : Hid (k < len2 ∧ k < 60) := hlt
            have WK : Hid ((k : Int) + 1 = ((k + 1 : Nat) : Int)) := by show (k : Int) + 1 = ((k + 1 : Nat) : Int); omega
            have AP : Hid (∀ X, Keep w X D (doD 6 s o) [(gs, I)] (.slice va ls.length vc) ls → _) := fun X hX => keep_append hX o (by have := hT.out.2.2.2; have := hlt.2; omega)
            obtain ⟨ok, eok⟩ : ∃ k, o.k = k := ⟨_, rfl⟩
            rw [eok] at c0 HRe HD AP
            obtain ⟨E, eE⟩ : ∃ E, doE 6 s o = E := ⟨_, rfl⟩
            rw [eE] at HD
            have TW : Hid (ok = 0 ∨ ok = 1 → E = 0 → (doD 6 s o).img = I ∧ Told (doD 6 s o).ws (ls ++ [o]) ∧ (doD 6 s o).ws.length ≤ k + 1 ∧ (ls ++ [o]).length ≤ k + 1) := fun q e => by
              have t := told_write hT.out.2.1 (by rw [eok]; exact q) (by rw [eE]; exact e)
              have t2 := doD_ws 6 s o
              have t3 := hT.out.2.2
              exact ⟨t.2.trans hT.out.1, t.1, by omega, by simp; omega⟩
            have TS : Hid (ok = 0 ∨ ok = 1 → E ≠ 0 → doD 6 s o = s) := fun q e => told_same (by rw [eok]; exact q) (by rw [eE]; exact e)
            have HS : Hid (s.img = I ∧ Told s.ws ls ∧ s.ws.length ≤ k + 1 ∧ ls.length ≤ k + 1) := ⟨hT.out.1, hT.out.2.1, by have := hT.out.2.2.1; omega, by have := hT.out.2.2.2; omega⟩
            have HLN : Hid ((ls ++ [o]).length = ls.length + 1) := by show (ls ++ [o]).length = ls.length + 1; simp
            have HAL : Hid (∀ p ∈ ls ++ [o], p.At w) := fun p hp => by
              rcases List.mem_append.1 hp with hp | hp
              · exact hAt.out p hp
              · rw [List.mem_singleton.1 hp]; exact HAtO.out
            clear hlt hko eo hz1 hat hk hT eok eE
            by_cases k0 : ok = 0 ∨ ok = 1
            · have TW' : Hid _ := TW.out k0
              have TS' : Hid _ := TS.out k0
              clear TW TS
              rcases k0 with k0 | k0
              all_goals
                rw [k0] at c0 HRe HD AP
                clear k0 ok
                by_cases hE : E = 0
                · rw [hE] at HD
                  have TV : Hid _ := TW'.out hE
                  clear hE TW' TS'
                  go_wp2_with fail
                  refine HD.mono ?_
                  rintro e w4 ⟨rfl, r⟩
                  obtain ⟨d0, d1, d2, d3⟩ := HRe.out w4 r.low
                  obtain ⟨g', c', w5, hr, kp⟩ := AP.out w4 r
                  have KP : Hid _ := kp
                  have HR : Hid _ := hr
                  clear HD c0 c1 c2 c3 r AP HRe kp hM hr
                  go_wp2_with (at_builtin; refine wpList_append_known rfl (.tmp 83) (.tmp 88) 23 23 rfl _ _ rfl rfl _ _ HR.out ?_)
                  rw [WK.out]
                  go_roundw
                  case rel => exact ⟨k + 1, _, ls ++ [o], some ⟨g', 0, none⟩, c', by rw [HLN.out], rfl, ⟨HLT.out.1, HLT.out.2⟩, by rw [HLN.out]; exact KP.out, TV.out, HAL.out⟩
                  case measure => exact less_by HLT.out.2
                · have EE := TS'.out hE
                  rw [EE] at HD
                  have hE' : ((E : Int) == 0) = false := by rw [beq_eq_false_iff_ne]; omega
                  clear EE TW' TS' hE
                  go_wp2_with fail
                  refine HD.mono ?_
                  rintro e w4 ⟨rfl, r⟩
                  have KP : Hid _ := r
                  clear HD c0 c1 c2 c3 r AP HRe hM
                  go_wp2
                  rw [WK.out]
                  go_roundw
                  case rel => exact ⟨k + 1, _, ls, va, vc, rfl, rfl, ⟨HLT.out.1, HLT.out.2⟩, KP.out, HS.out, hAt.out⟩
                  case measure => exact less_by HLT.out.2
            · have k1 : (ok == 0) = false := by rw [beq_eq_false_iff_ne]; exact fun e => k0 (.inl e)
              have k2 : (ok == 1) = false := by rw [beq_eq_false_iff_ne]; exact fun e => k0 (.inr e)
              clear HD AP HRe TW TS k0
              go_wp2
              rw [WK.out]
              go_roundw
              case rel => exact ⟨k + 1, _, ls, va, vc, rfl, rfl, ⟨HLT.out.1, HLT.out.2⟩, hM.out, HS.out, hAt.out⟩
              case measure => exact less_by HLT.out.2
          · have hx : ¬ (k : Int) < (len2 : Int) ∨ ((k : Int) < (len2 : Int) ∧ ¬ (k : Int) < 60) := by omega
            have HCr := keep_crash hM.out ka kl kc zs HKP.out
            have FB : Hid (∀ i, i < 1536 → _) := fun i hi => safe_byte hM.out.ok hT.out.2.1 zs i hi
            obtain ⟨s2, e2⟩ : ∃ s2, crashD s zs = s2 := ⟨_, rfl⟩
            rw [hT.out.1] at FB
            rw [e2] at HCr FB
            have HAT : Hid (∀ o ∈ ls, o.At w) := hAt.out
            have LSL : Hid (ls.length ≤ 60) := Nat.le_trans hT.out.2.2.2 hk.out.2
            clear e2 hlt hk hT hM hAt
            rcases hx with h1 | ⟨h1, h2⟩
            all_goals
              go_wp2_with fail
              refine HCr.mono ?_
              rintro e w4 ⟨rfl, h4⟩
              have H4 : Hid (Keep w w4 D s2 [(gs, I)] (.slice va ls.length vc) ls) := h4
              clear h4 HCr
              go_wp2_with fail
              refine (keep_image H4.out).mono ?_
              rintro e x ⟨gi, ci, rfl, h5⟩
              have hl2 := h5.ok.li
              obtain ⟨J, eJ⟩ : ∃ J, s2.img = J := ⟨_, rfl⟩
              rw [eJ] at h5 FB hl2
              have HK : Hid (Keep w x D s2 [(gi, J), (gs, I)] (.slice va ls.length vc) ls) := h5
              have LJ : Hid (J.length = 1536) := hl2
              clear h5 H4 eJ hl2
              go_wp2_with fail
              go_loopw [14] (fun i wr => ∃ q : Nat, i = .int .i64 q ∧ Hid (q ≤ 1536) ∧ Hid (Below x.heap.size x wr)) (fun i _ => 1536 - (intOf i).toNat)
              case atStart => exact ⟨0, rfl, Nat.zero_le _, Below.refl _ x⟩
              case round =>
                obtain ⟨q, rfl, hq, hB⟩ := hrel
                by_cases hlt : q < 1536
                · have hq1 : (q : Int) < 1536 := by omega
                  have LI : I.length = 1536 := LI0.out
                  have CJ : Hid (∀ X, Below x.heap.size x X → X.cell? ⟨gi, q, none⟩ = some (.int .u8 (V (J.getD q 0#8)))) := fun X hX => byte_at (HK.out.row (.head _)) hX (by rw [LJ.out]; exact hlt)
                  have CI : Hid (∀ X, Below x.heap.size x X → X.cell? ⟨gs, q, none⟩ = some (.int .u8 (V (I.getD q 0#8)))) := fun X hX => byte_at (HK.out.row (.tail _ (.head _))) hX (by rw [LI]; exact hlt)
                  have FIND : Hid (V (J.getD q 0#8) ≠ V (I.getD q 0#8) → ∃ k, ∃ hk : k < ls.length, ls[k].n = ((q / 256 : Nat) : Int) ∧ V (ls[k].b.getD (q % 256) 0#8) = V (J.getD q 0#8)) := fun hne => by
                    rcases FB.out q hlt with e | ⟨k, hk, e1, e2⟩
                    · exact absurd (congrArg V e) hne
                    · exact ⟨k, hk, e1, congrArg V e2⟩
                  have hm : Int.tmod (q : Int) 256 = ((q % 256 : Nat) : Int) := by rw [Int.tmod_eq_emod_of_nonneg (by omega)]; omega
                  have hd : Int.tdiv (q : Int) 256 = ((q / 256 : Nat) : Int) := by rw [Int.tdiv_eq_ediv_of_nonneg (by omega)]; omega
                  obtain ⟨rq, erq⟩ : ∃ r, q % 256 = r := ⟨_, rfl⟩
                  obtain ⟨dq, edq⟩ : ∃ r, q / 256 = r := ⟨_, rfl⟩
                  have hrb : (rq : Int) < 256 := by omega
                  have hdb : (dq : Int) < 6 := by omega
                  rw [erq] at hm FIND
                  rw [edq] at hd FIND
                  obtain ⟨xj, exj⟩ : ∃ r, V (J.getD q 0#8) = r := ⟨_, rfl⟩
                  obtain ⟨xi, exi⟩ : ∃ r, V (I.getD q 0#8) = r := ⟨_, rfl⟩
                  rw [exj] at CJ FIND
                  rw [exi] at CI FIND
                  have HQ : Hid (q < 1536) := hlt
                  have QK : Hid ((q : Int) + 1 = ((q + 1 : Nat) : Int)) := by show (q : Int) + 1 = ((q + 1 : Nat) : Int); omega
                  clear exi exj erq edq hlt hq LI
                  go_wp2_with fail
                  by_cases hij : xj = xi
                  · subst hij
                    refine wp_region_held_drew (S := fun X => Below x.heap.size x X) (by kernel_rfl) (hB.out.drew) (fun hHeld => ?_)
                    refine take_run (i := 0) (oi := { dst := some 106, op := Go.Op.move (Go.Operand.tmp 13), type := 22, pos := "law.go:124", after := #[], guard := none }) (v := .slice (some ⟨gi, 0, none⟩) 1536 ci) rfl (by kernel_rfl) (by kernel_rfl) (by kernel_rfl) (fun _ _ _ h => h) (by rfl) ?_ hHeld ?_
                    · (intro wq hSw; go_simp <;> with_reducible rfl)
                    try simp only [Act.put, List.setIfInBounds_toArray, List.set_cons_zero, List.set_cons_succ]
                    refine take_run (i := 1) (oi := { dst := some 107, op := Go.Op.move (Go.Operand.tmp 14), type := 3, pos := "law.go:124", after := #[], guard := none }) (v := .int .i64 q) rfl (by kernel_rfl) (by kernel_rfl) (by kernel_rfl) (fun _ _ _ h => h) (by rfl) ?_ hHeld ?_
                    · (intro wq hSw; go_simp <;> with_reducible rfl)
                    try simp only [Act.put, List.setIfInBounds_toArray, List.set_cons_zero, List.set_cons_succ]
                    refine take_run (i := 2) (oi := { dst := some 108, op := Go.Op.indexAddr 22 (Go.Operand.tmp 106) (Go.Operand.tmp 107), type := 0, pos := "law.go:124", after := #[{ on := 0, ground := Go.Ground.data }, { on := 1, ground := Go.Ground.data }], guard := none }) (v := .pointer (some ⟨gi, q, none⟩)) rfl (by kernel_rfl) (by kernel_rfl) (by kernel_rfl) (fun _ _ _ h => h) (by rfl) ?_ hHeld ?_
                    · (intro wq hSw; go_simp <;> with_reducible rfl)
                    try simp only [Act.put, List.setIfInBounds_toArray, List.set_cons_zero, List.set_cons_succ]
                    refine take_run (i := 3) (oi := { dst := some 109, op := Go.Op.load 5 (Go.Operand.tmp 108), type := 5, pos := "law.go:124", after := #[{ on := 2, ground := Go.Ground.data }], guard := none }) (v := .int .u8 xj) rfl (by kernel_rfl) (by kernel_rfl) (by kernel_rfl) (fun _ _ _ h => h) (by rfl) ?_ hHeld ?_
                    · (intro wq hSw; have cj := CJ.out wq hSw; go_simp <;> with_reducible rfl)
                    try simp only [Act.put, List.setIfInBounds_toArray, List.set_cons_zero, List.set_cons_succ]
                    refine take_run (i := 4) (oi := { dst := some 110, op := Go.Op.move (Go.Operand.tmp 10), type := 22, pos := "law.go:124", after := #[], guard := none }) (v := .slice (some ⟨gs, 0, none⟩) 1536 cs) rfl (by kernel_rfl) (by kernel_rfl) (by kernel_rfl) (fun _ _ _ h => h) (by rfl) ?_ hHeld ?_
                    · (intro wq hSw; go_simp <;> with_reducible rfl)
                    try simp only [Act.put, List.setIfInBounds_toArray, List.set_cons_zero, List.set_cons_succ]
                    refine take_run (i := 5) (oi := { dst := some 111, op := Go.Op.move (Go.Operand.tmp 14), type := 3, pos := "law.go:124", after := #[], guard := none }) (v := .int .i64 q) rfl (by kernel_rfl) (by kernel_rfl) (by kernel_rfl) (fun _ _ _ h => h) (by rfl) ?_ hHeld ?_
                    · (intro wq hSw; go_simp <;> with_reducible rfl)
                    try simp only [Act.put, List.setIfInBounds_toArray, List.set_cons_zero, List.set_cons_succ]
                    refine take_run (i := 6) (oi := { dst := some 112, op := Go.Op.indexAddr 22 (Go.Operand.tmp 110) (Go.Operand.tmp 111), type := 0, pos := "law.go:124", after := #[{ on := 4, ground := Go.Ground.data }, { on := 5, ground := Go.Ground.data }], guard := none }) (v := .pointer (some ⟨gs, q, none⟩)) rfl (by kernel_rfl) (by kernel_rfl) (by kernel_rfl) (fun _ _ _ h => h) (by rfl) ?_ hHeld ?_
                    · (intro wq hSw; go_simp <;> with_reducible rfl)
                    try simp only [Act.put, List.setIfInBounds_toArray, List.set_cons_zero, List.set_cons_succ]
                    refine take_run (i := 7) (oi := { dst := some 113, op := Go.Op.load 5 (Go.Operand.tmp 112), type := 5, pos := "law.go:124", after := #[{ on := 6, ground := Go.Ground.data }], guard := none }) (v := .int .u8 xj) rfl (by kernel_rfl) (by kernel_rfl) (by kernel_rfl) (fun _ _ _ h => h) (by rfl) ?_ hHeld ?_
                    · (intro wq hSw; have cj := CI.out wq hSw; go_simp <;> with_reducible rfl)
                    try simp only [Act.put, List.setIfInBounds_toArray, List.set_cons_zero, List.set_cons_succ]
                    refine take_run (i := 8) (oi := { dst := some 114, op := Go.Op.binOp Go.BinOp.eql 5 (Go.Operand.tmp 109) (Go.Operand.tmp 113) 5, type := 4, pos := "law.go:124", after := #[{ on := 3, ground := Go.Ground.data }, { on := 7, ground := Go.Ground.data }], guard := none }) (v := .bool true) rfl (by kernel_rfl) (by kernel_rfl) (by kernel_rfl) (fun _ _ _ h => h) (by rfl) ?_ hHeld ?_
                    · (intro wq hSw; go_simp <;> with_reducible rfl)
                    try simp only [Act.put, List.setIfInBounds_toArray, List.set_cons_zero, List.set_cons_succ]
                    refine take_run (i := 9) (oi := { dst := some 15, op := Go.Op.assign (Go.Operand.tmp 114), type := 4, pos := "law.go:124", after := #[{ on := 8, ground := Go.Ground.data }, { on := 0, ground := Go.Ground.phase }, { on := 1, ground := Go.Ground.phase }, { on := 2, ground := Go.Ground.phase }, { on := 3, ground := Go.Ground.phase }, { on := 4, ground := Go.Ground.phase }, { on := 5, ground := Go.Ground.phase }, { on := 6, ground := Go.Ground.phase }, { on := 7, ground := Go.Ground.phase }, { on := 8, ground := Go.Ground.phase }], guard := none }) (v := .bool true) rfl (by kernel_rfl) (by kernel_rfl) (by kernel_rfl) (fun _ _ _ h => h) (by rfl) ?_ hHeld ?_
                    · (intro wq hSw; go_simp <;> with_reducible rfl)
                    try simp only [Act.put, List.setIfInBounds_toArray, List.set_cons_zero, List.set_cons_succ]
                    refine wpAnyH_done (by kernel_rfl) ?_ _
                    clear hHeld
                    go_wp2_with fail
                    go_loopw [15, 16] (fun okv kv wr => ∃ (b : Bool) (k : Nat), okv = .bool b ∧ kv = .int .i64 k ∧ Hid (k ≤ ls.length) ∧ Hid (Below x.heap.size x wr) ∧ Hid (b = false → xj ≠ xj ∧ ∀ j, j < k → ∀ hj : j < ls.length, ¬ (ls[j].n = (dq : Int) ∧ V (ls[j].b.getD rq 0#8) = xj))) (fun _ kv _ => ls.length - (intOf kv).toNat)
                    case atStart => exact ⟨true, 0, rfl, rfl, Nat.zero_le _, hB.out.drew, fun e => by cases e⟩
                    case round =>
                      obtain ⟨b, k, rfl, rfl, hk, hZ, hA⟩ := hrel
                      rcases b with _ | _
                      · exact absurd rfl (hA.out rfl).1
                      · have hB2 : Hid (Below x.heap.size x wr) := hZ.out
                        clear hA hZ hB
                        by_cases hlt : (k : Int) < (ls.length : Int)
                        all_goals
                          go_wp2
                          rw [QK.out]
                          go_roundw
                          case rel => exact ⟨q + 1, rfl, HQ.out, hB2.out⟩
                          case measure => exact less_by HQ.out
                  · have hijf : (xj == xi) = false := by rw [beq_eq_false_iff_ne]; exact hij
                    have hij' : Hid (xj ≠ xi) := hij
                    clear hij
                    refine wp_region_held_drew (S := fun X => Below x.heap.size x X) (by kernel_rfl) (hB.out.drew) (fun hHeld => ?_)
                    refine take_run (i := 0) (oi := { dst := some 106, op := Go.Op.move (Go.Operand.tmp 13), type := 22, pos := "law.go:124", after := #[], guard := none }) (v := .slice (some ⟨gi, 0, none⟩) 1536 ci) rfl (by kernel_rfl) (by kernel_rfl) (by kernel_rfl) (fun _ _ _ h => h) (by rfl) ?_ hHeld ?_
                    · (intro wq hSw; go_simp <;> with_reducible rfl)
                    try simp only [Act.put, List.setIfInBounds_toArray, List.set_cons_zero, List.set_cons_succ]
                    refine take_run (i := 1) (oi := { dst := some 107, op := Go.Op.move (Go.Operand.tmp 14), type := 3, pos := "law.go:124", after := #[], guard := none }) (v := .int .i64 q) rfl (by kernel_rfl) (by kernel_rfl) (by kernel_rfl) (fun _ _ _ h => h) (by rfl) ?_ hHeld ?_
                    · (intro wq hSw; go_simp <;> with_reducible rfl)
                    try simp only [Act.put, List.setIfInBounds_toArray, List.set_cons_zero, List.set_cons_succ]
                    refine take_run (i := 2) (oi := { dst := some 108, op := Go.Op.indexAddr 22 (Go.Operand.tmp 106) (Go.Operand.tmp 107), type := 0, pos := "law.go:124", after := #[{ on := 0, ground := Go.Ground.data }, { on := 1, ground := Go.Ground.data }], guard := none }) (v := .pointer (some ⟨gi, q, none⟩)) rfl (by kernel_rfl) (by kernel_rfl) (by kernel_rfl) (fun _ _ _ h => h) (by rfl) ?_ hHeld ?_
                    · (intro wq hSw; go_simp <;> with_reducible rfl)
                    try simp only [Act.put, List.setIfInBounds_toArray, List.set_cons_zero, List.set_cons_succ]
                    refine take_run (i := 3) (oi := { dst := some 109, op := Go.Op.load 5 (Go.Operand.tmp 108), type := 5, pos := "law.go:124", after := #[{ on := 2, ground := Go.Ground.data }], guard := none }) (v := .int .u8 xj) rfl (by kernel_rfl) (by kernel_rfl) (by kernel_rfl) (fun _ _ _ h => h) (by rfl) ?_ hHeld ?_
                    · (intro wq hSw; have cj := CJ.out wq hSw; go_simp <;> with_reducible rfl)
                    try simp only [Act.put, List.setIfInBounds_toArray, List.set_cons_zero, List.set_cons_succ]
                    refine take_run (i := 4) (oi := { dst := some 110, op := Go.Op.move (Go.Operand.tmp 10), type := 22, pos := "law.go:124", after := #[], guard := none }) (v := .slice (some ⟨gs, 0, none⟩) 1536 cs) rfl (by kernel_rfl) (by kernel_rfl) (by kernel_rfl) (fun _ _ _ h => h) (by rfl) ?_ hHeld ?_
                    · (intro wq hSw; go_simp <;> with_reducible rfl)
                    try simp only [Act.put, List.setIfInBounds_toArray, List.set_cons_zero, List.set_cons_succ]
                    refine take_run (i := 5) (oi := { dst := some 111, op := Go.Op.move (Go.Operand.tmp 14), type := 3, pos := "law.go:124", after := #[], guard := none }) (v := .int .i64 q) rfl (by kernel_rfl) (by kernel_rfl) (by kernel_rfl) (fun _ _ _ h => h) (by rfl) ?_ hHeld ?_
                    · (intro wq hSw; go_simp <;> with_reducible rfl)
                    try simp only [Act.put, List.setIfInBounds_toArray, List.set_cons_zero, List.set_cons_succ]
                    refine take_run (i := 6) (oi := { dst := some 112, op := Go.Op.indexAddr 22 (Go.Operand.tmp 110) (Go.Operand.tmp 111), type := 0, pos := "law.go:124", after := #[{ on := 4, ground := Go.Ground.data }, { on := 5, ground := Go.Ground.data }], guard := none }) (v := .pointer (some ⟨gs, q, none⟩)) rfl (by kernel_rfl) (by kernel_rfl) (by kernel_rfl) (fun _ _ _ h => h) (by rfl) ?_ hHeld ?_
                    · (intro wq hSw; go_simp <;> with_reducible rfl)
                    try simp only [Act.put, List.setIfInBounds_toArray, List.set_cons_zero, List.set_cons_succ]
                    refine take_run (i := 7) (oi := { dst := some 113, op := Go.Op.load 5 (Go.Operand.tmp 112), type := 5, pos := "law.go:124", after := #[{ on := 6, ground := Go.Ground.data }], guard := none }) (v := .int .u8 xi) rfl (by kernel_rfl) (by kernel_rfl) (by kernel_rfl) (fun _ _ _ h => h) (by rfl) ?_ hHeld ?_
                    · (intro wq hSw; have cj := CI.out wq hSw; go_simp <;> with_reducible rfl)
                    try simp only [Act.put, List.setIfInBounds_toArray, List.set_cons_zero, List.set_cons_succ]
                    refine take_run (i := 8) (oi := { dst := some 114, op := Go.Op.binOp Go.BinOp.eql 5 (Go.Operand.tmp 109) (Go.Operand.tmp 113) 5, type := 4, pos := "law.go:124", after := #[{ on := 3, ground := Go.Ground.data }, { on := 7, ground := Go.Ground.data }], guard := none }) (v := .bool false) rfl (by kernel_rfl) (by kernel_rfl) (by kernel_rfl) (fun _ _ _ h => h) (by rfl) ?_ hHeld ?_
                    · (intro wq hSw; go_simp <;> with_reducible rfl)
                    try simp only [Act.put, List.setIfInBounds_toArray, List.set_cons_zero, List.set_cons_succ]
                    refine take_run (i := 9) (oi := { dst := some 15, op := Go.Op.assign (Go.Operand.tmp 114), type := 4, pos := "law.go:124", after := #[{ on := 8, ground := Go.Ground.data }, { on := 0, ground := Go.Ground.phase }, { on := 1, ground := Go.Ground.phase }, { on := 2, ground := Go.Ground.phase }, { on := 3, ground := Go.Ground.phase }, { on := 4, ground := Go.Ground.phase }, { on := 5, ground := Go.Ground.phase }, { on := 6, ground := Go.Ground.phase }, { on := 7, ground := Go.Ground.phase }, { on := 8, ground := Go.Ground.phase }], guard := none }) (v := .bool false) rfl (by kernel_rfl) (by kernel_rfl) (by kernel_rfl) (fun _ _ _ h => h) (by rfl) ?_ hHeld ?_
                    · (intro wq hSw; go_simp <;> with_reducible rfl)
                    try simp only [Act.put, List.setIfInBounds_toArray, List.set_cons_zero, List.set_cons_succ]
                    refine wpAnyH_done (by kernel_rfl) ?_ _
                    clear hHeld
                    go_wp2_with fail
                    go_loopw [15, 16] (fun okv kv wr => ∃ (b : Bool) (k : Nat), okv = .bool b ∧ kv = .int .i64 k ∧ Hid (k ≤ ls.length) ∧ Hid (Below x.heap.size x wr) ∧ Hid (b = false → xj ≠ xi ∧ ∀ j, j < k → ∀ hj : j < ls.length, ¬ (ls[j].n = (dq : Int) ∧ V (ls[j].b.getD rq 0#8) = xj))) (fun _ kv _ => ls.length - (intOf kv).toNat)
                    case atStart => exact ⟨false, 0, rfl, rfl, Nat.zero_le _, hB.out.drew, fun _ => ⟨hij'.out, fun j hj => by omega⟩⟩
                    case round =>
                      obtain ⟨b, k, rfl, rfl, hk, hZ, hA⟩ := hrel
                      rcases b with _ | _
                      · by_cases hlt : k < ls.length
                        · obtain ⟨gv, cv, ev, cn, cb⟩ := HK.out.at hlt hZ.out
                          have hat := (HAT.out _ (List.getElem_mem hlt)).below (HK.out.low.trans (hZ.out.mono HK.out.low.size))
                          have hAk := hA.out rfl
                          have hAs : Hid (∀ (P : Prop), ¬ (ls[k].n = (dq : Int) ∧ V (ls[k].b.getD rq 0#8) = xj) → ∀ j, j < k + 1 → ∀ hj : j < ls.length, ¬ (ls[j].n = (dq : Int) ∧ V (ls[j].b.getD rq 0#8) = xj)) := fun _ hn j hj hj2 => by
                            rcases Nat.lt_succ_iff_lt_or_eq.1 hj with h | rfl
                            · exact hAk.2 j h hj2
                            · exact hn
                          have hne : Hid (xj ≠ xi) := hAk.1
                          obtain ⟨o, eo⟩ : ∃ o, ls[k] = o := ⟨_, rfl⟩
                          rw [eo] at cn cb hat hAs
                          have hLl : Hid (k < ls.length) := hlt
                          have h1 : (k : Int) < (ls.length : Int) := by omega
                          have h60 : (k : Int) < 60 := by have := LSL.out; omega
                          have WK : Hid ((k : Int) + 1 = ((k + 1 : Nat) : Int)) := by show (k : Int) + 1 = ((k + 1 : Nat) : Int); omega
                          have cj := CJ.out wr hZ.out
                          obtain ⟨on, eon⟩ : ∃ n, o.n = n := ⟨_, rfl⟩
                          rw [eon] at cn hAs
                          have hin : (∃ xc : Int, Hid (V (o.b.getD rq 0#8) = xc) ∧ (rq : Int) < (o.b.length : Int) ∧ ∃ bg bo, o.ba = some ⟨bg, bo, none⟩ ∧ wr.cell? ⟨bg, bo + rq, none⟩ = some (.int .u8 xc)) ∨ (Hid (V (o.b.getD rq 0#8) = 0) ∧ ¬ (rq : Int) < (o.b.length : Int)) := by
                            by_cases hr : rq < o.b.length
                            · left
                              refine ⟨_, rfl, by omega, ?_⟩
                              rcases hat.hb.2.2 with h0 | ⟨bg, bo, e, hc⟩
                              · omega
                              · exact ⟨bg, bo, e, hc rq hr⟩
                            · right
                              refine ⟨?_, by omega⟩
                              show V (o.b.getD rq 0#8) = 0
                              rw [List.getD_eq_getElem?_getD, List.getElem?_eq_none (by omega)]
                              rfl
                          cases ev
                          clear hlt hat hAk hk hA eo
                          rcases hin with ⟨xc, hxc, h2, bg, bo, eb, cc⟩ | ⟨hxc, h2⟩
                          · rw [eb] at cb
                            clear eb
                            by_cases hn : on = (dq : Int)
                            · by_cases hx : xc = xj
                              · skip
                                subst hn
                                subst hx
                                go_wp2
                                rw [WK.out]
                                go_roundw
                                case rel => exact ⟨true, k + 1, rfl, rfl, hLl.out, hZ.out, fun e => by cases e⟩
                                case measure => exact less_by hLl.out
                              · have hAs' := hAs.out True (fun h => hx (by rw [← hxc.out]; exact h.2))
                                have hAS : Hid _ := hAs'
                                have hxf : (xc == xj) = false := by rw [beq_eq_false_iff_ne]; exact hx
                                clear hAs' hx
                                subst hn
                                go_wp2
                                rw [WK.out]
                                go_roundw
                                case rel => exact ⟨false, k + 1, rfl, rfl, hLl.out, hZ.out, fun _ => ⟨hne.out, hAS.out⟩⟩
                                case measure => exact less_by hLl.out
                            · have hAs' := hAs.out True (fun h => hn h.1)
                              have hnf : (on == (dq : Int)) = false := by rw [beq_eq_false_iff_ne]; exact hn
                              have hAS : Hid _ := hAs'
                              clear hAs' hn
                              go_wp2
                              rw [WK.out]
                              go_roundw
                              case rel => exact ⟨false, k + 1, rfl, rfl, hLl.out, hZ.out, fun _ => ⟨hne.out, hAS.out⟩⟩
                              case measure => exact less_by hLl.out
                          · skip
                            by_cases hn : on = (dq : Int)
                            · by_cases hx : 0 = xj
                              · skip
                                subst hn
                                subst hx
                                go_wp2
                                rw [WK.out]
                                go_roundw
                                case rel => exact ⟨true, k + 1, rfl, rfl, hLl.out, hZ.out, fun e => by cases e⟩
                                case measure => exact less_by hLl.out
                              · have hAs' := hAs.out True (fun h => hx (by rw [← hxc.out]; exact h.2))
                                have hAS : Hid _ := hAs'
                                have hxf : (0 == xj) = false := by rw [beq_eq_false_iff_ne]; exact hx
                                clear hAs' hx
                                subst hn
                                go_wp2
                                rw [WK.out]
                                go_roundw
                                case rel => exact ⟨false, k + 1, rfl, rfl, hLl.out, hZ.out, fun _ => ⟨hne.out, hAS.out⟩⟩
                                case measure => exact less_by hLl.out
                            · have hAs' := hAs.out True (fun h => hn h.1)
                              have hnf : (on == (dq : Int)) = false := by rw [beq_eq_false_iff_ne]; exact hn
                              have hAS : Hid _ := hAs'
                              clear hAs' hn
                              go_wp2
                              rw [WK.out]
                              go_roundw
                              case rel => exact ⟨false, k + 1, rfl, rfl, hLl.out, hZ.out, fun _ => ⟨hne.out, hAS.out⟩⟩
                              case measure => exact less_by hLl.out
                        · exfalso
                          obtain ⟨j, hj, h1, h2⟩ := FIND.out (hA.out rfl).1
                          exact (hA.out rfl).2 j (by omega) hj ⟨h1, h2⟩
                      · have hB2 : Hid (Below x.heap.size x wr) := hZ.out
                        clear hA hZ hB
                        by_cases hlt : (k : Int) < (ls.length : Int)
                        all_goals
                          go_wp2
                          rw [QK.out]
                          go_roundw
                          case rel => exact ⟨q + 1, rfl, HQ.out, hB2.out⟩
                          case measure => exact less_by HQ.out
                · have hq1 : ¬ (q : Int) < 1536 := by omega
                  clear hlt hq
                  go_wp2_with fail
                  refine (known_any _).mono ?_
                  rintro e y ⟨rfl, b⟩
                  have B : Hid (Below w.heap.size w y) := (HK.out.low.trans (hB.out.mono HK.out.low.size)).trans (b.mono (HK.out.low.trans (hB.out.mono HK.out.low.size)).size)
                  clear b
                  go_wp2
                  go_ret
                  exact ⟨rfl, B.out⟩
end Go.Proofs.Ytdgeepaffjkknaa
