/- Package auditor: the reference's Merge, walked. -/
import Derived.Test.YtckldjiabalgbaaARefT
import Derived.Deep.LoopGhost
import Derived.Deep.Cut
import Derived.Deep.CutBlock
import Derived.Deep.CutRange
namespace Go.Proofs.Ytckldjiabalgbaa
open Go.RowKit Go.Sort
attribute [local go_sem] Oper.semAt_some
set_option linter.unusedVariables false

theorem num_le {A B C D : Nat} (e1 : A = B + C) (e2 : A ≤ D) (h : (D + 1) * 24 ≤ 140737488355328) : (B + C + 1) * 24 ≤ 140737488355328 ∧ B + C < 4611686018427387904 := by omega
theorem num_lt {t0 j ln N : Nat} (e : N = t0 + j) (h : j < ln) (hz : (t0 + ln + 1) * 24 ≤ 140737488355328) : (N + 1) * 24 ≤ 140737488355328 :=
  Nat.le_trans (Nat.mul_le_mul_right 24 (show N + 1 ≤ t0 + ln + 1 by clear hz; omega)) hz
theorem num_m {j ln kx : Nat} (h : j < ln) (hk : ln - j ≤ kx) : ln - (j + 1) < kx := by omega
theorem num_k {k N co : Nat} (h1 : k ≤ N) (h2 : N ≤ co) : k < co ∨ (k = co ∧ N - k = 0 ∧ co - k = 0) := by omega
theorem srt_nilR : srt (ltOf cfR) ([] : List RowV) = [] := rfl
theorem nil_start (w : World) (L : List (List RowV)) : w.ownsRow w.heap.size 28 2 (.slice none 0 0) (totL (L.take 0)) (rowCellsX (srt (ltOf cfR) (L.take 0).flatten)) := by
  rw [List.take_zero, List.flatten_nil, srt_nilR]
  exact World.ownsRow_nil _ _ _ _
set_option maxRecDepth 100000 in
set_option maxHeartbeats 8000000 in
theorem refMerge_any {w : World} {a : Option Addr} {n c : Nat} {L : List (List RowV)} (h : ListsX w a n L) (hz : (totL L + 1) * 24 ≤ 140737488355328) (hn : n ≤ 140737488355328) :
    Calls Try.prog 7 #[.slice a n c] w fun e w' => ∃ v, e = .returned v ∧ w'.ownsRow w.heap.size 28 2 v (totL L) (rowCellsX (mergeL L)) ∧ Below w.heap.size w w' := by
  have HL : Hid (ListsX w a n L) := h
  have HN : Hid (n = L.length) := h.1
  have HZ : Hid (∀ i (hi : i < L.length), totL (L.take (i + 1)) = totL (L.take i) + L[i].length ∧ (L.take i).flatten ++ L[i] = (L.take (i + 1)).flatten ∧ (totL (L.take i) + L[i].length + 1) * 24 ≤ 140737488355328 ∧ totL (L.take i) + L[i].length < 4611686018427387904) := fun i hi => by
    have e1 := totL_take L i hi
    have e2 := totL_le L (i + 1)
    exact ⟨e1, flat_take L i hi, num_le e1 e2 hz⟩
  have HLt : Hid (∀ i, i < n → i < L.length) := fun i hi => by have := h.1; omega
  have HP : Hid (n = 0 ∨ ∃ b off, a = some ⟨b, off, none⟩ ∧ ∀ i (hi : i < L.length) W, Below w.heap.size w W → ∃ qa qc, W.cell? ⟨b, off + i, none⟩ = some (.slice qa L[i].length qc) ∧ RowsX W qa L[i].length L[i]) := h.2.imp id (fun ⟨b, off, e, hc⟩ => ⟨b, off, e, fun i hi W hW => by
    obtain ⟨qa, qc, c1, c2, _⟩ := hc i hi
    exact ⟨qa, qc, (hW.cell (p := ⟨b, off + i, none⟩) (World.block_lt_of_cell? w _ c1)).trans c1, c2.below hW⟩⟩)
  clear h hz
  go_enter Try.func7, Try.ntmps7
  go_wp2
  go_loopg [3, 4] n (fun kx s3 s4 wr => ∃ i : Nat, i ≤ n ∧ n - i ≤ kx ∧ s4 = .int .i64 i ∧ Hid (wr.ownsRow w.heap.size 28 2 s3 (totL (L.take i)) (rowCellsX (srt (ltOf cfR) (L.take i).flatten))) ∧ Hid (Below w.heap.size w wr))
  case atStart => exact ⟨0, Nat.zero_le _, Nat.le_refl _, rfl, nil_start _ _, Below.refl _ _⟩
  case round =>
    obtain ⟨i, hin, hkx, rfl, HO, HB⟩ := hrel
    by_cases hlt : i < n
    · have hltz : (i : Int) < (n : Int) := by omega
      rcases HP.out with h0 | ⟨b, off, rfl, hc⟩
      · exact absurd hlt (by rw [h0]; exact Nat.not_lt_zero _)
      have hiL : i < L.length := HLt.out i hlt
      have hc' : Hid (∀ W, Below w.heap.size w W → ∃ qa qc, W.cell? ⟨b, off + i, none⟩ = some (.slice qa L[i].length qc) ∧ RowsX W qa L[i].length L[i]) := hc i hiL
      have HT : Hid (totL (L.take (i + 1)) = totL (L.take i) + L[i].length ∧ (L.take i).flatten ++ L[i] = (L.take (i + 1)).flatten ∧ (totL (L.take i) + L[i].length + 1) * 24 ≤ 140737488355328 ∧ totL (L.take i) + L[i].length < 4611686018427387904) := HZ.out i hiL
      obtain ⟨R, hR⟩ : ∃ R, R = L[i] := ⟨_, rfl⟩
      rw [← hR] at hc' HT
      obtain ⟨ln, hln⟩ : ∃ t, t = R.length := ⟨_, rfl⟩
      rw [← hln] at hc' HT
      have HR : Hid (ln = R.length) := hln
      obtain ⟨t0, ht0⟩ : ∃ t, t = totL (L.take i) := ⟨_, rfl⟩
      obtain ⟨F, hF⟩ : ∃ F, F = (L.take i).flatten := ⟨_, rfl⟩
      rw [← ht0, ← hF] at HT HO
      have hb : t0 + ln < 4611686018427387904 := HT.out.2.2.2
      have hlnz : (ln : Int) < 4611686018427387904 := by clear hc hkx; omega
      clear hc hR hln ht0 hF
      go_wp2
      go_loopg [3, 5] ln (fun kx s3 s5 wq => ∃ j : Nat, j ≤ ln ∧ ln - j ≤ kx ∧ s5 = .int .i64 j ∧ Hid (wq.ownsRow w.heap.size 28 2 s3 (t0 + j) (rowCellsX (srt (ltOf cfR) (F ++ R.take j)))) ∧ Hid (Below w.heap.size w wq))
      case atStart => exact ⟨0, Nat.zero_le _, Nat.le_refl _, rfl, by rw [List.take_zero, List.append_nil, Nat.add_zero]; exact HO.out, HB.out⟩
      case round =>
        clear HO HB
        obtain ⟨j, hjl, hkj, rfl, HO, HB⟩ := hrel
        obtain ⟨qa, qc, y1, y2⟩ := hc'.out _ HB.out
        by_cases hjt : j < ln
        · have hjz : (j : Int) < (ln : Int) := by omega
          have hjR : j < R.length := by have := HR.out; omega
          obtain ⟨b2, off2, rfl, z1, z2⟩ := rowsX_at y2 hjR
          have HX : Hid (R.take (j + 1) = R.take j ++ [R[j]]) := List.take_succ_eq_append_getElem hjR
          generalize R[j] = x at z1 z2 HX
          obtain ⟨out, eout⟩ : ∃ o, o = srt (ltOf cfR) (F ++ R.take j) := ⟨_, rfl⟩
          have HS : Hid (out.Pairwise (fun a b => ltOf cfR b a = false) ∧ insF (ltOf cfR) x out = srt (ltOf cfR) (F ++ R.take (j + 1))) := ⟨by rw [eout]; exact srt_is_sorted swoR _, by rw [eout, HX.out, ← List.append_assoc, srt_snoc]⟩
          rw [← eout] at HO
          obtain ⟨N, eN⟩ : ∃ N, N = t0 + j := ⟨_, rfl⟩
          rw [← eN] at HO
          obtain ⟨ao, co, e3, hn0, hNc, hcm, hblk⟩ := row_form HO.out
          obtain ⟨R0, _, _⟩ := rows_own (by rw [← e3]; exact HO.out) (by have := HO.out.1; rw [rowCellsX_length] at this; omega) (by have := HO.out.1; rw [rowCellsX_length] at this; have := HT.out.2.2; omega)
          have hNl : N = out.length := R0.1
          subst e3
          have hNb : N < 4611686018427387904 := by omega
          have HRR : Hid (RowsX wr ao N out ∧ N = out.length ∧ (ao = none → co = 0) ∧ (∀ y, ao = some y → y = ⟨y.block, 0, none⟩)) := ⟨R0, hNl, hn0, fun y e => (hblk y e).1⟩
          have HNN : Hid (N = t0 + j) := eN
          clear eout eN R0 hNl hblk y2
          go_upto_block 4 with fail
          go_cut [6] from 14 to 66 (fun s6 wx => ∃ k q : Nat, wr.drewN q = wx ∧ k ≤ N ∧ s6 = .int .i64 k ∧ Hid ((∀ p (hp : p < out.length), k ≤ p → ltOf cfR x out[p] = true) ∧ (k = 0 ∨ ∃ h : k - 1 < out.length, ltOf cfR x out[k - 1] = false)))
          case first =>
            go_wp2_with fail
            go_loopg [6] N (fun kx s6 wz => ∃ k q : Nat, wr.drewN q = wz ∧ k ≤ N ∧ k ≤ kx ∧ s6 = .int .i64 k ∧ Hid (∀ p (hp : p < out.length), k ≤ p → ltOf cfR x out[p] = true))
            case atStart => exact ⟨N, 0, rfl, Nat.le_refl _, Nat.le_refl _, rfl, fun p hp h => absurd hp (Nat.not_lt.2 (HRR.out.2.1 ▸ h))⟩
            case round =>
              obtain ⟨k, q, rfl, hkN, hkk, rfl, H1⟩ := hrel
              cases k with
              | zero =>
                have hk0 : ¬ (0 : Int) < ((0 : Nat) : Int) := by simp
                go_wp2_with fail
                go_quiet (fail)
                go_wp2_with fail
                go_meet
                case rel => exact ⟨0, q + nq, by simp [World.drewN, Nat.add_assoc], Nat.zero_le _, rfl, H1.out, .inl rfl⟩
              | succ k =>
                have hkO : k < out.length := HRR.out.2.1 ▸ hkN
                obtain ⟨bo, oo, eo, p1, p2⟩ := rowsX_at HRR.out.1 hkO
                subst eo
                have HK : Hid (∀ h, out[k]'h = out[k]'hkO) := fun _ => rfl
                obtain ⟨o, hoo⟩ : ∃ o, o = out[k]'hkO := ⟨_, rfl⟩
                rw [← hoo] at p1 HK
                clear hoo p2 hkO
                have hkNz : (k : Int) < (N : Int) := Int.ofNat_lt.2 hkN
                have hkz : (0 : Int) < (k : Int) + 1 := by have : (0 : Int) ≤ (k : Int) := Int.natCast_nonneg k; exact Int.lt_add_one_of_le this
                cases hlv : ltOf cfR x o with
                | true =>
                  obtain ⟨f1, f2⟩ := above_yes hlv
                  have H2 : Hid (∀ p (hp : p < out.length), k ≤ p → ltOf cfR x out[p] = true) := fun p hp h => by
                    rcases Nat.lt_or_eq_of_le h with c | c
                    · exact H1.out p hp c
                    · subst c; rw [HK.out]; exact hlv
                  clear H1 HK hlv
                  go_wp2_with fail
                  go_quiet (fail)
                  go_wp2_with fail
                  go_roundg k
                  case measure => exact Nat.lt_of_succ_le hkk
                  case rel => exact ⟨k, q + nq, by simp [World.drewN], Nat.le_of_lt hkN, Nat.le_refl _, by go_num, H2⟩
                | false =>
                  have H3 : Hid ((∀ p (hp : p < out.length), k + 1 ≤ p → ltOf cfR x out[p] = true) ∧ (k + 1 = 0 ∨ ∃ h : k + 1 - 1 < out.length, ltOf cfR x out[k + 1 - 1] = false)) := ⟨H1.out, .inr ⟨HRR.out.2.1 ▸ hkN, (by have e := HK.out (HRR.out.2.1 ▸ hkN); show ltOf cfR x (out[k]'_) = false; rw [e]; exact hlv)⟩⟩
                  rcases above_no hlv with f1 | ⟨f1, f2⟩
                  · clear H1 HK hlv
                    go_wp2_with fail
                    go_quiet (fail)
                    go_wp2_with fail
                    go_meet
                    case rel => exact ⟨k + 1, q + nq, by simp [World.drewN, Nat.add_assoc], hkN, by go_num, H3⟩
                  · clear H1 HK hlv
                    go_wp2_with fail
                    go_quiet (fail)
                    go_wp2_with fail
                    go_meet
                    case rel => exact ⟨k + 1, q + nq, by simp [World.drewN, Nat.add_assoc], hkN, by go_num, H3⟩
          case rest =>
          obtain ⟨k, q, rfl, hkN, rfl, HK⟩ := hcut
          have R1 : RowsX (wr.drewN q) ao N out := HRR.out.1.below (below_drewN (Below.refl _ wr) q)
          obtain ⟨m1, wA, m2, wC, r1, r2, bA, bC, h3⟩ := three_apps (x := x) R1 HRR.out.2.2.1 HRR.out.2.2.2 hkN hNc (num_lt HNN.out hjt HT.out.2.2.1)
          have HFin : Hid (∀ m3 wD, wD.ownsRow (wr.drewN q).heap.size 28 2 m3 (N + 1) (rowCellsX (out.take k ++ (x :: out.drop k))) → Below (wr.drewN q).heap.size (wr.drewN q) wD → wD.ownsRow w.heap.size 28 2 m3 (t0 + (j + 1)) (rowCellsX (srt (ltOf cfR) (F ++ R.take (j + 1)))) ∧ Below w.heap.size w wD) := fun m3 wD o b => by
            rw [ins_split swoR out k HS.out.1 (HRR.out.2.1 ▸ hkN) HK.out.1 HK.out.2, HS.out.2] at o
            have hB := below_drewN HB.out q
            refine ⟨?_, hB.trans (b.mono hB.size)⟩
            rw [show t0 + (j + 1) = N + 1 by rw [HNN.out]; rfl]
            exact ownsLowA o hB.size
          have y1A : wA.cell? ⟨b, off + i, none⟩ = some (.slice (some ⟨b2, off2, none⟩) ln qc) := (bA.cell (p := ⟨b, off + i, none⟩) (World.block_lt_of_cell? (wr.drewN q) _ y1)).trans y1
          have z1A : wA.cell? ⟨b2, off2 + j * 2, none⟩ = some (.string x.1) := (bA.cell (p := ⟨b2, off2 + j * 2, none⟩) (World.block_lt_of_cell? (wr.drewN q) _ z1)).trans z1
          have z2A : wA.cell? ⟨b2, off2 + j * 2 + 1, none⟩ = some (.int .i64 x.2) := (bA.cell (p := ⟨b2, off2 + j * 2 + 1, none⟩) (World.block_lt_of_cell? (wr.drewN q) _ z2)).trans z2
          have hkNz : (k : Int) ≤ (N : Int) := Int.ofNat_le.2 hkN
          have hNcz : (N : Int) ≤ (co : Int) := Int.ofNat_le.2 hNc
          have hkz : (0 : Int) ≤ (k : Int) := Int.natCast_nonneg k
          have HR1 : Hid _ := r1
          have HR2 : Hid _ := r2
          have HGo : Hid (∀ y, ao = some y → y = ⟨y.block, 0, none⟩) := HRR.out.2.2.2
          have hn0' : Hid (ao = none → co = 0) := HRR.out.2.2.1
          clear R1 r1 r2 HK HS HRR bA bC hn0
          rcases num_k hkN hNc with hkc | ⟨hkc, hNk, hck⟩
          · cases ao with
            | none => exact absurd hkc (by rw [hn0'.out rfl]; exact Nat.not_lt_zero _)
            | some y =>
              obtain ⟨g, e⟩ : ∃ g, y = ⟨g, 0, none⟩ := ⟨_, HGo.out y rfl⟩
              subst e
              obtain ⟨m3, wD, r3, o3, b3⟩ := h3 (some ⟨g, k * 2, none⟩) (.inr ⟨hkc, ⟨g, 0, none⟩, rfl, rfl⟩)
              have HF : Hid _ := HFin.out m3 wD o3 b3
              have HR3 : Hid _ := r3
              have hkcz : (k : Int) < (co : Int) := Int.ofNat_lt.2 hkc
              clear h3 o3 b3 r3 HFin
              go_wp2_with (first
                | (at_builtin; refine wpList_append_known rfl (.tmp 46) (.tmp 49) 22 22 rfl _ _ rfl rfl _ _ HR1.out ?_)
                | (at_builtin; refine wpList_append_known rfl (.tmp 51) (.tmp 59) 22 22 rfl _ _ rfl rfl _ _ HR2.out ?_)
                | (at_builtin; refine wpList_append_known rfl (.tmp 61) (.tmp 64) 22 22 rfl _ _ rfl rfl _ _ HR3.out ?_))
              go_roundg (ln - (j + 1))
              case measure => exact num_m hjt hkj
              case rel => exact ⟨j + 1, hjt, Nat.le_refl _, by go_num, HF.out.1, HF.out.2⟩
          · obtain rfl := hkc
            obtain rfl : N = k := Nat.le_antisymm hNc hkN
            clear hkNz hNcz hNk hck hNc hkN
            cases ao with
            | none =>
              have hco : N = 0 := hn0'.out rfl
              subst hco
              obtain ⟨m3, wD, r3, o3, b3⟩ := h3 none (.inl ⟨.inr rfl, fun _ => rfl⟩)
              have HF : Hid _ := HFin.out m3 wD o3 b3
              have HR3 : Hid _ := r3
              clear h3 o3 b3 r3 HFin
              go_wp2_with (first
                | (at_builtin; refine wpList_append_known rfl (.tmp 46) (.tmp 49) 22 22 rfl _ _ rfl rfl _ _ HR1.out ?_)
                | (at_builtin; refine wpList_append_known rfl (.tmp 51) (.tmp 59) 22 22 rfl _ _ rfl rfl _ _ HR2.out ?_)
                | (at_builtin; refine wpList_append_known rfl (.tmp 61) (.tmp 64) 22 22 rfl _ _ rfl rfl _ _ HR3.out ?_))
              go_roundg (ln - (j + 1))
              case measure => exact num_m hjt hkj
              case rel => exact ⟨j + 1, hjt, Nat.le_refl _, by go_num, HF.out.1, HF.out.2⟩
            | some y =>
              obtain ⟨g, e⟩ : ∃ g, y = ⟨g, 0, none⟩ := ⟨_, HGo.out y rfl⟩
              subst e
              obtain ⟨m3, wD, r3, o3, b3⟩ := h3 (some ⟨g, 0, none⟩) (.inl ⟨.inl rfl, fun e => by cases e⟩)
              rw [Nat.sub_self] at r3
              have HF : Hid _ := HFin.out m3 wD o3 b3
              have HR3 : Hid _ := r3
              clear h3 o3 b3 r3 HFin
              go_wp2_with (first
                | (at_builtin; refine wpList_append_known rfl (.tmp 46) (.tmp 49) 22 22 rfl _ _ rfl rfl _ _ HR1.out ?_)
                | (at_builtin; refine wpList_append_known rfl (.tmp 51) (.tmp 59) 22 22 rfl _ _ rfl rfl _ _ HR2.out ?_)
                | (at_builtin; refine wpList_append_known rfl (.tmp 61) (.tmp 64) 22 22 rfl _ _ rfl rfl _ _ HR3.out ?_))
              go_roundg (ln - (j + 1))
              case measure => exact num_m hjt hkj
              case rel => exact ⟨j + 1, hjt, Nat.le_refl _, by go_num, HF.out.1, HF.out.2⟩
        · have hjz : ¬ (j : Int) < (ln : Int) := fun h => hjt (Int.ofNat_lt.1 h)
          obtain rfl : j = ln := Nat.le_antisymm hjl (Nat.not_lt.1 hjt)
          have HO2 : Hid (wr.ownsRow w.heap.size 28 2 u3 (totL (L.take (i + 1))) (rowCellsX (srt (ltOf cfR) (L.take (i + 1)).flatten))) := by
            rw [HT.out.1, ← HT.out.2.1]
            have := HO.out
            rw [show R.take j = R by rw [HR.out]; exact List.take_length] at this
            exact this
          clear HO y2 hkj
          go_wp2_with fail
          go_roundg (n - (i + 1))
          case measure => exact num_m hlt hkx
          case rel => exact ⟨i + 1, hlt, Nat.le_refl _, by go_num, HO2, HB⟩
    · have hltz : ¬ (i : Int) < (n : Int) := fun h => hlt (Int.ofNat_lt.1 h)
      obtain rfl : i = n := Nat.le_antisymm hin (Nat.not_lt.1 hlt)
      have HO2 : Hid (wr.ownsRow w.heap.size 28 2 u3 (totL L) (rowCellsX (mergeL L))) := by
        have := HO.out
        rw [HN.out, List.take_length] at this
        exact this
      clear HO hkx
      go_wp2
      go_ret
      exact ⟨_, rfl, HO2.out, HB.out⟩
end Go.Proofs.Ytckldjiabalgbaa
