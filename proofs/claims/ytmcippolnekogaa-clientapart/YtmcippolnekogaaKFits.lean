/- Package client: fits. -/
import Derived.Test.YtmcippolnekogaaKLet
namespace Go.Proofs.Ytmcippolnekogaa
open Go.RowKit Cod
attribute [local go_sem] Oper.semAt_some
set_option linter.unusedVariables false

def LetV.fits (x : LetV) (rows : List (ByteArray × Int)) : Bool := decide (x.bn ≤ 65536) && decide (x.rn ≤ 600) && shortL [x.op.src, x.op.dst, x.op.key] && shortL (rows.map (·.1))
set_option maxRecDepth 100000 in
set_option maxHeartbeats 1600000 in
theorem fits_any (x : LetV) (rows : List (ByteArray × Int)) (w : World) (hR : RowsAt w x.ra x.rn rows) : Calls Try.prog 33 #[.agg x.cells] w fun e w' => e = .returned (.bool (x.fits rows)) ∧ Below w.heap.size w w' := by
  obtain ⟨kind, n, group, ⟨ok, os, od, oa, oy, ol, oh⟩, why, amount, ra, rn, rc, ba, bn, bc⟩ := x
  simp only at hR
  simp only [LetV.fits]
  show Calls Try.prog 33 #[.agg #[.int .i64 kind, .int .i64 n, .int .i64 group, .int .i64 ok, .string os, .string od, .int .i64 oa, .string oy, .int .i64 ol, .int .i64 oh, .int .i64 why, .int .i64 amount, .slice ra rn rc, .slice ba bn bc]] w _
  have bA : Below w.heap.size w (w.alloc (.cells #[.int .i64 kind, .int .i64 n, .int .i64 group, .int .i64 ok, .string os, .string od, .int .i64 oa, .string oy, .int .i64 ol, .int .i64 oh, .int .i64 why, .int .i64 amount, .slice ra rn rc, .slice ba bn bc] 31)) := (Below.refl _ w).alloc (Nat.le_refl _) _
  have BA : Hid _ := bA
  by_cases h1 : bn ≤ 65536
  case neg =>
    have h1' : (65536 : Int) < (bn : Int) := by omega
    have HF : Hid (decide (bn ≤ 65536) = false) := decide_eq_false h1
    clear h1 hR bA
    go_enter Try.func33, Try.ntmps33
    go_wp2
    go_ret
    exact ⟨by rw [HF.out]; rfl, BA.out⟩
  have h1' : ¬ (65536 : Int) < (bn : Int) := by omega
  have D1 : Hid (decide (bn ≤ 65536) = true) := decide_eq_true h1
  by_cases h2 : rn ≤ 600
  case neg =>
    have h2' : (600 : Int) < (rn : Int) := by omega
    have HF : Hid (decide (rn ≤ 600) = false) := decide_eq_false h2
    clear h1 hR bA h2
    go_enter Try.func33, Try.ntmps33
    go_wp2
    go_ret
    exact ⟨by rw [HF.out]; simp, BA.out⟩
  have h2' : ¬ (600 : Int) < (rn : Int) := by omega
  have D2 : Hid (decide (rn ≤ 600) = true) := decide_eq_true h2
  have HR : Hid (RowsAt w ra rn rows) := hR
  have H2 : Hid (rn ≤ 600) := h2
  have HK : Hid (∀ o : Obj, ((w.alloc (.cells #[.int .i64 kind, .int .i64 n, .int .i64 group, .int .i64 ok, .string os, .string od, .int .i64 oa, .string oy, .int .i64 ol, .int .i64 oh, .int .i64 why, .int .i64 amount, .slice ra rn rc, .slice ba bn bc] 31)).alloc o).cell? ⟨w.heap.size, 12, none⟩ = some (.slice ra rn rc)) := fun o => by
    rw [((Below.refl _ (w.alloc _)).alloc (Nat.le_refl _) o).cell (p := ⟨w.heap.size, 12, none⟩) (by simp), World.cell?_alloc_mark]
    rfl
  have SH : ∀ W : World, Calls Try.prog 57 #[.slice (some ⟨W.heap.size, 0, none⟩) 3 3] (W.alloc (.cells #[.string os, .string od, .string oy] 9)) fun e w' => e = .returned (.bool (shortL [os, od, oy])) ∧ w' = W.alloc (.cells #[.string os, .string od, .string oy] 9) := fun W => short_any (some ⟨W.heap.size, 0, none⟩) 3 [os, od, oy] (W.alloc (.cells #[.string os, .string od, .string oy] 9)) (by simp) (fun j hj => ⟨_, _, rfl, by
    rw [World.cell?_alloc_mark]
    match j, hj with
    | 0, _ => rfl
    | 1, _ => rfl
    | 2, _ => rfl⟩)
  have SR : Hid (∀ (W : World) (s : ByteArray), Calls Try.prog 57 #[.slice (some ⟨W.heap.size, 0, none⟩) 1 1] (W.alloc (.cells #[.string s] 9)) fun e w' => e = .returned (.bool (shortL [s])) ∧ w' = W.alloc (.cells #[.string s] 9)) := fun W s => short_any (some ⟨W.heap.size, 0, none⟩) 1 [s] (W.alloc (.cells #[.string s] 9)) (by simp) (fun j hj => ⟨_, _, rfl, by
    rw [World.cell?_alloc_mark]
    match j, hj with
    | 0, _ => rfl⟩)
  have SH1 := SH (w.alloc (.cells #[.int .i64 kind, .int .i64 n, .int .i64 group, .int .i64 ok, .string os, .string od, .int .i64 oa, .string oy, .int .i64 ol, .int .i64 oh, .int .i64 why, .int .i64 amount, .slice ra rn rc, .slice ba bn bc] 31))
  rw [show (w.alloc (.cells #[.int .i64 kind, .int .i64 n, .int .i64 group, .int .i64 ok, .string os, .string od, .int .i64 oa, .string oy, .int .i64 ol, .int .i64 oh, .int .i64 why, .int .i64 amount, .slice ra rn rc, .slice ba bn bc] 31)).heap.size = w.heap.size + 1 by simp] at SH1
  clear h1 h2 hR bA SH
  go_enter Try.func33, Try.ntmps33
  go_wp2_with fail
  refine SH1.mono ?_
  rintro e w2 ⟨rfl, e2⟩
  have hc2 := HK.out (.cells #[.string os, .string od, .string oy] 9)
  rw [← e2] at hc2
  have B2 : Hid (Below w.heap.size w w2) := by show Below _ _ _; rw [e2]; exact below_two w _ _
  clear SH1 HK e2
  cases hs : shortL [os, od, oy] with
  | false =>
    have H0 : Hid _ := hs
    clear hs
    go_wp2
    go_ret
    exact ⟨by rw [H0.out]; simp, B2.out⟩
  | true =>
    obtain ⟨rfl, hR2, hR3⟩ := HR.out
    have H0 : Hid _ := hs
    clear hs
    go_wp2
    go_loopw [34] (fun i wr => ∃ k : Nat, k ≤ rows.length ∧ i = .int .i64 k ∧ shortL ((rows.map (·.1)).take k) = true ∧ Below w.heap.size w wr)
      (fun i _ => rows.length - (intOf i).toNat)
    case atStart => exact ⟨0, Nat.zero_le _, rfl, rfl, B2.out⟩
    case round =>
      obtain ⟨k, hk, rfl, hs, hb⟩ := hrel
      by_cases hlt : k < rows.length
      · obtain ⟨b, off, rfl, c1, c2⟩ := (HR.out.below hb).at hlt
        have hT : Hid _ := shortL_take (ts := rows.map (·.1)) (k := k) (by simpa using hlt)
        have hF : Hid _ := shortL_false (ts := rows.map (·.1)) (k := k) (by simpa using hlt)
        simp only [List.getElem_map] at hT hF
        have HS : Hid _ := hs
        have HB : Hid _ := hb
        clear hs hb hR3 HR
        generalize rows[k].1 = s at *
        generalize rows[k].2 = m at *
        have SS := SR.out (wr.alloc (.cells #[.string s, .int .i64 m] 69)) s
        rw [show (wr.alloc (.cells #[.string s, .int .i64 m] 69)).heap.size = wr.heap.size + 1 by simp] at SS
        have bN := below_two wr (.cells #[.string s, .int .i64 m] 69) (.cells #[.string s] 9)
        have BN : Hid _ := bN
        clear SR bN
        go_wp2_with fail
        refine SS.mono ?_
        rintro e w3 ⟨rfl, rfl⟩
        clear SS
        by_cases hz : s.size ≤ 65536
        · rw [show shortL [s] = true by simp [shortL, hz]]
          go_wp2
          go_roundw
          case rel => exact ⟨k + 1, hlt, by go_num, by rw [hT.out, HS.out]; simp; exact hz, HB.out.trans (BN.out.mono HB.out.size)⟩
          case measure => simp [intOf]; omega
        · rw [show shortL [s] = false by simp [shortL]; omega]
          have HZ := hF.out (by omega)
          go_wp2
          go_ret
          exact ⟨by rw [HZ]; simp, HB.out.trans (BN.out.mono HB.out.size)⟩
      · obtain rfl : k = rows.length := by omega
        rw [List.take_of_length_le (by simp)] at hs
        have HS : Hid _ := hs
        have HB : Hid _ := hb
        clear hs hb hR3 HR
        go_wp2
        go_ret
        exact ⟨by rw [HS.out, D1.out, D2.out, H0.out]; rfl, HB.out⟩
end Go.Proofs.Ytmcippolnekogaa
