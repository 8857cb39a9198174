/- BookSlots. -/
import Derived.Test.YtabhgdmmljhpcabDoorBDrop2
import Derived.Test.YtabhgdmmljhpcabDoorBRef
namespace Go.Proofs.YtabhgdmmljhpcabDoor
open Go.RowKit Cod
attribute [local go_sem] Oper.semAt_some
set_option linter.unusedVariables false

/-- Texts in memory. -/
def StrsB (w : World) (a : Option Addr) (len : Nat) (l : List ByteArray) : Prop :=
  len = l.length ∧ (∀ s ∈ l, s.size ≤ maxLen) ∧ (len = 0 ∨ ∃ b off, a = some ⟨b, off, none⟩ ∧ b < w.heap.size ∧ ∀ j (hj : j < l.length), w.cell? ⟨b, off + j, none⟩ = some (.string l[j]))
theorem StrsB.at {w W : World} {a : Option Addr} {len : Nat} {l : List ByteArray} (h : StrsB w a len l) (bel : Below w.heap.size w W) {j : Nat} (hj : j < l.length) : ∃ b off, a = some ⟨b, off, none⟩ ∧ W.cell? ⟨b, off + j, none⟩ = some (.string l[j]) := by
  obtain ⟨h1, _, h3⟩ := h
  rcases h3 with h3 | ⟨b, off, ha, hb, hc⟩
  · omega
  · exact ⟨b, off, ha, (bel.cell (p := ⟨b, off + j, none⟩) hb).trans (hc j hj)⟩
/-- Those of the slots ahead of one; those from one on. -/
def lowS (k : Int) (L : List Acc) : List Acc := L.filter (fun p => decide (slotOf p.nm < k))
def highS (k : Int) (L : List Acc) : List Acc := L.filter (fun p => decide (k ≤ slotOf p.nm))
theorem inSlot_goes (k : Int) (hk : 0 ≤ k) : inSlot k = goes k := by
  funext p
  unfold inSlot goes
  rw [decide_eq_false (show ¬ k = -1 by omega), Bool.false_or]
  by_cases q : k = slotOf p.nm
  · rw [decide_eq_true q, decide_eq_true q.symm]
  · rw [decide_eq_false q, decide_eq_false (fun z => q z.symm)]
theorem rows_count (k : Int) (hk : 0 ≤ k) (L : List Acc) : (rowsOf k L).length + (stay k L).length = L.length := by
  unfold rowsOf stay
  rw [List.length_map, inSlot_goes k hk]
  induction L with
  | nil => rfl
  | cons p L ih =>
    by_cases h : goes k p = true
    · simp only [List.filter_cons, h, if_true, Bool.not_true, Bool.false_eq_true, if_false, List.length_cons]; omega
    · have h' : goes k p = false := by simpa using h
      simp only [List.filter_cons, h', Bool.false_eq_true, if_false, Bool.not_false, if_true, List.length_cons]; omega
theorem low_zero (L : List Acc) : lowS 0 L = [] := by
  unfold lowS
  refine List.filter_eq_nil_iff.2 (fun p _ => ?_)
  have := slotOf_bd p.nm
  simp only [decide_eq_true_eq]
  omega
theorem low_all (L : List Acc) : lowS 16 L = L := by
  unfold lowS
  refine List.filter_eq_self.2 (fun p _ => ?_)
  have := slotOf_bd p.nm
  simp only [decide_eq_true_eq]
  omega
theorem low_succ (k : Int) (hk : 0 ≤ k) (L : List Acc) : (lowS (k + 1) L).length = (lowS k L).length + (rowsOf k L).length := by
  unfold lowS rowsOf
  rw [List.length_map, inSlot_goes k hk]
  induction L with
  | nil => rfl
  | cons p L ih =>
    by_cases h1 : slotOf p.nm < k
    · have h2 : slotOf p.nm < k + 1 := by omega
      have h3 : goes k p = false := by simp only [goes, decide_eq_false_iff_not]; omega
      simp only [List.filter_cons, h1, h2, h3, decide_true, if_true, Bool.false_eq_true, if_false, List.length_cons]; omega
    · by_cases h4 : slotOf p.nm = k
      · have h2 : slotOf p.nm < k + 1 := by omega
        have h3 : goes k p = true := by simp only [goes, decide_eq_true_eq]; exact h4
        simp only [List.filter_cons, h1, h2, h3, decide_true, decide_false, if_true, Bool.false_eq_true, if_false, List.length_cons]; omega
      · have h2 : ¬ slotOf p.nm < k + 1 := by omega
        have h3 : goes k p = false := by simp only [goes, decide_eq_false_iff_not]; omega
        simp only [List.filter_cons, h1, h2, h3, decide_false, Bool.false_eq_true, if_false]; omega
theorem high_zero (L : List Acc) : highS 0 L = L := by
  unfold highS
  refine List.filter_eq_self.2 (fun p _ => ?_)
  have := slotOf_bd p.nm
  simp only [decide_eq_true_eq]
  omega
theorem high_none (L : List Acc) : highS 16 L = [] := by
  unfold highS
  refine List.filter_eq_nil_iff.2 (fun p _ => ?_)
  have := slotOf_bd p.nm
  simp only [decide_eq_true_eq]
  omega
theorem high_stay (k : Int) (L : List Acc) : stay k (highS k L) = highS (k + 1) L := by
  unfold stay highS
  rw [List.filter_filter]
  congr 1
  funext p
  unfold goes
  by_cases h : slotOf p.nm = k
  · rw [decide_eq_true h, decide_eq_false (show ¬ (k + 1 ≤ slotOf p.nm) by omega)]; rfl
  · rw [decide_eq_false h, Bool.not_false, Bool.true_and]
    by_cases q : k ≤ slotOf p.nm
    · rw [decide_eq_true q, decide_eq_true (show k + 1 ≤ slotOf p.nm by omega)]
    · rw [decide_eq_false q, decide_eq_false (show ¬ (k + 1 ≤ slotOf p.nm) by omega)]
theorem row_slot {k : Int} (hk : 0 ≤ k) {L : List Acc} (hf : Fit L) {r : RowB} (hr : r ∈ rowsOf k L) : slotOf r.1 = k ∧ r.1.size ≤ maxLen := by
  unfold rowsOf at hr
  rw [inSlot_goes k hk] at hr
  obtain ⟨p, hp, rfl⟩ := List.mem_map.1 hr
  obtain ⟨h1, h2⟩ := List.mem_filter.1 hp
  have := (hf.acc h1).1
  exact ⟨by simpa [goes] using h2, by simp only; unfold maxLen; omega⟩
theorem my_len {w0 w : World} {N : Nat} {L : List Acc} (h : MyB w0 w N L) : Calls Tryd.prog 8 #[.pointer (some ⟨N, 0, none⟩)] w fun e w' => e = .returned (.int .i64 (L.length : Nat)) ∧ w' = w := by
  obtain ⟨sv, h1, b⟩ := h
  exact len_any h1
set_option maxRecDepth 100000 in
set_option maxHeartbeats 20000000 in
theorem bookSlots_any (a : Option Addr) (len cap : Nat) (l : List ByteArray) (w : World) (hO : StrsB w a len l) (hT : Tabs w) :
    Calls Tryd.prog 3 #[.slice a len cap] w fun e w' => e = .returned (.bool true) ∧ Below w.heap.size w w' := by
  have HO : Hid (StrsB w a len l) := hO
  have HT : Hid (Tabs w) := hT
  clear hO hT
  go_enter Tryd.func3, Tryd.ntmps3
  go_wp2_with fail
  refine (my_new (Below.refl _ w)).mono ?_
  rintro e w1 ⟨N, rfl, h1⟩
  have H1 : Hid (MyB w w1 N []) := h1
  clear h1
  go_wp2
  go_loopw [4] (fun i wr => ∃ (k : Nat) (L : List Acc), k ≤ len ∧ k ≤ 60 ∧ i = .int .i64 k ∧ Hid (MyB w wr N L)) (fun i _ => 60 - (intOf i).toNat)
  case atStart => exact ⟨0, [], Nat.zero_le _, by omega, rfl, H1⟩
  case round =>
    clear H1
    obtain ⟨k, L, hk, hk60, rfl, HI⟩ := hrel
    by_cases hlt : k < len ∧ k < 60
    · obtain ⟨hl1, hl2⟩ := hlt
      have hj : k < l.length := by have := HO.out.1; omega
      obtain ⟨g, off, ea, q0⟩ := HO.out.at (W := wr) HI.out.bel hj
      subst ea
      have HZ : Hid ((l[k]'hj).size ≤ maxLen) := HO.out.2.1 _ (List.getElem_mem hj)
      generalize l[k]'hj = s at q0 HZ
      have hl1' : (k : Int) < (len : Int) := by omega
      have hl2' : (k : Int) < 60 := by omega
      go_wp2_with fail
      refine (my_open HI.out s HZ.out).mono ?_
      rintro e w2 ⟨rfl, d2⟩
      have D2 : Hid (MyB w w2 N (putP L s 0).2) := d2
      clear d2 HI
      go_wp2
      go_roundw
      case rel => exact ⟨k + 1, _, by omega, by omega, by go_num, D2⟩
      case measure => simp only [intOf]; omega
    · by_cases hl1 : k < len
      · have hl1' : (k : Int) < (len : Int) := by omega
        have hl2' : ¬ (k : Int) < 60 := by omega
        have HZ0 : Hid (lowS 0 L = []) := low_zero L
        go_wp2
        clear hk hk60
        go_loopw [5, 6] (fun sn ss ws => ∃ q : Nat, q ≤ 16 ∧ ss = .int .i64 q ∧ sn = .int .i64 ((lowS q L).length : Nat) ∧ Hid (MyB w ws N L)) (fun _ ss _ => 16 - (intOf ss).toNat)
        case atStart => exact ⟨0, by omega, rfl, by rw [show lowS ((0 : Nat) : Int) L = [] from HZ0.out]; rfl, HI⟩
        case round =>
          clear HI
          obtain ⟨q, hq, rfl, rfl, HJ⟩ := hrel
          by_cases hq16 : q < 16
          · skip
            have hq16' : (q : Int) < 16 := by omega
            have HFit : Hid (Fit L) := HJ.out.fit
            have HLS : Hid ((lowS ((q : Int) + 1) L).length = (lowS q L).length + (rowsOf q L).length) := low_succ q (by omega) L
            have hll : (lowS q L).length ≤ 200 := Nat.le_trans (List.length_filter_le _ _) HFit.out.len
            have hrl : (rowsOf q L).length ≤ 200 := Nat.le_trans (rowsOf_len _ _) HFit.out.len
            have HRS : Hid (∀ r ∈ rowsOf q L, slotOf r.1 = q ∧ r.1.size ≤ maxLen) := fun r hr => row_slot (by omega) HFit.out hr
            have HCR := my_rows HJ.out HT.out q
            generalize (lowS q L).length = m at *
            generalize rowsOf q L = R at *
            go_wp2_with fail
            refine HCR.mono ?_
            rintro e w2 ⟨a2, c2, rfl, r2, b2, m2⟩
            have M2 : Hid (MyB w w2 N L) := m2
            have R2 : Hid (RowsAt w2 a2 R.length R) := r2
            clear HCR r2 b2 m2 HJ
            go_wp2
            go_loopw [8] (fun si wi => ∃ x : Nat, x ≤ R.length ∧ si = .int .i64 x ∧ Hid (Below w2.heap.size w2 wi)) (fun si _ => R.length - (intOf si).toNat)
            case atStart => exact ⟨0, Nat.zero_le _, rfl, Below.refl _ _⟩
            case round =>
              obtain ⟨x, hx, rfl, BI⟩ := hrel
              by_cases hxl : x < R.length
              · obtain ⟨b, of2, ea2, x1, x2⟩ := (R2.out.below BI.out).at hxl
                subst ea2
                obtain ⟨hs1, hs2⟩ := HRS.out _ (List.getElem_mem hxl)
                generalize R[x]'hxl = r at x1 x2 hs1 hs2
                obtain ⟨rn, ra⟩ := r
                simp only at x1 x2 hs1 hs2
                have HRf := rslot_any rn wr hs2
                rw [hs1] at HRf
                clear hs1 hs2
                go_wp2_with fail
                refine HRf.mono ?_
                rintro e w3 ⟨rfl, b3⟩
                have B3 : Hid (Below w2.heap.size w2 w3) := BI.out.trans (b3.mono BI.out.size)
                clear b3 HRf
                go_wp2
                go_roundw
                case rel => exact ⟨x + 1, by omega, by go_num, B3⟩
                case measure => simp only [intOf]; omega
              · obtain rfl : x = R.length := by omega
                have M3 : Hid (MyB w wr N L) := M2.out.below BI.out
                go_wp2
                go_roundw
                case rel => exact ⟨q + 1, by omega, by go_num, by rw [show ((q + 1 : Nat) : Int) = (q : Int) + 1 by omega, HLS.out]; go_num, M3⟩
                case measure => simp only [intOf]; omega
          · obtain rfl : q = 16 := by omega
            have HA16 : Hid (lowS ((16 : Nat) : Int) L = L) := low_all L
            have HLn := my_len HJ.out
            rw [HA16.out]
            have hL200 : L.length ≤ 200 := HJ.out.fit.len
            have HH0 : Hid (highS 0 L = L) := high_zero L
            go_wp2_with fail
            refine HLn.mono ?_
            rintro e w2 ⟨rfl, rfl⟩
            clear HLn
            go_wp2
            go_loopw [9] (fun ss wt => ∃ q : Nat, q ≤ 16 ∧ ss = .int .i64 q ∧ Hid (MyB w wt N (highS q L))) (fun ss _ => 16 - (intOf ss).toNat)
            case atStart => exact ⟨0, by omega, rfl, by rw [show highS ((0 : Nat) : Int) L = L from HH0.out]; exact HJ⟩
            case round =>
              clear HJ
              obtain ⟨q, hq2, rfl, HK⟩ := hrel
              by_cases hq16 : q < 16
              · have hq16' : (q : Int) < 16 := by omega
                have HCnt := rows_count q (by omega) (highS q L)
                have HSt : Hid (stay q (highS q L) = highS ((q : Int) + 1) L) := high_stay q L
                have hl2 : (highS q L).length ≤ 200 := HK.out.fit.len
                have HCR := my_rows HK.out HT.out q
                go_wp2_with fail
                refine HCR.mono ?_
                rintro e w3 ⟨a3, c3, rfl, r3, b3, m3⟩
                have HCD := my_drop m3 HT.out q
                rw [HSt.out] at HCD HCnt
                have hcc : ((highS q L).length : Int) - ((highS ((q : Int) + 1) L).length : Int) = ((rowsOf q (highS q L)).length : Int) := by omega
                rw [hcc] at HCD
                clear HCR r3 b3 m3 hcc HCnt HK HSt
                go_wp2_with fail
                refine HCD.mono ?_
                rintro e w4 ⟨rfl, m4⟩
                have M4 : Hid (MyB w w4 N (highS ((q : Int) + 1) L)) := m4
                clear HCD m4
                go_wp2
                go_roundw
                case rel => exact ⟨q + 1, by omega, by go_num, by rw [show ((q + 1 : Nat) : Int) = (q : Int) + 1 by omega]; exact M4⟩
                case measure => simp only [intOf]; omega
              · obtain rfl : q = 16 := by omega
                have HK2 : Hid (MyB w wr N []) := by
                  have := HK.out
                  rw [show highS ((16 : Nat) : Int) L = [] from high_none L] at this
                  exact this
                have HLn := my_len HK2.out
                clear HK
                go_wp2_with fail
                refine HLn.mono ?_
                rintro e w3 ⟨rfl, rfl⟩
                clear HLn
                go_wp2_with fail
                refine (knownB_any w3).mono ?_
                rintro e wK ⟨rfl, bK⟩
                have BK : Hid (Below w.heap.size w wK) := HK2.out.bel.trans (bK.mono HK2.out.bel.size)
                clear bK
                go_wp2
                go_ret
                exact ⟨rfl, BK.out⟩
      · have hl1' : ¬ (k : Int) < (len : Int) := by omega
        have HZ0 : Hid (lowS 0 L = []) := low_zero L
        go_wp2
        clear hk hk60
        go_loopw [5, 6] (fun sn ss ws => ∃ q : Nat, q ≤ 16 ∧ ss = .int .i64 q ∧ sn = .int .i64 ((lowS q L).length : Nat) ∧ Hid (MyB w ws N L)) (fun _ ss _ => 16 - (intOf ss).toNat)
        case atStart => exact ⟨0, by omega, rfl, by rw [show lowS ((0 : Nat) : Int) L = [] from HZ0.out]; rfl, HI⟩
        case round =>
          clear HI
          obtain ⟨q, hq, rfl, rfl, HJ⟩ := hrel
          by_cases hq16 : q < 16
          · skip
            have hq16' : (q : Int) < 16 := by omega
            have HFit : Hid (Fit L) := HJ.out.fit
            have HLS : Hid ((lowS ((q : Int) + 1) L).length = (lowS q L).length + (rowsOf q L).length) := low_succ q (by omega) L
            have hll : (lowS q L).length ≤ 200 := Nat.le_trans (List.length_filter_le _ _) HFit.out.len
            have hrl : (rowsOf q L).length ≤ 200 := Nat.le_trans (rowsOf_len _ _) HFit.out.len
            have HRS : Hid (∀ r ∈ rowsOf q L, slotOf r.1 = q ∧ r.1.size ≤ maxLen) := fun r hr => row_slot (by omega) HFit.out hr
            have HCR := my_rows HJ.out HT.out q
            generalize (lowS q L).length = m at *
            generalize rowsOf q L = R at *
            go_wp2_with fail
            refine HCR.mono ?_
            rintro e w2 ⟨a2, c2, rfl, r2, b2, m2⟩
            have M2 : Hid (MyB w w2 N L) := m2
            have R2 : Hid (RowsAt w2 a2 R.length R) := r2
            clear HCR r2 b2 m2 HJ
            go_wp2
            go_loopw [8] (fun si wi => ∃ x : Nat, x ≤ R.length ∧ si = .int .i64 x ∧ Hid (Below w2.heap.size w2 wi)) (fun si _ => R.length - (intOf si).toNat)
            case atStart => exact ⟨0, Nat.zero_le _, rfl, Below.refl _ _⟩
            case round =>
              obtain ⟨x, hx, rfl, BI⟩ := hrel
              by_cases hxl : x < R.length
              · obtain ⟨b, of2, ea2, x1, x2⟩ := (R2.out.below BI.out).at hxl
                subst ea2
                obtain ⟨hs1, hs2⟩ := HRS.out _ (List.getElem_mem hxl)
                generalize R[x]'hxl = r at x1 x2 hs1 hs2
                obtain ⟨rn, ra⟩ := r
                simp only at x1 x2 hs1 hs2
                have HRf := rslot_any rn wr hs2
                rw [hs1] at HRf
                clear hs1 hs2
                go_wp2_with fail
                refine HRf.mono ?_
                rintro e w3 ⟨rfl, b3⟩
                have B3 : Hid (Below w2.heap.size w2 w3) := BI.out.trans (b3.mono BI.out.size)
                clear b3 HRf
                go_wp2
                go_roundw
                case rel => exact ⟨x + 1, by omega, by go_num, B3⟩
                case measure => simp only [intOf]; omega
              · obtain rfl : x = R.length := by omega
                have M3 : Hid (MyB w wr N L) := M2.out.below BI.out
                go_wp2
                go_roundw
                case rel => exact ⟨q + 1, by omega, by go_num, by rw [show ((q + 1 : Nat) : Int) = (q : Int) + 1 by omega, HLS.out]; go_num, M3⟩
                case measure => simp only [intOf]; omega
          · obtain rfl : q = 16 := by omega
            have HA16 : Hid (lowS ((16 : Nat) : Int) L = L) := low_all L
            have HLn := my_len HJ.out
            rw [HA16.out]
            have hL200 : L.length ≤ 200 := HJ.out.fit.len
            have HH0 : Hid (highS 0 L = L) := high_zero L
            go_wp2_with fail
            refine HLn.mono ?_
            rintro e w2 ⟨rfl, rfl⟩
            clear HLn
            go_wp2
            go_loopw [9] (fun ss wt => ∃ q : Nat, q ≤ 16 ∧ ss = .int .i64 q ∧ Hid (MyB w wt N (highS q L))) (fun ss _ => 16 - (intOf ss).toNat)
            case atStart => exact ⟨0, by omega, rfl, by rw [show highS ((0 : Nat) : Int) L = L from HH0.out]; exact HJ⟩
            case round =>
              clear HJ
              obtain ⟨q, hq2, rfl, HK⟩ := hrel
              by_cases hq16 : q < 16
              · have hq16' : (q : Int) < 16 := by omega
                have HCnt := rows_count q (by omega) (highS q L)
                have HSt : Hid (stay q (highS q L) = highS ((q : Int) + 1) L) := high_stay q L
                have hl2 : (highS q L).length ≤ 200 := HK.out.fit.len
                have HCR := my_rows HK.out HT.out q
                go_wp2_with fail
                refine HCR.mono ?_
                rintro e w3 ⟨a3, c3, rfl, r3, b3, m3⟩
                have HCD := my_drop m3 HT.out q
                rw [HSt.out] at HCD HCnt
                have hcc : ((highS q L).length : Int) - ((highS ((q : Int) + 1) L).length : Int) = ((rowsOf q (highS q L)).length : Int) := by omega
                rw [hcc] at HCD
                clear HCR r3 b3 m3 hcc HCnt HK HSt
                go_wp2_with fail
                refine HCD.mono ?_
                rintro e w4 ⟨rfl, m4⟩
                have M4 : Hid (MyB w w4 N (highS ((q : Int) + 1) L)) := m4
                clear HCD m4
                go_wp2
                go_roundw
                case rel => exact ⟨q + 1, by omega, by go_num, by rw [show ((q + 1 : Nat) : Int) = (q : Int) + 1 by omega]; exact M4⟩
                case measure => simp only [intOf]; omega
              · obtain rfl : q = 16 := by omega
                have HK2 : Hid (MyB w wr N []) := by
                  have := HK.out
                  rw [show highS ((16 : Nat) : Int) L = [] from high_none L] at this
                  exact this
                have HLn := my_len HK2.out
                clear HK
                go_wp2_with fail
                refine HLn.mono ?_
                rintro e w3 ⟨rfl, rfl⟩
                clear HLn
                go_wp2_with fail
                refine (knownB_any w3).mono ?_
                rintro e wK ⟨rfl, bK⟩
                have BK : Hid (Below w.heap.size w wK) := HK2.out.bel.trans (bK.mono HK2.out.bel.size)
                clear bK
                go_wp2
                go_ret
                exact ⟨rfl, BK.out⟩
end Go.Proofs.YtabhgdmmljhpcabDoor
