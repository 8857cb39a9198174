/- RlogCompacts: the walk. -/
import Derived.Test.YtikedglcicgdhaaLLaw
namespace Go.Proofs.Ytikedglcicgdhaa
open Go.RowKit
attribute [local go_sem] Oper.semAt_some
set_option linter.unusedVariables false

theorem stand_comp (L : List EntV) (k : Nat) (t : Int) (ht : stand 0 0 L (k : Int) = some t) (hk : k ≤ L.length) (j : Nat) (hj : k + j ≤ L.length) : stand (k : Int) t (L.drop k) ((k + j : Nat) : Int) = stand 0 0 L ((k + j : Nat) : Int) := by
  cases j with
  | zero => rw [Nat.add_zero, ht, stand_base]
  | succ j =>
    rw [show ((k + (j + 1) : Nat) : Int) = (k : Int) + 1 + (j : Int) by omega, stand_entry (k : Int) t (L.drop k) j (by simp; omega), show (k : Int) + 1 + (j : Int) = 0 + 1 + ((k + j : Nat) : Int) by omega, stand_entry 0 0 L (k + j) (by omega)]
    simp
theorem last_comp (L : List EntV) (k : Nat) (t : Int) (ht : stand 0 0 L (k : Int) = some t) (hk : k ≤ L.length) : lastT t (L.drop k) = lastT 0 L := by
  have h1 := stand_last (k : Int) t (L.drop k)
  have h2 := stand_last 0 0 L
  have h3 := stand_comp L k t ht hk (L.length - k) (by omega)
  rw [List.length_drop, show (k : Int) + ((L.length - k : Nat) : Int) = ((k + (L.length - k) : Nat) : Int) by omega, h3] at h1
  rw [show (0 : Int) + (L.length : Int) = ((k + (L.length - k) : Nat) : Int) by omega] at h2
  rw [h1] at h2
  exact Option.some.inj h2
theorem part_comp (l : List Ent) (k j : Nat) (m : Int) : partL (k : Int) (l.drop k) ((k + j : Nat) + 1) m = partL 0 l ((k + j : Nat) + 1) m := by
  unfold partL
  by_cases hm : 0 < m
  · rw [if_pos ⟨hm, by omega⟩, if_pos ⟨hm, by omega⟩, List.drop_drop]
    congr 2
    omega
  · rw [if_neg (fun h => hm h.1), if_neg (fun h => hm h.1)]
theorem partL_len (B : Int) (l : List Ent) (at_ m : Int) : (partL B l at_ m).length ≤ l.length := by
  unfold partL
  split
  · simp
    omega
  · simp
theorem LogIn.keep2 {w w' : World} {base N : Nat} {B T : Int} {sv : Value} {L : List EntV} {b : Nat} (h : LogIn w base N B T sv L) (k : ∀ g, g < b → w'.heap[g]? = w.heap[g]?) (hN : N < b) (hs : ∀ y, sv.ownBlock = some y → y < b) (k8 : ∀ g, B8At w g → w'.heap[g]? = w.heap[g]?) : LogIn w' base N B T sv L :=
  { h with
    hN := (k N hN).trans h.hN
    row := owns_kept h.row (fun g e => k g (hs g e))
    dat := fun e he => (h.dat e he).keep k8 }
set_option maxRecDepth 100000 in
set_option maxHeartbeats 4000000 in
theorem rlogCompacts_any (a : Option Addr) (len cap : Nat) (l : List Ent) (at_ : Int) (w : World) (he : EntsAt w a len l) (hnil : a = none → cap = 0) (hm : len ≤ 4398046511104) (hlo : -9223372036854775808 ≤ at_) (hhi : at_ ≤ 9223372036854775807) :
    Calls Try.prog 4 #[.slice a len cap, .int .i64 at_] w fun e w' => e = .returned (.bool true) ∧ Below w.heap.size w w' := by
  have HN := new_any 0 0 (by omega) a len cap l w he hnil hm
  have HLN : Hid (len = l.length) := he.1
  have HHI : Hid (-9223372036854775808 ≤ at_ ∧ at_ ≤ 9223372036854775807) := ⟨hlo, hhi⟩
  clear he hnil hm hlo hhi
  go_enter Try.func4, Try.ntmps4
  go_wp2_with fail
  refine HN.mono ?_
  clear HN
  rintro e w1 ⟨b1, (⟨_, why, hwhy, rfl⟩ | ⟨_, _, hcan, rfl, sv, fs, f1, l1⟩)⟩
  · have hw0 : (why == 0) = false := by rcases hwhy with rfl | rfl <;> rfl
    have hw1 : (why != 0) = true := by rcases hwhy with rfl | rfl <;> rfl
    clear hwhy
    go_wp2_with fail
    refine (knownL_any w1).mono ?_
    rintro e w2 ⟨rfl, b2⟩
    go_wp2
    go_ret
    exact ⟨rfl, b1.trans (b2.mono b1.size)⟩
  by_cases h60 : 60 < len
  · go_wp2_with fail
    refine (knownL_any w1).mono ?_
    rintro e w2 ⟨rfl, b2⟩
    go_wp2
    go_ret
    exact ⟨rfl, b1.trans (b2.mono b1.size)⟩
  have q0 : ¬ 60 < len := h60
  have H60 : Hid (len ≤ 60) := by show _ ≤ _; omega
  obtain ⟨N, eN⟩ : ∃ N, w.heap.size = N := ⟨_, rfl⟩
  have EN : Hid (w.heap.size = N) := eN
  rw [eN] at l1
  rw [eN]
  have HFL : Hid (fs.length = len) := by
    show fs.length = len
    rw [HLN.out, ← f1, List.length_map]
  have L1 : Hid (LogIn w1 N N 0 0 sv fs) := l1
  have B1 : Hid (Below N w w1) := by rw [← eN]; exact b1
  have HCp := copy_any l1
  clear l1 f1 b1 eN hcan h60 HLN
  go_wp2_with fail
  refine HCp.mono ?_
  clear HCp
  rintro e w2 ⟨M, sw, rfl, lc, b2⟩
  have L2 : Hid (LogIn w2 N N 0 0 sv fs) := L1.out.below b2
  have B2 : Hid (Below N w w2) := B1.out.trans (b2.mono L1.out.size)
  have LC : Hid (LogIn w2 w1.heap.size M 0 0 sw fs) := lc
  have APT : Hid (N < w1.heap.size ∧ (∀ y, sv.ownBlock = some y → y < w1.heap.size) ∧ N ≤ w1.heap.size) := ⟨L1.out.ltN, fun y e => (row_kind L1.out.row e).2.1, L1.out.size⟩
  clear b2 B1 L1
  cases hs : stand 0 0 fs at_ with
  | none =>
    have HC := compact_none lc at_ HHI.out.2 hs
    have hout : at_ < 0 ∨ (len : Int) < at_ := by
      rcases stand_cases 0 0 fs at_ with ⟨_, h2⟩ | ⟨k, hk, _, h2⟩ | ⟨h2, _⟩
      · rw [hs] at h2; cases h2
      · rw [hs] at h2; cases h2
      · rw [HFL.out] at h2; omega
    clear hs lc
    go_wp2_with fail
    refine HC.mono ?_
    clear HC
    rintro e w3 ⟨rfl, b3⟩
    have B3 : Hid (Below N w w3) := B2.out.trans (b3.mono L2.out.size)
    clear b3
    by_cases hlt : at_ < 0
    · have q1 : decide (at_ < 0) = true := decide_eq_true hlt
      clear hout hlt
      go_wp2_with fail
      refine (knownL_any w3).mono ?_
      rintro e w4 ⟨rfl, b4⟩
      go_wp2
      go_ret
      exact ⟨rfl, by rw [EN.out]; exact B3.out.trans (b4.mono (by have := B3.out.size; rw [← EN.out]; exact this))⟩
    · have q1 : decide (at_ < 0) = false := decide_eq_false hlt
      have q3 : decide ((len : Int) < at_) = true := decide_eq_true (by omega)
      clear hout hlt
      go_wp2_with fail
      refine (knownL_any w3).mono ?_
      rintro e w4 ⟨rfl, b4⟩
      go_wp2
      go_ret
      exact ⟨rfl, by rw [EN.out]; exact B3.out.trans (b4.mono (by have := B3.out.size; rw [← EN.out]; exact this))⟩
  | some t =>
    obtain ⟨k, hk, hat⟩ : ∃ k : Nat, k ≤ len ∧ at_ = k := by
      rcases stand_cases 0 0 fs at_ with ⟨h2, _⟩ | ⟨j, hj, h2, _⟩ | ⟨_, h2⟩
      · exact ⟨0, Nat.zero_le _, h2⟩
      · rw [HFL.out] at hj
        exact ⟨j + 1, by omega, by omega⟩
      · rw [hs] at h2; cases h2
    subst hat
    have HC := compact_ok lc (k : Int) (by have := H60.out; omega) t hs
    rw [show ((k : Int) - 0).toNat = k by omega] at HC
    have HS : Hid (stand 0 0 fs (k : Int) = some t) := hs
    have HK : Hid (k ≤ len) := hk
    clear hs lc hk
    go_wp2_with fail
    refine HC.mono ?_
    clear HC
    rintro e w3 ⟨rfl, sx, l3, g3, _⟩
    have bC := LC.out.chg_below g3
    have L3 : Hid (LogIn w3 N N 0 0 sv fs) := L2.out.keep2 bC.block APT.out.1 APT.out.2.1 (LC.out.bytes g3)
    have M3 : Hid (LogIn w3 w1.heap.size M (k : Int) t sx (fs.drop k)) := l3
    have B3 : Hid (Below N w w3) := B2.out.trans (bC.mono APT.out.2.2)
    clear l3 g3 bC LC L2 B2
    go_wp2_with fail
    go_loopw [8] (fun i wr => ∃ (j : Nat), k + j ≤ len + 1 ∧ i = .int .i64 ((k + j : Nat) : Int) ∧ Hid (Below w3.heap.size w3 wr)) (fun i _ => len + 1 - (intOf i).toNat)
    case atStart => exact ⟨0, by have := HK.out; omega, by simp, Below.refl _ _⟩
    case round =>
      obtain ⟨j, hj, rfl, BW⟩ := hrel
      obtain ⟨m, em⟩ : ∃ m, k + j = m := ⟨_, rfl⟩
      have EM : Hid (k + j = m) := em
      rw [em] at hj
      rw [em]
      clear em
      by_cases hle : m ≤ len
      · obtain ⟨u, hu⟩ := stand_some 0 0 fs m (by rw [HFL.out]; exact hle)
        rw [Int.zero_add] at hu
        have hu2 : stand (k : Int) t (fs.drop k) (m : Int) = some u := by
          rw [← EM.out, stand_comp fs k t HS.out (by rw [HFL.out]; exact HK.out) j (by rw [HFL.out, EM.out]; exact hle), EM.out]
          exact hu
        have lg := L3.out.below BW.out
        have HT1 := term_some lg (m : Int) (by have := H60.out; omega) u hu
        have q1 : (m : Int) ≤ (len : Int) := by omega
        have q2 : m < 100 := by have := H60.out; omega
        clear hle hu
        go_wp2_with fail
        refine HT1.mono ?_
        clear HT1
        rintro e x1 ⟨rfl, y1⟩
        have lc1 := (M3.out.below BW.out).below y1
        have HT2 := term_some lc1 (m : Int) (by omega) u hu2
        go_wp2_with fail
        refine HT2.mono ?_
        clear HT2
        rintro e x2 ⟨rfl, y2⟩
        have lg2 := (lg.below y1).below y2
        have HP1 := part_any lg2 ((m : Int) + 1) 5 (by omega)
        clear hu2
        go_wp2_with fail
        refine HP1.mono ?_
        clear HP1
        rintro e x3 ⟨a3, c3, ps, rfl, f3, o3, d3, y3⟩
        have lc3 := (lc1.below y2).below y3
        have HP2 := part_any lc3 ((m : Int) + 1) 5 (by omega)
        have hpe : partL (k : Int) ((fs.drop k).map Prod.fst) ((m : Int) + 1) 5 = partL 0 (fs.map Prod.fst) ((m : Int) + 1) 5 := by
          rw [List.map_drop, ← EM.out]
          exact part_comp _ k j 5
        rw [hpe] at HP2
        obtain ⟨pp, epp⟩ : ∃ pp, partL 0 (fs.map Prod.fst) ((m : Int) + 1) 5 = pp := ⟨_, rfl⟩
        have HPP : Hid (pp.length ≤ len) := by
          show pp.length ≤ len
          rw [← epp, ← HFL.out]
          have := partL_len 0 (fs.map Prod.fst) ((m : Int) + 1) 5
          rwa [List.length_map] at this
        rw [epp] at HP2 f3 o3
        rw [epp]
        clear epp hpe lc1 lg2 lg
        go_wp2_with fail
        refine HP2.mono ?_
        clear HP2
        rintro e x4 ⟨a4, c4, qs, rfl, f4, o4, d4, y4⟩
        obtain ⟨o3', d3'⟩ := rows_below y4 o3 d3
        have e3 := rows_ents o3' (by rw [← f3, List.length_map]) d3'
        have e4 := rows_ents o4 (by rw [← f4, List.length_map]) d4
        rw [f3] at e3
        rw [f4] at e4
        have hpl : pp.length ≤ 140737488355328 := by
          have := HPP.out
          have := H60.out
          omega
        have HSm := sameEntries_any a3 a4 pp.length c3 pp.length c4 pp pp x4 e3 e4 hpl
        rw [decide_eq_true rfl] at HSm
        have B4 : Hid (Below w3.heap.size w3 x4) := ((((BW.out.trans (y1.mono BW.out.size)).trans (y2.mono (BW.out.trans (y1.mono BW.out.size)).size))).trans (y3.mono (((BW.out.trans (y1.mono BW.out.size)).trans (y2.mono (BW.out.trans (y1.mono BW.out.size)).size))).size)).trans (y4.mono ((((BW.out.trans (y1.mono BW.out.size)).trans (y2.mono (BW.out.trans (y1.mono BW.out.size)).size))).trans (y3.mono (((BW.out.trans (y1.mono BW.out.size)).trans (y2.mono (BW.out.trans (y1.mono BW.out.size)).size))).size)).size)
        clear o3 o4 d3 d4 f3 f4 e3 e4 o3' d3' hpl y1 y2 y3 y4 lc3 BW
        go_wp2_with fail
        refine HSm.mono ?_
        clear HSm
        rintro e x5 ⟨rfl, q, rfl⟩
        go_wp2
        go_roundw
        case rel => exact ⟨j + 1, by have := EM.out; omega, by have := EM.out; rw [show k + (j + 1) = m + 1 by omega]; go_num, below_drewN' B4.out q⟩
        case measure => simp only [intOf]; omega
      · obtain rfl : m = len + 1 := by omega
        have q1 : ¬ ((len + 1 : Nat) : Int) ≤ (len : Int) := by omega
        have lc1 := M3.out.below BW.out
        have HL1 := last_any lc1
        rw [List.length_drop, HFL.out, last_comp fs k t HS.out (by rw [HFL.out]; exact HK.out), show (k : Int) + ((len - k : Nat) : Int) = (len : Int) by have := HK.out; omega] at HL1
        clear hle lc1
        go_wp2_with fail
        refine HL1.mono ?_
        clear HL1
        rintro e x1 ⟨rfl, y1⟩
        have HL2 := last_any ((L3.out.below BW.out).below y1)
        rw [HFL.out, Int.zero_add] at HL2
        go_wp2_with fail
        refine HL2.mono ?_
        clear HL2
        rintro e x2 ⟨rfl, y2⟩
        go_wp2_with fail
        refine (knownL_any x2).mono ?_
        rintro e x3 ⟨rfl, y3⟩
        go_wp2
        go_ret
        have z1 := BW.out.trans (y1.mono BW.out.size)
        have z2 := z1.trans (y2.mono z1.size)
        have z3 := z2.trans (y3.mono z2.size)
        exact ⟨rfl, by rw [EN.out]; exact B3.out.trans (z3.mono (by have := B3.out.size; rw [← EN.out]; exact this))⟩
end Go.Proofs.Ytikedglcicgdhaa
