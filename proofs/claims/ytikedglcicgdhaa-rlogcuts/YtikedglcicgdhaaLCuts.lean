/- RlogCuts: the walk. -/
import Derived.Test.YtikedglcicgdhaaLLaw
namespace Go.Proofs.Ytikedglcicgdhaa
open Go.RowKit
attribute [local go_sem] Oper.semAt_some
set_option linter.unusedVariables false

set_option maxRecDepth 100000 in
set_option maxHeartbeats 4000000 in
theorem rlogCuts_any (a : Option Addr) (len cap : Nat) (l : List Ent) (at_ : Int) (w : World) (he : EntsAt w a len l) (hnil : a = none → cap = 0) (hm : len ≤ 4398046511104) (hlo : -9223372036854775808 ≤ at_) (hhi : at_ ≤ 9223372036854775807) :
    Calls Try.prog 7 #[.slice a len cap, .int .i64 at_] w fun e w' => e = .returned (.bool true) ∧ Below w.heap.size w w' := by
  have HN := new_any 0 0 (by omega) a len cap l w he hnil hm
  have HE : Hid (EntsAt w a len l) := he
  have HLN : Hid (len = l.length) := he.1
  have HM : Hid (len ≤ 4398046511104) := hm
  have HHI : Hid (-9223372036854775808 ≤ at_ ∧ at_ ≤ 9223372036854775807) := ⟨hlo, hhi⟩
  clear he hnil hm hlo hhi
  go_enter Try.func7, Try.ntmps7
  go_wp2_with fail
  refine HN.mono ?_
  clear HN
  rintro e w1 ⟨b1, (⟨_, why, hwhy, rfl⟩ | ⟨_, _, hcan, rfl, sv, fs, f1, l1⟩)⟩
  · have hw0 : (why == 0) = false := by rcases hwhy with rfl | rfl <;> rfl
    have hw1 : (why != 0) = true := by rcases hwhy with rfl | rfl <;> rfl
    clear hwhy
    go_wp2_with fail
    refine (knownL_any w1).mono ?_
    rintro e w2 ⟨rfl, b2⟩
    go_wp2
    go_ret
    exact ⟨rfl, b1.trans (b2.mono b1.size)⟩
  by_cases h60 : 60 < len
  · have q0 : decide ((60 : Int) < (len : Int)) = true := decide_eq_true (by omega)
    go_wp2_with fail
    refine (knownL_any w1).mono ?_
    rintro e w2 ⟨rfl, b2⟩
    go_wp2
    go_ret
    exact ⟨rfl, b1.trans (b2.mono b1.size)⟩
  have q0 : ¬ 60 < len := h60
  have H60 : Hid (len ≤ 60) := by show _ ≤ _; omega
  obtain ⟨N, eN⟩ : ∃ N, w.heap.size = N := ⟨_, rfl⟩
  have EN : Hid (w.heap.size = N) := eN
  rw [eN] at l1
  rw [eN]
  have HFL : Hid (fs.length = len) := by
    show fs.length = len
    rw [HLN.out, ← f1, List.length_map]
  have F1 : Hid (fs.map Prod.fst = l) := f1
  have L1 : Hid (LogIn w1 N N 0 0 sv fs) := l1
  have B1 : Hid (Below N w w1) := by rw [← eN]; exact b1
  have HCAN : Hid (canBehind (max 0 1) l = true) := hcan
  have HP := part_any l1 at_ 99 HHI.out.2
  rw [f1] at HP
  clear l1 f1 b1 eN hcan h60
  go_wp2_with fail
  refine HP.mono ?_
  clear HP
  rintro e w2 ⟨a2, c2, ps, rfl, f2, o2, d2, b2⟩
  have L2 : Hid (LogIn w2 N N 0 0 sv fs) := L1.out.below b2
  have B2 : Hid (Below N w w2) := B1.out.trans (b2.mono L1.out.size)
  have hcut : (at_ ≤ 0 ∨ (len : Int) + 1 < at_) ∨ ∃ k : Nat, k ≤ len ∧ at_ = 0 + 1 + (k : Int) := by
    by_cases h : 1 ≤ at_ ∧ at_ ≤ (len : Int) + 1
    · exact .inr ⟨(at_ - 1).toNat, by omega, by omega⟩
    · exact .inl (by omega)
  rcases hcut with hcut | ⟨k, hk, hat⟩
  · have HC := cut_no L2.out at_ (by rw [HFL.out]; omega)
    clear o2 d2 f2 b2
    go_wp2_with fail
    refine HC.mono ?_
    clear HC
    rintro e w3 ⟨rfl, b3⟩
    have B3 : Hid (Below N w w3) := B2.out.trans (b3.mono L2.out.size)
    clear b3
    by_cases hlt : at_ < 1
    · have q1 : decide (at_ < 1) = true := decide_eq_true hlt
      clear hcut hlt
      go_wp2_with fail
      refine (knownL_any w3).mono ?_
      rintro e w4 ⟨rfl, b4⟩
      go_wp2
      go_ret
      exact ⟨rfl, by rw [EN.out]; exact B3.out.trans (b4.mono (by have := B3.out.size; rw [← EN.out]; exact this))⟩
    · have q1 : decide (at_ < 1) = false := decide_eq_false hlt
      have q2 : wrap64 ((len : Int) + 1) = ((len + 1 : Nat) : Int) := by unfold wrap64; have := H60.out; omega
      have q3 : decide (((len + 1 : Nat) : Int) < at_) = true := decide_eq_true (by omega)
      have q3' : decide ((len : Int) + 1 < at_) = true := decide_eq_true (by omega)
      clear hcut hlt
      go_wp2_with fail
      refine (knownL_any w3).mono ?_
      rintro e w4 ⟨rfl, b4⟩
      go_wp2
      go_ret
      exact ⟨rfl, by rw [EN.out]; exact B3.out.trans (b4.mono (by have := B3.out.size; rw [← EN.out]; exact this))⟩
  · have HC := cut_ok L2.out at_ k (by rw [HFL.out]; exact hk) hat
    have hpl : partL 0 l at_ 99 = l.drop k := by rw [hat]; exact partL_all l 0 (by rw [← HLN.out]; have := H60.out; omega) k
    rw [hpl] at o2 f2
    rw [hpl]
    have hdl : (l.drop k).length = len - k := by rw [List.length_drop, ← HLN.out]
    rw [hdl] at o2
    rw [hdl]
    have O2 : Hid (w2.ownsRow w1.heap.size 50 2 (.slice a2 (len - k) c2) (len - k) (entCells ps)) := o2
    have D2 : Hid (∀ e ∈ ps, DataAt w2 e.2 e.1.2) := d2
    have F2 : Hid (ps.map Prod.fst = l.drop k ∧ ps.length = len - k) := ⟨f2, by rw [← hdl, ← f2, List.length_map]⟩
    have HK : Hid (k ≤ len) := hk
    have q1 : wrap64 (at_ - 1) = (k : Int) := by unfold wrap64; have := H60.out; omega
    have LT1 : Hid (N < w1.heap.size ∧ ∀ y, sv.ownBlock = some y → y < w1.heap.size) := ⟨L1.out.ltN, fun y e => (row_kind L1.out.row e).2.1⟩
    clear o2 d2 f2 b2 hat hk hdl hpl
    go_wp2_with fail
    refine HC.mono ?_
    clear HC
    rintro e w3 ⟨rfl, sv3, l3, g3, s3⟩
    obtain ⟨o3, d3⟩ := rows_chg L2.out g3 LT1.out.1 LT1.out.2 O2.out D2.out
    have B3 : Hid (Below N w w3) := B2.out.trans (L2.out.chg_below g3)
    have hlk : (fs.take k).length = k := by rw [List.length_take, HFL.out]; have := HK.out; omega
    have HLen := len_any l3
    rw [hlk] at HLen
    have L3 : Hid (LogIn w3 N N 0 0 sv3 (fs.take k)) := l3
    obtain ⟨k1, k2, k3, k4⟩ := args_apart l3 LT1.out.1 (fun y e => LT1.out.2 y (by rw [← s3]; exact e)) o3 F2.out.2 d3
    rw [F2.out.1] at k1
    have HA := append_any l3 (by unfold canBase; omega) a2 (len - k) c2 (l.drop k) k1 k2 (by have := H60.out; omega)
    rw [hlk] at HA
    have hlt : lastT 0 (fs.take k) = endT 0 (l.take k) := by rw [lastT_map, List.map_take, F1.out]
    rw [hlt] at HA
    have HDL : Hid ((l.drop k).length = len - k) := by show _ = _; rw [List.length_drop, ← HLN.out]
    clear o3 d3 g3 l3 k1 k2 k3 k4 hlk hlt s3 O2 D2 L2 B2
    go_wp2_with fail
    refine HLen.mono ?_
    clear HLen
    rintro e w4 ⟨rfl, rfl⟩
    go_wp2_with fail
    refine HA.mono ?_
    clear HA
    rintro e w5 (⟨y1, _⟩ | ⟨_, y1, _⟩ | ⟨_, _, rfl, sv5, gs, l5, f5, g5, _⟩)
    · exact absurd y1 (by rw [HDL.out]; have := H60.out; have := HK.out; omega)
    · rw [canBehind_rest 0 l k HCAN.out] at y1
      exact Bool.noConfusion y1
    · have B5 : Hid (Below N w w5) := B3.out.trans (L3.out.chg_below g5)
      have hall : ((fs.take k).take k ++ gs).map Prod.fst = l := by
        rw [List.map_append, List.take_take, Nat.min_self, List.map_take, F1.out, f5, List.take_append_drop]
      have HP := part_any l5 1 99 (by omega)
      rw [hall] at HP
      have hpl : partL 0 l 1 99 = l := by
        have := partL_all l 0 (by rw [← HLN.out]; have := H60.out; omega) 0
        simpa using this
      rw [hpl] at HP
      have L5 : Hid (N ≤ w5.heap.size) := l5.size
      clear l5 f5 g5 hall hpl L3 B3
      go_wp2_with fail
      refine HP.mono ?_
      clear HP
      rintro e w6 ⟨a6, c6, qs, rfl, f6, o6, d6, b6⟩
      have B6 : Hid (Below N w w6) := B5.out.trans (b6.mono L5.out)
      have hql : qs.length = l.length := by rw [← f6, List.length_map]
      have e6 := rows_ents o6 hql d6
      rw [f6] at e6
      rw [← HLN.out] at e6
      rw [← HLN.out]
      have HS := sameEntries_any a6 a len c6 len cap l l w6 e6 (HE.out.below (by rw [EN.out]; exact B6.out)) (by have := H60.out; omega)
      rw [decide_eq_true rfl] at HS
      clear f6 o6 d6 b6 hql e6 B5
      go_wp2_with fail
      refine HS.mono ?_
      clear HS
      rintro e w7 ⟨rfl, q, rfl⟩
      go_wp2_with fail
      refine (knownL_any _).mono ?_
      rintro e w8 ⟨rfl, b8⟩
      go_wp2
      go_ret
      have b7 : Below N w (w6.drewN q) := below_drewN' B6.out q
      exact ⟨rfl, by rw [EN.out]; exact b7.trans (b8.mono (by have := b7.size; rw [← EN.out]; exact this))⟩
end Go.Proofs.Ytikedglcicgdhaa
