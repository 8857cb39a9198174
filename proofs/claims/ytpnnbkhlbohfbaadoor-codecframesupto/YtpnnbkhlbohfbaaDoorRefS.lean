/- What Lent, Kept and Spoil of the first layer's reference do. -/
import Derived.Test.YtpnnbkhlbohfbaaDoorRefW
import Derived.Test.YtpnnbkhlbohfbaaDoorMsg
import Derived.Laws.OwnMore
namespace Go.Proofs.YtpnnbkhlbohfbaaDoor
open Go.RowKit Cod
set_option linter.unusedVariables false

theorem cellsOf_set (l : List (BitVec 8)) (j : Nat) (c : BitVec 8) : (cellsOf l).set j (.int .u8 (V c)) = cellsOf (l.set j c) := by simp [cellsOf, List.map_set]
set_option maxRecDepth 100000 in
set_option maxHeartbeats 800000 in
theorem lent_any (a : Option Addr) (len cap : Nat) (l : List (BitVec 8)) (w : World) (h : Seen w a len l) (hnil : a = none → cap = 0) (hm : len + 1 ≤ 140737488355328) :
    Calls Tryd.prog 4 #[.slice a len cap] w fun e w' => ∃ g c, e = .returned (.slice (some ⟨g, 0, none⟩) len c) ∧ w'.ownsRow w.heap.size 5 1 (.slice (some ⟨g, 0, none⟩) (len + 1) c) (len + 1) (cellsOf (l ++ [167#8])) ∧ Below w.heap.size w w' := by
  obtain ⟨v1, w1, hr1, o1, g1⟩ := run_append_bytes 22 w w.heap.size (.slice none 0 0) 0 [] (World.ownsRow_nil _ _ _ _) a len cap l h hnil (by omega) (Nat.le_refl _)
  rw [List.nil_append, Nat.zero_add] at o1
  have b1 : Below w.heap.size w w1 := (Below.refl _ w).grown g1 (Nat.le_refl _) (fun k e => by cases e)
  obtain ⟨v2, w2, hr2, o2, b2, _⟩ := append_one w1 w.heap.size v1 len l o1 167#8 (by omega) b1.size
  rw [show V 167#8 = 167 from rfl] at hr2
  obtain ⟨g, c, rfl, hg1, hg2⟩ := o2.form (by omega)
  have hcap : len + 1 ≤ c := by
    rcases o2.2 with ⟨e, _⟩ | ⟨g', c', cur, e, _, _, hnc, _⟩
    · cases e
    · cases e
      exact hnc
  have HR1 : Hid _ := hr1
  have HR2 : Hid _ := hr2
  have O2 : Hid (w2.ownsRow w.heap.size 5 1 (.slice (some ⟨g, 0, none⟩) (len + 1) c) (len + 1) (cellsOf (l ++ [167#8]))) := o2
  have B2 : Hid (Below w.heap.size w w2) := b1.trans b2
  have hlc : len ≤ c := by omega
  clear h hnil hm hr1 hr2 o1 g1 b1 o2 b2 hg1 hg2 hcap
  go_enter Tryd.func4, Tryd.ntmps4
  go_wp2_with (first
    | (at_builtin; refine wpList_append_known rfl (.tmp 4) (.tmp 5) 22 22 rfl _ _ rfl rfl _ _ HR1.out ?_)
    | (at_builtin; refine wpList_append_known rfl (.tmp 7) (.tmp 8) 22 22 rfl _ _ rfl rfl _ _ HR2.out ?_))
  go_ret
  exact ⟨g, c, rfl, O2.out, B2.out⟩
set_option maxRecDepth 100000 in
set_option maxHeartbeats 800000 in
theorem kept_any (g c len : Nat) (l : List (BitVec 8)) (b : Option Addr) (cap : Nat) (w : World) (base : Nat) (ho : w.ownsRow base 5 1 (.slice (some ⟨g, 0, none⟩) (len + 1) c) (len + 1) (cellsOf (l ++ [167#8]))) (hb : Seen w b len l) (hm : len + 1 ≤ 140737488355328) :
    Calls Tryd.prog 14 #[.slice (some ⟨g, 0, none⟩) len c, .slice b len cap] w fun e w' => e = .returned (.bool true) ∧ w' = w := by
  obtain rfl : len = l.length := hb.1
  obtain ⟨a', c', e', s', _, hcap⟩ := owned_seen ho (by unfold maxLen; omega)
  cases e'
  have s1 : Seen w (some ⟨g, 0, none⟩) l.length l := by
    have := s'.take l.length (by simp)
    rwa [List.take_left] at this
  have t1 : (convert 22 9 (.slice (some ⟨g, 0, none⟩) l.length c)).run Tryd.prog w = .ok (.string (textOf l)) w := run_to_text w _ _ c l s1
  have t2 : (convert 22 9 (.slice b l.length cap)).run Tryd.prog w = .ok (.string (textOf l)) w := run_to_text w b _ cap l hb
  have hs : ((textOf l).toList == (textOf l).toList) = true := by simp
  have hcell : w.cell? ⟨g, l.length, none⟩ = some (.int .u8 167) := by
    have := ho.cellAt l.length (by omega)
    rw [this]
    simp [cellsOf]
    rfl
  generalize textOf l = tl at *
  have hlen : l.length ≤ 140737488355327 := by omega
  have hlc : l.length + 1 ≤ c := hcap
  generalize l.length = n at *
  clear ho hb hm s' s1 hcap
  go_enter Tryd.func14, Tryd.ntmps14
  go_wp2
  go_ret
  exact ⟨rfl, rfl⟩
set_option maxRecDepth 100000 in
set_option maxHeartbeats 1600000 in
theorem spoil_any (base : Nat) (v : Value) (n : Nat) (l : List (BitVec 8)) (w : World) (ho : w.ownsRow base 5 1 v n (cellsOf l)) (hbase : base ≤ w.heap.size) (hm : n + 1 ≤ 140737488355328) :
    Calls Tryd.prog 10 #[v] w fun e w' => (∃ u, e = .returned u) ∧ Below base w w' := by
  obtain ⟨va, vc, rfl, hvn⟩ := owned_form ho
  have HO : Hid (w.ownsRow base 5 1 (.slice va n vc) n (cellsOf l)) := ho
  have HBs : Hid _ := hbase
  have HM : Hid _ := hm
  have HL : Hid (l.length = n) := by have := ho.1; rw [cellsOf_length] at this; show _ = _; omega
  clear ho hbase hm hvn
  go_enter Tryd.func10, Tryd.ntmps10
  go_wp2
  go_loopw [2] (fun i wr => ∃ (k : Nat) (l' : List (BitVec 8)), k ≤ n ∧ i = .int .i64 k ∧ l'.length = n ∧ wr.ownsRow base 5 1 (.slice va n vc) n (cellsOf l') ∧ Below base w wr) (fun i _ => n - (intOf i).toNat)
  case atStart => exact ⟨0, l, Nat.zero_le _, rfl, HL.out, HO.out, Below.refl _ _⟩
  case round =>
    obtain ⟨k, l', hk, rfl, hl', ho, hb⟩ := hrel
    by_cases hlt : k < n
    · obtain ⟨g, c, e, hg1, hg2⟩ := ho.form (by omega)
      cases e
      have hcell : wr.cell? ⟨g, k, none⟩ = (cellsOf l')[k]? := ho.cellAt k (by omega)
      have hc2 : wr.cell? ⟨g, k, none⟩ = some (.int .u8 (V (l'.getD k 0#8))) := by rw [hcell]; simp [cellsOf, hl', hlt]
      have hfr := ho.frozenAt k
      have hst := (ho.stored k (.int .u8 (V 90#8))).1
      rw [cellsOf_set, show V 90#8 = 90 from rfl] at hst
      have HS : Hid _ := hst
      have HB : Hid (Below base w (wr.setCell ⟨g, k, none⟩ (.int .u8 90))) := hb.setCell (by show base ≤ g; exact hg1) _
      have HLS : Hid ((l'.set k 90#8).length = n) := by show _ = _; simpa using hl'
      have hm' := HM.out
      have hlt' : (k : Int) < n := by omega
      clear ho hb hcell hst hl'
      go_wp2
      go_roundw
      case rel => exact ⟨k + 1, l'.set k 90#8, by omega, by go_num, HLS.out, HS.out, HB.out⟩
      case measure => simp only [intOf]; omega
    · obtain rfl : k = n := by omega
      obtain ⟨v2, w2, hr2, o2, b2, _⟩ := append_one wr base (.slice va k vc) k l' ho 91#8 HM.out (Nat.le_trans HBs.out hb.size)
      rw [show V 91#8 = 91 from rfl] at hr2
      obtain ⟨g, c, rfl, hg1, hg2⟩ := o2.form (by omega)
      have hc2 : w2.cell? ⟨g, k, none⟩ = some (.int .u8 91) := by
        rw [o2.cellAt k (by omega)]
        simp [cellsOf, hl']
        rfl
      have hfr := o2.frozenAt k
      have HR : Hid _ := hr2
      have HB : Hid (Below base w (w2.setCell ⟨g, k, none⟩ (.int .u8 92))) := (hb.trans b2).setCell (by show base ≤ g; exact hg1) _
      have hm' := HM.out
      have hw : IntKind.i64.wrap ((k : Int) + 1 - 1) = k := by rw [IntKind.wrap_i64]; omega
      clear hr2 o2 b2 ho hb hl'
      go_wp2_with (at_builtin; refine wpList_append_known rfl (.tmp 12) (.tmp 13) 22 22 rfl _ _ rfl rfl _ _ HR.out ?_)
      exact bodyPost_end (results_none rfl _ _ _) rfl ⟨⟨_, rfl⟩, HB.out⟩
end Go.Proofs.YtpnnbkhlbohfbaaDoor
