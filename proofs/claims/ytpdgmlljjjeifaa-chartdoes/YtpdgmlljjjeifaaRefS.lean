/- What Lent, Kept and Spoil of the first layer's reference do. -/
import Derived.Test.YtpdgmlljjjeifaaRefW
import Derived.Test.YtpdgmlljjjeifaaMsg
import Derived.Laws.OwnMore
namespace Go.Proofs.Ytpdgmlljjjeifaa
open Go.RowKit Cod
set_option linter.unusedVariables false

theorem cellsOf_set (l : List (BitVec 8)) (j : Nat) (c : BitVec 8) : (cellsOf l).set j (.int .u8 (V c)) = cellsOf (l.set j c) := by simp [cellsOf, List.map_set]
set_option maxRecDepth 100000 in
set_option maxHeartbeats 1600000 in
theorem spoil_any (base : Nat) (v : Value) (n : Nat) (l : List (BitVec 8)) (w : World) (ho : w.ownsRow base 5 1 v n (cellsOf l)) (hbase : base ≤ w.heap.size) (hm : n + 1 ≤ 140737488355328) :
    Calls Try.prog 32 #[v] w fun e w' => (∃ u, e = .returned u) ∧ Below base w w' := by
  obtain ⟨va, vc, rfl, hvn⟩ := owned_form ho
  have HO : Hid (w.ownsRow base 5 1 (.slice va n vc) n (cellsOf l)) := ho
  have HBs : Hid _ := hbase
  have HM : Hid _ := hm
  have HL : Hid (l.length = n) := by have := ho.1; rw [cellsOf_length] at this; show _ = _; omega
  clear ho hbase hm hvn
  go_enter Try.func32, Try.ntmps32
  go_wp2
  go_loopw [2] (fun i wr => ∃ (k : Nat) (l' : List (BitVec 8)), k ≤ n ∧ i = .int .i64 k ∧ l'.length = n ∧ wr.ownsRow base 5 1 (.slice va n vc) n (cellsOf l') ∧ Below base w wr) (fun i _ => n - (intOf i).toNat)
  case atStart => exact ⟨0, l, Nat.zero_le _, rfl, HL.out, HO.out, Below.refl _ _⟩
  case round =>
    obtain ⟨k, l', hk, rfl, hl', ho, hb⟩ := hrel
    by_cases hlt : k < n
    · obtain ⟨g, c, e, hg1, hg2⟩ := ho.form (by omega)
      cases e
      have hcell : wr.cell? ⟨g, k, none⟩ = (cellsOf l')[k]? := ho.cellAt k (by omega)
      have hc2 : wr.cell? ⟨g, k, none⟩ = some (.int .u8 (V (l'.getD k 0#8))) := by rw [hcell]; simp [cellsOf, hl', hlt]
      have hfr := ho.frozenAt k
      have hst := (ho.stored k (.int .u8 (V 90#8))).1
      rw [cellsOf_set, show V 90#8 = 90 from rfl] at hst
      have HS : Hid _ := hst
      have HB : Hid (Below base w (wr.setCell ⟨g, k, none⟩ (.int .u8 90))) := hb.setCell (by show base ≤ g; exact hg1) _
      have HLS : Hid ((l'.set k 90#8).length = n) := by show _ = _; simpa using hl'
      have hm' := HM.out
      have hlt' : (k : Int) < n := by omega
      clear ho hb hcell hst hl'
      go_wp2
      go_roundw
      case rel => exact ⟨k + 1, l'.set k 90#8, by omega, by go_num, HLS.out, HS.out, HB.out⟩
      case measure => simp only [intOf]; omega
    · obtain rfl : k = n := by omega
      obtain ⟨v2, w2, hr2, o2, b2, _⟩ := append_one wr base (.slice va k vc) k l' ho 91#8 HM.out (Nat.le_trans HBs.out hb.size)
      rw [show V 91#8 = 91 from rfl] at hr2
      obtain ⟨g, c, rfl, hg1, hg2⟩ := o2.form (by omega)
      have hc2 : w2.cell? ⟨g, k, none⟩ = some (.int .u8 91) := by
        rw [o2.cellAt k (by omega)]
        simp [cellsOf, hl']
        rfl
      have hfr := o2.frozenAt k
      have HR : Hid _ := hr2
      have HB : Hid (Below base w (w2.setCell ⟨g, k, none⟩ (.int .u8 92))) := (hb.trans b2).setCell (by show base ≤ g; exact hg1) _
      have hm' := HM.out
      have hw : IntKind.i64.wrap ((k : Int) + 1 - 1) = k := by rw [IntKind.wrap_i64]; omega
      clear hr2 o2 b2 ho hb hl'
      go_wp2_with (at_builtin; refine wpList_append_known rfl (.tmp 12) (.tmp 13) 47 47 rfl _ _ rfl rfl _ _ HR.out ?_)
      exact bodyPost_end (results_none rfl _ _ _) rfl ⟨⟨_, rfl⟩, HB.out⟩
end Go.Proofs.Ytpdgmlljjjeifaa
