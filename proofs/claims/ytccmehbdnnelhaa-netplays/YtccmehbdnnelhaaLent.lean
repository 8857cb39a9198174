/- Lent, Kept and Spoil of the first layer's reference. -/
import Derived.Test.YtccmehbdnnelhaaText
import Derived.Test.YtccmehbdnnelhaaClone
import Derived.Laws.OwnMore
import Derived.Laws.AppendOwnNone
import Derived.Maps.AppendAt
import Derived.Deep.AppendLies
namespace Go.Proofs.Ytccmehbdnnelhaa
open Go.RowKit
set_option linter.unusedVariables false

theorem owned_form {w : World} {base n : Nat} {v : Value} {xs : List Value} (h : w.ownsRow base 5 1 v n xs) : ∃ a c, v = .slice a n c ∧ (a = none → c = 0) := by
  rcases h.2 with ⟨rfl, rfl⟩ | ⟨g, c, cur, rfl, _⟩
  · exact ⟨none, 0, rfl, fun _ => rfl⟩
  · exact ⟨_, c, rfl, fun e => by cases e⟩
theorem grown_refl (w : World) (row : Option Nat) : w.grownBy w row := ⟨rfl, rfl, rfl, Nat.le_refl _, fun _ _ _ => rfl⟩
theorem grown_alloc {w w' : World} {row : Option Nat} (h : w.grownBy w' row) (o : Obj) : w.grownBy (w'.alloc o) row :=
  ⟨h.os, h.tape, h.output, by have := h.size; simp; omega, fun k hk hr => by rw [Below.heap_alloc w' o k (by have := h.size; omega)]; exact h.block k hk hr⟩
theorem append_byte (w : World) (base : Nat) (v : Value) (n : Nat) (l : List (BitVec 8)) (hown : w.ownsRow base 5 1 v n (cellsOf l)) (c : BitVec 8) (hb : n + 1 ≤ 140737488355328) (hbase : base ≤ w.heap.size) :
    ∃ v' w', (Builtin.append_ #[30, 30] 30 #[v, .slice (some ⟨w.heap.size, 0, none⟩) 1 1]).run Try.prog (w.alloc (.cells #[.int .u8 (V c)] 5)) = .ok v' w' ∧ w'.ownsRow base 5 1 v' (n + 1) (cellsOf (l ++ [c])) ∧ Below base w w' := by
  obtain ⟨v', w', hr, h1, h2⟩ := run_append_bytes 30 (w.alloc (.cells #[.int .u8 (V c)] 5)) base v n l (hown.alloc _) (some ⟨w.heap.size, 0, none⟩) 1 1 [c] (seen_new w [c] 5 (0, 0) (by simp [maxLen])) (fun e => by cases e) hb (by simp; omega)
  exact ⟨v', w', hr, h1, ((Below.refl _ w).alloc hbase _).grown h2 (by simp; omega) (fun k e => (hown.lt _ e).1)⟩
theorem cellsOf_set (l : List (BitVec 8)) (j : Nat) (c : BitVec 8) : (cellsOf l).set j (.int .u8 (V c)) = cellsOf (l.set j c) := by simp [cellsOf, List.map_set]
set_option maxRecDepth 100000 in
set_option maxHeartbeats 800000 in
theorem lent_any (a : Option Addr) (len cap : Nat) (l : List (BitVec 8)) (w : World) (h : Seen w a len l) (hnil : a = none → cap = 0) (hm : len + 1 ≤ 140737488355328) :
    Calls Try.prog 8 #[.slice a len cap] w fun e w' => ∃ g c, e = .returned (.slice (some ⟨g, 0, none⟩) len c) ∧ w'.ownsRow w.heap.size 5 1 (.slice (some ⟨g, 0, none⟩) (len + 1) c) (len + 1) (cellsOf (l ++ [167#8])) ∧ Below w.heap.size w w' := by
  obtain ⟨v1, w1, hr1, o1, g1⟩ := run_append_bytes 30 w w.heap.size (.slice none 0 0) 0 [] (World.ownsRow_nil _ _ _ _) a len cap l h hnil (by omega) (Nat.le_refl _)
  rw [List.nil_append, Nat.zero_add] at o1
  have b1 : Below w.heap.size w w1 := (Below.refl _ w).grown g1 (Nat.le_refl _) (fun k e => by cases e)
  obtain ⟨v2, w2, hr2, o2, b2⟩ := append_byte w1 w.heap.size v1 len l o1 167#8 (by omega) b1.size
  rw [show V 167#8 = 167 from rfl] at hr2
  obtain ⟨g, c, rfl, hg1, hg2⟩ := o2.form (by omega)
  have hcap : len + 1 ≤ c := by
    rcases o2.2 with ⟨e, _⟩ | ⟨g', c', cur, e, _, _, hnc, _⟩
    · cases e
    · cases e
      exact hnc
  have HR1 : Hid _ := hr1
  have HR2 : Hid _ := hr2
  have O2 : Hid (w2.ownsRow w.heap.size 5 1 (.slice (some ⟨g, 0, none⟩) (len + 1) c) (len + 1) (cellsOf (l ++ [167#8]))) := o2
  have B2 : Hid (Below w.heap.size w w2) := b1.trans b2
  have hlc : len ≤ c := by omega
  clear h hnil hm hr1 hr2 o1 g1 b1 o2 b2 hg1 hg2 hcap
  go_enter Try.func8, Try.ntmps8
  go_wp2_with (first
    | (at_builtin; refine wpList_append_known rfl (.tmp 4) (.tmp 5) 30 30 rfl _ _ rfl rfl _ _ HR1.out ?_)
    | (at_builtin; refine wpList_append_known rfl (.tmp 7) (.tmp 8) 30 30 rfl _ _ rfl rfl _ _ HR2.out ?_))
  go_ret
  exact ⟨g, c, rfl, O2.out, B2.out⟩
set_option maxRecDepth 100000 in
set_option maxHeartbeats 800000 in
theorem kept_any (g c len : Nat) (l : List (BitVec 8)) (b : Option Addr) (cap : Nat) (w : World) (base : Nat) (ho : w.ownsRow base 5 1 (.slice (some ⟨g, 0, none⟩) (len + 1) c) (len + 1) (cellsOf (l ++ [167#8]))) (hb : Seen w b len l) (hm : len + 1 ≤ 140737488355328) :
    Calls Try.prog 10 #[.slice (some ⟨g, 0, none⟩) len c, .slice b len cap] w fun e w' => e = .returned (.bool true) ∧ w' = w := by
  obtain rfl : len = l.length := hb.1
  obtain ⟨a', c', e', s', _, hcap⟩ := owned_seen ho (by unfold maxLen; omega)
  cases e'
  have s1 : Seen w (some ⟨g, 0, none⟩) l.length l := by
    have := s'.take l.length (by simp)
    rwa [List.take_left] at this
  have t1 : (convert 30 9 (.slice (some ⟨g, 0, none⟩) l.length c)).run Try.prog w = .ok (.string (textOf l)) w := run_to_text w _ _ c l s1
  have t2 : (convert 30 9 (.slice b l.length cap)).run Try.prog w = .ok (.string (textOf l)) w := run_to_text w b _ cap l hb
  have hs : ((textOf l).toList == (textOf l).toList) = true := by simp
  have hcell : w.cell? ⟨g, l.length, none⟩ = some (.int .u8 167) := by
    have := ho.cellAt l.length (by omega)
    rw [this]
    simp [cellsOf]
    rfl
  generalize textOf l = tl at *
  have hlen : l.length ≤ 140737488355327 := by omega
  have hlc : l.length + 1 ≤ c := hcap
  generalize l.length = n at *
  clear ho hb hm s' s1 hcap
  go_enter Try.func10, Try.ntmps10
  go_wp2
  go_ret
  exact ⟨rfl, rfl⟩
theorem grown_at {w w' : World} {row : Option Nat} (h : w.grownBy w' row) (g : Nat) (j : Nat) (u : Value) (hg : row = some g ∨ w.heap.size ≤ g) : w.grownBy (w'.setCell ⟨g, j, none⟩ u) row :=
  ⟨h.os, h.tape, h.output, by simpa [World.setCell] using h.size, fun k hk hr => by
    rw [Below.heap_setCell _ _ _ k (fun e => by
      have e' : k = g := e
      subst e'
      rcases hg with hg | hg
      · exact hr hg.symm
      · omega)]
    exact h.block k hk hr⟩
set_option maxRecDepth 100000 in
set_option maxHeartbeats 1600000 in
theorem spoil_row (base : Nat) (v : Value) (n : Nat) (l : List (BitVec 8)) (w : World) (ho : w.ownsRow base 5 1 v n (cellsOf l)) (hbase : base ≤ w.heap.size) (hm : n + 1 ≤ 140737488355328) :
    Calls Try.prog 12 #[v] w fun e w' => (∃ u, e = .returned u) ∧ w.grownBy w' v.ownBlock := by
  obtain ⟨va, vc, rfl, hvn⟩ := owned_form ho
  have HO : Hid (w.ownsRow base 5 1 (.slice va n vc) n (cellsOf l)) := ho
  have HBs : Hid _ := hbase
  have HM : Hid _ := hm
  have HL : Hid (l.length = n) := by have := ho.1; rw [cellsOf_length] at this; show _ = _; omega
  clear ho hbase hm hvn
  go_enter Try.func12, Try.ntmps12
  go_wp2
  go_loopw [2] (fun i wr => ∃ (k : Nat) (l' : List (BitVec 8)), k ≤ n ∧ i = .int .i64 k ∧ l'.length = n ∧ wr.ownsRow base 5 1 (.slice va n vc) n (cellsOf l') ∧ w.grownBy wr (Value.slice va n vc).ownBlock) (fun i _ => n - (intOf i).toNat)
  case atStart => exact ⟨0, l, Nat.zero_le _, rfl, HL.out, HO.out, grown_refl w _⟩
  case round =>
    obtain ⟨k, l', hk, rfl, hl', ho, hb⟩ := hrel
    by_cases hlt : k < n
    · obtain ⟨g, c, e, hg1, hg2⟩ := ho.form (by omega)
      cases e
      have hcell : wr.cell? ⟨g, k, none⟩ = (cellsOf l')[k]? := ho.cellAt k (by omega)
      have hc2 : wr.cell? ⟨g, k, none⟩ = some (.int .u8 (V (l'.getD k 0#8))) := by rw [hcell]; simp [cellsOf, hl', hlt]
      have hfr := ho.frozenAt k
      have hst := (ho.stored k (.int .u8 (V 90#8))).1
      rw [cellsOf_set, show V 90#8 = 90 from rfl] at hst
      have HS : Hid _ := hst
      have HB : Hid (w.grownBy (wr.setCell ⟨g, k, none⟩ (.int .u8 90)) (Value.slice (some ⟨g, 0, none⟩) n vc).ownBlock) := grown_at hb g k _ (.inl rfl)
      have HLS : Hid ((l'.set k 90#8).length = n) := by show _ = _; simpa using hl'
      have hm' := HM.out
      have hlt' : (k : Int) < n := by omega
      clear ho hb hcell hst hl'
      go_wp2
      go_roundw
      case rel => exact ⟨k + 1, l'.set k 90#8, by omega, by go_num, HLS.out, HS.out, HB.out⟩
      case measure => simp only [intOf]; omega
    · obtain rfl : k = n := by omega
      obtain ⟨i0, hi, hz0, hz1, hz2⟩ := info_parts info5
      have hbs : base ≤ wr.heap.size := Nat.le_trans HBs.out hb.size
      obtain ⟨g, c, w2, hr2, o2, g2, hat, hlt2⟩ := run_append_lies (P := Try.prog) (wr.alloc (.cells #[.int .u8 91] 5)) 30 30 base 5 i0 (.int .u8 0) 1 1 Try.underlying30 hi hz0 hz1 hz2 rfl (by omega) (.slice va k vc) k (cellsOf l') (ho.alloc _) ⟨wr.heap.size, 0, none⟩ 1 1 [.int .u8 91] rfl (World.news_of_block (cs := #[.int .u8 91]) (t := 5) (fr := (0, 0)) (heap_alloc_new wr _)) (by simp [Value.oneCell']) (by omega) (by have := HM.out; unfold maxLen; omega) (by have := HM.out; omega) (by simp; omega) (wr.heap.size + 1) (by simp)
      have hc2 : w2.cell? ⟨g, k, none⟩ = some (.int .u8 91) := by
        rw [o2.cellAt k (by omega)]
        simp [cellsOf, hl']
      have hfr := o2.frozenAt k
      have HR : Hid _ := hr2
      have gA : w.grownBy w2 (Value.slice va k vc).ownBlock := (grown_alloc hb _).trans g2
      have HB : Hid (w.grownBy (w2.setCell ⟨g, k, none⟩ (.int .u8 92)) (Value.slice va k vc).ownBlock) := grown_at gA g k _ (by
        rcases hat with h | h
        · exact .inl h
        · have := hb.size
          exact .inr (by omega))
      have hm' := HM.out
      have hw : IntKind.i64.wrap ((k : Int) + 1 - 1) = k := by rw [IntKind.wrap_i64]; omega
      clear hr2 o2 g2 ho hb hl' gA hat hi hz0 hz1 hz2
      go_wp2_with (at_builtin; refine wpList_append_known rfl (.tmp 12) (.tmp 13) 30 30 rfl _ _ rfl rfl _ _ HR.out ?_)
      exact bodyPost_end (results_none rfl _ _ _) rfl ⟨⟨_, rfl⟩, HB.out⟩
end Go.Proofs.Ytccmehbdnnelhaa
