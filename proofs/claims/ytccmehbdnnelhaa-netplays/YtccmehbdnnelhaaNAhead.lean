/- Package net: ahead, and the search for a turn. -/
import Derived.Test.YtccmehbdnnelhaaNNet
import Derived.Deep.RegionHeld3
namespace Go.Proofs.Ytccmehbdnnelhaa
open Go.RowKit Go.Maps
set_option linter.unusedVariables false

set_option maxRecDepth 100000 in
set_option maxHeartbeats 1600000 in
theorem ahead_any {w : World} {base N B T : Nat} {bx : Int → Value} {L : List Post} (h : NetIn w base N B bx L T) (t : Nat) : Calls Try.prog 39 #[.pointer (some ⟨N, 0, none⟩), .int .i64 (t : Int)] w fun e w' => e = .returned (.int .i64 (under L t : Nat)) ∧ Below w.heap.size w w' := by
  have H : Hid (NetIn w base N B bx L T) := h
  have c0 := h.c0
  obtain ⟨w1, cnt, hrun, hR, hg, hs⟩ := h.hM.range
  have R1 : Hid (BoxRange w1 B w.heap.size T bx (fun k => decide (box L k ≠ [])) cnt) := hR
  have B1 : Hid (Below w.heap.size w w1) := (Below.refl _ w).grown hg (Nat.le_refl _) (fun j e => by cases e)
  obtain ⟨r, er⟩ : ∃ r, w.heap.size = r := ⟨_, rfl⟩
  rw [er] at hrun R1
  have ER : Hid (w.heap.size = r) := er
  clear h hR hg hs er
  go_enter Try.func39, Try.ntmps39
  go_wp2
  go_loopw [5] (fun cv wr => ∃ (left : Int → Bool) (cnt : Nat), cv = .int .i64 (under (gone L left) t : Nat) ∧ Hid (BoxRange wr B r T bx left cnt) ∧ Hid (Below w.heap.size w wr)) (fun _ wr => wr.rangeLeft B r)
  case atStart => exact ⟨_, cnt, by rw [H.out.start]; rfl, R1.out, B1.out⟩
  case round =>
    obtain ⟨left, cnt2, rfl, hR, hB⟩ := hrel
    rcases hR.out.next 0 with ⟨_, hl0, hrn⟩ | ⟨k, w2, cnt3, hkw, hlk, hrn, hR2, hlt, hg2, hs2, hen⟩
    · have eL : Hid (gone L left = L) := gone_all hl0
      rw [show gone L left = L from eL.out]
      clear hl0
      go_wp2
      go_ret
      exact ⟨rfl, hB.out⟩
    · have hb2 : Below w.heap.size w w2 := hB.out.grown hg2 hB.out.size (fun j e => by cases e; rw [ER.out]; exact Nat.le_refl _)
      obtain ⟨a, c, e, hp⟩ := (H.out.below hb2).box k
      have es : under (gone L (fun x => left x && !decide (x = k))) t = under (gone L left) t + under (box L k) t := gone_step (fun p => decide (p.t < t)) hlk L
      have ES : Hid _ := es
      have HB2 : Hid _ := hb2
      have HR2 : Hid (BoxRange w2 B r T bx (fun x => left x && !decide (x = k)) cnt3) := hR2
      have HLT : Hid (cnt3 < cnt2) := hlt
      have le0 : (gone L left).length ≤ L.length := List.length_filter_le _ _
      have le1 := under_le (gone L left) t
      have le2 := box_len L k
      have le4 := under_le (box L k) t
      have le3 := H.out.len
      have HPl := place_t a c (box L k) t w2 hp (H.out.ris.box k) (by omega)
      rw [e] at hrn hen
      obtain ⟨n, en⟩ : ∃ n, (box L k).length = n := ⟨_, rfl⟩
      obtain ⟨m, em⟩ : ∃ m, under (gone L left) t = m := ⟨_, rfl⟩
      obtain ⟨q, eq⟩ : ∃ q, under (box L k) t = q := ⟨_, rfl⟩
      obtain ⟨f, ef⟩ : ∃ f, hasT (box L k) t = f := ⟨_, rfl⟩
      rw [eq, ef] at HPl
      rw [en] at hrn hen le2 HPl le4
      rw [em, eq] at ES
      rw [em] at le1
      rw [eq] at le4
      rw [em]
      have wm : IntKind.i64.wrap ((m : Int) + (q : Int)) = ((m + q : Nat) : Int) := by rw [IntKind.wrap_i64]; omega
      clear e en em eq ef hb2 hR2 hlt es le0 le1 le2 le3 le4 hg2 hs2 hkw hlk hp
      go_wp2_with fail
      refine HPl.mono ?_
      rintro e w3 ⟨rfl, b3⟩
      have HB3 : Hid (Below w.heap.size w w3) := HB2.out.trans (b3.mono HB2.out.size)
      have HR3 : Hid (BoxRange w3 B r T bx (fun x => left x && !decide (x = k)) cnt3) := HR2.out.kept b3
      clear b3 HPl
      go_wp2
      go_roundw
      case rel => exact ⟨_, cnt3, by rw [ES.out, Int.natCast_add], HR3.out, HB3.out⟩
      case measure =>
        show w3.rangeLeft B r < wr.rangeLeft B r
        rw [HR3.out.left_eq, hR.out.left_eq]
        exact HLT.out
set_option maxRecDepth 100000 in
set_option maxHeartbeats 1600000 in
theorem find1_any {w : World} {base N B T : Nat} {bx : Int → Value} {L : List Post} (h : NetIn w base N B bx L T) (t : Nat) (k : Int) (P1 P2 : Nat) (h1 : w.cell? ⟨P1, 0, none⟩ = some (.pointer (some ⟨N, 0, none⟩))) (h2 : w.cell? ⟨P2, 0, none⟩ = some (.int .i64 k)) (ht : t ≤ 1000000000000) :
    Calls Try.prog 38 #[.int .i64 (t : Int), .pointer (some ⟨P1, 0, none⟩), .pointer (some ⟨P2, 0, none⟩)] w fun e w' => e = .returned (.bool (decide (k < (under L (t + 1) : Nat)))) ∧ Below w.heap.size w w' := by
  have d1 : w.drew.cell? ⟨P1, 0, none⟩ = some (.pointer (some ⟨N, 0, none⟩)) := h1
  have d2 : w.drew.cell? ⟨P2, 0, none⟩ = some (.int .i64 k) := h2
  have HA := fun (W : World) (b : Below w.heap.size w W) => ahead_any (h.below b) (t + 1)
  have wt : IntKind.i64.wrap ((t : Int) + 1) = ((t + 1 : Nat) : Int) := by rw [IntKind.wrap_i64]; omega
  obtain ⟨q, eq⟩ : ∃ q, under L (t + 1) = q := ⟨_, rfl⟩
  obtain ⟨t1, et1⟩ : ∃ t1, t + 1 = t1 := ⟨_, rfl⟩
  simp only [eq] at HA
  rw [eq]
  rw [et1] at wt
  simp only [et1] at HA
  have CA : Hid (∀ W, (W.cell? ⟨P1, 0, none⟩ = some (.pointer (some ⟨N, 0, none⟩)) ∧ W.cell? ⟨P2, 0, none⟩ = some (.int .i64 k) ∧ Below w.heap.size w W) → Calls Try.prog 39 #[.pointer (some ⟨N, 0, none⟩), .int .i64 (t1 : Int)] W fun e w' => e = .returned (.int .i64 (q : Int)) ∧ (w'.cell? ⟨P1, 0, none⟩ = some (.pointer (some ⟨N, 0, none⟩)) ∧ w'.cell? ⟨P2, 0, none⟩ = some (.int .i64 k) ∧ Below w.heap.size w w')) := fun W hW => (HA W hW.2.2).mono fun e w' ⟨he, hb⟩ => by
    refine ⟨he, ?_, ?_, hW.2.2.trans (hb.mono hW.2.2.size)⟩
    · rw [hb.cell (p := ⟨P1, 0, none⟩) (World.block_lt_of_cell? W _ hW.1)]; exact hW.1
    · rw [hb.cell (p := ⟨P2, 0, none⟩) (World.block_lt_of_cell? W _ hW.2.1)]; exact hW.2.1
  have B0 : Hid (Below w.heap.size w w.drew) := (Below.refl _ w).drew
  have b0 : Below w.heap.size w w.drew := (Below.refl _ w).drew
  clear h HA eq et1 ht h1 h2
  go_enter Try.func38, Try.ntmps38
  go_wp2_with fail
  go_region_held3 (fun w' => w'.cell? ⟨P1, 0, none⟩ = some (.pointer (some ⟨N, 0, none⟩)) ∧ w'.cell? ⟨P2, 0, none⟩ = some (.int .i64 k) ∧ Below w.heap.size w w')
    (first | assumption | exact ⟨d1, d2, b0⟩)
    (first | (go_at_call 39; refine (CA.out _ (by assumption)).mono ?_; rintro e x1 ⟨rfl, hb1⟩))
  go_wp2
  go_ret
  exact ⟨rfl, hb1.2.2⟩
/-- sort.Search: the first number of which a rising test holds. -/
theorem search_split {n : Nat} {p : Nat → Bool} {i : Nat} (hi : i ≤ n) (h1 : ∀ j, j < i → p j = false) (h2 : ∀ j, i ≤ j → j < n → p j = true) : i ≤ n ∧ (∀ j, j < i → p j = false) ∧ (i < n → p i = true) := ⟨hi, h1, fun h => h2 i (Nat.le_refl _) h⟩
set_option maxRecDepth 100000 in
set_option maxHeartbeats 1600000 in
theorem search_any (n : Nat) (g : Nat) (hgg : g = 38) (cb1 cb2 : Value) (p : Nat → Bool) (w : World) (hn : n ≤ 1000000000000) (hf : ∀ i, i < n → ∀ W, Below w.heap.size w W → Calls Try.prog g #[.int .i64 (i : Int), cb1, cb2] W fun e w' => e = .returned (.bool (p i)) ∧ Below W.heap.size W w') (hm : ∀ i j, i ≤ j → p i = true → p j = true) :
    Calls Try.prog 37 #[.int .i64 (n : Int), .func (.func g) #[] #[cb1, cb2]] w fun e w' => (∃ i : Nat, e = .returned (.int .i64 (i : Int)) ∧ i ≤ n ∧ (∀ j, j < i → p j = false) ∧ (i < n → p i = true)) ∧ Below w.heap.size w w' := by
  subst hgg
  have HF : Hid _ := hf
  have HM : Hid _ := hm
  clear hf hm
  go_enter Try.func37, Try.ntmps37
  go_wp2
  go_loopg [5, 6] n (fun kx s5 s6 wr => ∃ lo hi : Nat, s5 = .int .i64 lo ∧ s6 = .int .i64 hi ∧ lo ≤ hi ∧ hi ≤ n ∧ hi - lo ≤ kx ∧ Hid (Below w.heap.size w wr) ∧ Hid ((∀ j, j < lo → p j = false) ∧ (∀ j, hi ≤ j → j < n → p j = true)))
  case atStart => exact ⟨0, n, rfl, rfl, Nat.zero_le _, Nat.le_refl _, by omega, Below.refl _ _, ⟨fun j h => by omega, fun j h1 h2 => by omega⟩⟩
  case round =>
    obtain ⟨lo, hi, rfl, rfl, hlh, hin, hg, S1, I⟩ := hrel
    by_cases hlt : lo < hi
    · have hc := HF.out ((lo + hi) / 2) (by omega) wr S1.out
      rw [show (((lo + hi) / 2 : Nat) : Int) = ((lo : Int) + (hi : Int)) / 2 by omega] at hc
      cases hp : p ((lo + hi) / 2)
      · rw [hp] at hc
        have HP : Hid (p ((lo + hi) / 2) = false) := hp
        clear hp
        go_wp2_with (first | (go_at_call 38; refine hc.mono ?_; rintro e w' ⟨rfl, b'⟩))
        go_roundg (hi - ((lo + hi) / 2 + 1))
        case measure => omega
        case rel =>
          have I2 : Hid ((∀ j, j < (lo + hi) / 2 + 1 → p j = false) ∧ (∀ j, hi ≤ j → j < n → p j = true)) := by
            refine ⟨fun j h => ?_, I.out.2⟩
            cases hj : p j
            · rfl
            · have := HM.out j ((lo + hi) / 2) (by omega) hj
              rw [HP.out] at this
              exact this.symm
          exact ⟨(lo + hi) / 2 + 1, hi, by rw [show ((lo : Int) + (hi : Int)) / 2 + 1 = (((lo + hi) / 2 + 1 : Nat) : Int) by omega], rfl, by omega, hin, Nat.le_refl _, S1.out.trans (b'.mono S1.out.size), I2⟩
      · rw [hp] at hc
        have HP : Hid (p ((lo + hi) / 2) = true) := hp
        clear hp
        go_wp2_with (first | (go_at_call 38; refine hc.mono ?_; rintro e w' ⟨rfl, b'⟩))
        go_roundg ((lo + hi) / 2 - lo)
        case measure => omega
        case rel =>
          have I2 : Hid ((∀ j, j < lo → p j = false) ∧ (∀ j, (lo + hi) / 2 ≤ j → j < n → p j = true)) := ⟨I.out.1, fun j h1 h2 => HM.out _ _ h1 HP.out⟩
          exact ⟨lo, (lo + hi) / 2, rfl, by rw [show ((lo : Int) + (hi : Int)) / 2 = (((lo + hi) / 2 : Nat) : Int) by omega], by omega, by omega, Nat.le_refl _, S1.out.trans (b'.mono S1.out.size), I2⟩
    · obtain rfl : hi = lo := by omega
      go_wp2
      go_ret
      exact ⟨⟨hi, rfl, search_split hin I.out.1 I.out.2⟩, S1.out⟩
end Go.Proofs.Ytccmehbdnnelhaa
