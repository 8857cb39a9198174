/- What sound and Unframe do. -/
import Derived.Test.YtpnnbkhlbohfbaaDoorCut
import Derived.Test.YtpnnbkhlbohfbaaDoorEqual
namespace Go.Proofs.YtpnnbkhlbohfbaaDoor
open Go.RowKit Cod
set_option linter.unusedVariables false

theorem owns_mono {w : World} {base base' : Nat} {e : TypeId} {size : Nat} {v : Value} {n : Nat} {xs : List Value} (h : w.ownsRow base e size v n xs) (hb : base' ≤ base) : w.ownsRow base' e size v n xs :=
  ⟨h.1, h.2.imp id fun ⟨g, cap, cur, e1, e2, e3⟩ => ⟨g, cap, cur, e1, Nat.le_trans hb e2, e3⟩⟩
/-- Why bytes do not begin with a whole frame; 0: they do. -/
def cutWhy (l : List (BitVec 8)) : Nat := if (num 0 0 l).2.2 ≠ 0 then (num 0 0 l).2.2 else if 65536 < (num 0 0 l).1 then 3 else if l.length < (num 0 0 l).2.1 + 4 + (num 0 0 l).1 then 10 else 0
def cutSum (l : List (BitVec 8)) : List (BitVec 8) := (l.drop (num 0 0 l).2.1).take 4
def cutBody (l : List (BitVec 8)) : List (BitVec 8) := (l.drop ((num 0 0 l).2.1 + 4)).take (num 0 0 l).1
def cutRest (l : List (BitVec 8)) : List (BitVec 8) := l.drop ((num 0 0 l).2.1 + 4 + (num 0 0 l).1)
theorem cut_any (a : Option Addr) (len cap : Nat) (l : List (BitVec 8)) (w : World) (h : Seen w a len l) (hnil : a = none → cap = 0) (hk : len ≤ cap) (hm : len ≤ 140737488355328) :
    Calls Tryd.prog 16 #[.slice a len cap] w fun e w' => ∃ a2 n2 c2 a3 n3 c3 a4 n4 c4, e = .returned (.tuple #[.agg #[.slice a2 n2 c2, .slice a3 n3 c3, .slice a4 n4 c4], .int .i64 (cutWhy l)]) ∧ Below w.heap.size w w' ∧
      (cutWhy l = 0 → (Seen w a2 n2 (cutSum l) ∧ (a2 = none → c2 = 0) ∧ n2 ≤ c2) ∧ (Seen w a3 n3 (cutBody l) ∧ (a3 = none → c3 = 0) ∧ n3 ≤ c3 ∧ n3 ≤ 65536) ∧ (Seen w a4 n4 (cutRest l) ∧ (a4 = none → c4 = 0) ∧ n4 ≤ c4 ∧ n4 ≤ 140737488355328)) ∧
      (∀ B, (∀ y, a = some y → y.block < B) → ∀ y, a2 = some y ∨ a3 = some y ∨ a4 = some y → y.block < B) := by
  obtain ⟨n, wd, y, ht⟩ : ∃ n wd y, num 0 0 l = (n, wd, y) := ⟨_, _, _, rfl⟩
  have hlen : len = l.length := h.1
  by_cases hy : y = 0
  · subst hy
    by_cases hn : 65536 < n
    · refine (cut_big a len cap l n wd w h hnil hk hm ht hn).mono ?_
      rintro e w' ⟨rfl, b⟩
      have hc : cutWhy l = 3 := by simp [cutWhy, ht, hn]
      rw [hc]
      exact ⟨none, 0, 0, none, 0, 0, none, 0, 0, rfl, b, (fun e => by cases e), fun B hB y hy => by rcases hy with h | h | h <;> cases h⟩
    · have ha : ∃ x, a = some x := by
        cases a with
        | none =>
          exfalso
          obtain ⟨q1, q2, q3⟩ := h
          rcases q3 with q3 | ⟨b, off, q, _⟩
          · obtain rfl : l = [] := List.eq_nil_of_length_eq_zero (by omega)
            simp [num] at ht
          · cases q
        | some x => exact ⟨x, rfl⟩
      obtain ⟨x, rfl⟩ := ha
      by_cases hs : l.length < wd + 4 + n
      · refine (cut_short x len cap l n wd w h hnil hk hm ht (by omega) hs).mono ?_
        rintro e w' ⟨rfl, b⟩
        have hc : cutWhy l = 10 := by simp [cutWhy, ht, hn, hs]
        rw [hc]
        exact ⟨none, 0, 0, none, 0, 0, none, 0, 0, rfl, b, (fun e => by cases e), fun B hB y hy => by rcases hy with h | h | h <;> cases h⟩
      · refine (cut_ok x len cap l n wd w h hnil hk hm ht (by omega) (by omega)).mono ?_
        rintro e w' ⟨a2, a3, a4, rfl, ⟨s2, m2⟩, ⟨s3, m3⟩, ⟨s4, m4⟩, b, bl⟩
        have hc : cutWhy l = 0 := by simp [cutWhy, ht, hn, hs]
        have e2 : cutSum l = (l.drop wd).take 4 := by simp [cutSum, ht]
        have e3 : cutBody l = (l.drop (wd + 4)).take n := by simp [cutBody, ht]
        have e4 : cutRest l = l.drop (wd + 4 + n) := by simp [cutRest, ht]
        rw [hc, e2, e3, e4]
        exact ⟨a2, _, _, a3, _, _, a4, _, _, rfl, b, fun _ => ⟨⟨s2, fun e => absurd e m2, by omega⟩, ⟨s3, fun e => absurd e m3, by omega, by omega⟩, ⟨s4, fun e => absurd e m4, by omega, by omega⟩⟩, fun B hB y hy => by rw [bl y hy]; exact hB x rfl⟩
  · refine (cut_bad a len cap l w h hnil hk hm (by rw [ht]; exact hy)).mono ?_
    rintro e w' ⟨rfl, b⟩
    have hc : cutWhy l = y := by simp [cutWhy, ht, hy]
    rw [hc, ht]
    exact ⟨none, 0, 0, none, 0, 0, none, 0, 0, rfl, b, (fun e => absurd e hy), fun B hB y hy => by rcases hy with h | h | h <;> cases h⟩

/-- A frame's sum is its body's. -/
theorem sound_any (a2 a3 : Option Addr) (n2 c2 n3 c3 : Nat) (v4 : Value) (S P : List (BitVec 8)) (w : World) (hT : Tabs w) (h2 : Seen w a2 n2 S) (h3 : Seen w a3 n3 P) :
    Calls Tryd.prog 17 #[.agg #[.slice a2 n2 c2, .slice a3 n3 c3, v4]] w fun e w' => e = .returned (.bool (decide (S = four (Crc.more 0#32 P)))) ∧ Below w.heap.size w w' := by
  generalize hw1 : w.alloc (.cells #[.slice a2 n2 c2, .slice a3 n3 c3, v4] 44) = w1
  have b1 : Below w.heap.size w w1 := by rw [← hw1]; exact (Below.refl _ w).alloc (Nat.le_refl _) _
  have T1 : Tabs w1 := hT.below b1 hT.size
  have k2 : Seen w1 a2 n2 S := h2.below b1
  have k3 : Seen w1 a3 n3 P := h3.below b1
  have hh : w1.heap[w.heap.size]? = some (.cells #[.slice a2 n2 c2, .slice a3 n3 c3, v4] 44 (0, 0)) := by rw [← hw1]; exact heap_alloc_new w _
  have hlt : w.heap.size < w1.heap.size := by rw [← hw1]; simp
  have c0 : ∀ w', Below w1.heap.size w1 w' → w'.cell? ⟨w.heap.size, 0, none⟩ = some (.slice a2 n2 c2) := fun w' h => by rw [h.cell (p := ⟨w.heap.size, 0, none⟩) hlt]; simp [World.cell?, hh]
  have c1 : ∀ w', Below w1.heap.size w1 w' → w'.cell? ⟨w.heap.size, 1, none⟩ = some (.slice a3 n3 c3) := fun w' h => by rw [h.cell (p := ⟨w.heap.size, 1, none⟩) hlt]; simp [World.cell?, hh]
  obtain ⟨r, hr⟩ : ∃ r, Crc.more 0#32 P = r := ⟨_, rfl⟩
  have C7 : ∀ w', Below w1.heap.size w1 w' → Hid (Calls Tryd.prog 44 #[.slice a3 n3 c3] w' fun e w'' => e = .returned (.int .u32 (U r)) ∧ Below w1.heap.size w1 w'') := fun w' h => sum_later c3 h T1 k3 hr
  have C8 : ∀ w', Below w1.heap.size w1 w' → Hid (Calls Tryd.prog 43 #[.slice none 0 0, .int .u32 (U r)] w' fun e w'' => ∃ g cap, e = .returned (.slice (some ⟨g, 0, none⟩) 4 cap) ∧ Seen w'' (some ⟨g, 0, none⟩) 4 (four r) ∧ Below w1.heap.size w1 w'') := fun w' h => by
    refine (addSum_any w1.heap.size (.slice none 0 0) 0 [] r w' (World.ownsRow_nil _ _ _ _) h.size (by omega)).mono ?_
    rintro e w'' ⟨v, rfl, o, b⟩
    obtain ⟨g, cap, rfl, _, _⟩ := o.form (by omega)
    exact ⟨g, cap, rfl, seen_owned o (by simp [four]) (by unfold maxLen; omega), h.trans b⟩
  have C9 : ∀ w' g cap, Below w1.heap.size w1 w' → Seen w' (some ⟨g, 0, none⟩) 4 (four r) → Hid (Calls Tryd.prog 42 #[.slice a2 n2 c2, .slice (some ⟨g, 0, none⟩) 4 cap] w' fun e w'' => e = .returned (.bool (decide (S = four r))) ∧ Below w1.heap.size w1 w'') := fun w' g cap h hs => by
    refine (equal_any a2 (some ⟨g, 0, none⟩) n2 c2 4 cap S (four r) w' (k2.below h) hs).mono ?_
    rintro e w'' ⟨rfl, n, rfl⟩
    exact ⟨rfl, below_drewN' h n⟩
  have B0 := Below.refl w1.heap.size w1
  have HW : Hid _ := hw1
  have HB1 : Hid _ := b1
  have HLT : Hid _ := hlt
  rw [hr]
  clear hT h2 h3 hw1 b1 T1 k2 k3 hh hlt hr
  go_enter Tryd.func17, Tryd.ntmps17
  go_wp2_with fail
  rw [HW.out]
  go_region_held3 (fun w' => Below w1.heap.size w1 w')
    (first | assumption | (exact Below.drew (by assumption)))
    (first
      | (go_at_call 44; refine (C7 _ (by assumption)).out.mono ?_; rintro e w2 ⟨rfl, hb2⟩)
      | (go_at_call 43; refine (C8 _ (by assumption)).out.mono ?_; rintro e w2 ⟨g, cap, rfl, hs2, hb2⟩)
      | (go_at_call 42; refine (C9 _ _ _ (by assumption) (by assumption)).out.mono ?_; rintro e w2 ⟨rfl, hb2⟩))
  go_wp2
  go_ret
  exact ⟨rfl, HB1.out.trans (Below.mono (by assumption) HB1.out.size)⟩

/-- Why bytes are no frame; 0: they are one. -/
def unWhy (l : List (BitVec 8)) : Nat := if cutWhy l ≠ 0 then cutWhy l else if cutRest l ≠ [] then 11 else if cutSum l = four (Crc.more 0#32 (cutBody l)) then 0 else 12
set_option maxHeartbeats 800000 in
theorem unframe_no (a : Option Addr) (len cap : Nat) (l : List (BitVec 8)) (w : World) (hT : Tabs w) (h : Seen w a len l) (hnil : a = none → cap = 0) (hk : len ≤ cap) (hm : len ≤ 140737488355328) (hw : unWhy l ≠ 0) :
    Calls Tryd.prog 5 #[.slice a len cap] w fun e w' => e = .returned (.tuple #[.slice none 0 0, .int .i64 (unWhy l)]) ∧ Below w.heap.size w w' := by
  have HC := cut_any a len cap l w h hnil hk hm
  have HT : Hid (Tabs w) := hT
  have HU : Hid _ := hw
  clear hT h hnil hk hm hw
  obtain ⟨y, hy⟩ : ∃ y, cutWhy l = y := ⟨_, rfl⟩
  by_cases h0 : y = 0
  · subst h0
    rw [hy] at HC
    go_enter Tryd.func5, Tryd.ntmps5
    go_wp2_with fail
    refine HC.mono ?_
    rintro e w1 ⟨a2, n2, c2, a3, n3, c3, a4, n4, c4, rfl, b1, hs, _⟩
    obtain ⟨⟨s2, m2, k2⟩, ⟨s3, m3, k3, z3⟩, ⟨s4, m4, k4, z4⟩⟩ := hs trivial
    by_cases hr : cutRest l = []
    · have h4 : n4 = 0 := by rw [s4.1, hr]; rfl
      subst h4
      have HS := sound_any a2 a3 n2 c2 n3 c3 (.slice a4 0 c4) _ _ (w1.alloc (.cells #[.slice a2 n2 c2, .slice a3 n3 c3, .slice a4 0 c4] 44)) ((HT.out.below b1 HT.out.size).alloc _) ((s2.below b1).below ((Below.refl _ w1).alloc (Nat.le_refl _) _)) ((s3.below b1).below ((Below.refl _ w1).alloc (Nat.le_refl _) _))
      have hd : Hid (cutSum l ≠ four (Crc.more 0#32 (cutBody l))) := fun e => HU.out (by simp [unWhy, hy, hr, e])
      have hv : Hid (unWhy l = 12) := by show unWhy l = 12; simp [unWhy, hy, hr, hd.out]
      rw [decide_eq_false hd.out] at HS
      have B1 : Hid _ := b1
      clear hs s2 m2 k2 s3 m3 k3 z3 s4 m4 k4 z4 b1 hr
      go_wp2_with fail
      refine HS.mono ?_
      rintro e w2 ⟨rfl, b2⟩
      have B2 : Hid (Below w.heap.size w w2) := (B1.out.alloc B1.out.size _).trans (b2.mono (by have := B1.out.size; simp; omega))
      clear b2
      go_wp2
      go_ret2
      exact ⟨by rw [hv.out]; rfl, B2.out⟩
    · have h4 : 0 < (n4 : Int) := by
        have := List.length_pos_iff.2 hr
        rw [← s4.1] at this
        omega
      have hv : Hid (unWhy l = 11) := by show unWhy l = 11; simp [unWhy, hy, hr]
      have B1 : Hid _ := b1
      clear hs s2 m2 k2 s3 m3 k3 z3 s4 m4 k4 z4 b1 hr
      go_wp2
      go_ret2
      exact ⟨by rw [hv.out]; rfl, B1.out.alloc B1.out.size _⟩
  · rw [hy] at HC
    have hv : Hid (unWhy l = y) := by show unWhy l = y; simp [unWhy, hy, h0]
    have h0' : ¬ ((y : Int) = 0) := by omega
    have h1' : ((y : Int) == 0) = false := by simpa using h0'
    clear h0
    go_enter Tryd.func5, Tryd.ntmps5
    go_wp2_with fail
    refine HC.mono ?_
    rintro e w1 ⟨a2, n2, c2, a3, n3, c3, a4, n4, c4, rfl, b1, hs, _⟩
    have B1 : Hid _ := b1
    clear hs b1
    go_wp2
    go_ret2
    exact ⟨by rw [hv.out]; rfl, B1.out.alloc B1.out.size _⟩
set_option maxHeartbeats 800000 in
theorem unframe_ok (a : Option Addr) (len cap : Nat) (l : List (BitVec 8)) (w : World) (hT : Tabs w) (h : Seen w a len l) (hnil : a = none → cap = 0) (hk : len ≤ cap) (hm : len ≤ 140737488355328) (hw : unWhy l = 0) :
    Calls Tryd.prog 5 #[.slice a len cap] w fun e w' => ∃ v, e = .returned (.tuple #[v, .int .i64 0]) ∧ w'.ownsRow w.heap.size 5 1 v (cutBody l).length (cellsOf (cutBody l)) ∧ Below w.heap.size w w' := by
  have HC := cut_any a len cap l w h hnil hk hm
  have HT : Hid (Tabs w) := hT
  have hy : cutWhy l = 0 := by
    unfold unWhy at hw
    split at hw
    · contradiction
    · rename_i h; simpa using h
  have hr : cutRest l = [] := by
    unfold unWhy at hw
    rw [if_neg (by simp [hy])] at hw
    split at hw
    · cases hw
    · rename_i h; simpa using h
  have hd : cutSum l = four (Crc.more 0#32 (cutBody l)) := by
    unfold unWhy at hw
    rw [if_neg (by simp [hy]), if_neg (by simp [hr])] at hw
    split at hw
    · assumption
    · cases hw
  clear hT h hnil hk hm hw
  rw [hy] at HC
  go_enter Tryd.func5, Tryd.ntmps5
  go_wp2_with fail
  refine HC.mono ?_
  rintro e w1 ⟨a2, n2, c2, a3, n3, c3, a4, n4, c4, rfl, b1, hs, _⟩
  obtain ⟨⟨s2, m2, k2⟩, ⟨s3, m3, k3, z3⟩, ⟨s4, m4, k4, z4⟩⟩ := hs trivial
  have h4 : n4 = 0 := by rw [s4.1, hr]; rfl
  subst h4
  obtain rfl : n3 = (cutBody l).length := s3.1
  generalize hw2 : w1.alloc (.cells #[.slice a2 n2 c2, .slice a3 (cutBody l).length c3, .slice a4 0 c4] 44) = w2
  have b2 : Below w1.heap.size w1 w2 := by rw [← hw2]; exact (Below.refl _ w1).alloc (Nat.le_refl _) _
  have hh : w2.heap[w1.heap.size]? = some (.cells #[.slice a2 n2 c2, .slice a3 (cutBody l).length c3, .slice a4 0 c4] 44 (0, 0)) := by rw [← hw2]; exact heap_alloc_new w1 _
  have hlt : w1.heap.size < w2.heap.size := by rw [← hw2]; simp
  have t3 : Seen w2 a3 (cutBody l).length (cutBody l) := (s3.below b1).below b2
  have HS := sound_any a2 a3 n2 c2 (cutBody l).length c3 (.slice a4 0 c4) _ _ w2 ((HT.out.below b1 HT.out.size).below b2 (Nat.le_trans HT.out.size b1.size)) ((s2.below b1).below b2) t3
  rw [decide_eq_true hd] at HS
  have BB : Hid (Below w.heap.size w w2) := b1.trans (b2.mono b1.size)
  have HW : Hid _ := hw2
  have HH : Hid _ := hh
  have HLT : Hid _ := hlt
  have T3 : Hid (Seen w2 a3 (cutBody l).length (cutBody l)) := t3
  have M3 : Hid _ := m3
  have Z3 : Hid _ := z3
  clear hs s2 m2 k2 s3 m3 k3 z3 s4 m4 k4 z4 b1 b2 hr hd hy hw2 hh hlt t3
  go_wp2_with fail
  rw [HW.out]
  refine HS.mono ?_
  rintro e w3 ⟨rfl, b3⟩
  have c1 : w3.cell? ⟨w1.heap.size, 1, none⟩ = some (.slice a3 (cutBody l).length c3) := by rw [b3.cell (p := ⟨w1.heap.size, 1, none⟩) HLT.out]; simp [World.cell?, HH.out]
  have HCl := clone_any a3 (cutBody l).length c3 (cutBody l) w3 (T3.out.below b3) M3.out (by have := Z3.out; omega)
  have B3 : Hid (Below w.heap.size w w3) := BB.out.trans (b3.mono BB.out.size)
  clear b3
  go_wp2_with fail
  refine HCl.mono ?_
  rintro e w4 ⟨v, rfl, o4, b4⟩
  have O4 : Hid _ := o4
  have B4 : Hid _ := b4
  clear o4 b4
  go_wp2
  go_ret2
  exact ⟨_, rfl, owns_mono O4.out B3.out.size, B3.out.trans (Below.mono B4.out B3.out.size)⟩
end Go.Proofs.YtpnnbkhlbohfbaaDoor
