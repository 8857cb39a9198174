/- The statement CrcSums: the sums of any bytes, of pieces, slots of any names, are what the document says; here the walk. -/
import Derived.Test.YtdohclbkdifafaaDoorRef2
import Derived.Test.YtdohclbkdifafaaDoorRef3
import Derived.Test.YtdohclbkdifafaaDoorPieces
namespace Go.Proofs.YtdohclbkdifafaaDoor
open Go.RowKit
set_option linter.unusedVariables false

theorem rsum_later {w0 w : World} {a : Option Addr} {len : Nat} (cap : Nat) {l : List (BitVec 8)} {r : Crc.W} (hb : Below w0.heap.size w0 w) (h : Seen w0 a len l) (hr : Crc.more 0#32 l = r) :
    Calls Tryd.prog 13 #[.slice a len cap] w fun e w' => e = .returned (.int .u32 (U r)) ∧ Below w0.heap.size w0 w' := by
  subst hr
  refine (rsum_any a len cap l w (h.below hb)).mono ?_
  rintro e w' ⟨he, rfl⟩
  exact ⟨he, hb⟩
theorem rmore_later {w0 w : World} {a : Option Addr} {len : Nat} (cap : Nat) {l : List (BitVec 8)} (s r : Crc.W) (hb : Below w0.heap.size w0 w) (h : Seen w0 a len l) (hr : Crc.more s l = r) :
    Calls Tryd.prog 15 #[.int .u32 (U s), .slice a len cap] w fun e w' => e = .returned (.int .u32 (U r)) ∧ Below w0.heap.size w0 w' := by
  subst hr
  refine (rmore_any s a len cap l w (h.below hb)).mono ?_
  rintro e w' ⟨he, rfl⟩
  exact ⟨he, hb⟩
theorem slot_later {w0 w : World} (s : ByteArray) (hb : Below w0.heap.size w0 w) (hT : Tabs w0) (hs : s.size ≤ maxLen) (r : Int) (hr : slotOf s = r) :
    Calls Tryd.prog 16 #[.string s] w fun e w' => e = .returned (.int .i64 r) ∧ Below w0.heap.size w0 w' := by
  subst hr
  refine (slot_any s w (hT.below hb hT.size) hs).mono ?_
  rintro e w' ⟨he, hb'⟩
  exact ⟨he, hb.trans (hb'.mono hb.size)⟩
theorem rslot_later {w0 w : World} (s : ByteArray) (hb : Below w0.heap.size w0 w) (hs : s.size ≤ maxLen) (r : Int) (hr : slotOf s = r) :
    Calls Tryd.prog 17 #[.string s] w fun e w' => e = .returned (.int .i64 r) ∧ Below w0.heap.size w0 w' := by
  subst hr
  refine (rslot_any s w hs).mono ?_
  rintro e w' ⟨he, hb'⟩
  exact ⟨he, hb.trans (hb'.mono hb.size)⟩
theorem kept_later {w0 w : World} (hb : Below w0.heap.size w0 w) (g cap : Nat) (aa : Option Addr) (la ca : Nat) (A : List (BitVec 8)) (hG : Seen w0 (some ⟨g, 0, none⟩) la A) (hA : Seen w0 aa la A) (hc : la + 1 ≤ cap) (hcm : la ≤ 140737488355328) (hm : w0.cell? ⟨g, la, none⟩ = some (.int .u8 167)) :
    Calls Tryd.prog 18 #[.slice (some ⟨g, 0, none⟩) la cap, .slice aa la ca] w fun e w' => e = .returned (.bool true) ∧ Below w0.heap.size w0 w' := by
  refine (kept_any g cap aa la ca A w (hG.below hb) (hA.below hb) hc hcm (by rw [hb.cell (p := ⟨g, la, none⟩) (World.block_lt_of_cell? w0 _ hm)]; exact hm)).mono ?_
  rintro e w' ⟨he, rfl⟩
  exact ⟨he, hb⟩
/-- Both Joins answer the same. -/
theorem joins_later (a b : Crc.W) (n : Int) : ∃ v : Value, ∃ x y, v = .tuple #[.int .u32 (U x), .int .i64 y] ∧
    (∀ w0 w : World, Below w0.heap.size w0 w → Hid (Calls Tryd.prog 10 #[.int .u32 (U a), .int .u32 (U b), .int .i64 n] w fun e w' => e = .returned v ∧ Below w0.heap.size w0 w')) ∧
    (∀ w0 w : World, Below w0.heap.size w0 w → Hid (Calls Tryd.prog 11 #[.int .u32 (U a), .int .u32 (U b), .int .i64 n] w fun e w' => e = .returned v ∧ Below w0.heap.size w0 w')) := by
  by_cases h : n < 0 ∨ 1099511627776 < n
  · refine ⟨_, 0#32, 1, rfl, fun w0 w hb => ?_, fun w0 w hb => ?_⟩
    · refine (join_no a b n h w).mono ?_
      rintro e w' ⟨he, rfl⟩
      exact ⟨he, hb⟩
    · refine (rjoin_no a b n h w).mono ?_
      rintro e w' ⟨he, rfl⟩
      exact ⟨he, hb⟩
  · obtain ⟨k, rfl⟩ : ∃ k : Nat, n = (k : Int) := ⟨n.toNat, by omega⟩
    refine ⟨_, Crc.past a k ^^^ b, 0, rfl, fun w0 w hb => ?_, fun w0 w hb => ?_⟩
    · refine (join_yes a b k (by omega) w).mono ?_
      rintro e w' ⟨he, hb'⟩
      exact ⟨he, hb.trans (hb'.mono hb.size)⟩
    · refine (rjoin_yes a b k (by omega) w).mono ?_
      rintro e w' ⟨he, hb'⟩
      exact ⟨he, hb.trans (hb'.mono hb.size)⟩

set_option maxRecDepth 100000 in
set_option maxHeartbeats 1600000 in
theorem sums_walk (aa : Option Addr) (la ca : Nat) (A : List (BitVec 8)) (s b n : Int) (name : ByteArray) (w : World) (hT : Tabs w) (hA : Seen w aa la A) (hnil : aa = none → ca = 0) (ka : la ≤ ca) (ma : ca ≤ 140737488351232)
    (w1 : (Lit.int .u32 s).wf = true) (w2 : (Lit.int .u32 b).wf = true) (hname : name.size ≤ maxLen) :
    Calls Tryd.prog 3 #[.slice aa la ca, .int .u32 s, .int .u32 b, .int .i64 n, .string name] w fun e w' => e = .returned (.bool true) ∧ Below w.heap.size w w' := by
  have h1 : 0 ≤ s ∧ s ≤ 4294967295 := by simpa [Lit.wf, IntKind.min, IntKind.max, IntKind.bits, IntKind.signed] using w1
  have h2 : 0 ≤ b ∧ b ≤ 4294967295 := by simpa [Lit.wf, IntKind.min, IntKind.max, IntKind.bits, IntKind.signed] using w2
  obtain ⟨s, rfl⟩ : ∃ r : Crc.W, s = U r := ⟨BitVec.ofNat 32 s.toNat, by unfold U; rw [BitVec.toNat_ofNat, Nat.mod_eq_of_lt (by omega)]; omega⟩
  obtain ⟨b, rfl⟩ : ∃ r : Crc.W, b = U r := ⟨BitVec.ofNat 32 b.toNat, by unfold U; rw [BitVec.toNat_ofNat, Nat.mod_eq_of_lt (by omega)]; omega⟩
  obtain ⟨v, x, y, rfl, CJ, CR⟩ := joins_later s b n
  have CL : Hid _ := lent_any aa la ca A w hA hnil (by omega)
  clear w1 w2 h1 h2
  go_enter Tryd.func3, Tryd.ntmps3
  go_wp2_with fail
  refine (show Calls _ _ _ _ _ from CL.out).mono ?_
  rintro e z0 ⟨g, cap, rfl, hcap, hown, bz⟩
  have T0 : Tabs z0 := hT.below bz hT.size
  have sA := hA.below bz
  have sG : Seen z0 (some ⟨g, 0, none⟩) la A := by
    have h := (seen_owned hown (by simp [hA.1]) (by unfold maxLen; omega)).take la (by omega)
    have e : (A ++ [0xa7#8]).take la = A := by rw [hA.1]; simp
    rw [e] at h
    exact h
  have hm : z0.cell? ⟨g, la, none⟩ = some (.int .u8 167) := by
    rw [hown.cellAt la (by omega), hA.1]
    simp [cellsOf, V]
  obtain ⟨r0, hr0⟩ : ∃ r, Crc.more 0#32 A = r := ⟨_, rfl⟩
  obtain ⟨rs, hrs⟩ : ∃ r, Crc.more s A = r := ⟨_, rfl⟩
  obtain ⟨sl, hsl⟩ : ∃ r, slotOf name = r := ⟨_, rfl⟩
  have H0 : Hid _ := hr0
  have H1 : Hid _ := hrs
  have H2 : Hid _ := hsl
  have HM : Hid _ := hm
  have B0 := Below.refl z0.heap.size z0
  clear hr0 hrs hsl hm hown CL hA hT
  go_wp2_with fail
  refine (show Calls _ _ _ _ _ from (CJ z0 z0 B0).out).mono ?_
  rintro e y1 ⟨rfl, by1⟩
  go_wp2_with fail
  refine (show Calls _ _ _ _ _ from (CR z0 y1 by1).out).mono ?_
  rintro e y2 ⟨rfl, by2⟩
  clear CJ CR
  go_wp2_with fail
  refine (sum_later cap by2 T0 sG H0.out).mono ?_
  rintro e y3 ⟨rfl, by3⟩
  go_wp2_with fail
  refine (rsum_later ca by3 sA H0.out).mono ?_
  rintro e y4 ⟨rfl, by4⟩
  go_wp2_with fail
  refine (more_later cap s rs by4 T0 sG H1.out).mono ?_
  rintro e y5 ⟨rfl, by5⟩
  go_wp2_with fail
  refine (rmore_later ca s rs by5 sA H1.out).mono ?_
  rintro e y6 ⟨rfl, by6⟩
  go_wp2_with fail
  refine (slot_later name by6 T0 hname sl H2.out).mono ?_
  rintro e y7 ⟨rfl, by7⟩
  go_wp2_with fail
  refine (rslot_later name by7 hname sl H2.out).mono ?_
  rintro e y8 ⟨rfl, by8⟩
  go_wp2_with fail
  refine (kept_later by8 g cap aa la ca A sG sA hcap (by omega) HM.out).mono ?_
  rintro e y9 ⟨rfl, by9⟩
  go_wp2_with fail
  refine (known_later by9 T0).mono ?_
  rintro e y10 ⟨rfl, by10⟩
  go_wp2
  go_ret
  exact ⟨rfl, bz.trans (by10.mono bz.size)⟩
end Go.Proofs.YtdohclbkdifafaaDoor
