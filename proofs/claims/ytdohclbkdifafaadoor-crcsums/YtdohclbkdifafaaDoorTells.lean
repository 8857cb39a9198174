/- The statement CrcTells: bits that are turned within 32 in a row turn the sum; here the walk. -/
import Derived.Test.YtdohclbkdifafaaDoorMathTells
import Derived.Test.YtdohclbkdifafaaDoorAdds
namespace Go.Proofs.YtdohclbkdifafaaDoor
open Go.RowKit
set_option linter.unusedVariables false

/-- Count: a number from 0 to one less than m. -/
theorem count_any (n m : Int) (w : World) (h0 : -9223372036854775808 ≤ n) (h1 : n ≤ 9223372036854775807) (hm : 0 < m) (hm2 : m ≤ 4611686018427387904) :
    Calls Tryd.prog 20 #[.int .i64 n, .int .i64 m] w fun e w' => e = .returned (.int .i64 (n % m)) ∧ w' = w := by
  have hq := Int.tmod_add_mul_tdiv n m
  have hb1 : (n.tmod m).natAbs < m.natAbs := by rw [Int.natAbs_tmod]; exact Nat.mod_lt _ (by omega)
  have hb2 : -m < n.tmod m := by omega
  have hb3 : n.tmod m < m := by omega
  generalize n.tdiv m = q at *
  obtain ⟨t, ht⟩ : ∃ t, n.tmod m = t := ⟨_, rfl⟩
  rw [ht] at hq hb2 hb3
  clear hb1
  rcases Int.lt_or_le t 0 with h | h
  · have he : Hid (n % m = t + m) := by
      show n % m = t + m
      rw [← hq, Int.add_mul_emod_self_left, ← Int.add_emod_right]
      exact Int.emod_eq_of_lt (by omega) (by omega)
    clear hq
    go_enter Tryd.func20, Tryd.ntmps20
    go_wp2
    go_ret
    rw [he.out]
    exact ⟨rfl, rfl⟩
  · have he : Hid (n % m = t) := by
      show n % m = t
      rw [← hq, Int.add_mul_emod_self_left]
      exact Int.emod_eq_of_lt (by omega) (by omega)
    clear hq
    go_enter Tryd.func20, Tryd.ntmps20
    go_wp2
    go_ret
    rw [he.out]
    exact ⟨rfl, rfl⟩

theorem news_cells {w : World} {b o : Nat} {A : List (BitVec 8)} (hA : ∀ j, j < A.length → w.cell? ⟨b, o + j, none⟩ = some (.int .u8 (V (A.getD j 0#8)))) :
    ∀ j u, (cellsOf A)[j]? = some u → w.cell? ((⟨b, o, none⟩ : Addr).add j) = some u := by
  intro j u hj
  have hj' : j < A.length := by have := (List.getElem?_eq_some_iff.1 hj).1; rwa [cellsOf_length] at this
  rw [Addr.add_lit, hA j hj', ← hj]
  simp [cellsOf, hj']
theorem one_cells (A : List (BitVec 8)) : ∀ u ∈ cellsOf A, u.oneCell' = true := by
  intro u hu
  obtain ⟨c, _, rfl⟩ := List.mem_map.1 hu
  rfl

theorem bit_test (b : Crc.W) (k : Nat) : (bits BinOp.and IntKind.u32 (U b / 2 ^ k) 1 == 1) = b.getLsbD k := by
  have hb := b.isLt
  have e : U b / 2 ^ k = ((b.toNat / 2 ^ k : Nat) : Int) := by unfold U; simp
  have hle : b.toNat / 2 ^ k ≤ b.toNat := Nat.div_le_self _ _
  rw [e, show (1 : Int) = ((1 : Nat) : Int) from rfl, u32_and_nat _ _ (by omega) (by decide), nat_mask1]
  rw [show b.getLsbD k = b.toNat.testBit k from rfl, Nat.testBit_eq_decide_div_mod_eq]
  rcases Nat.mod_two_eq_zero_or_one (b.toNat / 2 ^ k) with h | h <;> rw [h] <;> rfl
theorem shl_V (t : Nat) (h : t < 8) : (2 ^ t % 256 : Int) = V (1#8 <<< t) := by
  have : ∀ t : Fin 8, (2 ^ t.val % 256 : Int) = V (1#8 <<< t.val) := by decide +kernel
  exact this ⟨t, h⟩
theorem cellsOf_set (l : List (BitVec 8)) (q : Nat) (x : BitVec 8) : cellsOf (l.set q x) = (cellsOf l).set q (.int .u8 (V x)) := by
  unfold cellsOf; rw [List.map_set]

set_option maxRecDepth 100000 in
set_option maxHeartbeats 1600000 in
theorem tells_some (ba oa ca : Nat) (A : List (BitVec 8)) (at0 : Int) (b : Crc.W) (w : World) (hT : Tabs w) (h0 : 0 < A.length) (ka : A.length ≤ ca) (ma : ca ≤ 140737488351232) (hb0 : (U b == 0) = false)
    (hat1 : -9223372036854775808 ≤ at0) (hat2 : at0 ≤ 9223372036854775807)
    (hA : ∀ j, j < A.length → w.cell? ⟨ba, oa + j, none⟩ = some (.int .u8 (V (A.getD j 0#8)))) :
    Calls Tryd.prog 5 #[.slice (some ⟨ba, oa, none⟩) A.length ca, .int .i64 at0, .int .u32 (U b)] w fun e w' => e = .returned (.bool true) ∧ Below w.heap.size w w' := by
  obtain ⟨i0, hi, hz0, hz1, hz2⟩ := info_parts info5
  have ga : ba < w.heap.size := World.block_lt_of_cell? w _ (hA 0 h0)
  have hne : ((A.length : Int) == 0) = false := beq_eq_false_iff_ne.2 (by omega)
  obtain ⟨s, hs⟩ : ∃ s : Nat, at0 % (8 * (A.length : Int)) = (s : Int) := ⟨(at0 % (8 * (A.length : Int))).toNat, by have := Int.emod_nonneg at0 (b := 8 * (A.length : Int)) (by omega); omega⟩
  have hs1 : s < 8 * A.length := by have := Int.emod_lt_of_pos at0 (b := 8 * (A.length : Int)) (by omega); omega
  have CC : Hid (Calls Tryd.prog 20 #[.int .i64 at0, .int .i64 (8 * (A.length : Int))] w fun e w' => e = .returned (.int .i64 (s : Int)) ∧ w' = w) := by
    have := count_any at0 (8 * (A.length : Int)) w hat1 hat2 (by omega) (by omega)
    rw [hs] at this
    exact this
  clear hs
  go_enter Tryd.func5, Tryd.ntmps5
  go_wp2_with fail
  refine CC.out.mono ?_
  rintro e w1 ⟨rfl, rfl⟩
  clear CC
  have hN := news_cells hA
  have h1 := one_cells A
  go_wp2_with (at_builtin; refine wpList_append_lies _ rfl _ _ 22 rfl w1.heap.size 5 i0 (.int .u8 0) 1 1 Tryd.underlying22 hi hz0 hz1 hz2 rfl (by omega) _ 0 [] rfl (World.ownsRow_nil _ _ _ _) ⟨ba, oa, none⟩ A.length ca (cellsOf A) rfl (by simp [cellsOf]) hN h1 h0 ?c3 ?c4 (Nat.le_refl _) _ rfl ?_)
  case c3 => unfold maxLen; omega
  case c4 => omega
  intro g cap w2 hown hgrow hlies hlt
  have hb : Below w1.heap.size w1 w2 := (Below.refl _ _).grown hgrow (Nat.le_refl _) (fun k e => by cases e)
  clear hN h1 hgrow hlies hlt hz0 hz1 hz2 hi
  go_wp2_with fail
  go_loopw [8, 9] (fun v i wr => ∃ k : Nat, k ≤ 32 ∧ s + k ≤ 8 * A.length ∧ i = .int .i64 k ∧ v = .bool (Crc.anyTo b k) ∧ wr.ownsRow w1.heap.size 5 1 (.slice (some ⟨g, 0, none⟩) A.length cap) A.length (cellsOf (Crc.flips A s b k)) ∧ Below w1.heap.size w1 wr)
    (fun _ i _ => 32 - (intOf i).toNat)
  case atStart => exact ⟨0, by omega, by omega, rfl, rfl, hown, hb⟩
  case round =>
    clear hown hb
    obtain ⟨k, hk, hk2, rfl, rfl, hown, hb⟩ := hrel
    by_cases hlt : k < 32 ∧ s + k < 8 * A.length
    · obtain ⟨hlt1, hlt2⟩ := hlt
      have e1 : (k : Int) < 32 := by omega
      have e2 : (s : Int) + (k : Int) < 8 * (A.length : Int) := by omega
      have hF : Hid (Crc.flips A s b (k + 1) = if b.getLsbD k then Crc.flipAt (Crc.flips A s b k) (s + k) else Crc.flips A s b k) := rfl
      have hG : Hid (Crc.anyTo b (k + 1) = (b.getLsbD k || Crc.anyTo b k)) := rfl
      have hlen := Crc.flips_length A s b k
      have ht := bit_test b k
      have hz := hb.size
      generalize Crc.flips A s b k = L at *
      generalize Crc.anyTo b k = any at *
      have hc : wr.cell? ⟨g, (s + k) / 8, none⟩ = some (.int .u8 (V (L.getD ((s + k) / 8) 0#8))) := by
        rw [hown.cellAt _ (by omega)]
        have : (s + k) / 8 < L.length := by omega
        simp [cellsOf, this]
      have hfz := hown.frozenAt ((s + k) / 8)
      have hst := fun u => hown.stored ((s + k) / 8) u
      cases hbit : b.getLsbD k
      · rw [hbit] at ht
        have hG' : Hid (Crc.anyTo b (k + 1) = any) := by rw [show Crc.anyTo b (k + 1) = _ from hG.out, hbit]; simp [Hid]
        have hF' : Hid (Crc.flips A s b (k + 1) = L) := by rw [show Crc.flips A s b (k + 1) = _ from hF.out, hbit]; simp [Hid]
        clear hF hG hbit hst hc hfz
        go_wp2
        go_roundw
        case rel => exact ⟨k + 1, by omega, by omega, by go_num, by rw [hG'.out], by rw [hF'.out]; exact hown, hb⟩
        case measure => simp [intOf]; omega
      · rw [hbit] at ht
        have hG' : Hid (Crc.anyTo b (k + 1) = true) := by rw [show Crc.anyTo b (k + 1) = _ from hG.out, hbit]; simp [Hid]
        have hF' : Hid (Crc.flips A s b (k + 1) = L.set ((s + k) / 8) (L.getD ((s + k) / 8) 0#8 ^^^ (1#8 <<< ((s + k) % 8)))) := by rw [show Crc.flips A s b (k + 1) = _ from hF.out, hbit]; rfl
        have HST : Hid _ := hst
        have hg : w1.heap.size ≤ g := (hown.lt g rfl).1
        clear hF hG hbit hst
        generalize L.getD ((s + k) / 8) 0#8 = c at *
        go_wp2
        go_roundw
        case rel =>
          refine ⟨k + 1, by omega, by omega, by go_num, by rw [hG'.out], ?_, hb.setCell (p := ⟨g, (s + k) / 8, none⟩) hg _⟩
          rw [hF'.out, cellsOf_set, ← u8_xor_V, ← shl_V _ (Nat.mod_lt _ (by decide))]
          exact (HST.out _).1
        case measure => simp [intOf]; omega
    · have hend : s + k = 8 * A.length ∨ k = 32 := by omega
      have TL := Crc.tells A s b k hk2 hk
      have T0 : Tabs wr := hT.below hb hT.size
      have sA : Seen wr (some ⟨ba, oa, none⟩) A.length A := Seen.below (⟨rfl, by unfold maxLen; omega, .inr ⟨ba, oa, rfl, hA⟩⟩ : Seen w1 (some ⟨ba, oa, none⟩) A.length A) hb
      have sD := seen_owned hown (Crc.flips_length A s b k) (by unfold maxLen; omega)
      obtain ⟨rA, h8⟩ : ∃ r, Crc.more 0#32 A = r := ⟨_, rfl⟩
      obtain ⟨rD, h7⟩ : ∃ r, Crc.more 0#32 (Crc.flips A s b k) = r := ⟨_, rfl⟩
      rw [h7, h8] at TL
      have heq : ((U rA != U rD) == Crc.anyTo b k) = true := by
        cases hany : Crc.anyTo b k
        · rw [TL.2 hany]; simp
        · have : U rA ≠ U rD := fun e => by have := TL.1 (U_inj e); rw [hany] at this; cases this
          simp [this]
      have CA : ∀ w', Below wr.heap.size wr w' → Hid (Calls Tryd.prog 12 #[.slice (some ⟨ba, oa, none⟩) A.length ca] w' fun e w'' => e = .returned (.int .u32 (U rA)) ∧ Below wr.heap.size wr w'') := fun w' h => sum_later ca h T0 sA h8
      have CD : ∀ w', Below wr.heap.size wr w' → Hid (Calls Tryd.prog 12 #[.slice (some ⟨g, 0, none⟩) A.length cap] w' fun e w'' => e = .returned (.int .u32 (U rD)) ∧ Below wr.heap.size wr w'') := fun w' h => sum_later cap h T0 sD h7
      have CK : ∀ w', Below wr.heap.size wr w' → Hid (Calls Tryd.prog 19 #[] w' fun e w'' => e = .returned (.bool true) ∧ Below wr.heap.size wr w'') := fun w' h => known_later h T0
      clear TL T0 sA sD h7 h8 hown hA hT
      generalize Crc.anyTo b k = any at *
      by_cases h32 : (k : Int) < 32
      · have e2 : ¬ (s : Int) + (k : Int) < 8 * (A.length : Int) := by omega
        go_wp2_with fail
        refine (CA _ (Below.refl _ _)).out.mono ?_
        rintro e w3 ⟨rfl, hb3⟩
        go_wp2_with fail
        refine (CD _ hb3).out.mono ?_
        rintro e w4 ⟨rfl, hb4⟩
        go_wp2_with fail
        refine (CK _ hb4).out.mono ?_
        rintro e w5 ⟨rfl, hb5⟩
        go_wp2
        go_ret
        exact ⟨rfl, hb.trans (hb5.mono hb.size)⟩
      · clear hlt
        go_wp2_with fail
        refine (CA _ (Below.refl _ _)).out.mono ?_
        rintro e w3 ⟨rfl, hb3⟩
        go_wp2_with fail
        refine (CD _ hb3).out.mono ?_
        rintro e w4 ⟨rfl, hb4⟩
        go_wp2_with fail
        refine (CK _ hb4).out.mono ?_
        rintro e w5 ⟨rfl, hb5⟩
        go_wp2
        go_ret
        exact ⟨rfl, hb.trans (hb5.mono hb.size)⟩

/-- No bytes, or no bit to turn. -/
theorem tells_none (aa : Option Addr) (la ca : Nat) (at0 : Int) (b : Crc.W) (w : World) (hT : Tabs w) (h : la = 0 ∨ U b = 0) :
    Calls Tryd.prog 5 #[.slice aa la ca, .int .i64 at0, .int .u32 (U b)] w fun e w' => e = .returned (.bool true) ∧ Below w.heap.size w w' := by
  have CK := known_any w hT
  by_cases h0 : la = 0
  · subst h0
    go_enter Tryd.func5, Tryd.ntmps5
    go_wp2_with fail
    refine CK.mono ?_
    rintro e w1 ⟨rfl, hb⟩
    go_wp2
    go_ret
    exact ⟨rfl, hb⟩
  · have hne : ((la : Int) == 0) = false := beq_eq_false_iff_ne.2 (by omega)
    have hb0 : U b = 0 := h.resolve_left h0
    rw [hb0]
    clear h hb0
    go_enter Tryd.func5, Tryd.ntmps5
    go_wp2_with fail
    refine CK.mono ?_
    rintro e w1 ⟨rfl, hb⟩
    go_wp2
    go_ret
    exact ⟨rfl, hb⟩
/-- The law, at every input within the form's reach. -/
theorem tells_walk (aa : Option Addr) (la ca : Nat) (A : List (BitVec 8)) (at0 b : Int) (w : World) (hT : Tabs w) (hA : Seen w aa la A) (ka : la ≤ ca) (ma : ca ≤ 140737488351232)
    (w1 : (Lit.int .i64 at0).wf = true) (w2 : (Lit.int .u32 b).wf = true) :
    Calls Tryd.prog 5 #[.slice aa la ca, .int .i64 at0, .int .u32 b] w fun e w' => e = .returned (.bool true) ∧ Below w.heap.size w w' := by
  have hb : 0 ≤ b ∧ b ≤ 4294967295 := by simpa [Lit.wf, IntKind.min, IntKind.max, IntKind.bits, IntKind.signed] using w2
  have ha : -9223372036854775808 ≤ at0 ∧ at0 ≤ 9223372036854775807 := by simpa [Lit.wf, IntKind.min, IntKind.max, IntKind.bits, IntKind.signed] using w1
  obtain ⟨r, rfl⟩ : ∃ r : Crc.W, b = U r := ⟨BitVec.ofNat 32 b.toNat, by unfold U; rw [BitVec.toNat_ofNat, Nat.mod_eq_of_lt (by omega)]; omega⟩
  by_cases h0 : la = 0 ∨ U r = 0
  · exact tells_none aa la ca at0 r w hT h0
  · obtain ⟨rfl, _, hc⟩ := hA
    rcases hc with hc | ⟨ba, oa, rfl, hc⟩
    · exact absurd (Or.inl hc) h0
    · exact tells_some ba oa ca A at0 r w hT (by omega) ka ma (beq_eq_false_iff_ne.2 (by omega)) ha.1 ha.2 hc
end Go.Proofs.YtdohclbkdifafaaDoor
