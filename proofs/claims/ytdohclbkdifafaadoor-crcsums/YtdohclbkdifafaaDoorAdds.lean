/- The statement CrcAdds: the sum of three lists added bit by bit; here the walk. -/
import Derived.Test.YtdohclbkdifafaaDoorKnown
import Derived.Deep.RegionHeld3
import Derived.Deep.AppendLies
import Derived.Deep.DrawnRows
namespace Go.Proofs.YtdohclbkdifafaaDoor
open Go.RowKit
attribute [local go_sem ↓] Go.wp_at_zero Go.wp_at_succ
set_option linter.unusedVariables false

theorem u8_xor_V (a b : BitVec 8) : bits BinOp.xor IntKind.u8 (V a) (V b) = V (a ^^^ b) := by
  have h1 := a.isLt
  have h2 := b.isLt
  unfold V
  rw [u8_xor_nat _ _ (by omega) (by omega), BitVec.toNat_xor]
theorem info5 : (Tryd.prog.info? 5).map (fun i => (i.zero, i.size, i.bytes)) = some (some (.int .u8 0), 1, 1) := by kernel_rfl
/-- Three lists, added. -/
def three (A B C : List (BitVec 8)) (n : Nat) : List (BitVec 8) := List.zipWith (· ^^^ ·) (List.zipWith (· ^^^ ·) (A.take n) (B.take n)) (C.take n)
theorem three_length (A B C : List (BitVec 8)) (n : Nat) (h1 : n ≤ A.length) (h2 : n ≤ B.length) (h3 : n ≤ C.length) : (three A B C n).length = n := by simp [three]; omega
theorem three_succ (A B C : List (BitVec 8)) (k : Nat) (h1 : k < A.length) (h2 : k < B.length) (h3 : k < C.length) :
    three A B C (k + 1) = three A B C k ++ [A.getD k 0#8 ^^^ B.getD k 0#8 ^^^ C.getD k 0#8] := by
  unfold three
  rw [List.take_add_one, List.take_add_one, List.take_add_one]
  simp only [List.getElem?_eq_getElem h1, List.getElem?_eq_getElem h2, List.getElem?_eq_getElem h3, Option.toList_some]
  rw [List.zipWith_append (by simp; omega), List.zipWith_append (by simp; omega)]
  simp [h1, h2, h3]
theorem cellsOf_snoc (l : List (BitVec 8)) (c : BitVec 8) : cellsOf (l ++ [c]) = cellsOf l ++ [.int .u8 (V c)] := by simp [cellsOf]
theorem cellsOf_length (l : List (BitVec 8)) : (cellsOf l).length = l.length := by simp [cellsOf]

theorem Seen.below {w w' : World} {a : Option Addr} {len : Nat} {l : List (BitVec 8)} (h : Seen w a len l) (hb : Below w.heap.size w w') : Seen w' a len l := by
  obtain ⟨h1, h2, h3⟩ := h
  refine ⟨h1, h2, ?_⟩
  rcases h3 with h3 | ⟨b, off, ha, hc⟩
  · exact .inl h3
  · refine .inr ⟨b, off, ha, fun j hj => ?_⟩
    have hcj := hc j hj
    rw [hb.cell (p := ⟨b, off + j, none⟩) (World.block_lt_of_cell? w _ hcj)]
    exact hcj
theorem Seen.take {w : World} {a : Option Addr} {len : Nat} {l : List (BitVec 8)} (h : Seen w a len l) (n : Nat) (hn : n ≤ len) : Seen w a n (l.take n) := by
  obtain ⟨h1, h2, h3⟩ := h
  refine ⟨by simp; omega, by simp; omega, ?_⟩
  rcases h3 with h3 | ⟨b, off, ha, hc⟩
  · exact .inl (by omega)
  · refine .inr ⟨b, off, ha, fun j hj => ?_⟩
    simp at hj
    rw [hc j (by omega)]
    have hj' : j < n := by omega
    simp [hj']
theorem seen_owned {w : World} {base g n cap : Nat} {l : List (BitVec 8)} (h : w.ownsRow base 5 1 (.slice (some ⟨g, 0, none⟩) n cap) n (cellsOf l)) (hl : l.length = n) (hm : n ≤ maxLen) : Seen w (some ⟨g, 0, none⟩) n l := by
  refine ⟨hl.symm, by omega, .inr ⟨g, 0, rfl, fun j hj => ?_⟩⟩
  rw [Nat.zero_add, h.cellAt j (by omega)]
  simp [cellsOf, hj]
/-- Sum, in whatever later world. -/
theorem sum_later {w0 w : World} {a : Option Addr} {len : Nat} (cap : Nat) {l : List (BitVec 8)} {r : Crc.W} (hb : Below w0.heap.size w0 w) (hT : Tabs w0) (h : Seen w0 a len l) (hr : Crc.more 0#32 l = r) :
    Calls Tryd.prog 12 #[.slice a len cap] w fun e w' => e = .returned (.int .u32 (U r)) ∧ Below w0.heap.size w0 w' := by
  subst hr
  refine (sum_any a len cap l w (hT.below hb hT.size) (h.below hb)).mono ?_
  rintro e w' ⟨he, n, rfl⟩
  exact ⟨he, below_drewN' hb n⟩
theorem known_later {w0 w : World} (hb : Below w0.heap.size w0 w) (hT : Tabs w0) :
    Calls Tryd.prog 19 #[] w fun e w' => e = .returned (.bool true) ∧ Below w0.heap.size w0 w' := by
  refine (known_any w (hT.below hb hT.size)).mono ?_
  rintro e w' ⟨he, hb'⟩
  exact ⟨he, hb.trans (hb'.mono hb.size)⟩

set_option maxRecDepth 100000 in
set_option maxHeartbeats 3200000 in
theorem adds_a (ba oa ca bb ob cb bc oc cc n lb lc : Nat) (A B C : List (BitVec 8)) (w : World) (hT : Tabs w) (h1 : n ≤ lb) (h2 : n ≤ lc)
    (h0 : 0 < n) (hla : n = A.length) (hlb : lb = B.length) (hlc : lc = C.length) (ka : n ≤ ca) (kb : lb ≤ cb) (kc : lc ≤ cc) (ma : ca ≤ 140737488351232) (mb : cb ≤ 140737488351232) (mc : cc ≤ 140737488351232)
    (hA : ∀ j, j < A.length → w.cell? ⟨ba, oa + j, none⟩ = some (.int .u8 (V (A.getD j 0#8))))
    (hB : ∀ j, j < B.length → w.cell? ⟨bb, ob + j, none⟩ = some (.int .u8 (V (B.getD j 0#8))))
    (hC : ∀ j, j < C.length → w.cell? ⟨bc, oc + j, none⟩ = some (.int .u8 (V (C.getD j 0#8)))) :
    Calls Tryd.prog 6 #[.slice (some ⟨ba, oa, none⟩) n ca, .slice (some ⟨bb, ob, none⟩) lb cb, .slice (some ⟨bc, oc, none⟩) lc cc] w fun e w' => e = .returned (.bool true) ∧ Below w.heap.size w w' := by
  obtain ⟨i0, hi, hz0, hz1, hz2⟩ := info_parts info5
  have ga := World.block_lt_of_cell? w _ (hA 0 (by omega))
  have gb := World.block_lt_of_cell? w _ (hB 0 (by omega))
  have gc := World.block_lt_of_cell? w _ (hC 0 (by omega))
  have hnA : n ≤ A.length := by omega
  have hnB : n ≤ B.length := by omega
  have hnC : n ≤ C.length := by omega
  have HA : Hid (n = A.length) := hla
  have HB : Hid (lb = B.length) := hlb
  have HC : Hid (lc = C.length) := hlc
  clear hla hlb hlc
  go_enter Tryd.func6, Tryd.ntmps6
  go_wp2
  go_loopw [8, 9] (fun v i wr => ∃ k : Nat, k ≤ n ∧ i = .int .i64 k ∧ wr.ownsRow w.heap.size 5 1 v k (cellsOf (three A B C k)) ∧ Below w.heap.size w wr)
    (fun _ i _ => n - (intOf i).toNat)
  case atStart => exact ⟨0, Nat.zero_le _, rfl, World.ownsRow_nil _ _ _ _, Below.refl _ _⟩
  case round =>
    obtain ⟨k, hk, rfl, hown, hb⟩ := hrel
    by_cases hlt : k < n
    · have cA := (hb.cell (p := ⟨ba, oa + k, none⟩) ga).trans (hA k (by omega))
      have cB := (hb.cell (p := ⟨bb, ob + k, none⟩) gb).trans (hB k (by omega))
      have cC := (hb.cell (p := ⟨bc, oc + k, none⟩) gc).trans (hC k (by omega))
      have HS : Hid _ := three_succ A B C k (by omega) (by omega) (by omega)
      have hx := u8_xor_V
      generalize A.getD k 0#8 = x at *
      generalize B.getD k 0#8 = y at *
      generalize C.getD k 0#8 = z at *
      have hk0 : (0 : Int) ≤ (k : Int) := Int.natCast_nonneg _
      have hk1 : (k : Int) < (n : Int) := by omega
      have hk2 : (k : Int) < (lb : Int) := by omega
      have hk3 : (k : Int) < (lc : Int) := by omega
      have nA : u8.ownBlock ≠ some ba := fun e => by have := (hown.lt _ e).1; omega
      have nB : u8.ownBlock ≠ some bb := fun e => by have := (hown.lt _ e).1; omega
      have nC : u8.ownBlock ≠ some bc := fun e => by have := (hown.lt _ e).1; omega
      have za := hb.size
      go_wp2_with fail
      go_region_held3 (fun w' => w'.cell? ⟨ba, oa + k, none⟩ = some (.int .u8 (V x)) ∧ w'.cell? ⟨bb, ob + k, none⟩ = some (.int .u8 (V y)) ∧ w'.cell? ⟨bc, oc + k, none⟩ = some (.int .u8 (V z)))
        (first
          | go_keep
          | (go_split_ands
             refine ⟨?_, ?_, ?_⟩
             · (rw [hgrow.cell_far _ (by simp; omega) (Ne.symm nA)]; assumption)
             · (rw [hgrow.cell_far _ (by simp; omega) (Ne.symm nB)]; assumption)
             · (rw [hgrow.cell_far _ (by simp; omega) (Ne.symm nC)]; assumption)))
        ((refine step_append_lies _ (by rfl) _ _ _ (by rfl) w.heap.size 5 i0 _ 1 1 Tryd.underlying22 hi hz0 hz1 hz2 rfl (by omega) u8 k (cellsOf (three A B C k)) (by rfl) ((hown.alloc _).drew)
            ⟨wr.heap.size, 0, none⟩ 1 1 [.int .u8 (V (x ^^^ y ^^^ z))] (by rfl) (by rfl) (World.news_of_block (cs := #[.int .u8 (V (x ^^^ y ^^^ z))]) (t := 5) (fr := (0, 0)) (heap_alloc_new wr _)) (by simp [Value.oneCell'])
            (by omega) (by unfold maxLen; omega) (by omega) (by simp; omega) (wr.heap.size + 1) (by simp) ?_; intro gg cap w1 hown1 hgrow hat hlt1))
      clear hx
      go_wp2
      go_roundw
      case rel => exact ⟨k + 1, by omega, by go_num, by rw [HS.out, cellsOf_snoc]; exact hown1, ((hb.alloc za _).drew).grown hgrow (by simp; omega) (fun k e => (hown.lt _ e).1)⟩
      case measure => simp [intOf]; omega
    · obtain rfl : k = n := by omega
      obtain ⟨g, cap, rfl, hg1, hg2⟩ := hown.form h0
      have T0 : Tabs wr := hT.below hb hT.size
      have sA : Seen wr (some ⟨ba, oa, none⟩) k (A.take k) := by
        have : Seen w (some ⟨ba, oa, none⟩) A.length A := ⟨rfl, by unfold maxLen; have := HA.out; omega, .inr ⟨ba, oa, rfl, hA⟩⟩
        exact (this.take k hnA).below hb
      have sB : Seen wr (some ⟨bb, ob, none⟩) k (B.take k) := by
        have : Seen w (some ⟨bb, ob, none⟩) B.length B := ⟨rfl, by unfold maxLen; have := HB.out; omega, .inr ⟨bb, ob, rfl, hB⟩⟩
        exact (this.take k hnB).below hb
      have sC : Seen wr (some ⟨bc, oc, none⟩) k (C.take k) := by
        have : Seen w (some ⟨bc, oc, none⟩) C.length C := ⟨rfl, by unfold maxLen; have := HC.out; omega, .inr ⟨bc, oc, rfl, hC⟩⟩
        exact (this.take k hnC).below hb
      have sD := seen_owned hown (three_length A B C k hnA hnB hnC) (by unfold maxLen; omega)
      have hsum : Crc.more 0#32 (three A B C k) = _ := Crc.more_three (A.take k) (B.take k) (C.take k) (by simp; omega) (by simp; omega)
      obtain ⟨rD, h7⟩ : ∃ r, Crc.more 0#32 (three A B C k) = r := ⟨_, rfl⟩
      obtain ⟨rA, h8⟩ : ∃ r, Crc.more 0#32 (A.take k) = r := ⟨_, rfl⟩
      obtain ⟨rB, h9⟩ : ∃ r, Crc.more 0#32 (B.take k) = r := ⟨_, rfl⟩
      obtain ⟨rC, h10⟩ : ∃ r, Crc.more 0#32 (C.take k) = r := ⟨_, rfl⟩
      rw [h7, h8, h9, h10] at hsum
      have heq : (U rD == U (rA ^^^ rB ^^^ rC)) = true := by rw [hsum]; simp
      have CD : ∀ w', Below wr.heap.size wr w' → Hid (Calls Tryd.prog 12 #[.slice (some ⟨g, 0, none⟩) k cap] w' fun e w'' => e = .returned (.int .u32 (U rD)) ∧ Below wr.heap.size wr w'') := fun w' h => sum_later cap h T0 sD h7
      have CA : ∀ w', Below wr.heap.size wr w' → Hid (Calls Tryd.prog 12 #[.slice (some ⟨ba, oa, none⟩) k ca] w' fun e w'' => e = .returned (.int .u32 (U rA)) ∧ Below wr.heap.size wr w'') := fun w' h => sum_later ca h T0 sA h8
      have CB : ∀ w', Below wr.heap.size wr w' → Hid (Calls Tryd.prog 12 #[.slice (some ⟨bb, ob, none⟩) k cb] w' fun e w'' => e = .returned (.int .u32 (U rB)) ∧ Below wr.heap.size wr w'') := fun w' h => sum_later cb h T0 sB h9
      have CC : ∀ w', Below wr.heap.size wr w' → Hid (Calls Tryd.prog 12 #[.slice (some ⟨bc, oc, none⟩) k cc] w' fun e w'' => e = .returned (.int .u32 (U rC)) ∧ Below wr.heap.size wr w'') := fun w' h => sum_later cc h T0 sC h10
      have CK : ∀ w', Below wr.heap.size wr w' → Hid (Calls Tryd.prog 19 #[] w' fun e w'' => e = .returned (.bool true) ∧ Below wr.heap.size wr w'') := fun w' h => known_later h T0
      have hx := u32_xor_U
      have B0 := Below.refl wr.heap.size wr
      have i1 : (0 : Int) ≤ (k : Int) := Int.natCast_nonneg _
      have i2 : (k : Int) ≤ (ca : Int) := by omega
      have i3 : (k : Int) ≤ (cb : Int) := by omega
      have i4 : (k : Int) ≤ (cc : Int) := by omega
      clear hsum h7 h8 h9 h10 sA sB sC sD T0 hown hA hB hC HA HB HC hT
      go_wp2_with fail
      go_region_held3 (fun w' => Below wr.heap.size wr w')
        (first | assumption | (exact Below.drew (by assumption)))
        (first
          | (go_at_call_of 12 (Value.slice (some ⟨g, 0, none⟩) k cap); refine (CD _ (by assumption)).out.mono ?_; rintro e w2 ⟨rfl, hb2⟩)
          | (go_at_call_of 12 (Value.slice (some ⟨ba, oa, none⟩) k ca); refine (CA _ (by assumption)).out.mono ?_; rintro e w2 ⟨rfl, hb2⟩)
          | (go_at_call_of 12 (Value.slice (some ⟨bb, ob, none⟩) k cb); refine (CB _ (by assumption)).out.mono ?_; rintro e w2 ⟨rfl, hb2⟩)
          | (go_at_call_of 12 (Value.slice (some ⟨bc, oc, none⟩) k cc); refine (CC _ (by assumption)).out.mono ?_; rintro e w2 ⟨rfl, hb2⟩)
          | (go_at_call 19; refine (CK _ (by assumption)).out.mono ?_; rintro e w2 ⟨rfl, hb2⟩))
      go_wp2
      go_ret
      exact ⟨rfl, hb.trans (Below.mono (by assumption) hb.size)⟩

set_option maxRecDepth 100000 in
set_option maxHeartbeats 3200000 in
theorem adds_b (ba oa ca bb ob cb bc oc cc n la lc : Nat) (A B C : List (BitVec 8)) (w : World) (hT : Tabs w) (h1 : n < la) (h2 : n ≤ lc)
    (h0 : 0 < n) (hla : la = A.length) (hlb : n = B.length) (hlc : lc = C.length) (ka : la ≤ ca) (kb : n ≤ cb) (kc : lc ≤ cc) (ma : ca ≤ 140737488351232) (mb : cb ≤ 140737488351232) (mc : cc ≤ 140737488351232)
    (hA : ∀ j, j < A.length → w.cell? ⟨ba, oa + j, none⟩ = some (.int .u8 (V (A.getD j 0#8))))
    (hB : ∀ j, j < B.length → w.cell? ⟨bb, ob + j, none⟩ = some (.int .u8 (V (B.getD j 0#8))))
    (hC : ∀ j, j < C.length → w.cell? ⟨bc, oc + j, none⟩ = some (.int .u8 (V (C.getD j 0#8)))) :
    Calls Tryd.prog 6 #[.slice (some ⟨ba, oa, none⟩) la ca, .slice (some ⟨bb, ob, none⟩) n cb, .slice (some ⟨bc, oc, none⟩) lc cc] w fun e w' => e = .returned (.bool true) ∧ Below w.heap.size w w' := by
  obtain ⟨i0, hi, hz0, hz1, hz2⟩ := info_parts info5
  have ga := World.block_lt_of_cell? w _ (hA 0 (by omega))
  have gb := World.block_lt_of_cell? w _ (hB 0 (by omega))
  have gc := World.block_lt_of_cell? w _ (hC 0 (by omega))
  have hnA : n ≤ A.length := by omega
  have hnB : n ≤ B.length := by omega
  have hnC : n ≤ C.length := by omega
  have HA : Hid (la = A.length) := hla
  have HB : Hid (n = B.length) := hlb
  have HC : Hid (lc = C.length) := hlc
  clear hla hlb hlc
  go_enter Tryd.func6, Tryd.ntmps6
  go_wp2
  go_loopw [8, 9] (fun v i wr => ∃ k : Nat, k ≤ n ∧ i = .int .i64 k ∧ wr.ownsRow w.heap.size 5 1 v k (cellsOf (three A B C k)) ∧ Below w.heap.size w wr)
    (fun _ i _ => n - (intOf i).toNat)
  case atStart => exact ⟨0, Nat.zero_le _, rfl, World.ownsRow_nil _ _ _ _, Below.refl _ _⟩
  case round =>
    obtain ⟨k, hk, rfl, hown, hb⟩ := hrel
    by_cases hlt : k < n
    · have cA := (hb.cell (p := ⟨ba, oa + k, none⟩) ga).trans (hA k (by omega))
      have cB := (hb.cell (p := ⟨bb, ob + k, none⟩) gb).trans (hB k (by omega))
      have cC := (hb.cell (p := ⟨bc, oc + k, none⟩) gc).trans (hC k (by omega))
      have HS : Hid _ := three_succ A B C k (by omega) (by omega) (by omega)
      have hx := u8_xor_V
      generalize A.getD k 0#8 = x at *
      generalize B.getD k 0#8 = y at *
      generalize C.getD k 0#8 = z at *
      have hk0 : (0 : Int) ≤ (k : Int) := Int.natCast_nonneg _
      have hk1 : (k : Int) < (la : Int) := by omega
      have hk2 : (k : Int) < (n : Int) := by omega
      have hk3 : (k : Int) < (lc : Int) := by omega
      have nA : u8.ownBlock ≠ some ba := fun e => by have := (hown.lt _ e).1; omega
      have nB : u8.ownBlock ≠ some bb := fun e => by have := (hown.lt _ e).1; omega
      have nC : u8.ownBlock ≠ some bc := fun e => by have := (hown.lt _ e).1; omega
      have za := hb.size
      go_wp2_with fail
      go_region_held3 (fun w' => w'.cell? ⟨ba, oa + k, none⟩ = some (.int .u8 (V x)) ∧ w'.cell? ⟨bb, ob + k, none⟩ = some (.int .u8 (V y)) ∧ w'.cell? ⟨bc, oc + k, none⟩ = some (.int .u8 (V z)))
        (first
          | go_keep
          | (go_split_ands
             refine ⟨?_, ?_, ?_⟩
             · (rw [hgrow.cell_far _ (by simp; omega) (Ne.symm nA)]; assumption)
             · (rw [hgrow.cell_far _ (by simp; omega) (Ne.symm nB)]; assumption)
             · (rw [hgrow.cell_far _ (by simp; omega) (Ne.symm nC)]; assumption)))
        ((refine step_append_lies _ (by rfl) _ _ _ (by rfl) w.heap.size 5 i0 _ 1 1 Tryd.underlying22 hi hz0 hz1 hz2 rfl (by omega) u8 k (cellsOf (three A B C k)) (by rfl) ((hown.alloc _).drew)
            ⟨wr.heap.size, 0, none⟩ 1 1 [.int .u8 (V (x ^^^ y ^^^ z))] (by rfl) (by rfl) (World.news_of_block (cs := #[.int .u8 (V (x ^^^ y ^^^ z))]) (t := 5) (fr := (0, 0)) (heap_alloc_new wr _)) (by simp [Value.oneCell'])
            (by omega) (by unfold maxLen; omega) (by omega) (by simp; omega) (wr.heap.size + 1) (by simp) ?_; intro gg cap w1 hown1 hgrow hat hlt1))
      clear hx
      go_wp2
      go_roundw
      case rel => exact ⟨k + 1, by omega, by go_num, by rw [HS.out, cellsOf_snoc]; exact hown1, ((hb.alloc za _).drew).grown hgrow (by simp; omega) (fun k e => (hown.lt _ e).1)⟩
      case measure => simp [intOf]; omega
    · obtain rfl : k = n := by omega
      obtain ⟨g, cap, rfl, hg1, hg2⟩ := hown.form h0
      have T0 : Tabs wr := hT.below hb hT.size
      have sA : Seen wr (some ⟨ba, oa, none⟩) k (A.take k) := by
        have : Seen w (some ⟨ba, oa, none⟩) A.length A := ⟨rfl, by unfold maxLen; have := HA.out; omega, .inr ⟨ba, oa, rfl, hA⟩⟩
        exact (this.take k hnA).below hb
      have sB : Seen wr (some ⟨bb, ob, none⟩) k (B.take k) := by
        have : Seen w (some ⟨bb, ob, none⟩) B.length B := ⟨rfl, by unfold maxLen; have := HB.out; omega, .inr ⟨bb, ob, rfl, hB⟩⟩
        exact (this.take k hnB).below hb
      have sC : Seen wr (some ⟨bc, oc, none⟩) k (C.take k) := by
        have : Seen w (some ⟨bc, oc, none⟩) C.length C := ⟨rfl, by unfold maxLen; have := HC.out; omega, .inr ⟨bc, oc, rfl, hC⟩⟩
        exact (this.take k hnC).below hb
      have sD := seen_owned hown (three_length A B C k hnA hnB hnC) (by unfold maxLen; omega)
      have hsum : Crc.more 0#32 (three A B C k) = _ := Crc.more_three (A.take k) (B.take k) (C.take k) (by simp; omega) (by simp; omega)
      obtain ⟨rD, h7⟩ : ∃ r, Crc.more 0#32 (three A B C k) = r := ⟨_, rfl⟩
      obtain ⟨rA, h8⟩ : ∃ r, Crc.more 0#32 (A.take k) = r := ⟨_, rfl⟩
      obtain ⟨rB, h9⟩ : ∃ r, Crc.more 0#32 (B.take k) = r := ⟨_, rfl⟩
      obtain ⟨rC, h10⟩ : ∃ r, Crc.more 0#32 (C.take k) = r := ⟨_, rfl⟩
      rw [h7, h8, h9, h10] at hsum
      have heq : (U rD == U (rA ^^^ rB ^^^ rC)) = true := by rw [hsum]; simp
      have CD : ∀ w', Below wr.heap.size wr w' → Hid (Calls Tryd.prog 12 #[.slice (some ⟨g, 0, none⟩) k cap] w' fun e w'' => e = .returned (.int .u32 (U rD)) ∧ Below wr.heap.size wr w'') := fun w' h => sum_later cap h T0 sD h7
      have CA : ∀ w', Below wr.heap.size wr w' → Hid (Calls Tryd.prog 12 #[.slice (some ⟨ba, oa, none⟩) k ca] w' fun e w'' => e = .returned (.int .u32 (U rA)) ∧ Below wr.heap.size wr w'') := fun w' h => sum_later ca h T0 sA h8
      have CB : ∀ w', Below wr.heap.size wr w' → Hid (Calls Tryd.prog 12 #[.slice (some ⟨bb, ob, none⟩) k cb] w' fun e w'' => e = .returned (.int .u32 (U rB)) ∧ Below wr.heap.size wr w'') := fun w' h => sum_later cb h T0 sB h9
      have CC : ∀ w', Below wr.heap.size wr w' → Hid (Calls Tryd.prog 12 #[.slice (some ⟨bc, oc, none⟩) k cc] w' fun e w'' => e = .returned (.int .u32 (U rC)) ∧ Below wr.heap.size wr w'') := fun w' h => sum_later cc h T0 sC h10
      have CK : ∀ w', Below wr.heap.size wr w' → Hid (Calls Tryd.prog 19 #[] w' fun e w'' => e = .returned (.bool true) ∧ Below wr.heap.size wr w'') := fun w' h => known_later h T0
      have hx := u32_xor_U
      have B0 := Below.refl wr.heap.size wr
      have i1 : (0 : Int) ≤ (k : Int) := Int.natCast_nonneg _
      have i2 : (k : Int) ≤ (ca : Int) := by omega
      have i3 : (k : Int) ≤ (cb : Int) := by omega
      have i4 : (k : Int) ≤ (cc : Int) := by omega
      clear hsum h7 h8 h9 h10 sA sB sC sD T0 hown hA hB hC HA HB HC hT
      go_wp2_with fail
      go_region_held3 (fun w' => Below wr.heap.size wr w')
        (first | assumption | (exact Below.drew (by assumption)))
        (first
          | (go_at_call_of 12 (Value.slice (some ⟨g, 0, none⟩) k cap); refine (CD _ (by assumption)).out.mono ?_; rintro e w2 ⟨rfl, hb2⟩)
          | (go_at_call_of 12 (Value.slice (some ⟨ba, oa, none⟩) k ca); refine (CA _ (by assumption)).out.mono ?_; rintro e w2 ⟨rfl, hb2⟩)
          | (go_at_call_of 12 (Value.slice (some ⟨bb, ob, none⟩) k cb); refine (CB _ (by assumption)).out.mono ?_; rintro e w2 ⟨rfl, hb2⟩)
          | (go_at_call_of 12 (Value.slice (some ⟨bc, oc, none⟩) k cc); refine (CC _ (by assumption)).out.mono ?_; rintro e w2 ⟨rfl, hb2⟩)
          | (go_at_call 19; refine (CK _ (by assumption)).out.mono ?_; rintro e w2 ⟨rfl, hb2⟩))
      go_wp2
      go_ret
      exact ⟨rfl, hb.trans (Below.mono (by assumption) hb.size)⟩

set_option maxRecDepth 100000 in
set_option maxHeartbeats 3200000 in
theorem adds_c (ba oa ca bb ob cb bc oc cc n la lb : Nat) (A B C : List (BitVec 8)) (w : World) (hT : Tabs w) (h1 : n < la) (h2 : n < lb) (h3 : lb < la)
    (h0 : 0 < n) (hla : la = A.length) (hlb : lb = B.length) (hlc : n = C.length) (ka : la ≤ ca) (kb : lb ≤ cb) (kc : n ≤ cc) (ma : ca ≤ 140737488351232) (mb : cb ≤ 140737488351232) (mc : cc ≤ 140737488351232)
    (hA : ∀ j, j < A.length → w.cell? ⟨ba, oa + j, none⟩ = some (.int .u8 (V (A.getD j 0#8))))
    (hB : ∀ j, j < B.length → w.cell? ⟨bb, ob + j, none⟩ = some (.int .u8 (V (B.getD j 0#8))))
    (hC : ∀ j, j < C.length → w.cell? ⟨bc, oc + j, none⟩ = some (.int .u8 (V (C.getD j 0#8)))) :
    Calls Tryd.prog 6 #[.slice (some ⟨ba, oa, none⟩) la ca, .slice (some ⟨bb, ob, none⟩) lb cb, .slice (some ⟨bc, oc, none⟩) n cc] w fun e w' => e = .returned (.bool true) ∧ Below w.heap.size w w' := by
  obtain ⟨i0, hi, hz0, hz1, hz2⟩ := info_parts info5
  have ga := World.block_lt_of_cell? w _ (hA 0 (by omega))
  have gb := World.block_lt_of_cell? w _ (hB 0 (by omega))
  have gc := World.block_lt_of_cell? w _ (hC 0 (by omega))
  have hnA : n ≤ A.length := by omega
  have hnB : n ≤ B.length := by omega
  have hnC : n ≤ C.length := by omega
  have HA : Hid (la = A.length) := hla
  have HB : Hid (lb = B.length) := hlb
  have HC : Hid (n = C.length) := hlc
  clear hla hlb hlc
  go_enter Tryd.func6, Tryd.ntmps6
  go_wp2
  go_loopw [8, 9] (fun v i wr => ∃ k : Nat, k ≤ n ∧ i = .int .i64 k ∧ wr.ownsRow w.heap.size 5 1 v k (cellsOf (three A B C k)) ∧ Below w.heap.size w wr)
    (fun _ i _ => n - (intOf i).toNat)
  case atStart => exact ⟨0, Nat.zero_le _, rfl, World.ownsRow_nil _ _ _ _, Below.refl _ _⟩
  case round =>
    obtain ⟨k, hk, rfl, hown, hb⟩ := hrel
    by_cases hlt : k < n
    · have cA := (hb.cell (p := ⟨ba, oa + k, none⟩) ga).trans (hA k (by omega))
      have cB := (hb.cell (p := ⟨bb, ob + k, none⟩) gb).trans (hB k (by omega))
      have cC := (hb.cell (p := ⟨bc, oc + k, none⟩) gc).trans (hC k (by omega))
      have HS : Hid _ := three_succ A B C k (by omega) (by omega) (by omega)
      have hx := u8_xor_V
      generalize A.getD k 0#8 = x at *
      generalize B.getD k 0#8 = y at *
      generalize C.getD k 0#8 = z at *
      have hk0 : (0 : Int) ≤ (k : Int) := Int.natCast_nonneg _
      have hk1 : (k : Int) < (la : Int) := by omega
      have hk2 : (k : Int) < (lb : Int) := by omega
      have hk3 : (k : Int) < (n : Int) := by omega
      have nA : u8.ownBlock ≠ some ba := fun e => by have := (hown.lt _ e).1; omega
      have nB : u8.ownBlock ≠ some bb := fun e => by have := (hown.lt _ e).1; omega
      have nC : u8.ownBlock ≠ some bc := fun e => by have := (hown.lt _ e).1; omega
      have za := hb.size
      go_wp2_with fail
      go_region_held3 (fun w' => w'.cell? ⟨ba, oa + k, none⟩ = some (.int .u8 (V x)) ∧ w'.cell? ⟨bb, ob + k, none⟩ = some (.int .u8 (V y)) ∧ w'.cell? ⟨bc, oc + k, none⟩ = some (.int .u8 (V z)))
        (first
          | go_keep
          | (go_split_ands
             refine ⟨?_, ?_, ?_⟩
             · (rw [hgrow.cell_far _ (by simp; omega) (Ne.symm nA)]; assumption)
             · (rw [hgrow.cell_far _ (by simp; omega) (Ne.symm nB)]; assumption)
             · (rw [hgrow.cell_far _ (by simp; omega) (Ne.symm nC)]; assumption)))
        ((refine step_append_lies _ (by rfl) _ _ _ (by rfl) w.heap.size 5 i0 _ 1 1 Tryd.underlying22 hi hz0 hz1 hz2 rfl (by omega) u8 k (cellsOf (three A B C k)) (by rfl) ((hown.alloc _).drew)
            ⟨wr.heap.size, 0, none⟩ 1 1 [.int .u8 (V (x ^^^ y ^^^ z))] (by rfl) (by rfl) (World.news_of_block (cs := #[.int .u8 (V (x ^^^ y ^^^ z))]) (t := 5) (fr := (0, 0)) (heap_alloc_new wr _)) (by simp [Value.oneCell'])
            (by omega) (by unfold maxLen; omega) (by omega) (by simp; omega) (wr.heap.size + 1) (by simp) ?_; intro gg cap w1 hown1 hgrow hat hlt1))
      clear hx
      go_wp2
      go_roundw
      case rel => exact ⟨k + 1, by omega, by go_num, by rw [HS.out, cellsOf_snoc]; exact hown1, ((hb.alloc za _).drew).grown hgrow (by simp; omega) (fun k e => (hown.lt _ e).1)⟩
      case measure => simp [intOf]; omega
    · obtain rfl : k = n := by omega
      obtain ⟨g, cap, rfl, hg1, hg2⟩ := hown.form h0
      have T0 : Tabs wr := hT.below hb hT.size
      have sA : Seen wr (some ⟨ba, oa, none⟩) k (A.take k) := by
        have : Seen w (some ⟨ba, oa, none⟩) A.length A := ⟨rfl, by unfold maxLen; have := HA.out; omega, .inr ⟨ba, oa, rfl, hA⟩⟩
        exact (this.take k hnA).below hb
      have sB : Seen wr (some ⟨bb, ob, none⟩) k (B.take k) := by
        have : Seen w (some ⟨bb, ob, none⟩) B.length B := ⟨rfl, by unfold maxLen; have := HB.out; omega, .inr ⟨bb, ob, rfl, hB⟩⟩
        exact (this.take k hnB).below hb
      have sC : Seen wr (some ⟨bc, oc, none⟩) k (C.take k) := by
        have : Seen w (some ⟨bc, oc, none⟩) C.length C := ⟨rfl, by unfold maxLen; have := HC.out; omega, .inr ⟨bc, oc, rfl, hC⟩⟩
        exact (this.take k hnC).below hb
      have sD := seen_owned hown (three_length A B C k hnA hnB hnC) (by unfold maxLen; omega)
      have hsum : Crc.more 0#32 (three A B C k) = _ := Crc.more_three (A.take k) (B.take k) (C.take k) (by simp; omega) (by simp; omega)
      obtain ⟨rD, h7⟩ : ∃ r, Crc.more 0#32 (three A B C k) = r := ⟨_, rfl⟩
      obtain ⟨rA, h8⟩ : ∃ r, Crc.more 0#32 (A.take k) = r := ⟨_, rfl⟩
      obtain ⟨rB, h9⟩ : ∃ r, Crc.more 0#32 (B.take k) = r := ⟨_, rfl⟩
      obtain ⟨rC, h10⟩ : ∃ r, Crc.more 0#32 (C.take k) = r := ⟨_, rfl⟩
      rw [h7, h8, h9, h10] at hsum
      have heq : (U rD == U (rA ^^^ rB ^^^ rC)) = true := by rw [hsum]; simp
      have CD : ∀ w', Below wr.heap.size wr w' → Hid (Calls Tryd.prog 12 #[.slice (some ⟨g, 0, none⟩) k cap] w' fun e w'' => e = .returned (.int .u32 (U rD)) ∧ Below wr.heap.size wr w'') := fun w' h => sum_later cap h T0 sD h7
      have CA : ∀ w', Below wr.heap.size wr w' → Hid (Calls Tryd.prog 12 #[.slice (some ⟨ba, oa, none⟩) k ca] w' fun e w'' => e = .returned (.int .u32 (U rA)) ∧ Below wr.heap.size wr w'') := fun w' h => sum_later ca h T0 sA h8
      have CB : ∀ w', Below wr.heap.size wr w' → Hid (Calls Tryd.prog 12 #[.slice (some ⟨bb, ob, none⟩) k cb] w' fun e w'' => e = .returned (.int .u32 (U rB)) ∧ Below wr.heap.size wr w'') := fun w' h => sum_later cb h T0 sB h9
      have CC : ∀ w', Below wr.heap.size wr w' → Hid (Calls Tryd.prog 12 #[.slice (some ⟨bc, oc, none⟩) k cc] w' fun e w'' => e = .returned (.int .u32 (U rC)) ∧ Below wr.heap.size wr w'') := fun w' h => sum_later cc h T0 sC h10
      have CK : ∀ w', Below wr.heap.size wr w' → Hid (Calls Tryd.prog 19 #[] w' fun e w'' => e = .returned (.bool true) ∧ Below wr.heap.size wr w'') := fun w' h => known_later h T0
      have hx := u32_xor_U
      have B0 := Below.refl wr.heap.size wr
      have i1 : (0 : Int) ≤ (k : Int) := Int.natCast_nonneg _
      have i2 : (k : Int) ≤ (ca : Int) := by omega
      have i3 : (k : Int) ≤ (cb : Int) := by omega
      have i4 : (k : Int) ≤ (cc : Int) := by omega
      clear hsum h7 h8 h9 h10 sA sB sC sD T0 hown hA hB hC HA HB HC hT
      go_wp2_with fail
      go_region_held3 (fun w' => Below wr.heap.size wr w')
        (first | assumption | (exact Below.drew (by assumption)))
        (first
          | (go_at_call_of 12 (Value.slice (some ⟨g, 0, none⟩) k cap); refine (CD _ (by assumption)).out.mono ?_; rintro e w2 ⟨rfl, hb2⟩)
          | (go_at_call_of 12 (Value.slice (some ⟨ba, oa, none⟩) k ca); refine (CA _ (by assumption)).out.mono ?_; rintro e w2 ⟨rfl, hb2⟩)
          | (go_at_call_of 12 (Value.slice (some ⟨bb, ob, none⟩) k cb); refine (CB _ (by assumption)).out.mono ?_; rintro e w2 ⟨rfl, hb2⟩)
          | (go_at_call_of 12 (Value.slice (some ⟨bc, oc, none⟩) k cc); refine (CC _ (by assumption)).out.mono ?_; rintro e w2 ⟨rfl, hb2⟩)
          | (go_at_call 19; refine (CK _ (by assumption)).out.mono ?_; rintro e w2 ⟨rfl, hb2⟩))
      go_wp2
      go_ret
      exact ⟨rfl, hb.trans (Below.mono (by assumption) hb.size)⟩

set_option maxRecDepth 100000 in
set_option maxHeartbeats 3200000 in
theorem adds_d (ba oa ca bb ob cb bc oc cc n la lb : Nat) (A B C : List (BitVec 8)) (w : World) (hT : Tabs w) (h1 : n < la) (h2 : n < lb) (h3 : la ≤ lb)
    (h0 : 0 < n) (hla : la = A.length) (hlb : lb = B.length) (hlc : n = C.length) (ka : la ≤ ca) (kb : lb ≤ cb) (kc : n ≤ cc) (ma : ca ≤ 140737488351232) (mb : cb ≤ 140737488351232) (mc : cc ≤ 140737488351232)
    (hA : ∀ j, j < A.length → w.cell? ⟨ba, oa + j, none⟩ = some (.int .u8 (V (A.getD j 0#8))))
    (hB : ∀ j, j < B.length → w.cell? ⟨bb, ob + j, none⟩ = some (.int .u8 (V (B.getD j 0#8))))
    (hC : ∀ j, j < C.length → w.cell? ⟨bc, oc + j, none⟩ = some (.int .u8 (V (C.getD j 0#8)))) :
    Calls Tryd.prog 6 #[.slice (some ⟨ba, oa, none⟩) la ca, .slice (some ⟨bb, ob, none⟩) lb cb, .slice (some ⟨bc, oc, none⟩) n cc] w fun e w' => e = .returned (.bool true) ∧ Below w.heap.size w w' := by
  obtain ⟨i0, hi, hz0, hz1, hz2⟩ := info_parts info5
  have ga := World.block_lt_of_cell? w _ (hA 0 (by omega))
  have gb := World.block_lt_of_cell? w _ (hB 0 (by omega))
  have gc := World.block_lt_of_cell? w _ (hC 0 (by omega))
  have hnA : n ≤ A.length := by omega
  have hnB : n ≤ B.length := by omega
  have hnC : n ≤ C.length := by omega
  have HA : Hid (la = A.length) := hla
  have HB : Hid (lb = B.length) := hlb
  have HC : Hid (n = C.length) := hlc
  clear hla hlb hlc
  go_enter Tryd.func6, Tryd.ntmps6
  go_wp2
  go_loopw [8, 9] (fun v i wr => ∃ k : Nat, k ≤ n ∧ i = .int .i64 k ∧ wr.ownsRow w.heap.size 5 1 v k (cellsOf (three A B C k)) ∧ Below w.heap.size w wr)
    (fun _ i _ => n - (intOf i).toNat)
  case atStart => exact ⟨0, Nat.zero_le _, rfl, World.ownsRow_nil _ _ _ _, Below.refl _ _⟩
  case round =>
    obtain ⟨k, hk, rfl, hown, hb⟩ := hrel
    by_cases hlt : k < n
    · have cA := (hb.cell (p := ⟨ba, oa + k, none⟩) ga).trans (hA k (by omega))
      have cB := (hb.cell (p := ⟨bb, ob + k, none⟩) gb).trans (hB k (by omega))
      have cC := (hb.cell (p := ⟨bc, oc + k, none⟩) gc).trans (hC k (by omega))
      have HS : Hid _ := three_succ A B C k (by omega) (by omega) (by omega)
      have hx := u8_xor_V
      generalize A.getD k 0#8 = x at *
      generalize B.getD k 0#8 = y at *
      generalize C.getD k 0#8 = z at *
      have hk0 : (0 : Int) ≤ (k : Int) := Int.natCast_nonneg _
      have hk1 : (k : Int) < (la : Int) := by omega
      have hk2 : (k : Int) < (lb : Int) := by omega
      have hk3 : (k : Int) < (n : Int) := by omega
      have nA : u8.ownBlock ≠ some ba := fun e => by have := (hown.lt _ e).1; omega
      have nB : u8.ownBlock ≠ some bb := fun e => by have := (hown.lt _ e).1; omega
      have nC : u8.ownBlock ≠ some bc := fun e => by have := (hown.lt _ e).1; omega
      have za := hb.size
      go_wp2_with fail
      go_region_held3 (fun w' => w'.cell? ⟨ba, oa + k, none⟩ = some (.int .u8 (V x)) ∧ w'.cell? ⟨bb, ob + k, none⟩ = some (.int .u8 (V y)) ∧ w'.cell? ⟨bc, oc + k, none⟩ = some (.int .u8 (V z)))
        (first
          | go_keep
          | (go_split_ands
             refine ⟨?_, ?_, ?_⟩
             · (rw [hgrow.cell_far _ (by simp; omega) (Ne.symm nA)]; assumption)
             · (rw [hgrow.cell_far _ (by simp; omega) (Ne.symm nB)]; assumption)
             · (rw [hgrow.cell_far _ (by simp; omega) (Ne.symm nC)]; assumption)))
        ((refine step_append_lies _ (by rfl) _ _ _ (by rfl) w.heap.size 5 i0 _ 1 1 Tryd.underlying22 hi hz0 hz1 hz2 rfl (by omega) u8 k (cellsOf (three A B C k)) (by rfl) ((hown.alloc _).drew)
            ⟨wr.heap.size, 0, none⟩ 1 1 [.int .u8 (V (x ^^^ y ^^^ z))] (by rfl) (by rfl) (World.news_of_block (cs := #[.int .u8 (V (x ^^^ y ^^^ z))]) (t := 5) (fr := (0, 0)) (heap_alloc_new wr _)) (by simp [Value.oneCell'])
            (by omega) (by unfold maxLen; omega) (by omega) (by simp; omega) (wr.heap.size + 1) (by simp) ?_; intro gg cap w1 hown1 hgrow hat hlt1))
      clear hx
      go_wp2
      go_roundw
      case rel => exact ⟨k + 1, by omega, by go_num, by rw [HS.out, cellsOf_snoc]; exact hown1, ((hb.alloc za _).drew).grown hgrow (by simp; omega) (fun k e => (hown.lt _ e).1)⟩
      case measure => simp [intOf]; omega
    · obtain rfl : k = n := by omega
      obtain ⟨g, cap, rfl, hg1, hg2⟩ := hown.form h0
      have T0 : Tabs wr := hT.below hb hT.size
      have sA : Seen wr (some ⟨ba, oa, none⟩) k (A.take k) := by
        have : Seen w (some ⟨ba, oa, none⟩) A.length A := ⟨rfl, by unfold maxLen; have := HA.out; omega, .inr ⟨ba, oa, rfl, hA⟩⟩
        exact (this.take k hnA).below hb
      have sB : Seen wr (some ⟨bb, ob, none⟩) k (B.take k) := by
        have : Seen w (some ⟨bb, ob, none⟩) B.length B := ⟨rfl, by unfold maxLen; have := HB.out; omega, .inr ⟨bb, ob, rfl, hB⟩⟩
        exact (this.take k hnB).below hb
      have sC : Seen wr (some ⟨bc, oc, none⟩) k (C.take k) := by
        have : Seen w (some ⟨bc, oc, none⟩) C.length C := ⟨rfl, by unfold maxLen; have := HC.out; omega, .inr ⟨bc, oc, rfl, hC⟩⟩
        exact (this.take k hnC).below hb
      have sD := seen_owned hown (three_length A B C k hnA hnB hnC) (by unfold maxLen; omega)
      have hsum : Crc.more 0#32 (three A B C k) = _ := Crc.more_three (A.take k) (B.take k) (C.take k) (by simp; omega) (by simp; omega)
      obtain ⟨rD, h7⟩ : ∃ r, Crc.more 0#32 (three A B C k) = r := ⟨_, rfl⟩
      obtain ⟨rA, h8⟩ : ∃ r, Crc.more 0#32 (A.take k) = r := ⟨_, rfl⟩
      obtain ⟨rB, h9⟩ : ∃ r, Crc.more 0#32 (B.take k) = r := ⟨_, rfl⟩
      obtain ⟨rC, h10⟩ : ∃ r, Crc.more 0#32 (C.take k) = r := ⟨_, rfl⟩
      rw [h7, h8, h9, h10] at hsum
      have heq : (U rD == U (rA ^^^ rB ^^^ rC)) = true := by rw [hsum]; simp
      have CD : ∀ w', Below wr.heap.size wr w' → Hid (Calls Tryd.prog 12 #[.slice (some ⟨g, 0, none⟩) k cap] w' fun e w'' => e = .returned (.int .u32 (U rD)) ∧ Below wr.heap.size wr w'') := fun w' h => sum_later cap h T0 sD h7
      have CA : ∀ w', Below wr.heap.size wr w' → Hid (Calls Tryd.prog 12 #[.slice (some ⟨ba, oa, none⟩) k ca] w' fun e w'' => e = .returned (.int .u32 (U rA)) ∧ Below wr.heap.size wr w'') := fun w' h => sum_later ca h T0 sA h8
      have CB : ∀ w', Below wr.heap.size wr w' → Hid (Calls Tryd.prog 12 #[.slice (some ⟨bb, ob, none⟩) k cb] w' fun e w'' => e = .returned (.int .u32 (U rB)) ∧ Below wr.heap.size wr w'') := fun w' h => sum_later cb h T0 sB h9
      have CC : ∀ w', Below wr.heap.size wr w' → Hid (Calls Tryd.prog 12 #[.slice (some ⟨bc, oc, none⟩) k cc] w' fun e w'' => e = .returned (.int .u32 (U rC)) ∧ Below wr.heap.size wr w'') := fun w' h => sum_later cc h T0 sC h10
      have CK : ∀ w', Below wr.heap.size wr w' → Hid (Calls Tryd.prog 19 #[] w' fun e w'' => e = .returned (.bool true) ∧ Below wr.heap.size wr w'') := fun w' h => known_later h T0
      have hx := u32_xor_U
      have B0 := Below.refl wr.heap.size wr
      have i1 : (0 : Int) ≤ (k : Int) := Int.natCast_nonneg _
      have i2 : (k : Int) ≤ (ca : Int) := by omega
      have i3 : (k : Int) ≤ (cb : Int) := by omega
      have i4 : (k : Int) ≤ (cc : Int) := by omega
      clear hsum h7 h8 h9 h10 sA sB sC sD T0 hown hA hB hC HA HB HC hT
      go_wp2_with fail
      go_region_held3 (fun w' => Below wr.heap.size wr w')
        (first | assumption | (exact Below.drew (by assumption)))
        (first
          | (go_at_call_of 12 (Value.slice (some ⟨g, 0, none⟩) k cap); refine (CD _ (by assumption)).out.mono ?_; rintro e w2 ⟨rfl, hb2⟩)
          | (go_at_call_of 12 (Value.slice (some ⟨ba, oa, none⟩) k ca); refine (CA _ (by assumption)).out.mono ?_; rintro e w2 ⟨rfl, hb2⟩)
          | (go_at_call_of 12 (Value.slice (some ⟨bb, ob, none⟩) k cb); refine (CB _ (by assumption)).out.mono ?_; rintro e w2 ⟨rfl, hb2⟩)
          | (go_at_call_of 12 (Value.slice (some ⟨bc, oc, none⟩) k cc); refine (CC _ (by assumption)).out.mono ?_; rintro e w2 ⟨rfl, hb2⟩)
          | (go_at_call 19; refine (CK _ (by assumption)).out.mono ?_; rintro e w2 ⟨rfl, hb2⟩))
      go_wp2
      go_ret
      exact ⟨rfl, hb.trans (Below.mono (by assumption) hb.size)⟩

end Go.Proofs.YtdohclbkdifafaaDoor
