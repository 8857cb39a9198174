/- What the document's own Join does: matrices of bits. -/
import Derived.Test.YtdohclbkdifafaaDoorRef1
import Derived.Test.YtdohclbkdifafaaDoorJoin
namespace Go.Proofs.YtdohclbkdifafaaDoor
open Go.RowKit
set_option linter.unusedVariables false

def Cols (w : World) (g : Nat) (f : Crc.W → Crc.W) : Prop := ∀ i, i < 32 → w.cell? ⟨g, i, none⟩ = some (.int .u32 (U (f (1#32 <<< i))))

set_option maxHeartbeats 400000 in
theorem rtimes_any (f : Crc.W → Crc.W) (hx : ∀ a b, f (a ^^^ b) = f a ^^^ f b) (h0 : f 0#32 = 0#32) (g cap : Nat) (v : Crc.W) (w : World) (hM : Cols w g f) :
    Calls Tryd.prog 23 #[.slice (some ⟨g, 0, none⟩) 32 cap, .int .u32 (U v)] w fun e w' => e = .returned (.int .u32 (U (f v))) ∧ w' = w := by
  have HE : Hid (Crc.cols f v 32 = f v) := Crc.cols_all f hx h0 v
  clear hx h0
  go_enter Tryd.func23, Tryd.ntmps23
  go_wp2
  go_loop [5, 6] (fun r i => ∃ k : Nat, k ≤ 32 ∧ i = .int .i64 k ∧ r = .int .u32 (U (Crc.cols f v k))) (fun _ i => 32 - (intOf i).toNat)
  case atStart => exact ⟨0, by omega, rfl, rfl⟩
  case round =>
    obtain ⟨k, hk, rfl, rfl⟩ := hrel
    by_cases hlt : k < 32
    · have ht := bit_test v k
      have hck := hM k hlt
      have hS : Hid (Crc.cols f v (k + 1) = Crc.cols f v k ^^^ (if v.getLsbD k then f (1#32 <<< k) else 0#32)) := rfl
      generalize v.getLsbD k = t at *
      generalize Crc.cols f v k = q at *
      generalize f (1#32 <<< k) = c at *
      have e1 : (k : Int) < 32 := by omega
      have e0 : (0 : Int) ≤ (k : Int) := by omega
      clear hM hk
      cases t
      · go_wp2
        go_round
        case rel => exact ⟨k + 1, by omega, by go_num, by rw [hS.out]; simp⟩
        case measure => simp [intOf]; omega
      · go_wp2
        go_round
        case rel => exact ⟨k + 1, by omega, by go_num, by rw [hS.out, u32_xor_U]; simp⟩
        case measure => simp [intOf]; omega
    · obtain rfl : k = 32 := by omega
      clear hM
      go_wp2
      go_ret
      exact ⟨by rw [← HE.out]; rfl, rfl⟩

theorem info23 : (Tryd.prog.info? 23).map (fun i => (i.zero, i.size, i.bytes)) = some (some (.int .u32 0), 1, 4) := by kernel_rfl
def colCells (f : Crc.W → Crc.W) (k : Nat) : List Value := (List.range k).map fun i => .int .u32 (U (f (1#32 <<< i)))
theorem colCells_succ (f : Crc.W → Crc.W) (k : Nat) : colCells f (k + 1) = colCells f k ++ [.int .u32 (U (f (1#32 <<< k)))] := by simp [colCells, List.range_succ]
theorem Cols.below {w w' : World} {g : Nat} {f : Crc.W → Crc.W} (h : Cols w g f) (hb : Below w.heap.size w w') : Cols w' g f := fun i hi => by
  have hc := h i hi
  rw [hb.cell (p := ⟨g, i, none⟩) (World.block_lt_of_cell? w _ hc)]
  exact hc
theorem cols_owned {w : World} {base g cap : Nat} {f : Crc.W → Crc.W} (h : w.ownsRow base 23 1 (.slice (some ⟨g, 0, none⟩) 32 cap) 32 (colCells f 32)) : Cols w g f := fun i hi => by
  rw [h.cellAt i (by omega)]
  simp [colCells, hi]

set_option maxRecDepth 100000 in
set_option maxHeartbeats 800000 in
theorem square_any (f : Crc.W → Crc.W) (hx : ∀ a b, f (a ^^^ b) = f a ^^^ f b) (h0 : f 0#32 = 0#32) (g cap : Nat) (w : World) (hM : Cols w g f) :
    Calls Tryd.prog 24 #[.slice (some ⟨g, 0, none⟩) 32 cap] w fun e w' => ∃ g' cap', e = .returned (.slice (some ⟨g', 0, none⟩) 32 cap') ∧ Cols w' g' (fun x => f (f x)) ∧ Below w.heap.size w w' := by
  obtain ⟨i0, hi, hz0, hz1, hz2⟩ := info_parts info23
  have ga : g < w.heap.size := World.block_lt_of_cell? w _ (hM 0 (by omega))
  have HX : Hid (∀ a b, f (a ^^^ b) = f a ^^^ f b) := hx
  have H0 : Hid (f 0#32 = 0#32) := h0
  have HM : Hid (Cols w g f) := hM
  clear hx h0 hM
  go_enter Tryd.func24, Tryd.ntmps24
  go_wp2
  go_loopw [3, 4] (fun v i wr => ∃ k : Nat, k ≤ 32 ∧ i = .int .i64 k ∧ wr.ownsRow w.heap.size 23 1 v k (colCells (fun x => f (f x)) k) ∧ Below w.heap.size w wr) (fun _ i _ => 32 - (intOf i).toNat)
  case atStart => exact ⟨0, by omega, rfl, World.ownsRow_nil _ _ _ _, Below.refl _ _⟩
  case round =>
    obtain ⟨k, hk, rfl, hown, hb⟩ := hrel
    by_cases hlt : k < 32
    · have hck := HM.out.below hb k hlt
      have CT : Hid _ := rtimes_any f HX.out H0.out g cap (f (1#32 <<< k)) wr (HM.out.below hb)
      have hS : Hid _ := colCells_succ (fun x => f (f x)) k
      have za := hb.size
      have e1 : (k : Int) < 32 := by omega
      have e0 : (0 : Int) ≤ (k : Int) := by omega
      generalize f (1#32 <<< k) = c at *
      clear hk
      go_wp2_with fail
      refine (show Calls _ _ _ _ _ from CT.out).mono ?_
      rintro e w1 ⟨rfl, rfl⟩
      clear CT hck
      go_wp2_with (at_builtin; refine wpList_append_lies _ rfl _ _ 42 rfl w.heap.size 23 i0 (.int .u32 0) 1 4 Tryd.underlying42 hi hz0 hz1 hz2 rfl (by omega) _ _ _ rfl (hown.alloc _) ⟨w1.heap.size, 0, none⟩ 1 1 [.int .u32 (U (f c))] rfl rfl (cell_one_new _ _ _) (by simp [Value.oneCell']) (by omega) (by unfold maxLen; omega) (by omega) (by simp; omega) (w1.heap.size + 1) (by simp) ?_; intro g' cap' w2 hown2 hgrow _ _)
      go_roundw
      case rel => exact ⟨k + 1, by omega, by go_num, by rw [hS.out]; exact hown2, (hb.alloc za _).grown hgrow (by simp; omega) (fun j e => (hown.lt _ e).1)⟩
      case measure => simp [intOf]; omega
    · obtain rfl : k = 32 := by omega
      obtain ⟨g', cap', rfl, hg1, hg2⟩ := hown.form (by omega)
      go_wp2
      go_ret
      exact ⟨g', cap', rfl, cols_owned hown, hb⟩

theorem shl_one (k : Nat) (hk : k < 32) : (2 ^ k % 4294967296 : Int) = U (1#32 <<< k) := by
  have : ∀ k : Fin 32, (2 ^ k.val % 4294967296 : Int) = U (1#32 <<< k.val) := by decide +kernel
  exact this ⟨k, hk⟩
theorem byteStep_zero (r : Crc.W) : Crc.byteStep r 0#8 = Crc.Tn 8 r := by
  unfold Crc.byteStep
  have : Crc.ext 0#8 = 0#32 := by decide
  rw [this]; simp
theorem Tn_lin (n : Nat) : ∀ a b, Crc.Tn n (a ^^^ b) = Crc.Tn n a ^^^ Crc.Tn n b := Crc.Tn_xor n
theorem rjoin_no (a b : Crc.W) (n : Int) (h : n < 0 ∨ 1099511627776 < n) (w : World) :
    Calls Tryd.prog 11 #[.int .u32 (U a), .int .u32 (U b), .int .i64 n] w fun e w' => e = .returned (.tuple #[.int .u32 0, .int .i64 1]) ∧ w' = w := by
  by_cases h1 : n < 0
  · go_enter Tryd.func11, Tryd.ntmps11
    go_wp2
    go_ret2
    exact ⟨rfl, rfl⟩
  · have h2 : 1099511627776 < n := by omega
    clear h
    go_enter Tryd.func11, Tryd.ntmps11
    go_wp2
    go_ret2
    exact ⟨rfl, rfl⟩
theorem step_two (n j : Nat) (a : Crc.W) : Crc.Tn (8 * (n % 2 ^ (j + 1))) a = if n / 2 ^ j % 2 = 1 then Crc.Tn (8 * 2 ^ j) (Crc.Tn (8 * (n % 2 ^ j)) a) else Crc.Tn (8 * (n % 2 ^ j)) a := by
  rw [Nat.mod_pow_succ]
  rcases Nat.mod_two_eq_zero_or_one (n / 2 ^ j) with h | h
  · simp [h]
  · rw [h, if_pos rfl, ← Crc.Tn_add]; congr 1; omega

set_option maxRecDepth 100000 in
set_option maxHeartbeats 1600000 in
theorem rjoin_yes (a b : Crc.W) (n : Nat) (h : n ≤ 1099511627776) (w : World) :
    Calls Tryd.prog 11 #[.int .u32 (U a), .int .u32 (U b), .int .i64 (n : Int)] w fun e w' => e = .returned (.tuple #[.int .u32 (U (Crc.past a n ^^^ b)), .int .i64 0]) ∧ Below w.heap.size w w' := by
  obtain ⟨i0, hi, hz0, hz1, hz2⟩ := info_parts info23
  have h1 : ¬ (n : Int) < 0 := by omega
  have h2 : ¬ (1099511627776 : Int) < (n : Int) := by omega
  go_enter Tryd.func11, Tryd.ntmps11
  go_wp2
  go_loopw [8, 9] (fun v i wr => ∃ k : Nat, k ≤ 32 ∧ i = .int .i64 k ∧ wr.ownsRow w.heap.size 23 1 v k (colCells (Crc.Tn 8) k) ∧ Below w.heap.size w wr) (fun _ i _ => 32 - (intOf i).toNat)
  case atStart => exact ⟨0, by omega, rfl, World.ownsRow_nil _ _ _ _, Below.refl _ _⟩
  case round =>
    obtain ⟨k, hk, rfl, hown, hb⟩ := hrel
    by_cases hlt : k < 32
    · have hS : Hid _ := colCells_succ (Crc.Tn 8) k
      have za := hb.size
      have e1 : (k : Int) < 32 := by omega
      have e0 : (0 : Int) ≤ (k : Int) := by omega
      have hsh := shl_one k hlt
      have CS : Hid (Calls Tryd.prog 22 #[.int .u32 (U (1#32 <<< k)), .int .u8 0] wr fun e w' => e = .returned (.int .u32 (U (Crc.Tn 8 (1#32 <<< k)))) ∧ w' = wr) := by
        have := step_any (1#32 <<< k) 0#8 wr
        rw [byteStep_zero] at this
        exact this
      generalize (1#32 <<< k : Crc.W) = o at *
      clear hk
      go_wp2_with fail
      refine (show Calls _ _ _ _ _ from CS.out).mono ?_
      rintro e w1 ⟨rfl, rfl⟩
      clear CS
      go_wp2_with (at_builtin; refine wpList_append_lies _ rfl _ _ 42 rfl w.heap.size 23 i0 (.int .u32 0) 1 4 Tryd.underlying42 hi hz0 hz1 hz2 rfl (by omega) _ _ _ rfl (hown.alloc _) ⟨w1.heap.size, 0, none⟩ 1 1 [.int .u32 (U (Crc.Tn 8 o))] rfl rfl (cell_one_new _ _ _) (by simp [Value.oneCell']) (by omega) (by unfold maxLen; omega) (by omega) (by simp; omega) (w1.heap.size + 1) (by simp) ?_; intro g' cap' w2 hown2 hgrow _ _)
      go_roundw
      case rel => exact ⟨k + 1, by omega, by go_num, by rw [hS.out]; exact hown2, (hb.alloc za _).grown hgrow (by simp; omega) (fun j e => (hown.lt _ e).1)⟩
      case measure => simp [intOf]; omega
    · obtain rfl : k = 32 := by omega
      obtain ⟨g0, cap0, rfl, hg1, hg2⟩ := hown.form (by omega)
      have hC := cols_owned hown
      clear hown hlt hk
      obtain ⟨wo, rfl⟩ : ∃ wo : World, wo = wr := ⟨_, rfl⟩
      go_wp2
      go_loopw [0, 2, 8] (fun va vn vm wr => ∃ (j : Nat) (g cap : Nat), va = .int .u32 (U (Crc.Tn (8 * (n % 2 ^ j)) a)) ∧ vn = .int .i64 ((n / 2 ^ j : Nat) : Int) ∧ vm = .slice (some ⟨g, 0, none⟩) 32 cap ∧ Cols wr g (Crc.Tn (8 * 2 ^ j)) ∧ Below w.heap.size w wr) (fun _ vn _ _ => (intOf vn).toNat)
      case atStart => exact ⟨0, g0, cap0, by simp [Nat.mod_one, Crc.Tn], by simp, rfl, by simpa using hC, hb⟩
      case round =>
        clear hC hb hg1 hg2
        obtain ⟨j, g, cp, rfl, rfl, rfl, hC, hb⟩ := hrel
        have hstep : Hid _ := step_two n j a
        have hdiv : Hid (n / 2 ^ (j + 1) = n / 2 ^ j / 2) := by show _ = _; rw [Nat.pow_succ, Nat.div_div_eq_div_mul]
        have hfin : Hid (n / 2 ^ j = 0 → Crc.Tn (8 * (n % 2 ^ j)) a = Crc.past a n) := fun e => by rw [Nat.mod_eq_of_lt (lt_of_div e)]; rfl
        have hle : n / 2 ^ j ≤ n := Nat.div_le_self _ _
        have CQ : Hid (Calls Tryd.prog 24 #[.slice (some ⟨g, 0, none⟩) 32 cp] wr fun e w' => ∃ g' cap', e = .returned (.slice (some ⟨g', 0, none⟩) 32 cap') ∧ Cols w' g' (Crc.Tn (8 * 2 ^ (j + 1))) ∧ Below wr.heap.size wr w') := by
          have := square_any (Crc.Tn (8 * 2 ^ j)) (Tn_lin _) (Crc.Tn_zero _) g cp wr hC
          refine this.mono ?_
          rintro e w' ⟨g', c', he, hc', hb'⟩
          refine ⟨g', c', he, ?_, hb'⟩
          have e2 : (fun x => Crc.Tn (8 * 2 ^ j) (Crc.Tn (8 * 2 ^ j) x)) = Crc.Tn (8 * 2 ^ (j + 1)) := by
            funext x; rw [← Crc.Tn_add]; congr 1; rw [Nat.pow_succ]; omega
          rw [e2] at hc'
          exact hc'
        have CT : Hid (Calls Tryd.prog 23 #[.slice (some ⟨g, 0, none⟩) 32 cp, .int .u32 (U (Crc.Tn (8 * (n % 2 ^ j)) a))] wr fun e w' => e = .returned (.int .u32 (U (Crc.Tn (8 * 2 ^ j) (Crc.Tn (8 * (n % 2 ^ j)) a)))) ∧ w' = wr) :=
          rtimes_any (Crc.Tn (8 * 2 ^ j)) (Tn_lin _) (Crc.Tn_zero _) g cp _ wr hC
        have hz := hb.size
        generalize Crc.Tn (8 * 2 ^ j) (Crc.Tn (8 * (n % 2 ^ j)) a) = p at *
        generalize Crc.Tn (8 * (n % 2 ^ j)) a = q at *
        generalize n / 2 ^ j = m at *
        clear hC
        by_cases h0 : m = 0
        · subst h0
          have hx := u32_xor_U
          go_wp2
          go_ret2
          exact ⟨by rw [← hfin.out (by trivial)]; rfl, hb⟩
        · have hpos : (0 : Int) < (m : Int) := by omega
          have hm1 : (m : Int) ≤ 1099511627776 := by omega
          by_cases hodd : m % 2 = 1
          · have ho : ((m : Int) % 2 == 1) = true := beq_iff_eq.2 (by omega)
            have hst : Hid (Crc.Tn (8 * (n % 2 ^ (j + 1))) a = p) := by have := hstep.out; rw [if_pos hodd] at this; exact this
            clear hfin hstep h0 hodd
            go_wp2_with fail
            refine (show Calls _ _ _ _ _ from CT.out).mono ?_
            rintro e w1 ⟨rfl, rfl⟩
            go_wp2_with fail
            refine (show Calls _ _ _ _ _ from CQ.out).mono ?_
            rintro e w2 ⟨g', c', rfl, hc', hb'⟩
            have HC' : Hid _ := hc'
            clear CT CQ hc'
            go_wp2
            go_roundw
            case rel => first | exact ⟨j + 1, g', c', by rw [hst.out], by rw [hdiv.out]; go_num, rfl, HC'.out, hb.trans (hb'.mono hz)⟩ | ((repeat apply Exists.intro); exact ⟨⟨j + 1, g', c', by rw [hst.out], by rw [hdiv.out]; go_num, rfl, HC'.out, hb.trans (hb'.mono hz)⟩, rfl⟩)
            case measure => simp [intOf]; omega
          · have ho : ((m : Int) % 2 == 1) = false := beq_eq_false_iff_ne.2 (by omega)
            have hst : Hid (Crc.Tn (8 * (n % 2 ^ (j + 1))) a = q) := by have := hstep.out; rw [if_neg hodd] at this; exact this
            clear hfin hstep h0 hodd CT
            go_wp2_with fail
            refine (show Calls _ _ _ _ _ from CQ.out).mono ?_
            rintro e w2 ⟨g', c', rfl, hc', hb'⟩
            have HC' : Hid _ := hc'
            clear CQ hc'
            go_wp2
            go_roundw
            case rel => first | exact ⟨j + 1, g', c', by rw [hst.out], by rw [hdiv.out]; go_num, rfl, HC'.out, hb.trans (hb'.mono hz)⟩ | ((repeat apply Exists.intro); exact ⟨⟨j + 1, g', c', by rw [hst.out], by rw [hdiv.out]; go_num, rfl, HC'.out, hb.trans (hb'.mono hz)⟩, rfl⟩)
            case measure => simp [intOf]; omega
end Go.Proofs.YtdohclbkdifafaaDoor
