/- What the document's own functions do: Step, More, Sum, Slot of the reference. -/
import Derived.Test.YtdchnfggmkokhaaGreatDoorGE
import Derived.Test.YtdchnfggmkokhaaGreatDoorGI
namespace Go.Proofs.YtdchnfggmkokhaaGreatDoor
open Go.RowKit
set_option linter.unusedVariables false

theorem shr_U (r : Crc.W) (k : Nat) (m : Int) (hm : m = 2 ^ k) : U r / m = U (r >>> k) := by
  subst hm
  unfold U
  rw [BitVec.toNat_ushiftRight, Nat.shiftRight_eq_div_pow]
  simp
theorem low_bit (p : Crc.W) : (bits BinOp.and IntKind.u32 (U p) 1 == 1) = p.getLsbD 0 := by
  have hb := p.isLt
  unfold U
  rw [show (1 : Int) = ((1 : Nat) : Int) from rfl, u32_and_nat _ _ (by omega) (by decide), nat_mask1]
  rw [show p.getLsbD 0 = p.toNat.testBit 0 from rfl, Nat.testBit_eq_decide_div_mod_eq]
  simp only [Nat.pow_zero, Nat.div_one]
  rcases Nat.mod_two_eq_zero_or_one p.toNat with h | h <;> rw [h] <;> rfl
def stepTo (r : Crc.W) (c : BitVec 8) : Nat → Crc.W
  | 0 => r
  | i + 1 => Crc.T (stepTo r c i ^^^ Crc.bitW (c.getLsbD i))
theorem stepTo_8 (r : Crc.W) (c : BitVec 8) : stepTo r c 8 = Crc.byteStep r c := by rw [← Crc.feed_byte]; rfl
theorem bitW_shift (b : Bool) : Crc.bitW b >>> 1 = 0#32 := by cases b <;> decide
theorem T_bit (r : Crc.W) (b : Bool) : Crc.T (r ^^^ Crc.bitW b) = (r >>> 1) ^^^ (if (r ^^^ Crc.bitW b).getLsbD 0 then Crc.poly else 0#32) := by
  unfold Crc.T Crc.bit0
  rw [BitVec.ushiftRight_xor_distrib, bitW_shift]
  simp
theorem step_bit (r : Crc.W) (c : BitVec 8) (i : Nat) (hi : i < 8) : (bits BinOp.and IntKind.u32 (bits BinOp.xor IntKind.u32 (U r) (V c / 2 ^ i % 4294967296)) 1 == 1) = (r ^^^ Crc.bitW (c.getLsbD i)).getLsbD 0 := by
  have hc := c.isLt
  have e : V c / 2 ^ i % 4294967296 = U (BitVec.ofNat 32 (c.toNat / 2 ^ i)) := by
    unfold V U
    rw [BitVec.toNat_ofNat]
    have : c.toNat / 2 ^ i ≤ c.toNat := Nat.div_le_self _ _
    rw [Nat.mod_eq_of_lt (by omega)]
    have h2 : (c.toNat : Int) / 2 ^ i = ((c.toNat / 2 ^ i : Nat) : Int) := by simp
    rw [h2]
    generalize c.toNat / 2 ^ i = m at *
    omega
  rw [e, u32_xor_U, low_bit, BitVec.getLsbD_xor, BitVec.getLsbD_xor]
  congr 1
  rw [BitVec.getLsbD_ofNat]
  have : (Crc.bitW (c.getLsbD i)).getLsbD 0 = c.getLsbD i := by cases c.getLsbD i <;> decide
  rw [this, show c.getLsbD i = c.toNat.testBit i from rfl, Nat.testBit_eq_decide_div_mod_eq, Nat.testBit_eq_decide_div_mod_eq]
  simp

set_option maxRecDepth 100000 in
set_option maxHeartbeats 400000 in
theorem step_any (r : Crc.W) (c : BitVec 8) (w : World) : Calls Tryz.prog 106 #[.int .u32 (U r), .int .u8 (V c)] w fun e w' => e = .returned (.int .u32 (U (Crc.byteStep r c))) ∧ w' = w := by
  have v0 := V_nn c
  have v1 := V_lt c
  go_enter Tryz.func106, Tryz.ntmps106
  go_wp2
  go_loop [0, 5] (fun v i => ∃ k : Nat, k ≤ 8 ∧ i = .int .i64 k ∧ v = .int .u32 (U (stepTo r c k))) (fun _ i => 8 - (intOf i).toNat)
  case atStart => exact ⟨0, by omega, rfl, rfl⟩
  case round =>
    obtain ⟨k, hk, rfl, rfl⟩ := hrel
    by_cases hlt : k < 8
    · have hb := step_bit (stepTo r c k) c k hlt
      have hT : Hid (stepTo r c (k + 1) = _) := T_bit (stepTo r c k) (c.getLsbD k)
      have hsh : U (stepTo r c k) / (2 : Int) = U (stepTo r c k >>> 1) := shr_U _ 1 2 rfl
      have hx : ∀ q : Crc.W, bits BinOp.xor IntKind.u32 (U q) 2197175160 = U (q ^^^ Crc.poly) := fun q => u32_xor_U q Crc.poly
      generalize (stepTo r c k ^^^ Crc.bitW (c.getLsbD k)).getLsbD 0 = t at *
      generalize stepTo r c k = q at *
      have e1 : (k : Int) < 8 := by omega
      clear hk v0 v1 hsh hx
      cases t
      · go_wp2
        go_round
        case rel => exact ⟨k + 1, by omega, by go_num, by rw [hT.out, shr_U q 1 2 rfl]; simp⟩
        case measure => simp [intOf]; omega
      · go_wp2
        go_round
        case rel => exact ⟨k + 1, by omega, by go_num, by rw [hT.out, shr_U q 1 2 rfl, show bits BinOp.xor IntKind.u32 (U (q >>> 1)) 2197175160 = U ((q >>> 1) ^^^ Crc.poly) from u32_xor_U _ Crc.poly]; simp⟩
        case measure => simp [intOf]; omega
    · obtain rfl : k = 8 := by omega
      go_wp2
      go_ret
      exact ⟨by rw [← stepTo_8]; rfl, rfl⟩

theorem rmore_cells (s : Crc.W) (b off cap : Nat) (l : List (BitVec 8)) (w : World) (hm : l.length ≤ maxLen)
    (hc : ∀ j, j < l.length → w.cell? ⟨b, off + j, none⟩ = some (.int .u8 (V (l.getD j 0#8)))) :
    Calls Tryz.prog 101 #[.int .u32 (U s), .slice (some ⟨b, off, none⟩) l.length cap] w fun e w' => e = .returned (.int .u32 (U (Crc.more s l))) ∧ w' = w := by
  unfold maxLen at hm
  have hsg : IntKind.u32.signed = false := rfl
  have hnot := u32_not
  go_enter Tryz.func101, Tryz.ntmps101
  go_wp2
  clear hnot
  go_loop [5, 6] (fun r i => ∃ k : Nat, k ≤ l.length ∧ i = .int .i64 k ∧ r = .int .u32 (U (Crc.run (~~~ s) (l.take k)))) (fun _ i => l.length - (intOf i).toNat)
  case atStart => exact ⟨0, Nat.zero_le _, rfl, rfl⟩
  case round =>
    obtain ⟨k, hk, rfl, rfl⟩ := hrel
    by_cases hlt : k < l.length
    · have hck := hc k hlt
      have hrun : Hid (Crc.run (~~~ s) (l.take (k + 1)) = Crc.byteStep (Crc.run (~~~ s) (l.take k)) (l.getD k 0#8)) := by
        show _ = _
        rw [List.take_add_one, ← Crc.run_snoc]; simp [hlt]
      generalize Crc.run (~~~ s) (l.take k) = r at *
      generalize l.getD k 0#8 = c at *
      clear hc
      go_wp2_with fail
      refine (step_any r c w).mono ?_
      rintro e w1 ⟨rfl, rfl⟩
      go_wp2
      go_round
      case rel => exact ⟨k + 1, by omega, by go_num, by rw [hrun.out]⟩
      case measure => simp [intOf]; omega
    · obtain rfl : k = l.length := by omega
      go_wp2
      go_ret
      refine ⟨?_, rfl⟩
      show Ending.returned (Value.int .u32 (bits .xor .u32 IntKind.u32.max (U (Crc.run (~~~ s) l)))) = _
      rw [u32_not]; rfl
theorem rmore_empty (s : Crc.W) (a : Option Addr) (cap : Nat) (w : World) :
    Calls Tryz.prog 101 #[.int .u32 (U s), .slice a 0 cap] w fun e w' => e = .returned (.int .u32 (U (Crc.more s []))) ∧ w' = w := by
  have hsg : IntKind.u32.signed = false := rfl
  have hnot := u32_not
  go_enter Tryz.func101, Tryz.ntmps101
  go_wp2
  go_loop [5, 6] (fun r i => i = .int .i64 0 ∧ r = .int .u32 (U (~~~ s))) (fun _ _ => 0)
  case atStart => exact ⟨rfl, rfl⟩
  case round =>
    obtain ⟨rfl, rfl⟩ := hrel
    clear hnot
    go_wp2
    go_ret
    refine ⟨?_, rfl⟩
    show Ending.returned (Value.int .u32 (bits .xor .u32 IntKind.u32.max (U (~~~ s)))) = _
    rw [u32_not]; rfl
theorem rmore_any (s : Crc.W) (a : Option Addr) (len cap : Nat) (l : List (BitVec 8)) (w : World) (h : Seen w a len l) :
    Calls Tryz.prog 101 #[.int .u32 (U s), .slice a len cap] w fun e w' => e = .returned (.int .u32 (U (Crc.more s l))) ∧ w' = w := by
  obtain ⟨rfl, hm, h⟩ := h
  rcases h with h | ⟨b, off, rfl, hc⟩
  · obtain rfl : l = [] := List.eq_nil_of_length_eq_zero h
    exact rmore_empty s a cap w
  · exact rmore_cells s b off cap l w hm hc
theorem rsum_any (a : Option Addr) (len cap : Nat) (l : List (BitVec 8)) (w : World) (h : Seen w a len l) :
    Calls Tryz.prog 93 #[.slice a len cap] w fun e w' => e = .returned (.int .u32 (U (Crc.more 0#32 l))) ∧ w' = w := by
  have hU : (0 : Int) = U 0#32 := rfl
  have HC := rmore_any 0#32 a len cap l w h
  go_enter Tryz.func93, Tryz.ntmps93
  go_wp2_with fail
  refine HC.mono ?_
  rintro e w' ⟨rfl, rfl⟩
  go_wp2
  go_ret
  exact ⟨rfl, rfl⟩
set_option maxHeartbeats 400000 in
theorem rslot_any (s : ByteArray) (w : World) (hs : s.size ≤ maxLen) :
    Calls Tryz.prog 74 #[.string s] w fun e w' => e = .returned (.int .i64 (slotOf s)) ∧ Below w.heap.size w w' := by
  have hcv := fun w => Lib.run_convert_string_bytes (P := Tryz.prog) w 9 31 5 s Tryz.underlying9 Tryz.underlying31 Tryz.underlying5
  have HC := rsum_any _ s.size (grownCap w s.size 0 5) _ _ (seen_bytes w s hs)
  have HS : Hid (slotOf s = U (Crc.more 0#32 (bytesL s)) % 16) := rfl
  generalize Crc.more 0#32 (bytesL s) = r at *
  have h1 := U_nn r
  have h2 := U_lt r
  go_enter Tryz.func74, Tryz.ntmps74
  go_wp2_with fail
  refine HC.mono ?_
  rintro e w1 ⟨rfl, rfl⟩
  go_wp2
  go_ret
  exact ⟨by rw [HS.out]; rfl, below_bytes w s⟩
end Go.Proofs.YtdchnfggmkokhaaGreatDoor

namespace Go.Proofs.YtdchnfggmkokhaaGreatDoor
open Go.RowKit Cod
attribute [local go_sem] Oper.semAt_some
set_option linter.unusedVariables false

/-- Rows that are made, behind a world. -/
structure Made (w W : World) (l : List RowB) (a : Option Addr) (c : Nat) : Prop where
  bel : Below w.heap.size w W
  row : W.ownsRow w.heap.size 50 2 (.slice a l.length c) l.length (cells2 l)
theorem Made.below {w W W' : World} {l : List RowB} {a : Option Addr} {c : Nat} (h : Made w W l a c) (b : Below W.heap.size W W') : Made w W' l a c :=
  ⟨h.bel.trans (b.mono h.bel.size), owns_kept h.row (fun g e => b.block g (row_kind h.row e).2.1)⟩
theorem Made.more {w W : World} {l : List RowB} {a : Option Addr} {c : Nat} (h : Made w W l a c) (hl : l.length ≤ 1000) (r : RowB) :
    ∃ a' c' W', (Builtin.append_ #[66, 66] 66 #[.slice a l.length c, .slice (some ⟨W.heap.size, 0, none⟩) 1 1]).run Tryz.prog (W.alloc (.cells #[.string r.1, .int .i64 r.2] 50)) = .ok (.slice a' (l.length + 1) c') W' ∧ Made w W' (l ++ [r]) a' c' := by
  have h1 : Made w (W.alloc (.cells #[.string r.1, .int .i64 r.2] 50)) l a c := h.below ((Below.refl _ W).alloc (Nat.le_refl _) _)
  have hnew := heap_alloc_new W (.cells #[.string r.1, .int .i64 r.2] 50)
  generalize W.alloc (.cells #[.string r.1, .int .i64 r.2] 50) = W1 at h1 hnew ⊢
  obtain ⟨i0, hi, hz0, hz1, hz2⟩ := info_parts info_row
  obtain ⟨v', W', hr, q1, q2, _, _⟩ := run_append_own_at (P := Tryz.prog) W1 w.heap.size 66 66 50 i0 (.agg #[.string ⟨#[]⟩, .int .i64 0]) 2 24 Tryz.underlying66 hi hz0 hz1 hz2 rfl (by omega) (.slice a l.length c) l.length (cells2 l) h1.row ⟨W.heap.size, 0, none⟩ 1 1 (cells2 [r]) rfl (fun j v hj => by
    rw [Addr.add_lit, Nat.zero_add]
    simp only [World.cell?, hnew]
    simpa [cells2] using hj) (one2 [r]) (by unfold maxLen; omega) (by omega) h1.bel.size
  obtain ⟨a', c', e', _⟩ := row_form q1
  subst e'
  have el : (l ++ [r]).length = l.length + 1 := by simp
  refine ⟨a', c', W', hr, grown_below h1.bel q2 (fun k e => (row_kind h1.row e).1), ?_⟩
  rw [el, cells2_append]
  exact q1
section
variable {w : World} {base N : Nat} {sv : Value} {L : List Acc}
set_option maxRecDepth 100000 in
set_option maxHeartbeats 4000000 in
theorem qrows_any (h : RefB w base N sv L) (slot : Int) : Calls Tryz.prog 47 #[.pointer (some ⟨N, 0, none⟩), .int .i64 slot] w fun e w' => ∃ a c, e = .returned (.slice a (rowsOf slot L).length c) ∧ Made w w' (rowsOf slot L) a c := by
  obtain ⟨a, cap, esv, _⟩ := h.sv_form
  have H : Hid (RefB w base N sv L) := h
  have ES : Hid (sv = .slice a L.length cap) := esv
  have hl : L.length ≤ 200 := h.fit.len
  obtain ⟨n, en⟩ : ∃ n, L.length = n := ⟨_, rfl⟩
  have EN : Hid (L.length = n) := en
  have HC : Hid (∀ W, Below w.heap.size w W → W.cell? ⟨N, 0, none⟩ = some (.slice a n cap)) := fun W b => by
    rw [← EN.out, ← ES.out]; exact (H.out.below b).c0
  rw [en] at hl
  clear h esv en
  go_enter Tryz.func47, Tryz.ntmps47
  go_wp2
  go_loopw [5, 6] (fun sv5 i wr => ∃ (k : Nat) (a5 : Option Addr) (c5 : Nat), k ≤ n ∧ i = .int .i64 k ∧ sv5 = .slice a5 (rowsOf slot (L.take k)).length c5 ∧ Hid (Made w wr (rowsOf slot (L.take k)) a5 c5)) (fun _ i _ => n - (intOf i).toNat)
  case atStart => exact ⟨0, none, 0, Nat.zero_le _, rfl, rfl, ⟨Below.refl _ _, World.ownsRow_nil _ _ _ _⟩⟩
  case round =>
    obtain ⟨k, a5, c5, hk, rfl, rfl, HM⟩ := hrel
    have k0 := HC.out wr HM.out.bel
    by_cases hlt : k < n
    · have hk2 : k < L.length := by rw [EN.out]; exact hlt
      obtain ⟨g, cp, e2, y0, y1, y2⟩ := qrow_at (H.out.below HM.out.bel).row rfl hk2
      rw [ES.out] at e2
      injection e2 with e3 e4 e5
      subst e3
      clear e4 e5
      have hgs : g < wr.heap.size := World.block_lt_of_cell? wr _ y0
      have hNs : N < wr.heap.size := World.block_lt_of_cell? wr _ k0
      have HSN : Hid (rowsOf slot (L.take (k + 1)) = if inSlot slot (L[k]'hk2) = true then rowsOf slot (L.take k) ++ [((L[k]'hk2).nm, (L[k]'hk2).amt)] else rowsOf slot (L.take k)) := by
        show rowsOf slot (L.take (k + 1)) = _
        rw [List.take_succ_eq_append_getElem hk2, rowsOf_snoc]
      have hle := rowsOf_len slot (L.take k)
      rw [List.length_take] at hle
      have hz24 := (H.out.fit.acc (List.getElem_mem hk2)).1
      have hll : (rowsOf slot (L.take k)).length ≤ 1000 := by omega
      generalize L[k]'hk2 = p at y0 y1 y2 HSN hz24
      obtain ⟨nm, amt, by_⟩ := p
      simp only at y0 y1 y2 hz24
      generalize rowsOf slot (L.take k) = M at *
      obtain ⟨m, em⟩ : ∃ m, M.length = m := ⟨_, rfl⟩
      have EM : Hid (M.length = m) := em
      have HT : Hid (∀ W, Below wr.heap.size wr W → ∃ a' c' W', (Builtin.append_ #[66, 66] 66 #[.slice a5 m c5, .slice (some ⟨W.heap.size, 0, none⟩) 1 1]).run Tryz.prog (W.alloc (.cells #[.string nm, .int .i64 amt] 50)) = .ok (.slice a' (m + 1) c') W' ∧ Made w W' (M ++ [(nm, amt)]) a' c') := fun W b => by
        have := (HM.out.below b).more hll (nm, amt)
        rw [em] at this
        exact this
      have hm : m ≤ 1000 := by rw [← em]; exact hll
      rw [em]
      clear em hle
      by_cases e1 : slot = -1
      · subst e1
        have HIN : Hid (inSlot (-1) ⟨nm, amt, by_⟩ = true) := by show inSlot (-1) ⟨nm, amt, by_⟩ = true; simp [inSlot]
        go_wp2
        have kA : ∀ o', (wr.alloc o').cell? ⟨N, 0, none⟩ = some (.slice (some ⟨g, 0, none⟩) n cap) := fun o' => by
          rw [((Below.refl wr.heap.size wr).alloc (Nat.le_refl _) o').cell (p := ⟨N, 0, none⟩) (World.block_lt_of_cell? wr _ k0)]; exact k0
        have rA : ∀ o', (wr.alloc o').cell? ⟨g, k * 3, none⟩ = some (.string nm) := fun o' => by
          rw [((Below.refl wr.heap.size wr).alloc (Nat.le_refl _) o').cell (p := ⟨g, k * 3, none⟩) (World.block_lt_of_cell? wr _ y0)]; exact y0
        have rB : ∀ o', (wr.alloc o').cell? ⟨g, k * 3 + 1, none⟩ = some (.int .i64 amt) := fun o' => by
          rw [((Below.refl wr.heap.size wr).alloc (Nat.le_refl _) o').cell (p := ⟨g, k * 3 + 1, none⟩) (World.block_lt_of_cell? wr _ y1)]; exact y1
        obtain ⟨a', c', W', x1, x2⟩ := HT.out wr.drew (Below.refl _ wr).drew
        have X2 : Hid (Made w W' (M ++ [(nm, amt)]) a' c') := x2
        clear x2 HT HM
        go_region_law (refine step_append_known (by rfl) _ _ _ (by rfl) _ _ _ _ (by rfl) (by rfl) x1 ?_)
        all_goals
          go_wp2
          go_roundw
          case rel => exact ⟨k + 1, a', c', by omega, by go_num, by rw [HSN.out, if_pos HIN.out, List.length_append, EM.out]; rfl, by rw [HSN.out, if_pos HIN.out]; exact X2⟩
          case measure => simp only [intOf]; omega
      · have e1b : (slot == -1) = false := by simpa using e1
        have HRf := rslot_any nm wr (by unfold maxLen; omega)
        obtain ⟨s, es⟩ : ∃ s, slotOf nm = s := ⟨_, rfl⟩
        have hin : inSlot slot ⟨nm, amt, by_⟩ = decide (slot = s) := by simp [inSlot, e1, es]
        rw [es] at HRf
        by_cases e2 : slot = s
        · subst e2
          have HIN : Hid (inSlot slot ⟨nm, amt, by_⟩ = true) := by show inSlot slot ⟨nm, amt, by_⟩ = true; rw [hin]; simp
          clear hin es
          go_wp2_with fail
          refine HRf.mono ?_
          rintro e w2 ⟨rfl, b2⟩
          have B2 : Hid (Below wr.heap.size wr w2) := b2
          have k02 := (b2.cell (p := ⟨N, 0, none⟩) hNs).trans k0
          have y02 := (b2.cell (p := ⟨g, k * 3, none⟩) hgs).trans y0
          have y12 := (b2.cell (p := ⟨g, k * 3 + 1, none⟩) hgs).trans y1
          clear k0 y0 y1 y2 b2 HRf
          have k0 := k02
          have y0 := y02
          have y1 := y12
          clear k02 y02 y12
          go_wp2
          have kA : ∀ o', (w2.alloc o').cell? ⟨N, 0, none⟩ = some (.slice (some ⟨g, 0, none⟩) n cap) := fun o' => by
            rw [((Below.refl w2.heap.size w2).alloc (Nat.le_refl _) o').cell (p := ⟨N, 0, none⟩) (World.block_lt_of_cell? w2 _ k0)]; exact k0
          have rA : ∀ o', (w2.alloc o').cell? ⟨g, k * 3, none⟩ = some (.string nm) := fun o' => by
            rw [((Below.refl w2.heap.size w2).alloc (Nat.le_refl _) o').cell (p := ⟨g, k * 3, none⟩) (World.block_lt_of_cell? w2 _ y0)]; exact y0
          have rB : ∀ o', (w2.alloc o').cell? ⟨g, k * 3 + 1, none⟩ = some (.int .i64 amt) := fun o' => by
            rw [((Below.refl w2.heap.size w2).alloc (Nat.le_refl _) o').cell (p := ⟨g, k * 3 + 1, none⟩) (World.block_lt_of_cell? w2 _ y1)]; exact y1
          obtain ⟨a', c', W', x1, x2⟩ := HT.out w2.drew (B2.out.trans ((Below.refl _ w2).drew.mono B2.out.size))
          have X2 : Hid (Made w W' (M ++ [(nm, amt)]) a' c') := x2
          clear x2 HT HM
          go_region_law (refine step_append_known (by rfl) _ _ _ (by rfl) _ _ _ _ (by rfl) (by rfl) x1 ?_)
          all_goals
            go_wp2
            go_roundw
            case rel => exact ⟨k + 1, a', c', by omega, by go_num, by rw [HSN.out, if_pos HIN.out, List.length_append, EM.out]; rfl, by rw [HSN.out, if_pos HIN.out]; exact X2⟩
            case measure => simp only [intOf]; omega
        · have HIN : Hid (inSlot slot ⟨nm, amt, by_⟩ = false) := by show inSlot slot ⟨nm, amt, by_⟩ = false; rw [hin]; simpa using e2
          have e2b : (s == slot) = false := by simpa using (fun q => e2 q.symm)
          have e2c : ¬ s = slot := fun q => e2 q.symm
          clear hin es HT
          go_wp2_with fail
          refine HRf.mono ?_
          rintro e w2 ⟨rfl, b2⟩
          have M2 : Hid (Made w w2 M a5 c5) := HM.out.below b2
          clear b2 HRf HM
          go_wp2
          go_roundw
          case rel => exact ⟨k + 1, a5, c5, by omega, by go_num, by rw [HSN.out, if_neg (by rw [HIN.out]; simp), EM.out], by rw [HSN.out, if_neg (by rw [HIN.out]; simp)]; exact M2⟩
          case measure => simp only [intOf]; omega
    · obtain rfl : k = n := by omega
      have HTk : Hid (L.take k = L) := by show L.take k = L; rw [List.take_of_length_le (by rw [EN.out]; exact Nat.le_refl _)]
      go_wp2
      go_ret
      refine ⟨a5, c5, ?_, ?_⟩
      · rw [HTk.out]; rfl
      · have := HM.out
        rw [HTk.out] at this
        exact this
end
end Go.Proofs.YtdchnfggmkokhaaGreatDoor

namespace Go.Proofs.YtdchnfggmkokhaaGreatDoor
open Go.RowKit Cod
attribute [local go_sem] Oper.semAt_some
set_option linter.unusedVariables false

/-- Accounts that are made, behind a world. -/
structure MadeA (w : World) (base : Nat) (W : World) (l : List Acc) (a : Option Addr) (c : Nat) : Prop where
  bel : Below w.heap.size w W
  row : W.ownsRow base 89 3 (.slice a l.length c) l.length (cells3 l)
  new : ∀ k, (Value.slice a l.length c).ownBlock = some k → w.heap.size ≤ k
theorem MadeA.below {w W W' : World} {base : Nat} {l : List Acc} {a : Option Addr} {c : Nat} (h : MadeA w base W l a c) (b : Below W.heap.size W W') : MadeA w base W' l a c :=
  ⟨h.bel.trans (b.mono h.bel.size), owns_kept h.row (fun g e => b.block g (row_kind h.row e).2.1), h.new⟩
theorem MadeA.more {w W : World} {base : Nat} {l : List Acc} {a : Option Addr} {c : Nat} (h : MadeA w base W l a c) (hb : base ≤ w.heap.size) (hl : l.length ≤ 900) (q : Acc) :
    ∃ a' c' W', (Builtin.append_ #[26, 26] 26 #[.slice a l.length c, .slice (some ⟨W.heap.size, 0, none⟩) 1 1]).run Tryz.prog (W.alloc (.cells #[.string q.nm, .int .i64 q.amt, .string q.by_] 89)) = .ok (.slice a' (l.length + 1) c') W' ∧ MadeA w base W' (l ++ [q]) a' c' := by
  have h1 : MadeA w base (W.alloc (.cells #[.string q.nm, .int .i64 q.amt, .string q.by_] 89)) l a c := h.below ((Below.refl _ W).alloc (Nat.le_refl _) _)
  have hnew := heap_alloc_new W (.cells #[.string q.nm, .int .i64 q.amt, .string q.by_] 89)
  generalize W.alloc (.cells #[.string q.nm, .int .i64 q.amt, .string q.by_] 89) = W1 at h1 hnew ⊢
  obtain ⟨a2, c2, w3, r2, o2, g2, s2⟩ := run_append_q 26 W1 base (.slice a l.length c) l.length l h1.row (some ⟨W.heap.size, 0, none⟩) 1 1 [q] rfl (.inr ⟨W.heap.size, 0, rfl, fun j hj => by
    have hj0 : j = 0 := by simp at hj; omega
    subst hj0
    simp only [World.cell?, hnew]
    simp⟩) (fun e => by cases e) (by omega) (Nat.le_trans hb h1.bel.size)
  have el : (l ++ [q]).length = l.length + 1 := by simp
  refine ⟨a2, c2, w3, r2, grown_below h1.bel g2 h1.new, ?_, ?_⟩
  · rw [el]
    exact o2
  · rw [el]
    exact fun k e => (s2 k e).elim (h1.new k) (fun q => Nat.le_trans h1.bel.size q)
section
variable {w : World} {base N : Nat} {sv : Value} {L : List Acc}
set_option maxRecDepth 100000 in
set_option maxHeartbeats 4000000 in
theorem qdrop_any (h : RefB w base N sv L) (slot : Int) : Calls Tryz.prog 37 #[.pointer (some ⟨N, 0, none⟩), .int .i64 slot] w fun e w' => e = .returned (.int .i64 ((L.length : Int) - ((stay slot L).length : Int))) ∧ QTold w w' base N sv (stay slot L) := by
  obtain ⟨a, cap, esv, _⟩ := h.sv_form
  have H : Hid (RefB w base N sv L) := h
  have ES : Hid (sv = .slice a L.length cap) := esv
  have hl : L.length ≤ 200 := h.fit.len
  obtain ⟨n, en⟩ : ∃ n, L.length = n := ⟨_, rfl⟩
  have EN : Hid (L.length = n) := en
  have HC : Hid (∀ W, Below w.heap.size w W → W.cell? ⟨N, 0, none⟩ = some (.slice a n cap)) := fun W b => by
    rw [← EN.out, ← ES.out]; exact (H.out.below b).c0
  rw [en] at hl ⊢
  obtain ⟨sl, esl⟩ : ∃ sl, (stay slot L).length = sl := ⟨_, rfl⟩
  have ESL : Hid ((stay slot L).length = sl) := esl
  have hsl : sl ≤ n := by rw [← esl, ← en]; exact List.length_filter_le _ _
  rw [esl]
  clear h esv en esl
  go_enter Tryz.func37, Tryz.ntmps37
  go_wp2
  go_loopw [5, 6] (fun sv5 i wr => ∃ (k : Nat) (a5 : Option Addr) (c5 : Nat), k ≤ n ∧ i = .int .i64 k ∧ sv5 = .slice a5 (stay slot (L.take k)).length c5 ∧ Hid (MadeA w base wr (stay slot (L.take k)) a5 c5)) (fun _ i _ => n - (intOf i).toNat)
  case atStart => exact ⟨0, none, 0, Nat.zero_le _, rfl, rfl, ⟨Below.refl _ _, World.ownsRow_nil _ _ _ _, fun k e => by cases e⟩⟩
  case round =>
    obtain ⟨k, a5, c5, hk, rfl, rfl, HM⟩ := hrel
    have k0 := HC.out wr HM.out.bel
    by_cases hlt : k < n
    · have hk2 : k < L.length := by rw [EN.out]; exact hlt
      obtain ⟨g, cp, e2, y0, y1, y2⟩ := qrow_at (H.out.below HM.out.bel).row rfl hk2
      rw [ES.out] at e2
      injection e2 with e3 e4 e5
      subst e3
      clear e4 e5
      have hgs : g < wr.heap.size := World.block_lt_of_cell? wr _ y0
      have hNs : N < wr.heap.size := World.block_lt_of_cell? wr _ k0
      have HSN : Hid (stay slot (L.take (k + 1)) = if goes slot (L[k]'hk2) = true then stay slot (L.take k) else stay slot (L.take k) ++ [L[k]'hk2]) := by
        show stay slot (L.take (k + 1)) = _
        rw [List.take_succ_eq_append_getElem hk2, stay_snoc]
      have hle : (stay slot (L.take k)).length ≤ (L.take k).length := List.length_filter_le _ _
      rw [List.length_take] at hle
      have hz24 := (H.out.fit.acc (List.getElem_mem hk2)).1
      have hll : (stay slot (L.take k)).length ≤ 900 := by omega
      generalize L[k]'hk2 = p at y0 y1 y2 HSN hz24
      obtain ⟨nm, amt, by_⟩ := p
      simp only at y0 y1 y2 hz24
      generalize stay slot (L.take k) = M at *
      obtain ⟨m, em⟩ : ∃ m, M.length = m := ⟨_, rfl⟩
      have EM : Hid (M.length = m) := em
      have HT : Hid (∀ W, Below wr.heap.size wr W → ∃ a' c' W', (Builtin.append_ #[26, 26] 26 #[.slice a5 m c5, .slice (some ⟨W.heap.size, 0, none⟩) 1 1]).run Tryz.prog (W.alloc (.cells #[.string nm, .int .i64 amt, .string by_] 89)) = .ok (.slice a' (m + 1) c') W' ∧ MadeA w base W' (M ++ [⟨nm, amt, by_⟩]) a' c') := fun W b => by
        have := (HM.out.below b).more H.out.size hll ⟨nm, amt, by_⟩
        rw [em] at this
        exact this
      have hm : m ≤ 900 := by rw [← em]; exact hll
      rw [em]
      have HRf := rslot_any nm wr (by unfold maxLen; omega)
      obtain ⟨s, es⟩ : ∃ s, slotOf nm = s := ⟨_, rfl⟩
      have hin : goes slot ⟨nm, amt, by_⟩ = decide (s = slot) := by simp [goes, es]
      rw [es] at HRf
      clear em hle es
      by_cases e2 : s = slot
      · subst e2
        have HIN : Hid (goes s ⟨nm, amt, by_⟩ = true) := by show goes s ⟨nm, amt, by_⟩ = true; rw [hin]; simp
        clear hin HT
        go_wp2_with fail
        refine HRf.mono ?_
        rintro e w2 ⟨rfl, b2⟩
        have M2 : Hid (MadeA w base w2 M a5 c5) := HM.out.below b2
        clear b2 HRf HM
        go_wp2
        go_roundw
        case rel => exact ⟨k + 1, a5, c5, by omega, by go_num, by rw [HSN.out, if_pos HIN.out, EM.out], by rw [HSN.out, if_pos HIN.out]; exact M2⟩
        case measure => simp only [intOf]; omega
      · have HIN : Hid (goes slot ⟨nm, amt, by_⟩ = false) := by show goes slot ⟨nm, amt, by_⟩ = false; rw [hin]; simpa using e2
        have e2b : (s == slot) = false := by simpa using e2
        clear hin
        go_wp2_with fail
        refine HRf.mono ?_
        rintro e w2 ⟨rfl, b2⟩
        obtain ⟨a', c', W', x1, x2⟩ := HT.out w2 b2
        have X1 : Hid _ := x1
        have X2 : Hid (MadeA w base W' (M ++ [⟨nm, amt, by_⟩]) a' c') := x2
        have k02 := (b2.cell (p := ⟨N, 0, none⟩) hNs).trans k0
        have y02 := (b2.cell (p := ⟨g, k * 3, none⟩) hgs).trans y0
        have y12 := (b2.cell (p := ⟨g, k * 3 + 1, none⟩) hgs).trans y1
        have y22 := (b2.cell (p := ⟨g, k * 3 + 2, none⟩) hgs).trans y2
        clear k0 y0 y1 y2 b2 HRf x1 x2 HT HM
        go_wp2_with (at_builtin; refine wpList_append_known rfl (.tmp 28) (.tmp 36) 26 26 rfl _ _ rfl rfl _ _ X1.out ?_)
        go_roundw
        case rel => exact ⟨k + 1, a', c', by omega, by go_num, by rw [HSN.out, if_neg (by rw [HIN.out]; simp), List.length_append, EM.out]; rfl, by rw [HSN.out, if_neg (by rw [HIN.out]; simp)]; exact X2⟩
        case measure => simp only [intOf]; omega
    · obtain rfl : k = n := by omega
      have HTk : Hid (L.take k = L) := by show L.take k = L; rw [List.take_of_length_le (by rw [EN.out]; exact Nat.le_refl _)]
      rw [HTk.out] at HM ⊢
      obtain ⟨z0, z1, z2⟩ := H.out.fresh HM.out.bel HM.out.row HM.out.new (H.out.fit.stay slot)
      rw [ES.out, EN.out] at z0
      rw [ESL.out] at z2 ⊢
      have Z2 : Hid (QTold w (wr.setCell ⟨N, 0, none⟩ (.slice a5 sl c5)) base N sv (stay slot L)) := z2
      clear z2 HM
      go_wp2
      go_ret
      exact ⟨rfl, Z2.out⟩
end
end Go.Proofs.YtdchnfggmkokhaaGreatDoor
