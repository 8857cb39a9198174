/- What the reference's writers do. -/
import Derived.Test.YtdchnfggmkokhaaGreatDoorGF
import Derived.Test.YtdchnfggmkokhaaGreatDoorText
import Derived.Lib.ConvBytes
namespace Go.Proofs.YtdchnfggmkokhaaGreatDoor
open Go.RowKit Cod
set_option linter.unusedVariables false

theorem V_small (m : Nat) (h : m < 256) : V (BitVec.ofNat 8 m) = m := by rw [V_of]; omega
set_option maxHeartbeats 800000 in
theorem refUint_any (a : Option Addr) (len cap : Nat) (l : List (BitVec 8)) (n : Nat) (hn : n < 18446744073709551616) (w : World) (h : Seen w a len l) (hnil : a = none → cap = 0) (hm : len + 10 ≤ 140737488355328) :
    Calls Tryz.prog 94 #[.slice a len cap, .int .u64 n] w fun e w' => ∃ v', e = .returned v' ∧ w'.ownsRow w.heap.size 5 1 v' (len + (enc n).length) (cellsOf (l ++ enc n)) ∧ Below w.heap.size w w' := by
  obtain ⟨v1, w1, hr1, o1, g1⟩ := run_append_bytes 31 w w.heap.size (.slice none 0 0) 0 [] (World.ownsRow_nil _ _ _ _) a len cap l h hnil (by omega) (Nat.le_refl _)
  rw [List.nil_append, Nat.zero_add] at o1
  have b1 : Below w.heap.size w w1 := (Below.refl _ w).grown g1 (Nat.le_refl _) (fun k e => by cases e)
  have h10 : Hid _ := enc_ten hn
  have HK : Hid _ := hm
  have HN : Hid _ := hn
  have HO : Hid (w1.ownsRow w.heap.size 5 1 v1 len (cellsOf l)) := o1
  have HB1 : Hid (Below w.heap.size w w1) := b1
  have HR1 : Hid _ := hr1
  clear hm h hnil hn o1 g1 b1 hr1
  go_enter Tryz.func94, Tryz.ntmps94
  go_wp2_with (at_builtin; refine wpList_append_known rfl (.tmp 6) (.tmp 7) 31 31 rfl _ _ rfl rfl _ _ HR1.out ?_)
  go_loopw [1, 5] (fun i b wr => ∃ (m : Nat) (d : List (BitVec 8)), enc n = d ++ enc m ∧ m ≤ n ∧ i = .int .u64 m ∧ wr.ownsRow w.heap.size 5 1 b (len + d.length) (cellsOf (l ++ d)) ∧ Below w.heap.size w wr)
    (fun i _ _ => (intOf i).toNat)
  case atStart => exact ⟨n, [], rfl, Nat.le_refl _, rfl, by rw [List.append_nil]; exact HO.out, HB1.out⟩
  case round =>
    obtain ⟨m, d, hd, hmn, rfl, hown, hb⟩ := hrel
    have hlen : d.length + (enc m).length ≤ 10 := by have := h10.out; rw [hd] at this; simpa using this
    have hpos := enc_pos m
    have hbs : w.heap.size ≤ wr.heap.size := hb.size
    have hkk := HK.out
    by_cases hlt : m < 128
    · obtain ⟨v', w', hr, h1, h2, h3⟩ := append_one wr w.heap.size u5 _ _ hown (BitVec.ofNat 8 m) (by omega) hbs
      rw [V_small m (by omega)] at hr
      have HR : Hid _ := hr
      have hnot : ¬ ((128 : Int) ≤ (m : Int)) := by omega
      have h8 : IntKind.u8.wrap (m : Int) = m := by rw [IntKind.wrap_u8]; omega
      have HL : Hid _ := hlt
      clear hlt
      have H1 : Hid _ := h1
      have H2 : Hid _ := h2
      have HD : Hid _ := hd
      have HB : Hid _ := hb
      clear hr h1 h2 h3 hown hd hb hlen hpos hbs hkk hmn
      go_wp2_with (at_builtin; refine wpList_append_known rfl (.tmp 20) (.tmp 23) 31 31 rfl _ _ rfl rfl _ _ HR.out ?_)
      go_ret
      refine ⟨_, rfl, ?_, HB.out.trans H2.out⟩
      rw [HD.out, enc_low HL.out, ← List.append_assoc, List.length_append]
      exact H1.out
    · obtain ⟨v', w', hr, h1, h2, h3⟩ := append_one wr w.heap.size u5 _ _ hown (BitVec.ofNat 8 (m % 128 + 128)) (by omega) hbs
      rw [V_small (m % 128 + 128) (by omega)] at hr
      have HR : Hid _ := hr
      have hyes : (128 : Int) ≤ (m : Int) := by omega
      have h8 : IntKind.u8.wrap ((m : Int) % 128) = (m : Int) % 128 := by rw [IntKind.wrap_u8]; omega
      have h9 : IntKind.u8.wrap ((m : Int) % 128 + 128) = (m : Int) % 128 + 128 := by rw [IntKind.wrap_u8]; omega
      have hwp : IntKind.u64.wrap ((m : Int) / 128) = (m : Int) / 128 := by have := HN.out; rw [IntKind.wrap_u64]; omega
      have H1 : Hid _ := h1
      have H2 : Hid _ := h2
      have HD : Hid _ := hd
      have HB : Hid _ := hb
      have HMN : Hid _ := hmn
      clear hr h1 h2 h3 hown hd hb hlen hpos hbs hkk hmn
      go_wp2_with (at_builtin; refine wpList_append_known rfl (.tmp 11) (.tmp 16) 31 31 rfl _ _ rfl rfl _ _ HR.out ?_)
      go_roundw
      case rel =>
        refine ⟨m / 128, d ++ [BitVec.ofNat 8 (m % 128 + 128)], ?_, Nat.le_trans (Nat.div_le_self _ _) HMN.out, by go_num, ?_, HB.out.trans H2.out⟩
        · rw [HD.out, enc_high hlt]; simp
        · rw [← List.append_assoc, List.length_append]; exact H1.out
      case measure => simp only [intOf]; omega
theorem zig_neg {n : Int} (h : n < 0) : (zig n : Int) = 2 * (-(n + 1)) + 1 := by unfold zig; split <;> omega
theorem zig_pos {n : Int} (h : ¬ n < 0) : (zig n : Int) = 2 * n := by unfold zig; split <;> omega
theorem refInt_any (a : Option Addr) (len cap : Nat) (l : List (BitVec 8)) (n : Int) (hn : i64ok n) (w : World) (h : Seen w a len l) (hnil : a = none → cap = 0) (hm : len + 10 ≤ 140737488355328) :
    Calls Tryz.prog 96 #[.slice a len cap, .int .i64 n] w fun e w' => ∃ v', e = .returned v' ∧ w'.ownsRow w.heap.size 5 1 v' (len + (enc (zig n)).length) (cellsOf (l ++ enc (zig n))) ∧ Below w.heap.size w w' := by
  have HC : Hid (Calls Tryz.prog 94 #[.slice a len cap, .int .u64 (zig n)] w fun e w' => ∃ v', e = .returned v' ∧ w'.ownsRow w.heap.size 5 1 v' (len + (enc (zig n)).length) (cellsOf (l ++ enc (zig n))) ∧ Below w.heap.size w w') := refUint_any a len cap l (zig n) (zig_lt n hn) w h hnil hm
  unfold i64ok at hn
  clear h hnil hm
  by_cases hlt : n < 0
  · have e1 := zig_neg hlt
    have w1 : IntKind.i64.wrap (n + 1) = n + 1 := by rw [IntKind.wrap_i64]; omega
    have w2 : IntKind.i64.wrap (-(n + 1)) = -(n + 1) := by rw [IntKind.wrap_i64]; omega
    have w3 : IntKind.u64.wrap (-(n + 1)) = -(n + 1) := by rw [IntKind.wrap_u64]; omega
    have w4 : IntKind.u64.wrap (2 * (-(n + 1))) = 2 * (-(n + 1)) := by rw [IntKind.wrap_u64]; omega
    have w5 : IntKind.u64.wrap (2 * (-(n + 1)) + 1) = 2 * (-(n + 1)) + 1 := by rw [IntKind.wrap_u64]; omega
    rw [e1] at HC
    obtain ⟨s, hs⟩ : ∃ s, n + 1 = s := ⟨_, rfl⟩
    rw [hs] at w1 w2 w3 w4 w5 HC
    clear e1 hn
    go_enter Tryz.func96, Tryz.ntmps96
    go_wp2_with fail
    refine HC.out.mono ?_
    rintro e x ⟨v, rfl, o1, b1⟩
    go_wp2
    go_ret
    exact ⟨_, rfl, o1, b1⟩
  · have e1 := zig_pos hlt
    have w3 : IntKind.u64.wrap n = n := by rw [IntKind.wrap_u64]; omega
    have w4 : IntKind.u64.wrap (2 * n) = 2 * n := by rw [IntKind.wrap_u64]; omega
    rw [e1] at HC
    clear e1 hn
    go_enter Tryz.func96, Tryz.ntmps96
    go_wp2_with fail
    refine HC.out.mono ?_
    rintro e x ⟨v, rfl, o1, b1⟩
    go_wp2
    go_ret
    exact ⟨_, rfl, o1, b1⟩
/-- []byte(s) -/
theorem text_bytes (w : World) (s : ByteArray) (hs : s.size ≤ 140737488355328) : ∃ c w', (convert 9 31 (.string s)).run Tryz.prog w = .ok (.slice (some ⟨w.heap.size, 0, none⟩) s.size c) w' ∧ Below w.heap.size w w' ∧ Seen w' (some ⟨w.heap.size, 0, none⟩) s.size (bytesL s) := by
  exact ⟨_, _, Lib.run_convert_string_bytes w 9 31 5 s Tryz.underlying9 Tryz.underlying31 Tryz.underlying5, below_bytes w s, seen_bytes w s (by unfold maxLen; omega)⟩
theorem refBytes_any (a : Option Addr) (len cap : Nat) (l : List (BitVec 8)) (pa : Option Addr) (pn pc : Nat) (p : List (BitVec 8)) (w : World) (h : Seen w a len l) (hnil : a = none → cap = 0) (hp : Seen w pa pn p) (hpn : pa = none → pc = 0) (hm : len + 10 + pn ≤ 140737488355328) :
    Calls Tryz.prog 102 #[.slice a len cap, .slice pa pn pc] w fun e w' => ∃ v', e = .returned v' ∧ w'.ownsRow w.heap.size 5 1 v' (len + (sz p).length) (cellsOf (l ++ sz p)) ∧ Below w.heap.size w w' := by
  obtain rfl : pn = p.length := hp.1
  have HC := refUint_any a len cap l p.length (by omega) w h hnil (by omega)
  have hw : IntKind.u64.wrap (p.length : Int) = p.length := by rw [IntKind.wrap_u64]; omega
  have HE := enc_ten (n := p.length) (by omega)
  have HP : Hid (Seen w pa p.length p) := hp
  have HPN : Hid _ := hpn
  have HM : Hid (len + (enc p.length).length + p.length ≤ 140737488355328) := by show _ ≤ _; omega
  clear h hnil hp hpn hm HE
  go_enter Tryz.func102, Tryz.ntmps102
  go_wp2_with fail
  refine HC.mono ?_
  rintro e w1 ⟨v1, rfl, o1, b1⟩
  obtain ⟨v2, w2, hr2, o2, g2⟩ := run_append_bytes 31 w1 w.heap.size v1 _ _ o1 pa p.length pc p (HP.out.below b1) HPN.out HM.out b1.size
  have HR : Hid _ := hr2
  have B2 : Hid (Below w.heap.size w w2) := b1.trans ((Below.refl _ w1).grown g2 b1.size (fun k e => (o1.lt _ e).1))
  have O2 : Hid _ := o2
  clear hr2 o1 b1 g2 o2
  go_wp2_with (at_builtin; refine wpList_append_known rfl (.tmp 11) (.tmp 12) 31 31 rfl _ _ rfl rfl _ _ HR.out ?_)
  go_ret
  refine ⟨_, rfl, ?_, B2.out⟩
  rw [sz, List.length_append, ← List.append_assoc, ← Nat.add_assoc]
  exact O2.out
theorem refText_any (a : Option Addr) (len cap : Nat) (l : List (BitVec 8)) (s : ByteArray) (w : World) (h : Seen w a len l) (hnil : a = none → cap = 0) (hm : len + 10 + s.size ≤ 140737488355328) :
    Calls Tryz.prog 95 #[.slice a len cap, .string s] w fun e w' => ∃ v', e = .returned v' ∧ w'.ownsRow w.heap.size 5 1 v' (len + (sz (bytesL s)).length) (cellsOf (l ++ sz (bytesL s))) ∧ Below w.heap.size w w' := by
  obtain ⟨c, w1, hc, b1, s1⟩ := text_bytes w s (by omega)
  have HC := refBytes_any a len cap l (some ⟨w.heap.size, 0, none⟩) s.size c (bytesL s) w1 (h.below b1) hnil s1 (fun e => by cases e) hm
  have B1 : Hid (Below w.heap.size w w1) := b1
  clear h hnil hm b1 s1
  go_enter Tryz.func95, Tryz.ntmps95
  go_wp2_with fail
  refine HC.mono ?_
  rintro e w2 ⟨v2, rfl, o2, b2⟩
  go_wp2
  go_ret
  exact ⟨_, rfl, owns_mono' o2 B1.out.size, B1.out.trans (b2.mono B1.out.size)⟩
end Go.Proofs.YtdchnfggmkokhaaGreatDoor
