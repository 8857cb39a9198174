/- What addUint, and codec.Uint, do. -/
import Derived.Test.YtdchnfggmkokhaaGreatDoorClone
import Derived.Test.YtdchnfggmkokhaaGreatDoorCMath
namespace Go.Proofs.YtdchnfggmkokhaaGreatDoor
open Go.RowKit Cod
set_option linter.unusedVariables false

theorem u8_or_128 (m : Nat) : bits BinOp.or IntKind.u8 ((m : Int) % 256) 128 = V (BitVec.ofNat 8 (m % 128 + 128)) := by
  have h1 : (m : Int) % 256 = ((m % 256 : Nat) : Int) := by omega
  unfold V
  rw [h1, show (128 : Int) = ((128 : Nat) : Int) from rfl, u8_or_nat _ _ (by omega) (by omega)]
  congr 1
  have : ∀ k : Fin 256, k.val ||| 128 = (BitVec.ofNat 8 (k.val % 128 + 128)).toNat := by decide +kernel
  rw [this ⟨m % 256, by omega⟩]
  simp only
  rw [show m % 256 % 128 = m % 128 by omega]
theorem u8_low (m : Nat) (h : m < 128) : (m : Int) % 256 = V (BitVec.ofNat 8 m) := by
  unfold V
  simp
/-- What is not a row of bytes is kept. -/
def KeepT (w w' : World) : Prop := ∀ (K : Nat) (c : Array Value) (t : TypeId) (fr : Nat × Nat), w.heap[K]? = some (Obj.cells c t fr) → t ≠ 5 → w'.heap[K]? = some (Obj.cells c t fr)
theorem KeepT.refl (w : World) : KeepT w w := fun _ _ _ _ h _ => h
theorem KeepT.trans {a b c : World} (h : KeepT a b) (k : KeepT b c) : KeepT a c := fun K x t fr hx ht => k K x t fr (h K x t fr hx ht) ht
theorem KeepT.alloc (w : World) (o : Obj) : KeepT w (w.alloc o) := fun K x t fr hx _ => by rw [Below.heap_alloc w o K (Array.getElem?_eq_some_iff.1 hx).1]; exact hx
theorem KeepT.below {w w' : World} (h : Below w.heap.size w w') : KeepT w w' := fun K x t fr hx _ => by rw [h.block K (Array.getElem?_eq_some_iff.1 hx).1]; exact hx
theorem KeepT.grown {w w' : World} {base n : Nat} {v : Value} {xs : List Value} (ho : w.ownsRow base 5 1 v n xs) (hg : w.grownBy w' v.ownBlock) : KeepT w w' := fun K x t fr hx ht => by
  rw [hg.block K (Array.getElem?_eq_some_iff.1 hx).1 (fun e => ?_)]
  · exact hx
  · rcases ho.2 with ⟨rfl, _⟩ | ⟨g, cap, cur, rfl, _, hgb, _⟩
    · cases e
    · cases e
      rw [hgb] at hx
      cases hx
      exact ht rfl
theorem append_one (w : World) (base : Nat) (v : Value) (n : Nat) (l : List (BitVec 8)) (hown : w.ownsRow base 5 1 v n (cellsOf l)) (c : BitVec 8) (hb : n + 1 ≤ 140737488355328) (hbase : base ≤ w.heap.size) :
    ∃ v' w', (Builtin.append_ #[31, 31] 31 #[v, .slice (some ⟨w.heap.size, 0, none⟩) 1 1]).run Tryz.prog (w.alloc (.cells #[.int .u8 (V c)] 5)) = .ok v' w' ∧ w'.ownsRow base 5 1 v' (n + 1) (cellsOf (l ++ [c])) ∧ Below base w w' ∧ KeepT w w' := by
  obtain ⟨v', w', hr, h1, h2⟩ := run_append_bytes 31 (w.alloc (.cells #[.int .u8 (V c)] 5)) base v n l (hown.alloc _) (some ⟨w.heap.size, 0, none⟩) 1 1 [c] (seen_new w [c] 5 (0, 0) (by simp [maxLen])) (fun e => by cases e) hb (by simp; omega)
  exact ⟨v', w', hr, h1, ((Below.refl _ w).alloc hbase _).grown h2 (by simp; omega) (fun k e => (hown.lt _ e).1), (KeepT.alloc w _).trans (KeepT.grown (hown.alloc _) h2)⟩

set_option maxHeartbeats 400000 in
theorem addUint_keep (base : Nat) (v : Value) (k : Nat) (l : List (BitVec 8)) (n : Nat) (hn : n < 18446744073709551616) (w : World) (hown : w.ownsRow base 5 1 v k (cellsOf l)) (hbase : base ≤ w.heap.size) (hk : k + 10 ≤ 140737488355328) :
    Calls Tryz.prog 51 #[v, .int .u64 n] w fun e w' => ∃ v', e = .returned v' ∧ w'.ownsRow base 5 1 v' (k + (enc n).length) (cellsOf (l ++ enc n)) ∧ Below base w w' ∧ KeepT w w' := by
  have h10 : Hid _ := enc_ten hn
  have HK : Hid _ := hk
  have HBs : Hid _ := hbase
  have HN : Hid _ := hn
  have HO : Hid _ := hown
  clear hk hbase hown hn
  go_enter Tryz.func51, Tryz.ntmps51
  go_wp2
  go_loopw [0, 1] (fun b i wr => ∃ (m : Nat) (d : List (BitVec 8)), enc n = d ++ enc m ∧ m ≤ n ∧ i = .int .u64 m ∧ wr.ownsRow base 5 1 b (k + d.length) (cellsOf (l ++ d)) ∧ Below base w wr ∧ KeepT w wr)
    (fun _ i _ => (intOf i).toNat)
  case atStart => exact ⟨n, [], rfl, Nat.le_refl _, rfl, by rw [List.append_nil]; exact HO.out, Below.refl _ _, KeepT.refl _⟩
  case round =>
    obtain ⟨m, d, hd, hmn, rfl, hown, hb, hkt⟩ := hrel
    have HKT : Hid (KeepT w wr) := hkt
    clear hkt
    have hlen : d.length + (enc m).length ≤ 10 := by have := h10.out; rw [hd] at this; simpa using this
    have hpos := enc_pos m
    have hbs : base ≤ wr.heap.size := Nat.le_trans HBs.out hb.size
    have hkk := HK.out
    by_cases hlt : m < 128
    · obtain ⟨v', w', hr, h1, h2, h3⟩ := append_one wr base u0 _ _ hown (BitVec.ofNat 8 m) (by omega) hbs
      rw [← u8_low m hlt] at hr
      have HR : Hid _ := hr
      have hnot : (decide (127 < (m : Int))) = false := by simp; omega
      have HL : Hid _ := hlt
      clear hlt
      have H1 : Hid _ := h1
      have H2 : Hid _ := h2
      have H3 : Hid (KeepT wr w') := h3
      have HD : Hid _ := hd
      have HB : Hid _ := hb
      clear hr h1 h2 h3 hown hd hb hlen hpos hbs hkk hmn
      go_wp2_with (at_builtin; refine wpList_append_known rfl (.tmp 15) (.tmp 18) 31 31 rfl _ _ rfl rfl _ _ HR.out ?_)
      go_ret
      refine ⟨_, rfl, ?_, HB.out.trans H2.out, HKT.out.trans H3.out⟩
      rw [HD.out, enc_low HL.out, ← List.append_assoc, List.length_append]
      exact H1.out
    · obtain ⟨v', w', hr, h1, h2, h3⟩ := append_one wr base u0 _ _ hown (BitVec.ofNat 8 (m % 128 + 128)) (by omega) hbs
      have HR : Hid _ := hr
      have h8 := u8_or_128 m
      have hyes : 127 < (m : Int) := by omega
      have H1 : Hid _ := h1
      have H2 : Hid _ := h2
      have H3 : Hid (KeepT wr w') := h3
      have HD : Hid _ := hd
      have HB : Hid _ := hb
      have HMN : Hid _ := hmn
      clear hr h1 h2 h3 hown hd hb hlen hpos hbs hkk hmn
      go_wp2_with (at_builtin; refine wpList_append_known rfl (.tmp 7) (.tmp 11) 31 31 rfl _ _ rfl rfl _ _ HR.out ?_)
      go_roundw
      case rel =>
        refine ⟨m / 128, d ++ [BitVec.ofNat 8 (m % 128 + 128)], ?_, Nat.le_trans (Nat.div_le_self _ _) HMN.out, by go_num, ?_, HB.out.trans H2.out, HKT.out.trans H3.out⟩
        · rw [HD.out, enc_high hlt]; simp
        · rw [← List.append_assoc, List.length_append]; exact H1.out
      case measure => simp only [intOf]; omega

theorem addUint_any (base : Nat) (v : Value) (k : Nat) (l : List (BitVec 8)) (n : Nat) (hn : n < 18446744073709551616) (w : World) (hown : w.ownsRow base 5 1 v k (cellsOf l)) (hbase : base ≤ w.heap.size) (hk : k + 10 ≤ 140737488355328) :
    Calls Tryz.prog 51 #[v, .int .u64 n] w fun e w' => ∃ v', e = .returned v' ∧ w'.ownsRow base 5 1 v' (k + (enc n).length) (cellsOf (l ++ enc n)) ∧ Below base w w' :=
  (addUint_keep base v k l n hn w hown hbase hk).mono fun _ _ ⟨v', h1, h2, h3, _⟩ => ⟨v', h1, h2, h3⟩

/-- codec.Uint -/
theorem uint_any (a : Option Addr) (len cap : Nat) (l : List (BitVec 8)) (n : Nat) (hn : n < 18446744073709551616) (w : World) (h : Seen w a len l) (hnil : a = none → cap = 0) (hm : len + 10 ≤ 140737488355328) :
    Calls Tryz.prog 15 #[.slice a len cap, .int .u64 n] w fun e w' => ∃ v', e = .returned v' ∧ w'.ownsRow w.heap.size 5 1 v' (len + (enc n).length) (cellsOf (l ++ enc n)) ∧ Below w.heap.size w w' := by
  have HC := clone_any a len cap l w h hnil (by omega)
  have HM : Hid _ := hm
  have HN : Hid _ := hn
  clear h hnil hm hn
  go_enter Tryz.func15, Tryz.ntmps15
  go_wp2_with fail
  refine HC.mono ?_
  rintro e w1 ⟨v1, rfl, o1, b1⟩
  go_wp2_with fail
  refine (addUint_any w.heap.size v1 len l n HN.out w1 o1 b1.size HM.out).mono ?_
  rintro e w2 ⟨v2, rfl, o2, b2⟩
  go_wp2
  go_ret
  exact ⟨_, rfl, o2, b1.trans b2⟩
end Go.Proofs.YtdchnfggmkokhaaGreatDoor
