/- What slices.Clone of bytes does; what addUint, addInt, addText do. -/
import Derived.Test.YtogbcciocgpknaaTaA
namespace Go.Proofs.Ytogbcciocgpknaa
open Go.RowKit
set_option linter.unusedVariables false

theorem owns_empty (w : World) (base : Nat) (hb : base ≤ w.heap.size) : (w.alloc (.cells #[] 5)).ownsRow base 5 1 (.slice (some ⟨w.heap.size, 0, none⟩) 0 0) 0 (cellsOf []) :=
  ⟨rfl, .inr ⟨w.heap.size, 0, #[], rfl, hb, heap_alloc_new w _, Nat.le_refl _, by unfold maxLen; omega, rfl, rfl⟩⟩

set_option maxHeartbeats 400000 in
theorem clone_any (a : Option Addr) (len cap : Nat) (l : List (BitVec 8)) (w : World) (h : Seen w a len l) (hnil : a = none → cap = 0) (hm : len ≤ 140737488355328) :
    Calls Try.prog 52 #[.slice a len cap] w fun e w' => ∃ v, e = .returned v ∧ w'.ownsRow w.heap.size 5 1 v len (cellsOf l) ∧ Below w.heap.size w w' := by
  have qT : ∀ (w : World) (a : Option Addr) (n c n' c' : Nat), (binOp .eql 25 (.slice a n c) (.slice none n' c')).run Try.prog w = .ok (.bool a.isNone) w := fun w a n c n' c' => Lib.run_eql_slice_nil w _ _ a n c n' c' Try.underlying25
  cases a with
  | none =>
    obtain ⟨h1, h2, h3⟩ := h
    have h0 : len = 0 := by
      rcases h3 with h3 | ⟨b, off, h, _⟩
      · exact h3
      · cases h
    subst h0
    obtain rfl : l = [] := List.eq_nil_of_length_eq_zero h1.symm
    obtain rfl := hnil rfl
    clear h1 h2 h3 hnil hm
    go_enter Try.func52, Try.ntmps52
    go_wp2
    go_ret
    exact ⟨_, rfl, World.ownsRow_nil _ _ _ _, Below.refl _ _⟩
  | some x =>
    have hs : Seen (w.alloc (.cells #[] 5)) (some x) len l := h.below ((Below.refl _ w).alloc (Nat.le_refl _) _)
    obtain ⟨v', w', hr, hown, hgrow⟩ := run_append_bytes 25 (w.alloc (.cells #[] 5)) w.heap.size _ 0 [] (owns_empty w w.heap.size (Nat.le_refl _)) (some x) len cap l hs (fun e => by cases e) (by omega) (by simp)
    rw [List.nil_append, Nat.zero_add] at hown
    have HR : Hid _ := hr
    have HB : Hid (Below w.heap.size w w') := ((Below.refl _ w).alloc (Nat.le_refl _) _).grown hgrow (by simp) (fun k e => by cases e; exact Nat.le_refl _)
    have HO : Hid _ := hown
    clear h hs hnil hm hr hgrow hown
    go_enter Try.func52, Try.ntmps52
    go_wp2_with (at_builtin; refine wpList_append_known rfl (.tmp 5) (.tmp 6) 25 25 rfl _ _ rfl rfl _ _ HR.out ?_)
    go_ret
    exact ⟨_, rfl, HO.out, HB.out⟩
end Go.Proofs.Ytogbcciocgpknaa

namespace Go.Proofs.Ytogbcciocgpknaa
namespace Cod

/-- A number as bytes. -/
def enc (n : Nat) : List (BitVec 8) := if h : n < 128 then [BitVec.ofNat 8 n] else BitVec.ofNat 8 (n % 128 + 128) :: enc (n / 128)
termination_by n
decreasing_by omega
theorem enc_low {n : Nat} (h : n < 128) : enc n = [BitVec.ofNat 8 n] := by rw [enc, dif_pos h]
theorem enc_high {n : Nat} (h : ¬ n < 128) : enc n = BitVec.ofNat 8 (n % 128 + 128) :: enc (n / 128) := by rw [enc, dif_neg h]
theorem enc_pos (n : Nat) : 0 < (enc n).length := by
  by_cases h : n < 128
  · rw [enc_low h]; simp
  · rw [enc_high h]; simp
theorem enc_length_le : ∀ (k n : Nat), n < 128 ^ (k + 1) → (enc n).length ≤ k + 1
  | 0, n, h => by rw [enc_low (by simpa using h)]; simp
  | k + 1, n, h => by
    by_cases h1 : n < 128
    · rw [enc_low h1]; simp
    · rw [enc_high h1]
      have : n / 128 < 128 ^ (k + 1) := by rw [Nat.div_lt_iff_lt_mul (by omega)]; rwa [Nat.pow_succ] at h
      have := enc_length_le k _ this
      simp; omega
theorem enc_ten {n : Nat} (h : n < 18446744073709551616) : (enc n).length ≤ 10 := enc_length_le 9 n (by omega)
/-- Reading: what number stands at the head of bytes, how many bytes it has, which error there is. -/
def num (place acc : Nat) : List (BitVec 8) → Nat × Nat × Nat
  | [] => (0, 0, 10)
  | c :: r =>
    if (place = 9 ∧ 1 < c.toNat) ∨ (0 < place ∧ c.toNat = 0) then (0, 0, 11)
    else if c.toNat ≤ 127 then (acc + c.toNat * 128 ^ place, place + 1, 0)
    else num (place + 1) (acc + (c.toNat % 128) * 128 ^ place) r
theorem num_width : ∀ (l : List (BitVec 8)) (p a : Nat), (num p a l).2.1 ≤ p + l.length
  | [], p, a => by simp [num]
  | c :: r, p, a => by
    unfold num
    split
    · simp
    · split
      · simp
      · have := num_width r (p + 1) (a + (c.toNat % 128) * 128 ^ p)
        simp; omega
theorem num_short : ∀ (l : List (BitVec 8)) (p a : Nat), (num p a l).2.2 ≠ 0 → (num p a l).1 = 0 ∧ (num p a l).2.1 = 0
  | [], p, a => by simp [num]
  | c :: r, p, a => by
    unfold num
    split
    · simp
    · split
      · simp
      · exact num_short r _ _
/-- What is written is read, whatever stands behind it. -/
theorem num_enc : ∀ (k n : Nat), k ≤ 9 → n < 128 ^ (9 - k) * 2 → (0 < k → 0 < n) → ∀ (a : Nat) (r : List (BitVec 8)), num k a (enc n ++ r) = (a + n * 128 ^ k, k + (enc n).length, 0) := by
  intro k
  induction hk : 9 - k generalizing k with
  | zero =>
    intro n h1 h2 h3 a r
    obtain rfl : k = 9 := by omega
    have h3' := h3 (by omega)
    have h4 : n = 1 := by simp at h2; omega
    subst h4
    rw [enc_low (by omega)]
    simp [num]
  | succ j ih =>
    intro n h1 h2 h3 a r
    by_cases h : n < 128
    · rw [enc_low h]
      have e1 : (BitVec.ofNat 8 n).toNat = n := by simp; omega
      simp only [List.cons_append, List.nil_append, num, e1]
      rw [if_neg (by omega), if_pos (by omega)]
      simp
    · rw [enc_high h]
      have e1 : (BitVec.ofNat 8 (n % 128 + 128)).toNat = n % 128 + 128 := by simp; omega
      simp only [List.cons_append, num, e1]
      rw [if_neg (by omega), if_neg (by omega)]
      have e2 : (n % 128 + 128) % 128 = n % 128 := by omega
      have hlt : n / 128 < 128 ^ (9 - (k + 1)) * 2 := by
        rw [Nat.div_lt_iff_lt_mul (by omega)]
        have : 9 - k = (9 - (k + 1)) + 1 := by omega
        rw [show j + 1 = (9 - (k + 1)) + 1 by omega, Nat.pow_succ] at h2
        omega
      rw [e2, ih (k + 1) (by omega) (n / 128) (by omega) (by rw [show j = 9 - (k + 1) by omega]; exact hlt) (fun _ => by omega)]
      have e3 : a + n % 128 * 128 ^ k + n / 128 * 128 ^ (k + 1) = a + n * 128 ^ k := by
        rw [Nat.pow_succ, Nat.add_assoc]
        congr 1
        have := Nat.div_add_mod n 128
        rw [show n / 128 * (128 ^ k * 128) = (128 * (n / 128)) * 128 ^ k by rw [Nat.mul_comm (128 ^ k), ← Nat.mul_assoc, Nat.mul_comm (n / 128)], ← Nat.add_mul]
        congr 1
        omega
      rw [e3]
      simp only [List.length_cons]
      congr 2
      omega
theorem num_enc0 {n : Nat} (h : n < 18446744073709551616) (r : List (BitVec 8)) : num 0 0 (enc n ++ r) = (n, (enc n).length, 0) := by
  have := num_enc 0 n (by omega) (by simpa using h) (by omega) 0 r
  simpa using this
/-- Cut short it is told so. -/
theorem num_cut : ∀ (i n k a : Nat), k ≤ 9 → n < 128 ^ (9 - k) * 2 → (0 < k → 0 < n) → i < (enc n).length → num k a ((enc n).take i) = (0, 0, 10)
  | 0, n, k, a, _, _, _, _ => by simp [num]
  | i + 1, n, k, a, h1, h2, h3, hi => by
    by_cases h : n < 128
    · rw [enc_low h] at hi; simp at hi
    · rw [enc_high h] at hi ⊢
      have e1 : (BitVec.ofNat 8 (n % 128 + 128)).toNat = n % 128 + 128 := by simp; omega
      have hk : k ≠ 9 := by
        rintro rfl
        simp at h2; omega
      simp only [List.take_succ_cons, num, e1]
      rw [if_neg (by omega), if_neg (by omega)]
      refine num_cut i (n / 128) (k + 1) _ (by omega) ?_ (fun _ => by omega) (by simpa using hi)
      rw [Nat.div_lt_iff_lt_mul (by omega)]
      have : 9 - k = (9 - (k + 1)) + 1 := by omega
      rw [this, Nat.pow_succ] at h2
      omega
theorem num_cut0 {n i : Nat} (h : n < 18446744073709551616) (hi : i < (enc n).length) : num 0 0 ((enc n).take i) = (0, 0, 10) :=
  num_cut i n 0 0 (by omega) (by simpa using h) (by omega) hi
theorem enc_inj {a b : Nat} (ha : a < 18446744073709551616) (hb : b < 18446744073709551616) (h : enc a = enc b) : a = b := by
  have h1 := num_enc0 ha []
  have h2 := num_enc0 hb []
  rw [h] at h1
  rw [h1] at h2
  exact congrArg Prod.fst h2
theorem enc_mono : ∀ (b a : Nat), a ≤ b → (enc a).length ≤ (enc b).length := by
  intro b
  induction b using Nat.strongRecOn with
  | ind b ih =>
    intro a hab
    by_cases h : a < 128
    · rw [enc_low h]; have := enc_pos b; simp only [List.length_cons, List.length_nil]; omega
    · rw [enc_high h, enc_high (n := b) (by omega)]
      have := ih (b / 128) (by omega) (a / 128) (by omega)
      simp; omega
/-- A signed number as a number. -/
def zig (n : Int) : Nat := if n < 0 then (-2 * n - 1).toNat else (2 * n).toNat
theorem zig_lt (n : Int) (hn : -9223372036854775808 ≤ n ∧ n < 9223372036854775808) : zig n < 18446744073709551616 := by
  unfold zig; split <;> omega
/-- and back -/
def zag (m : Nat) : Int := if m % 2 = 1 then -((m / 2 : Nat) : Int) - 1 else ((m / 2 : Nat) : Int)
theorem zag_zig (n : Int) : zag (zig n) = n := by
  unfold zag zig; split <;> split <;> omega
theorem zig_inj {a b : Int} (h : zig a = zig b) : a = b := by rw [← zag_zig a, h, zag_zig]
end Cod
end Go.Proofs.Ytogbcciocgpknaa

namespace Go.Proofs.Ytogbcciocgpknaa
open Go.RowKit Cod
set_option linter.unusedVariables false

theorem u8_or_128 (m : Nat) : bits BinOp.or IntKind.u8 ((m : Int) % 256) 128 = V (BitVec.ofNat 8 (m % 128 + 128)) := by
  have h1 : (m : Int) % 256 = ((m % 256 : Nat) : Int) := by omega
  unfold V
  rw [h1, show (128 : Int) = ((128 : Nat) : Int) from rfl, u8_or_nat _ _ (by omega) (by omega)]
  congr 1
  have : ∀ k : Fin 256, k.val ||| 128 = (BitVec.ofNat 8 (k.val % 128 + 128)).toNat := by decide +kernel
  rw [this ⟨m % 256, by omega⟩]
  simp only
  rw [show m % 256 % 128 = m % 128 by omega]
theorem u8_low (m : Nat) (h : m < 128) : (m : Int) % 256 = V (BitVec.ofNat 8 m) := by
  unfold V
  simp
/-- What is not a row of bytes is kept. -/
def KeepT (w w' : World) : Prop := ∀ (K : Nat) (c : Array Value) (t : TypeId) (fr : Nat × Nat), w.heap[K]? = some (Obj.cells c t fr) → t ≠ 5 → w'.heap[K]? = some (Obj.cells c t fr)
theorem KeepT.refl (w : World) : KeepT w w := fun _ _ _ _ h _ => h
theorem KeepT.trans {a b c : World} (h : KeepT a b) (k : KeepT b c) : KeepT a c := fun K x t fr hx ht => k K x t fr (h K x t fr hx ht) ht
theorem KeepT.alloc (w : World) (o : Obj) : KeepT w (w.alloc o) := fun K x t fr hx _ => by rw [Below.heap_alloc w o K (Array.getElem?_eq_some_iff.1 hx).1]; exact hx
theorem KeepT.below {w w' : World} (h : Below w.heap.size w w') : KeepT w w' := fun K x t fr hx _ => by rw [h.block K (Array.getElem?_eq_some_iff.1 hx).1]; exact hx
theorem KeepT.grown {w w' : World} {base n : Nat} {v : Value} {xs : List Value} (ho : w.ownsRow base 5 1 v n xs) (hg : w.grownBy w' v.ownBlock) : KeepT w w' := fun K x t fr hx ht => by
  rw [hg.block K (Array.getElem?_eq_some_iff.1 hx).1 (fun e => ?_)]
  · exact hx
  · rcases ho.2 with ⟨rfl, _⟩ | ⟨g, cap, cur, rfl, _, hgb, _⟩
    · cases e
    · cases e
      rw [hgb] at hx
      cases hx
      exact ht rfl
theorem append_one (w : World) (base : Nat) (v : Value) (n : Nat) (l : List (BitVec 8)) (hown : w.ownsRow base 5 1 v n (cellsOf l)) (c : BitVec 8) (hb : n + 1 ≤ 140737488355328) (hbase : base ≤ w.heap.size) :
    ∃ v' w', (Builtin.append_ #[25, 25] 25 #[v, .slice (some ⟨w.heap.size, 0, none⟩) 1 1]).run Try.prog (w.alloc (.cells #[.int .u8 (V c)] 5)) = .ok v' w' ∧ w'.ownsRow base 5 1 v' (n + 1) (cellsOf (l ++ [c])) ∧ Below base w w' ∧ KeepT w w' := by
  obtain ⟨v', w', hr, h1, h2⟩ := run_append_bytes 25 (w.alloc (.cells #[.int .u8 (V c)] 5)) base v n l (hown.alloc _) (some ⟨w.heap.size, 0, none⟩) 1 1 [c] (seen_new w [c] 5 (0, 0) (by simp [maxLen])) (fun e => by cases e) hb (by simp; omega)
  exact ⟨v', w', hr, h1, ((Below.refl _ w).alloc hbase _).grown h2 (by simp; omega) (fun k e => (hown.lt _ e).1), (KeepT.alloc w _).trans (KeepT.grown (hown.alloc _) h2)⟩

set_option maxHeartbeats 400000 in
theorem addUint_keep (base : Nat) (v : Value) (k : Nat) (l : List (BitVec 8)) (n : Nat) (hn : n < 18446744073709551616) (w : World) (hown : w.ownsRow base 5 1 v k (cellsOf l)) (hbase : base ≤ w.heap.size) (hk : k + 10 ≤ 140737488355328) :
    Calls Try.prog 60 #[v, .int .u64 n] w fun e w' => ∃ v', e = .returned v' ∧ w'.ownsRow base 5 1 v' (k + (enc n).length) (cellsOf (l ++ enc n)) ∧ Below base w w' ∧ KeepT w w' := by
  have h10 : Hid _ := enc_ten hn
  have HK : Hid _ := hk
  have HBs : Hid _ := hbase
  have HN : Hid _ := hn
  have HO : Hid _ := hown
  clear hk hbase hown hn
  go_enter Try.func60, Try.ntmps60
  go_wp2
  go_loopw [0, 1] (fun b i wr => ∃ (m : Nat) (d : List (BitVec 8)), enc n = d ++ enc m ∧ m ≤ n ∧ i = .int .u64 m ∧ wr.ownsRow base 5 1 b (k + d.length) (cellsOf (l ++ d)) ∧ Below base w wr ∧ KeepT w wr)
    (fun _ i _ => (intOf i).toNat)
  case atStart => exact ⟨n, [], rfl, Nat.le_refl _, rfl, by rw [List.append_nil]; exact HO.out, Below.refl _ _, KeepT.refl _⟩
  case round =>
    obtain ⟨m, d, hd, hmn, rfl, hown, hb, hkt⟩ := hrel
    have HKT : Hid (KeepT w wr) := hkt
    clear hkt
    have hlen : d.length + (enc m).length ≤ 10 := by have := h10.out; rw [hd] at this; simpa using this
    have hpos := enc_pos m
    have hbs : base ≤ wr.heap.size := Nat.le_trans HBs.out hb.size
    have hkk := HK.out
    by_cases hlt : m < 128
    · obtain ⟨v', w', hr, h1, h2, h3⟩ := append_one wr base u0 _ _ hown (BitVec.ofNat 8 m) (by omega) hbs
      rw [← u8_low m hlt] at hr
      have HR : Hid _ := hr
      have hnot : (decide (127 < (m : Int))) = false := by simp; omega
      have HL : Hid _ := hlt
      clear hlt
      have H1 : Hid _ := h1
      have H2 : Hid _ := h2
      have H3 : Hid (KeepT wr w') := h3
      have HD : Hid _ := hd
      have HB : Hid _ := hb
      clear hr h1 h2 h3 hown hd hb hlen hpos hbs hkk hmn
      go_wp2_with (at_builtin; refine wpList_append_known rfl (.tmp 15) (.tmp 18) 25 25 rfl _ _ rfl rfl _ _ HR.out ?_)
      go_ret
      refine ⟨_, rfl, ?_, HB.out.trans H2.out, HKT.out.trans H3.out⟩
      rw [HD.out, enc_low HL.out, ← List.append_assoc, List.length_append]
      exact H1.out
    · obtain ⟨v', w', hr, h1, h2, h3⟩ := append_one wr base u0 _ _ hown (BitVec.ofNat 8 (m % 128 + 128)) (by omega) hbs
      have HR : Hid _ := hr
      have h8 := u8_or_128 m
      have hyes : 127 < (m : Int) := by omega
      have H1 : Hid _ := h1
      have H2 : Hid _ := h2
      have H3 : Hid (KeepT wr w') := h3
      have HD : Hid _ := hd
      have HB : Hid _ := hb
      have HMN : Hid _ := hmn
      clear hr h1 h2 h3 hown hd hb hlen hpos hbs hkk hmn
      go_wp2_with (at_builtin; refine wpList_append_known rfl (.tmp 7) (.tmp 11) 25 25 rfl _ _ rfl rfl _ _ HR.out ?_)
      go_roundw
      case rel =>
        refine ⟨m / 128, d ++ [BitVec.ofNat 8 (m % 128 + 128)], ?_, Nat.le_trans (Nat.div_le_self _ _) HMN.out, by go_num, ?_, HB.out.trans H2.out, HKT.out.trans H3.out⟩
        · rw [HD.out, enc_high hlt]; simp
        · rw [← List.append_assoc, List.length_append]; exact H1.out
      case measure => simp only [intOf]; omega

theorem addUint_any (base : Nat) (v : Value) (k : Nat) (l : List (BitVec 8)) (n : Nat) (hn : n < 18446744073709551616) (w : World) (hown : w.ownsRow base 5 1 v k (cellsOf l)) (hbase : base ≤ w.heap.size) (hk : k + 10 ≤ 140737488355328) :
    Calls Try.prog 60 #[v, .int .u64 n] w fun e w' => ∃ v', e = .returned v' ∧ w'.ownsRow base 5 1 v' (k + (enc n).length) (cellsOf (l ++ enc n)) ∧ Below base w w' :=
  (addUint_keep base v k l n hn w hown hbase hk).mono fun _ _ ⟨v', h1, h2, h3, _⟩ => ⟨v', h1, h2, h3⟩

end Go.Proofs.Ytogbcciocgpknaa
