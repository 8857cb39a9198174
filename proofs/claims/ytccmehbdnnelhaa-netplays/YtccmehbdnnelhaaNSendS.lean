/- Package net: Send, with where the bytes lie. -/
import Derived.Test.YtccmehbdnnelhaaNOwn
namespace Go.Proofs.Ytccmehbdnnelhaa
open Go.RowKit Go.Maps
attribute [local go_sem] Oper.semAt_some
set_option linter.unusedVariables false

def SendToldS (base N T : Nat) (L : List Post) (fr to : Int) (b : List (BitVec 8)) (w w' : World) (e : Ending) : Prop :=
  ((who fr && who to) = false ∧ e = .returned (.int .i64 1) ∧ Below w.heap.size w w') ∨ ((who fr && who to) = true ∧ 1048576 < b.length ∧ e = .returned (.int .i64 3) ∧ Below w.heap.size w w') ∨
  ((who fr && who to) = true ∧ b.length ≤ 1048576 ∧ e = .returned (.int .i64 0) ∧ ∃ dv, NetS w' base N (L ++ [⟨fr, to, dv, b, T⟩]) (T + 1) ∧ NKeep base w w' ∧ OwnAt w.heap.size w' dv b)
set_option maxRecDepth 100000 in
set_option maxHeartbeats 4000000 in
theorem sendS_any {w : World} {base N T : Nat} {L : List Post} (h : NetS w base N L T) (fr to : Int) (a : Option Addr) (cap : Nat) (b : List (BitVec 8)) (hS : Seen w a b.length b) (hnil : a = none → cap = 0) (hl : L.length < 10000) (hT : T ≤ 100000000000) :
    Calls Try.prog 9 #[.pointer (some ⟨N, 0, none⟩), .int .i64 fr, .int .i64 to, .slice a b.length cap] w fun e w' => SendToldS base N T L fr to b w w' e := by
  have HK1 := knownW_any fr w
  have HK2 := knownW_any to w
  have H : Hid (NetS w base N L T ∧ L.length < 10000 ∧ T ≤ 100000000000) := ⟨h, hl, hT⟩
  have HSn : Hid (Seen w a b.length b ∧ (a = none → cap = 0)) := ⟨hS, hnil⟩
  clear h hl hT hS hnil
  cases hf : who fr
  · rw [hf] at HK1
    have HW : Hid ((who fr && who to) = false) := by show _ = _; rw [hf]; rfl
    clear hf HK2
    go_enter Try.func9, Try.ntmps9
    go_wp2_with fail
    refine HK1.mono ?_
    rintro e w1 ⟨rfl, hw⟩
    subst w1
    go_wp2
    go_ret
    exact .inl ⟨HW.out, rfl, Below.refl _ _⟩
  · cases ht : who to
    · rw [hf] at HK1
      rw [ht] at HK2
      have HW : Hid ((who fr && who to) = false) := by show _ = _; rw [hf, ht]; rfl
      clear hf ht
      go_enter Try.func9, Try.ntmps9
      go_wp2_with fail
      refine HK1.mono ?_
      rintro e w1 ⟨rfl, hw⟩
      subst w1
      go_wp2_with fail
      refine HK2.mono ?_
      rintro e w1 ⟨rfl, hw⟩
      subst w1
      go_wp2
      go_ret
      exact .inl ⟨HW.out, rfl, Below.refl _ _⟩
    · rw [hf] at HK1
      rw [ht] at HK2
      have HW : Hid ((who fr && who to) = true ∧ -1 ≤ to ∧ to ≤ 4) := by
        show _ ∧ _
        refine ⟨by rw [hf, ht]; rfl, ?_⟩
        unfold who at ht
        simp only [Bool.and_eq_true, decide_eq_true_eq] at ht
        omega
      clear hf ht
      by_cases hb : b.length ≤ 1048576
      · have g1 : ¬ ((1048576 : Int) < (b.length : Int)) := by omega
        have HB : Hid (b.length ≤ 1048576) := hb
        have HC := clone_any a b.length cap b w HSn.out.1 HSn.out.2 (by omega)
        clear hb
        go_enter Try.func9, Try.ntmps9
        go_wp2_with fail
        refine HK1.mono ?_
        rintro e w1 ⟨rfl, hw⟩
        subst w1
        go_wp2_with fail
        refine HK2.mono ?_
        rintro e w1 ⟨rfl, hw⟩
        subst w1
        clear HK1 HK2
        go_wp2_with fail
        refine HC.mono ?_
        rintro e w1 ⟨v, rfl, o1, b1⟩
        have d1 := dataAt_owned o1 rfl (by have := HB.out; omega)
        have HP := netS_post (H.out.1.below b1) ⟨fr, to, v, b, T⟩ rfl HW.out.2 d1 HB.out H.out.2.1 H.out.2.2
        simp only at HP
        have K1 : Hid (NKeep base w w1) := NKeep.of_below b1 H.out.1.size
        have O1 : Hid (OwnAt w.heap.size w1 v b) := o1
        obtain ⟨a', c', rfl, s', n', u'⟩ := d1
        clear HC o1 b1 s' n' u'
        go_wp2_with fail
        refine HP.mono ?_
        rintro e w2 ⟨rfl, n2, k2⟩
        have FIN : Hid (∃ dv, NetS w2 base N (L ++ [⟨fr, to, dv, b, T⟩]) (T + 1) ∧ NKeep base w w2 ∧ OwnAt w.heap.size w2 dv b) := ⟨_, n2, K1.out.trans k2, O1.out.nk k2⟩
        clear HP n2 k2
        go_wp2
        go_ret
        exact .inr (.inr ⟨HW.out.1, HB.out, rfl, FIN.out⟩)
      · have g1 : (1048576 : Int) < (b.length : Int) := by omega
        have HB : Hid (1048576 < b.length) := by show _ < _; omega
        clear hb
        go_enter Try.func9, Try.ntmps9
        go_wp2_with fail
        refine HK1.mono ?_
        rintro e w1 ⟨rfl, hw⟩
        subst w1
        go_wp2_with fail
        refine HK2.mono ?_
        rintro e w1 ⟨rfl, hw⟩
        subst w1
        clear HK1 HK2
        go_wp2
        go_ret
        exact .inr (.inl ⟨HW.out.1, HB.out, rfl, Below.refl _ _⟩)
end Go.Proofs.Ytccmehbdnnelhaa
