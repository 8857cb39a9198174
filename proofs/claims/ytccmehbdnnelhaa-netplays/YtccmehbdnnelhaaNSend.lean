/- Package net: Send, Double; a net, whether it has had a letter or not. -/
import Derived.Test.YtccmehbdnnelhaaNGb
namespace Go.Proofs.Ytccmehbdnnelhaa
open Go.RowKit Go.Maps
attribute [local go_sem] Oper.semAt_some
set_option linter.unusedVariables false

def who (x : Int) : Bool := decide (-1 ≤ x) && decide (x < 5)
set_option maxRecDepth 100000 in
theorem knownW_any (x : Int) (w : World) : Calls Try.prog 27 #[.int .i64 x] w fun e w' => e = .returned (.bool (who x)) ∧ w' = w := by
  unfold who
  by_cases h1 : -1 ≤ x
  · by_cases h2 : x < 5
    · rw [decide_eq_true h1, decide_eq_true h2]
      go_enter Try.func27, Try.ntmps27
      go_wp2
      go_ret
      exact ⟨rfl, rfl⟩
    · rw [decide_eq_true h1, decide_eq_false h2]
      go_enter Try.func27, Try.ntmps27
      go_wp2
      go_ret
      exact ⟨rfl, rfl⟩
  · rw [decide_eq_false h1]
    go_enter Try.func27, Try.ntmps27
    go_wp2
    go_ret
    exact ⟨rfl, rfl⟩
/-- A net. -/
def NetS (w : World) (base N : Nat) (L : List Post) (T : Nat) : Prop := Small L ∧ ((NilNet w base N T ∧ L = [] ∧ T = 0) ∨ ∃ B bx, NetIn w base N B bx L T)
theorem NetS.below {w w' : World} {base N T : Nat} {L : List Post} (h : NetS w base N L T) (b : Below w.heap.size w w') : NetS w' base N L T := by
  obtain ⟨s, h⟩ := h
  refine ⟨s, ?_⟩
  rcases h with ⟨h, e⟩ | ⟨B, bx, h⟩
  · exact .inl ⟨h.below b, e⟩
  · exact .inr ⟨B, bx, h.below b⟩
theorem NetS.size {w : World} {base N T : Nat} {L : List Post} (h : NetS w base N L T) : base ≤ w.heap.size := by
  rcases h.2 with ⟨h, e⟩ | ⟨B, bx, h⟩
  · exact Nat.le_of_lt (Nat.lt_of_le_of_lt h.2 h.lt)
  · exact Nat.le_of_lt (Nat.lt_of_le_of_lt h.bN h.ltN)
theorem netS_post {w : World} {base N T : Nat} {L : List Post} (h : NetS w base N L T) (p : Post) (hpt : p.t = T) (hto : -1 ≤ p.to ∧ p.to ≤ 4) (hd : DataAt w p.dv p.b) (hb : p.b.length ≤ 1048576) (hl : L.length < 10000) (hT : T ≤ 100000000000) :
    Calls Try.prog 28 #[.pointer (some ⟨N, 0, none⟩), .agg #[.int .i64 p.fr, .int .i64 p.to, p.dv]] w fun e w' => e = .returned (.int .i64 0) ∧ NetS w' base N (L ++ [p]) (T + 1) ∧ NKeep base w w' := by
  have hs : Small (L ++ [p]) := fun q hq => by
    rcases List.mem_append.1 hq with hq | hq
    · exact h.1 q hq
    · rw [List.mem_singleton.1 hq]; exact hb
  rcases h.2 with ⟨h1, rfl, rfl⟩ | ⟨B, bx, h⟩
  · refine (post_first h1 p hpt hto hd hT).mono ?_
    rintro e w' ⟨rfl, B, bx', hn, hk⟩
    exact ⟨rfl, ⟨hs, .inr ⟨B, bx', hn⟩⟩, hk⟩
  · refine (post_any h p hpt hto hd hl hT).mono ?_
    rintro e w' ⟨rfl, bx', hn, hk⟩
    exact ⟨rfl, ⟨hs, .inr ⟨B, bx', hn⟩⟩, hk⟩
theorem netS_len {w : World} {base N T : Nat} {L : List Post} (h : NetS w base N L T) : Calls Try.prog 23 #[.pointer (some ⟨N, 0, none⟩)] w fun e w' => e = .returned (.int .i64 (L.length : Nat)) ∧ Below w.heap.size w w' := by
  rcases h.2 with ⟨h1, rfl, rfl⟩ | ⟨B, bx, h⟩
  · exact len_first h1
  · exact len_any h
/-- What Send answers. -/
def SendTold (base N T : Nat) (L : List Post) (fr to : Int) (b : List (BitVec 8)) (w w' : World) (e : Ending) : Prop :=
  ((who fr && who to) = false ∧ e = .returned (.int .i64 1) ∧ Below w.heap.size w w') ∨ ((who fr && who to) = true ∧ 1048576 < b.length ∧ e = .returned (.int .i64 3) ∧ Below w.heap.size w w') ∨
  ((who fr && who to) = true ∧ b.length ≤ 1048576 ∧ e = .returned (.int .i64 0) ∧ ∃ dv, NetS w' base N (L ++ [⟨fr, to, dv, b, T⟩]) (T + 1) ∧ NKeep base w w')
set_option maxRecDepth 100000 in
set_option maxHeartbeats 4000000 in
theorem send_any {w : World} {base N T : Nat} {L : List Post} (h : NetS w base N L T) (fr to : Int) (a : Option Addr) (cap : Nat) (b : List (BitVec 8)) (hS : Seen w a b.length b) (hnil : a = none → cap = 0) (hl : L.length < 10000) (hT : T ≤ 100000000000) :
    Calls Try.prog 9 #[.pointer (some ⟨N, 0, none⟩), .int .i64 fr, .int .i64 to, .slice a b.length cap] w fun e w' => SendTold base N T L fr to b w w' e := by
  have HK1 := knownW_any fr w
  have HK2 := knownW_any to w
  have H : Hid (NetS w base N L T ∧ L.length < 10000 ∧ T ≤ 100000000000) := ⟨h, hl, hT⟩
  have HSn : Hid (Seen w a b.length b ∧ (a = none → cap = 0)) := ⟨hS, hnil⟩
  clear h hl hT hS hnil
  cases hf : who fr
  · rw [hf] at HK1
    have HW : Hid ((who fr && who to) = false) := by show _ = _; rw [hf]; rfl
    clear hf HK2
    go_enter Try.func9, Try.ntmps9
    go_wp2_with fail
    refine HK1.mono ?_
    rintro e w1 ⟨rfl, hw⟩
    subst w1
    go_wp2
    go_ret
    exact .inl ⟨HW.out, rfl, Below.refl _ _⟩
  · cases ht : who to
    · rw [hf] at HK1
      rw [ht] at HK2
      have HW : Hid ((who fr && who to) = false) := by show _ = _; rw [hf, ht]; rfl
      clear hf ht
      go_enter Try.func9, Try.ntmps9
      go_wp2_with fail
      refine HK1.mono ?_
      rintro e w1 ⟨rfl, hw⟩
      subst w1
      go_wp2_with fail
      refine HK2.mono ?_
      rintro e w1 ⟨rfl, hw⟩
      subst w1
      go_wp2
      go_ret
      exact .inl ⟨HW.out, rfl, Below.refl _ _⟩
    · rw [hf] at HK1
      rw [ht] at HK2
      have HW : Hid ((who fr && who to) = true ∧ -1 ≤ to ∧ to ≤ 4) := by
        show _ ∧ _
        refine ⟨by rw [hf, ht]; rfl, ?_⟩
        unfold who at ht
        simp only [Bool.and_eq_true, decide_eq_true_eq] at ht
        omega
      clear hf ht
      by_cases hb : b.length ≤ 1048576
      · have g1 : ¬ ((1048576 : Int) < (b.length : Int)) := by omega
        have HB : Hid (b.length ≤ 1048576) := hb
        have HC := clone_any a b.length cap b w HSn.out.1 HSn.out.2 (by omega)
        clear hb
        go_enter Try.func9, Try.ntmps9
        go_wp2_with fail
        refine HK1.mono ?_
        rintro e w1 ⟨rfl, hw⟩
        subst w1
        go_wp2_with fail
        refine HK2.mono ?_
        rintro e w1 ⟨rfl, hw⟩
        subst w1
        clear HK1 HK2
        go_wp2_with fail
        refine HC.mono ?_
        rintro e w1 ⟨v, rfl, o1, b1⟩
        have d1 := dataAt_owned o1 rfl (by have := HB.out; omega)
        have HP := netS_post (H.out.1.below b1) ⟨fr, to, v, b, T⟩ rfl HW.out.2 d1 HB.out H.out.2.1 H.out.2.2
        simp only at HP
        have K1 : Hid (NKeep base w w1) := NKeep.of_below b1 H.out.1.size
        obtain ⟨a', c', rfl, s', n', u'⟩ := d1
        clear HC o1 b1 s' n' u'
        go_wp2_with fail
        refine HP.mono ?_
        rintro e w2 ⟨rfl, n2, k2⟩
        have FIN : Hid (∃ dv, NetS w2 base N (L ++ [⟨fr, to, dv, b, T⟩]) (T + 1) ∧ NKeep base w w2) := ⟨_, n2, K1.out.trans k2⟩
        clear HP n2 k2
        go_wp2
        go_ret
        exact .inr (.inr ⟨HW.out.1, HB.out, rfl, FIN.out⟩)
      · have g1 : (1048576 : Int) < (b.length : Int) := by omega
        have HB : Hid (1048576 < b.length) := by show _ < _; omega
        clear hb
        go_enter Try.func9, Try.ntmps9
        go_wp2_with fail
        refine HK1.mono ?_
        rintro e w1 ⟨rfl, hw⟩
        subst w1
        go_wp2_with fail
        refine HK2.mono ?_
        rintro e w1 ⟨rfl, hw⟩
        subst w1
        clear HK1 HK2
        go_wp2
        go_ret
        exact .inr (.inl ⟨HW.out.1, HB.out, rfl, Below.refl _ _⟩)
set_option maxRecDepth 100000 in
set_option maxHeartbeats 4000000 in
theorem double_any {w : World} {base N B T : Nat} {bx : Int → Value} {L : List Post} (h : NetIn w base N B bx L T) (hs : Small L) (k : Int) (hl : L.length < 10000) (hT : T ≤ 100000000000) : Calls Try.prog 18 #[.pointer (some ⟨N, 0, none⟩), .int .i64 k] w fun e w' =>
    ((k < 0 ∨ (L.length : Int) ≤ k) ∧ e = .returned (.int .i64 1) ∧ Below w.heap.size w w') ∨ ∃ (i : Nat) (hi : i < L.length), k = (i : Int) ∧ e = .returned (.int .i64 0) ∧ NetS w' base N (L ++ [⟨L[i].fr, L[i].to, L[i].dv, L[i].b, T⟩]) (T + 1) ∧ NKeep base w w' := by
  have HF := find_any h k (by omega)
  have H : Hid (NetIn w base N B bx L T ∧ L.length < 10000 ∧ T ≤ 100000000000 ∧ Small L) := ⟨h, hl, hT, hs⟩
  have hbs : base ≤ w.heap.size := Nat.le_of_lt (Nat.lt_of_le_of_lt h.bN h.ltN)
  clear h hl hT hs
  go_enter Try.func18, Try.ntmps18
  go_wp2_with fail
  refine HF.mono ?_
  rintro e w1 ⟨ft, b1⟩
  clear HF
  rcases ft with ⟨hk, rfl⟩ | ⟨i, hi, rfl, rfl⟩
  · have BS : Hid (Below w.heap.size w (w1.alloc (.cells #[.int .i64 0, .int .i64 0] 63))) := b1.trans (((Below.refl _ w1).alloc (Nat.le_refl _) _).mono b1.size)
    clear b1 hbs
    go_wp2
    go_ret
    exact .inl ⟨hk, rfl, BS.out⟩
  · have HI : Hid (∃ h : i < L.length, True) := ⟨hi, trivial⟩
    have bS := (Below.refl _ w1).alloc (Nat.le_refl _) (.cells #[.int .i64 L[i].to, .int .i64 (spotOf L i : Nat)] 63)
    have hS := (H.out.1.below b1).below bS
    have HL := letter_any hS hi
    obtain ⟨p, ep⟩ : ∃ p, L[i] = p := ⟨_, rfl⟩
    have dp := hS.dat L[i] (List.getElem_mem hi)
    have sp := H.out.2.2.2 L[i] (List.getElem_mem hi)
    have tp := hS.tos L[i] (List.getElem_mem hi)
    rw [ep] at HL dp sp bS hS tp
    rw [ep]
    obtain ⟨at_, eat⟩ : ∃ at_, spotOf L i = at_ := ⟨_, rfl⟩
    rw [eat] at HL dp bS hS
    rw [eat]
    have q := heap_alloc_new w1 (.cells #[.int .i64 p.to, .int .i64 (at_ : Int)] 63)
    obtain ⟨ws, ews⟩ : ∃ ws, w1.alloc (.cells #[.int .i64 p.to, .int .i64 (at_ : Int)] 63) = ws := ⟨_, rfl⟩
    rw [ews] at HL dp bS hS q
    have c0 : ws.cell? ⟨w1.heap.size, 0, none⟩ = some (.int .i64 p.to) := by unfold World.cell?; simp only [q]; rfl
    have c1 : ws.cell? ⟨w1.heap.size, 1, none⟩ = some (.int .i64 (at_ : Int)) := by unfold World.cell?; simp only [q]; rfl
    have EP : Hid (∀ h : i < L.length, L[i] = p) := fun _ => ep
    have kW : NKeep base w ws := (NKeep.of_below b1 hbs).trans (NKeep.of_below bS (Nat.le_trans hbs b1.size))
    have HH : Hid (NetIn ws base N B bx L T ∧ DataAt ws p.dv p.b ∧ p.b.length ≤ 1048576 ∧ -1 ≤ p.to ∧ p.to ≤ 4 ∧ NKeep base w ws) := ⟨hS, dp, sp, tp.1, tp.2, kW⟩
    clear hS bS b1 dp sp ep eat q tp kW hbs
    go_wp2_with (first | (rw [ews]) | fail)
    try rw [ews]
    refine HL.mono ?_
    rintro e w2 ⟨rfl, b2⟩
    have h2 := HH.out.1.below b2
    have HP := netS_post (L := L) (T := T) (w := w2) (N := N) (base := base) ⟨H.out.2.2.2, .inr ⟨B, bx, h2⟩⟩ ⟨p.fr, p.to, p.dv, p.b, T⟩ rfl ⟨HH.out.2.2.2.1, HH.out.2.2.2.2.1⟩ (HH.out.2.1.below b2) HH.out.2.2.1 H.out.2.1 H.out.2.2.1
    simp only at HP
    have K2 : Hid (NKeep base w w2) := HH.out.2.2.2.2.2.trans (NKeep.of_below b2 (Nat.le_of_lt (Nat.lt_of_le_of_lt HH.out.1.bN HH.out.1.ltN)))
    clear HL b2 c0 c1 ews h2
    go_wp2_with fail
    refine HP.mono ?_
    rintro e w3 ⟨rfl, n3, k3⟩
    have FIN : Hid (NetS w3 base N (L ++ [⟨p.fr, p.to, p.dv, p.b, T⟩]) (T + 1) ∧ NKeep base w w3) := ⟨n3, K2.out.trans k3⟩
    clear HP n3 k3
    go_wp2
    go_ret
    obtain ⟨hi, _⟩ := HI.out
    refine .inr ⟨i, hi, rfl, rfl, ?_⟩
    rw [EP.out hi]
    exact FIN.out
end Go.Proofs.Ytccmehbdnnelhaa
