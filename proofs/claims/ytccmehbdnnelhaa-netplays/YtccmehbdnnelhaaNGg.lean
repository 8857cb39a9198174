/- Package net: a net with no room. -/
import Derived.Test.YtccmehbdnnelhaaNSend
import Derived.Test.YtccmehbdnnelhaaNLet
namespace Go.Proofs.Ytccmehbdnnelhaa
open Go.RowKit Go.Maps
set_option linter.unusedVariables false
set_option maxRecDepth 100000 in
set_option maxHeartbeats 1600000 in
theorem post_full {w : World} {base N B T : Nat} {bx : Int → Value} {L : List Post} (h : NetIn w base N B bx L T) (fr to : Int) (dv : Value) (hl : 10000 ≤ L.length) :
    Calls Try.prog 28 #[.pointer (some ⟨N, 0, none⟩), .agg #[.int .i64 fr, .int .i64 to, dv]] w fun e w' => e = .returned (.int .i64 4) ∧ Below w.heap.size w w' := by
  have bA := (Below.refl w.heap.size w).alloc (Nat.le_refl _) (.cells #[.int .i64 fr, .int .i64 to, dv] 45)
  have HLn := len_any (h.below bA)
  obtain ⟨wA, eA⟩ : ∃ wA, w.alloc (.cells #[.int .i64 fr, .int .i64 to, dv] 45) = wA := ⟨_, rfl⟩
  rw [eA] at HLn bA
  have BA : Hid (Below w.heap.size w wA) := bA
  have hl' : (10000 : Int) ≤ (L.length : Int) := by omega
  obtain ⟨ln, eln⟩ : ∃ ln, L.length = ln := ⟨_, rfl⟩
  rw [eln] at HLn hl'
  clear h hl bA eln
  go_enter Try.func28, Try.ntmps28
  go_wp2_with (first | (rw [eA]) | fail)
  refine HLn.mono ?_
  rintro e w1 ⟨rfl, b1⟩
  have B1 : Hid (Below w.heap.size w w1) := BA.out.trans (b1.mono BA.out.size)
  clear b1 HLn
  go_wp2
  go_ret
  exact ⟨rfl, B1.out⟩
/-- What Send answers where there is no room. -/
def FullTold (fr to : Int) (b : List (BitVec 8)) (w w' : World) (e : Ending) : Prop :=
    ((who fr && who to) = false ∧ e = .returned (.int .i64 1) ∧ Below w.heap.size w w') ∨ ((who fr && who to) = true ∧ 1048576 < b.length ∧ e = .returned (.int .i64 3) ∧ Below w.heap.size w w') ∨
    ((who fr && who to) = true ∧ b.length ≤ 1048576 ∧ e = .returned (.int .i64 4) ∧ Below w.heap.size w w')
set_option maxRecDepth 100000 in
set_option maxHeartbeats 4000000 in
theorem send_full {w : World} {base N B T : Nat} {bx : Int → Value} {L : List Post} (h : NetIn w base N B bx L T) (fr to : Int) (a : Option Addr) (cap : Nat) (b : List (BitVec 8)) (hS : Seen w a b.length b) (hnil : a = none → cap = 0) (hl : 10000 ≤ L.length) :
    Calls Try.prog 9 #[.pointer (some ⟨N, 0, none⟩), .int .i64 fr, .int .i64 to, .slice a b.length cap] w fun e w' => FullTold fr to b w w' e := by
  have HK1 := knownW_any fr w
  have HK2 := knownW_any to w
  have H : Hid (NetIn w base N B bx L T ∧ 10000 ≤ L.length) := ⟨h, hl⟩
  have HSn : Hid (Seen w a b.length b ∧ (a = none → cap = 0)) := ⟨hS, hnil⟩
  clear h hl hS hnil
  cases hf : who fr
  · rw [hf] at HK1
    have HW : Hid ((who fr && who to) = false) := by show _ = _; rw [hf]; rfl
    clear hf HK2
    go_enter Try.func9, Try.ntmps9
    go_wp2_with fail
    refine HK1.mono ?_
    rintro e w1 ⟨rfl, hw⟩
    subst w1
    go_wp2
    go_ret
    exact .inl ⟨HW.out, rfl, Below.refl _ _⟩
  · cases ht : who to
    · rw [hf] at HK1
      rw [ht] at HK2
      have HW : Hid ((who fr && who to) = false) := by show _ = _; rw [hf, ht]; rfl
      clear hf ht
      go_enter Try.func9, Try.ntmps9
      go_wp2_with fail
      refine HK1.mono ?_
      rintro e w1 ⟨rfl, hw⟩
      subst w1
      go_wp2_with fail
      refine HK2.mono ?_
      rintro e w1 ⟨rfl, hw⟩
      subst w1
      go_wp2
      go_ret
      exact .inl ⟨HW.out, rfl, Below.refl _ _⟩
    · rw [hf] at HK1
      rw [ht] at HK2
      have HW : Hid ((who fr && who to) = true ∧ -1 ≤ to ∧ to ≤ 4) := by
        show _ ∧ _
        refine ⟨by rw [hf, ht]; rfl, ?_⟩
        unfold who at ht
        simp only [Bool.and_eq_true, decide_eq_true_eq] at ht
        omega
      clear hf ht
      by_cases hb : b.length ≤ 1048576
      · have g1 : ¬ ((1048576 : Int) < (b.length : Int)) := by omega
        have HB : Hid (b.length ≤ 1048576) := hb
        have HC := clone_any a b.length cap b w HSn.out.1 HSn.out.2 (by omega)
        clear hb
        go_enter Try.func9, Try.ntmps9
        go_wp2_with fail
        refine HK1.mono ?_
        rintro e w1 ⟨rfl, hw⟩
        subst w1
        go_wp2_with fail
        refine HK2.mono ?_
        rintro e w1 ⟨rfl, hw⟩
        subst w1
        clear HK1 HK2
        go_wp2_with fail
        refine HC.mono ?_
        rintro e w1 ⟨v, rfl, o1, b1⟩
        have d1 := dataAt_owned o1 rfl (by have := HB.out; omega)
        have HP := post_full (H.out.1.below b1) fr to v H.out.2
        have B1 : Hid (Below w.heap.size w w1) := b1
        obtain ⟨a', c', rfl, s', n', u'⟩ := d1
        clear HC o1 b1 s' n' u'
        go_wp2_with fail
        refine HP.mono ?_
        rintro e w2 ⟨rfl, b2⟩
        have FIN : Hid (Below w.heap.size w w2) := B1.out.trans (b2.mono B1.out.size)
        clear HP b2
        go_wp2
        go_ret
        exact .inr (.inr ⟨HW.out.1, HB.out, rfl, FIN.out⟩)
      · have g1 : (1048576 : Int) < (b.length : Int) := by omega
        have HB : Hid (1048576 < b.length) := by show _ < _; omega
        clear hb
        go_enter Try.func9, Try.ntmps9
        go_wp2_with fail
        refine HK1.mono ?_
        rintro e w1 ⟨rfl, hw⟩
        subst w1
        go_wp2_with fail
        refine HK2.mono ?_
        rintro e w1 ⟨rfl, hw⟩
        subst w1
        clear HK1 HK2
        go_wp2
        go_ret
        exact .inr (.inl ⟨HW.out.1, HB.out, rfl, Below.refl _ _⟩)
set_option maxRecDepth 100000 in
set_option maxHeartbeats 4000000 in
theorem double_full {w : World} {base N B T : Nat} {bx : Int → Value} {L : List Post} (h : NetIn w base N B bx L T) (k : Int) (hl : 10000 ≤ L.length) (hT : T ≤ 100000000000) : Calls Try.prog 18 #[.pointer (some ⟨N, 0, none⟩), .int .i64 k] w fun e w' =>
    ((k < 0 ∨ (L.length : Int) ≤ k) ∧ e = .returned (.int .i64 1) ∧ Below w.heap.size w w') ∨ ∃ (i : Nat) (_ : i < L.length), k = (i : Int) ∧ e = .returned (.int .i64 4) ∧ Below w.heap.size w w' := by
  have HF := find_any h k (by omega)
  have H : Hid (NetIn w base N B bx L T ∧ 10000 ≤ L.length) := ⟨h, hl⟩
  have hbs : base ≤ w.heap.size := Nat.le_of_lt (Nat.lt_of_le_of_lt h.bN h.ltN)
  clear h hl hT
  go_enter Try.func18, Try.ntmps18
  go_wp2_with fail
  refine HF.mono ?_
  rintro e w1 ⟨ft, b1⟩
  clear HF
  rcases ft with ⟨hk, rfl⟩ | ⟨i, hi, rfl, rfl⟩
  · have BS : Hid (Below w.heap.size w (w1.alloc (.cells #[.int .i64 0, .int .i64 0] 63))) := b1.trans (((Below.refl _ w1).alloc (Nat.le_refl _) _).mono b1.size)
    clear b1 hbs
    go_wp2
    go_ret
    exact .inl ⟨hk, rfl, BS.out⟩
  · have HI : Hid (∃ h : i < L.length, True) := ⟨hi, trivial⟩
    have bS := (Below.refl _ w1).alloc (Nat.le_refl _) (.cells #[.int .i64 L[i].to, .int .i64 (spotOf L i : Nat)] 63)
    have hS := (H.out.1.below b1).below bS
    have HL := letter_any hS hi
    obtain ⟨p, ep⟩ : ∃ p, L[i] = p := ⟨_, rfl⟩
    rw [ep] at HL bS hS
    rw [ep]
    obtain ⟨at_, eat⟩ : ∃ at_, spotOf L i = at_ := ⟨_, rfl⟩
    rw [eat] at HL bS hS
    rw [eat]
    have q := heap_alloc_new w1 (.cells #[.int .i64 p.to, .int .i64 (at_ : Int)] 63)
    obtain ⟨ws, ews⟩ : ∃ ws, w1.alloc (.cells #[.int .i64 p.to, .int .i64 (at_ : Int)] 63) = ws := ⟨_, rfl⟩
    rw [ews] at HL bS hS q
    have c0 : ws.cell? ⟨w1.heap.size, 0, none⟩ = some (.int .i64 p.to) := by unfold World.cell?; simp only [q]; rfl
    have c1 : ws.cell? ⟨w1.heap.size, 1, none⟩ = some (.int .i64 (at_ : Int)) := by unfold World.cell?; simp only [q]; rfl
    have EP : Hid (∀ h : i < L.length, L[i] = p) := fun _ => ep
    have kW : Below w.heap.size w ws := b1.trans (bS.mono b1.size)
    have HH : Hid (NetIn ws base N B bx L T ∧ Below w.heap.size w ws) := ⟨hS, kW⟩
    clear hS bS b1 ep eat q kW hbs
    go_wp2_with (first | (rw [ews]) | fail)
    try rw [ews]
    refine HL.mono ?_
    rintro e w2 ⟨rfl, b2⟩
    have h2 := HH.out.1.below b2
    have HP := post_full h2 p.fr p.to p.dv H.out.2
    have K2 : Hid (Below w.heap.size w w2) := HH.out.2.trans (b2.mono HH.out.2.size)
    clear HL b2 c0 c1 ews h2
    go_wp2_with fail
    refine HP.mono ?_
    rintro e w3 ⟨rfl, b3⟩
    have FIN : Hid (Below w.heap.size w w3) := K2.out.trans (b3.mono K2.out.size)
    clear HP b3
    go_wp2
    go_ret
    obtain ⟨hi, _⟩ := HI.out
    exact .inr ⟨i, hi, rfl, rfl, FIN.out⟩
end Go.Proofs.Ytccmehbdnnelhaa

namespace Go.Proofs.Ytccmehbdnnelhaa
open Go.RowKit Go.Maps
set_option linter.unusedVariables false
set_option maxRecDepth 100000 in
set_option maxHeartbeats 4000000 in
theorem find_first {w : World} {base N : Nat} (h : NilNet w base N 0) (k : Int) : Calls Try.prog 31 #[.pointer (some ⟨N, 0, none⟩), .int .i64 k] w fun e w' => e = .returned (.tuple #[.agg #[.int .i64 0, .int .i64 0], .int .i64 1]) ∧ Below w.heap.size w w' := by
  have F3 := fmem_new w N k
  obtain ⟨w3, e3⟩ : ∃ w3, (((w.alloc (.cells #[.pointer (some ⟨N, 0, none⟩)] 23)).alloc (.cells #[.int .i64 k] 3)).alloc (.cells #[.int .i64 0, .int .i64 0] 63)) = w3 := ⟨_, rfl⟩
  rw [e3] at F3
  have HF : Hid (FMem w w3 N k) := F3
  have q1 := F3.p1
  have q2 := F3.p2
  have H3 : Hid (NilNet w3 base N 0) := h.below F3.be
  have q3 := H3.out.c1
  clear F3
  by_cases hk : k < 0
  · clear h q3 H3
    go_enter Try.func31, Try.ntmps31
    go_wp2_with (first | (rw [e3]) | (refine wpList_store_row rfl 63 (.tmp 4) (.tmp 18) rfl (w.heap.size + 2) #[.int .i64 0, .int .i64 0] rfl rfl 63 _ HF.out.sp (by kernel_rfl) rfl (by simp [Value.oneCell']) ?_))
    exact bodyPost_ret (results_rowN rfl _ _ (w.heap.size + 2) 63 _ _ _ rfl (setRow_heap _ _ _ _ _ _ HF.out.sp) Try.underlying63 rfl (by kernel_rfl)) rfl ⟨rfl, rowN_below HF.out.be (by omega)⟩
  · have HS := search_any 0 38 rfl (.pointer (some ⟨w.heap.size, 0, none⟩)) (.pointer (some ⟨w.heap.size + 1, 0, none⟩)) (fun i => true) w3 (by omega)
      (fun i hi W hW => absurd hi (by omega)) (fun i j hij hp => rfl)
    clear h
    go_enter Try.func31, Try.ntmps31
    go_wp2_with (first | (rw [e3]) | fail)
    refine HS.mono ?_
    clear HS
    rintro e w4 ⟨⟨r, rfl, r1, r2, r3⟩, b4⟩
    have F4 : Hid (FMem w w4 N k) := HF.out.below b4
    have q1 := F4.out.p1
    have q4 := (H3.out.below b4).c0
    have hr := run_range_nilMap (P := Try.prog) w4 36 3 66 underM
    have hn := run_next_nilMap (P := Try.prog) w4 0 0 0 #[]
    have F5 : Hid (FMem w (w4.alloc (.mapIter none 0 #[] 0)) N k) := F4.out.below ((Below.refl _ w4).alloc (Nat.le_refl _) _)
    clear r1 r2 r3 b4 q2 q3 e3 H3 HF F4
    go_wp2
    go_loopw [7] (fun _ wr => wr = w4.alloc (.mapIter none 0 #[] 0)) (fun _ _ => 0)
    case atStart => rfl
    case round =>
      subst hrel
      go_wp2_with (first | (refine wpList_store_row rfl 63 (.tmp 4) (.tmp 45) rfl (w.heap.size + 2) #[.int .i64 0, .int .i64 0] rfl rfl 63 _ F5.out.sp (by kernel_rfl) rfl (by simp [Value.oneCell']) ?_))
      exact bodyPost_ret (results_rowN rfl _ _ (w.heap.size + 2) 63 _ _ _ rfl (setRow_heap _ _ _ _ _ _ F5.out.sp) Try.underlying63 rfl (by kernel_rfl)) rfl ⟨rfl, rowN_below F5.out.be (by omega)⟩
set_option maxRecDepth 100000 in
set_option maxHeartbeats 1600000 in
theorem look_first {w : World} {base N : Nat} (h : NilNet w base N 0) (k : Int) : Calls Try.prog 21 #[.pointer (some ⟨N, 0, none⟩), .int .i64 k] w fun e w' => e = .returned (.tuple #[.agg #[.int .i64 0, .int .i64 0, .slice none 0 0], .int .i64 1]) ∧ Below w.heap.size w w' := by
  have bA := (Below.refl w.heap.size w).alloc (Nat.le_refl _) (.cells #[.int .i64 0, .int .i64 0, .slice none 0 0] 45)
  have r0 := row3 w (.int .i64 0) (.int .i64 0) (.slice none 0 0)
  have hA := h.below bA
  obtain ⟨wA, eA⟩ : ∃ wA, w.alloc (.cells #[.int .i64 0, .int .i64 0, .slice none 0 0] 45) = wA := ⟨_, rfl⟩
  rw [eA] at bA r0 hA
  have HF := find_first hA k
  have R0 : Hid (wA.heap[w.heap.size]? = some (.cells #[.int .i64 0, .int .i64 0, .slice none 0 0] 45 (0, 0))) := r0
  have BA : Hid (Below w.heap.size w wA) := bA
  obtain ⟨S0, eS0⟩ : ∃ S0, w.heap.size = S0 := ⟨_, rfl⟩
  rw [eS0] at R0
  have ES : Hid (w.heap.size = S0) := eS0
  clear h hA bA r0
  go_enter Try.func21, Try.ntmps21
  go_wp2_with (first | (rw [eA]) | fail)
  try rw [eA]
  refine HF.mono ?_
  rintro e w1 ⟨rfl, b1⟩
  clear HF
  try rw [eS0]
  clear eA eS0
  have bS := (Below.refl _ w1).alloc (Nat.le_refl _) (.cells #[.int .i64 0, .int .i64 0] 63)
  have r1 : (w1.alloc (.cells #[.int .i64 0, .int .i64 0] 63)).heap[S0]? = some (.cells #[.int .i64 0, .int .i64 0, .slice none 0 0] 45 (0, 0)) := by
    have lt := (Array.getElem?_eq_some_iff.1 R0.out).1
    rw [bS.block S0 (Nat.lt_of_lt_of_le lt b1.size), b1.block S0 lt]
    exact R0.out
  have R1 : Hid _ := r1
  have BS : Hid (Below w.heap.size w (w1.alloc (.cells #[.int .i64 0, .int .i64 0] 63))) := (BA.out.trans (b1.mono BA.out.size)).trans (bS.mono (BA.out.trans (b1.mono BA.out.size)).size)
  clear r1 bS b1
  go_wp2_with (first | (refine wpList_store_row rfl 45 (.tmp 4) (.tmp 16) rfl S0 #[.int .i64 0, .int .i64 0, .slice none 0 0] rfl rfl 45 _ R1.out (by kernel_rfl) rfl (by simp [Value.oneCell']) ?_))
  exact bodyPost_ret (results_rowN rfl _ _ S0 45 _ _ _ rfl (setRow_heap _ _ _ _ _ _ R1.out) Try.underlying45 rfl (by kernel_rfl)) rfl ⟨rfl, rowN_below BS.out (by rw [← ES.out]; exact Nat.le_refl _)⟩
set_option maxRecDepth 100000 in
set_option maxHeartbeats 1600000 in
theorem take_first {w : World} {base N : Nat} (h : NilNet w base N 0) (k : Int) : Calls Try.prog 13 #[.pointer (some ⟨N, 0, none⟩), .int .i64 k] w fun e w' => e = .returned (.tuple #[.agg #[.int .i64 0, .int .i64 0, .slice none 0 0], .int .i64 1]) ∧ Below w.heap.size w w' := by
  have bA := (Below.refl w.heap.size w).alloc (Nat.le_refl _) (.cells #[.int .i64 0, .int .i64 0, .slice none 0 0] 45)
  have r0 := row3 w (.int .i64 0) (.int .i64 0) (.slice none 0 0)
  have hA := h.below bA
  obtain ⟨wA, eA⟩ : ∃ wA, w.alloc (.cells #[.int .i64 0, .int .i64 0, .slice none 0 0] 45) = wA := ⟨_, rfl⟩
  rw [eA] at bA r0 hA
  have HF := look_first hA k
  have R0 : Hid (wA.heap[w.heap.size]? = some (.cells #[.int .i64 0, .int .i64 0, .slice none 0 0] 45 (0, 0))) := r0
  have BA : Hid (Below w.heap.size w wA) := bA
  obtain ⟨S0, eS0⟩ : ∃ S0, w.heap.size = S0 := ⟨_, rfl⟩
  rw [eS0] at R0
  have ES : Hid (w.heap.size = S0) := eS0
  clear h hA bA r0
  go_enter Try.func13, Try.ntmps13
  go_wp2_with (first | (rw [eA]) | fail)
  try rw [eA]
  refine HF.mono ?_
  rintro e w1 ⟨rfl, b1⟩
  clear HF
  try rw [eS0]
  clear eA eS0
  have lt0 := (Array.getElem?_eq_some_iff.1 R0.out).1
  have bS := (Below.refl _ w1).alloc (Nat.le_refl _) (.cells #[.int .i64 0, .int .i64 0, .slice none 0 0] 45)
  have r1 : (w1.alloc (.cells #[.int .i64 0, .int .i64 0, .slice none 0 0] 45)).heap[S0]? = some (.cells #[.int .i64 0, .int .i64 0, .slice none 0 0] 45 (0, 0)) := by
    rw [bS.block S0 (Nat.lt_of_lt_of_le lt0 b1.size), b1.block S0 lt0]
    exact R0.out
  have R1 : Hid _ := r1
  have BS : Hid (Below w.heap.size w (w1.alloc (.cells #[.int .i64 0, .int .i64 0, .slice none 0 0] 45))) := (BA.out.trans (b1.mono BA.out.size)).trans (bS.mono (BA.out.trans (b1.mono BA.out.size)).size)
  clear r1 bS b1 lt0
  go_wp2_with (first | (refine wpList_store_row rfl 45 (.tmp 4) (.tmp 16) rfl S0 #[.int .i64 0, .int .i64 0, .slice none 0 0] rfl rfl 45 _ R1.out (by kernel_rfl) rfl (by simp [Value.oneCell']) ?_))
  exact bodyPost_ret (results_rowN rfl _ _ S0 45 _ _ _ rfl (setRow_heap _ _ _ _ _ _ R1.out) Try.underlying45 rfl (by kernel_rfl)) rfl ⟨rfl, rowN_below BS.out (by rw [← ES.out]; exact Nat.le_refl _)⟩
set_option maxRecDepth 100000 in
set_option maxHeartbeats 1600000 in
theorem drop_first {w : World} {base N : Nat} (h : NilNet w base N 0) (k : Int) : Calls Try.prog 17 #[.pointer (some ⟨N, 0, none⟩), .int .i64 k] w fun e w' => e = .returned (.int .i64 1) ∧ Below w.heap.size w w' := by
  have HF := find_first h k
  clear h
  go_enter Try.func17, Try.ntmps17
  go_wp2_with fail
  refine HF.mono ?_
  rintro e w1 ⟨rfl, b1⟩
  clear HF
  have HZ : Hid ((w1.alloc (.cells #[.int .i64 0, .int .i64 0] 63)).heap[w1.heap.size]? = some (.cells #[.int .i64 0, .int .i64 0] 63 (0, 0))) := heap_alloc_new w1 (.cells #[.int .i64 0, .int .i64 0] 63)
  have B1 : Hid (Below w.heap.size w w1) := b1
  have BS := spot_below w1 #[.int .i64 0, .int .i64 0]
  have HBS : Hid _ := BS
  clear b1 BS
  go_wp2_with (first | (refine wpList_store_row rfl 63 (.tmp 5) (.tmp 11) rfl w1.heap.size #[.int .i64 0, .int .i64 0] rfl rfl 63 _ HZ.out (by kernel_rfl) rfl (by simp [Value.oneCell']) ?_))
  go_ret
  exact ⟨rfl, B1.out.trans (HBS.out.mono B1.out.size)⟩
set_option maxRecDepth 100000 in
set_option maxHeartbeats 1600000 in
theorem double_first {w : World} {base N : Nat} (h : NilNet w base N 0) (k : Int) : Calls Try.prog 18 #[.pointer (some ⟨N, 0, none⟩), .int .i64 k] w fun e w' => e = .returned (.int .i64 1) ∧ Below w.heap.size w w' := by
  have HF := find_first h k
  clear h
  go_enter Try.func18, Try.ntmps18
  go_wp2_with fail
  refine HF.mono ?_
  rintro e w1 ⟨rfl, b1⟩
  clear HF
  have BS : Hid (Below w.heap.size w (w1.alloc (.cells #[.int .i64 0, .int .i64 0] 63))) := b1.trans (((Below.refl _ w1).alloc (Nat.le_refl _) _).mono b1.size)
  clear b1
  go_wp2
  go_ret
  exact ⟨rfl, BS.out⟩
end Go.Proofs.Ytccmehbdnnelhaa

namespace Go.Proofs.Ytccmehbdnnelhaa
open Go.RowKit Go.Maps
set_option linter.unusedVariables false

def bump (A : Nat → Nat) (j : Nat) : Nat → Nat := fun x => if x = j then A x + 1 else A x
def NumRow (w : World) (g : Nat) (A : Nat → Nat) : Prop := ∃ cs : Array Value, w.heap[g]? = some (.cells cs 3 (0, 0)) ∧ cs.size = 200 ∧ ∀ j, j < 200 → cs[j]? = some (.int .i64 (A j : Int))
section
variable {w w' : World} {g : Nat} {A : Nat → Nat}
theorem NumRow.kept (h : NumRow w g A) (k : w'.heap[g]? = w.heap[g]?) : NumRow w' g A := by
  obtain ⟨cs, h1, h2⟩ := h
  exact ⟨cs, k.trans h1, h2⟩
theorem NumRow.lt (h : NumRow w g A) : g < w.heap.size := by
  obtain ⟨cs, h1, h2⟩ := h
  exact (Array.getElem?_eq_some_iff.1 h1).1
theorem NumRow.cell (h : NumRow w g A) {j : Nat} (hj : j < 200) : w.cell? ⟨g, j, none⟩ = some (.int .i64 (A j : Int)) := by
  obtain ⟨cs, h1, h2, h3⟩ := h
  unfold World.cell?
  simp only [h1]
  exact h3 j hj
theorem NumRow.fz (h : NumRow w g A) (j : Nat) : w.frozen? ⟨g, j, none⟩ = false := by
  obtain ⟨cs, h1, h2, h3⟩ := h
  simp [World.frozen?, h1]
theorem NumRow.bump (h : NumRow w g A) (j : Nat) : NumRow (w.setCell ⟨g, j, none⟩ (.int .i64 ((A j : Int) + 1))) g (bump A j) := by
  obtain ⟨cs, h1, h2, h3⟩ := h
  refine ⟨_, heap_setCell_same w g j cs 3 _ h1, by simpa using h2, fun x hx => ?_⟩
  rw [Array.getElem?_setIfInBounds]
  unfold Go.Proofs.Ytccmehbdnnelhaa.bump
  by_cases e : x = j
  · subst e
    rw [if_pos rfl, if_pos (by omega), if_pos rfl]
    simp
  · rw [if_neg (fun q => e q.symm), if_neg e]
    exact h3 x hx
theorem netS_num {base N T S : Nat} {L : List Post} {cs : Array Value} (h : NetS w base N L T) (e : w.heap[S]? = some (.cells cs 3 (0, 0))) (k : ∀ q : Nat, q ≠ S → w'.heap[q]? = w.heap[q]?) : NetS w' base N L T := by
  obtain ⟨s, h⟩ := h
  refine ⟨s, ?_⟩
  rcases h with ⟨h, eL⟩ | ⟨B, bx, h⟩
  · refine .inl ⟨⟨?_, h.2⟩, eL⟩
    rw [k N (fun eq => by rw [← eq, h.1] at e; injection e with e; injection e with _ e _; exact absurd e (by decide))]
    exact h.1
  · refine .inr ⟨B, bx, { h with hN := ?_, hM := ?_, row := fun j => ?_, dat := fun p hp => ?_ }⟩
    · rw [k N (fun eq => by rw [← eq, h.hN] at e; injection e with e; injection e with _ e _; exact absurd e (by decide))]
      exact h.hN
    · obtain ⟨es, cl, hm⟩ := h.hM.isMap
      exact h.hM.kept (k B (fun eq => by rw [← eq, hm] at e; cases e))
    · refine owns_kept (h.row j) (fun g eg => k g (fun eq => ?_))
      obtain ⟨cur, hc⟩ := row_kind (h.row j) eg
      rw [eq, e] at hc
      injection hc with hc
      injection hc with _ hc _
      exact absurd hc (by decide)
    · refine (h.dat p hp).keep fun g ⟨c, z, eg⟩ => k g (fun eq => ?_)
      rw [eq, e] at eg
      injection eg with eg
      injection eg with _ eg _
      exact absurd eg (by decide)
end
/-- A net, and two rows of numbers beside it. -/
structure On (w wr : World) (N T : Nat) (L : List Post) (ga gb : Nat) (A B : Nat → Nat) : Prop where
  net : NetS wr w.heap.size N L T
  a : NumRow wr ga A
  b : NumRow wr gb B
  ne : ga ≠ gb
  la : w.heap.size ≤ ga
  lb : w.heap.size ≤ gb
  be : Below w.heap.size w wr
section
variable {w wr w' : World} {N T ga gb : Nat} {L : List Post} {A B : Nat → Nat}
theorem On.below (h : On w wr N T L ga gb A B) (b : Below wr.heap.size wr w') : On w w' N T L ga gb A B :=
  ⟨h.net.below b, h.a.kept (b.block _ h.a.lt), h.b.kept (b.block _ h.b.lt), h.ne, h.la, h.lb, h.be.trans (b.mono h.be.size)⟩
theorem NumRow.nk {base g : Nat} {A : Nat → Nat} (h : NumRow wr g A) (k : NKeep base wr w') : NumRow w' g A := by
  obtain ⟨cs, h1, h2⟩ := h
  exact ⟨cs, (k.2.2 g cs 3 _ h1 (by decide) (by decide)).trans h1, h2⟩
theorem On.nk {L' : List Post} {T' : Nat} (h : On w wr N T L ga gb A B) (k : NKeep w.heap.size wr w') (n : NetS w' w.heap.size N L' T') : On w w' N T' L' ga gb A B :=
  ⟨n, h.a.nk k, h.b.nk k, h.ne, h.la, h.lb, h.be.trans k.1⟩
theorem On.bumpA (h : On w wr N T L ga gb A B) (j : Nat) : On w (wr.setCell ⟨ga, j, none⟩ (.int .i64 ((A j : Int) + 1))) N T L ga gb (bump A j) B := by
  obtain ⟨cs, e, _⟩ := h.a
  have k : ∀ q : Nat, q ≠ ga → (wr.setCell ⟨ga, j, none⟩ (.int .i64 ((A j : Int) + 1))).heap[q]? = wr.heap[q]? := fun q hq => heap_setCell_other _ _ _ _ hq
  exact ⟨netS_num h.net e k, h.a.bump j, h.b.kept (k _ h.ne.symm), h.ne, h.la, h.lb, h.be.setCell h.la _⟩
theorem On.bumpB (h : On w wr N T L ga gb A B) (j : Nat) : On w (wr.setCell ⟨gb, j, none⟩ (.int .i64 ((B j : Int) + 1))) N T L ga gb A (bump B j) := by
  obtain ⟨cs, e, _⟩ := h.b
  have k : ∀ q : Nat, q ≠ gb → (wr.setCell ⟨gb, j, none⟩ (.int .i64 ((B j : Int) + 1))).heap[q]? = wr.heap[q]? := fun q hq => heap_setCell_other _ _ _ _ hq
  exact ⟨netS_num h.net e k, h.a.kept (k _ h.ne), h.b.bump j, h.ne, h.la, h.lb, h.be.setCell h.lb _⟩
end
/-- How many letters with this byte are on their way. -/
def cnt (L : List Post) (j : Nat) : Nat := L.countP (fun p => decide (p.b = [BitVec.ofNat 8 j]))
structure Tell (s k T : Nat) (L : List Post) (A B : Nat → Nat) : Prop where
  sk : s ≤ k
  k150 : k ≤ 150
  lk : L.length ≤ k
  tk : T ≤ k
  own : ∀ p ∈ L, ∃ j, j < s ∧ p.b = [BitVec.ofNat 8 j]
  sum : ∀ j, j < 200 → A j + cnt L j ≤ (if j < s then 1 else 0) + B j
  a : ∀ j, A j ≤ k
  b : ∀ j, B j ≤ k
section
variable {s k T : Nat} {L : List Post} {A B : Nat → Nat}
theorem one_inj {i j : Nat} (hi : i < 200) (hj : j < 200) (e : [BitVec.ofNat 8 i] = [BitVec.ofNat 8 j]) : i = j := by
  injection e with e _
  have := congrArg BitVec.toNat e
  simp only [BitVec.toNat_ofNat] at this
  omega
theorem Tell.nil : Tell 0 0 0 [] (fun _ => 0) (fun _ => 0) := ⟨by omega, by omega, by simp, by omega, fun p hp => (by cases hp), fun j hj => (by simp [cnt]), fun _ => by omega, fun _ => by omega⟩
theorem Tell.skip (h : Tell s k T L A B) (hk : k < 150) : Tell s (k + 1) T L A B :=
  ⟨by have := h.sk; omega, by omega, by have := h.lk; omega, by have := h.tk; omega, h.own, h.sum, fun j => by have := h.a j; omega, fun j => by have := h.b j; omega⟩
theorem cnt_snoc (L : List Post) (p : Post) (j : Nat) : cnt (L ++ [p]) j = cnt L j + if p.b = [BitVec.ofNat 8 j] then 1 else 0 := by
  unfold cnt
  rw [List.countP_append, List.countP_singleton]
  simp
theorem cnt_erase (L : List Post) (i : Nat) (hi : i < L.length) (j : Nat) : cnt (L.eraseIdx i) j + (if L[i].b = [BitVec.ofNat 8 j] then 1 else 0) = cnt L j := by
  unfold cnt
  have e : L.countP (fun p => decide (p.b = [BitVec.ofNat 8 j])) = (L.take i ++ L[i] :: L.drop (i + 1)).countP (fun p => decide (p.b = [BitVec.ofNat 8 j])) := by
    congr 1
    rw [← List.drop_eq_getElem_cons hi, List.take_append_drop]
  rw [e, List.eraseIdx_eq_take_drop_succ, List.countP_append, List.countP_append, List.countP_cons]
  simp
  omega
theorem Tell.send (h : Tell s k T L A B) (hk : k < 150) (dv : Value) (f t : Int) : Tell (s + 1) (k + 1) (T + 1) (L ++ [⟨f, t, dv, [BitVec.ofNat 8 s], T⟩]) A B := by
  have q1 := h.sk
  have q2 := h.lk
  have q3 := h.tk
  refine ⟨by omega, by omega, by simp; omega, by omega, fun p hp => ?_, fun j hj => ?_, fun j => by have := h.a j; omega, fun j => by have := h.b j; omega⟩
  · rcases List.mem_append.1 hp with hp | hp
    · obtain ⟨j, hj, e⟩ := h.own p hp
      exact ⟨j, by omega, e⟩
    · rw [List.mem_singleton.1 hp]
      exact ⟨s, by omega, rfl⟩
  · have := h.sum j hj
    rw [cnt_snoc]
    simp only
    by_cases e : [BitVec.ofNat 8 s] = [BitVec.ofNat 8 j]
    · have := one_inj (by omega) hj e
      subst this
      rw [if_pos rfl, if_pos (by omega)]
      rw [if_neg (by omega)] at this
      omega
    · rw [if_neg e]
      split at this <;> split <;> omega
theorem cnt_le_erase (L : List Post) (i : Nat) (hi : i < L.length) (j : Nat) : cnt (L.eraseIdx i) j ≤ cnt L j := by have := cnt_erase L i hi j; omega
theorem erase_len {L : List Post} {i : Nat} : (L.eraseIdx i).length ≤ L.length := List.length_eraseIdx_le _ _
theorem Tell.drop (h : Tell s k T L A B) (hk : k < 150) (i : Nat) (hi : i < L.length) : Tell s (k + 1) T (L.eraseIdx i) A B :=
  ⟨by have := h.sk; omega, by omega, by have := h.lk; have := @erase_len L i; omega, by have := h.tk; omega, fun p hp => h.own p (List.mem_of_mem_eraseIdx hp), fun j hj => by have := h.sum j hj; have := cnt_le_erase L i hi j; omega, fun j => by have := h.a j; omega, fun j => by have := h.b j; omega⟩
theorem Tell.take (h : Tell s k T L A B) (hk : k < 150) (i : Nat) (hi : i < L.length) (v : Nat) (hv : v < s) (e : L[i].b = [BitVec.ofNat 8 v]) : Tell s (k + 1) T (L.eraseIdx i) (bump A v) B := by
  have q1 := h.sk
  refine ⟨by omega, by omega, by have := h.lk; have := @erase_len L i; omega, by have := h.tk; omega, fun p hp => h.own p (List.mem_of_mem_eraseIdx hp), fun j hj => ?_, fun j => ?_, fun j => by have := h.b j; omega⟩
  · have q2 := h.sum j hj
    have q3 := cnt_erase L i hi j
    rw [e] at q3
    unfold bump
    by_cases x : j = v
    · subst x
      rw [if_pos rfl] at q3
      rw [if_pos rfl]
      omega
    · rw [if_neg x]
      omega
  · have := h.a j
    unfold bump
    split <;> omega
theorem Tell.dbl (h : Tell s k T L A B) (hk : k < 150) (i : Nat) (hi : i < L.length) (v : Nat) (hv : v < s) (e : L[i].b = [BitVec.ofNat 8 v]) (f t : Int) (dv : Value) : Tell s (k + 1) (T + 1) (L ++ [⟨f, t, dv, L[i].b, T⟩]) A (bump B v) := by
  have q1 := h.sk
  refine ⟨by omega, by omega, by have := h.lk; simp; omega, by have := h.tk; omega, fun p hp => ?_, fun j hj => ?_, fun j => by have := h.a j; omega, fun j => ?_⟩
  · rcases List.mem_append.1 hp with hp | hp
    · exact h.own p hp
    · rw [List.mem_singleton.1 hp]
      exact ⟨v, hv, e⟩
  · have q2 := h.sum j hj
    rw [cnt_snoc]
    simp only [e]
    unfold bump
    by_cases x : j = v
    · subst x
      rw [if_pos rfl, if_pos rfl]
      omega
    · rw [if_neg x, if_neg (fun y => x (one_inj (by omega) hj y).symm)]
      omega
  · have := h.b j
    unfold bump
    split <;> omega
end
theorem small_erase {L : List Post} (s : Small L) (i : Nat) : Small (L.eraseIdx i) := fun q hq => s q (List.mem_of_mem_eraseIdx hq)
section
variable {w : World} {base N T : Nat} {L : List Post}
theorem take_S (h : NetS w base N L T) (k : Int) (hT : T ≤ 1000000000000) : Calls Try.prog 13 #[.pointer (some ⟨N, 0, none⟩), .int .i64 k] w fun e w' =>
    (e = .returned (.tuple #[.agg #[.int .i64 0, .int .i64 0, .slice none 0 0], .int .i64 1]) ∧ Below w.heap.size w w') ∨
    ∃ (i : Nat) (hi : i < L.length) (v : Value), e = .returned (.tuple #[.agg #[.int .i64 L[i].fr, .int .i64 L[i].to, v], .int .i64 0]) ∧ DataAt w' v L[i].b ∧ NetS w' base N (L.eraseIdx i) T ∧ NKeep base w w' := by
  obtain ⟨s, h⟩ := h
  rcases h with ⟨h, eL, eT⟩ | ⟨B, bx, h⟩
  · subst eT
    exact (take_first h k).mono fun e w' q => .inl q
  · refine (take_any h s k hT).mono fun e w' q => ?_
    rcases q with ⟨_, q1, q2⟩ | ⟨i, hi, v, _, q1, q2, bx', q3, q4⟩
    · exact .inl ⟨q1, q2⟩
    · exact .inr ⟨i, hi, v, q1, q2, ⟨small_erase s i, .inr ⟨B, bx', q3⟩⟩, q4⟩
theorem drop_S (h : NetS w base N L T) (k : Int) (hT : T ≤ 1000000000000) : Calls Try.prog 17 #[.pointer (some ⟨N, 0, none⟩), .int .i64 k] w fun e w' =>
    ∃ x : Int, e = .returned (.int .i64 x) ∧ (Below w.heap.size w w' ∨ ∃ (i : Nat) (hi : i < L.length), NetS w' base N (L.eraseIdx i) T ∧ NKeep base w w') := by
  obtain ⟨s, h⟩ := h
  rcases h with ⟨h, eL, eT⟩ | ⟨B, bx, h⟩
  · subst eT
    exact (drop_first h k).mono fun e w' q => ⟨1, q.1, .inl q.2⟩
  · refine (drop_any h k hT).mono fun e w' q => ?_
    rcases q with ⟨_, q1, q2⟩ | ⟨i, hi, _, q1, bx', q3, q4⟩
    · exact ⟨1, q1, .inl q2⟩
    · exact ⟨0, q1, .inr ⟨i, hi, ⟨small_erase s i, .inr ⟨B, bx', q3⟩⟩, q4⟩⟩
/-- Look: what it says of a number, and what Double then says of the same. -/
theorem look_S (h : NetS w base N L T) (k : Int) (hT : T ≤ 1000000000000) : Calls Try.prog 21 #[.pointer (some ⟨N, 0, none⟩), .int .i64 k] w fun e w' =>
    Below w.heap.size w w' ∧ (((k < 0 ∨ (L.length : Int) ≤ k) ∧ e = .returned (.tuple #[.agg #[.int .i64 0, .int .i64 0, .slice none 0 0], .int .i64 1])) ∨
    ∃ (i : Nat) (hi : i < L.length) (v : Value), k = (i : Int) ∧ e = .returned (.tuple #[.agg #[.int .i64 L[i].fr, .int .i64 L[i].to, v], .int .i64 0]) ∧ DataAt w' v L[i].b) := by
  obtain ⟨s, h⟩ := h
  rcases h with ⟨h, eL, eT⟩ | ⟨B, bx, h⟩
  · subst eT eL
    refine (look_first h k).mono fun e w' q => ⟨q.2, .inl ⟨?_, q.1⟩⟩
    simp only [List.length_nil]
    omega
  · exact (look_any h s k hT).mono fun e w' q => ⟨q.2, q.1⟩
theorem double_S (h : NetS w base N L T) (k : Int) (hl : L.length < 10000) (hT : T ≤ 100000000000) : Calls Try.prog 18 #[.pointer (some ⟨N, 0, none⟩), .int .i64 k] w fun e w' =>
    ((k < 0 ∨ (L.length : Int) ≤ k) ∧ e = .returned (.int .i64 1) ∧ Below w.heap.size w w') ∨ ∃ (i : Nat) (hi : i < L.length), k = (i : Int) ∧ e = .returned (.int .i64 0) ∧ NetS w' base N (L ++ [⟨L[i].fr, L[i].to, L[i].dv, L[i].b, T⟩]) (T + 1) ∧ NKeep base w w' := by
  obtain ⟨s, h⟩ := h
  rcases h with ⟨h, eL, eT⟩ | ⟨B, bx, h⟩
  · subst eT eL
    refine (double_first h k).mono fun e w' q => .inl ⟨?_, q⟩
    simp only [List.length_nil]
    omega
  · exact double_any h s k hl hT
end
/-- One byte that is held. -/
theorem data_one {w : World} {v : Value} {u : Nat} (h : DataAt w v [BitVec.ofNat 8 u]) (hu : u < 200) : ∃ b off c, v = .slice (some ⟨b, off, none⟩) 1 c ∧ w.cell? ⟨b, off, none⟩ = some (.int .u8 (u : Int)) := by
  obtain ⟨a, c, e, ⟨_, _, s⟩, _, _⟩ := h
  rcases s with s | ⟨b, off, ea, s⟩
  · simp at s
  · have := s 0 (by simp)
    refine ⟨b, off, c, by rw [e, ea]; rfl, ?_⟩
    simpa [V, Nat.mod_eq_of_lt (show u < 256 by omega)] using this
theorem seen_byte (w : World) (s : Nat) (hs : s < 200) : Seen (w.alloc (.cells #[.int .u8 (s : Int)] 5)) (some ⟨w.heap.size, 0, none⟩) 1 [BitVec.ofNat 8 s] := by
  have := seen_new w [BitVec.ofNat 8 s] 5 (0, 0) (by show 1 ≤ maxLen; decide)
  have e : (cellsOf [BitVec.ofNat 8 s]).toArray = #[.int .u8 (s : Int)] := by
    simp [cellsOf, V, Nat.mod_eq_of_lt (show s < 256 by omega)]
  rw [e] at this
  exact this
end Go.Proofs.Ytccmehbdnnelhaa
