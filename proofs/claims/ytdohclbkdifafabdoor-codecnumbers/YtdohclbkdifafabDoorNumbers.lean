/- The statement CodecNumbers: the walk. -/
import Derived.Test.YtdohclbkdifafabDoorKnownC
namespace Go.Proofs.YtdohclbkdifafabDoor
open Go.RowKit Cod
set_option linter.unusedVariables false

theorem num_cut_rU {n i : Nat} (h : n < 18446744073709551616) (hi : i < (enc n).length) : rU ((enc n).take i) 0 0 = (0, 0, 10) := by
  simp [rU, num_cut0 h hi]
set_option maxRecDepth 100000 in
set_option maxHeartbeats 1600000 in
theorem numbers_walk (a b : Nat) (ha : a < 18446744073709551616) (hb : b < 18446744073709551616) (w : World) (hT : Tabs w) :
    Calls Tryd.prog 7 #[.int .u64 a, .int .u64 b] w fun e w' => e = .returned (.bool true) ∧ Below w.heap.size w w' := by
  have HA : Hid (a < 18446744073709551616) := ha
  have HB : Hid (b < 18446744073709551616) := hb
  have HT : Hid (Tabs w) := hT
  have tx := enc_ten ha
  have ty := enc_ten hb
  have px := enc_pos a
  have py := enc_pos b
  clear ha hb hT
  go_enter Tryd.func7, Tryd.ntmps7
  go_wp2_with fail
  refine (uint_any none 0 0 [] a HA.out w ⟨rfl, by simp, .inl rfl⟩ (fun _ => rfl) (by omega)).mono ?_
  rintro e w1 ⟨v1, rfl, o1, b1⟩
  simp only [List.nil_append, Nat.zero_add] at o1
  obtain ⟨g1, c1, rfl, _, _⟩ := o1.form px
  have k1 : (enc a).length ≤ c1 := by
    rcases o1.2 with ⟨hh, _⟩ | ⟨g', cap', cur, hh, _, _, hnc, _⟩
    · cases hh
    · cases hh; exact hnc
  have s1 : Seen w1 (some ⟨g1, 0, none⟩) (enc a).length (enc a) := seen_owned o1 rfl (by unfold maxLen; omega)
  have B1 : Hid (Below w.heap.size w w1) := b1
  have S1 : Hid (Seen w1 (some ⟨g1, 0, none⟩) (enc a).length (enc a)) := s1
  clear o1 b1 s1
  go_wp2_with fail
  refine (uint_any none 0 0 [] b HB.out w1 ⟨rfl, by simp, .inl rfl⟩ (fun _ => rfl) (by omega)).mono ?_
  rintro e w2 ⟨v2, rfl, o2, b2⟩
  simp only [List.nil_append, Nat.zero_add] at o2
  obtain ⟨g2, c2, rfl, _, _⟩ := o2.form py
  have S2 : Hid (Seen w2 (some ⟨g2, 0, none⟩) (enc b).length (enc b)) := seen_owned o2 rfl (by unfold maxLen; omega)
  have S1' : Hid (Seen w2 (some ⟨g1, 0, none⟩) (enc a).length (enc a)) := S1.out.below b2
  have B2 : Hid (Below w.heap.size w w2) := B1.out.trans (b2.mono B1.out.size)
  have hmono : Hid (a ≤ b → (enc a).length ≤ (enc b).length) := enc_mono b a
  clear o2 b2 S1 B1
  go_wp2
  go_loopw [7, 8] (fun s n wr => ∃ (m k : Nat), k + (enc m).length = (enc a).length + 1 ∧ m ≤ a ∧ n = .int .u64 m ∧ s = .int .i64 k ∧ wr = w2)
    (fun _ n _ => (intOf n).toNat)
  case atStart => exact ⟨a, 1, by omega, Nat.le_refl _, rfl, rfl, rfl⟩
  case round =>
    obtain ⟨m, k, hk, hma, rfl, rfl, hwr⟩ := hrel
    have hwr' := hwr.symm
    clear hwr
    subst hwr'
    by_cases hlt : m < 128
    · have e1 : (enc m).length = 1 := by rw [enc_low hlt]; rfl
      have hk1 : k = (enc a).length := by omega
      subst hk1
      have hlt' : ¬ (127 < (m : Int)) := by omega
      have hle : a ≤ b → (enc a).length ≤ (enc b).length := hmono.out
      have HLA : Hid _ := (rfl : (enc a).length = (enc a).length)
      have HK : Hid (∀ i, i < (enc a).length → rU ((enc a).take i) 0 0 = (0, 0, 10)) := fun i hi => num_cut_rU HA.out hi
      have HEQ : Hid (a = b ↔ enc a = enc b) := ⟨fun e => by rw [e], fun e => enc_inj HA.out HB.out e⟩
      have X1 : Hid (textOf (enc a) = textOf (enc b) ↔ a = b) := ⟨fun e => HEQ.out.2 (textOf_inj e), fun e => by rw [e]⟩
      have q1 : (enc a).length ≤ 10 := tx
      generalize hla : (enc a).length = la at *
      generalize hlb : (enc b).length = lb at *
      clear hk hma e1 hlt tx px py ty hmono HEQ hla hlb
      have T1 : ∀ w', Below w2.heap.size w2 w' → Hid ((convert 22 9 (.slice (some ⟨g1, 0, none⟩) la c1)).run Tryd.prog w' = .ok (.string (textOf (enc a))) w') := fun w' h => run_to_text w' _ la c1 _ (S1'.out.below h)
      have T2 : ∀ w', Below w2.heap.size w2 w' → Hid ((convert 22 9 (.slice (some ⟨g2, 0, none⟩) lb c2)).run Tryd.prog w' = .ok (.string (textOf (enc b))) w') := fun w' h => run_to_text w' _ lb c2 _ (S2.out.below h)
      have T0 : Hid (Tabs w2) := HT.out.below B2.out HT.out.size
      have hab : (a ≤ b ∧ la ≤ lb) ∨ ¬ a ≤ b := by
        by_cases h : a ≤ b
        · exact .inl ⟨h, hle h⟩
        · exact .inr h
      clear hle
      rcases hab with ⟨hab, hab2⟩ | hab
      all_goals
        (go_wp2
         go_loopw [9] (fun i wr' => ∃ k : Nat, k ≤ la ∧ i = .int .i64 k ∧ Below w2.heap.size w2 wr') (fun i _ => la - (intOf i).toNat)
         case atStart => exact ⟨0, Nat.zero_le _, rfl, Below.refl _ _⟩
         case round =>
           obtain ⟨k, hk, rfl, hbl⟩ := hrel
           have HBl : Hid _ := hbl
           by_cases hlt : k < la
           · clear hbl T1 T2
             have hkc : k ≤ c1 := by omega
             have sk : Seen wr (some ⟨g1, 0, none⟩) k ((enc a).take k) := (S1'.out.below HBl.out).take k (by omega)
             go_wp2_with fail
             refine (newReader_any _ k c1 _ _ sk (fun e => by cases e) (by omega)).mono ?_
             clear sk
             rintro e w3 ⟨R, rfl, hR, r3, b3⟩
             have B3 : Hid (Below w2.heap.size w2 w3) := HBl.out.trans (b3.mono HBl.out.size)
             have R3 : Hid (Rdr w3 R ((enc a).take k) 0 0) := r3
             have HR : Hid (w2.heap.size ≤ R) := Nat.le_trans HBl.out.size hR
             clear b3 r3 hR
             go_wp2_with fail
             refine (rUint_any R _ 0 0 w3 R3.out).mono ?_
             rw [HK.out k hlt]
             rintro e w4 ⟨rfl, r4, g4⟩
             have B4 : Hid (Below w2.heap.size w2 w4) := below_grown B3.out g4 B3.out.size HR.out
             have R4 : Hid (Rdr w4 R ((enc a).take k) 0 10) := r4
             clear g4 r4 R3 B3
             go_wp2_with fail
             refine (rEnd_any R _ 0 10 w4 R4.out).mono ?_
             rintro e w5 ⟨rfl, n5, rfl⟩
             rw [show rEnd ((enc a).take k) 0 10 = 10 from rfl]
             go_wp2_with fail
             refine (rAt_any R _ 0 10 (w4.drewN n5) R4.out).mono ?_
             rintro e w6 ⟨rfl, rfl⟩
             go_wp2
             go_roundw
             case rel => exact ⟨k + 1, by omega, by go_num, below_drewN' B4.out n5⟩
             case measure => simp only [intOf]; omega
           · have t1 := (T1 wr hbl).out
             have t2 := (T2 wr hbl).out
             clear hbl T1 T2
             by_cases hq : a = b
             · have hx : textOf (enc a) = textOf (enc b) := X1.out.2 hq
               have hq' : ((a : Int) == b) = true := by simp [hq]
               rw [← hx] at t2
               have hs : ((textOf (enc a)).toList == (textOf (enc a)).toList) = true := by simp
               generalize textOf (enc a) = s at *
               clear hq hx
               go_wp2_with fail
               refine (known_later HBl.out T0.out).mono ?_
               rintro e w3 ⟨rfl, b3⟩
               go_wp2
               go_ret
               exact ⟨rfl, B2.out.trans (b3.mono B2.out.size)⟩
             · have hx : ¬ textOf (enc a) = textOf (enc b) := fun e => hq (X1.out.1 e)
               have hq' : ((a : Int) == b) = false := by simp; omega
               have hxb := text_ne hx
               generalize textOf (enc a) = s at *
               generalize textOf (enc b) = s' at *
               clear hx hq
               go_wp2_with fail
               refine (known_later HBl.out T0.out).mono ?_
               rintro e w3 ⟨rfl, b3⟩
               go_wp2
               go_ret
               exact ⟨rfl, B2.out.trans (b3.mono B2.out.size)⟩)
    · have e1 : (enc m).length = 1 + (enc (m / 128)).length := by rw [enc_high hlt]; simp; omega
      have e2 : k + 1 + (enc (m / 128)).length = (enc a).length + 1 := by omega
      have hlt' : 127 < (m : Int) := by omega
      have E2 : Hid _ := e2
      have hk9 : k ≤ 11 := by omega
      have hwp : IntKind.u64.wrap ((m : Int) / 128) = (m : Int) / 128 := by have := HA.out; rw [IntKind.wrap_u64]; omega
      have HMA : Hid _ := hma
      clear hma
      clear hk e1 e2 tx ty px py k1
      go_wp2
      go_roundw
      case rel => exact ⟨m / 128, k + 1, E2.out, Nat.le_trans (Nat.div_le_self _ _) HMA.out, by go_num, by go_num, trivial⟩
      case measure => simp only [intOf]; omega
theorem numbers_walk_int (a b : Int) (ha : (Lit.int .u64 a).wf = true) (hb : (Lit.int .u64 b).wf = true) (w : World) (hT : Tabs w) :
    Calls Tryd.prog 7 #[.int .u64 a, .int .u64 b] w fun e w' => e = .returned (.bool true) ∧ Below w.heap.size w w' := by
  have h1 : 0 ≤ a ∧ a ≤ 18446744073709551615 := by simpa [Lit.wf, IntKind.min, IntKind.max, IntKind.bits, IntKind.signed] using ha
  have h2 : 0 ≤ b ∧ b ≤ 18446744073709551615 := by simpa [Lit.wf, IntKind.min, IntKind.max, IntKind.bits, IntKind.signed] using hb
  have := numbers_walk a.toNat b.toNat (by omega) (by omega) w hT
  rwa [Int.toNat_of_nonneg h1.1, Int.toNat_of_nonneg h2.1] at this
end Go.Proofs.YtdohclbkdifafabDoor
