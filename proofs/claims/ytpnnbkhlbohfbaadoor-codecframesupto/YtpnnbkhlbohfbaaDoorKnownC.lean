/- The fixed calls of the codec's laws: 'known' answers true. -/
import Derived.Test.YtpnnbkhlbohfbaaDoorUnframe
import Derived.Test.YtpnnbkhlbohfbaaDoorText
namespace Go.Proofs.YtpnnbkhlbohfbaaDoor
open Go.RowKit Cod
set_option linter.unusedVariables false

theorem Rdr.below {w w' : World} {R : Nat} {l : List (BitVec 8)} {at_ why : Nat} (h : Rdr w R l at_ why) (hb : Below w.heap.size w w') : Rdr w' R l at_ why := by
  obtain ⟨a, cap, hh, hs, hn, hk, hne, hat, hm⟩ := h
  exact ⟨a, cap, by rw [hb.block R (Array.getElem?_eq_some_iff.1 hh).1]; exact hh, hs.below hb, hn, hk, hne, hat, hm⟩
theorem below_grown {B R : Nat} {a w w' : World} (h : Below B a w) (hg : w.grownBy w' (some R)) (hB : B ≤ w.heap.size) (hR : B ≤ R) : Below B a w' :=
  h.grown hg hB (fun k e => by cases e; exact hR)
theorem enc_300 : enc 300 = [172#8, 2#8] := by rw [enc_high (by decide), enc_low (by decide)]
theorem enc_1 : enc 1 = [1#8] := by rw [enc_low (by decide)]
theorem enc_2 : enc 2 = [2#8] := by rw [enc_low (by decide)]
theorem rU_bad : rU [128#8, 0#8] 0 0 = (0, 0, 11) := by decide
theorem un_0 : unWhy [0#8] = 10 := by decide
theorem zig_m1 : zig (-1) = 1 := by decide

set_option maxHeartbeats 1600000 in
theorem known_any (w : World) (hT : Tabs w) :
    Calls Tryd.prog 15 #[] w fun e w' => e = .returned (.bool true) ∧ Below w.heap.size w w' := by
  have kc := fun (w : World) (C : Array Value) (n c : Nat) => Lib.run_convert_bytes_const (P := Tryd.prog) w 22 5 C n c Tryd.underlying22 Tryd.underlying5
  have HT : Hid (Tabs w) := hT
  clear hT
  go_enter Tryd.func15, Tryd.ntmps15
  go_wp2_with fail
  have s1 : Seen (w.alloc (.cells #[.int .u8 128, .int .u8 0] 5)) (some ⟨w.heap.size, 0, none⟩) 2 [128#8, 0#8] := seen_new w [128#8, 0#8] 5 (0, 0) (by decide)
  have b0 : Hid (Below w.heap.size w (w.alloc (.cells #[.int .u8 128, .int .u8 0] 5))) := (Below.refl _ w).alloc (Nat.le_refl _) _
  refine (newReader_any _ 2 2 _ _ s1 (fun e => by cases e) (by omega)).mono ?_
  clear s1
  rintro e w1 ⟨R, rfl, hR, r1, b1⟩
  have HR : Hid (w.heap.size ≤ R) := Nat.le_trans (by simp) hR
  have B1 : Hid (Below w.heap.size w w1) := b0.out.trans (b1.mono (by simp))
  clear b1 hR b0
  go_wp2_with fail
  refine (rUint_any R _ 0 0 w1 r1).mono ?_
  clear r1
  rw [rU_bad]
  rintro e w2 ⟨rfl, r2, g2⟩
  have B2 : Hid (Below w.heap.size w w2) := below_grown B1.out g2 B1.out.size HR.out
  have R2 : Hid (Rdr w2 R [128#8, 0#8] 0 11) := r2
  clear g2 r2
  go_wp2_with fail
  have s3 : Seen (w2.alloc (.cells #[.int .u8 0] 5)) (some ⟨w2.heap.size, 0, none⟩) 1 [0#8] := seen_new w2 [0#8] 5 (0, 0) (by decide)
  have b3 : Hid (Below w2.heap.size w2 (w2.alloc (.cells #[.int .u8 0] 5))) := (Below.refl _ w2).alloc (Nat.le_refl _) _
  refine (unframe_no _ 1 1 [0#8] _ ((HT.out.below B2.out HT.out.size).alloc _) s3 (fun e => by cases e) (by omega) (by omega) (by decide)).mono ?_
  rw [un_0]
  rintro e w3 ⟨rfl, b3'⟩
  have B3 : Hid (Below w2.heap.size w2 w3) := b3.out.trans (b3'.mono (by simp))
  clear s3 b3 b3'
  go_wp2_with fail
  have s4 : Seen (w3.alloc (.cells #[.int .u8 97] 5 (1, 2))) (some ⟨w3.heap.size, 0, none⟩) 1 [97#8] := seen_new w3 [97#8] 5 (1, 2) (by decide)
  have BB3 : Below w.heap.size w w3 := B2.out.trans (B3.out.mono B2.out.size)
  refine (frame_any _ 1 1 [97#8] _ ((HT.out.below BB3 HT.out.size).alloc _) s4 (fun e => by cases e) (by omega)).mono ?_
  clear s4
  rintro e w4 ⟨v4, rfl, o4, b4⟩
  have hl6 : (frame [97#8]).length = 6 := by rw [frame_length]; simp [enc_1]
  rw [hl6] at o4
  obtain ⟨g4, cap4, rfl, _, _⟩ := o4.form (by omega)
  have B4 : Hid (Below w2.heap.size w2 w4) := (B3.out.alloc B3.out.size _).trans (b4.mono (by have := B3.out.size; simp; omega))
  clear o4 b4 hl6 BB3 B3
  go_wp2_with fail
  refine (uint_any none 0 0 [] 300 (by decide) w4 ⟨rfl, by simp, .inl rfl⟩ (fun _ => rfl) (by omega)).mono ?_
  rintro e w5 ⟨v5, rfl, o5, b5⟩
  simp only [List.nil_append, enc_300] at o5
  change w5.ownsRow _ 5 1 v5 2 _ at o5
  obtain ⟨a5, c5, rfl, s5, _, _⟩ := owned_seen o5 (by unfold maxLen; simp)
  have t5 := run_to_text w5 a5 _ c5 _ s5
  rw [show textOf [172#8, 2#8] = ⟨#[172, 2]⟩ from rfl] at t5
  have B5 : Hid (Below w2.heap.size w2 w5) := B4.out.trans (b5.mono B4.out.size)
  clear o5 b5 s5 B4
  go_wp2_with fail
  refine (int_any none 0 0 [] (-1) (by decide) w5 ⟨rfl, by simp, .inl rfl⟩ (fun _ => rfl) (by omega)).mono ?_
  rintro e w6 ⟨v6, rfl, o6, b6⟩
  simp only [List.nil_append, zig_m1, enc_1] at o6
  change w6.ownsRow _ 5 1 v6 1 _ at o6
  obtain ⟨a6, c6, rfl, s6, _, _⟩ := owned_seen o6 (by unfold maxLen; simp)
  have t6 := run_to_text w6 a6 _ c6 _ s6
  rw [show textOf [1#8] = ⟨#[1]⟩ from rfl] at t6
  have B6 : Hid (Below w2.heap.size w2 w6) := B5.out.trans (b6.mono B5.out.size)
  clear o6 b6 s6 B5 t5
  go_wp2_with fail
  refine (text_any none 0 0 [] ⟨#[97, 98]⟩ w6 ⟨rfl, by simp, .inl rfl⟩ (fun _ => rfl) (by decide)).mono ?_
  rintro e w7 ⟨v7, rfl, o7, b7⟩
  rw [show sz (bytesL ⟨#[97, 98]⟩) = [2#8, 97#8, 98#8] by show enc 2 ++ _ = _; rw [enc_2]; rfl] at o7
  simp only [List.nil_append] at o7
  change w7.ownsRow _ 5 1 v7 3 _ at o7
  obtain ⟨a7, c7, rfl, s7, _, _⟩ := owned_seen o7 (by unfold maxLen; simp)
  have t7 := run_to_text w7 a7 _ c7 _ s7
  rw [show textOf [2#8, 97#8, 98#8] = ⟨#[2, 97, 98]⟩ from rfl] at t7
  have B7 : Hid (Below w2.heap.size w2 w7) := B6.out.trans (b7.mono B6.out.size)
  clear o7 b7 s7 B6 t6
  go_wp2_with fail
  refine (rEnd_any R _ 0 11 w7 (Rdr.below R2.out B7.out)).mono ?_
  rintro e w8 ⟨rfl, n8, rfl⟩
  rw [show rEnd [128#8, 0#8] 0 11 = 11 from rfl]
  go_wp2
  go_ret
  exact ⟨rfl, below_drewN' (B2.out.trans (B7.out.mono B2.out.size)) n8⟩
theorem known_later {w0 w : World} (hb : Below w0.heap.size w0 w) (hT : Tabs w0) :
    Calls Tryd.prog 15 #[] w fun e w' => e = .returned (.bool true) ∧ Below w0.heap.size w0 w' := by
  refine (known_any w (hT.below hb hT.size)).mono ?_
  rintro e w' ⟨he, hb'⟩
  exact ⟨he, hb.trans (hb'.mono hb.size)⟩
end Go.Proofs.YtpnnbkhlbohfbaaDoor
