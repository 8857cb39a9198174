/- What sized, Bytes and Text of a Reader do. -/
import Derived.Test.YtdchnfggmkokhaaGreatDoorGL
import Derived.Test.YtdchnfggmkokhaaGreatDoorKnownC
import Derived.Test.YtdchnfggmkokhaaGreatDoorGF
namespace Go.Proofs.YtdchnfggmkokhaaGreatDoor
open Go.RowKit Cod
set_option linter.unusedVariables false

theorem rC_ok {l : List (BitVec 8)} {most : Int} {at_ why n a1 : Nat} (hat : at_ ≤ l.length) (h : rC l most at_ why = (n, a1, 0)) : l ≠ [] ∧ a1 + n ≤ l.length ∧ (n : Int) ≤ most ∧ rU l at_ why = (n, a1, 0) := by
  unfold rC at h
  split at h
  · rename_i h1
    exact absurd (congrArg (fun t => t.2.2) h) h1
  · split at h
    · cases h
    · split at h
      · cases h
      · rename_i h1 h2 h3
        rw [h] at h1 h2 h3
        have h4 := rU_at l at_ why hat
        rw [h] at h4
        simp only at h1 h2 h3 h4
        refine ⟨fun e => ?_, by omega, by omega, h⟩
        subst e
        by_cases hy : why = 0
        · subst hy
          simp [rU, num] at h
        · rw [rU, if_neg hy] at h
          exact hy (congrArg (fun t => t.2.2) h)
set_option maxHeartbeats 800000 in
theorem rSized_any (R : Nat) (l : List (BitVec 8)) (at_ why : Nat) (w : World) (h : Rdr w R l at_ why) :
    Calls Tryz.prog 84 #[.pointer (some ⟨R, 0, none⟩)] w fun e w' => ∃ a n cap, e = .returned (.slice a n cap) ∧ Seen w' a n (rS l at_ why).1 ∧ (a = none → cap = 0) ∧ n ≤ 65536 ∧ Rdr w' R l (rS l at_ why).2.1 (rS l at_ why).2.2 ∧ w.grownBy w' (some R) := by
  have HC := rCount_any R l 65536 (by omega) at_ why w h
  have hle := h.le
  obtain ⟨n, a1, y1, hr⟩ : ∃ n a1 y1, rC l 65536 at_ why = (n, a1, y1) := ⟨_, _, _, rfl⟩
  rw [hr] at HC
  simp only at HC
  by_cases hy : y1 = 0
  · subst hy
    obtain ⟨hl, han, hn, _⟩ := rC_ok hle.1 hr
    have hv : rS l at_ why = ((l.drop a1).take n, a1 + n, 0) := by simp [rS, hr]
    rw [hv]
    simp only
    have hmx := hle.2
    clear h hle hv hr
    go_enter Tryz.func84, Tryz.ntmps84
    go_wp2_with fail
    refine HC.mono ?_
    rintro e w2 ⟨rfl, r2, g2⟩
    have R2 : Hid (Rdr w2 R l a1 0) := r2
    have G2 : Hid _ := g2
    obtain ⟨aa, cap, hh, hs, hnil, hk, hne, hat, hm⟩ := r2
    obtain ⟨b, off, rfl⟩ : ∃ b off, aa = some ⟨b, off, none⟩ := by
      rcases hs.2.2 with h3 | ⟨b, off, rfl, _⟩
      · exact absurd (List.eq_nil_of_length_eq_zero h3) hl
      · exact ⟨b, off, rfl⟩
    have c0 : w2.cell? ⟨R, 0, none⟩ = some (.slice (some ⟨b, off, none⟩) l.length cap) := by simp [World.cell?, hh]
    have c1 : w2.cell? ⟨R, 1, none⟩ = some (.int .i64 a1) := by simp [World.cell?, hh]
    have f1 : w2.frozen? ⟨R, 1, none⟩ = false := by simp [World.frozen?, hh]
    have cb3 : ∀ v, (w2.setCell ⟨R, 1, none⟩ v).cell? ⟨R, 0, none⟩ = some (.slice (some ⟨b, off, none⟩) l.length cap) := fun v => by rw [cell_set_far _ _ _ _ (by simp)]; exact c0
    obtain ⟨a3, hx3⟩ : ∃ a3, (if cap = a1 then some (⟨b, off, none⟩ : Addr) else some ⟨b, off + a1, none⟩) = a3 := ⟨_, rfl⟩
    have hx3' : (if cap = a1 then some (⟨b, off, none⟩ : Addr) else some ((⟨b, off, none⟩ : Addr).add a1)) = a3 := by rw [Addr.add_lit]; exact hx3
    have S3 : Hid (Seen w2 a3 n ((l.drop a1).take n)) := by
      have := (hs.drop a1 cap (by omega) hk).take n (by omega)
      rw [hx3'] at this
      exact this
    have N3 : Hid (a3 ≠ none) := by show a3 ≠ none; rw [← hx3]; split <;> simp
    have HNE : Hid (∀ x, a3 = some x → x.block < R) := by
      intro x hx
      have := hne hl ⟨b, off, none⟩ rfl
      rw [← hx3] at hx
      split at hx <;> (cases hx; exact this)
    have HAN : Hid _ := han
    have HN : Hid _ := hn
    clear hs hnil hne hat hm hh HC
    go_wp2_with fail
    refine (reads_any R l a1 0 w2 R2.out).mono ?_
    rintro e w3 ⟨rfl, rfl⟩
    go_wp2
    go_quiet (fail)
    go_wp2
    go_ret
    rw [← Int.natCast_add]
    have p1 := Rdr.put1 R2.out 0 (a1 + n) HAN.out
    have p2 := grown_drewN ((grown_set w3 ⟨R, 1, none⟩ (.int .i64 ((a1 + n : Nat) : Int)))) nq
    refine ⟨a3, a1 + n - a1, cap - a1, rfl, ?_, fun e => absurd e N3.out, ?_, p1.1, G2.out.trans p2⟩
    · rw [Nat.add_sub_cancel_left]
      exact S3.out.grown p2 (fun _ => HNE.out)
    · have := HN.out
      omega
  · have hv : rS l at_ why = ([], a1, y1) := by simp [rS, hr, hy]
    rw [hv]
    simp only
    have hy' : ((y1 : Int) == 0) = false := by simp; omega
    clear h hle hv hr hy
    go_enter Tryz.func84, Tryz.ntmps84
    go_wp2_with fail
    refine HC.mono ?_
    rintro e w2 ⟨rfl, r2, g2⟩
    have R2 : Hid (Rdr w2 R l a1 y1) := r2
    have G2 : Hid _ := g2
    clear r2 g2 HC
    go_wp2_with fail
    refine (reads_any R l a1 y1 w2 R2.out).mono ?_
    rintro e w3 ⟨rfl, rfl⟩
    go_wp2
    go_ret
    exact ⟨none, 0, 0, rfl, ⟨rfl, by simp, .inl rfl⟩, fun _ => rfl, by omega, R2.out, G2.out⟩
/-- (*Reader).Text -/
theorem rText_any (R : Nat) (l : List (BitVec 8)) (at_ why : Nat) (w : World) (h : Rdr w R l at_ why) :
    Calls Tryz.prog 59 #[.pointer (some ⟨R, 0, none⟩)] w fun e w' => e = .returned (.string (textOf (rS l at_ why).1)) ∧ Rdr w' R l (rS l at_ why).2.1 (rS l at_ why).2.2 ∧ w.grownBy w' (some R) := by
  have HC := rSized_any R l at_ why w h
  clear h
  generalize rS l at_ why = t at *
  go_enter Tryz.func59, Tryz.ntmps59
  go_wp2_with fail
  refine HC.mono ?_
  rintro e w1 ⟨a, n, cap, rfl, s1, m1, k1, r1, g1⟩
  have t1 := run_to_text w1 a n cap _ s1
  have R1 : Hid (Rdr w1 R l t.2.1 t.2.2) := r1
  have G1 : Hid _ := g1
  clear HC s1 m1 k1 r1 g1
  go_wp2
  go_ret
  exact ⟨rfl, R1.out, G1.out⟩
end Go.Proofs.YtdchnfggmkokhaaGreatDoor

namespace Go.Proofs.YtdchnfggmkokhaaGreatDoor
open Go.RowKit Cod
set_option linter.unusedVariables false

/-- From a place and an error to a place and an error. -/
def Goes (l : List (BitVec 8)) (at_ why at' why' : Nat) : Prop := at_ ≤ at' ∧ at' ≤ l.length ∧ (why ≠ 0 → at' = at_ ∧ why' = why)
theorem Goes.trans {l : List (BitVec 8)} {a y b z c x : Nat} (h : Goes l a y b z) (k : Goes l b z c x) : Goes l a y c x :=
  ⟨Nat.le_trans h.1 k.1, k.2.1, fun hy => by
    obtain ⟨e1, e2⟩ := h.2.2 hy
    obtain ⟨e3, e4⟩ := k.2.2 (by rw [e2]; exact hy)
    exact ⟨e3.trans e1, e4.trans e2⟩⟩
theorem rU_goes (l : List (BitVec 8)) (at_ why : Nat) (h : at_ ≤ l.length) : Goes l at_ why (rU l at_ why).2.1 (rU l at_ why).2.2 := by
  refine ⟨?_, rU_at l at_ why h, fun hy => by simp [rU, hy]⟩
  unfold rU
  split <;> simp
theorem rB_goes (l : List (BitVec 8)) (at_ why : Nat) (h : at_ ≤ l.length) : Goes l at_ why (rB l at_ why).2.1 (rB l at_ why).2.2 := by
  refine ⟨?_, ?_, fun hy => by simp [rB, hy]⟩
  · unfold rB
    split <;> (try split) <;> (try split) <;> simp
  · unfold rB
    split
    · exact h
    · split
      · exact h
      · split
        · exact h
        · simp; omega
theorem rC_goes (l : List (BitVec 8)) (most : Int) (at_ why : Nat) (h : at_ ≤ l.length) : Goes l at_ why (rC l most at_ why).2.1 (rC l most at_ why).2.2 := by
  have g := rU_goes l at_ why h
  unfold rC
  split
  · exact g
  · rename_i h0
    have hw : ¬ why ≠ 0 := fun hy => h0 (by rw [(g.2.2 hy).2]; exact hy)
    split
    · exact ⟨Nat.le_refl _, h, fun hy => absurd hy hw⟩
    · split
      · exact ⟨Nat.le_refl _, h, fun hy => absurd hy hw⟩
      · exact g
theorem rC_room {l : List (BitVec 8)} {most : Int} {at_ why : Nat} (h : at_ ≤ l.length) (he : (rC l most at_ why).2.2 = 0) : (rC l most at_ why).2.1 + (rC l most at_ why).1 ≤ l.length := by
  have := rC_ok (l := l) (most := most) (at_ := at_) (why := why) (n := (rC l most at_ why).1) (a1 := (rC l most at_ why).2.1) h (by rw [← he])
  exact this.2.1
theorem rC_most (l : List (BitVec 8)) (most at_ why : Nat) (hm : most < 9223372036854775808) : (rC l most at_ why).1 ≤ most := by
  unfold rC
  split
  · simp
  · split
    · simp
    · split
      · simp
      · rename_i h1 h2 h3
        omega
theorem rS_goes (l : List (BitVec 8)) (at_ why : Nat) (h : at_ ≤ l.length) : Goes l at_ why (rS l at_ why).2.1 (rS l at_ why).2.2 := by
  have g := rC_goes l 65536 at_ why h
  unfold rS
  split
  · exact g
  · rename_i h0
    have h1 : (rC l 65536 at_ why).2.2 = 0 := by simpa using h0
    refine ⟨Nat.le_trans g.1 (Nat.le_add_right _ _), rC_room h h1, fun hy => ?_⟩
    have := (g.2.2 hy).2
    omega
/-- Reading an operation: each part behind the one ahead of it. -/
def rOp1 (l : List (BitVec 8)) (at_ why : Nat) := rU l at_ why
def rOp2 (l : List (BitVec 8)) (at_ why : Nat) := rS l (rOp1 l at_ why).2.1 (rOp1 l at_ why).2.2
def rOp3 (l : List (BitVec 8)) (at_ why : Nat) := rS l (rOp2 l at_ why).2.1 (rOp2 l at_ why).2.2
def rOp4 (l : List (BitVec 8)) (at_ why : Nat) := rU l (rOp3 l at_ why).2.1 (rOp3 l at_ why).2.2
def rOp5 (l : List (BitVec 8)) (at_ why : Nat) := rS l (rOp4 l at_ why).2.1 (rOp4 l at_ why).2.2
def rOp6 (l : List (BitVec 8)) (at_ why : Nat) := rU l (rOp5 l at_ why).2.1 (rOp5 l at_ why).2.2
def rOp7 (l : List (BitVec 8)) (at_ why : Nat) := rU l (rOp6 l at_ why).2.1 (rOp6 l at_ why).2.2
def rOpV (l : List (BitVec 8)) (at_ why : Nat) : OpD := ⟨zag (rOp1 l at_ why).1, textOf (rOp2 l at_ why).1, textOf (rOp3 l at_ why).1, zag (rOp4 l at_ why).1, textOf (rOp5 l at_ why).1, zag (rOp6 l at_ why).1, zag (rOp7 l at_ why).1⟩
theorem rOp_goes (l : List (BitVec 8)) (at_ why : Nat) (h : at_ ≤ l.length) : Goes l at_ why (rOp7 l at_ why).2.1 (rOp7 l at_ why).2.2 := by
  have g1 : Goes l at_ why (rOp1 l at_ why).2.1 (rOp1 l at_ why).2.2 := rU_goes l at_ why h
  have g2 : Goes l (rOp1 l at_ why).2.1 (rOp1 l at_ why).2.2 (rOp2 l at_ why).2.1 (rOp2 l at_ why).2.2 := by rw [rOp2]; exact rS_goes l _ _ g1.2.1
  have g3 : Goes l (rOp2 l at_ why).2.1 (rOp2 l at_ why).2.2 (rOp3 l at_ why).2.1 (rOp3 l at_ why).2.2 := by rw [rOp3]; exact rS_goes l _ _ g2.2.1
  have g4 : Goes l (rOp3 l at_ why).2.1 (rOp3 l at_ why).2.2 (rOp4 l at_ why).2.1 (rOp4 l at_ why).2.2 := by rw [rOp4]; exact rU_goes l _ _ g3.2.1
  have g5 : Goes l (rOp4 l at_ why).2.1 (rOp4 l at_ why).2.2 (rOp5 l at_ why).2.1 (rOp5 l at_ why).2.2 := by rw [rOp5]; exact rS_goes l _ _ g4.2.1
  have g6 : Goes l (rOp5 l at_ why).2.1 (rOp5 l at_ why).2.2 (rOp6 l at_ why).2.1 (rOp6 l at_ why).2.2 := by rw [rOp6]; exact rU_goes l _ _ g5.2.1
  have g7 : Goes l (rOp6 l at_ why).2.1 (rOp6 l at_ why).2.2 (rOp7 l at_ why).2.1 (rOp7 l at_ why).2.2 := by rw [rOp7]; exact rU_goes l _ _ g6.2.1
  exact g1.trans (g2.trans (g3.trans (g4.trans (g5.trans (g6.trans g7)))))
end Go.Proofs.YtdchnfggmkokhaaGreatDoor

namespace Go.Proofs.YtdchnfggmkokhaaGreatDoor
open Go.RowKit Cod
set_option linter.unusedVariables false

theorem drop_next {l x r : List (BitVec 8)} {at_ : Nat} (h : l.drop at_ = x ++ r) : l.drop (at_ + x.length) = r := by
  rw [← List.drop_drop, h, List.drop_left]
theorem drop_len {l x r : List (BitVec 8)} {at_ : Nat} (hat : at_ ≤ l.length) (h : l.drop at_ = x ++ r) : at_ + x.length + r.length = l.length := by
  have := congrArg List.length h
  simp at this
  omega
theorem rU_back {l r : List (BitVec 8)} {at_ n : Nat} (h : l.drop at_ = enc n ++ r) (hn : n < 18446744073709551616) : rU l at_ 0 = (n, at_ + (enc n).length, 0) := by
  simp [rU, h, num_enc0 hn]
theorem rC_back {l r : List (BitVec 8)} {at_ n : Nat} {most : Int} (hat : at_ ≤ l.length) (h : l.drop at_ = enc n ++ r) (hn : n < 18446744073709551616) (hm : (n : Int) ≤ most) (hr : n ≤ r.length) : rC l most at_ 0 = (n, at_ + (enc n).length, 0) := by
  have e := rU_back h hn
  have hl := drop_len hat h
  simp only [rC, e]
  rw [if_neg (by simp), if_neg (by omega), if_neg (by omega)]
theorem rS_back {l r s : List (BitVec 8)} {at_ : Nat} (hat : at_ ≤ l.length) (h : l.drop at_ = sz s ++ r) (hs : s.length ≤ 65536) : rS l at_ 0 = (s, at_ + (sz s).length, 0) := by
  have h1 : l.drop at_ = enc s.length ++ (s ++ r) := by rw [h, sz, List.append_assoc]
  have e := rC_back (most := 65536) hat h1 (by omega) (by omega) (by simp)
  simp only [rS, e]
  rw [if_neg (by simp), drop_next h1, List.take_left]
  simp [sz, Nat.add_assoc]
theorem rB_back {l r : List (BitVec 8)} {at_ : Nat} (b : Bool) (hat : at_ ≤ l.length) (h : l.drop at_ = bit8 b :: r) : rB l at_ 0 = (b, at_ + 1, 0) := by
  have hl := drop_len (x := [bit8 b]) (r := r) hat h
  have hg : l.getD at_ 0#8 = bit8 b := by
    have := congrArg (fun t => t[0]?) h
    simp at this
    rw [List.getD_eq_getElem?_getD, this]
    rfl
  simp at hl
  unfold rB
  rw [if_neg (by simp), if_neg (by omega), hg]
  cases b <;> simp [bit8]
theorem rOp_back {l r : List (BitVec 8)} {at_ : Nat} {o : OpD} (ho : o.ok) (hat : at_ ≤ l.length) (h : l.drop at_ = o.bytes ++ r) (h1 : o.src.size ≤ 65536) (h2 : o.dst.size ≤ 65536) (h3 : o.key.size ≤ 65536) :
    rOpV l at_ 0 = o ∧ (rOp7 l at_ 0).2.1 = at_ + o.bytes.length ∧ (rOp7 l at_ 0).2.2 = 0 ∧ l.drop (at_ + o.bytes.length) = r := by
  obtain ⟨kind, src, dst, amount, key, slot, shard⟩ := o
  obtain ⟨i1, i2, i3, i4⟩ := ho
  simp only at h1 h2 h3 i1 i2 i3 i4
  have hfin := drop_next h
  have s1 := h
  simp only [OpD.bytes, List.append_assoc] at s1
  have a1 := drop_len hat s1
  have e1 : rOp1 l at_ 0 = _ := rU_back s1 (zig_lt kind i1)
  have s2 := drop_next s1
  have a1' : at_ + (enc (zig kind)).length ≤ l.length := by omega
  have e2 : rOp2 l at_ 0 = (bytesL src, at_ + (enc (zig kind)).length + (sz (bytesL src)).length, 0) := by rw [rOp2, e1]; exact rS_back a1' s2 (by rw [bytesL_length]; exact h1)
  have s3 := drop_next s2
  have a2 := drop_len (by omega) s2
  have e3 : rOp3 l at_ 0 = (bytesL dst, at_ + (enc (zig kind)).length + (sz (bytesL src)).length + (sz (bytesL dst)).length, 0) := by rw [rOp3, e2]; exact rS_back (by simp only; omega) s3 (by rw [bytesL_length]; exact h2)
  have s4 := drop_next s3
  have a3 := drop_len (by omega) s3
  have e4 : rOp4 l at_ 0 = (zig amount, at_ + (enc (zig kind)).length + (sz (bytesL src)).length + (sz (bytesL dst)).length + (enc (zig amount)).length, 0) := by rw [rOp4, e3]; exact rU_back s4 (zig_lt amount i2)
  have s5 := drop_next s4
  have a4 := drop_len (by omega) s4
  have e5 : rOp5 l at_ 0 = (bytesL key, at_ + (enc (zig kind)).length + (sz (bytesL src)).length + (sz (bytesL dst)).length + (enc (zig amount)).length + (sz (bytesL key)).length, 0) := by rw [rOp5, e4]; exact rS_back (by simp only; omega) s5 (by rw [bytesL_length]; exact h3)
  have s6 := drop_next s5
  have a5 := drop_len (by omega) s5
  have e6 : rOp6 l at_ 0 = (zig slot, at_ + (enc (zig kind)).length + (sz (bytesL src)).length + (sz (bytesL dst)).length + (enc (zig amount)).length + (sz (bytesL key)).length + (enc (zig slot)).length, 0) := by rw [rOp6, e5]; exact rU_back s6 (zig_lt slot i3)
  have s7 := drop_next s6
  have a6 := drop_len (by omega) s6
  have e7 : rOp7 l at_ 0 = (zig shard, at_ + (enc (zig kind)).length + (sz (bytesL src)).length + (sz (bytesL dst)).length + (enc (zig amount)).length + (sz (bytesL key)).length + (enc (zig slot)).length + (enc (zig shard)).length, 0) := by rw [rOp7, e6]; exact rU_back s7 (zig_lt shard i4)
  refine ⟨?_, ?_, ?_, hfin⟩
  · simp only [rOpV, e1, e2, e3, e4, e5, e6, e7, zag_zig, textOf_bytesL]
  · rw [e7]
    simp only [OpD.bytes, List.length_append, Nat.add_assoc]
  · rw [e7]
/-- Reading a row, and rows. -/
def rRow (l : List (BitVec 8)) (at_ why : Nat) : (ByteArray × Int) × Nat × Nat :=
  ((textOf (rS l at_ why).1, zag (rU l (rS l at_ why).2.1 (rS l at_ why).2.2).1), (rU l (rS l at_ why).2.1 (rS l at_ why).2.2).2)
def rRows (l : List (BitVec 8)) (at_ why : Nat) : Nat → List (ByteArray × Int) × Nat × Nat
  | 0 => ([], at_, why)
  | k + 1 => ((rRows l at_ why k).1 ++ [(rRow l (rRows l at_ why k).2.1 (rRows l at_ why k).2.2).1], (rRow l (rRows l at_ why k).2.1 (rRows l at_ why k).2.2).2)
theorem rRow_goes (l : List (BitVec 8)) (at_ why : Nat) (h : at_ ≤ l.length) : Goes l at_ why (rRow l at_ why).2.1 (rRow l at_ why).2.2 :=
  (rS_goes l at_ why h).trans (rU_goes l _ _ (rS_goes l at_ why h).2.1)
theorem rRows_goes (l : List (BitVec 8)) (at_ why : Nat) (h : at_ ≤ l.length) : ∀ k, Goes l at_ why (rRows l at_ why k).2.1 (rRows l at_ why k).2.2
  | 0 => ⟨Nat.le_refl _, h, fun _ => ⟨rfl, rfl⟩⟩
  | k + 1 => (rRows_goes l at_ why h k).trans (rRow_goes l _ _ (rRows_goes l at_ why h k).2.1)
theorem rRows_length (l : List (BitVec 8)) (at_ why : Nat) : ∀ k, (rRows l at_ why k).1.length = k
  | 0 => rfl
  | k + 1 => by simp [rRows, rRows_length l at_ why k]
theorem rRow_back {l r : List (BitVec 8)} {at_ : Nat} {x : ByteArray × Int} (hat : at_ ≤ l.length) (h : l.drop at_ = rowB x ++ r) (hx : i64ok x.2) (hs : x.1.size ≤ 65536) : rRow l at_ 0 = (x, at_ + (rowB x).length, 0) := by
  have s1 : l.drop at_ = sz (bytesL x.1) ++ (enc (zig x.2) ++ r) := by rw [h, rowB, List.append_assoc]
  have e1 := rS_back hat s1 (by rw [bytesL_length]; exact hs)
  have s2 := drop_next s1
  have e2 := rU_back s2 (zig_lt x.2 hx)
  simp only [rRow, e1, e2, zag_zig, textOf_bytesL]
  simp [rowB, Nat.add_assoc]
theorem rRows_back {l r : List (BitVec 8)} {at_ : Nat} {rows : List (ByteArray × Int)} (hat : at_ ≤ l.length) (h : l.drop at_ = rowsB rows ++ r) (hx : ∀ x ∈ rows, i64ok x.2 ∧ x.1.size ≤ 65536) :
    ∀ k, k ≤ rows.length → rRows l at_ 0 k = (rows.take k, at_ + (rowsB (rows.take k)).length, 0)
  | 0, _ => by simp [rRows, rowsB]
  | k + 1, hk => by
    have ih := rRows_back hat h hx k (by omega)
    have hkl : k < rows.length := by omega
    have hsp : rowsB rows = rowsB (rows.take k) ++ (rowB rows[k] ++ rowsB (rows.drop (k + 1))) := by
      conv => lhs; rw [← List.take_append_drop k rows, List.drop_eq_getElem_cons hkl]
      simp only [rowsB, List.map_append, List.map_cons, List.flatten_append, List.flatten_cons]
    have s1 : l.drop at_ = rowsB (rows.take k) ++ (rowB rows[k] ++ (rowsB (rows.drop (k + 1)) ++ r)) := by rw [h, hsp]; simp
    have a1 := drop_len hat s1
    have hm := hx rows[k] (List.getElem_mem hkl)
    have e := rRow_back (by omega) (drop_next s1) hm.1 hm.2
    simp only [rRows, ih, e]
    rw [rowsB_take hkl, List.take_add_one, List.getElem?_eq_getElem hkl]
    simp [Nat.add_assoc]
theorem rowsB_ge : ∀ (rows : List (ByteArray × Int)), rows.length ≤ (rowsB rows).length
  | [] => by simp
  | r :: rest => by
    have ih := rowsB_ge rest
    have h1 := enc_pos (zig r.2)
    simp only [rowsB, List.map_cons, List.flatten_cons, List.length_append, List.length_cons, rowB] at ih ⊢
    omega
/-- Reading an answer. -/
def rRe1 (l : List (BitVec 8)) (at_ why : Nat) := rU l at_ why
def rRe2 (l : List (BitVec 8)) (at_ why : Nat) := rU l (rRe1 l at_ why).2.1 (rRe1 l at_ why).2.2
def rRe3 (l : List (BitVec 8)) (at_ why : Nat) := rC l 600 (rRe2 l at_ why).2.1 (rRe2 l at_ why).2.2
def rRe4 (l : List (BitVec 8)) (at_ why : Nat) := rRows l (rRe3 l at_ why).2.1 (rRe3 l at_ why).2.2 (rRe3 l at_ why).1
end Go.Proofs.YtdchnfggmkokhaaGreatDoor
