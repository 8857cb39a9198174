/- What sized, Bytes and Text of a Reader do. -/
import Derived.Test.YtogbcciocgpknaaTaI
import Derived.Test.YtogbcciocgpknaaTaJ
import Derived.Test.YtogbcciocgpknaaTaF
import Derived.Test.YtogbcciocgpknaaTaG
import Derived.Laws.Rows
namespace Go.Proofs.Ytogbcciocgpknaa
open Go.RowKit Cod
set_option linter.unusedVariables false

theorem rC_ok {l : List (BitVec 8)} {most : Int} {at_ why n a1 : Nat} (hat : at_ ≤ l.length) (h : rC l most at_ why = (n, a1, 0)) : l ≠ [] ∧ a1 + n ≤ l.length ∧ (n : Int) ≤ most ∧ rU l at_ why = (n, a1, 0) := by
  unfold rC at h
  split at h
  · rename_i h1
    exact absurd (congrArg (fun t => t.2.2) h) h1
  · split at h
    · cases h
    · split at h
      · cases h
      · rename_i h1 h2 h3
        rw [h] at h1 h2 h3
        have h4 := rU_at l at_ why hat
        rw [h] at h4
        simp only at h1 h2 h3 h4
        refine ⟨fun e => ?_, by omega, by omega, h⟩
        subst e
        by_cases hy : why = 0
        · subst hy
          simp [rU, num] at h
        · rw [rU, if_neg hy] at h
          exact hy (congrArg (fun t => t.2.2) h)
set_option maxHeartbeats 800000 in
theorem rSized_any (R : Nat) (l : List (BitVec 8)) (at_ why : Nat) (w : World) (h : Rdr w R l at_ why) :
    Calls Try.prog 63 #[.pointer (some ⟨R, 0, none⟩)] w fun e w' => ∃ a n cap, e = .returned (.slice a n cap) ∧ Seen w' a n (rS l at_ why).1 ∧ (a = none → cap = 0) ∧ n ≤ 65536 ∧ Rdr w' R l (rS l at_ why).2.1 (rS l at_ why).2.2 ∧ w.grownBy w' (some R) := by
  have HC := rCount_any R l 65536 (by omega) at_ why w h
  have hle := h.le
  obtain ⟨n, a1, y1, hr⟩ : ∃ n a1 y1, rC l 65536 at_ why = (n, a1, y1) := ⟨_, _, _, rfl⟩
  rw [hr] at HC
  simp only at HC
  by_cases hy : y1 = 0
  · subst hy
    obtain ⟨hl, han, hn, _⟩ := rC_ok hle.1 hr
    have hv : rS l at_ why = ((l.drop a1).take n, a1 + n, 0) := by simp [rS, hr]
    rw [hv]
    simp only
    have hmx := hle.2
    clear h hle hv hr
    go_enter Try.func63, Try.ntmps63
    go_wp2_with fail
    refine HC.mono ?_
    rintro e w2 ⟨rfl, r2, g2⟩
    have R2 : Hid (Rdr w2 R l a1 0) := r2
    have G2 : Hid _ := g2
    obtain ⟨aa, cap, hh, hs, hnil, hk, hne, hat, hm⟩ := r2
    obtain ⟨b, off, rfl⟩ : ∃ b off, aa = some ⟨b, off, none⟩ := by
      rcases hs.2.2 with h3 | ⟨b, off, rfl, _⟩
      · exact absurd (List.eq_nil_of_length_eq_zero h3) hl
      · exact ⟨b, off, rfl⟩
    have c0 : w2.cell? ⟨R, 0, none⟩ = some (.slice (some ⟨b, off, none⟩) l.length cap) := by simp [World.cell?, hh]
    have c1 : w2.cell? ⟨R, 1, none⟩ = some (.int .i64 a1) := by simp [World.cell?, hh]
    have f1 : w2.frozen? ⟨R, 1, none⟩ = false := by simp [World.frozen?, hh]
    have cb3 : ∀ v, (w2.setCell ⟨R, 1, none⟩ v).cell? ⟨R, 0, none⟩ = some (.slice (some ⟨b, off, none⟩) l.length cap) := fun v => by rw [cell_set_far _ _ _ _ (by simp)]; exact c0
    obtain ⟨a3, hx3⟩ : ∃ a3, (if cap = a1 then some (⟨b, off, none⟩ : Addr) else some ⟨b, off + a1, none⟩) = a3 := ⟨_, rfl⟩
    have hx3' : (if cap = a1 then some (⟨b, off, none⟩ : Addr) else some ((⟨b, off, none⟩ : Addr).add a1)) = a3 := by rw [Addr.add_lit]; exact hx3
    have S3 : Hid (Seen w2 a3 n ((l.drop a1).take n)) := by
      have := (hs.drop a1 cap (by omega) hk).take n (by omega)
      rw [hx3'] at this
      exact this
    have N3 : Hid (a3 ≠ none) := by show a3 ≠ none; rw [← hx3]; split <;> simp
    have HNE : Hid (∀ x, a3 = some x → x.block < R) := by
      intro x hx
      have := hne hl ⟨b, off, none⟩ rfl
      rw [← hx3] at hx
      split at hx <;> (cases hx; exact this)
    have HAN : Hid _ := han
    have HN : Hid _ := hn
    clear hs hnil hne hat hm hh HC
    go_wp2_with fail
    refine (reads_any R l a1 0 w2 R2.out).mono ?_
    rintro e w3 ⟨rfl, rfl⟩
    go_wp2
    go_quiet (fail)
    go_wp2
    go_ret
    rw [← Int.natCast_add]
    have p1 := Rdr.put1 R2.out 0 (a1 + n) HAN.out
    have p2 := grown_drewN ((grown_set w3 ⟨R, 1, none⟩ (.int .i64 ((a1 + n : Nat) : Int)))) nq
    refine ⟨a3, a1 + n - a1, cap - a1, rfl, ?_, fun e => absurd e N3.out, ?_, p1.1, G2.out.trans p2⟩
    · rw [Nat.add_sub_cancel_left]
      exact S3.out.grown p2 (fun _ => HNE.out)
    · have := HN.out
      omega
  · have hv : rS l at_ why = ([], a1, y1) := by simp [rS, hr, hy]
    rw [hv]
    simp only
    have hy' : ((y1 : Int) == 0) = false := by simp; omega
    clear h hle hv hr hy
    go_enter Try.func63, Try.ntmps63
    go_wp2_with fail
    refine HC.mono ?_
    rintro e w2 ⟨rfl, r2, g2⟩
    have R2 : Hid (Rdr w2 R l a1 y1) := r2
    have G2 : Hid _ := g2
    clear r2 g2 HC
    go_wp2_with fail
    refine (reads_any R l a1 y1 w2 R2.out).mono ?_
    rintro e w3 ⟨rfl, rfl⟩
    go_wp2
    go_ret
    exact ⟨none, 0, 0, rfl, ⟨rfl, by simp, .inl rfl⟩, fun _ => rfl, by omega, R2.out, G2.out⟩
/-- (*Reader).Text -/
theorem rText_any (R : Nat) (l : List (BitVec 8)) (at_ why : Nat) (w : World) (h : Rdr w R l at_ why) :
    Calls Try.prog 65 #[.pointer (some ⟨R, 0, none⟩)] w fun e w' => e = .returned (.string (textOf (rS l at_ why).1)) ∧ Rdr w' R l (rS l at_ why).2.1 (rS l at_ why).2.2 ∧ w.grownBy w' (some R) := by
  have HC := rSized_any R l at_ why w h
  clear h
  generalize rS l at_ why = t at *
  go_enter Try.func65, Try.ntmps65
  go_wp2_with fail
  refine HC.mono ?_
  rintro e w1 ⟨a, n, cap, rfl, s1, m1, k1, r1, g1⟩
  have t1 := run_to_text w1 a n cap _ s1
  have R1 : Hid (Rdr w1 R l t.2.1 t.2.2) := r1
  have G1 : Hid _ := g1
  clear HC s1 m1 k1 r1 g1
  go_wp2
  go_ret
  exact ⟨rfl, R1.out, G1.out⟩
/-- (*Reader).Bytes: in memory of its own -/
theorem rBytes_any (R : Nat) (l : List (BitVec 8)) (at_ why : Nat) (w : World) (h : Rdr w R l at_ why) :
    Calls Try.prog 34 #[.pointer (some ⟨R, 0, none⟩)] w fun e w' => ∃ v, e = .returned v ∧ w'.ownsRow w.heap.size 5 1 v (rS l at_ why).1.length (cellsOf (rS l at_ why).1) ∧ (rS l at_ why).1.length ≤ 65536 ∧ Rdr w' R l (rS l at_ why).2.1 (rS l at_ why).2.2 ∧ w.grownBy w' (some R) := by
  have HC := rSized_any R l at_ why w h
  clear h
  generalize rS l at_ why = t at *
  go_enter Try.func34, Try.ntmps34
  go_wp2_with fail
  refine HC.mono ?_
  rintro e w1 ⟨a, n, cap, rfl, s1, m1, k1, r1, g1⟩
  obtain rfl : n = t.1.length := s1.1
  have HCl := clone_any a _ cap t.1 w1 s1 m1 (by omega)
  have R1 : Hid (Rdr w1 R l t.2.1 t.2.2) := r1
  have G1 : Hid _ := g1
  have K1 : Hid _ := k1
  clear HC s1 m1 k1 r1 g1
  go_wp2_with fail
  refine HCl.mono ?_
  rintro e w2 ⟨v, rfl, o2, b2⟩
  have O2 : Hid _ := o2
  have B2 : Hid _ := b2
  clear HCl o2 b2
  go_wp2
  go_ret
  have sz1 := G1.out.size
  exact ⟨_, rfl, owns_mono O2.out sz1, K1.out, Rdr.below R1.out B2.out, G1.out.trans ⟨B2.out.os, B2.out.tape, B2.out.output, B2.out.size, fun k hk _ => B2.out.block k hk⟩⟩
end Go.Proofs.Ytogbcciocgpknaa

namespace Go.Proofs.Ytogbcciocgpknaa
open Go.RowKit Cod
set_option linter.unusedVariables false

/-- From a place and an error to a place and an error. -/
def Goes (l : List (BitVec 8)) (at_ why at' why' : Nat) : Prop := at_ ≤ at' ∧ at' ≤ l.length ∧ (why ≠ 0 → at' = at_ ∧ why' = why)
theorem Goes.trans {l : List (BitVec 8)} {a y b z c x : Nat} (h : Goes l a y b z) (k : Goes l b z c x) : Goes l a y c x :=
  ⟨Nat.le_trans h.1 k.1, k.2.1, fun hy => by
    obtain ⟨e1, e2⟩ := h.2.2 hy
    obtain ⟨e3, e4⟩ := k.2.2 (by rw [e2]; exact hy)
    exact ⟨e3.trans e1, e4.trans e2⟩⟩
theorem rU_goes (l : List (BitVec 8)) (at_ why : Nat) (h : at_ ≤ l.length) : Goes l at_ why (rU l at_ why).2.1 (rU l at_ why).2.2 := by
  refine ⟨?_, rU_at l at_ why h, fun hy => by simp [rU, hy]⟩
  unfold rU
  split <;> simp
theorem rB_goes (l : List (BitVec 8)) (at_ why : Nat) (h : at_ ≤ l.length) : Goes l at_ why (rB l at_ why).2.1 (rB l at_ why).2.2 := by
  refine ⟨?_, ?_, fun hy => by simp [rB, hy]⟩
  · unfold rB
    split <;> (try split) <;> (try split) <;> simp
  · unfold rB
    split
    · exact h
    · split
      · exact h
      · split
        · exact h
        · simp; omega
theorem rC_goes (l : List (BitVec 8)) (most : Int) (at_ why : Nat) (h : at_ ≤ l.length) : Goes l at_ why (rC l most at_ why).2.1 (rC l most at_ why).2.2 := by
  have g := rU_goes l at_ why h
  unfold rC
  split
  · exact g
  · rename_i h0
    have hw : ¬ why ≠ 0 := fun hy => h0 (by rw [(g.2.2 hy).2]; exact hy)
    split
    · exact ⟨Nat.le_refl _, h, fun hy => absurd hy hw⟩
    · split
      · exact ⟨Nat.le_refl _, h, fun hy => absurd hy hw⟩
      · exact g
theorem rC_room {l : List (BitVec 8)} {most : Int} {at_ why : Nat} (h : at_ ≤ l.length) (he : (rC l most at_ why).2.2 = 0) : (rC l most at_ why).2.1 + (rC l most at_ why).1 ≤ l.length := by
  have := rC_ok (l := l) (most := most) (at_ := at_) (why := why) (n := (rC l most at_ why).1) (a1 := (rC l most at_ why).2.1) h (by rw [← he])
  exact this.2.1
theorem rC_most (l : List (BitVec 8)) (most at_ why : Nat) (hm : most < 9223372036854775808) : (rC l most at_ why).1 ≤ most := by
  unfold rC
  split
  · simp
  · split
    · simp
    · split
      · simp
      · rename_i h1 h2 h3
        omega
theorem rS_goes (l : List (BitVec 8)) (at_ why : Nat) (h : at_ ≤ l.length) : Goes l at_ why (rS l at_ why).2.1 (rS l at_ why).2.2 := by
  have g := rC_goes l 65536 at_ why h
  unfold rS
  split
  · exact g
  · rename_i h0
    have h1 : (rC l 65536 at_ why).2.2 = 0 := by simpa using h0
    refine ⟨Nat.le_trans g.1 (Nat.le_add_right _ _), rC_room h h1, fun hy => ?_⟩
    have := (g.2.2 hy).2
    omega
/-- Reading an operation: each part behind the one ahead of it. -/
def rOp1 (l : List (BitVec 8)) (at_ why : Nat) := rU l at_ why
def rOp2 (l : List (BitVec 8)) (at_ why : Nat) := rS l (rOp1 l at_ why).2.1 (rOp1 l at_ why).2.2
def rOp3 (l : List (BitVec 8)) (at_ why : Nat) := rS l (rOp2 l at_ why).2.1 (rOp2 l at_ why).2.2
def rOp4 (l : List (BitVec 8)) (at_ why : Nat) := rU l (rOp3 l at_ why).2.1 (rOp3 l at_ why).2.2
def rOp5 (l : List (BitVec 8)) (at_ why : Nat) := rS l (rOp4 l at_ why).2.1 (rOp4 l at_ why).2.2
def rOp6 (l : List (BitVec 8)) (at_ why : Nat) := rU l (rOp5 l at_ why).2.1 (rOp5 l at_ why).2.2
def rOp7 (l : List (BitVec 8)) (at_ why : Nat) := rU l (rOp6 l at_ why).2.1 (rOp6 l at_ why).2.2
def rOpV (l : List (BitVec 8)) (at_ why : Nat) : OpD := ⟨zag (rOp1 l at_ why).1, textOf (rOp2 l at_ why).1, textOf (rOp3 l at_ why).1, zag (rOp4 l at_ why).1, textOf (rOp5 l at_ why).1, zag (rOp6 l at_ why).1, zag (rOp7 l at_ why).1⟩
theorem rOp_goes (l : List (BitVec 8)) (at_ why : Nat) (h : at_ ≤ l.length) : Goes l at_ why (rOp7 l at_ why).2.1 (rOp7 l at_ why).2.2 := by
  have g1 : Goes l at_ why (rOp1 l at_ why).2.1 (rOp1 l at_ why).2.2 := rU_goes l at_ why h
  have g2 : Goes l (rOp1 l at_ why).2.1 (rOp1 l at_ why).2.2 (rOp2 l at_ why).2.1 (rOp2 l at_ why).2.2 := by rw [rOp2]; exact rS_goes l _ _ g1.2.1
  have g3 : Goes l (rOp2 l at_ why).2.1 (rOp2 l at_ why).2.2 (rOp3 l at_ why).2.1 (rOp3 l at_ why).2.2 := by rw [rOp3]; exact rS_goes l _ _ g2.2.1
  have g4 : Goes l (rOp3 l at_ why).2.1 (rOp3 l at_ why).2.2 (rOp4 l at_ why).2.1 (rOp4 l at_ why).2.2 := by rw [rOp4]; exact rU_goes l _ _ g3.2.1
  have g5 : Goes l (rOp4 l at_ why).2.1 (rOp4 l at_ why).2.2 (rOp5 l at_ why).2.1 (rOp5 l at_ why).2.2 := by rw [rOp5]; exact rS_goes l _ _ g4.2.1
  have g6 : Goes l (rOp5 l at_ why).2.1 (rOp5 l at_ why).2.2 (rOp6 l at_ why).2.1 (rOp6 l at_ why).2.2 := by rw [rOp6]; exact rU_goes l _ _ g5.2.1
  have g7 : Goes l (rOp6 l at_ why).2.1 (rOp6 l at_ why).2.2 (rOp7 l at_ why).2.1 (rOp7 l at_ why).2.2 := by rw [rOp7]; exact rU_goes l _ _ g6.2.1
  exact g1.trans (g2.trans (g3.trans (g4.trans (g5.trans (g6.trans g7)))))
end Go.Proofs.Ytogbcciocgpknaa

namespace Go.Proofs.Ytogbcciocgpknaa
open Go.RowKit Cod
set_option linter.unusedVariables false

theorem drop_next {l x r : List (BitVec 8)} {at_ : Nat} (h : l.drop at_ = x ++ r) : l.drop (at_ + x.length) = r := by
  rw [← List.drop_drop, h, List.drop_left]
theorem drop_len {l x r : List (BitVec 8)} {at_ : Nat} (hat : at_ ≤ l.length) (h : l.drop at_ = x ++ r) : at_ + x.length + r.length = l.length := by
  have := congrArg List.length h
  simp at this
  omega
theorem rU_back {l r : List (BitVec 8)} {at_ n : Nat} (h : l.drop at_ = enc n ++ r) (hn : n < 18446744073709551616) : rU l at_ 0 = (n, at_ + (enc n).length, 0) := by
  simp [rU, h, num_enc0 hn]
theorem rC_back {l r : List (BitVec 8)} {at_ n : Nat} {most : Int} (hat : at_ ≤ l.length) (h : l.drop at_ = enc n ++ r) (hn : n < 18446744073709551616) (hm : (n : Int) ≤ most) (hr : n ≤ r.length) : rC l most at_ 0 = (n, at_ + (enc n).length, 0) := by
  have e := rU_back h hn
  have hl := drop_len hat h
  simp only [rC, e]
  rw [if_neg (by simp), if_neg (by omega), if_neg (by omega)]
theorem rS_back {l r s : List (BitVec 8)} {at_ : Nat} (hat : at_ ≤ l.length) (h : l.drop at_ = sz s ++ r) (hs : s.length ≤ 65536) : rS l at_ 0 = (s, at_ + (sz s).length, 0) := by
  have h1 : l.drop at_ = enc s.length ++ (s ++ r) := by rw [h, sz, List.append_assoc]
  have e := rC_back (most := 65536) hat h1 (by omega) (by omega) (by simp)
  simp only [rS, e]
  rw [if_neg (by simp), drop_next h1, List.take_left]
  simp [sz, Nat.add_assoc]
theorem rB_back {l r : List (BitVec 8)} {at_ : Nat} (b : Bool) (hat : at_ ≤ l.length) (h : l.drop at_ = bit8 b :: r) : rB l at_ 0 = (b, at_ + 1, 0) := by
  have hl := drop_len (x := [bit8 b]) (r := r) hat h
  have hg : l.getD at_ 0#8 = bit8 b := by
    have := congrArg (fun t => t[0]?) h
    simp at this
    rw [List.getD_eq_getElem?_getD, this]
    rfl
  simp at hl
  unfold rB
  rw [if_neg (by simp), if_neg (by omega), hg]
  cases b <;> simp [bit8]
theorem rOp_back {l r : List (BitVec 8)} {at_ : Nat} {o : OpD} (ho : o.ok) (hat : at_ ≤ l.length) (h : l.drop at_ = o.bytes ++ r) (h1 : o.src.size ≤ 65536) (h2 : o.dst.size ≤ 65536) (h3 : o.key.size ≤ 65536) :
    rOpV l at_ 0 = o ∧ (rOp7 l at_ 0).2.1 = at_ + o.bytes.length ∧ (rOp7 l at_ 0).2.2 = 0 ∧ l.drop (at_ + o.bytes.length) = r := by
  obtain ⟨kind, src, dst, amount, key, slot, shard⟩ := o
  obtain ⟨i1, i2, i3, i4⟩ := ho
  simp only at h1 h2 h3 i1 i2 i3 i4
  have hfin := drop_next h
  have s1 := h
  simp only [OpD.bytes, List.append_assoc] at s1
  have a1 := drop_len hat s1
  have e1 : rOp1 l at_ 0 = _ := rU_back s1 (zig_lt kind i1)
  have s2 := drop_next s1
  have a1' : at_ + (enc (zig kind)).length ≤ l.length := by omega
  have e2 : rOp2 l at_ 0 = (bytesL src, at_ + (enc (zig kind)).length + (sz (bytesL src)).length, 0) := by rw [rOp2, e1]; exact rS_back a1' s2 (by rw [bytesL_length]; exact h1)
  have s3 := drop_next s2
  have a2 := drop_len (by omega) s2
  have e3 : rOp3 l at_ 0 = (bytesL dst, at_ + (enc (zig kind)).length + (sz (bytesL src)).length + (sz (bytesL dst)).length, 0) := by rw [rOp3, e2]; exact rS_back (by simp only; omega) s3 (by rw [bytesL_length]; exact h2)
  have s4 := drop_next s3
  have a3 := drop_len (by omega) s3
  have e4 : rOp4 l at_ 0 = (zig amount, at_ + (enc (zig kind)).length + (sz (bytesL src)).length + (sz (bytesL dst)).length + (enc (zig amount)).length, 0) := by rw [rOp4, e3]; exact rU_back s4 (zig_lt amount i2)
  have s5 := drop_next s4
  have a4 := drop_len (by omega) s4
  have e5 : rOp5 l at_ 0 = (bytesL key, at_ + (enc (zig kind)).length + (sz (bytesL src)).length + (sz (bytesL dst)).length + (enc (zig amount)).length + (sz (bytesL key)).length, 0) := by rw [rOp5, e4]; exact rS_back (by simp only; omega) s5 (by rw [bytesL_length]; exact h3)
  have s6 := drop_next s5
  have a5 := drop_len (by omega) s5
  have e6 : rOp6 l at_ 0 = (zig slot, at_ + (enc (zig kind)).length + (sz (bytesL src)).length + (sz (bytesL dst)).length + (enc (zig amount)).length + (sz (bytesL key)).length + (enc (zig slot)).length, 0) := by rw [rOp6, e5]; exact rU_back s6 (zig_lt slot i3)
  have s7 := drop_next s6
  have a6 := drop_len (by omega) s6
  have e7 : rOp7 l at_ 0 = (zig shard, at_ + (enc (zig kind)).length + (sz (bytesL src)).length + (sz (bytesL dst)).length + (enc (zig amount)).length + (sz (bytesL key)).length + (enc (zig slot)).length + (enc (zig shard)).length, 0) := by rw [rOp7, e6]; exact rU_back s7 (zig_lt shard i4)
  refine ⟨?_, ?_, ?_, hfin⟩
  · simp only [rOpV, e1, e2, e3, e4, e5, e6, e7, zag_zig, textOf_bytesL]
  · rw [e7]
    simp only [OpD.bytes, List.length_append, Nat.add_assoc]
  · rw [e7]
/-- Reading a row, and rows. -/
def rRow (l : List (BitVec 8)) (at_ why : Nat) : (ByteArray × Int) × Nat × Nat :=
  ((textOf (rS l at_ why).1, zag (rU l (rS l at_ why).2.1 (rS l at_ why).2.2).1), (rU l (rS l at_ why).2.1 (rS l at_ why).2.2).2)
def rRows (l : List (BitVec 8)) (at_ why : Nat) : Nat → List (ByteArray × Int) × Nat × Nat
  | 0 => ([], at_, why)
  | k + 1 => ((rRows l at_ why k).1 ++ [(rRow l (rRows l at_ why k).2.1 (rRows l at_ why k).2.2).1], (rRow l (rRows l at_ why k).2.1 (rRows l at_ why k).2.2).2)
theorem rRow_goes (l : List (BitVec 8)) (at_ why : Nat) (h : at_ ≤ l.length) : Goes l at_ why (rRow l at_ why).2.1 (rRow l at_ why).2.2 :=
  (rS_goes l at_ why h).trans (rU_goes l _ _ (rS_goes l at_ why h).2.1)
theorem rRows_goes (l : List (BitVec 8)) (at_ why : Nat) (h : at_ ≤ l.length) : ∀ k, Goes l at_ why (rRows l at_ why k).2.1 (rRows l at_ why k).2.2
  | 0 => ⟨Nat.le_refl _, h, fun _ => ⟨rfl, rfl⟩⟩
  | k + 1 => (rRows_goes l at_ why h k).trans (rRow_goes l _ _ (rRows_goes l at_ why h k).2.1)
theorem rRows_length (l : List (BitVec 8)) (at_ why : Nat) : ∀ k, (rRows l at_ why k).1.length = k
  | 0 => rfl
  | k + 1 => by simp [rRows, rRows_length l at_ why k]
theorem rRow_back {l r : List (BitVec 8)} {at_ : Nat} {x : ByteArray × Int} (hat : at_ ≤ l.length) (h : l.drop at_ = rowB x ++ r) (hx : i64ok x.2) (hs : x.1.size ≤ 65536) : rRow l at_ 0 = (x, at_ + (rowB x).length, 0) := by
  have s1 : l.drop at_ = sz (bytesL x.1) ++ (enc (zig x.2) ++ r) := by rw [h, rowB, List.append_assoc]
  have e1 := rS_back hat s1 (by rw [bytesL_length]; exact hs)
  have s2 := drop_next s1
  have e2 := rU_back s2 (zig_lt x.2 hx)
  simp only [rRow, e1, e2, zag_zig, textOf_bytesL]
  simp [rowB, Nat.add_assoc]
theorem rRows_back {l r : List (BitVec 8)} {at_ : Nat} {rows : List (ByteArray × Int)} (hat : at_ ≤ l.length) (h : l.drop at_ = rowsB rows ++ r) (hx : ∀ x ∈ rows, i64ok x.2 ∧ x.1.size ≤ 65536) :
    ∀ k, k ≤ rows.length → rRows l at_ 0 k = (rows.take k, at_ + (rowsB (rows.take k)).length, 0)
  | 0, _ => by simp [rRows, rowsB]
  | k + 1, hk => by
    have ih := rRows_back hat h hx k (by omega)
    have hkl : k < rows.length := by omega
    have hsp : rowsB rows = rowsB (rows.take k) ++ (rowB rows[k] ++ rowsB (rows.drop (k + 1))) := by
      conv => lhs; rw [← List.take_append_drop k rows, List.drop_eq_getElem_cons hkl]
      simp only [rowsB, List.map_append, List.map_cons, List.flatten_append, List.flatten_cons]
    have s1 : l.drop at_ = rowsB (rows.take k) ++ (rowB rows[k] ++ (rowsB (rows.drop (k + 1)) ++ r)) := by rw [h, hsp]; simp
    have a1 := drop_len hat s1
    have hm := hx rows[k] (List.getElem_mem hkl)
    have e := rRow_back (by omega) (drop_next s1) hm.1 hm.2
    simp only [rRows, ih, e]
    rw [rowsB_take hkl, List.take_add_one, List.getElem?_eq_getElem hkl]
    simp [Nat.add_assoc]
theorem rowsB_ge : ∀ (rows : List (ByteArray × Int)), rows.length ≤ (rowsB rows).length
  | [] => by simp
  | r :: rest => by
    have ih := rowsB_ge rest
    have h1 := enc_pos (zig r.2)
    simp only [rowsB, List.map_cons, List.flatten_cons, List.length_append, List.length_cons, rowB] at ih ⊢
    omega
/-- Reading an answer. -/
def rRe1 (l : List (BitVec 8)) (at_ why : Nat) := rU l at_ why
def rRe2 (l : List (BitVec 8)) (at_ why : Nat) := rU l (rRe1 l at_ why).2.1 (rRe1 l at_ why).2.2
def rRe3 (l : List (BitVec 8)) (at_ why : Nat) := rC l 600 (rRe2 l at_ why).2.1 (rRe2 l at_ why).2.2
def rRe4 (l : List (BitVec 8)) (at_ why : Nat) := rRows l (rRe3 l at_ why).2.1 (rRe3 l at_ why).2.2 (rRe3 l at_ why).1
end Go.Proofs.Ytogbcciocgpknaa

namespace Go.Proofs.Ytogbcciocgpknaa
open Go.RowKit Cod
set_option linter.unusedVariables false

/-- Amid a form that is read: the Reader, the block K that is filled, the block ahead of it that holds the answer. -/
structure Fill (w0 w : World) (R : Nat) (l : List (BitVec 8)) (at_ why : Nat) (t : TypeId) (zs cs : Array Value) : Prop where
  rdr : Rdr w R l at_ why
  old : w.heap[w0.heap.size]? = some (.cells zs t (0, 0))
  new : w.heap[w0.heap.size + 1]? = some (.cells cs t (0, 0))
  grown : w0.grownBy w (some R)
  lt : R < w0.heap.size
theorem Rdr.lt {w : World} {R : Nat} {l : List (BitVec 8)} {at_ why : Nat} (h : Rdr w R l at_ why) : R < w.heap.size := by
  obtain ⟨a, cap, h, _⟩ := h
  exact (Array.getElem?_eq_some_iff.1 h).1
theorem grown_alloc {w w' : World} {row : Option Nat} (h : w.grownBy w' row) (o : Obj) : w.grownBy (w'.alloc o) row :=
  ⟨h.os, h.tape, h.output, by have := h.size; simp; omega, fun k hk hr => by rw [Below.heap_alloc w' o k (by have := h.size; omega)]; exact h.block k hk hr⟩
theorem grown_cell {w w' : World} {row : Option Nat} (h : w.grownBy w' row) (a : Addr) (v : Value) (ha : w.heap.size ≤ a.block) : w.grownBy (w'.setCell a v) row :=
  ⟨h.os, h.tape, h.output, by simpa [World.setCell] using h.size, fun k hk hr => by rw [Below.heap_setCell _ _ _ k (fun e => by omega)]; exact h.block k hk hr⟩
theorem Fill.start {w : World} {R : Nat} {l : List (BitVec 8)} {at_ why : Nat} (h : Rdr w R l at_ why) (t : TypeId) (zs cs : Array Value) :
    Fill w ((w.alloc (.cells zs t)).alloc (.cells cs t)) R l at_ why t zs cs := by
  have b1 : Below w.heap.size w (w.alloc (.cells zs t)) := (Below.refl _ w).alloc (Nat.le_refl _) _
  have b2 : Below w.heap.size w ((w.alloc (.cells zs t)).alloc (.cells cs t)) := b1.alloc b1.size _
  refine ⟨Rdr.below h b2, ?_, ?_, ?_, h.lt⟩
  · rw [Below.heap_alloc _ _ _ (by simp)]
    exact heap_alloc_new w _
  · have := heap_alloc_new (w.alloc (.cells zs t)) (.cells cs t)
    simpa using this
  · exact grown_alloc (grown_alloc (grown_refl w _) _) _
theorem Fill.call {w0 w w' : World} {R : Nat} {l : List (BitVec 8)} {at_ why at' why' : Nat} {t : TypeId} {zs cs : Array Value} (h : Fill w0 w R l at_ why t zs cs) (hr : Rdr w' R l at' why') (hg : w.grownBy w' (some R)) :
    Fill w0 w' R l at' why' t zs cs := by
  have hlt := h.lt
  have s1 := (Array.getElem?_eq_some_iff.1 h.old).1
  have s2 := (Array.getElem?_eq_some_iff.1 h.new).1
  exact ⟨hr, by rw [hg.block _ s1 (fun e => by have := Option.some.inj e; omega)]; exact h.old, by rw [hg.block _ s2 (fun e => by have := Option.some.inj e; omega)]; exact h.new, h.grown.trans hg, hlt⟩
theorem Seen.since {w w' : World} {a : Option Addr} {len : Nat} {l : List (BitVec 8)} (h : Seen w a len l) (hb : l ≠ [] → ∀ x, a = some x → w'.heap[x.block]? = w.heap[x.block]?) : Seen w' a len l := by
  obtain ⟨h1, h2, h3⟩ := h
  refine ⟨h1, h2, ?_⟩
  rcases h3 with h3 | ⟨b, off, ha, hc⟩
  · exact .inl h3
  · refine .inr ⟨b, off, ha, fun j hj => ?_⟩
    have hq := hb (fun e => by subst e; simp at hj) _ ha
    rw [World.cell?_of_block (w := w) (a := ⟨b, off + j, none⟩) hq]
    exact hc j hj
/-- A Reader is as it was where no block up to its own was changed. -/
theorem Rdr.since {w w' : World} {R : Nat} {l : List (BitVec 8)} {at_ why : Nat} (h : Rdr w R l at_ why) (hb : ∀ k, k ≤ R → w'.heap[k]? = w.heap[k]?) : Rdr w' R l at_ why := by
  obtain ⟨a0, cap, hh, hs, hn, hk, hne, hat, hm⟩ := h
  exact ⟨a0, cap, by rw [hb R (Nat.le_refl _)]; exact hh, hs.since (fun hl x hx => hb _ (Nat.le_of_lt (hne hl x hx))), hn, hk, hne, hat, hm⟩
theorem Rdr.set {w : World} {R : Nat} {l : List (BitVec 8)} {at_ why : Nat} (h : Rdr w R l at_ why) (a : Addr) (v : Value) (hR : R < a.block) : Rdr (w.setCell a v) R l at_ why :=
  h.since (fun k hk => Below.heap_setCell _ _ _ k (fun e => by omega))
theorem Rdr.grown {w w' : World} {R : Nat} {l : List (BitVec 8)} {at_ why : Nat} {row : Option Nat} (h : Rdr w R l at_ why) (hg : w.grownBy w' row) (hr : ∀ g, row = some g → R < g) : Rdr w' R l at_ why :=
  h.since (fun k hk => hg.block k (Nat.lt_of_le_of_lt hk h.lt) (fun e => by have := hr k e.symm; omega))
theorem Fill.grow {w0 w w' : World} {R : Nat} {l : List (BitVec 8)} {at_ why : Nat} {t : TypeId} {zs cs : Array Value} {row : Option Nat} (h : Fill w0 w R l at_ why t zs cs) (hg : w.grownBy w' row) (hr : ∀ g, row = some g → w0.heap.size + 2 ≤ g) :
    Fill w0 w' R l at_ why t zs cs := by
  have hlt := h.lt
  have s1 := (Array.getElem?_eq_some_iff.1 h.old).1
  have s2 := (Array.getElem?_eq_some_iff.1 h.new).1
  have g0 := h.grown
  refine ⟨h.rdr.grown hg (fun g e => by have := hr g e; omega), by rw [hg.block _ s1 (fun e => by have := hr _ e.symm; omega)]; exact h.old, by rw [hg.block _ s2 (fun e => by have := hr _ e.symm; omega)]; exact h.new, ?_, hlt⟩
  exact ⟨hg.os.trans g0.os, hg.tape.trans g0.tape, hg.output.trans g0.output, Nat.le_trans g0.size hg.size, fun k hk hne => (hg.block k (Nat.lt_of_lt_of_le hk g0.size) (fun e => by have := hr k e.symm; omega)).trans (g0.block k hk hne)⟩
theorem Fill.alloc {w0 w : World} {R : Nat} {l : List (BitVec 8)} {at_ why : Nat} {t : TypeId} {zs cs : Array Value} (h : Fill w0 w R l at_ why t zs cs) (o : Obj) : Fill w0 (w.alloc o) R l at_ why t zs cs :=
  h.grow (row := none) (grown_alloc (grown_refl w none) o) (fun g e => by cases e)
theorem Fill.store {w0 w : World} {R : Nat} {l : List (BitVec 8)} {at_ why : Nat} {t : TypeId} {zs cs : Array Value} (h : Fill w0 w R l at_ why t zs cs) (i : Nat) (v : Value) :
    Fill w0 (w.setCell ⟨w0.heap.size + 1, i, none⟩ v) R l at_ why t zs (cs.setIfInBounds i v) := by
  have hlt := h.lt
  exact ⟨h.rdr.set _ v (by show R < w0.heap.size + 1; omega), by rw [Below.heap_setCell _ _ _ _ (by simp)]; exact h.old, set_block h.new i v, grown_cell h.grown _ _ (by simp), hlt⟩
theorem Fill.put {w0 w : World} {R : Nat} {l : List (BitVec 8)} {at_ why : Nat} {t : TypeId} {zs cs : Array Value} (h : Fill w0 w R l at_ why t zs cs) (i : Nat) (v : Value) :
    Fill w0 (w.setCell ⟨w0.heap.size, i, none⟩ v) R l at_ why t (zs.setIfInBounds i v) cs := by
  have hlt := h.lt
  exact ⟨h.rdr.set _ v hlt, set_block h.old i v, by rw [Below.heap_setCell _ _ _ _ (by simp)]; exact h.new, grown_cell h.grown _ _ (by simp), hlt⟩
theorem Fill.cell {w0 w : World} {R : Nat} {l : List (BitVec 8)} {at_ why : Nat} {t : TypeId} {zs cs : Array Value} (h : Fill w0 w R l at_ why t zs cs) (i : Nat) : w.cell? ⟨w0.heap.size + 1, i, none⟩ = cs[i]? ∧ w.frozen? ⟨w0.heap.size + 1, i, none⟩ = false := by
  simp [World.cell?, World.frozen?, h.new]
set_option maxRecDepth 100000 in
set_option maxHeartbeats 1600000 in
theorem getOp_any (R : Nat) (l : List (BitVec 8)) (at_ why : Nat) (w : World) (h : Rdr w R l at_ why) :
    Calls Try.prog 64 #[.pointer (some ⟨R, 0, none⟩)] w fun e w' => e = .returned (rOpV l at_ why).val ∧ Rdr w' R l (rOp7 l at_ why).2.1 (rOp7 l at_ why).2.2 ∧ w.grownBy w' (some R) := by
  generalize hw1 : (w.alloc (.cells #[.int .i64 0, .string ⟨#[]⟩, .string ⟨#[]⟩, .int .i64 0, .string ⟨#[]⟩, .int .i64 0, .int .i64 0] 23)).alloc (.cells #[.int .i64 0, .string ⟨#[]⟩, .string ⟨#[]⟩, .int .i64 0, .string ⟨#[]⟩, .int .i64 0, .int .i64 0] 23) = w1
  have f1 : Hid (Fill w w1 R l at_ why 23 #[.int .i64 0, .string ⟨#[]⟩, .string ⟨#[]⟩, .int .i64 0, .string ⟨#[]⟩, .int .i64 0, .int .i64 0] #[.int .i64 0, .string ⟨#[]⟩, .string ⟨#[]⟩, .int .i64 0, .string ⟨#[]⟩, .int .i64 0, .int .i64 0]) := by rw [← hw1]; exact Fill.start h _ _ _
  have HW : Hid _ := hw1
  have hV : Hid (rOpV l at_ why = ⟨zag (rOp1 l at_ why).1, textOf (rOp2 l at_ why).1, textOf (rOp3 l at_ why).1, zag (rOp4 l at_ why).1, textOf (rOp5 l at_ why).1, zag (rOp6 l at_ why).1, zag (rOp7 l at_ why).1⟩) := (rfl : _ = _)
  rw [hV.out]
  have C1 : Hid (∀ w', Rdr w' R l at_ why → Calls Try.prog 33 #[.pointer (some ⟨R, 0, none⟩)] w' fun e w'' => e = .returned (.int .i64 (zag (rOp1 l at_ why).1)) ∧ Rdr w'' R l (rOp1 l at_ why).2.1 (rOp1 l at_ why).2.2 ∧ w'.grownBy w'' (some R)) := fun w' h => by rw [rOp1]; exact rInt_any R l at_ why w' h
  have C2 : Hid (∀ w', Rdr w' R l (rOp1 l at_ why).2.1 (rOp1 l at_ why).2.2 → Calls Try.prog 65 #[.pointer (some ⟨R, 0, none⟩)] w' fun e w'' => e = .returned (.string (textOf (rOp2 l at_ why).1)) ∧ Rdr w'' R l (rOp2 l at_ why).2.1 (rOp2 l at_ why).2.2 ∧ w'.grownBy w'' (some R)) := fun w' h => by rw [rOp2]; exact rText_any R l (rOp1 l at_ why).2.1 (rOp1 l at_ why).2.2 w' h
  have C3 : Hid (∀ w', Rdr w' R l (rOp2 l at_ why).2.1 (rOp2 l at_ why).2.2 → Calls Try.prog 65 #[.pointer (some ⟨R, 0, none⟩)] w' fun e w'' => e = .returned (.string (textOf (rOp3 l at_ why).1)) ∧ Rdr w'' R l (rOp3 l at_ why).2.1 (rOp3 l at_ why).2.2 ∧ w'.grownBy w'' (some R)) := fun w' h => by rw [rOp3]; exact rText_any R l (rOp2 l at_ why).2.1 (rOp2 l at_ why).2.2 w' h
  have C4 : Hid (∀ w', Rdr w' R l (rOp3 l at_ why).2.1 (rOp3 l at_ why).2.2 → Calls Try.prog 33 #[.pointer (some ⟨R, 0, none⟩)] w' fun e w'' => e = .returned (.int .i64 (zag (rOp4 l at_ why).1)) ∧ Rdr w'' R l (rOp4 l at_ why).2.1 (rOp4 l at_ why).2.2 ∧ w'.grownBy w'' (some R)) := fun w' h => by rw [rOp4]; exact rInt_any R l (rOp3 l at_ why).2.1 (rOp3 l at_ why).2.2 w' h
  have C5 : Hid (∀ w', Rdr w' R l (rOp4 l at_ why).2.1 (rOp4 l at_ why).2.2 → Calls Try.prog 65 #[.pointer (some ⟨R, 0, none⟩)] w' fun e w'' => e = .returned (.string (textOf (rOp5 l at_ why).1)) ∧ Rdr w'' R l (rOp5 l at_ why).2.1 (rOp5 l at_ why).2.2 ∧ w'.grownBy w'' (some R)) := fun w' h => by rw [rOp5]; exact rText_any R l (rOp4 l at_ why).2.1 (rOp4 l at_ why).2.2 w' h
  have C6 : Hid (∀ w', Rdr w' R l (rOp5 l at_ why).2.1 (rOp5 l at_ why).2.2 → Calls Try.prog 33 #[.pointer (some ⟨R, 0, none⟩)] w' fun e w'' => e = .returned (.int .i64 (zag (rOp6 l at_ why).1)) ∧ Rdr w'' R l (rOp6 l at_ why).2.1 (rOp6 l at_ why).2.2 ∧ w'.grownBy w'' (some R)) := fun w' h => by rw [rOp6]; exact rInt_any R l (rOp5 l at_ why).2.1 (rOp5 l at_ why).2.2 w' h
  have C7 : Hid (∀ w', Rdr w' R l (rOp6 l at_ why).2.1 (rOp6 l at_ why).2.2 → Calls Try.prog 33 #[.pointer (some ⟨R, 0, none⟩)] w' fun e w'' => e = .returned (.int .i64 (zag (rOp7 l at_ why).1)) ∧ Rdr w'' R l (rOp7 l at_ why).2.1 (rOp7 l at_ why).2.2 ∧ w'.grownBy w'' (some R)) := fun w' h => by rw [rOp7]; exact rInt_any R l (rOp6 l at_ why).2.1 (rOp6 l at_ why).2.2 w' h
  generalize (rOp1 l at_ why).2.1 = p1 at *
  generalize (rOp1 l at_ why).2.2 = y1 at *
  generalize zag (rOp1 l at_ why).1 = k1 at *
  generalize (rOp2 l at_ why).2.1 = p2 at *
  generalize (rOp2 l at_ why).2.2 = y2 at *
  generalize textOf (rOp2 l at_ why).1 = s2 at *
  generalize (rOp3 l at_ why).2.1 = p3 at *
  generalize (rOp3 l at_ why).2.2 = y3 at *
  generalize textOf (rOp3 l at_ why).1 = s3 at *
  generalize (rOp4 l at_ why).2.1 = p4 at *
  generalize (rOp4 l at_ why).2.2 = y4 at *
  generalize zag (rOp4 l at_ why).1 = k4 at *
  generalize (rOp5 l at_ why).2.1 = p5 at *
  generalize (rOp5 l at_ why).2.2 = y5 at *
  generalize textOf (rOp5 l at_ why).1 = s5 at *
  generalize (rOp6 l at_ why).2.1 = p6 at *
  generalize (rOp6 l at_ why).2.2 = y6 at *
  generalize zag (rOp6 l at_ why).1 = k6 at *
  generalize (rOp7 l at_ why).2.1 = p7 at *
  generalize (rOp7 l at_ why).2.2 = y7 at *
  generalize zag (rOp7 l at_ why).1 = k7 at *
  clear h hw1 hV
  go_enter Try.func64, Try.ntmps64
  go_wp2_with fail
  rw [HW.out]
  refine (C1.out _ f1.out.rdr).mono ?_
  rintro e v1 ⟨rfl, r1, g1⟩
  have d1 : Hid (Fill w v1 R l p1 y1 23 #[.int .i64 0, .string ⟨#[]⟩, .string ⟨#[]⟩, .int .i64 0, .string ⟨#[]⟩, .int .i64 0, .int .i64 0] #[.int .i64 0, .string ⟨#[]⟩, .string ⟨#[]⟩, .int .i64 0, .string ⟨#[]⟩, .int .i64 0, .int .i64 0]) := f1.out.call r1 g1
  have c1 := (d1.out.cell 0).1
  have z1 := (d1.out.cell 0).2
  simp only [List.getElem?_toArray] at c1
  have f2 : Hid (Fill w (v1.setCell ⟨w.heap.size + 1, 0, none⟩ (.int .i64 k1)) R l p1 y1 23 #[.int .i64 0, .string ⟨#[]⟩, .string ⟨#[]⟩, .int .i64 0, .string ⟨#[]⟩, .int .i64 0, .int .i64 0] #[.int .i64 k1, .string ⟨#[]⟩, .string ⟨#[]⟩, .int .i64 0, .string ⟨#[]⟩, .int .i64 0, .int .i64 0]) := d1.out.store 0 _
  clear r1 g1 C1 f1 d1
  go_wp2_with fail
  refine (C2.out _ f2.out.rdr).mono ?_
  rintro e v2 ⟨rfl, r2, g2⟩
  have d2 : Hid (Fill w v2 R l p2 y2 23 #[.int .i64 0, .string ⟨#[]⟩, .string ⟨#[]⟩, .int .i64 0, .string ⟨#[]⟩, .int .i64 0, .int .i64 0] #[.int .i64 k1, .string ⟨#[]⟩, .string ⟨#[]⟩, .int .i64 0, .string ⟨#[]⟩, .int .i64 0, .int .i64 0]) := f2.out.call r2 g2
  have c2 := (d2.out.cell 1).1
  have z2 := (d2.out.cell 1).2
  simp only [List.getElem?_toArray] at c2
  have f3 : Hid (Fill w (v2.setCell ⟨w.heap.size + 1, 1, none⟩ (.string s2)) R l p2 y2 23 #[.int .i64 0, .string ⟨#[]⟩, .string ⟨#[]⟩, .int .i64 0, .string ⟨#[]⟩, .int .i64 0, .int .i64 0] #[.int .i64 k1, .string s2, .string ⟨#[]⟩, .int .i64 0, .string ⟨#[]⟩, .int .i64 0, .int .i64 0]) := d2.out.store 1 _
  clear r2 g2 C2 f2 d2
  go_wp2_with fail
  refine (C3.out _ f3.out.rdr).mono ?_
  rintro e v3 ⟨rfl, r3, g3⟩
  have d3 : Hid (Fill w v3 R l p3 y3 23 #[.int .i64 0, .string ⟨#[]⟩, .string ⟨#[]⟩, .int .i64 0, .string ⟨#[]⟩, .int .i64 0, .int .i64 0] #[.int .i64 k1, .string s2, .string ⟨#[]⟩, .int .i64 0, .string ⟨#[]⟩, .int .i64 0, .int .i64 0]) := f3.out.call r3 g3
  have c3 := (d3.out.cell 2).1
  have z3 := (d3.out.cell 2).2
  simp only [List.getElem?_toArray] at c3
  have f4 : Hid (Fill w (v3.setCell ⟨w.heap.size + 1, 2, none⟩ (.string s3)) R l p3 y3 23 #[.int .i64 0, .string ⟨#[]⟩, .string ⟨#[]⟩, .int .i64 0, .string ⟨#[]⟩, .int .i64 0, .int .i64 0] #[.int .i64 k1, .string s2, .string s3, .int .i64 0, .string ⟨#[]⟩, .int .i64 0, .int .i64 0]) := d3.out.store 2 _
  clear r3 g3 C3 f3 d3
  go_wp2_with fail
  refine (C4.out _ f4.out.rdr).mono ?_
  rintro e v4 ⟨rfl, r4, g4⟩
  have d4 : Hid (Fill w v4 R l p4 y4 23 #[.int .i64 0, .string ⟨#[]⟩, .string ⟨#[]⟩, .int .i64 0, .string ⟨#[]⟩, .int .i64 0, .int .i64 0] #[.int .i64 k1, .string s2, .string s3, .int .i64 0, .string ⟨#[]⟩, .int .i64 0, .int .i64 0]) := f4.out.call r4 g4
  have c4 := (d4.out.cell 3).1
  have z4 := (d4.out.cell 3).2
  simp only [List.getElem?_toArray] at c4
  have f5 : Hid (Fill w (v4.setCell ⟨w.heap.size + 1, 3, none⟩ (.int .i64 k4)) R l p4 y4 23 #[.int .i64 0, .string ⟨#[]⟩, .string ⟨#[]⟩, .int .i64 0, .string ⟨#[]⟩, .int .i64 0, .int .i64 0] #[.int .i64 k1, .string s2, .string s3, .int .i64 k4, .string ⟨#[]⟩, .int .i64 0, .int .i64 0]) := d4.out.store 3 _
  clear r4 g4 C4 f4 d4
  go_wp2_with fail
  refine (C5.out _ f5.out.rdr).mono ?_
  rintro e v5 ⟨rfl, r5, g5⟩
  have d5 : Hid (Fill w v5 R l p5 y5 23 #[.int .i64 0, .string ⟨#[]⟩, .string ⟨#[]⟩, .int .i64 0, .string ⟨#[]⟩, .int .i64 0, .int .i64 0] #[.int .i64 k1, .string s2, .string s3, .int .i64 k4, .string ⟨#[]⟩, .int .i64 0, .int .i64 0]) := f5.out.call r5 g5
  have c5 := (d5.out.cell 4).1
  have z5 := (d5.out.cell 4).2
  simp only [List.getElem?_toArray] at c5
  have f6 : Hid (Fill w (v5.setCell ⟨w.heap.size + 1, 4, none⟩ (.string s5)) R l p5 y5 23 #[.int .i64 0, .string ⟨#[]⟩, .string ⟨#[]⟩, .int .i64 0, .string ⟨#[]⟩, .int .i64 0, .int .i64 0] #[.int .i64 k1, .string s2, .string s3, .int .i64 k4, .string s5, .int .i64 0, .int .i64 0]) := d5.out.store 4 _
  clear r5 g5 C5 f5 d5
  go_wp2_with fail
  refine (C6.out _ f6.out.rdr).mono ?_
  rintro e v6 ⟨rfl, r6, g6⟩
  have d6 : Hid (Fill w v6 R l p6 y6 23 #[.int .i64 0, .string ⟨#[]⟩, .string ⟨#[]⟩, .int .i64 0, .string ⟨#[]⟩, .int .i64 0, .int .i64 0] #[.int .i64 k1, .string s2, .string s3, .int .i64 k4, .string s5, .int .i64 0, .int .i64 0]) := f6.out.call r6 g6
  have c6 := (d6.out.cell 5).1
  have z6 := (d6.out.cell 5).2
  simp only [List.getElem?_toArray] at c6
  have f7 : Hid (Fill w (v6.setCell ⟨w.heap.size + 1, 5, none⟩ (.int .i64 k6)) R l p6 y6 23 #[.int .i64 0, .string ⟨#[]⟩, .string ⟨#[]⟩, .int .i64 0, .string ⟨#[]⟩, .int .i64 0, .int .i64 0] #[.int .i64 k1, .string s2, .string s3, .int .i64 k4, .string s5, .int .i64 k6, .int .i64 0]) := d6.out.store 5 _
  clear r6 g6 C6 f6 d6
  go_wp2_with fail
  refine (C7.out _ f7.out.rdr).mono ?_
  rintro e v7 ⟨rfl, r7, g7⟩
  have d7 : Hid (Fill w v7 R l p7 y7 23 #[.int .i64 0, .string ⟨#[]⟩, .string ⟨#[]⟩, .int .i64 0, .string ⟨#[]⟩, .int .i64 0, .int .i64 0] #[.int .i64 k1, .string s2, .string s3, .int .i64 k4, .string s5, .int .i64 k6, .int .i64 0]) := f7.out.call r7 g7
  have c7 := (d7.out.cell 6).1
  have z7 := (d7.out.cell 6).2
  simp only [List.getElem?_toArray] at c7
  have f8 : Hid (Fill w (v7.setCell ⟨w.heap.size + 1, 6, none⟩ (.int .i64 k7)) R l p7 y7 23 #[.int .i64 0, .string ⟨#[]⟩, .string ⟨#[]⟩, .int .i64 0, .string ⟨#[]⟩, .int .i64 0, .int .i64 0] #[.int .i64 k1, .string s2, .string s3, .int .i64 k4, .string s5, .int .i64 k6, .int .i64 k7]) := d7.out.store 6 _
  clear r7 g7 C7 f7 d7
  obtain ⟨wl, hwl⟩ : ∃ wl, v7.setCell ⟨w.heap.size + 1, 6, none⟩ (.int .i64 k7) = wl := ⟨_, rfl⟩
  rw [hwl] at f8
  have n0 : wl.cell? ⟨w.heap.size + 1, 0, none⟩ = some (.int .i64 k1) := (f8.out.cell 0).1
  have o0 : wl.cell? ⟨w.heap.size, 0, none⟩ = some (.int .i64 0) := by simp [World.cell?, f8.out.old]
  have n1 : wl.cell? ⟨w.heap.size + 1, 1, none⟩ = some (.string s2) := (f8.out.cell 1).1
  have o1 : wl.cell? ⟨w.heap.size, 1, none⟩ = some (.string ⟨#[]⟩) := by simp [World.cell?, f8.out.old]
  have n2 : wl.cell? ⟨w.heap.size + 1, 2, none⟩ = some (.string s3) := (f8.out.cell 2).1
  have o2 : wl.cell? ⟨w.heap.size, 2, none⟩ = some (.string ⟨#[]⟩) := by simp [World.cell?, f8.out.old]
  have n3 : wl.cell? ⟨w.heap.size + 1, 3, none⟩ = some (.int .i64 k4) := (f8.out.cell 3).1
  have o3 : wl.cell? ⟨w.heap.size, 3, none⟩ = some (.int .i64 0) := by simp [World.cell?, f8.out.old]
  have n4 : wl.cell? ⟨w.heap.size + 1, 4, none⟩ = some (.string s5) := (f8.out.cell 4).1
  have o4 : wl.cell? ⟨w.heap.size, 4, none⟩ = some (.string ⟨#[]⟩) := by simp [World.cell?, f8.out.old]
  have n5 : wl.cell? ⟨w.heap.size + 1, 5, none⟩ = some (.int .i64 k6) := (f8.out.cell 5).1
  have o5 : wl.cell? ⟨w.heap.size, 5, none⟩ = some (.int .i64 0) := by simp [World.cell?, f8.out.old]
  have n6 : wl.cell? ⟨w.heap.size + 1, 6, none⟩ = some (.int .i64 k7) := (f8.out.cell 6).1
  have o6 : wl.cell? ⟨w.heap.size, 6, none⟩ = some (.int .i64 0) := by simp [World.cell?, f8.out.old]
  have oz : ∀ i, wl.frozen? ⟨w.heap.size, i, none⟩ = false := fun i => by simp [World.frozen?, f8.out.old]
  go_wp2_with fail
  have ff := (((((((f8.out.put 0 (.int .i64 k1)).put 1 (.string s2)).put 2 (.string s3)).put 3 (.int .i64 k4)).put 4 (.string s5)).put 5 (.int .i64 k6)).put 6 (.int .i64 k7))
  exact bodyPost_ret (results_cell_row rfl _ _ w.heap.size 23 _ _ _ rfl ff.old Try.underlying23 rfl (by kernel_rfl)) rfl ⟨rfl, ff.rdr, ff.grown⟩
end Go.Proofs.Ytogbcciocgpknaa
