/- What sized, Bytes and Text of a Reader do. -/
import Derived.Test.YtaakdnbaljoehaaReads
import Derived.Test.YtaakdnbaljoehaaKnownC
namespace Go.Proofs.Ytaakdnbaljoehaa
open Go.RowKit Cod
set_option linter.unusedVariables false

theorem rC_ok {l : List (BitVec 8)} {most : Int} {at_ why n a1 : Nat} (hat : at_ ≤ l.length) (h : rC l most at_ why = (n, a1, 0)) : l ≠ [] ∧ a1 + n ≤ l.length ∧ (n : Int) ≤ most ∧ rU l at_ why = (n, a1, 0) := by
  unfold rC at h
  split at h
  · rename_i h1
    exact absurd (congrArg (fun t => t.2.2) h) h1
  · split at h
    · cases h
    · split at h
      · cases h
      · rename_i h1 h2 h3
        rw [h] at h1 h2 h3
        have h4 := rU_at l at_ why hat
        rw [h] at h4
        simp only at h1 h2 h3 h4
        refine ⟨fun e => ?_, by omega, by omega, h⟩
        subst e
        by_cases hy : why = 0
        · subst hy
          simp [rU, num] at h
        · rw [rU, if_neg hy] at h
          exact hy (congrArg (fun t => t.2.2) h)
set_option maxHeartbeats 800000 in
theorem rSized_any (R : Nat) (l : List (BitVec 8)) (at_ why : Nat) (w : World) (h : Rdr w R l at_ why) :
    Calls Try.prog 83 #[.pointer (some ⟨R, 0, none⟩)] w fun e w' => ∃ a n cap, e = .returned (.slice a n cap) ∧ Seen w' a n (rS l at_ why).1 ∧ (a = none → cap = 0) ∧ n ≤ 65536 ∧ Rdr w' R l (rS l at_ why).2.1 (rS l at_ why).2.2 ∧ w.grownBy w' (some R) := by
  have HC := rCount_any R l 65536 (by omega) at_ why w h
  have hle := h.le
  obtain ⟨n, a1, y1, hr⟩ : ∃ n a1 y1, rC l 65536 at_ why = (n, a1, y1) := ⟨_, _, _, rfl⟩
  rw [hr] at HC
  simp only at HC
  by_cases hy : y1 = 0
  · subst hy
    obtain ⟨hl, han, hn, _⟩ := rC_ok hle.1 hr
    have hv : rS l at_ why = ((l.drop a1).take n, a1 + n, 0) := by simp [rS, hr]
    rw [hv]
    simp only
    have hmx := hle.2
    clear h hle hv hr
    go_enter Try.func83, Try.ntmps83
    go_wp2_with fail
    refine HC.mono ?_
    rintro e w2 ⟨rfl, r2, g2⟩
    have R2 : Hid (Rdr w2 R l a1 0) := r2
    have G2 : Hid _ := g2
    obtain ⟨aa, cap, hh, hs, hnil, hk, hne, hat, hm⟩ := r2
    obtain ⟨b, off, rfl⟩ : ∃ b off, aa = some ⟨b, off, none⟩ := by
      rcases hs.2.2 with h3 | ⟨b, off, rfl, _⟩
      · exact absurd (List.eq_nil_of_length_eq_zero h3) hl
      · exact ⟨b, off, rfl⟩
    have c0 : w2.cell? ⟨R, 0, none⟩ = some (.slice (some ⟨b, off, none⟩) l.length cap) := by simp [World.cell?, hh]
    have c1 : w2.cell? ⟨R, 1, none⟩ = some (.int .i64 a1) := by simp [World.cell?, hh]
    have f1 : w2.frozen? ⟨R, 1, none⟩ = false := by simp [World.frozen?, hh]
    have cb3 : ∀ v, (w2.setCell ⟨R, 1, none⟩ v).cell? ⟨R, 0, none⟩ = some (.slice (some ⟨b, off, none⟩) l.length cap) := fun v => by rw [cell_set_far _ _ _ _ (by simp)]; exact c0
    obtain ⟨a3, hx3⟩ : ∃ a3, (if cap = a1 then some (⟨b, off, none⟩ : Addr) else some ⟨b, off + a1, none⟩) = a3 := ⟨_, rfl⟩
    have hx3' : (if cap = a1 then some (⟨b, off, none⟩ : Addr) else some ((⟨b, off, none⟩ : Addr).add a1)) = a3 := by rw [Addr.add_lit]; exact hx3
    have S3 : Hid (Seen w2 a3 n ((l.drop a1).take n)) := by
      have := (hs.drop a1 cap (by omega) hk).take n (by omega)
      rw [hx3'] at this
      exact this
    have N3 : Hid (a3 ≠ none) := by show a3 ≠ none; rw [← hx3]; split <;> simp
    have HNE : Hid (∀ x, a3 = some x → x.block < R) := by
      intro x hx
      have := hne hl ⟨b, off, none⟩ rfl
      rw [← hx3] at hx
      split at hx <;> (cases hx; exact this)
    have HAN : Hid _ := han
    have HN : Hid _ := hn
    clear hs hnil hne hat hm hh HC
    go_wp2_with fail
    refine (reads_any R l a1 0 w2 R2.out).mono ?_
    rintro e w3 ⟨rfl, rfl⟩
    go_wp2
    go_quiet (fail)
    go_wp2
    go_ret
    rw [← Int.natCast_add]
    have p1 := Rdr.put1 R2.out 0 (a1 + n) HAN.out
    have p2 := grown_drewN ((grown_set w3 ⟨R, 1, none⟩ (.int .i64 ((a1 + n : Nat) : Int)))) nq
    refine ⟨a3, a1 + n - a1, cap - a1, rfl, ?_, fun e => absurd e N3.out, ?_, p1.1, G2.out.trans p2⟩
    · rw [Nat.add_sub_cancel_left]
      exact S3.out.grown p2 (fun _ => HNE.out)
    · have := HN.out
      omega
  · have hv : rS l at_ why = ([], a1, y1) := by simp [rS, hr, hy]
    rw [hv]
    simp only
    have hy' : ((y1 : Int) == 0) = false := by simp; omega
    clear h hle hv hr hy
    go_enter Try.func83, Try.ntmps83
    go_wp2_with fail
    refine HC.mono ?_
    rintro e w2 ⟨rfl, r2, g2⟩
    have R2 : Hid (Rdr w2 R l a1 y1) := r2
    have G2 : Hid _ := g2
    clear r2 g2 HC
    go_wp2_with fail
    refine (reads_any R l a1 y1 w2 R2.out).mono ?_
    rintro e w3 ⟨rfl, rfl⟩
    go_wp2
    go_ret
    exact ⟨none, 0, 0, rfl, ⟨rfl, by simp, .inl rfl⟩, fun _ => rfl, by omega, R2.out, G2.out⟩
/-- (*Reader).Text -/
theorem rText_any (R : Nat) (l : List (BitVec 8)) (at_ why : Nat) (w : World) (h : Rdr w R l at_ why) :
    Calls Try.prog 80 #[.pointer (some ⟨R, 0, none⟩)] w fun e w' => e = .returned (.string (textOf (rS l at_ why).1)) ∧ Rdr w' R l (rS l at_ why).2.1 (rS l at_ why).2.2 ∧ w.grownBy w' (some R) := by
  have HC := rSized_any R l at_ why w h
  clear h
  generalize rS l at_ why = t at *
  go_enter Try.func80, Try.ntmps80
  go_wp2_with fail
  refine HC.mono ?_
  rintro e w1 ⟨a, n, cap, rfl, s1, m1, k1, r1, g1⟩
  have t1 := run_to_text w1 a n cap _ s1
  have R1 : Hid (Rdr w1 R l t.2.1 t.2.2) := r1
  have G1 : Hid _ := g1
  clear HC s1 m1 k1 r1 g1
  go_wp2
  go_ret
  exact ⟨rfl, R1.out, G1.out⟩
/-- (*Reader).Bytes: in memory of its own -/
theorem rBytes_any (R : Nat) (l : List (BitVec 8)) (at_ why : Nat) (w : World) (h : Rdr w R l at_ why) :
    Calls Try.prog 69 #[.pointer (some ⟨R, 0, none⟩)] w fun e w' => ∃ v, e = .returned v ∧ w'.ownsRow w.heap.size 5 1 v (rS l at_ why).1.length (cellsOf (rS l at_ why).1) ∧ (rS l at_ why).1.length ≤ 65536 ∧ Rdr w' R l (rS l at_ why).2.1 (rS l at_ why).2.2 ∧ w.grownBy w' (some R) := by
  have HC := rSized_any R l at_ why w h
  clear h
  generalize rS l at_ why = t at *
  go_enter Try.func69, Try.ntmps69
  go_wp2_with fail
  refine HC.mono ?_
  rintro e w1 ⟨a, n, cap, rfl, s1, m1, k1, r1, g1⟩
  obtain rfl : n = t.1.length := s1.1
  have HCl := clone_any a _ cap t.1 w1 s1 m1 (by omega)
  have R1 : Hid (Rdr w1 R l t.2.1 t.2.2) := r1
  have G1 : Hid _ := g1
  have K1 : Hid _ := k1
  clear HC s1 m1 k1 r1 g1
  go_wp2_with fail
  refine HCl.mono ?_
  rintro e w2 ⟨v, rfl, o2, b2⟩
  have O2 : Hid _ := o2
  have B2 : Hid _ := b2
  clear HCl o2 b2
  go_wp2
  go_ret
  have sz1 := G1.out.size
  exact ⟨_, rfl, owns_mono O2.out sz1, K1.out, Rdr.below R1.out B2.out, G1.out.trans ⟨B2.out.os, B2.out.tape, B2.out.output, B2.out.size, fun k hk _ => B2.out.block k hk⟩⟩
end Go.Proofs.Ytaakdnbaljoehaa
