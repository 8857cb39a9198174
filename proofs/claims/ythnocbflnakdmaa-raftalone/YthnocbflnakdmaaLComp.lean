/- Package rlog: behind, Compact, Cut, Copy. -/
import Derived.Test.YthnocbflnakdmaaLPart
namespace Go.Proofs.Ythnocbflnakdmaa
open Go.RowKit
attribute [local go_sem] Oper.semAt_some
set_option linter.unusedVariables false

section
variable {w : World} {base N : Nat} {B T : Int} {sv : Value} {L : List EntV}
set_option maxRecDepth 100000 in
set_option maxHeartbeats 1600000 in
theorem behind_base (h : LogIn w base N B T sv L) (t : Int) : Calls Try.prog 55 #[.pointer (some ⟨N, 0, none⟩), baseP t] w fun e w' => Below w.heap.size w w' ∧ ∃ a c, e = .returned (.slice a L.length c) ∧ RawAt w' a L ∧ (a = none → c = 0) := by
  have i0 := as_base
  have bA := (Below.refl _ w).alloc (Nat.le_refl _) (.cells #[.int .i64 t] 110)
  have k2 := (h.below bA).c2
  obtain ⟨a, c, e, r, hn, _⟩ := row_raw (h.below bA).row
  rw [e] at k2
  have BA : Hid (Below w.heap.size w (w.alloc (.cells #[.int .i64 t] 110))) := bA
  have R : Hid (RawAt (w.alloc (.cells #[.int .i64 t] 110)) a L) := r
  have HN : Hid (a = none → c = 0) := hn
  clear h bA e r hn
  unfold baseP
  go_enter Try.func55, Try.ntmps55
  go_wp2
  go_ret
  exact ⟨BA.out, a, c, rfl, R.out, HN.out⟩
theorem RawAt.drop {w : World} {g k : Nat} {ax : Addr} {es : List EntV} (h : RawAt w (some ⟨g, 0, none⟩) es) (ha : k < es.length → ax = ⟨g, k * 2, none⟩) : RawAt w (some ax) (es.drop k) := by
  rcases Nat.lt_or_ge k es.length with hlt | hge
  · rcases h with h0 | ⟨b, off, e, hc⟩
    · omega
    · cases e
      refine .inr ⟨g, k * 2, by rw [ha hlt], fun j hj => ?_⟩
      have hj' : k + j < es.length := by rw [List.length_drop] at hj; omega
      have := hc (k + j) hj'
      rw [show k * 2 + j * 2 = 0 + (k + j) * 2 by omega]
      simp only [List.getElem_drop]
      exact this
  · exact .inl (by rw [List.length_drop]; omega)
set_option maxRecDepth 100000 in
set_option maxHeartbeats 1600000 in
theorem behind_entry (h : LogIn w base N B T sv L) (k : Nat) (hk : k < L.length) (t : Int) : Calls Try.prog 55 #[.pointer (some ⟨N, 0, none⟩), entP k t] w fun e w' => Below w.heap.size w w' ∧ ∃ a c, e = .returned (.slice a (L.length - (k + 1)) c) ∧ RawAt w' a (L.drop (k + 1)) ∧ (a = none → c = 0) := by
  have i0 := as_base_entry
  have i1 := as_entry
  have bA := (Below.refl _ w).alloc (Nat.le_refl _) (.cells #[.int .i64 (k : Int), .int .i64 t] 108)
  have k2 := (h.below bA).c2
  obtain ⟨a, c, e, r, hn, hnc, hcm⟩ := row_raw (h.below bA).row
  obtain ⟨g, c', e', z1, z2⟩ := row_at h.row hk
  clear z1 z2
  rw [e] at e' k2
  cases e'
  have hl := h.len
  have BA : Hid (Below w.heap.size w (w.alloc (.cells #[.int .i64 (k : Int), .int .i64 t] 108))) := bA
  obtain ⟨ax, hx⟩ : ∃ ax, (if c = k + 1 then some (⟨g, 0, none⟩ : Addr) else some ⟨g, (k + 1) * 2, none⟩) = some ax := by split <;> exact ⟨_, rfl⟩
  have R : Hid (RawAt (w.alloc (.cells #[.int .i64 (k : Int), .int .i64 t] 108)) (some ax) (L.drop (k + 1))) := r.drop (fun hlt => by
    rw [if_neg (by omega)] at hx
    exact (Option.some.inj hx).symm)
  clear h bA e r hn
  generalize L.length = n at *
  have q1 : ((k + 1 : Nat) : Int) ≤ (n : Int) := by omega
  have q2 : n ≤ c := hnc
  have q4 : (n : Int) ≤ (c : Int) := by omega
  have q5 : ((k + 1 : Nat) : Int) ≤ (c : Int) := by omega
  have q6 : k + 1 ≤ n := by omega
  have q8 : k + 1 ≤ c := by omega
  have q7 : k < 4096 := by omega
  have q9 : (k : Int) + 1 ≤ (n : Int) := by omega
  unfold entP
  go_enter Try.func55, Try.ntmps55
  go_wp2
  go_quiet (fail)
  go_wp2
  go_ret
  exact ⟨below_drewN' BA.out _, some ax, c - (k + 1), rfl, R.out.below (below_drewN' (Below.refl _ _) _), fun e => by cases e⟩
set_option maxRecDepth 100000 in
set_option maxHeartbeats 1600000 in
theorem copy_any (h : LogIn w base N B T sv L) : Calls Try.prog 35 #[.pointer (some ⟨N, 0, none⟩)] w fun e w' => ∃ N' sv', e = .returned (.pointer (some ⟨N', 0, none⟩)) ∧ LogIn w' w.heap.size N' B T sv' L ∧ Below w.heap.size w w' := by
  have c0 := h.c0
  have c1 := h.c1
  have c2 := h.c2
  obtain ⟨a, c, e, r, hn, hnc, hcm⟩ := row_raw h.row
  rw [e] at c2
  have HC : Hid (Calls Try.prog 54 #[.slice a L.length c] w.drew fun e w' => ∃ a' c', e = .returned (.slice a' L.length c') ∧ w'.ownsRow w.heap.size 52 2 (.slice a' L.length c') L.length (entCells L) ∧ Below w.heap.size w w') := by
    refine (cloneE_any a L.length c L w.drew rfl (r.below (Below.refl _ _).drew) (fun e he => (h.dat e he).1.one) hn (by have := h.len; omega)).mono ?_
    rintro e w' ⟨v, rfl, o, b⟩
    obtain ⟨a', c', hv, _⟩ := row_form o
    rw [hv] at o ⊢
    exact ⟨a', c', rfl, o, ⟨b.os, b.tape, b.output, b.size, b.block⟩⟩
  have H : Hid (LogIn w base N B T sv L) := h
  clear h e r hn hnc hcm
  go_enter Try.func35, Try.ntmps35
  go_wp2
  go_region_law (go_simp; go_at_call 54; refine HC.out.mono ?_; rintro e w2 ⟨a2, cc, rfl, o2, b2⟩; have y0 := (H.out.below b2).c0; have y1 := (H.out.below b2).c1)
  all_goals
    have hh := H.out
    have b3 := b2.alloc b2.size (.cells #[.int .i64 B, .int .i64 T, .slice a2 L.length cc] 92)
    have l3 : LogIn (w2.alloc (.cells #[.int .i64 B, .int .i64 T, .slice a2 L.length cc] 92)) w.heap.size w2.heap.size B T (.slice a2 L.length cc) L :=
      ⟨heap_alloc_new w2 _, o2.alloc _, fun e he => (hh.dat e he).below b3, b2.size, hh.len, hh.bB, hh.bT, hh.bE⟩
    go_wp2
    go_ret
    exact ⟨_, _, rfl, l3, b3⟩
end
end Go.Proofs.Ythnocbflnakdmaa
