/- Package rlog: Compact, Cut. -/
import Derived.Test.YtikedglcicgdhaaLComp
namespace Go.Proofs.Ytikedglcicgdhaa
open Go.RowKit
attribute [local go_sem] Oper.semAt_some
set_option linter.unusedVariables false

section
variable {w : World} {base N : Nat} {B T : Int} {sv : Value} {L : List EntV}
set_option maxRecDepth 100000 in
set_option maxHeartbeats 1600000 in
theorem compact_none (h : LogIn w base N B T sv L) (at_ : Int) (hhi : at_ ≤ 9223372036854775807) (ht : stand B T L at_ = none) : Calls Try.prog 14 #[.pointer (some ⟨N, 0, none⟩), .int .i64 at_] w fun e w' => e = .returned (.int .i64 1) ∧ Below w.heap.size w w' := by
  have HS := stands_any h at_ hhi
  unfold PlaceAt at HS
  rw [ht] at HS
  have e0 := eql_nil
  clear h ht hhi
  go_enter Try.func14, Try.ntmps14
  go_wp2_with fail
  refine HS.mono ?_
  rintro e w1 ⟨pv, rfl, b1, hp⟩
  clear HS
  have hp' : pv = .nilIface := hp
  rw [hp']
  clear hp hp'
  go_wp2
  go_ret
  exact ⟨rfl, b1⟩
/-- The log behind Compact. -/
theorem LogIn.compacted {w2 : World} {sv2 : Value} {L2 : List EntV} (h : LogIn w base N B T sv L) (b : Below w.heap.size w w2) (o2 : w2.ownsRow w.heap.size 50 2 sv2 L2.length (entCells L2)) (hs : ∀ e ∈ L2, e ∈ L) (hl : L2.length ≤ 4096) {w3 : World} (b3 : Below w2.heap.size (w2.setCell ⟨N, 2, none⟩ sv2) w3) (B' T' : Int) (hB : 0 ≤ B' ∧ B' ≤ 2305843009213693952) (hT : 0 ≤ T' ∧ T' ≤ 1152921504606846976) :
    LogIn ((w3.setCell ⟨N, 0, none⟩ (.int .i64 B')).setCell ⟨N, 1, none⟩ (.int .i64 T')) base N B' T' sv2 L2 ∧ Chg w ((w3.setCell ⟨N, 0, none⟩ (.int .i64 B')).setCell ⟨N, 1, none⟩ (.int .i64 T')) N sv.ownBlock ∧ (∀ k, sv2.ownBlock = some k → w.heap.size ≤ k) := by
  have n2 := (b.block N h.ltN).trans h.hN
  have n3 := set_block n2 2 sv2
  have lt2 : N < w2.heap.size := Nat.lt_of_lt_of_le h.ltN b.size
  have sz : (w2.setCell ⟨N, 2, none⟩ sv2).heap.size = w2.heap.size := by simp
  have n4 := (b3.block N lt2).trans n3
  have n5 := set_block (set_block n4 0 (.int .i64 B')) 1 (.int .i64 T')
  obtain ⟨wf, ef⟩ : ∃ wf, (w3.setCell ⟨N, 0, none⟩ (.int .i64 B')).setCell ⟨N, 1, none⟩ (.int .i64 T') = wf := ⟨_, rfl⟩
  have ot : ∀ k, k < w2.heap.size → k ≠ N → wf.heap[k]? = w2.heap[k]? := fun k hk hn => by
    rw [← ef, Below.heap_setCell _ _ _ _ (show k ≠ N from hn), Below.heap_setCell _ _ _ _ (show k ≠ N from hn), b3.block k hk, Below.heap_setCell _ _ _ _ (show k ≠ N from hn)]
  rw [ef] at n5 ⊢
  refine ⟨⟨n5, ?_, fun e he => ?_, h.bN, hl, hB, hT, fun e he => h.bE e (hs e he)⟩, ?_, fun k e => (row_kind o2 e).1⟩
  · have o3 : w2.ownsRow base 50 2 sv2 L2.length (entCells L2) := ⟨o2.1, o2.2.imp id (by rintro ⟨g, cap, cur, e1, e2, e3⟩; exact ⟨g, cap, cur, e1, Nat.le_trans h.size e2, e3⟩)⟩
    refine owns_kept o3 (fun g e => ?_)
    obtain ⟨q1, q2, _⟩ := row_kind o2 e
    exact ot g q2 (by have := h.ltN; omega)
  · refine ((h.dat e (hs e he)).below b).keep fun g hg => ?_
    obtain ⟨cs, z, eg⟩ := hg
    refine ot g (Array.getElem?_eq_some_iff.1 eg).1 (fun x => ?_)
    subst x
    rw [n2] at eg
    injection eg with eg
    injection eg with _ e3
    exact absurd e3 (by decide)
  · refine ⟨?_, ?_, ?_, ?_, fun k hk hn _ => ?_⟩
    · rw [← ef]; exact b3.os.trans b.os
    · rw [← ef]; exact b3.tape.trans b.tape
    · rw [← ef]; exact b3.output.trans b.output
    · rw [← ef]
      have := b3.size
      have := b.size
      simp at *
      omega
    · rw [ot k (Nat.lt_of_lt_of_le hk b.size) hn]
      exact b.block k hk
set_option maxRecDepth 100000 in
set_option maxHeartbeats 1600000 in
theorem compact_ok (h : LogIn w base N B T sv L) (at_ : Int) (hhi : at_ ≤ 2305843009213693952) (t : Int) (ht : stand B T L at_ = some t) : Calls Try.prog 14 #[.pointer (some ⟨N, 0, none⟩), .int .i64 at_] w fun e w' => e = .returned (.int .i64 0) ∧ ∃ sv', LogIn w' base N at_ t sv' (L.drop (at_ - B).toNat) ∧ Chg w w' N sv.ownBlock ∧ (∀ k, sv'.ownBlock = some k → w.heap.size ≤ k) := by
  have hB := h.bB
  have HS : Calls Try.prog 26 #[.pointer (some ⟨N, 0, none⟩), .int .i64 at_] w fun e w' => Below w.heap.size w w' ∧ ((e = .returned (baseP t) ∧ (at_ - B).toNat = 0) ∨ ∃ k : Nat, k < L.length ∧ e = .returned (entP k t) ∧ (at_ - B).toNat = k + 1) := by
    rcases stand_cases B T L at_ with ⟨rfl, h1⟩ | ⟨k, hk, h2, h1⟩ | ⟨h2, h1⟩
    · refine (stands_base h).mono ?_
      rintro e w' ⟨rfl, b⟩
      rw [h1] at ht
      cases ht
      exact ⟨b, .inl ⟨rfl, by omega⟩⟩
    · refine (stands_entry h k hk at_ h2).mono ?_
      rintro e w' ⟨rfl, b⟩
      rw [h1] at ht
      cases ht
      exact ⟨b, .inr ⟨k, hk, rfl, by omega⟩⟩
    · rw [h1] at ht
      cases ht
  have hat0 : 0 ≤ at_ := by
    rcases stand_cases B T L at_ with ⟨rfl, h1⟩ | ⟨k, hk, h2, h1⟩ | ⟨h2, h1⟩
    · exact hB.1
    · omega
    · rw [h1] at ht; cases ht
  have hT : 0 ≤ t ∧ t ≤ 1152921504606846976 := by
    rcases stand_cases B T L at_ with ⟨rfl, h1⟩ | ⟨k, hk, h2, h1⟩ | ⟨h2, h1⟩
    · rw [h1] at ht; cases ht; exact h.bT
    · rw [h1] at ht; cases ht; have := h.bE _ (List.getElem_mem hk); omega
    · rw [h1] at ht; cases ht
  have H : Hid (LogIn w base N B T sv L) := h
  have HT : Hid (0 ≤ t ∧ t ≤ 1152921504606846976) := hT
  have HA : Hid (0 ≤ at_ ∧ at_ ≤ 2305843009213693952) := ⟨hat0, hhi⟩
  have HL : Hid (L.length ≤ 4096) := h.len
  have i0 := inv_base
  have e0 := eql_base
  have i1 := inv_entry
  have e1 := eql_entry
  clear h hB hat0 hT hhi ht
  go_enter Try.func14, Try.ntmps14
  go_wp2_with fail
  refine HS.mono ?_
  clear HS
  rintro e w1 ⟨b1, (⟨rfl, hj⟩ | ⟨k, hk, rfl, hj⟩)⟩
  · have HB := behind_base (H.out.below b1) t
    have HJ : Hid ((at_ - B).toNat = 0) := hj
    clear hj
    unfold baseP at HB ⊢
    go_wp2_with fail
    refine HB.mono ?_
    clear HB
    rintro e w2 ⟨b2, a2, c2, rfl, r2, n2⟩
    have HC := cloneE_any a2 L.length c2 L w2 rfl r2 (fun e he => (H.out.dat e he).1.one) n2 (by have := HL.out; omega)
    clear r2 n2
    go_wp2_with fail
    refine HC.mono ?_
    clear HC
    rintro e w3 ⟨v, rfl, o3, b3⟩
    obtain ⟨a3, c3, hv, _⟩ := row_form o3
    rw [hv] at o3 ⊢
    clear hv
    have bb := (b1.trans (b2.mono b1.size)).trans (b3.mono (b1.trans (b2.mono b1.size)).size)
    have x2 := (H.out.below bb).c2
    have z2 := (H.out.below bb).fz 2
    have o4 : w3.ownsRow w.heap.size 50 2 (.slice a3 L.length c3) L.length (entCells L) := ⟨o3.1, o3.2.imp id (by rintro ⟨g, cap, cur, e1, e2, e3⟩; exact ⟨g, cap, cur, e1, Nat.le_trans (b1.trans (b2.mono b1.size)).size e2, e3⟩)⟩
    have O4 : Hid _ := o4
    have BB : Hid _ := bb
    have n3 := set_block (((bb.block N H.out.ltN).trans H.out.hN)) 2 (.slice a3 L.length c3)
    have N3 : Hid _ := n3
    have lt3 : Hid (N < w3.heap.size) := Nat.lt_of_lt_of_le H.out.ltN bb.size
    clear o3 b3 b2 bb o4 n3
    go_wp2_with fail
    refine (term_base t _).mono ?_
    rintro e w4 ⟨rfl, hw4⟩
    have b4 : Below w3.heap.size (w3.setCell ⟨N, 2, none⟩ (.slice a3 L.length c3)) w4 := by
      rw [hw4]
      exact (Below.refl _ _).alloc (by simp) _
    have n4 := (b4.block N lt3.out).trans N3.out
    have y0 : w4.cell? ⟨N, 0, none⟩ = some (.int .i64 B) := by simp [World.cell?, n4]
    have f0 : w4.frozen? ⟨N, 0, none⟩ = false := by simp [World.frozen?, n4]
    have y1 : w4.cell? ⟨N, 1, none⟩ = some (.int .i64 T) := by simp [World.cell?, n4]
    have f1 : w4.frozen? ⟨N, 1, none⟩ = false := by simp [World.frozen?, n4]
    have B4 : Hid _ := b4
    clear b4 n4 hw4 i0 e0 i1 e1 x2 z2
    go_wp2
    go_ret
    obtain ⟨r1, r2, r3⟩ := H.out.compacted (L2 := L) BB.out O4.out (fun e he => he) HL.out B4.out at_ t HA.out HT.out
    exact ⟨rfl, _, by rw [HJ.out]; exact r1, r2, r3⟩
  · have HB := behind_entry (H.out.below b1) k hk t
    have HJ : Hid ((at_ - B).toNat = k + 1) := hj
    clear hj
    unfold entP at HB ⊢
    go_wp2_with fail
    refine HB.mono ?_
    clear HB
    rintro e w2 ⟨b2, a2, c2, rfl, r2, n2⟩
    have hdl : L.length - (k + 1) = (L.drop (k + 1)).length := by simp
    have HC := cloneE_any a2 (L.length - (k + 1)) c2 (L.drop (k + 1)) w2 hdl r2 (fun e he => (H.out.dat e (List.mem_of_mem_drop he)).1.one) n2 (by have := HL.out; omega)
    clear r2 n2
    have HDL : Hid (L.length - (k + 1) = (L.drop (k + 1)).length) := hdl
    clear hdl
    go_wp2_with fail
    refine HC.mono ?_
    clear HC
    rintro e w3 ⟨v, rfl, o3, b3⟩
    obtain ⟨m, em⟩ : ∃ m, L.length - (k + 1) = m := ⟨_, rfl⟩
    rw [em] at o3
    obtain ⟨a3, c3, hv, _⟩ := row_form o3
    rw [hv] at o3 ⊢
    clear hv
    have EM : Hid (m = (L.drop (k + 1)).length) := em.symm.trans HDL.out
    clear em
    have bb := (b1.trans (b2.mono b1.size)).trans (b3.mono (b1.trans (b2.mono b1.size)).size)
    have x2 := (H.out.below bb).c2
    have z2 := (H.out.below bb).fz 2
    have o4 : w3.ownsRow w.heap.size 50 2 (.slice a3 m c3) m (entCells (L.drop (k + 1))) := ⟨o3.1, o3.2.imp id (by rintro ⟨g, cap, cur, e1, e2, e3⟩; exact ⟨g, cap, cur, e1, Nat.le_trans (b1.trans (b2.mono b1.size)).size e2, e3⟩)⟩
    have O4 : Hid _ := o4
    have BB : Hid _ := bb
    have n3 := set_block (((bb.block N H.out.ltN).trans H.out.hN)) 2 (.slice a3 m c3)
    have N3 : Hid _ := n3
    have lt3 : Hid (N < w3.heap.size) := Nat.lt_of_lt_of_le H.out.ltN bb.size
    clear o3 b3 b2 bb o4 n3
    go_wp2_with fail
    refine (term_entry k t _).mono ?_
    rintro e w4 ⟨rfl, hw4⟩
    have b4 : Below w3.heap.size (w3.setCell ⟨N, 2, none⟩ (.slice a3 m c3)) w4 := by
      rw [hw4]
      exact (Below.refl _ _).alloc (by simp) _
    have n4 := (b4.block N lt3.out).trans N3.out
    have y0 : w4.cell? ⟨N, 0, none⟩ = some (.int .i64 B) := by simp [World.cell?, n4]
    have f0 : w4.frozen? ⟨N, 0, none⟩ = false := by simp [World.frozen?, n4]
    have y1 : w4.cell? ⟨N, 1, none⟩ = some (.int .i64 T) := by simp [World.cell?, n4]
    have f1 : w4.frozen? ⟨N, 1, none⟩ = false := by simp [World.frozen?, n4]
    have B4 : Hid _ := b4
    clear b4 n4 hw4 i0 e0 i1 e1 x2 z2
    go_wp2
    go_ret
    obtain ⟨r1, r2, r3⟩ := H.out.compacted (L2 := L.drop (k + 1)) BB.out (by have := O4.out; rw [EM.out] at this; rw [← EM.out]; exact O4.out) (fun e he => List.mem_of_mem_drop he) (by have := HL.out; simp; omega) B4.out at_ t HA.out HT.out
    exact ⟨rfl, _, by rw [HJ.out]; exact r1, r2, r3⟩
end
end Go.Proofs.Ytikedglcicgdhaa
