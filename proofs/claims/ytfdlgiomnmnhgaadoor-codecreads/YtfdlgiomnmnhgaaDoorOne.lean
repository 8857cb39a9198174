/- What 'one' does: a read of both Readers. -/
import Derived.Test.YtfdlgiomnmnhgaaDoorRefGr
import Derived.Test.YtfdlgiomnmnhgaaDoorNilRd
import Derived.Test.YtfdlgiomnmnhgaaDoorRefSp
import Derived.Test.YtfdlgiomnmnhgaaDoorKnownC
import Derived.Test.YtfdlgiomnmnhgaaDoorGetRO
import Derived.Test.YtfdlgiomnmnhgaaDoorSame
namespace Go.Proofs.YtfdlgiomnmnhgaaDoor
open Go.RowKit Cod
set_option linter.unusedVariables false

/-- NewReader: the bytes lie in new memory. -/
theorem newReader_new (a : Option Addr) (len cap : Nat) (l : List (BitVec 8)) (w : World) (h : Seen w a len l) (hnil : a = none → cap = 0) (hm : len ≤ 140737488355328) :
    Calls Tryd.prog 28 #[.slice a len cap] w fun e w' => ∃ R, e = .returned (.pointer (some ⟨R, 0, none⟩)) ∧ w.heap.size ≤ R ∧ Rdr w' R l 0 0 ∧ (∀ w'', (∀ k, w.heap.size ≤ k → k ≤ R → w''.heap[k]? = w'.heap[k]?) → Rdr w'' R l 0 0) ∧ Below w.heap.size w w' := by
  have HC := clone_any a len cap l w h hnil hm
  have HM : Hid _ := hm
  have HL : Hid _ := h.1
  clear h hnil hm
  go_enter Tryd.func28, Tryd.ntmps28
  go_wp2_with fail
  refine HC.mono ?_
  rintro e w1 ⟨v1, rfl, o1, b1⟩
  obtain ⟨a1, c1, rfl, s1, n1, k1⟩ := owned_seen o1 (by have := HM.out; unfold maxLen; omega)
  obtain rfl : len = l.length := HL.out
  have O1 : Hid (w1.ownsRow w.heap.size 5 1 (.slice a1 l.length c1) l.length (cellsOf l)) := o1
  clear o1
  go_wp2
  go_ret
  have r := rdr_new w1 a1 c1 l s1 n1 k1 HM.out
  refine ⟨_, rfl, b1.size, r, ?_, b1.alloc b1.size _⟩
  intro w'' hw
  have s2 : Seen (w1.alloc (.cells #[.slice a1 l.length c1, .int .i64 0, .int .i64 0] 87)) a1 l.length l := s1.below ((Below.refl _ w1).alloc (Nat.le_refl _) _)
  refine ⟨a1, c1, (hw _ b1.size (Nat.le_refl _)).trans (heap_alloc_new w1 _), s2.since (fun hl x hx => ?_), n1, k1, fun hl x hx => by have := s1.lt hl x hx; omega, Nat.zero_le _, HM.out⟩
  have hp := List.length_pos_iff.2 hl
  obtain ⟨g, c, e, hg, hg2⟩ := O1.out.form hp
  cases e
  cases hx
  exact hw g hg (Nat.le_of_lt hg2)
theorem RRd.other {w w' : World} {R Q A B : Nat} {l : List (BitVec 8)} {at_ why : Nat} (h : RRd w Q A B l at_ why) (hg : w.grownBy w' (some R)) (hQ : R ≠ Q) (hA : R < A) : RRd w' Q A B l at_ why := by
  have hlt := h.lt
  obtain ⟨a0, cap, hh, hs, hn, hk, hne, hat, hm⟩ := h
  exact ⟨a0, cap, (hg.block Q hlt (fun e => hQ (Option.some.inj e).symm)).trans hh, hs.since (fun hl x hx => hg.block _ (hs.lt hl x hx) (fun e => by have := Option.some.inj e; have := (hne hl x hx).2.1; omega)), hn, hk, hne, hat, hm⟩
/-- Both Readers. -/
structure Two (w : World) (R Q A B : Nat) (l : List (BitVec 8)) (at_ why : Nat) : Prop where
  r : Rdr w R l at_ why
  q : RRd w Q A B l at_ why
  rq : R < Q
  ra : R < A
  bs : B ≤ w.heap.size
/-- What a read of both keeps. -/
structure TwoKept (w w' : World) (R Q : Nat) : Prop where
  below : ∀ b, b ≤ R → b ≤ w.heap.size → Below b w w'
theorem Two.next {w w1 w2 : World} {R Q A B : Nat} {l : List (BitVec 8)} {at_ why p y : Nat} (h : Two w R Q A B l at_ why) (r1 : Rdr w1 R l p y) (g1 : w.grownBy w1 (some R)) (q2 : RRd w2 Q A B l p y) (g2 : w1.grownBy w2 (some Q)) : Two w2 R Q A B l p y ∧ TwoKept w w2 R Q :=
  ⟨⟨r1.grown g2 (fun g e => by cases e; exact h.rq), q2, h.rq, h.ra, Nat.le_trans h.bs (Nat.le_trans g1.size g2.size)⟩,
   ⟨fun b hb hs => ((Below.refl b w).grown g1 hs (fun k e => by cases e; exact hb)).grown g2 (Nat.le_trans hs g1.size) (fun k e => by cases e; exact Nat.le_trans hb (Nat.le_of_lt h.rq))⟩⟩
set_option maxRecDepth 100000 in
set_option maxHeartbeats 3200000 in
theorem one_any (R Q A B : Nat) (l : List (BitVec 8)) (at_ why : Nat) (kind most : Int) (hm0 : -9223372036854775808 ≤ most) (hm1 : most < 9223372036854775808) (w : World) (h : Two w R Q A B l at_ why) :
    Calls Tryd.prog 30 #[.pointer (some ⟨R, 0, none⟩), .pointer (some ⟨Q, 0, none⟩), .int .i64 kind, .int .i64 most] w fun e w' => e = .returned (.bool true) ∧ ∃ p y, Two w' R Q A B l p y ∧ TwoKept w w' R Q := by
  have H : Hid (Two w R Q A B l at_ why) := h
  obtain ⟨c, hc⟩ : ∃ c, kind.tmod 8 = c := ⟨_, rfl⟩
  clear h
  by_cases h0 : c = 0
  · have e0 : (c == 0) = true := by simp [h0]
    have HC := rUint_any R l at_ why w H.out.r
    have HQ : Hid (∀ w', RRd w' Q A B l at_ why → Calls Tryd.prog 61 _ w' _) := fun w' hq => refRUint_any Q A B l at_ why w' hq
    subst h0
    go_enter Tryd.func30, Tryd.ntmps30
    go_wp2_with fail
    refine HC.mono ?_
    rintro e w1 ⟨rfl, r1, g1⟩
    have hq1 := H.out.q.other g1 (by have := H.out.rq; omega) H.out.ra
    have N : Hid (∀ w2, RRd w2 Q A B l (rU l at_ why).2.1 (rU l at_ why).2.2 → w1.grownBy w2 (some Q) → Two w2 R Q A B l (rU l at_ why).2.1 (rU l at_ why).2.2 ∧ TwoKept w w2 R Q) := fun w2 q2 g2 => H.out.next r1 g1 q2 g2
    clear r1 g1 HC
    go_wp2_with fail
    refine (HQ.out w1 hq1).mono ?_
    rintro e w2 ⟨rfl, q2, g2⟩
    have N2 : Hid _ := N.out w2 q2 g2
    clear q2 g2 N hq1 HQ
    have hss : ∀ T : ByteArray, (T.toList == T.toList) = true := fun T => by simp
    go_wp2
    go_ret
    exact ⟨by simp, _, _, N2.out⟩
  by_cases h1 : c = 1
  · have e1 : (c == 1) = true := by simp [h1]
    have HC := rInt_any R l at_ why w H.out.r
    have HQ : Hid (∀ w', RRd w' Q A B l at_ why → Calls Tryd.prog 62 _ w' _) := fun w' hq => refRInt_any Q A B l at_ why w' hq
    subst h1
    go_enter Tryd.func30, Tryd.ntmps30
    go_wp2_with fail
    refine HC.mono ?_
    rintro e w1 ⟨rfl, r1, g1⟩
    have hq1 := H.out.q.other g1 (by have := H.out.rq; omega) H.out.ra
    have N : Hid (∀ w2, RRd w2 Q A B l (rU l at_ why).2.1 (rU l at_ why).2.2 → w1.grownBy w2 (some Q) → Two w2 R Q A B l (rU l at_ why).2.1 (rU l at_ why).2.2 ∧ TwoKept w w2 R Q) := fun w2 q2 g2 => H.out.next r1 g1 q2 g2
    clear r1 g1 HC
    go_wp2_with fail
    refine (HQ.out w1 hq1).mono ?_
    rintro e w2 ⟨rfl, q2, g2⟩
    have N2 : Hid _ := N.out w2 q2 g2
    clear q2 g2 N hq1 HQ
    have hss : ∀ T : ByteArray, (T.toList == T.toList) = true := fun T => by simp
    go_wp2
    go_ret
    exact ⟨by simp, _, _, N2.out⟩
  by_cases h3 : c = 3
  · have e3 : (c == 3) = true := by simp [h3]
    have HC := rText_any R l at_ why w H.out.r
    have HQ : Hid (∀ w', RRd w' Q A B l at_ why → Calls Tryd.prog 64 _ w' _) := fun w' hq => refRText_any Q A B l at_ why w' hq
    subst h3
    go_enter Tryd.func30, Tryd.ntmps30
    go_wp2_with fail
    refine HC.mono ?_
    rintro e w1 ⟨rfl, r1, g1⟩
    have hq1 := H.out.q.other g1 (by have := H.out.rq; omega) H.out.ra
    have N : Hid (∀ w2, RRd w2 Q A B l (rS l at_ why).2.1 (rS l at_ why).2.2 → w1.grownBy w2 (some Q) → Two w2 R Q A B l (rS l at_ why).2.1 (rS l at_ why).2.2 ∧ TwoKept w w2 R Q) := fun w2 q2 g2 => H.out.next r1 g1 q2 g2
    clear r1 g1 HC
    go_wp2_with fail
    refine (HQ.out w1 hq1).mono ?_
    rintro e w2 ⟨rfl, q2, g2⟩
    have N2 : Hid _ := N.out w2 q2 g2
    clear q2 g2 N hq1 HQ
    have hss : ∀ T : ByteArray, (T.toList == T.toList) = true := fun T => by simp
    go_wp2
    go_ret
    exact ⟨by simp, _, _, N2.out⟩
  by_cases h4 : c = 4
  · have e4 : (c == 4) = true := by simp [h4]
    have HC := rBool_any R l at_ why w H.out.r
    have HQ : Hid (∀ w', RRd w' Q A B l at_ why → Calls Tryd.prog 65 _ w' _) := fun w' hq => refRBool_any Q A B l at_ why w' hq
    subst h4
    go_enter Tryd.func30, Tryd.ntmps30
    go_wp2_with fail
    refine HC.mono ?_
    rintro e w1 ⟨rfl, r1, g1⟩
    have hq1 := H.out.q.other g1 (by have := H.out.rq; omega) H.out.ra
    have N : Hid (∀ w2, RRd w2 Q A B l (rB l at_ why).2.1 (rB l at_ why).2.2 → w1.grownBy w2 (some Q) → Two w2 R Q A B l (rB l at_ why).2.1 (rB l at_ why).2.2 ∧ TwoKept w w2 R Q) := fun w2 q2 g2 => H.out.next r1 g1 q2 g2
    clear r1 g1 HC
    go_wp2_with fail
    refine (HQ.out w1 hq1).mono ?_
    rintro e w2 ⟨rfl, q2, g2⟩
    have N2 : Hid _ := N.out w2 q2 g2
    clear q2 g2 N hq1 HQ
    have hss : ∀ T : ByteArray, (T.toList == T.toList) = true := fun T => by simp
    go_wp2
    go_ret
    exact ⟨by simp, _, _, N2.out⟩
  by_cases h5 : c = 5
  · have e5 : (c == 5) = true := by simp [h5]
    have HC := rCount_any R l most hm1 at_ why w H.out.r
    have HQ : Hid (∀ w', RRd w' Q A B l at_ why → Calls Tryd.prog 66 _ w' _) := fun w' hq => refRCount_any Q A B l most hm0 hm1 at_ why w' hq
    subst h5
    clear hm0 hm1
    go_enter Tryd.func30, Tryd.ntmps30
    go_wp2_with fail
    refine HC.mono ?_
    rintro e w1 ⟨rfl, r1, g1⟩
    have hq1 := H.out.q.other g1 (by have := H.out.rq; omega) H.out.ra
    have N : Hid (∀ w2, RRd w2 Q A B l (rC l most at_ why).2.1 (rC l most at_ why).2.2 → w1.grownBy w2 (some Q) → Two w2 R Q A B l (rC l most at_ why).2.1 (rC l most at_ why).2.2 ∧ TwoKept w w2 R Q) := fun w2 q2 g2 => H.out.next r1 g1 q2 g2
    clear r1 g1 HC
    go_wp2_with fail
    refine (HQ.out w1 hq1).mono ?_
    rintro e w2 ⟨rfl, q2, g2⟩
    have N2 : Hid _ := N.out w2 q2 g2
    clear q2 g2 N hq1 HQ
    go_wp2
    go_ret
    exact ⟨by simp, _, _, N2.out⟩
  by_cases h6 : c = 6
  · have e6 : (c == 6) = true := by simp [h6]
    have HC := getOp_any R l at_ why w H.out.r
    have HQ : Hid (∀ w', RRd w' Q A B l at_ why → B ≤ w'.heap.size → Calls Tryd.prog 67 _ w' _) := fun w' hq hB => refGetOp_any Q A B l at_ why w' hq hB
    subst h6
    clear hm0 hm1
    generalize rOpV l at_ why = o at *
    obtain ⟨ok, os, od, oa, oy, ot, oz⟩ := o
    simp only [OpD.val] at HC HQ
    go_enter Tryd.func30, Tryd.ntmps30
    go_wp2_with fail
    refine HC.mono ?_
    rintro e w1 ⟨rfl, r1, g1⟩
    have hq1 := H.out.q.other g1 (by have := H.out.rq; omega) H.out.ra
    have N : Hid (∀ w2, RRd w2 Q A B l (rOp7 l at_ why).2.1 (rOp7 l at_ why).2.2 → w1.grownBy w2 (some Q) → Two w2 R Q A B l (rOp7 l at_ why).2.1 (rOp7 l at_ why).2.2 ∧ TwoKept w w2 R Q) := fun w2 q2 g2 => H.out.next r1 g1 q2 g2
    have hB1 : B ≤ w1.heap.size := Nat.le_trans H.out.bs g1.size
    clear r1 g1 HC
    go_wp2_with fail
    refine (HQ.out w1 hq1 hB1).mono ?_
    rintro e w2 ⟨rfl, q2, g2⟩
    have N2 : Hid _ := N.out w2 q2 g2
    clear q2 g2 N hq1 HQ hB1
    have hss : ∀ T : ByteArray, (T.toList == T.toList) = true := fun T => by simp
    go_wp2
    go_ret
    exact ⟨by simp, _, _, N2.out⟩
  by_cases h2 : c = 2
  · have e2 : (c == 2) = true := by simp [h2]
    have HC := rBytes_any R l at_ why w H.out.r
    have HQ : Hid (∀ w', RRd w' Q A B l at_ why → Calls Tryd.prog 63 #[.pointer (some ⟨Q, 0, none⟩)] w' fun e w'' => RBT w' w'' Q A B l (rS l at_ why) e) := fun w' hq => refRBytes_any Q A B l at_ why w' hq
    subst h2
    clear hm0 hm1
    generalize rS l at_ why = t at *
    go_enter Tryd.func30, Tryd.ntmps30
    go_wp2_with fail
    refine HC.mono ?_
    rintro e w1 ⟨v1, rfl, o1, k1, r1, g1⟩
    have hq1 := H.out.q.other g1 (by have := H.out.rq; omega) H.out.ra
    have N : Hid (∀ w2, RRd w2 Q A B l t.2.1 t.2.2 → w1.grownBy w2 (some Q) → Two w2 R Q A B l t.2.1 t.2.2 ∧ TwoKept w w2 R Q) := fun w2 q2 g2 => H.out.next r1 g1 q2 g2
    have O1 : Hid (w1.ownsRow w.heap.size 5 1 v1 t.1.length (cellsOf t.1)) := o1
    have K1 : Hid (t.1.length ≤ 65536) := k1
    have S1 : Hid (w.heap.size ≤ w1.heap.size) := g1.size
    clear r1 g1 HC o1 k1
    go_wp2_with fail
    refine (HQ.out w1 hq1).mono ?_
    rintro e w2 ⟨v2, rfl, o2, _, q2, g2⟩
    have N2 : Hid (Two w2 R Q A B l t.2.1 t.2.2 ∧ TwoKept w w2 R Q) := N.out w2 q2 g2
    have O2 : Hid (w2.ownsRow w.heap.size 5 1 v1 t.1.length (cellsOf t.1)) := owns_far O1.out g2 H.out.q.lt
    have S2 : Hid (w.heap.size ≤ w2.heap.size) := Nat.le_trans S1.out g2.size
    obtain ⟨a1, c1, rfl, s1, _, _⟩ := owned_seen O2.out (by have := K1.out; unfold maxLen; omega)
    obtain ⟨a2, c2, rfl, s2, _, _⟩ := owned_seen o2 (by have := K1.out; unfold maxLen; omega)
    have t1 := run_to_text w2 a1 _ c1 _ s1
    have t2 := run_to_text w2 a2 _ c2 _ s2
    clear q2 g2 N hq1 HQ o2 s1 s2
    obtain ⟨ln, hln⟩ : ∃ ln, t.1.length = ln := ⟨_, rfl⟩
    rw [hln] at t1 t2 O2 K1 ⊢
    generalize textOf t.1 = tx at *
    have hss : (tx.toList == tx.toList) = true := by simp
    go_wp2_with fail
    refine (spoil_row w.heap.size (.slice a1 ln c1) ln _ w2 O2.out S2.out (by have := K1.out; omega)).mono ?_
    rintro e w3 ⟨⟨u3, rfl⟩, g3⟩
    have hrow : ∀ g, (Value.slice a1 ln c1).ownBlock = some g → w.heap.size ≤ g := fun g e => (O2.out.lt g e).1
    have hRl := H.out.r.lt
    have hQl := H.out.q.lt
    have hbs := H.out.bs
    have N3 : Hid (Two w3 R Q A B l t.2.1 t.2.2 ∧ TwoKept w w3 R Q) :=
      ⟨⟨N2.out.1.r.grown g3 (fun g e => by have := hrow g e; omega), N2.out.1.q.since (g3.block _ N2.out.1.q.lt (fun e => by have := hrow _ e.symm; omega)) (fun k hk hk2 => g3.block k hk2 (fun e => by have := hrow _ e.symm; omega)), N2.out.1.rq, N2.out.1.ra, Nat.le_trans N2.out.1.bs g3.size⟩,
       ⟨fun b hb hs => (N2.out.2.below b hb hs).grown g3 (Nat.le_trans hs S2.out) (fun k e => Nat.le_trans hs (hrow k e))⟩⟩
    clear g3 hrow hRl hQl hbs
    go_wp2
    go_ret
    exact ⟨by simp, _, _, N3.out⟩
  have n0 : (c == 0) = false := by simp [h0]
  have n1 : (c == 1) = false := by simp [h1]
  have n2 : (c == 2) = false := by simp [h2]
  have n3 : (c == 3) = false := by simp [h3]
  have n4 : (c == 4) = false := by simp [h4]
  have n5 : (c == 5) = false := by simp [h5]
  have n6 : (c == 6) = false := by simp [h6]
  have HC := getReply_own R l at_ why w H.out.r
  have HQ : Hid (∀ w', RRd w' Q A B l at_ why → B ≤ w'.heap.size → Calls Tryd.prog 68 _ w' _) := fun w' hq hB => refGetReply_any Q A B l at_ why w' hq hB
  clear hm0 hm1 h0 h1 h2 h3 h4 h5 h6
  generalize zag (rRe1 l at_ why).1 = z1 at *
  generalize zag (rRe2 l at_ why).1 = z2 at *
  generalize rRe4 l at_ why = t at *
  go_enter Tryd.func30, Tryd.ntmps30
  go_wp2_with fail
  refine HC.mono ?_
  rintro e w1 ⟨ra, rn, rc, rfl, k6, kl, o1, r1, g1⟩
  have hq1 := H.out.q.other g1 (by have := H.out.rq; omega) H.out.ra
  have N : Hid (∀ w2, RRd w2 Q A B l t.2.1 t.2.2 → w1.grownBy w2 (some Q) → Two w2 R Q A B l t.2.1 t.2.2 ∧ TwoKept w w2 R Q) := fun w2 q2 g2 => H.out.next r1 g1 q2 g2
  have RO : Hid (∀ w2, w1.grownBy w2 (some Q) → RowsAt w2 ra rn t.1) := fun w2 g2 => rows_owned (owns_far o1 g2 H.out.q.lt) kl (by omega)
  have hB1 : B ≤ w1.heap.size := Nat.le_trans H.out.bs g1.size
  clear r1 g1 HC o1 k6 kl
  go_wp2_with fail
  refine (HQ.out w1 hq1 hB1).mono ?_
  rintro e w2 ⟨qa, qn, qc, rfl, ro2, q2, g2⟩
  have N2 : Hid (Two w2 R Q A B l t.2.1 t.2.2 ∧ TwoKept w w2 R Q) := N.out w2 q2 g2
  have SR := sameReply_any ra qa rn rc qn qc t.1 t.1 z1 z2 z1 z2 w2 (RO.out w2 g2) ro2
  clear q2 g2 N hq1 HQ hB1 ro2 RO
  go_wp2_with fail
  refine SR.mono ?_
  rintro e w3 ⟨rfl, b3⟩
  have N3 : Hid (Two w3 R Q A B l t.2.1 t.2.2 ∧ TwoKept w w3 R Q) :=
    ⟨⟨Rdr.below N2.out.1.r b3, N2.out.1.q.keep b3, N2.out.1.rq, N2.out.1.ra, Nat.le_trans N2.out.1.bs b3.size⟩,
     ⟨fun b hb hs => (N2.out.2.below b hb hs).trans (b3.mono (Nat.le_trans hs (N2.out.2.below b hb hs).size))⟩⟩
  clear SR b3
  go_wp2
  go_ret
  exact ⟨by simp, _, _, N3.out⟩
end Go.Proofs.YtfdlgiomnmnhgaaDoor

