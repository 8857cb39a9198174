/- Package auditor: the law's fixed calls. -/
import Derived.Test.YtckldjiabalgbaaAKnP
import Derived.Deep.Cut
namespace Go.Proofs.Ytckldjiabalgbaa
open Go.RowKit Go.Sort
attribute [local go_sem] Oper.semAt_some
set_option linter.unusedVariables false

/-- Told of one row. -/
theorem told_one {w W : World} {g : Nat} {D : AuD} {C0 C1 : List Value} (h : KSt w W g D C0 C1) (hD : D.sh = (2 : Nat)) (hn : D.n = 1) (hp : D.ph = 1) (t : ByteArray) (m : Int) {i : Nat} (hi : i < 2) {k : Int} (hk : (i : Int) + 1 = k) (hl : ∀ v, leftN (setD D v i) 2 = 1 - i) :
    Calls Try.prog 9 #[.pointer (some ⟨w.heap.size, 0, none⟩), .int .i64 1, .int .i64 1, .agg (ask6 k).toArray, .agg #[.int .i64 0, .bool false, .int .i64 0, .int .i64 0, .slice (some ⟨W.heap.size, 0, none⟩) 1 1, .slice none 0 0]] (W.alloc (.cells #[.string t, .int .i64 m] 28)) fun e Z => ∃ q n, RowsX Z q 1 [(t, m)] ∧ (q = none → n = 0) ∧ (∀ x, q = some x → x.block ≠ w.heap.size) ∧ (∀ K, K < W.heap.size → K ≠ w.heap.size → Z.heap[K]? = W.heap[K]?) ∧
      ((i = 0 ∧ e = .returned (.tuple #[.agg #[.int .i64 0, .int .i64 0, .int .i64 0, .int .i64 0, .int .i64 0], .bool false]) ∧ KSt w Z g (setD D (.slice q 1 n) i) C0 C1) ∨ (i = 1 ∧ e = .returned (.tuple #[.agg #[.int .i64 4, .int .i64 0, .int .i64 0, .int .i64 1, .int .i64 0], .bool true]) ∧ KSt w Z g { setD D (.slice q 1 n) i with wh := true } C0 C1)) := by
  have bA : Below W.heap.size W (W.alloc (.cells #[.string t, .int .i64 m] 28)) := (Below.refl _ W).alloc (Nat.le_refl _) _
  have hx := h.below bA
  have hr : RowsX (W.alloc (.cells #[.string t, .int .i64 m] 28)) (some ⟨W.heap.size, 0, none⟩) [(t, m)].length [(t, m)] := by
    refine ⟨rfl, by simp, .inr ⟨W.heap.size, 0, rfl, fun j hj => ?_⟩⟩
    obtain rfl : j = 0 := by simpa using hj
    constructor <;> simp
  have hgW : w.heap.size < W.heap.size := by have := h.gn.1; have := h.gn.2; omega
  have kd : knowD D 1 1 = D := by unfold knowD; rw [if_neg (by rw [hn]; simp), if_neg (by rw [hp]; simp)]
  have HT := toldA_collect hx.au hD (by omega) (by omega) hi 1 0 ⟨#[]⟩ ⟨#[]⟩ 0 ⟨#[]⟩ 0 0 ⟨#[]⟩ ⟨#[]⟩ 0 0 0 0 false (.slice none 0 0) false 0 0 (some ⟨W.heap.size, 0, none⟩) 1 [(t, m)] (.slice none 0 0) hr (fun e => by cases e) (by simp) (fun x e _ => by cases e; show W.heap.size ≠ w.heap.size; omega)
  rw [hk, kd] at HT
  have sz : (W.alloc (.cells #[.string t, .int .i64 m] 28)).heap.size = W.heap.size + 1 := by simp
  generalize W.alloc (.cells #[.string t, .int .i64 m] 28) = V at *
  refine Calls.mono HT ?_
  rintro e Z ⟨v, o, kp, hz, en, hcase⟩
  obtain ⟨q, n, rfl, hq0, _⟩ := row_form o
  obtain ⟨r1, r2, r3⟩ := rows_own o rfl (by simp)
  refine ⟨q, n, r1, r2, fun x ex => by have := (r3 x ex).1; omega, fun K hK hn => (kp K (by omega) hn).trans (bA.block K hK), ?_⟩
  rcases hcase with ⟨hl0, rfl, ha⟩ | ⟨hl0, rfl, ha⟩
  · rw [hl] at hl0
    exact .inl ⟨by omega, rfl, hx.told kp hz en ha⟩
  · rw [hl] at hl0
    exact .inr ⟨by omega, rfl, hx.told kp hz en ha⟩
def dA (q : Option Addr) (n : Nat) : AuD := ⟨2, 1, 1, true, false, false, .slice q 1 n, .slice none 0 0, .slice none 0 0, false⟩
def dB (q : Option Addr) (n : Nat) (q' : Option Addr) (n' : Nat) : AuD := ⟨2, 1, 1, true, true, false, .slice q 1 n, .slice q' 1 n', .slice none 0 0, true⟩
theorem info_a18 (k : Int) : (Try.prog.info? 53).map (·.size) = some (ask6 k).length := by kernel_rfl
set_option maxRecDepth 100000 in
set_option maxHeartbeats 8000000 in
theorem knownA_any (w : World) : Calls Try.prog 8 #[] w fun e w' => e = .returned (.bool true) ∧ Below w.heap.size w w' := by
  have HN := newA_ok 2 (by omega) (by omega) w
  go_enter Try.func8, Try.ntmps8
  go_wp2_with (go_at_call 18; refine HN.mono ?_; rintro e w1 ⟨rfl, hA, b1⟩)
  have hs1 : w.heap.size < w1.heap.size := by simp only [AuIn] at hA; exact (Array.getElem?_eq_some_iff.1 hA).1
  have HA := lawAsks_any hA (S := 2) rfl (by omega) (by omega) 1 1 (kd := 6) (.inl ⟨rfl, rfl⟩)
  rw [know_first, len_two, flat_two] at HA
  have B1 : Hid (Below w.heap.size w w1 ∧ w.heap.size < w1.heap.size) := ⟨b1, hs1⟩
  clear HN hA b1 hs1
  go_wp2_with (go_at_call 12; refine HA.mono ?_; rintro e w2 ⟨v, rfl, o2, k2⟩)
  obtain ⟨g, c, rfl, hk⟩ := kst_start B1.out.1 B1.out.2 k2 o2
  have K2 : Hid (KSt w w2 g d1 (ask6 1) (ask6 2)) := hk
  have x18 : w2.cell? ⟨g, 18, none⟩ = some (.int .i64 2) := hk.l1 0 _ rfl
  have x19 : w2.cell? ⟨g, 19, none⟩ = some (.int .i64 6) := hk.l1 1 _ rfl
  have x32 : w2.cell? ⟨g, 32, none⟩ = some (.int .i64 1) := hk.l1 14 _ rfl
  clear HA B1 o2 k2 hk
  have sz2 : w2.heap.size = w2.heap.size := rfl
  have H1 : Hid (Calls Try.prog 9 #[.pointer (some ⟨w.heap.size, 0, none⟩), .int .i64 1, .int .i64 1, .agg (ask6 1).toArray, .agg #[.int .i64 0, .bool false, .int .i64 0, .int .i64 0, .slice (some ⟨w2.heap.size, 0, none⟩) 1 1, .slice none 0 0]] (w2.alloc (.cells #[.string bobT, .int .i64 1] 28)) fun e Z => e = .returned (.tuple #[.agg #[.int .i64 0, .int .i64 0, .int .i64 0, .int .i64 0, .int .i64 0], .bool false]) ∧ ∃ q n, Hid (RowsX Z q 1 [(bobT, 1)] ∧ (q = none → n = 0) ∧ (∀ x, q = some x → x.block ≠ w.heap.size) ∧ KSt w Z g (dA q n) (ask6 1) (ask6 2))) := by
    refine Calls.mono (told_one K2.out rfl rfl rfl bobT 1 (i := 0) (by omega) (k := 1) rfl (fun v => rfl)) ?_
    rintro e Z ⟨q, n, r, z, y, _, (⟨_, rfl, hk⟩ | ⟨h0, _⟩)⟩
    · exact ⟨rfl, q, n, r, z, y, hk⟩
    · cases h0
  go_upto_region 8 with (first
    | (refine wpList_load_mid rfl 53 (.tmp 43) rfl g 0 rfl (ask6 1) _ K2.out.l0 Try.underlying53 rfl (info_a18 1) ?_)
    | (go_at_call 9; refine H1.out.mono ?_; rintro e w3 ⟨rfl, q0, n0, F0⟩))
  have K3 : Hid (KSt w (w3.alloc (.cells #[.int .i64 0, .int .i64 0, .int .i64 0, .int .i64 0, .int .i64 0] 47)) g (dA q0 n0) (ask6 1) (ask6 2) ∧ RowsX (w3.alloc (.cells #[.int .i64 0, .int .i64 0, .int .i64 0, .int .i64 0, .int .i64 0] 47)) q0 1 [(bobT, 1)] ∧ (q0 = none → n0 = 0) ∧ ∀ x, q0 = some x → x.block ≠ w.heap.size) := ⟨F0.out.2.2.2.below ((Below.refl _ w3).alloc (Nat.le_refl _) _), F0.out.1.below ((Below.refl _ w3).alloc (Nat.le_refl _) _), F0.out.2.1, F0.out.2.2.1⟩
  generalize w3.alloc (.cells #[.int .i64 0, .int .i64 0, .int .i64 0, .int .i64 0, .int .i64 0] 47) = w4 at *
  have H2 : Hid (Calls Try.prog 9 #[.pointer (some ⟨w.heap.size, 0, none⟩), .int .i64 1, .int .i64 1, .agg (ask6 2).toArray, .agg #[.int .i64 0, .bool false, .int .i64 0, .int .i64 0, .slice (some ⟨w4.heap.size, 0, none⟩) 1 1, .slice none 0 0]] (w4.alloc (.cells #[.string annT, .int .i64 2] 28)) fun e Z => e = .returned (.tuple #[.agg #[.int .i64 4, .int .i64 0, .int .i64 0, .int .i64 1, .int .i64 0], .bool true]) ∧ Hid (∃ q n, RowsX Z q0 1 [(bobT, 1)] ∧ (q0 = none → n0 = 0) ∧ RowsX Z q 1 [(annT, 2)] ∧ (q = none → n = 0) ∧ KSt w Z g (dB q0 n0 q n) (ask6 1) (ask6 2))) := by
    refine Calls.mono (told_one K3.out.1 rfl rfl rfl annT 2 (i := 1) (by omega) (k := 2) rfl (fun v => rfl)) ?_
    rintro e Z ⟨q, n, r, z, y, kp, (⟨h0, _⟩ | ⟨_, rfl, hk⟩)⟩
    · cases h0
    · exact ⟨rfl, q, n, K3.out.2.1.kept kp K3.out.2.2.2, K3.out.2.2.1, r, z, hk⟩
  clear H1 K2 F0 x18 x19 x32
  go_upto_region 9 with (first
    | (refine wpList_load_mid rfl 53 (.tmp 55) rfl g 18 rfl (ask6 2) _ K3.out.1.l1 Try.underlying53 rfl (info_a18 2) ?_)
    | (go_at_call 9; refine H2.out.mono ?_; rintro e w5 ⟨rfl, F1⟩))
  obtain ⟨q1, n1, r0, z0, r1, z1, hk⟩ := F1.out
  have b6 : Below w5.heap.size w5 (w5.alloc (.cells #[.int .i64 4, .int .i64 0, .int .i64 0, .int .i64 1, .int .i64 0] 47)) := (Below.refl _ w5).alloc (Nat.le_refl _) _
  have q6 := heap_alloc_new w5 (.cells #[.int .i64 4, .int .i64 0, .int .i64 0, .int .i64 1, .int .i64 0] 47)
  obtain ⟨w6, e6⟩ : ∃ w6, w5.alloc (.cells #[.int .i64 4, .int .i64 0, .int .i64 0, .int .i64 1, .int .i64 0] 47) = w6 := ⟨_, rfl⟩
  rw [e6] at b6 q6
  have k6 := hk.below b6
  have HR := rowsA_any k6.au rfl (S := 2) rfl (by omega) (by omega) (lists_two k6.au rfl rfl (r0.below b6) (r1.below b6) z0 z1) (by decide)
  rw [merge_two, show totL [[(bobT, (1 : Int))], [(annT, 2)]] = 2 from rfl] at HR
  have HR2 : Hid (Calls Try.prog 11 #[.pointer (some ⟨w.heap.size, 0, none⟩)] w6 fun e w7 => ∃ b c, e = .returned (.tuple #[.slice (some ⟨b, 0, none⟩) 2 c, .bool true]) ∧ w7.cell? ⟨b, 0, none⟩ = some (.string annT) ∧ Hid (Below w6.heap.size w6 w7)) := by
    refine Calls.mono HR ?_
    rintro e w7 ⟨v, rfl, o, b7⟩
    rcases o.2 with ⟨_, e0⟩ | ⟨b, c, cur, rfl, _, hg, _, _, _, ht⟩
    · cases e0
    · refine ⟨b, c, rfl, ?_, b7⟩
      have h0 : (cur.toList.take (2 * 2))[0]? = some (.string annT) := by rw [ht]; rfl
      rw [List.getElem?_take, if_pos (by omega)] at h0
      simp only [World.cell?, hg]
      simpa using h0
  have K6 : Hid (KSt w w6 g (dB q0 n0 q1 n1) (ask6 1) (ask6 2)) := k6
  have E6 : Hid (_ = w6) := e6
  have Q6 : Hid (w6.heap[w5.heap.size]? = some (.cells #[.int .i64 4, .int .i64 0, .int .i64 0, .int .i64 1, .int .i64 0] 47 (0, 0))) := q6
  clear F1 H2 K3 r0 z0 r1 z1 hk b6 q6 k6 HR e6
  rw [show _ = w6 from E6.out]
  clear E6
  go_upto_region 10 with (go_at_call 11; refine HR2.out.mono ?_; rintro e w7 ⟨b, c7, rfl, cb, B7⟩)
  have K7 : Hid (KSt w w7 g (dB q0 n0 q1 n1) (ask6 1) (ask6 2)) := K6.out.below B7.out
  have q7 := (B7.out.block _ (Array.getElem?_eq_some_iff.1 Q6.out).1).trans Q6.out
  have y0 : w7.cell? ⟨w5.heap.size, 0, none⟩ = some (.int .i64 4) := by simp [World.cell?, q7]
  have y3 : w7.cell? ⟨w5.heap.size, 3, none⟩ = some (.int .i64 1) := by simp [World.cell?, q7]
  have HA7 : Hid (Calls Try.prog 12 #[.pointer (some ⟨w.heap.size, 0, none⟩), .int .i64 1, .int .i64 2] w7 fun e w8 => ∃ a c, e = .returned (.slice a 2 c) ∧ Hid (Below w.heap.size w w8)) := by
    refine Calls.mono (lawAsks_any K7.out.au (S := 2) rfl (by omega) (by omega) 1 2 (kd := 7) (.inr ⟨rfl, rfl⟩)) ?_
    rintro e w8 ⟨v, rfl, o, k8⟩
    obtain ⟨a, c, e8, _⟩ := row_form o
    refine ⟨a, c, by rw [e8]; rfl, k8.os.trans K7.out.env.1, k8.tape.trans K7.out.env.2.1, k8.output.trans K7.out.env.2.2, Nat.le_trans K7.out.sz k8.sz, fun K hK => (k8.blk K (Nat.lt_of_lt_of_le hK K7.out.sz) (by omega)).trans (K7.out.lo K hK)⟩
  have hann : annT.toList = [97, 110, 110] := by rw [ByteArray.toList_eq]; rfl
  clear HR2 K6 Q6 B7 K7 q7
  go_wp2_with (go_at_call 12; refine HA7.out.mono ?_; rintro e w8 ⟨a8, c8, rfl, B8⟩)
  go_ret
  exact ⟨rfl, B8.out⟩
end Go.Proofs.Ytckldjiabalgbaa
