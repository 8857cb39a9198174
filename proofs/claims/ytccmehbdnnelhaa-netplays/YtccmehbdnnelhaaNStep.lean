/- NetPlays: step. Written by gen_nst.py. -/
import Derived.Test.YtccmehbdnnelhaaNGi
namespace Go.Proofs.Ytccmehbdnnelhaa
open Go.RowKit Go.Maps Go.Shelf
attribute [local go_sem] Oper.semAt_some
set_option linter.unusedVariables false

set_option maxRecDepth 100000 in
set_option maxHeartbeats 8000000 in
theorem step_any (w0 W : World) (N R T : Nat) (L : List Post) (ms : List OpN) (k f n : Int) (a : Option Addr) (c : Nat) (b : List (BitVec 8)) (h : Du w0 W N R T L ms) (hs : Seen w0 a b.length b) (hnil : a = none → c = 0) (hb : b.length + 1 ≤ 140737488355328) (hi : -9223372036854775808 ≤ n ∧ n ≤ 9223372036854775807) (hT : T ≤ 10000000000) :
    Calls Try.prog 5 #[.pointer (some ⟨N, 0, none⟩), .pointer (some ⟨R, 0, none⟩), .agg #[.int .i64 k, .int .i64 f, .int .i64 n, .slice a b.length c]] W fun e W' => ∃ L' ms' T', e = .returned (.bool true) ∧ T' ≤ T + 20000 ∧ Du w0 W' N R T' L' ms' := by
  have bV := (Below.refl _ W).alloc (Nat.le_refl _) (.cells #[.int .i64 k, .int .i64 f, .int .i64 n, .slice a b.length c] 32)
  have cV := heap_alloc_new W (.cells #[.int .i64 k, .int .i64 f, .int .i64 n, .slice a b.length c] 32)
  obtain ⟨V, eV⟩ : ∃ V, W.alloc (.cells #[.int .i64 k, .int .i64 f, .int .i64 n, .slice a b.length c] 32) = V := ⟨_, rfl⟩
  obtain ⟨B, eB⟩ : ∃ B, W.heap.size = B := ⟨_, rfl⟩
  rw [eV] at bV cV
  rw [eB] at cV
  have EV : Hid _ := eV
  have EB : Hid (W.heap.size = B) := eB
  have HV : Hid (Du w0 V N R T L ms) := h.below bV
  have CV : Hid (V.heap[B]? = some (.cells #[.int .i64 k, .int .i64 f, .int .i64 n, .slice a b.length c] 32 (0, 0))) := cV
  have HS : Hid (∀ X, Below w0.heap.size w0 X → Seen X a b.length b) := fun X q => hs.below q
  have HN : Hid ((a = none → c = 0) ∧ b.length + 1 ≤ 140737488355328) := ⟨hnil, hb⟩
  have HI : Hid (-9223372036854775808 ≤ n ∧ n ≤ 9223372036854775807) := hi
  have HT : Hid (T ≤ 100000000000) := by show T ≤ _; omega
  have HT2 : Hid (T ≤ 10000000000) := hT
  clear h hs hnil hb hi hT bV cV eV eB
  by_cases e0 : k = 0
  · subst e0
    obtain ⟨bn, ebn⟩ : ∃ bn, b.length = bn := ⟨_, rfl⟩
    have EBN : Hid (b.length = bn) := ebn
    rw [ebn]
    have CV2 : Hid (V.heap[B]? = some (.cells #[.int .i64 0, .int .i64 f, .int .i64 n, .slice a bn c] 32 (0, 0))) := by rw [← ebn]; exact CV.out
    rw [ebn] at EV
    clear CV ebn
    have cv3 : V.cell? ⟨B, 3, none⟩ = some (.slice a bn c) := by simp only [World.cell?, CV2.out]; rfl
    go_enter Try.func5, Try.ntmps5
    repeat
      (fail_if_success (guard_target =~ (Code.region 5 _ _).wp _ _ _ _)
       first | go_values | go_skip | go_guarded | go_step | go_upon | go_back | go_simp)
    rw [show _ = V from EV.out, EB.out]
    clear EV EB
    have HL := lent_any a bn c b V (by rw [← EBN.out]; exact HS.out V HV.out.bel) HN.out.1 (by rw [← EBN.out]; exact HN.out.2)
    go_wp2_with fail
    refine HL.mono ?_
    rintro e w1 ⟨g, gc, rfl, o1, b1⟩
    clear HL cv3
    have B1 : Hid (Below V.heap.size V w1) := b1
    have O1 : Hid (w1.ownsRow V.heap.size 5 1 (.slice (some ⟨g, 0, none⟩) (bn + 1) gc) (bn + 1) (cellsOf (b ++ [167#8]))) := o1
    have C1 : Hid (w1.heap[B]? = some (.cells #[.int .i64 0, .int .i64 f, .int .i64 n, .slice a bn c] 32 (0, 0))) := (b1.block _ (Array.getElem?_eq_some_iff.1 CV2.out).1).trans CV2.out
    have q11 : w1.cell? ⟨B, 1, none⟩ = some (.int .i64 f) := by simp only [World.cell?, C1.out]; rfl
    have q12 : w1.cell? ⟨B, 2, none⟩ = some (.int .i64 n) := by simp only [World.cell?, C1.out]; rfl
    have HSn := sendN (HV.out.below b1).net f n (some ⟨g, 0, none⟩) gc b (by rw [EBN.out]; exact seen_owned (owns_lessN o1 EBN.out) EBN.out (by have := HN.out.2; have := EBN.out; unfold maxLen; omega)) (fun e => by cases e) HT.out
    rw [HV.out.tw.1, EBN.out] at HSn
    clear o1 b1
    go_wp2_with fail
    refine HSn.mono ?_
    rintro e w2 ⟨rfl, s2⟩
    clear HSn q11 q12
    have k2 := s2.keep
    have S2 : Hid (SentN w0.heap.size N T L f n b w1 w2) := s2
    have O2 : Hid (w2.ownsRow V.heap.size 5 1 (.slice (some ⟨g, 0, none⟩) (bn + 1) gc) (bn + 1) (cellsOf (b ++ [167#8]))) := own8_nk O1.out k2
    have C2 : Hid (w2.heap[B]? = some (.cells #[.int .i64 0, .int .i64 f, .int .i64 n, .slice a bn c] 32 (0, 0))) := k2.cells C1.out tOp1 tOp2
    have bw2 : Below w0.heap.size w0 w2 := (HV.out.bel.trans (B1.out.mono HV.out.bel.size)).trans k2.1
    obtain ⟨v, hr⟩ := (HV.out.below B1.out).ref
    have HSr := rsendN (hr.nk k2) f n a c b (HS.out w2 bw2) HN.out.1
    rw [EBN.out] at HSr
    have HKp := kept_any g gc bn b a c w2 V.heap.size O2.out (by rw [← EBN.out]; exact HS.out w2 bw2) (by rw [← EBN.out]; exact HN.out.2)
    have q21 : w2.cell? ⟨B, 1, none⟩ = some (.int .i64 f) := by simp only [World.cell?, C2.out]; rfl
    have q22 : w2.cell? ⟨B, 2, none⟩ = some (.int .i64 n) := by simp only [World.cell?, C2.out]; rfl
    have q23 : w2.cell? ⟨B, 3, none⟩ = some (.slice a bn c) := by simp only [World.cell?, C2.out]; rfl
    obtain ⟨er, eer⟩ : ∃ er, errS f n b ms.length = er := ⟨_, rfl⟩
    rw [eer] at HSr
    rw [eer]
    have kk : (er == er) = true := by simp
    clear k2 s2 hr bw2 eer
    go_wp2_with fail
    refine HKp.mono ?_
    rintro e w2' ⟨rfl, rfl⟩
    clear HKp
    go_wp2_with fail
    refine HSr.mono ?_
    rintro e w3 ⟨rfl, s3⟩
    clear HSr q21 q22 q23
    have S3 : Hid (SentR w0.heap.size R ms f n b w2' w3) := s3
    have o3 : w3.ownsRow V.heap.size 5 1 (.slice (some ⟨g, 0, none⟩) bn gc) bn (cellsOf b) := owns_lessN (own8_rk O2.out s3.keep) EBN.out
    have O3 : Hid (w3.ownsRow V.heap.size 5 1 (.slice (some ⟨g, 0, none⟩) bn gc) bn (cellsOf b)) := o3
    have HSp := spoil_row V.heap.size _ bn b w3 o3 (Nat.le_trans B1.out.size (Nat.le_trans S2.out.keep.2.1 s3.keep.2.1)) (by rw [← EBN.out]; exact HN.out.2)
    clear s3 o3
    go_wp2_with fail
    refine HSp.mono ?_
    rintro e w4 ⟨⟨u, rfl⟩, g4⟩
    obtain ⟨L', ms', T', hT', hD', _, _, hoff⟩ := du_send HV.out B1.out S2.out S3.out
    have FIN : Hid (T' ≤ T + 20000 ∧ Du w0 w4 N R T' L' ms') := ⟨by omega, hD'.spoilt O3.out HV.out.bel.size g4 (fun X eX => hoff X (row_lt4 O3.out eX).1 (by
      have := row_lt4 O1.out (k := X) eX
      exact this.2))⟩
    clear HSp g4 hT' hD' hoff
    go_wp2_with fail
    go_ret
    exact ⟨L', ms', T', rfl, FIN.out.1, FIN.out.2⟩
  by_cases e1 : k = 1
  · subst e1
    obtain ⟨bn, ebn⟩ : ∃ bn, b.length = bn := ⟨_, rfl⟩
    have EBN : Hid (b.length = bn) := ebn
    rw [ebn]
    have CV2 : Hid (V.heap[B]? = some (.cells #[.int .i64 1, .int .i64 f, .int .i64 n, .slice a bn c] 32 (0, 0))) := by rw [← ebn]; exact CV.out
    rw [ebn] at EV
    clear CV ebn
    have cv3 : V.cell? ⟨B, 3, none⟩ = some (.slice a bn c) := by simp only [World.cell?, CV2.out]; rfl
    go_enter Try.func5, Try.ntmps5
    repeat
      (fail_if_success (guard_target =~ (Code.region 5 _ _).wp _ _ _ _)
       first | go_values | go_skip | go_guarded | go_step | go_upon | go_back | go_simp)
    rw [show _ = V from EV.out, EB.out]
    clear EV EB
    have HL := lent_any a bn c b V (by rw [← EBN.out]; exact HS.out V HV.out.bel) HN.out.1 (by rw [← EBN.out]; exact HN.out.2)
    go_wp2_with fail
    refine HL.mono ?_
    rintro e w1 ⟨g, gc, rfl, o1, b1⟩
    clear HL cv3
    have B1 : Hid (Below V.heap.size V w1) := b1
    have O1 : Hid (w1.ownsRow V.heap.size 5 1 (.slice (some ⟨g, 0, none⟩) (bn + 1) gc) (bn + 1) (cellsOf (b ++ [167#8]))) := o1
    have C1 : Hid (w1.heap[B]? = some (.cells #[.int .i64 1, .int .i64 f, .int .i64 n, .slice a bn c] 32 (0, 0))) := (b1.block _ (Array.getElem?_eq_some_iff.1 CV2.out).1).trans CV2.out
    have q11 : w1.cell? ⟨B, 1, none⟩ = some (.int .i64 f) := by simp only [World.cell?, C1.out]; rfl
    have q12 : w1.cell? ⟨B, 2, none⟩ = some (.int .i64 n) := by simp only [World.cell?, C1.out]; rfl
    have HSn := sendN (HV.out.below b1).net f n (some ⟨g, 0, none⟩) gc b (by rw [EBN.out]; exact seen_owned (owns_lessN o1 EBN.out) EBN.out (by have := HN.out.2; have := EBN.out; unfold maxLen; omega)) (fun e => by cases e) HT.out
    rw [HV.out.tw.1, EBN.out] at HSn
    clear o1 b1
    go_wp2_with fail
    refine HSn.mono ?_
    rintro e w2 ⟨rfl, s2⟩
    clear HSn q11 q12
    have k2 := s2.keep
    have S2 : Hid (SentN w0.heap.size N T L f n b w1 w2) := s2
    have O2 : Hid (w2.ownsRow V.heap.size 5 1 (.slice (some ⟨g, 0, none⟩) (bn + 1) gc) (bn + 1) (cellsOf (b ++ [167#8]))) := own8_nk O1.out k2
    have C2 : Hid (w2.heap[B]? = some (.cells #[.int .i64 1, .int .i64 f, .int .i64 n, .slice a bn c] 32 (0, 0))) := k2.cells C1.out tOp1 tOp2
    have bw2 : Below w0.heap.size w0 w2 := (HV.out.bel.trans (B1.out.mono HV.out.bel.size)).trans k2.1
    obtain ⟨v, hr⟩ := (HV.out.below B1.out).ref
    have HSr := rsendN (hr.nk k2) f n a c b (HS.out w2 bw2) HN.out.1
    rw [EBN.out] at HSr
    have HKp := kept_any g gc bn b a c w2 V.heap.size O2.out (by rw [← EBN.out]; exact HS.out w2 bw2) (by rw [← EBN.out]; exact HN.out.2)
    have q21 : w2.cell? ⟨B, 1, none⟩ = some (.int .i64 f) := by simp only [World.cell?, C2.out]; rfl
    have q22 : w2.cell? ⟨B, 2, none⟩ = some (.int .i64 n) := by simp only [World.cell?, C2.out]; rfl
    have q23 : w2.cell? ⟨B, 3, none⟩ = some (.slice a bn c) := by simp only [World.cell?, C2.out]; rfl
    obtain ⟨er, eer⟩ : ∃ er, errS f n b ms.length = er := ⟨_, rfl⟩
    rw [eer] at HSr
    rw [eer]
    have kk : (er == er) = true := by simp
    clear k2 s2 hr bw2 eer
    go_wp2_with fail
    refine HKp.mono ?_
    rintro e w2' ⟨rfl, rfl⟩
    clear HKp
    go_wp2_with fail
    refine HSr.mono ?_
    rintro e w3 ⟨rfl, s3⟩
    clear HSr q21 q22 q23
    have S3 : Hid (SentR w0.heap.size R ms f n b w2' w3) := s3
    have o3 : w3.ownsRow V.heap.size 5 1 (.slice (some ⟨g, 0, none⟩) bn gc) bn (cellsOf b) := owns_lessN (own8_rk O2.out s3.keep) EBN.out
    have O3 : Hid (w3.ownsRow V.heap.size 5 1 (.slice (some ⟨g, 0, none⟩) bn gc) bn (cellsOf b)) := o3
    have HSp := spoil_row V.heap.size _ bn b w3 o3 (Nat.le_trans B1.out.size (Nat.le_trans S2.out.keep.2.1 s3.keep.2.1)) (by rw [← EBN.out]; exact HN.out.2)
    clear s3 o3
    go_wp2_with fail
    refine HSp.mono ?_
    rintro e w4 ⟨⟨u, rfl⟩, g4⟩
    obtain ⟨L', ms', T', hT', hD', _, _, hoff⟩ := du_send HV.out B1.out S2.out S3.out
    have FIN : Hid (T' ≤ T + 20000 ∧ Du w0 w4 N R T' L' ms') := ⟨by omega, hD'.spoilt O3.out HV.out.bel.size g4 (fun X eX => hoff X (row_lt4 O3.out eX).1 (by
      have := row_lt4 O1.out (k := X) eX
      exact this.2))⟩
    clear HSp g4 hT' hD' hoff
    go_wp2_with fail
    go_ret
    exact ⟨L', ms', T', rfl, FIN.out.1, FIN.out.2⟩
  by_cases e2 : k = 2
  · subst e2
    obtain ⟨bn, ebn⟩ : ∃ bn, b.length = bn := ⟨_, rfl⟩
    have EBN : Hid (b.length = bn) := ebn
    rw [ebn]
    have CV2 : Hid (V.heap[B]? = some (.cells #[.int .i64 2, .int .i64 f, .int .i64 n, .slice a bn c] 32 (0, 0))) := by rw [← ebn]; exact CV.out
    rw [ebn] at EV
    clear CV ebn
    have cv3 : V.cell? ⟨B, 3, none⟩ = some (.slice a bn c) := by simp only [World.cell?, CV2.out]; rfl
    go_enter Try.func5, Try.ntmps5
    repeat
      (fail_if_success (guard_target =~ (Code.region 5 _ _).wp _ _ _ _)
       first | go_values | go_skip | go_guarded | go_step | go_upon | go_back | go_simp)
    rw [show _ = V from EV.out, EB.out]
    clear EV EB
    have HL := lent_any a bn c b V (by rw [← EBN.out]; exact HS.out V HV.out.bel) HN.out.1 (by rw [← EBN.out]; exact HN.out.2)
    go_wp2_with fail
    refine HL.mono ?_
    rintro e w1 ⟨g, gc, rfl, o1, b1⟩
    clear HL cv3
    have B1 : Hid (Below V.heap.size V w1) := b1
    have O1 : Hid (w1.ownsRow V.heap.size 5 1 (.slice (some ⟨g, 0, none⟩) (bn + 1) gc) (bn + 1) (cellsOf (b ++ [167#8]))) := o1
    have C1 : Hid (w1.heap[B]? = some (.cells #[.int .i64 2, .int .i64 f, .int .i64 n, .slice a bn c] 32 (0, 0))) := (b1.block _ (Array.getElem?_eq_some_iff.1 CV2.out).1).trans CV2.out
    have q11 : w1.cell? ⟨B, 1, none⟩ = some (.int .i64 f) := by simp only [World.cell?, C1.out]; rfl
    have q12 : w1.cell? ⟨B, 2, none⟩ = some (.int .i64 n) := by simp only [World.cell?, C1.out]; rfl
    have HSn := sendN (HV.out.below b1).net f n (some ⟨g, 0, none⟩) gc b (by rw [EBN.out]; exact seen_owned (owns_lessN o1 EBN.out) EBN.out (by have := HN.out.2; have := EBN.out; unfold maxLen; omega)) (fun e => by cases e) HT.out
    rw [HV.out.tw.1, EBN.out] at HSn
    clear o1 b1
    go_wp2_with fail
    refine HSn.mono ?_
    rintro e w2 ⟨rfl, s2⟩
    clear HSn q11 q12
    have k2 := s2.keep
    have S2 : Hid (SentN w0.heap.size N T L f n b w1 w2) := s2
    have O2 : Hid (w2.ownsRow V.heap.size 5 1 (.slice (some ⟨g, 0, none⟩) (bn + 1) gc) (bn + 1) (cellsOf (b ++ [167#8]))) := own8_nk O1.out k2
    have C2 : Hid (w2.heap[B]? = some (.cells #[.int .i64 2, .int .i64 f, .int .i64 n, .slice a bn c] 32 (0, 0))) := k2.cells C1.out tOp1 tOp2
    have bw2 : Below w0.heap.size w0 w2 := (HV.out.bel.trans (B1.out.mono HV.out.bel.size)).trans k2.1
    obtain ⟨v, hr⟩ := (HV.out.below B1.out).ref
    have HSr := rsendN (hr.nk k2) f n a c b (HS.out w2 bw2) HN.out.1
    rw [EBN.out] at HSr
    have HKp := kept_any g gc bn b a c w2 V.heap.size O2.out (by rw [← EBN.out]; exact HS.out w2 bw2) (by rw [← EBN.out]; exact HN.out.2)
    have q21 : w2.cell? ⟨B, 1, none⟩ = some (.int .i64 f) := by simp only [World.cell?, C2.out]; rfl
    have q22 : w2.cell? ⟨B, 2, none⟩ = some (.int .i64 n) := by simp only [World.cell?, C2.out]; rfl
    have q23 : w2.cell? ⟨B, 3, none⟩ = some (.slice a bn c) := by simp only [World.cell?, C2.out]; rfl
    obtain ⟨er, eer⟩ : ∃ er, errS f n b ms.length = er := ⟨_, rfl⟩
    rw [eer] at HSr
    rw [eer]
    have kk : (er == er) = true := by simp
    clear k2 s2 hr bw2 eer
    go_wp2_with fail
    refine HKp.mono ?_
    rintro e w2' ⟨rfl, rfl⟩
    clear HKp
    go_wp2_with fail
    refine HSr.mono ?_
    rintro e w3 ⟨rfl, s3⟩
    clear HSr q21 q22 q23
    have S3 : Hid (SentR w0.heap.size R ms f n b w2' w3) := s3
    have o3 : w3.ownsRow V.heap.size 5 1 (.slice (some ⟨g, 0, none⟩) bn gc) bn (cellsOf b) := owns_lessN (own8_rk O2.out s3.keep) EBN.out
    have O3 : Hid (w3.ownsRow V.heap.size 5 1 (.slice (some ⟨g, 0, none⟩) bn gc) bn (cellsOf b)) := o3
    have HSp := spoil_row V.heap.size _ bn b w3 o3 (Nat.le_trans B1.out.size (Nat.le_trans S2.out.keep.2.1 s3.keep.2.1)) (by rw [← EBN.out]; exact HN.out.2)
    clear s3 o3
    go_wp2_with fail
    refine HSp.mono ?_
    rintro e w4 ⟨⟨u, rfl⟩, g4⟩
    obtain ⟨L', ms', T', hT', hD', _, _, hoff⟩ := du_send HV.out B1.out S2.out S3.out
    have FIN : Hid (T' ≤ T + 20000 ∧ Du w0 w4 N R T' L' ms') := ⟨by omega, hD'.spoilt O3.out HV.out.bel.size g4 (fun X eX => hoff X (row_lt4 O3.out eX).1 (by
      have := row_lt4 O1.out (k := X) eX
      exact this.2))⟩
    clear HSp g4 hT' hD' hoff
    go_wp2_with fail
    go_ret
    exact ⟨L', ms', T', rfl, FIN.out.1, FIN.out.2⟩
  by_cases e3 : k = 3
  · subst e3
    have CV2 : Hid (V.heap[B]? = some (.cells #[.int .i64 3, .int .i64 f, .int .i64 n, .slice a b.length c] 32 (0, 0))) := CV.out
    clear CV
    have cv2 : V.cell? ⟨B, 2, none⟩ = some (.int .i64 n) := by simp only [World.cell?, CV2.out]; rfl
    go_enter Try.func5, Try.ntmps5
    repeat
      (fail_if_success (guard_target =~ (Code.region 11 _ _).wp _ _ _ _)
       first | go_values | go_skip | go_guarded | go_step | go_upon | go_back | go_simp)
    rw [show _ = V from EV.out, EB.out]
    clear EV EB
    have HTk := takeD HV.out.net n HT.out
    rw [HV.out.tw.1] at HTk
    go_wp2_with fail
    refine HTk.mono ?_
    rintro e w1 ⟨f1, n1, a1, c1, l1, rfl, o1, t1, d1⟩
    clear HTk cv2
    have bA := (Below.refl _ w1).alloc (Nat.le_refl _) (.cells #[.int .i64 f1, .int .i64 n1, .slice a1 l1.length c1] 45)
    have qA := heap_alloc_new w1 (.cells #[.int .i64 f1, .int .i64 n1, .slice a1 l1.length c1] 45)
    obtain ⟨wA, eA⟩ : ∃ x, w1.alloc (.cells #[.int .i64 f1, .int .i64 n1, .slice a1 l1.length c1] 45) = x := ⟨_, rfl⟩
    rw [eA] at bA qA
    have EA : Hid _ := eA
    have DA : Hid (CutL w0.heap.size N T L n V wA) := d1.below bA
    have OA : Hid (OwnAt V.heap.size wA (.slice a1 l1.length c1) l1) := o1.below bA
    have QA : Hid (wA.heap[w1.heap.size]? = some (.cells #[.int .i64 f1, .int .i64 n1, .slice a1 l1.length c1] 45 (0, 0))) := qA
    have CA : Hid (wA.heap[B]? = some (.cells #[.int .i64 3, .int .i64 f, .int .i64 n, .slice a b.length c] 32 (0, 0))) := DA.out.keep.cells CV2.out tOp1 tOp2
    have T1 : Hid (LetL L n f1 n1 l1) := t1
    have qa2 : wA.cell? ⟨B, 2, none⟩ = some (.int .i64 n) := by simp only [World.cell?, CA.out]; rfl
    obtain ⟨v, hr⟩ := HV.out.ref
    have HRk := rtakeD (hr.nk DA.out.keep) n
    obtain ⟨er, eer⟩ : ∃ er, errT n ms.length = er := ⟨_, rfl⟩
    rw [eer] at HRk
    rw [eer]
    obtain ⟨m1, em1⟩ : ∃ m1, l1.length = m1 := ⟨_, rfl⟩
    have EM1 : Hid (l1.length = m1) := em1
    rw [em1] at EA
    rw [em1]
    clear bA qA eA d1 o1 t1 hr eer em1
    repeat
      (fail_if_success (guard_target =~ (Code.region 12 _ _).wp _ _ _ _)
       first | go_values | go_skip | go_guarded | go_step | go_upon | go_back | go_simp)
    rw [show _ = wA from EA.out]
    clear EA
    go_wp2_with fail
    refine HRk.mono ?_
    rintro e w2 ⟨f2, n2, a2, c2, l2, rfl, dd, t2, d2⟩
    clear HRk qa2
    obtain ⟨rfl, rfl, rfl⟩ := let_same HV.out.tw T1.out t2
    have bB := (Below.refl _ w2).alloc (Nat.le_refl _) (.cells #[.int .i64 f1, .int .i64 n1, .slice a2 l1.length c2] 48)
    have qB := heap_alloc_new w2 (.cells #[.int .i64 f1, .int .i64 n1, .slice a2 l1.length c2] 48)
    obtain ⟨wB, eB2⟩ : ∃ x, w2.alloc (.cells #[.int .i64 f1, .int .i64 n1, .slice a2 l1.length c2] 48) = x := ⟨_, rfl⟩
    rw [eB2] at bB qB
    have EB2 : Hid _ := eB2
    have DB : Hid (CutM w0.heap.size R ms n wA wB) := d2.below bB
    have QB : Hid (wB.heap[w2.heap.size]? = some (.cells #[.int .i64 f1, .int .i64 n1, .slice a2 l1.length c2] 48 (0, 0))) := qB
    have QAB : Hid (wB.heap[w1.heap.size]? = some (.cells #[.int .i64 f1, .int .i64 n1, .slice a1 l1.length c1] 45 (0, 0))) := DB.out.keep.cells QA.out tNL1 tNL2
    have OB : Hid (OwnAt V.heap.size wB (.slice a1 l1.length c1) l1) := OA.out.rk DB.out.keep
    have SB : Hid (DataAt wB (.slice a2 l1.length c2) l1) := dd.below bB
    have SM : Hid (l1.length ≤ 1048576) := by
      rcases T1.out with ⟨_, _, _, e⟩ | ⟨i, hi, _, _, _, e⟩
      · show l1.length ≤ _; rw [e]; simp
      · show l1.length ≤ _; rw [e]; exact HV.out.net.1 _ (List.getElem_mem hi)
    rw [EM1.out] at EB2
    rw [EM1.out]
    clear bB qB eB2 d2 dd t2
    repeat
      (fail_if_success (guard_target =~ (Code.region 13 _ _).wp _ _ _ _)
       first | go_values | go_skip | go_guarded | go_step | go_upon | go_back | go_simp)
    rw [show _ = wB from EB2.out]
    clear EB2
    rw [← EM1.out]
    have sA : Seen wB a1 l1.length l1 := by
      obtain ⟨_, _, e, s, _⟩ := OB.out.data (by have := SM.out; omega)
      cases e
      exact s
    have sB : Seen wB a2 l1.length l1 := by
      obtain ⟨_, _, e, s, _⟩ := SB.out
      cases e
      exact s
    refine ns_r13 wB w1.heap.size w2.heap.size er f1 n1 a1 a2 c1 c2 l1 _ _ _ _ _ _ _ _ _ _ _ _ _ _ _ _ _ _ _ _ _ _ _ _ _ _ _ _ _ _ _ _ _ _ _ _ _ _ _ _ _ _ _ _ _ _ _ _ _ _ _ _ _ _ _ _ _ _ _ _ _ _ _ _ _ _ _ _ _ _ _ _ _ _ _ _ _ _ _ _ _ _ _ _ _ _ _ _ _ _ _ _ _ _ _ _ _ _ _ _ _ _ _ _ _ _ _ _ _ _ _ _ _ _ _ _ _ _ _ _ _ _ QAB.out QB.out sA sB _ _ ?_
    intro u69 u70 u71 u72 u73 u74 u75 u76 u77 Y bY
    obtain ⟨L', ms', hD', inL, inM⟩ := du_cut HV.out DA.out DB.out
    have DY : Hid (Du w0 Y N R T L' ms') := hD'.below bY
    have IN : Hid ((∀ p ∈ L', p ∈ L) ∧ ∀ q ∈ ms', q ∈ ms) := ⟨inL, inM⟩
    have OY : Hid (OwnAt V.heap.size Y (.slice a1 l1.length c1) l1) := OB.out.below bY
    have qy : Y.heap[w1.heap.size]? = _ := (bY.block _ (Array.getElem?_eq_some_iff.1 QAB.out).1).trans QAB.out
    have cy2 : Y.cell? ⟨w1.heap.size, 2, none⟩ = some (.slice a1 l1.length c1) := by simp only [World.cell?, qy]; rfl
    have HSp := spoil_row V.heap.size _ l1.length l1 Y OY.out (Nat.le_trans DA.out.keep.2.1 (Nat.le_trans DB.out.keep.2.1 bY.size)) (by have := SM.out; omega)
    rw [EM1.out] at cy2 HSp
    clear bY hD' inL inM qy sA sB
    go_wp2_with fail
    refine HSp.mono ?_
    rintro e w4 ⟨⟨u, rfl⟩, g4⟩
    have FIN : Hid (T ≤ T + 20000 ∧ Du w0 w4 N R T L' ms') := ⟨by omega, DY.out.spoilt OY.out HV.out.bel.size (by rw [EM1.out]; exact g4) (fun X eX => by
      obtain ⟨o1, o2⟩ := HV.out.off (row_lt4 OY.out eX).1
      exact ⟨fun p hp => o1 p (IN.out.1 p hp), fun q hq => o2 q (IN.out.2 q hq)⟩)⟩
    clear HSp g4 cy2
    go_wp2_with fail
    go_ret
    exact ⟨L', ms', T, rfl, FIN.out.1, FIN.out.2⟩
  by_cases e4 : k = 4
  · subst e4
    have CV2 : Hid (V.heap[B]? = some (.cells #[.int .i64 4, .int .i64 f, .int .i64 n, .slice a b.length c] 32 (0, 0))) := CV.out
    clear CV
    have cv2 : V.cell? ⟨B, 2, none⟩ = some (.int .i64 n) := by simp only [World.cell?, CV2.out]; rfl
    go_enter Try.func5, Try.ntmps5
    repeat
      (fail_if_success (guard_target =~ (Code.region 17 _ _).wp _ _ _ _)
       first | go_values | go_skip | go_guarded | go_step | go_upon | go_back | go_simp)
    rw [show _ = V from EV.out, EB.out]
    clear EV EB
    obtain ⟨v, hr⟩ := HV.out.ref
    have HRk := rtakeD hr n
    clear hr
    go_wp2_with fail
    refine HRk.mono ?_
    rintro e w2 ⟨f2, n2, a2, c2, l2, rfl, _, _, d2⟩
    clear HRk cv2
    have bB := (Below.refl _ w2).alloc (Nat.le_refl _) (.cells #[.int .i64 f2, .int .i64 n2, .slice a2 l2.length c2] 48)
    obtain ⟨wB, eB2⟩ : ∃ x, w2.alloc (.cells #[.int .i64 f2, .int .i64 n2, .slice a2 l2.length c2] 48) = x := ⟨_, rfl⟩
    rw [eB2] at bB
    have EB2 : Hid _ := eB2
    have DB : Hid (CutM w0.heap.size R ms n V wB) := d2.below bB
    have CB : Hid (wB.heap[B]? = some (.cells #[.int .i64 4, .int .i64 f, .int .i64 n, .slice a b.length c] 32 (0, 0))) := DB.out.keep.cells CV2.out tOp3 tOp4
    have qb2 : wB.cell? ⟨B, 2, none⟩ = some (.int .i64 n) := by simp only [World.cell?, CB.out]; rfl
    have HDr := dropD (HV.out.net.rk DB.out.keep) n HT.out
    rw [HV.out.tw.1] at HDr
    obtain ⟨er, eer⟩ : ∃ er, errT n ms.length = er := ⟨_, rfl⟩
    rw [eer] at HDr
    rw [eer]
    have kk : (er == er) = true := by simp
    obtain ⟨m2, em2⟩ : ∃ m2, l2.length = m2 := ⟨_, rfl⟩
    rw [em2] at EB2
    rw [em2]
    clear bB eB2 d2 eer em2
    repeat
      (fail_if_success (guard_target =~ (Code.region 18 _ _).wp _ _ _ _)
       first | go_values | go_skip | go_guarded | go_step | go_upon | go_back | go_simp)
    rw [show _ = wB from EB2.out]
    clear EB2
    go_wp2_with fail
    refine HDr.mono ?_
    rintro e w3 ⟨rfl, d3⟩
    obtain ⟨L', ms', hD'⟩ := du_cut2 HV.out DB.out d3
    have FIN : Hid (T ≤ T + 20000 ∧ Du w0 w3 N R T L' ms') := ⟨by omega, hD'⟩
    clear HDr d3 hD' qb2
    go_wp2_with fail
    go_ret
    exact ⟨L', ms', T, rfl, FIN.out.1, FIN.out.2⟩
  by_cases e5 : k = 5
  · subst e5
    have CV2 : Hid (V.heap[B]? = some (.cells #[.int .i64 5, .int .i64 f, .int .i64 n, .slice a b.length c] 32 (0, 0))) := CV.out
    clear CV
    have cv2 : V.cell? ⟨B, 2, none⟩ = some (.int .i64 n) := by simp only [World.cell?, CV2.out]; rfl
    go_enter Try.func5, Try.ntmps5
    repeat
      (fail_if_success (guard_target =~ (Code.region 20 _ _).wp _ _ _ _)
       first | go_values | go_skip | go_guarded | go_step | go_upon | go_back | go_simp)
    rw [show _ = V from EV.out, EB.out]
    clear EV EB
    refine ns_r20 w0 V N R T B L ms n HV.out HT.out _ _ _ _ _ _ _ _ _ _ _ _ _ _ _ _ _ _ _ _ _ _ _ _ _ _ _ _ _ _ _ _ _ _ _ _ _ _ _ _ _ _ _ _ _ _ _ _ _ _ _ _ _ _ _ _ _ _ _ _ _ _ _ _ _ _ _ _ _ _ _ _ _ _ _ _ _ _ _ _ _ _ _ _ _ _ _ _ _ _ _ _ _ _ _ _ _ _ _ _ _ _ _ _ _ _ _ _ _ _ _ _ _ _ _ _ _ _ _ _ _ _ _ _ CV2.out rfl _ _ ?_
    intro u99 u100 u101 u102 u103 u104 u105 u106 u107 L' ms' T' Y hT' hD'
    have FIN : Hid (T' ≤ T + 20000 ∧ Du w0 Y N R T' L' ms') := ⟨by omega, hD'⟩
    clear cv2 hT' hD'
    go_wp2_with fail
    go_ret
    exact ⟨L', ms', T', rfl, FIN.out.1, FIN.out.2⟩
  by_cases e6 : k = 6
  · subst e6
    have CV2 : Hid (V.heap[B]? = some (.cells #[.int .i64 6, .int .i64 f, .int .i64 n, .slice a b.length c] 32 (0, 0))) := CV.out
    clear CV
    have cv2 : V.cell? ⟨B, 2, none⟩ = some (.int .i64 n) := by simp only [World.cell?, CV2.out]; rfl
    go_enter Try.func5, Try.ntmps5
    repeat
      (fail_if_success (guard_target =~ (Code.region 22 _ _).wp _ _ _ _)
       first | go_values | go_skip | go_guarded | go_step | go_upon | go_back | go_simp)
    rw [show _ = V from EV.out, EB.out]
    clear EV EB
    have HCn := count_any n 3 V (by have := HI.out; omega) (by have := HI.out; omega) (by omega) (by omega)
    have hk0 : 0 ≤ n % 3 := Int.emod_nonneg _ (by omega)
    have hk3 : n % 3 < 3 := Int.emod_lt_of_pos _ (by omega)
    obtain ⟨kk, ekk⟩ : ∃ kk, n % 3 = kk := ⟨_, rfl⟩
    rw [ekk] at HCn hk0 hk3
    clear ekk
    go_wp2_with fail
    refine HCn.mono ?_
    rintro e V' ⟨rfl, rfl⟩
    clear HCn cv2
    have KK : Hid (0 ≤ kk ∧ kk < 3) := ⟨hk0, hk3⟩
    go_wp2_with fail
    go_loopw [113] (fun _ wr => ∃ (L' : List Post) (ms' : List OpN) (T' : Nat), Hid (Du w0 wr N R T' L' ms') ∧ Hid (T' + L.length ≤ T + L'.length)) (fun _ wr => roomR R wr)
    case atStart => exact ⟨L, ms, T, HV.out, Nat.le_refl _⟩
    case round =>
      obtain ⟨L', ms', T', hD, hT'⟩ := hrel
      obtain ⟨v, hr⟩ := hD.out.ref
      have q0 := hr.c0
      obtain ⟨ra, rc, rfl⟩ := hr.form
      have RM : Hid (roomR R wr = 10000 - ms'.length) := roomR_is hr
      have hl := hr.len
      obtain ⟨m, em⟩ : ∃ m, ms'.length = m := ⟨_, rfl⟩
      have EM : Hid (ms'.length = m) := em
      have ELn : Hid (L'.length = m) := by show _ = m; rw [hD.out.tw.1, em]
      rw [em] at q0 hl
      have wk : IntKind.i64.wrap (10000 - kk) = 10000 - kk := by rw [IntKind.wrap_i64]; omega
      by_cases hlt : (m : Int) < 10000 - kk
      · have HLt : Hid (m < 10000) := by show m < 10000; omega
        have HSn := sendN hD.out.net 0 1 none 0 [] ⟨rfl, by simp, .inl rfl⟩ (fun _ => rfl) (by have := hT'.out; have := HT2.out; have := ELn.out; omega)
        have er0 : errS 0 1 [] L'.length = 0 := errS_ok (by decide) (by simp) (by rw [ELn.out]; exact HLt.out)
        rw [er0, List.length_nil] at HSn
        have EMs : Hid (errS 0 1 [] ms'.length = 0) := by show _ = _; rw [← hD.out.tw.1]; exact er0
        have EL0 : Hid (errS 0 1 [] L'.length = 0) := er0
        clear em hl hr er0
        go_wp2_with fail
        refine HSn.mono ?_
        rintro e w2 ⟨rfl, s2⟩
        clear HSn q0
        obtain ⟨v2, hr2⟩ := hD.out.ref
        have HSr := rsendN (hr2.nk s2.keep) 0 1 none 0 [] ⟨rfl, by simp, .inl rfl⟩ (fun _ => rfl)
        rw [EMs.out, List.length_nil] at HSr
        have S2 : Hid (SentN w0.heap.size N T' L' 0 1 [] wr w2) := s2
        clear s2 hr2
        go_wp2_with fail
        refine HSr.mono ?_
        rintro e w3 ⟨rfl, s3⟩
        clear HSr
        obtain ⟨L2, ms2, T2, hT2, hD2, _, hLen, _⟩ := du_send hD.out (Below.refl _ wr) S2.out s3
        have hL2 := hLen EL0.out
        have D2 : Hid (Du w0 w3 N R T2 L2 ms2) := hD2
        have TT : Hid (T2 + L.length ≤ T + L2.length) := by show _ ≤ _; have := hT'.out; omega
        have ME : Hid (roomR R w3 < roomR R wr) := by
          obtain ⟨v3, hr3⟩ := hD2.ref
          show _ < _
          rw [RM.out, roomR_is hr3]
          have := hD2.tw.1
          have := ELn.out
          have := EM.out
          have := HLt.out
          omega
        clear s3 hT2 hD2 hLen hL2
        go_wp2_with fail
        go_roundw
        case rel => exact ⟨L2, ms2, T2, D2.out, TT.out⟩
        case measure => exact ME.out
      · have hge : ¬ ((m : Int) < 10000 - kk) := hlt
        have FIN : Hid (T' ≤ T + 20000 ∧ Du w0 wr N R T' L' ms') := ⟨by have := hT'.out; have := ELn.out; omega, hD.out⟩
        clear hlt hr em
        go_wp2_with fail
        go_ret
        exact ⟨rfl, L', ms', T', FIN.out.1, FIN.out.2⟩
  · have g0 : (k == 0) = false := by simp [e0]
    have g1 : (k == 1) = false := by simp [e1]
    have g2 : (k == 2) = false := by simp [e2]
    have g3 : (k == 3) = false := by simp [e3]
    have g4 : (k == 4) = false := by simp [e4]
    have g5 : (k == 5) = false := by simp [e5]
    have g6 : (k == 6) = false := by simp [e6]
    have cv0 : V.cell? ⟨B, 0, none⟩ = some (.int .i64 k) := by simp only [World.cell?, CV.out]; rfl
    have FIN : Hid (T ≤ T + 20000 ∧ Du w0 V N R T L ms) := ⟨by omega, HV.out⟩
    clear e0 e1 e2 e3 e4 e5 e6
    go_enter Try.func5, Try.ntmps5
    repeat
      (fail_if_success (guard_target =~ (Code.region 1 _ _).wp _ _ _ _)
       first | go_values | go_skip | go_guarded | go_step | go_upon | go_back | go_simp)
    rw [show _ = V from EV.out, EB.out]
    go_wp2_with fail
    go_ret
    exact ⟨L, ms, T, rfl, FIN.out.1, FIN.out.2⟩
end Go.Proofs.Ytccmehbdnnelhaa
