/- The reference of package net: Take. -/
import Derived.Test.YtccmehbdnnelhaaNGa
namespace Go.Proofs.Ytccmehbdnnelhaa
open Go.RowKit Go.Maps
attribute [local go_sem] Oper.semAt_some
set_option linter.unusedVariables false
theorem sizeRL : Try.prog.elem 26 = 48 := by kernel_rfl
theorem run_headR (w : World) (g i m c : Nat) (h : i ≤ c) : (Instr.sliceAt 26 (.slice (some ⟨g, 0, none⟩) m c) none (some (.int .i64 (i : Int))) none).run Try.prog w = .ok (.slice (some ⟨g, 0, none⟩) i c) w := by
  have hu : Try.prog.underlying 26 = some (.slice (Try.prog.elem 26)) := by kernel_rfl
  have hz : (Go.sizeOf 48).run Try.prog w = .ok 3 w := by kernel_rfl
  rw [run_sliceAt_slice (t := 26) (h := hu), run_slice_h (t := 26) (len := m) (cap := c) (ht := hu) (kh := .i64) (h0 := by omega) (h2 := by omega), sizeRL, hz]
  simp [Result.andThen, sliced, addr_add]
theorem run_tailR (w : World) (g i m c : Nat) (h : i + 1 ≤ m) : (Instr.sliceAt 26 (.slice (some ⟨g, 0, none⟩) m c) (some (.int .i64 ((i : Int) + 1))) none none).run Try.prog w = .ok (.slice (some (if c = i + 1 then ⟨g, 0, none⟩ else ⟨g, (i + 1) * 3, none⟩)) (m - (i + 1)) (c - (i + 1))) w := by
  have hu : Try.prog.underlying 26 = some (.slice (Try.prog.elem 26)) := by kernel_rfl
  have hz : (Go.sizeOf 48).run Try.prog w = .ok 3 w := by kernel_rfl
  rw [run_sliceAt_slice (t := 26) (h := hu), run_slice_l (t := 26) (len := m) (cap := c) (ht := hu) (kl := .i64) (h0 := by omega) (h1 := by omega), sizeRL, hz]
  have e : ((i : Int) + 1).toNat = i + 1 := by omega
  by_cases hh : c = i + 1 <;> simp [Result.andThen, sliced, addr_add, e, hh]
/-- What the reference's Take answers. -/
def RTakeTold (base R : Nat) (ms : List OpN) (k : Int) (w w' : World) (e : Ending) : Prop :=
  ((k < 0 ∨ (ms.length : Int) ≤ k) ∧ e = .returned (.tuple #[.agg #[.int .i64 0, .int .i64 0, .slice none 0 0], .int .i64 1]) ∧ Below w.heap.size w w') ∨
  ∃ (i : Nat) (hi : i < ms.length), k = (i : Int) ∧ e = .returned (.tuple #[.agg #[.int .i64 ms[i].f, .int .i64 ms[i].n, .slice ms[i].a ms[i].b.length ms[i].c], .int .i64 0]) ∧ ∃ v', RefIn w' base R v' (ms.eraseIdx i) ∧ RKeep base w w'
set_option maxRecDepth 100000 in
set_option maxHeartbeats 2000000 in
theorem rtake_any {w : World} {base R : Nat} {v : Value} {ms : List OpN} (h : RefIn w base R v ms) (k : Int) : Calls Try.prog 14 #[.pointer (some ⟨R, 0, none⟩), .int .i64 k] w fun e w' => RTakeTold base R ms k w w' e := by
  have bA := (Below.refl w.heap.size w).alloc (Nat.le_refl _) (.cells #[.int .i64 0, .int .i64 0, .slice none 0 0] 48)
  have r0 := row3r w
  have hA := h.below bA
  have hbs : base ≤ w.heap.size := Nat.le_of_lt (Nat.lt_of_le_of_lt h.bR h.lt)
  obtain ⟨wA, eA⟩ : ∃ wA, w.alloc (.cells #[.int .i64 0, .int .i64 0, .slice none 0 0] 48) = wA := ⟨_, rfl⟩
  rw [eA] at bA r0 hA
  have HL := rlook_any hA k
  have R0 : Hid (wA.heap[w.heap.size]? = some (.cells #[.int .i64 0, .int .i64 0, .slice none 0 0] 48 (0, 0))) := r0
  have BA : Hid (Below w.heap.size w wA ∧ base ≤ w.heap.size) := ⟨bA, hbs⟩
  have HA : Hid (RefIn wA base R v ms) := hA
  obtain ⟨S0, eS0⟩ : ∃ S0, w.heap.size = S0 := ⟨_, rfl⟩
  rw [eS0] at R0
  have ES : Hid (w.heap.size = S0) := eS0
  obtain ⟨a, c, ev⟩ := h.form
  clear h hA bA r0 hbs
  go_enter Try.func14, Try.ntmps14
  go_wp2_with (first | (rw [eA]) | fail)
  try rw [eA]
  refine HL.mono ?_
  rintro e w1 ⟨ft, b1⟩
  clear HL
  try rw [eS0]
  clear eA eS0
  have lt0 := (Array.getElem?_eq_some_iff.1 R0.out).1
  rcases ft with ⟨hk, rfl⟩ | ⟨i, hi, rfl, rfl⟩
  · have bS := (Below.refl _ w1).alloc (Nat.le_refl _) (.cells #[.int .i64 0, .int .i64 0, .slice none 0 0] 48)
    have r1 : (w1.alloc (.cells #[.int .i64 0, .int .i64 0, .slice none 0 0] 48)).heap[S0]? = some (.cells #[.int .i64 0, .int .i64 0, .slice none 0 0] 48 (0, 0)) := by
      rw [bS.block S0 (Nat.lt_of_lt_of_le lt0 b1.size), b1.block S0 lt0]
      exact R0.out
    have R1 : Hid _ := r1
    have HKk : Hid (k < 0 ∨ (ms.length : Int) ≤ k) := hk
    have BS : Hid (Below w.heap.size w (w1.alloc (.cells #[.int .i64 0, .int .i64 0, .slice none 0 0] 48))) := (BA.out.1.trans (b1.mono BA.out.1.size)).trans (bS.mono (BA.out.1.trans (b1.mono BA.out.1.size)).size)
    clear r1 bS b1 lt0 hk ev
    go_wp2_with (first | (refine wpList_store_row rfl 48 (.tmp 4) (.tmp 17) rfl S0 #[.int .i64 0, .int .i64 0, .slice none 0 0] rfl rfl 48 _ R1.out (by kernel_rfl) rfl (by simp [Value.oneCell']) ?_))
    exact bodyPost_ret (results_rowN rfl _ _ S0 48 _ _ _ rfl (setRow_heap _ _ _ _ _ _ R1.out) Try.underlying48 rfl (by kernel_rfl)) rfl (.inl ⟨HKk.out, rfl, rowN_below BS.out (by rw [← ES.out]; exact Nat.le_refl _)⟩)
  · obtain ⟨o, eo⟩ : ∃ o, ms[i] = o := ⟨_, rfl⟩
    rw [eo]
    have a2 := (Below.refl _ w1).alloc (Nat.le_refl _) (.cells #[.int .i64 o.f, .int .i64 o.n, .slice o.a o.b.length o.c] 48)
    have n2 := heap_alloc_new w1 (.cells #[.int .i64 o.f, .int .i64 o.n, .slice o.a o.b.length o.c] 48)
    obtain ⟨w2, e2⟩ : ∃ w2, w1.alloc (.cells #[.int .i64 o.f, .int .i64 o.n, .slice o.a o.b.length o.c] 48) = w2 := ⟨_, rfl⟩
    rw [e2] at a2 n2
    have b2 : Below wA.heap.size wA w2 := b1.trans (a2.mono b1.size)
    have h2 := HA.out.below b2
    have B0 : Below w.heap.size w w2 := BA.out.1.trans (b2.mono BA.out.1.size)
    have z2 : w2.heap[S0]? = some (.cells #[.int .i64 0, .int .i64 0, .slice none 0 0] 48 (0, 0)) := (b2.block S0 lt0).trans R0.out
    obtain ⟨P, eP⟩ : ∃ P, w1.heap.size = P := ⟨_, rfl⟩
    rw [eP] at n2
    have ltP := (Array.getElem?_eq_some_iff.1 n2).1
    have lt2 := (Array.getElem?_eq_some_iff.1 z2).1
    obtain ⟨g, c', ev', _, _⟩ := h2.row.form (by omega)
    rw [ev'] at h2 ev
    injection ev with ev1 ev2 ev3
    subst ev3
    have q2 := h2.c0
    obtain ⟨v1, w3, v2, w4, r3, b3, r4, b4, fz, rf, ow, rk⟩ := h2.cut hi
    obtain ⟨va2, vc2, ev2f⟩ := rf.form
    obtain ⟨vn2, evn2⟩ : ∃ n, (ms.eraseIdx i).length = n := ⟨_, rfl⟩
    rw [evn2] at ev2f
    subst ev2f
    clear evn2
    have q3 := (h2.below b3).c0
    have q4 := (h2.below b4).c0
    have cap := (show ms.length ≤ c' by
      rcases h2.row.2 with ⟨e, _⟩ | ⟨g', c2, cur, e, _, _, hnc, _⟩
      · cases e
      · injection e with _ _ e3
        omega)
    have hne : ∀ q, (Value.slice va2 vn2 vc2).ownBlock = some q → q ≠ S0 := fun q hq e => by have := ow q hq; omega
    have neR : S0 ≠ R := fun e => by rw [e, h2.hR] at z2; injection z2 with z2; injection z2 with _ z2 _; exact tMR z2
    have nPR : P ≠ R := fun e => by rw [e, h2.hR] at n2; injection n2 with n2; injection n2 with _ n2 _; exact tMR n2
    have z5 : (w4.setCell ⟨R, 0, none⟩ (Value.slice va2 vn2 vc2)).heap[S0]? = some (.cells #[.int .i64 0, .int .i64 0, .slice none 0 0] 48 (0, 0)) := (heap_setCell_other w4 ⟨R, 0, none⟩ S0 (Value.slice va2 vn2 vc2) neR).trans ((b4.block S0 lt2).trans z2)
    have n5 : (w4.setCell ⟨R, 0, none⟩ (Value.slice va2 vn2 vc2)).heap[P]? = some (.cells #[.int .i64 o.f, .int .i64 o.n, .slice o.a o.b.length o.c] 48 (0, 0)) := (heap_setCell_other w4 ⟨R, 0, none⟩ P (Value.slice va2 vn2 vc2) nPR).trans ((b4.block P ltP).trans n2)
    have FIN : Hid (∃ v', RefIn ((w4.setCell ⟨R, 0, none⟩ (Value.slice va2 vn2 vc2)).setRow S0 #[.int .i64 o.f, .int .i64 o.n, .slice o.a o.b.length o.c]) base R v' (ms.eraseIdx i) ∧ RKeep base w ((w4.setCell ⟨R, 0, none⟩ (Value.slice va2 vn2 vc2)).setRow S0 #[.int .i64 o.f, .int .i64 o.n, .slice o.a o.b.length o.c])) :=
      ⟨(Value.slice va2 vn2 vc2), rf.away z5 hne, ((RKeep.of_below B0 BA.out.2).trans rk).away BA.out.2 (by rw [ES.out]; exact Nat.le_refl _)⟩
    have EO : Hid (∃ hi : i < ms.length, ms[i] = o) := ⟨hi, eo⟩
    have wl := h2.len
    obtain ⟨m, em⟩ : ∃ m, ms.length = m := ⟨_, rfl⟩
    rw [em] at q2 q3 q4 r4 cap wl hi
    have wi : IntKind.i64.wrap ((i : Int) + 1) = (i : Int) + 1 := by rw [IntKind.wrap_i64]; omega
    have k1 : i ≤ c' := by omega
    have k2 : i + 1 ≤ m := by omega
    have N5 : Hid _ := n5
    have Z5 : Hid _ := z5
    obtain ⟨ta, eta⟩ : ∃ ta : Addr, (if c' = i + 1 then (⟨g, 0, none⟩ : Addr) else ⟨g, (i + 1) * 3, none⟩) = ta := ⟨_, rfl⟩
    rw [eta] at r4
    have ETA : Hid _ := eta
    have R3 : Hid _ := r3
    have R4 : Hid _ := r4
    clear eta
    clear h2 a2 n2 b1 b2 B0 z2 ltP lt2 lt0 r3 b3 r4 b4 rf ow rk hne neR nPR z5 n5 em eo ev1 ev2 ev'
    have SL1 : Hid (∀ W, (Instr.sliceAt 26 (.slice (some ⟨g, 0, none⟩) m c') none (some (.int .i64 (i : Int))) none).run Try.prog W = .ok (.slice (some ⟨g, 0, none⟩) i c') W) := fun W => run_headR W g i m c' k1
    have SL2 : Hid (∀ W, (Instr.sliceAt 26 (.slice (some ⟨g, 0, none⟩) m c') (some (.int .i64 ((i : Int) + 1))) none none).run Try.prog W = .ok (.slice (some ta) (m - (i + 1)) (c' - (i + 1))) W) := fun W => by rw [← ETA.out]; exact run_tailR W g i m c' k2
    have E2 : Hid _ := e2
    have EP : Hid _ := eP
    clear e2 eP k1 k2 cap hi wl
    obtain ⟨ob, eob⟩ : ∃ ob, o.b.length = ob := ⟨_, rfl⟩
    have EOB : Hid (o.b.length = ob) := eob
    clear eob
    repeat
      (fail_if_success (guard_target =~ (Code.region 5 _ _).wp _ _ _ _)
       first | go_values | go_skip | go_guarded | go_step | go_upon | go_back | go_simp)
    rw [show _ = w2 from E2.out]
    try rw [EP.out]
    have s1 := SL1.out
    have s2 := SL2.out
    go_wp2_with (first | (at_builtin; refine wpList_append_known rfl (.tmp 19) (.tmp 25) 26 26 rfl _ _ rfl rfl _ _ R3.out ?_) | (at_builtin; refine wpList_append_known rfl (.tmp 27) (.tmp 34) 26 26 rfl _ _ rfl rfl _ _ R4.out ?_) | (refine wpList_load_row rfl 48 (.tmp 6) rfl P rfl 48 #[.int .i64 o.f, .int .i64 o.n, .slice o.a o.b.length o.c] (0, 0) _ N5.out Try.underlying48 rfl (by kernel_rfl) ?_) | (refine wpList_store_row rfl 48 (.tmp 4) (.tmp 40) rfl S0 #[.int .i64 o.f, .int .i64 o.n, .slice o.a o.b.length o.c] rfl rfl 48 _ Z5.out (by kernel_rfl) rfl (by simp [Value.oneCell']) ?_))
    obtain ⟨hh, ee⟩ := EO.out
    exact bodyPost_ret (results_rowN rfl _ _ S0 48 _ _ _ rfl (setRow_heap _ _ _ _ _ _ Z5.out) Try.underlying48 rfl (by kernel_rfl)) rfl (.inr ⟨i, hh, rfl, by rw [ee]; rfl, FIN.out⟩)
end Go.Proofs.Ytccmehbdnnelhaa
