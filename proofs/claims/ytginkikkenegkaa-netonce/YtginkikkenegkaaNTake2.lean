/- Package net: Take, Double. -/
import Derived.Test.YtginkikkenegkaaNTake
namespace Go.Proofs.Ytginkikkenegkaa
open Go.RowKit Go.Maps
attribute [local go_sem] Oper.semAt_some
set_option linter.unusedVariables false

theorem tLN : (40 : TypeId) ≠ 55 := by decide
/-- What Take answers. -/
def TakeTold (base N B T : Nat) (L : List Post) (k : Int) (w w' : World) (e : Ending) : Prop :=
  ((k < 0 ∨ (L.length : Int) ≤ k) ∧ e = .returned (.tuple #[.agg #[.int .i64 0, .int .i64 0, .slice none 0 0], .int .i64 1]) ∧ Below w.heap.size w w') ∨
  ∃ (i : Nat) (hi : i < L.length) (v : Value), k = (i : Int) ∧ e = .returned (.tuple #[.agg #[.int .i64 L[i].fr, .int .i64 L[i].to, v], .int .i64 0]) ∧ DataAt w' v L[i].b ∧ ∃ bx', NetIn w' base N B bx' (L.eraseIdx i) T ∧ NKeep base w w'
theorem dataAt_nk {base : Nat} {w w' : World} {v : Value} {b : List (BitVec 8)} (h : DataAt w v b) (k : NKeep base w w') : DataAt w' v b := h.keep fun g ⟨cs, z, e⟩ => k.2.2 g cs 5 z e t5P t5N
theorem not_net {w : World} {base N B T : Nat} {bx : Int → Value} {L : List Post} (h : NetIn w base N B bx L T) {S : Nat} {cs : Array Value} (e : w.heap[S]? = some (.cells cs 40 (0, 0))) (cs' : Array Value) (hb : base ≤ S) :
    NetIn (w.setRow S cs') base N B bx L T ∧ NKeep base w (w.setRow S cs') → True := fun _ => trivial
theorem netIn_row {w : World} {base N B T : Nat} {bx : Int → Value} {L : List Post} (h : NetIn w base N B bx L T) {S : Nat} {cs cs' : Array Value} (e : w.heap[S]? = some (.cells cs 40 (0, 0))) : NetIn (w.setRow S cs') base N B bx L T := by
  have k : ∀ q : Nat, q ≠ S → (w.setRow S cs').heap[q]? = w.heap[q]? := fun q hq => setRow_other _ _ _ _ hq
  refine { h with hN := ?_, hM := ?_, row := fun j => ?_, dat := fun p hp => ?_ }
  · rw [k N (fun eq => by rw [← eq, h.hN] at e; injection e with e; injection e with _ e _; exact tLN e.symm)]
    exact h.hN
  · obtain ⟨es, cl, hm⟩ := h.hM.isMap
    exact h.hM.kept (k B (fun eq => by rw [← eq, hm] at e; cases e))
  · refine owns_kept (h.row j) (fun g eg => k g (fun eq => ?_))
    obtain ⟨cur, hc⟩ := row_kind (h.row j) eg
    rw [eq, e] at hc
    injection hc with hc
    injection hc with _ hc _
    exact tLP hc
  · refine (h.dat p hp).keep fun g ⟨c, z, eg⟩ => k g (fun eq => ?_)
    rw [eq, e] at eg
    injection eg with eg
    injection eg with _ eg _
    exact absurd eg (by decide)
set_option maxRecDepth 100000 in
set_option maxHeartbeats 4000000 in
theorem take_any {w : World} {base N B T : Nat} {bx : Int → Value} {L : List Post} (h : NetIn w base N B bx L T) (hs : Small L) (k : Int) (hT : T ≤ 1000000000000) : Calls Try.prog 12 #[.pointer (some ⟨N, 0, none⟩), .int .i64 k] w fun e w' => TakeTold base N B T L k w w' e := by
  have bA := (Below.refl w.heap.size w).alloc (Nat.le_refl _) (.cells #[.int .i64 0, .int .i64 0, .slice none 0 0] 40)
  have r0 := row3 w (.int .i64 0) (.int .i64 0) (.slice none 0 0)
  have hA := h.below bA
  have hbs : base ≤ w.heap.size := Nat.le_of_lt (Nat.lt_of_le_of_lt h.bN h.ltN)
  obtain ⟨wA, eA⟩ : ∃ wA, w.alloc (.cells #[.int .i64 0, .int .i64 0, .slice none 0 0] 40) = wA := ⟨_, rfl⟩
  rw [eA] at bA r0 hA
  have HF := look_any hA hs k hT
  have HA : Hid (NetIn wA base N B bx L T) := hA
  have R0 : Hid (wA.heap[w.heap.size]? = some (.cells #[.int .i64 0, .int .i64 0, .slice none 0 0] 40 (0, 0))) := r0
  have BA : Hid (Below w.heap.size w wA ∧ base ≤ w.heap.size) := ⟨bA, hbs⟩
  have HT : Hid (T ≤ 1000000000000) := hT
  obtain ⟨S0, eS0⟩ : ∃ S0, w.heap.size = S0 := ⟨_, rfl⟩
  rw [eS0] at R0
  have ES : Hid (w.heap.size = S0) := eS0
  clear h hA bA r0 hs hT hbs
  go_enter Try.func12, Try.ntmps12
  go_wp2_with (first | (rw [eA]) | fail)
  try rw [eA]
  refine HF.mono ?_
  rintro e w1 ⟨ft, b1⟩
  clear HF
  try rw [eS0]
  clear eA eS0
  have lt0 := (Array.getElem?_eq_some_iff.1 R0.out).1
  rcases ft with ⟨hk, rfl⟩ | ⟨i, hi, v, rfl, rfl, dv⟩
  · have bS := (Below.refl _ w1).alloc (Nat.le_refl _) (.cells #[.int .i64 0, .int .i64 0, .slice none 0 0] 40)
    have r1 : (w1.alloc (.cells #[.int .i64 0, .int .i64 0, .slice none 0 0] 40)).heap[S0]? = some (.cells #[.int .i64 0, .int .i64 0, .slice none 0 0] 40 (0, 0)) := by
      rw [bS.block S0 (Nat.lt_of_lt_of_le lt0 b1.size), b1.block S0 lt0]
      exact R0.out
    have R1 : Hid _ := r1
    have BS : Hid (Below w.heap.size w (w1.alloc (.cells #[.int .i64 0, .int .i64 0, .slice none 0 0] 40))) := (BA.out.1.trans (b1.mono BA.out.1.size)).trans (bS.mono (BA.out.1.trans (b1.mono BA.out.1.size)).size)
    clear r1 bS b1 lt0
    go_wp2_with (first | (refine wpList_store_row rfl 40 (.tmp 4) (.tmp 16) rfl S0 #[.int .i64 0, .int .i64 0, .slice none 0 0] rfl rfl 40 _ R1.out (by kernel_rfl) rfl (by simp [Value.oneCell']) ?_))
    exact bodyPost_ret (results_rowN rfl _ _ S0 40 _ _ _ rfl (setRow_heap _ _ _ _ _ _ R1.out) Try.underlying40 rfl (by kernel_rfl)) rfl (.inl ⟨hk, rfl, rowN_below BS.out (by rw [← ES.out]; exact Nat.le_refl _)⟩)
  · have HI : Hid (∃ h : i < L.length, True) := ⟨hi, trivial⟩
    obtain ⟨p, ep⟩ : ∃ p, L[i] = p := ⟨_, rfl⟩
    rw [ep] at dv
    rw [ep]
    have EP : Hid (∀ h : i < L.length, L[i] = p) := fun _ => ep
    obtain ⟨fr, to, pv, b, pt⟩ := p
    simp only at dv
    obtain ⟨va, vc, rfl, s', n', u'⟩ := dv
    have dv' : DataAt w1 (.slice va b.length vc) b := ⟨va, vc, rfl, s', n', u'⟩
    have bS := (Below.refl _ w1).alloc (Nat.le_refl _) (.cells #[.int .i64 fr, .int .i64 to, .slice va b.length vc] 40)
    have r1 := row3 w1 (.int .i64 fr) (.int .i64 to) (.slice va b.length vc)
    have h1 := (HA.out.below b1).below bS
    have hdS := dv'.below bS
    have bW : Below w.heap.size w (w1.alloc (.cells #[.int .i64 fr, .int .i64 to, .slice va b.length vc] 40)) := (BA.out.1.trans (b1.mono BA.out.1.size)).trans (bS.mono (BA.out.1.trans (b1.mono BA.out.1.size)).size)
    have r0 : (w1.alloc (.cells #[.int .i64 fr, .int .i64 to, .slice va b.length vc] 40)).heap[S0]? = some (.cells #[.int .i64 0, .int .i64 0, .slice none 0 0] 40 (0, 0)) := by
      rw [bS.block S0 (Nat.lt_of_lt_of_le lt0 b1.size), b1.block S0 lt0]
      exact R0.out
    have ne : w1.heap.size ≠ S0 := fun e => by have := b1.size; omega
    obtain ⟨S1, eS1⟩ : ∃ S1, w1.heap.size = S1 := ⟨_, rfl⟩
    rw [eS1] at r1 ne
    obtain ⟨vn, evn⟩ : ∃ vn, b.length = vn := ⟨_, rfl⟩
    rw [evn] at r1 hdS bW r0 h1 bS
    rw [evn]
    obtain ⟨ws, ews⟩ : ∃ ws, w1.alloc (.cells #[.int .i64 fr, .int .i64 to, .slice va vn vc] 40) = ws := ⟨_, rfl⟩
    rw [ews] at r1 hdS bW r0 h1
    have NE : Hid (S1 ≠ S0) := ne
    have R1 : Hid (ws.drew.heap[S1]? = some (.cells #[.int .i64 fr, .int .i64 to, .slice va vn vc] 40 (0, 0))) := r1
    have kW : NKeep base w ws.drew := NKeep.of_below (bW.trans ((Below.refl _ ws).drew.mono bW.size)) BA.out.2
    have hd0 := drop_any (w := ws.drew) (h1.below (Below.refl _ ws).drew) (i : Int) HT.out
    have hdr : Calls Try.prog 13 #[.pointer (some ⟨N, 0, none⟩), .int .i64 (i : Int)] ws.drew fun e w' => e = .returned (.int .i64 0) ∧ w'.heap[S1]? = some (.cells #[.int .i64 fr, .int .i64 to, .slice va vn vc] 40 (0, 0)) ∧ w'.heap[S0]? = some (.cells #[.int .i64 0, .int .i64 0, .slice none 0 0] 40 (0, 0)) ∧
        ∃ bx', NetIn w' base N B bx' (L.eraseIdx i) T ∧ NKeep base w w' ∧ DataAt w' (.slice va vn vc) b := hd0.mono fun e w' hh => by
      rcases hh with ⟨hk, _⟩ | ⟨j, hj, ej, he, bx', hn, hk⟩
      · have := hi; omega
      · obtain rfl : i = j := by omega
        exact ⟨he, (hk.2.2 S1 _ _ _ r1 tLP tLN).trans r1, (hk.2.2 S0 _ _ _ r0 tLP tLN).trans r0, bx', hn, kW.trans hk, dataAt_nk (hdS.below (Below.refl _ ws).drew) hk⟩
    clear hd0 kW hdS bW r0 r1 h1 bS dv' s' n' u' b1 lt0 ne ep evn
    go_wp2_with (first | (rw [ews]) | fail)
    try rw [ews]
    try rw [eS1]
    refine wp_region_held_drew (S := fun X => X.heap[S1]? = some (.cells #[.int .i64 fr, .int .i64 to, .slice va vn vc] 40 (0, 0))) (by kernel_rfl) R1.out (fun hHeld => ?_)
    refine take_row (i := 0) (oi := { dst := some 18, op := Go.Op.load 40 (Go.Operand.tmp 6), type := 40, pos := "net.go:153", after := #[], guard := none }) rfl (by kernel_rfl) (by kernel_rfl) (by kernel_rfl) 40 (.tmp 6) S1 40 #[.int .i64 fr, .int .i64 to, .slice va vn vc] (0, 0) _ (fun _ _ _ h => h) (by rfl) rfl (by go_simp <;> with_reducible rfl) (fun X hX => hX) Try.underlying40 rfl (by kernel_rfl) hHeld ?_
    try simp only [Act.put, List.setIfInBounds_toArray, List.set_cons_zero, List.set_cons_succ]
    refine take_run (i := 1) (oi := { dst := some 19, op := Go.Op.move (Go.Operand.tmp 0), type := 23, pos := "net.go:153", after := #[], guard := none }) (v := .pointer (some ⟨N, 0, none⟩)) rfl (by kernel_rfl) (by kernel_rfl) (by kernel_rfl) (fun _ _ _ h => h) (by rfl) ?_ hHeld ?_
    · (intro wq hSw; go_simp <;> with_reducible rfl)
    try simp only [Act.put, List.setIfInBounds_toArray, List.set_cons_zero, List.set_cons_succ]
    refine take_run (i := 2) (oi := { dst := some 20, op := Go.Op.move (Go.Operand.tmp 1), type := 3, pos := "net.go:153", after := #[], guard := none }) (v := .int .i64 (i : Int)) rfl (by kernel_rfl) (by kernel_rfl) (by kernel_rfl) (fun _ _ _ h => h) (by rfl) ?_ hHeld ?_
    · (intro wq hSw; go_simp <;> with_reducible rfl)
    try simp only [Act.put, List.setIfInBounds_toArray, List.set_cons_zero, List.set_cons_succ]
    refine take_call (i := 3) (oi := { dst := some 21, op := Go.Op.call { callee := Go.Callee.value (Go.Operand.func 13), args := #[Go.Operand.tmp 19, Go.Operand.tmp 20], argTypes := #[23, 3] }, type := 37, pos := "net.go:153", after := #[{ on := 1, ground := Go.Ground.data }, { on := 2, ground := Go.Ground.data }], guard := none }) rfl (by kernel_rfl) (by rfl) 13 _ (by go_simp <;> with_reducible rfl) ?_
    refine (hdr).mono ?_
    rintro e w3 ⟨rfl, q1, q0, q2⟩
    refine ⟨.int .i64 0, rfl, q1, ?_⟩
    try simp only [Act.put, List.setIfInBounds_toArray, List.set_cons_zero, List.set_cons_succ]
    have Q0 : Hid (w3.heap[S0]? = some (.cells #[.int .i64 0, .int .i64 0, .slice none 0 0] 40 (0, 0))) := q0
    have Q1 : Hid _ := q1
    have Q2 : Hid _ := q2
    clear q0 q2
    refine take_eff (i := 4) (oi := { dst := none, op := Go.Op.store 40 (Go.Operand.tmp 4) (Go.Operand.tmp 18), type := 0, pos := "net.go:153", after := #[{ on := 0, ground := Go.Ground.data }, { on := 3, ground := Go.Ground.chain }, { on := 0, ground := Go.Ground.phase }, { on := 1, ground := Go.Ground.textOnly Go.Departure.lateStores }, { on := 2, ground := Go.Ground.textOnly Go.Departure.lateStores }, { on := 3, ground := Go.Ground.textOnly Go.Departure.lateStoresUnsure }], guard := none }) rfl (by kernel_rfl) (by rfl) (exec_storeN 40 (.tmp 4) (.tmp 18) rfl S0 #[.int .i64 fr, .int .i64 to, .slice va vn vc] rfl rfl 40 _ Q0.out (by kernel_rfl) rfl (by simp [Value.oneCell'])) (by rw [setRow_other _ _ _ _ (fun e => NE.out e)]; exact Q1.out) ?_
    try simp only [Act.put]
    refine take_run (i := 5) (oi := { dst := some 5, op := Go.Op.assign (Go.Operand.tmp 21), type := 37, pos := "net.go:153", after := #[{ on := 3, ground := Go.Ground.data }, { on := 4, ground := Go.Ground.chain }, { on := 0, ground := Go.Ground.phase }, { on := 1, ground := Go.Ground.phase }, { on := 2, ground := Go.Ground.phase }, { on := 3, ground := Go.Ground.phase }, { on := 4, ground := Go.Ground.phase }], guard := none }) (v := .int .i64 0) rfl (by kernel_rfl) (by kernel_rfl) (by kernel_rfl) (fun _ _ _ h => h) (by rfl) ?_ (by rw [setRow_other _ _ _ _ (fun e => NE.out e)]; exact Q1.out) ?_
    · (intro wq hSw; go_simp <;> with_reducible rfl)
    try simp only [Act.put, List.setIfInBounds_toArray, List.set_cons_zero, List.set_cons_succ]
    refine wpAnyH_done (by kernel_rfl) ?_ _
    have hh : (w3.setRow S0 #[.int .i64 fr, .int .i64 to, .slice va vn vc]).heap[S0]? = some (.cells #[.int .i64 fr, .int .i64 to, .slice va vn vc] 40 (0, 0)) := setRow_heap _ _ _ _ _ _ Q0.out
    have HH : Hid _ := hh
    clear hh hHeld q1 hdr
    go_wp2_with fail
    refine bodyPost_ret (results_rowN rfl _ _ S0 40 _ _ _ rfl HH.out Try.underlying40 rfl (by kernel_rfl)) rfl (.inr ?_)
    obtain ⟨hi, _⟩ := HI.out
    obtain ⟨bx', hn, hk, hd⟩ := Q2.out
    refine ⟨i, hi, .slice va vn vc, rfl, by rw [EP.out hi]; rfl, ?_, bx', netIn_row hn Q0.out, hk.1.trans ?_, Nat.le_trans hk.2.1 (by simp), fun g cs t z e h1 h2 => ?_⟩
    · rw [EP.out hi]
      refine hd.keep fun g ⟨cs, z, e⟩ => setRow_other _ _ _ _ (fun eq => ?_)
      rw [eq, Q0.out] at e
      injection e with e
      injection e with _ e _
      exact absurd e (by decide)
    · exact rowN_below (Below.refl base w3) (by have := BA.out.2; have := ES.out; omega)
    · have hlt := (Array.getElem?_eq_some_iff.1 e).1
      rw [setRow_other _ _ _ _ (fun eq => by have := ES.out; omega)]
      exact hk.2.2 g cs t z e h1 h2
end Go.Proofs.Ytginkikkenegkaa
