/- The reference's disk: a call. -/
import Derived.Test.YtnpebdnfdbeiaaaRCrash
import Derived.Test.YtnpebdnfdbeiaaaRWrite
namespace Go.Proofs.Ytnpebdnfdbeiaaa
open Go.RowKit
set_option linter.unusedVariables false

theorem RDo.behind {w w1 w' : World} {m m' : RM} {n : Nat} {s' : DS} (b : Below w.heap.size w w1) (h : RDo w1 w' m m' n s') : RDo w w' m m' n s' :=
  ⟨h.d, ROnly.trans (ROnly.of_below b) (RM.next.refl m _) h.o, h.n.R, fun k hk => (h.n.own k hk).imp id (fun e => Nat.le_trans b.size e), fun k hk => (h.n.all k hk).imp id (fun e => Nat.le_trans b.size e)⟩
theorem RDsk.set_fa {w : World} {m : RM} {n : Nat} {s : DS} (h : RDsk w m n s) (b : Bool) : RDo w (w.setCell ⟨m.R, 2, none⟩ (.bool b)) m m n { s with fa := b } := by
  refine ⟨h.flag (s' := { s with fa := b }) ?_ (fun k hk => Below.heap_setCell _ _ _ k (fun e => hk (by simpa using e))) rfl rfl rfl, ROnly.set (.inl rfl) _, RM.next.refl m _⟩
  have := block_put h.hd 2 (.bool b)
  simpa using this
theorem RDsk.set_fu {w : World} {m : RM} {n : Nat} {s : DS} (h : RDsk w m n s) (b : Bool) : RDo w (w.setCell ⟨m.R, 3, none⟩ (.bool b)) m m n { s with fu := b } := by
  refine ⟨h.flag (s' := { s with fu := b }) ?_ (fun k hk => Below.heap_setCell _ _ _ k (fun e => hk (by simpa using e))) rfl rfl rfl, ROnly.set (.inl rfl) _, RM.next.refl m _⟩
  have := block_put h.hd 3 (.bool b)
  simpa using this
set_option maxRecDepth 100000 in
set_option maxHeartbeats 3200000 in
theorem refDo_any (m : RM) (n : Nat) (s : DS) (o : OpX) (w0 w : World) (h : RDsk w m n s) (hB : Below w0.heap.size w0 w) (hat : o.At w0) (hF : ∀ k, m.all k → w0.heap.size ≤ k) (hk : s.ws.length < 1000000) :
    Calls Try.prog 13 #[.pointer (some ⟨m.R, 0, none⟩), .agg #[.int .i64 o.k, .int .i64 o.n, .slice o.ba o.b.length o.bc, .slice o.la o.zs.length o.lc]] w fun e w' => ∃ m', e = .returned (.int .i64 (doE n s o : Nat)) ∧ RDo w w' m m' n (doD n s o) := by
  have hnew := heap_alloc_new w (.cells #[.int .i64 o.k, .int .i64 o.n, .slice o.ba o.b.length o.bc, .slice o.la o.zs.length o.lc] 44)
  generalize hw1 : w.alloc (.cells #[.int .i64 o.k, .int .i64 o.n, .slice o.ba o.b.length o.bc, .slice o.la o.zs.length o.lc] 44) = w1 at hnew
  have b1 : Below w.heap.size w w1 := by rw [← hw1]; exact (Below.refl _ w).alloc (Nat.le_refl _) _
  have c0 : w1.cell? ⟨w.heap.size, 0, none⟩ = some (.int .i64 o.k) := by simp [World.cell?, hnew]
  have c1 : w1.cell? ⟨w.heap.size, 1, none⟩ = some (.int .i64 o.n) := by simp [World.cell?, hnew]
  have c2 : w1.cell? ⟨w.heap.size, 2, none⟩ = some (.slice o.ba o.b.length o.bc) := by simp [World.cell?, hnew]
  have c3 : w1.cell? ⟨w.heap.size, 3, none⟩ = some (.slice o.la o.zs.length o.lc) := by simp [World.cell?, hnew]
  have D1 : Hid (RDsk w1 m n s) := h.below b1
  have B1 : Hid (Below w.heap.size w w1) := b1
  have HW1 : Hid (w.alloc (.cells #[.int .i64 o.k, .int .i64 o.n, .slice o.ba o.b.length o.bc, .slice o.la o.zs.length o.lc] 44) = w1) := hw1
  have S1 : Hid (Seen w1 o.ba o.b.length o.b) := (hat.hb.below hB).below b1
  have Z1 : Hid (IAt w1 o.la o.zs.length o.zs ∧ ∀ y, o.la = some y → o.zs ≠ [] → ¬ m.own y.block) := by
    refine ⟨(hat.hz.below hB).below b1, fun y e hne ho => ?_⟩
    rcases hat.hz.2.2.2 with h0 | ⟨b, off, e2, hc⟩
    · exact hne (List.eq_nil_of_length_eq_zero h0)
    · have hl : 0 < o.zs.length := List.length_pos_iff.2 hne
      have lt := World.block_lt_of_cell? w0 _ (hc 0 hl)
      rw [e] at e2
      cases e2
      have := hF _ (.inl ho)
      have : (⟨b, off, none⟩ : Addr).block < w0.heap.size := lt
      omega
  have HK : Hid (s.ws.length < 1000000) := hk
  have d2 := D1.out.cells.2.2.1
  have d3 := D1.out.cells.2.2.2.1
  have f2 := D1.out.cells.2.2.2.2.2 2
  have f3 := D1.out.cells.2.2.2.2.2 3
  have FA : Hid (RDo w (w1.setCell ⟨m.R, 2, none⟩ (.bool true)) m m n { s with fa := true }) := (D1.out.set_fa true).behind b1
  have FU : Hid (∀ b, RDo w (w1.setCell ⟨m.R, 3, none⟩ (.bool b)) m m n { s with fu := b }) := fun b => (D1.out.set_fu b).behind b1
  have FZ : Hid (RDo w w1 m m n s) := ⟨D1.out, ROnly.of_below b1, RM.next.refl m _⟩
  have W : Hid (∀ e w', (∃ m', e = Ending.returned (.int .i64 (whyW n s o.n o.b : Nat)) ∧ RDo w1 w' m m' n (writeD n s o.n o.b)) → _) := fun e w' h => h
  obtain ⟨R, eR⟩ : ∃ R, m.R = R := ⟨_, rfl⟩
  have HWr := refWrite_any m n s o.n o.ba o.b.length o.bc o.b w1 D1.out S1.out HK.out
  have HSy := refSync_any m n s w1 D1.out
  have HCr := refCrash_any m n s o.la o.zs.length o.lc o.zs w1 D1.out Z1.out.1 Z1.out.2
  rw [eR] at d2 d3 f2 f3 FA FU HWr HSy HCr
  rw [eR]
  clear h hB hat hF hk hw1 hnew b1 W
  by_cases k0 : o.k = 0 ∨ o.k = 1
  · have e1 : doE n s o = whyW n s o.n o.b := by unfold doE; rw [if_pos k0]
    have e2 : doD n s o = writeD n s o.n o.b := by unfold doD; rw [if_pos k0]
    rw [e1, e2]
    clear e1 e2 HSy HCr FA FU FZ
    rcases k0 with k0 | k0
    · have q0 : (o.k == 0) = true := by rw [k0]; rfl
      clear k0
      go_enter Try.func13, Try.ntmps13
      go_wp2_with fail
      rw [HW1.out]
      go_wp2_with fail
      refine HWr.mono ?_
      rintro e w' ⟨m', rfl, r⟩
      have F : Hid (RDo w w' m m' n (writeD n s o.n o.b)) := r.behind B1.out
      clear r HWr
      go_wp2
      go_ret
      first | exact ⟨m', rfl, F.out⟩ | exact ⟨rfl, m', F.out⟩
    · have q0 : (o.k == 0) = false := by rw [k0]; rfl
      have q1 : (o.k == 1) = true := by rw [k0]; rfl
      clear k0
      go_enter Try.func13, Try.ntmps13
      go_wp2_with fail
      rw [HW1.out]
      go_wp2_with fail
      refine HWr.mono ?_
      rintro e w' ⟨m', rfl, r⟩
      have F : Hid (RDo w w' m m' n (writeD n s o.n o.b)) := r.behind B1.out
      clear r HWr
      go_wp2
      go_ret
      first | exact ⟨m', rfl, F.out⟩ | exact ⟨rfl, m', F.out⟩
  · have hE0 : doE n s o = if o.k = 2 then whyS s else 0 := by unfold doE; rw [if_neg k0]
    have hD0 : doD n s o = if o.k = 2 then syncD s else if o.k = 3 then { s with fa := true } else if o.k = 4 then { s with fu := (Int.tmod o.n 2 != 0) } else if o.k = 5 then crashD s o.zs else s := by unfold doD; rw [if_neg k0]
    rw [hE0, hD0]
    have q0 : (o.k == 0) = false := by simpa using fun e => k0 (.inl e)
    have q1 : (o.k == 1) = false := by simpa using fun e => k0 (.inr e)
    clear hE0 hD0 k0 HWr
    by_cases h2 : o.k = 2
    · have q2 : (o.k == 2) = true := by rw [h2]; rfl
      rw [if_pos h2, if_pos h2]
      clear h2 HCr FA FU FZ
      go_enter Try.func13, Try.ntmps13
      go_wp2_with fail
      rw [HW1.out]
      go_wp2_with fail
      refine HSy.mono ?_
      rintro e w' ⟨m', rfl, r⟩
      have F : Hid (RDo w w' m m' n (syncD s)) := r.behind B1.out
      clear r HSy
      go_wp2
      go_ret
      first | exact ⟨m', rfl, F.out⟩ | exact ⟨rfl, m', F.out⟩
    · have q2 : (o.k == 2) = false := by simpa using h2
      rw [if_neg h2, if_neg h2]
      clear h2 HSy
      by_cases h3 : o.k = 3
      · have q3 : (o.k == 3) = true := by rw [h3]; rfl
        rw [if_pos h3]
        clear h3 HCr FU FZ
        rw [← HW1.out] at d2 f2 c0 c1 FA
        go_enter Try.func13, Try.ntmps13
        go_wp2
        go_ret
        first | exact ⟨m, rfl, FA.out⟩ | exact ⟨rfl, m, FA.out⟩
      · have q3 : (o.k == 3) = false := by simpa using h3
        rw [if_neg h3]
        clear h3 FA
        by_cases h4 : o.k = 4
        · have q4 : (o.k == 4) = true := by rw [h4]; rfl
          rw [if_pos h4]
          have F : Hid _ := FU.out (Int.tmod o.n 2 != 0)
          obtain ⟨b, hb⟩ : ∃ b, (Int.tmod o.n 2 != 0) = b := ⟨_, rfl⟩
          rw [hb] at F ⊢
          clear h4 HCr FZ FU
          rw [← HW1.out] at d3 f3 c0 c1 F
          go_enter Try.func13, Try.ntmps13
          go_wp2
          go_ret
          first | exact ⟨m, rfl, F.out⟩ | exact ⟨rfl, m, F.out⟩
        · have q4 : (o.k == 4) = false := by simpa using h4
          rw [if_neg h4]
          clear h4 FU
          by_cases h5 : o.k = 5
          · have q5 : (o.k == 5) = true := by rw [h5]; rfl
            rw [if_pos h5]
            clear h5 FZ
            go_enter Try.func13, Try.ntmps13
            go_wp2_with fail
            rw [HW1.out]
            go_wp2_with fail
            refine HCr.mono ?_
            rintro e w' ⟨m', ⟨u, rfl⟩, r⟩
            have F : Hid (RDo w w' m m' n (crashD s o.zs)) := r.behind B1.out
            clear r HCr
            go_wp2
            go_ret
            first | exact ⟨m', rfl, F.out⟩ | exact ⟨rfl, m', F.out⟩
          · have q5 : (o.k == 5) = false := by simpa using h5
            rw [if_neg h5]
            clear h5 HCr
            go_enter Try.func13, Try.ntmps13
            go_wp2_with fail
            rw [HW1.out]
            go_wp2
            go_ret
            first | exact ⟨m, rfl, FZ.out⟩ | exact ⟨rfl, m, FZ.out⟩
end Go.Proofs.Ytnpebdnfdbeiaaa
