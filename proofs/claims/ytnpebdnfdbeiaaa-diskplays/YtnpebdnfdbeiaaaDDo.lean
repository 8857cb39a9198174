/- What a call of the program's disk does. -/
import Derived.Test.YtnpebdnfdbeiaaaDFrame
import Derived.Test.YtnpebdnfdbeiaaaDKnown
import Derived.Test.YtnpebdnfdbeiaaaLent
namespace Go.Proofs.Ytnpebdnfdbeiaaa
open Go.RowKit
set_option linter.unusedVariables false

def doE (n : Nat) (s : DS) (o : OpX) : Nat := if o.k = 0 ∨ o.k = 1 then whyW n s o.n o.b else if o.k = 2 then whyS s else 0
def doD (n : Nat) (s : DS) (o : OpX) : DS := if o.k = 0 ∨ o.k = 1 then writeD n s o.n o.b else if o.k = 2 then syncD s else if o.k = 3 then { s with fa := true } else if o.k = 4 then { s with fu := (Int.tmod o.n 2 != 0) } else if o.k = 5 then crashD s o.zs else s
/-- What is told of a call. -/
structure DoR (w w' : World) (m m' : DM) (n : Nat) (s' : DS) : Prop where
  D : m'.D = m.D
  d : Dsk w' m' n s'
  o : Only m w w'
  n : m.next m' w.heap.size
theorem owns_less {w : World} {base g n c : Nat} {l : List (BitVec 8)} {x : BitVec 8} (h : w.ownsRow base 5 1 (.slice (some ⟨g, 0, none⟩) (n + 1) c) (n + 1) (cellsOf (l ++ [x]))) (hl : l.length = n) : w.ownsRow base 5 1 (.slice (some ⟨g, 0, none⟩) n c) n (cellsOf l) := by
  rcases h.2 with ⟨e, _⟩ | ⟨g', c', cur, e, hb, hg, hnc, hcm, hcs, htake⟩
  · cases e
  · cases e
    refine ⟨by rw [cellsOf_length]; omega, .inr ⟨g, c, cur, rfl, hb, hg, by omega, hcm, hcs, ?_⟩⟩
    have := congrArg (List.take n) htake
    rw [List.take_take, cellsOf_append, List.take_left' (by rw [cellsOf_length]; exact hl)] at this
    simpa [Nat.min_eq_left (Nat.le_succ n)] using this
/-- A new row may be written. -/
theorem Dsk.away {w w' : World} {m : DM} {n : Nat} {s : DS} (h : Dsk w m n s) {row : Option Nat} (g : w.grownBy w' row) (hr : ∀ k, row = some k → ¬ m.own k) : Dsk w' m n s := h.same fun k hk => g.block k (h.lt hk) (fun e => hr k e.symm hk)
set_option maxRecDepth 100000 in
set_option maxHeartbeats 1600000 in
theorem do_write (m : DM) (n : Nat) (s : DS) (o : OpX) (w0 w : World) (h : Dsk w m n s) (hB : Below w0.heap.size w0 w) (hat : o.At w0) (hF : Fresh w0.heap.size m) (hk : s.ws.length < 1000000) (hz : o.b.length + 1 ≤ 140737488355328) (hkind : o.k = 0 ∨ o.k = 1) :
    Calls Try.prog 12 #[.pointer (some ⟨m.D, 0, none⟩), .agg #[.int .i64 o.k, .int .i64 o.n, .slice o.ba o.b.length o.bc, .slice o.la o.zs.length o.lc]] w fun e w' => ∃ m', e = .returned (.int .i64 (whyW n s o.n o.b : Nat)) ∧ DoR w w' m m' n (writeD n s o.n o.b) := by
  generalize hw1 : w.alloc (.cells #[.int .i64 o.k, .int .i64 o.n, .slice o.ba o.b.length o.bc, .slice o.la o.zs.length o.lc] 44) = w1
  have b1 : Below w.heap.size w w1 := by rw [← hw1]; exact (Below.refl _ w).alloc (Nat.le_refl _) _
  have z1 : w1.heap.size = w.heap.size + 1 := by rw [← hw1]; simp
  have hx : w1.heap[w.heap.size]? = some (.cells #[.int .i64 o.k, .int .i64 o.n, .slice o.ba o.b.length o.bc, .slice o.la o.zs.length o.lc] 44 (0, 0)) := by rw [← hw1]; exact heap_alloc_new w _
  have HL := lent_any o.ba o.b.length o.bc o.b w1 ((hat.hb.below hB).below b1) hat.hbn hz
  have cellsX : ∀ W, Only m w1 W → Hid (W.cell? ⟨w.heap.size, 0, none⟩ = some (.int .i64 o.k) ∧ W.cell? ⟨w.heap.size, 1, none⟩ = some (.int .i64 o.n) ∧ W.cell? ⟨w.heap.size, 2, none⟩ = some (.slice o.ba o.b.length o.bc)) := fun W ho => by
    have e := ho.block w.heap.size (by omega) (fun e => by have := h.lt e; omega)
    rw [hx] at e
    show _ ∧ _ ∧ _
    simp [World.cell?, e]
  have c0 := (cellsX w1 (Only.refl m w1)).out
  have HW1 : Hid (w.alloc (.cells #[.int .i64 o.k, .int .i64 o.n, .slice o.ba o.b.length o.bc, .slice o.la o.zs.length o.lc] 44) = w1) := hw1
  have H : Hid (Dsk w m n s ∧ Below w0.heap.size w0 w ∧ o.At w0 ∧ Fresh w0.heap.size m ∧ Below w.heap.size w w1 ∧ w1.heap.size = w.heap.size + 1) := ⟨h, hB, hat, hF, b1, z1⟩
  have HK : Hid (s.ws.length < 1000000) := hk
  have HZ : Hid (o.b.length + 1 ≤ 140737488355328) := hz
  obtain ⟨c00, c01, c02⟩ := c0
  clear h hB hat hF hk hz b1 z1 hx hw1
  have hk1 : (o.k == 0) = true ∨ ((o.k == 0) = false ∧ (o.k == 1) = true) := by
    rcases hkind with e | e
    · exact .inl (by rw [e]; rfl)
    · exact .inr ⟨by rw [e]; rfl, by rw [e]; rfl⟩
  clear hkind
  rcases hk1 with q0 | ⟨q0, q1⟩
  all_goals
    go_enter Try.func12, Try.ntmps12
    go_wp2_with fail
    rw [HW1.out]
    go_wp2_with fail
    refine HL.mono ?_
    rintro e w2 ⟨g, c, rfl, o2, b2⟩
    have hg1 : w1.heap.size ≤ g := by
      rcases o2.2 with ⟨e, _⟩ | ⟨g', c', cur, e, hb, _⟩
      · cases e
      · cases e; exact hb
    have hg2 : g < w2.heap.size := by
      rcases o2.2 with ⟨e, _⟩ | ⟨g', c', cur, e, hb, hg, _⟩
      · cases e
      · cases e; exact (Array.getElem?_eq_some_iff.1 hg).1
    have ol := owns_less o2 rfl
    have d2 : Dsk w2 m n s := (H.out.1.below H.out.2.2.2.2.1).below b2
    have HWr := write_any m n s o.n (some ⟨g, 0, none⟩) o.b.length c o.b w2 d2 (seen_owned ol rfl (by have := HZ.out; unfold maxLen; omega)) HK.out
    obtain ⟨c20, c21, c22⟩ := (cellsX w2 (Only.of_below b2)).out
    have G : Hid (w1.heap.size ≤ g ∧ g < w2.heap.size) := ⟨hg1, hg2⟩
    have O2 : Hid (w2.ownsRow w1.heap.size 5 1 (.slice (some ⟨g, 0, none⟩) (o.b.length + 1) c) (o.b.length + 1) (cellsOf (o.b ++ [167#8]))) := o2
    have B2 : Hid (Below w1.heap.size w1 w2) := b2
    clear HL hg1 hg2 ol d2 o2 b2 c00 c01 c02
    go_wp2_with fail
    refine HWr.mono ?_
    rintro e w3 ⟨m', rfl, eD, d3, o3, n3⟩
    have ngo : ¬ m.own g := fun e => by have := H.out.1.lt e; have := G.out.1; have := H.out.2.2.2.2.2; omega
    have O3 : w3.ownsRow w1.heap.size 5 1 (.slice (some ⟨g, 0, none⟩) (o.b.length + 1) c) (o.b.length + 1) (cellsOf (o.b ++ [167#8])) := owns_same O2.out (fun k e => by
      obtain rfl : g = k := by simpa [Value.ownBlock] using e
      exact o3.block g G.out.2 ngo)
    have B03 : Below w0.heap.size w0 w3 := (H.out.2.1.trans (H.out.2.2.2.2.1.mono H.out.2.1.size)).trans ((B2.out.mono (by have := H.out.2.1.size; have := H.out.2.2.2.2.2; omega)).trans (o3.low H.out.2.2.2.1 (by have := H.out.2.1.size; have := H.out.2.2.2.2.2; have := B2.out.size; omega)))
    have HKp := kept_any g c o.b.length o.b o.ba o.bc w3 w1.heap.size O3 (H.out.2.2.1.hb.below B03) HZ.out
    have HSp := spoil_row w1.heap.size (.slice (some ⟨g, 0, none⟩) o.b.length c) o.b.length o.b w3 (owns_less O3 rfl) (Nat.le_trans (Nat.le_trans (by have := G.out.1; have := G.out.2; omega) o3.size) (Nat.le_refl _)) HZ.out
    obtain ⟨c30, c31, c32⟩ := (cellsX w3 (⟨o3.os.trans B2.out.os, o3.tape.trans B2.out.tape, o3.output.trans B2.out.output, Nat.le_trans B2.out.size o3.size, fun k hk ho => (o3.block k (Nat.lt_of_lt_of_le hk B2.out.size) ho).trans (B2.out.block k hk)⟩)).out
    have FIN : Hid (∀ w4, w3.grownBy w4 (some g) → DoR w w4 m m' n (writeD n s o.n o.b)) := fun w4 g4 => by
      have ngo' : ¬ m'.own g := fun e => (n3.own_of e).elim ngo (fun h2 => by have := G.out.2; omega)
      refine ⟨eD, d3.away g4 (fun k e => by cases e; exact ngo'), ⟨?_, ?_, ?_, ?_, fun k hk ho => ?_⟩, ⟨n3.D, n3.gi, n3.gn, fun k e => (n3.own k e).imp id (fun h2 => by have := B2.out.size; have := H.out.2.2.2.2.2; omega)⟩⟩
      · rw [g4.os, o3.os, B2.out.os, H.out.2.2.2.2.1.os]
      · rw [g4.tape, o3.tape, B2.out.tape, H.out.2.2.2.2.1.tape]
      · rw [g4.output, o3.output, B2.out.output, H.out.2.2.2.2.1.output]
      · have := g4.size; have := o3.size; have := B2.out.size; have := H.out.2.2.2.2.2; omega
      · have z := H.out.2.2.2.2.2
        have z2 := B2.out.size
        have z3 := o3.size
        rw [g4.block k (by omega) (fun e => by cases e; have := G.out.1; omega), o3.block k (by omega) ho, B2.out.block k (by omega), H.out.2.2.2.2.1.block k hk]
    have HFN : Hid ((Value.slice (some ⟨g, 0, none⟩) o.b.length c).ownBlock = some g) := rfl
    clear HWr ngo O3 B03 d3 o3 n3 c20 c21 c22 eD
    go_wp2_with fail
    refine HKp.mono ?_
    rintro e w5 ⟨rfl, rfl⟩
    go_wp2_with fail
    refine HSp.mono ?_
    rintro e w4 ⟨⟨u, rfl⟩, g4⟩
    have F4 : Hid (DoR w w4 m m' n (writeD n s o.n o.b)) := FIN.out w4 (by rw [← HFN.out]; exact g4)
    clear HKp HSp FIN g4 c30 c31 c32
    go_wp2
    go_ret
    first | exact ⟨m', rfl, F4.out⟩ | exact ⟨rfl, m', F4.out⟩
theorem Only.behind {m : DM} {w w1 w2 : World} (b : Below w.heap.size w w1) (o : Only m w1 w2) : Only m w w2 :=
  ⟨o.os.trans b.os, o.tape.trans b.tape, o.output.trans b.output, Nat.le_trans b.size o.size, fun k hk ho => (o.block k (Nat.lt_of_lt_of_le hk b.size) ho).trans (b.block k hk)⟩
theorem DM.next.less {m m' : DM} {N N' : Nat} (h : m.next m' N') (hN : N ≤ N') : m.next m' N := ⟨h.D, h.gi, h.gn, fun k e => (h.own k e).imp id (fun x => Nat.le_trans hN x)⟩
set_option maxRecDepth 100000 in
set_option maxHeartbeats 1600000 in
theorem do_rest (m : DM) (n : Nat) (s : DS) (o : OpX) (w0 w : World) (h : Dsk w m n s) (hB : Below w0.heap.size w0 w) (hat : o.At w0) (hF : Fresh w0.heap.size m) (hkind : ¬ (o.k = 0 ∨ o.k = 1)) :
    Calls Try.prog 12 #[.pointer (some ⟨m.D, 0, none⟩), .agg #[.int .i64 o.k, .int .i64 o.n, .slice o.ba o.b.length o.bc, .slice o.la o.zs.length o.lc]] w fun e w' => ∃ m', e = .returned (.int .i64 (doE n s o : Nat)) ∧ DoR w w' m m' n (doD n s o) := by
  have hE0 : doE n s o = if o.k = 2 then whyS s else 0 := by unfold doE; rw [if_neg hkind]
  have hD0 : doD n s o = if o.k = 2 then syncD s else if o.k = 3 then { s with fa := true } else if o.k = 4 then { s with fu := (Int.tmod o.n 2 != 0) } else if o.k = 5 then crashD s o.zs else s := by unfold doD; rw [if_neg hkind]
  rw [hE0, hD0]
  clear hE0 hD0
  have q0 : (o.k == 0) = false := by simpa using fun e => hkind (.inl e)
  have q1 : (o.k == 1) = false := by simpa using fun e => hkind (.inr e)
  generalize hw1 : w.alloc (.cells #[.int .i64 o.k, .int .i64 o.n, .slice o.ba o.b.length o.bc, .slice o.la o.zs.length o.lc] 44) = w1
  have b1 : Below w.heap.size w w1 := by rw [← hw1]; exact (Below.refl _ w).alloc (Nat.le_refl _) _
  have hx : w1.heap[w.heap.size]? = some (.cells #[.int .i64 o.k, .int .i64 o.n, .slice o.ba o.b.length o.bc, .slice o.la o.zs.length o.lc] 44 (0, 0)) := by rw [← hw1]; exact heap_alloc_new w _
  have c0 : w1.cell? ⟨w.heap.size, 0, none⟩ = some (.int .i64 o.k) := by simp [World.cell?, hx]
  have c1 : w1.cell? ⟨w.heap.size, 1, none⟩ = some (.int .i64 o.n) := by simp [World.cell?, hx]
  have c3 : w1.cell? ⟨w.heap.size, 3, none⟩ = some (.slice o.la o.zs.length o.lc) := by simp [World.cell?, hx]
  have d1 : Dsk w1 m n s := h.below b1
  have HW1 : Hid (w.alloc (.cells #[.int .i64 o.k, .int .i64 o.n, .slice o.ba o.b.length o.bc, .slice o.la o.zs.length o.lc] 44) = w1) := hw1
  have hz1 : IAt w1 o.la o.zs.length o.zs := (hat.hz.below hB).below b1
  have hno : ∀ y, o.la = some y → o.zs ≠ [] → ¬ m.own y.block := fun y e hne ho => by
    rcases hat.hz.2.2.2 with h0 | ⟨b, off, e2, hc⟩
    · exact hne (List.eq_nil_of_length_eq_zero h0)
    · have hl : 0 < o.zs.length := List.length_pos_iff.2 hne
      have lt := World.block_lt_of_cell? w0 _ (hc 0 hl)
      rw [e] at e2
      cases e2
      have := hF _ ho
      have : (⟨b, off, none⟩ : Addr).block < w0.heap.size := lt
      omega
  have FIN : Hid (∀ m' w' s', m'.D = m.D → Dsk w' m' n s' → Only m w1 w' → m.next m' w1.heap.size → DoR w w' m m' n s') := fun m' w' s' e1 e2 e3 e4 => ⟨e1, e2, Only.behind b1 e3, e4.less b1.size⟩
  have D1 : Hid (Dsk w1 m n s) := d1
  have Z1 : Hid (IAt w1 o.la o.zs.length o.zs ∧ ∀ y, o.la = some y → o.zs ≠ [] → ¬ m.own y.block) := ⟨hz1, hno⟩
  clear hw1 hx h hB hat hF hkind b1 d1 hz1 hno
  by_cases h2 : o.k = 2
  · have q2 : (o.k == 2) = true := by rw [h2]; rfl
    rw [if_pos h2, if_pos h2]
    clear h2
    go_enter Try.func12, Try.ntmps12
    go_wp2_with fail
    rw [HW1.out]
    go_wp2_with fail
    refine (sync_any m n s w1 D1.out).mono ?_
    rintro e w' ⟨m', rfl, r1, r2, r3, r4⟩
    have F : Hid (DoR w w' m m' n (syncD s)) := FIN.out _ _ _ r1 r2 r3 r4
    clear FIN r1 r2 r3 r4
    go_wp2
    go_ret
    first | exact ⟨m', rfl, F.out⟩ | exact ⟨rfl, m', F.out⟩
  · have q2 : (o.k == 2) = false := by simpa using h2
    rw [if_neg h2, if_neg h2]
    clear h2
    by_cases h3 : o.k = 3
    · have q3 : (o.k == 3) = true := by rw [h3]; rfl
      rw [if_pos h3]
      clear h3
      go_enter Try.func12, Try.ntmps12
      go_wp2_with fail
      rw [HW1.out]
      go_wp2_with fail
      refine (fail_any m n s w1 D1.out).mono ?_
      rintro e w' ⟨rfl, r2, r3⟩
      have F : Hid (DoR w w' m m n { s with fa := true }) := FIN.out _ _ _ rfl r2 r3 (DM.next.refl m _)
      clear FIN r2 r3
      go_wp2
      go_ret
      first | exact ⟨m, rfl, F.out⟩ | exact ⟨rfl, m, F.out⟩
    · have q3 : (o.k == 3) = false := by simpa using h3
      rw [if_neg h3]
      clear h3
      by_cases h4 : o.k = 4
      · have q4 : (o.k == 4) = true := by rw [h4]; rfl
        rw [if_pos h4]
        clear h4
        obtain ⟨b, hb⟩ : ∃ b, (Int.tmod o.n 2 != 0) = b := ⟨_, rfl⟩
        rw [hb]
        go_enter Try.func12, Try.ntmps12
        go_wp2_with fail
        rw [HW1.out]
        go_wp2_with fail
        refine (full_any m n s b w1 D1.out).mono ?_
        rintro e w' ⟨rfl, r2, r3⟩
        have F : Hid (DoR w w' m m n { s with fu := b }) := FIN.out _ _ _ rfl r2 r3 (DM.next.refl m _)
        clear FIN r2 r3
        go_wp2
        go_ret
        first | exact ⟨m, rfl, F.out⟩ | exact ⟨rfl, m, F.out⟩
      · have q4 : (o.k == 4) = false := by simpa using h4
        rw [if_neg h4]
        clear h4
        by_cases h5 : o.k = 5
        · have q5 : (o.k == 5) = true := by rw [h5]; rfl
          rw [if_pos h5]
          clear h5
          go_enter Try.func12, Try.ntmps12
          go_wp2_with fail
          rw [HW1.out]
          go_wp2_with fail
          refine (crash_any m n s o.la o.zs.length o.lc o.zs w1 D1.out Z1.out.1 Z1.out.2).mono ?_
          rintro e w' ⟨m', rfl, r1, r2, r3, r4⟩
          have F : Hid (DoR w w' m m' n (crashD s o.zs)) := FIN.out _ _ _ r1 r2 r3 r4
          clear FIN r1 r2 r3 r4
          go_wp2
          go_ret
          first | exact ⟨m', rfl, F.out⟩ | exact ⟨rfl, m', F.out⟩
        · have q5 : (o.k == 5) = false := by simpa using h5
          rw [if_neg h5]
          clear h5
          have F : Hid (DoR w w1 m m n s) := FIN.out _ _ _ rfl D1.out (Only.refl m _) (DM.next.refl m _)
          clear FIN
          go_enter Try.func12, Try.ntmps12
          go_wp2_with fail
          rw [HW1.out]
          go_wp2
          go_ret
          first | exact ⟨m, rfl, F.out⟩ | exact ⟨rfl, m, F.out⟩
theorem do_any (m : DM) (n : Nat) (s : DS) (o : OpX) (w0 w : World) (h : Dsk w m n s) (hB : Below w0.heap.size w0 w) (hat : o.At w0) (hF : Fresh w0.heap.size m) (hk : s.ws.length < 1000000) (hz : o.b.length + 1 ≤ 140737488355328) :
    Calls Try.prog 12 #[.pointer (some ⟨m.D, 0, none⟩), .agg #[.int .i64 o.k, .int .i64 o.n, .slice o.ba o.b.length o.bc, .slice o.la o.zs.length o.lc]] w fun e w' => ∃ m', e = .returned (.int .i64 (doE n s o : Nat)) ∧ DoR w w' m m' n (doD n s o) := by
  by_cases hkind : o.k = 0 ∨ o.k = 1
  · have e1 : doE n s o = whyW n s o.n o.b := by unfold doE; rw [if_pos hkind]
    have e2 : doD n s o = writeD n s o.n o.b := by unfold doD; rw [if_pos hkind]
    rw [e1, e2]
    exact do_write m n s o w0 w h hB hat hF hk hz hkind
  · exact do_rest m n s o w0 w h hB hat hF hkind
theorem doD_ok {s : DS} {n : Nat} (h : s.ok n) (o : OpX) (hk : s.ws.length < 1000000) : (doD n s o).ok n := by
  unfold doD
  split
  · exact writeD_ok h o.n o.b hk
  · split
    · exact syncD_ok h
    · split
      · exact ⟨h.n1, h.n2, h.li, h.ln, h.lw, h.lk⟩
      · split
        · exact ⟨h.n1, h.n2, h.li, h.ln, h.lw, h.lk⟩
        · split
          · exact crashD_ok h o.zs
          · exact h
theorem doD_ws (n : Nat) (s : DS) (o : OpX) : (doD n s o).ws.length ≤ s.ws.length + 1 := by
  unfold doD
  split
  · unfold writeD
    split
    · simp [wrote]
    · omega
  · split
    · unfold syncD
      split
      · omega
      · split
        · simp
        · simp
    · split
      · simp
      · split
        · simp
        · split
          · simp [crashD]
          · omega
end Go.Proofs.Ytnpebdnfdbeiaaa
