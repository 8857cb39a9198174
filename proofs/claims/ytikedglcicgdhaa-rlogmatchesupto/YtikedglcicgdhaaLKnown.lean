/- The law's fixed calls. -/
import Derived.Test.YtikedglcicgdhaaLTerms
namespace Go.Proofs.Ytikedglcicgdhaa
open Go.RowKit
attribute [local go_sem] Oper.semAt_some
set_option linter.unusedVariables false

/-- Rows that lie behind a log are as they were, whatever the log does. -/
theorem args_kept {w0 w : World} {base N : Nat} {B T : Int} {sv : Value} {L : List EntV} (h0 : LogIn w0 base N B T sv L) (b : Below w0.heap.size w0 w) {v : Value} {fs : List EntV} {a : Option Addr} {n c : Nat} (o : w.ownsRow w0.heap.size 50 2 (.slice a n c) n (entCells fs)) (hl : fs.length = n) (d : ∀ e ∈ fs, DataAt w e.2 e.1.2) :
    (∀ w', Chg w w' N sv.ownBlock → EntsAt w' a n (fs.map Prod.fst)) ∧ (a = none → c = 0) ∧ n ≤ c ∧ ∀ x, a = some x → x = ⟨x.block, x.off, none⟩ := by
  obtain ⟨a', c', e, h1, h2, _, h3⟩ := row_form o
  cases e
  refine ⟨fun w' g => ?_, h1, h2, fun x ex => by rw [(h3 x ex).1]⟩
  have h := h0.below b
  have o' : w'.ownsRow w0.heap.size 50 2 (.slice a n c) n (entCells fs) := owns_kept o (fun y e => by
    obtain ⟨q1, q2, _⟩ := row_kind o e
    exact g.block y q2 (by have := h0.ltN; omega) (fun e2 => by have := (row_kind h0.row e2.symm).2.1; omega))
  subst hl
  obtain ⟨a2, c2, e2, he, _⟩ := row_ents o' (fun e he => ((d e he).keep (h.bytes g)).1)
  cases e2
  exact he
theorem ents3 {l : List Ent} {x y z : Int} (h : l.map Prod.fst = [x, y, z]) : ∃ p q r, l = [(x, p), (y, q), (z, r)] := by
  match l, h with
  | [(a, p), (b, q), (c, r)], h =>
    simp only [List.map_cons, List.map_nil, List.cons.injEq, and_true] at h
    obtain ⟨rfl, rfl, rfl⟩ := h
    exact ⟨p, q, r, rfl⟩
theorem ents1 {l : List Ent} {x : Int} (h : l.map Prod.fst = [x]) : ∃ p, l = [(x, p)] := by
  match l, h with
  | [(a, p)], h =>
    simp only [List.map_cons, List.map_nil, List.cons.injEq, and_true] at h
    obtain rfl := h
    exact ⟨p, rfl⟩
theorem TermSt.ents {w w' : World} {v : Value} {k : Nat} {ts : List Int} {fs : List EntV} (h : TermSt w w' v k ts fs) (hk : k = ts.length) : (fs.map Prod.fst).map Prod.fst = ts := by
  have := h.ts
  rw [hk, List.take_length] at this
  rw [List.map_map]
  exact this
theorem nums_cells (w : World) (ts : List Int) (t : TypeId) (fr : Nat × Nat) : ∀ j (hj : j < ts.length), (w.alloc (.cells (ts.map fun n => Value.int .i64 n).toArray t fr)).cell? ⟨w.heap.size, j, none⟩ = some (.int .i64 ts[j]) := by
  intro j hj
  rw [World.cell?_alloc_mark]
  simp [hj]
theorem ev3 {L : List EntV} {x y z : Ent} (h : L.map Prod.fst = [x, y, z]) : ∃ u v t, L = [(x, u), (y, v), (z, t)] := by
  match L, h with
  | [(a, p), (b, q), (c, r)], h =>
    simp only [List.map_cons, List.map_nil, List.cons.injEq, and_true] at h
    obtain ⟨rfl, rfl, rfl⟩ := h
    exact ⟨p, q, r, rfl⟩
theorem ev1 {L : List EntV} {x : Ent} (h : L.map Prod.fst = [x]) : ∃ u, L = [(x, u)] := by
  match L, h with
  | [(a, p)], h =>
    simp only [List.map_cons, List.map_nil, List.cons.injEq, and_true] at h
    obtain rfl := h
    exact ⟨p, rfl⟩
theorem told1 {w w' : World} {N : Nat} {sv : Value} {L : List EntV} {p1 p2 p3 p4 : List (BitVec 8)} {e : Ending} (hL : L.map Prod.fst = [(1, p1), (1, p2), (2, p3)]) (h : MatchTold w w' N N 0 0 sv L 2 1 [(3, p4)] e) :
    e = .returned (.tuple #[.int .i64 3, .int .i64 3, .int .i64 0]) ∧ ∃ sv' fs, LogIn w' N N 0 0 sv' fs ∧ fs.map Prod.fst = [(1, p1), (1, p2), (3, p4)] ∧ Chg w w' N sv.ownBlock := by
  obtain ⟨u, v, t, rfl⟩ := ev3 hL
  have m1 : meetL 0 0 [((1, p1), u), ((1, p2), v), ((2, p3), t)] 2 1 [(3, p4)] = some (2, [(3, p4)]) := by simp [meetL, stand]
  have m2 : passed (stand 0 0 [((1, p1), u), ((1, p2), v), ((2, p3), t)]) 2 [(3, p4)] = 0 := by simp [passed, stand]
  unfold MatchTold at h
  rw [m1] at h
  simp only [m2] at h
  rcases h with ⟨h, _⟩ | ⟨_, kept, hk, _, x, hx, h⟩
  · simp at h
  obtain rfl : kept = 2 := by omega
  obtain rfl : x = 1 := by simpa [stand] using hx.symm
  rcases h with ⟨why, hw, _⟩ | ⟨_, he, sv', fs, l, f, c, _⟩
  · rcases hw with ⟨_, hw⟩ | ⟨_, hw⟩
    · simp at hw
    · simp [canBehind] at hw
  · refine ⟨by simpa using he, sv', _, l, ?_, c⟩
    rw [List.map_append, f]
    rfl
theorem told2 {w w' : World} {N : Nat} {sv : Value} {L : List EntV} {p4 q1 q2 q3 : List (BitVec 8)} {e : Ending} (hL : L.map Prod.fst = [(3, p4)]) (h : MatchTold w w' N N 2 1 sv L 0 0 [(1, q1), (1, q2), (3, q3)] e) :
    e = .returned (.tuple #[.int .i64 3, .int .i64 0, .int .i64 0]) ∧ Below w.heap.size w w' := by
  obtain ⟨u, rfl⟩ := ev1 hL
  have m1 : meetL 2 1 [((3, p4), u)] 0 0 [(1, q1), (1, q2), (3, q3)] = some (2, [(3, q3)]) := by simp [meetL]
  have m2 : passed (stand 2 1 [((3, p4), u)]) 2 [(3, q3)] = 1 := by simp [passed, stand]
  unfold MatchTold at h
  rw [m1] at h
  simp only [m2] at h
  rcases h with ⟨_, he, b⟩ | ⟨h, _⟩
  · exact ⟨by simpa using he, b⟩
  · simp at h
set_option maxRecDepth 100000 in
set_option maxHeartbeats 4000000 in
theorem knownL_any (w : World) : Calls Try.prog 9 #[] w fun e w' => e = .returned (.bool true) ∧ Below w.heap.size w w' := by
  have hT1 : Calls Try.prog 25 #[.slice (some ⟨w.heap.size, 0, none⟩) 3 3] (w.alloc (.cells #[.int .i64 1, .int .i64 1, .int .i64 2] 2)) _ := terms_any (w.alloc (.cells #[.int .i64 1, .int .i64 1, .int .i64 2] 2)) w.heap.size [1, 1, 2] (by simp) (nums_cells w [1, 1, 2] 2 (0, 0))
  have bA := (Below.refl _ w).alloc (Nat.le_refl _) (.cells #[.int .i64 1, .int .i64 1, .int .i64 2] 2)
  obtain ⟨wA, eA⟩ : ∃ wA, w.alloc (.cells #[.int .i64 1, .int .i64 1, .int .i64 2] 2) = wA := ⟨_, rfl⟩
  have EA : Hid (w.alloc (.cells #[.int .i64 1, .int .i64 1, .int .i64 2] 2) = wA) := eA
  have BA : Hid (Below w.heap.size w wA) := by rw [← eA]; exact bA
  clear bA eA
  go_enter Try.func9, Try.ntmps9
  go_wp2_with fail
  refine hT1.mono ?_
  clear hT1
  rintro e w1 ⟨a1, c1, fs1, rfl, s1⟩
  rw [EA.out] at s1
  clear EA
  have B1 : Hid (Below w.heap.size w w1) := BA.out.trans (s1.below.mono BA.out.size)
  obtain ⟨p1, p2, p3, hl1⟩ := ents3 (s1.ents rfl)
  obtain ⟨aa, ca, ee, he1, hn1⟩ := row_ents (es := fs1) (by rw [s1.len]; exact s1.row) (fun e he => (s1.dat e he).1)
  rw [s1.len] at ee he1
  cases ee
  rw [hl1] at he1
  have HNw : Calls Try.prog 8 #[.int .i64 0, .int .i64 0, .slice a1 3 c1] w1 _ := new_any 0 0 (by omega) a1 3 c1 _ w1 he1 hn1 (by omega)
  clear s1 he1 hn1 hl1 BA
  go_wp2_with fail
  refine HNw.mono ?_
  clear HNw
  rintro e w2 ⟨b2, (⟨hno, _⟩ | ⟨_, _, _, rfl, sv2, fs2, f2, l2⟩)⟩
  · exact absurd ⟨by unfold canBase; omega, by simp, by simp [canBehind]; omega⟩ hno
  have B2 : Hid (Below w.heap.size w w2) := B1.out.trans (b2.mono B1.out.size)
  have B2s : Hid (w.heap.size ≤ w1.heap.size) := B1.out.size
  obtain ⟨N, eN⟩ : ∃ N, w1.heap.size = N := ⟨_, rfl⟩
  rw [eN] at l2
  rw [eN]
  have EN : Hid (w1.heap.size = N) := eN
  have L2 : Hid (LogIn w2 N N 0 0 sv2 fs2) := l2
  have F2 : Hid (fs2.map Prod.fst = [(1, p1), (1, p2), (2, p3)]) := f2
  clear b2 f2 l2 eN B1
  have hT2 : Calls Try.prog 25 #[.slice (some ⟨w2.heap.size, 0, none⟩) 1 1] (w2.alloc (.cells #[.int .i64 3] 2)) _ := terms_any (w2.alloc (.cells #[.int .i64 3] 2)) w2.heap.size [3] (by simp) (nums_cells w2 [3] 2 (0, 0))
  have bC := (Below.refl _ w2).alloc (Nat.le_refl _) (.cells #[.int .i64 3] 2)
  obtain ⟨wC, eC⟩ : ∃ wC, w2.alloc (.cells #[.int .i64 3] 2) = wC := ⟨_, rfl⟩
  have EC : Hid (w2.alloc (.cells #[.int .i64 3] 2) = wC) := eC
  have BC : Hid (Below w2.heap.size w2 wC) := by rw [← eC]; exact bC
  clear bC eC
  go_wp2_with fail
  refine hT2.mono ?_
  clear hT2
  rintro e w3 ⟨a3, c3, fs3, rfl, s3⟩
  rw [EC.out] at s3
  clear EC
  obtain ⟨p4, hl3⟩ := ents1 (s3.ents rfl)
  have lC := L2.out.below BC.out
  obtain ⟨k1, k2, k3, k4⟩ := args_kept (v := .bool true) lC s3.below s3.row s3.len s3.dat
  have l3 := lC.below s3.below
  rw [hl3] at k1
  have HM : Calls Try.prog 12 #[.pointer (some ⟨N, 0, none⟩), .int .i64 2, .int .i64 1, .slice a3 1 c3] w3 _ := match_any l3 (by unfold canBase; omega) 2 1 (by omega) (by omega) (by omega) a3 1 c3 _ k1 k2 k3 k4 (by omega)
  have L3 : Hid (LogIn w3 N N 0 0 sv2 fs2) := l3
  have B3 : Hid (Below w.heap.size w w3) := B2.out.trans ((BC.out.trans (s3.below.mono BC.out.size)).mono B2.out.size)
  clear s3 hl3 lC k1 k2 k3 k4 l3 BC B2
  go_wp2_with fail
  refine HM.mono ?_
  clear HM
  intro e w4 hm
  obtain ⟨he, sv4, fs4, l4, f4, g4⟩ := told1 F2.out hm
  rw [he]
  clear hm he
  have B4 : Hid (Below w.heap.size w w4) := B3.out.trans ((L3.out.chg_below g4).mono (by rw [← EN.out]; exact B2s.out))
  have L4 : Hid (LogIn w4 N N 0 0 sv4 fs4) := l4
  have F4 : Hid (fs4.map Prod.fst = [(1, p1), (1, p2), (3, p4)]) := f4
  have s4 : stand 0 0 fs4 3 = some 3 ∧ stand 0 0 fs4 2 = some 1 := by
    obtain ⟨u, v, t, rfl⟩ := ev3 f4
    simp [stand]
  have HTm := term_some l4 3 (by omega) 3 s4.1
  have S4 : Hid (stand 0 0 fs4 2 = some 1) := s4.2
  clear l4 f4 g4 s4 L3 F2 L2 B3
  go_wp2_with fail
  refine HTm.mono ?_
  clear HTm
  rintro e w5 ⟨rfl, b5⟩
  have HCo := compact_ok (L4.out.below b5) 2 (by omega) 1 S4.out
  go_wp2_with fail
  refine HCo.mono ?_
  clear HCo
  rintro e w6 ⟨rfl, sv6, l6, g6, _⟩
  have B6 : Hid (Below w.heap.size w w6) := (B4.out.trans (b5.mono B4.out.size)).trans (((L4.out.below b5).chg_below g6).mono (by rw [← EN.out]; exact B2s.out))
  have F6 : Hid ((fs4.drop ((2 : Int) - 0).toNat).map Prod.fst = [(3, p4)]) := by
    show List.map _ _ = _
    rw [List.map_drop, F4.out]
    rfl
  have L6 : Hid (LogIn w6 N N 2 1 sv6 (fs4.drop ((2 : Int) - 0).toNat)) := l6
  have HBs := base_any l6
  clear l6 g6 b5 B4 L4 F4 S4
  generalize fs4.drop ((2 : Int) - 0).toNat = fs6 at *
  go_wp2_with fail
  refine HBs.mono ?_
  clear HBs
  rintro e w7 ⟨rfl, b7⟩
  have B7 : Hid (Below w.heap.size w w7) := B6.out.trans (b7.mono B6.out.size)
  have L7 : Hid (LogIn w7 N N 2 1 sv6 fs6) := L6.out.below b7
  clear b7 L6 B6
  have hT3 : Calls Try.prog 25 #[.slice (some ⟨w7.heap.size, 0, none⟩) 3 3] (w7.alloc (.cells #[.int .i64 1, .int .i64 1, .int .i64 3] 2)) _ := terms_any (w7.alloc (.cells #[.int .i64 1, .int .i64 1, .int .i64 3] 2)) w7.heap.size [1, 1, 3] (by simp) (nums_cells w7 [1, 1, 3] 2 (0, 0))
  have bD := (Below.refl _ w7).alloc (Nat.le_refl _) (.cells #[.int .i64 1, .int .i64 1, .int .i64 3] 2)
  obtain ⟨wD, eD⟩ : ∃ wD, w7.alloc (.cells #[.int .i64 1, .int .i64 1, .int .i64 3] 2) = wD := ⟨_, rfl⟩
  have ED : Hid (w7.alloc (.cells #[.int .i64 1, .int .i64 1, .int .i64 3] 2) = wD) := eD
  have BD : Hid (Below w7.heap.size w7 wD) := by rw [← eD]; exact bD
  clear bD eD
  go_wp2_with fail
  refine hT3.mono ?_
  clear hT3
  rintro e w8 ⟨a8, c8, fs8, rfl, s8⟩
  rw [ED.out] at s8
  clear ED
  obtain ⟨p5, p6, p7, hl8⟩ := ents3 (s8.ents rfl)
  have lD := L7.out.below BD.out
  obtain ⟨k1, k2, k3, k4⟩ := args_kept (v := .bool true) lD s8.below s8.row s8.len s8.dat
  have l8 := lD.below s8.below
  rw [hl8] at k1
  have HM : Calls Try.prog 12 #[.pointer (some ⟨N, 0, none⟩), .int .i64 0, .int .i64 0, .slice a8 3 c8] w8 _ := match_any l8 (by unfold canBase; omega) 0 0 (by omega) (by omega) (by omega) a8 3 c8 _ k1 k2 k3 k4 (by omega)
  have B8 : Hid (Below w.heap.size w w8) := B7.out.trans ((BD.out.trans (s8.below.mono BD.out.size)).mono B7.out.size)
  clear s8 hl8 lD k1 k2 k3 k4 l8 BD B7
  go_wp2_with fail
  refine HM.mono ?_
  clear HM
  intro e w9 hm
  obtain ⟨he, b9⟩ := told2 F6.out hm
  rw [he]
  clear hm he
  go_wp2
  go_ret
  exact ⟨rfl, B8.out.trans (b9.mono B8.out.size)⟩
end Go.Proofs.Ytikedglcicgdhaa
