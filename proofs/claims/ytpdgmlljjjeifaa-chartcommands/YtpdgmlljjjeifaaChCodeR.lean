/- Package chart's reference: a command read. Written by gen_cc.py. -/
import Derived.Test.YtpdgmlljjjeifaaChCode
import Derived.Test.YtpdgmlljjjeifaaRefGo
namespace Go.Proofs.Ytpdgmlljjjeifaa
open Go.RowKit Cod
attribute [local go_sem] Oper.semAt_some
set_option linter.unusedVariables false
/-- A Parse under way: the result's place, the command's place, the Reader. -/
structure RSt (w0 w : World) (Q R S : Nat) (l : List (BitVec 8)) (cs : Array Value) (x : Nat × Nat) (B : Nat) : Prop where
  q : Blk w Q #[.int .i64 0, .int .i64 0, .int .i64 0, .int .i64 0, .int .i64 0] 46
  s : Blk w S cs 46
  r : RRd w R w0.heap.size B l x.1 x.2
  b : Below w0.heap.size w0 w
  hq : w0.heap.size ≤ Q
  hs : w0.heap.size ≤ S
  hr : w0.heap.size ≤ R
  qs : Q ≠ S
  rs : R < B ∧ B ≤ S
theorem RSt.qr {w0 w : World} {Q R S : Nat} {l : List (BitVec 8)} {cs : Array Value} {x : Nat × Nat} {B : Nat} (h : RSt w0 w Q R S l cs x B) : Q ≠ R := fun e => by
  have h1 := h.q
  have h2 := h.r
  unfold RRd at h2
  obtain ⟨a, c, h3, _⟩ := h2
  unfold Blk at h1
  rw [e, h3] at h1
  injection h1 with h1
  injection h1 with _ h4
  exact absurd h4 (by decide)
theorem RSt.put {w0 w : World} {Q R S : Nat} {l : List (BitVec 8)} {cs : Array Value} {x : Nat × Nat} {B : Nat} (h : RSt w0 w Q R S l cs x B) (k : Nat) (v : Value) : RSt w0 (w.setCell ⟨S, k, none⟩ v) Q R S l (cs.setIfInBounds k v) x B :=
  ⟨h.q.other (Ne.symm h.qs) _ _, h.s.set _ _, h.r.since (Below.heap_setCell _ _ _ _ (by have := h.rs; show R ≠ S; omega)) (fun k hk _ => Below.heap_setCell _ _ _ _ (by have := h.rs; show k ≠ S; omega)), h.b.setCell h.hs v, h.hq, h.hs, h.hr, h.qs, h.rs⟩
theorem RSt.read {w0 w w' : World} {Q R S : Nat} {l : List (BitVec 8)} {cs : Array Value} {x y : Nat × Nat} {B : Nat} (h : RSt w0 w Q R S l cs x B) (g : w.grownBy w' (some R)) (r : RRd w' R w0.heap.size B l y.1 y.2) : RSt w0 w' Q R S l cs y B :=
  ⟨h.q.only (OnlyR.of_grown g) h.qr, h.s.only (OnlyR.of_grown g) (by have := h.rs; omega), r, h.b.trans ((OnlyR.of_grown g).toBelow h.hr h.b.size), h.hq, h.hs, h.hr, h.qs, h.rs⟩
theorem RSt.drewN {w0 w : World} {Q R S : Nat} {l : List (BitVec 8)} {cs : Array Value} {x : Nat × Nat} {B : Nat} (h : RSt w0 w Q R S l cs x B) (n : Nat) : RSt w0 (w.drewN n) Q R S l cs x B :=
  ⟨h.q, h.s, h.r, below_drewN' h.b n, h.hq, h.hs, h.hr, h.qs, h.rs⟩
set_option maxRecDepth 100000 in
set_option maxHeartbeats 4000000 in
theorem rParse_any (a : Option Addr) (len cap : Nat) (l : List (BitVec 8)) (w : World) (h : Seen w a len l) (hnil : a = none → cap = 0) (hm : len ≤ 140737488355328) : Calls Try.prog 19 #[.slice a len cap] w fun e w' => e = .returned (parseV (parseR l)) ∧ Below w.heap.size w w' := by
  obtain rfl : len = l.length := h.1
  by_cases h100 : 100 < l.length
  · have e1 : parseR l = [0, 0, 0, 0, 0, 3] := by unfold parseR; rw [if_pos h100]
    rw [e1]
    have q0 : (100 : Int) < (l.length : Int) := by omega
    have q1 : decide ((100 : Int) < (l.length : Int)) = true := decide_eq_true q0
    clear h hnil hm h100
    generalize l.length = n at *
    go_enter Try.func19, Try.ntmps19
    go_wp2
    exact bodyPost_ret (results_ct rfl _ _ w.heap.size 46 _ _ _ rfl (heap_alloc_new w _) Try.underlying46 rfl (by kernel_rfl)) rfl ⟨rfl, (Below.refl _ w).alloc (Nat.le_refl _) _⟩
  have e1 : parseR l = if parseE l ≠ 0 then [0, 0, 0, 0, 0, (parseE l : Int)] else [prV l 0, prV l 1, prV l 2, prV l 3, prV l 4, 0] := by unfold parseR; rw [if_neg h100]
  obtain ⟨X, eX⟩ : ∃ X, parseR l = X := ⟨_, rfl⟩
  rw [eX] at e1 ⊢
  have EX : Hid (X = if parseE l ≠ 0 then [0, 0, 0, 0, 0, (parseE l : Int)] else [prV l 0, prV l 1, prV l 2, prV l 3, prV l 4, 0]) := e1
  clear eX
  have bA : Below w.heap.size w (w.alloc (.cells #[.int .i64 0, .int .i64 0, .int .i64 0, .int .i64 0, .int .i64 0] 46)) := (Below.refl _ w).alloc (Nat.le_refl _) _
  have qA := Blk.new w #[.int .i64 0, .int .i64 0, .int .i64 0, .int .i64 0, .int .i64 0] 46
  have HN := refOf_any a l.length cap l (w.alloc (.cells #[.int .i64 0, .int .i64 0, .int .i64 0, .int .i64 0, .int .i64 0] 46)) (h.below bA) hnil hm
  obtain ⟨wA, eA⟩ : ∃ x, w.alloc (.cells #[.int .i64 0, .int .i64 0, .int .i64 0, .int .i64 0, .int .i64 0] 46) = x := ⟨_, rfl⟩
  obtain ⟨Q, eQ⟩ : ∃ x, w.heap.size = x := ⟨_, rfl⟩
  rw [eA] at HN bA qA
  rw [eQ] at qA
  have EA : Hid _ := eA
  have EQ : Hid (w.heap.size = Q) := eQ
  have HA : Hid (Below w.heap.size w wA ∧ Blk wA Q #[.int .i64 0, .int .i64 0, .int .i64 0, .int .i64 0, .int .i64 0] 46) := ⟨bA, qA⟩
  have q0 : ¬ (100 : Int) < (l.length : Int) := by omega
  have q1 : decide ((100 : Int) < (l.length : Int)) = false := decide_eq_false q0
  clear h hnil hm h100 bA qA eA eQ e1
  obtain ⟨n, en⟩ : ∃ n, l.length = n := ⟨_, rfl⟩
  rw [en] at HN q0 q1
  rw [en]
  clear en
  go_enter Try.func19, Try.ntmps19
  go_wp2_with fail
  rw [EA.out, EQ.out]
  refine HN.mono ?_
  clear HN
  rintro e w1 ⟨R, rfl, hR, r1, b1⟩
  have hz : Q < w1.heap.size := Nat.lt_of_lt_of_le HA.out.2.lt b1.size
  have P0 : Hid (RSt w (w1.alloc (.cells #[.int .i64 0, .int .i64 0, .int .i64 0, .int .i64 0, .int .i64 0] 46)) Q R w1.heap.size l #[.int .i64 0, .int .i64 0, .int .i64 0, .int .i64 0, .int .i64 0] (prS l 0) w1.heap.size) :=
    ⟨(HA.out.2.below b1).alloc _, Blk.new w1 _ _, (RRd.since (B := w1.heap.size) ⟨r1.choose, r1.choose_spec.choose, r1.choose_spec.choose_spec.1, r1.choose_spec.choose_spec.2.1, r1.choose_spec.choose_spec.2.2.1, r1.choose_spec.choose_spec.2.2.2.1, fun h0 x hx => ⟨(r1.choose_spec.choose_spec.2.2.2.2.1 h0 x hx).1, Nat.le_trans HA.out.1.size (r1.choose_spec.choose_spec.2.2.2.2.1 h0 x hx).2.1, (r1.choose_spec.choose_spec.2.2.2.2.1 h0 x hx).2.2⟩, r1.choose_spec.choose_spec.2.2.2.2.2⟩ (((Below.refl _ w1).alloc (Nat.le_refl _) _).block _ r1.lt) (fun k _ hk => ((Below.refl _ w1).alloc (Nat.le_refl _) _).block _ hk)), (HA.out.1.trans (b1.mono HA.out.1.size)).alloc (Nat.le_trans HA.out.1.size b1.size) _, Nat.le_of_eq EQ.out, Nat.le_trans HA.out.1.size b1.size, Nat.le_trans HA.out.1.size hR, by omega, ⟨r1.lt, Nat.le_refl _⟩⟩
  obtain ⟨w2, e2⟩ : ∃ x, w1.alloc (.cells #[.int .i64 0, .int .i64 0, .int .i64 0, .int .i64 0, .int .i64 0] 46) = x := ⟨_, rfl⟩
  obtain ⟨S, eS⟩ : ∃ x, w1.heap.size = x := ⟨_, rfl⟩
  have E2 : Hid _ := e2
  have ES : Hid (w1.heap.size = S) := eS
  rw [e2, eS] at P0
  clear e2 eS r1 b1 hR HA hz
  have HX := refRInt_any R w.heap.size S l (prS l 0).1 (prS l 0).2 w2 P0.out.r
  rw [show zag (rU l (prS l 0).1 (prS l 0).2).1 = prV l 0 from rfl, show (rU l (prS l 0).1 (prS l 0).2).2.1 = (prS l 1).1 from rfl, show (rU l (prS l 0).1 (prS l 0).2).2.2 = (prS l 1).2 from rfl] at HX
  go_wp2_with fail
  rw [E2.out, ES.out]
  clear E2 ES
  refine HX.mono ?_
  clear HX
  rintro e x0 ⟨rfl, r0, g0⟩
  have J0 : Hid (RSt w x0 Q R S l #[.int .i64 0, .int .i64 0, .int .i64 0, .int .i64 0, .int .i64 0] (prS l 1) S) := P0.out.read g0 r0
  have c0 : x0.cell? ⟨S, 0, none⟩ = some (.int .i64 0) := J0.out.s.cell 0
  have f0 := J0.out.s.fz 0
  clear r0 g0 P0
  have P1 : Hid (RSt w (x0.setCell ⟨S, 0, none⟩ (.int .i64 (prV l 0))) Q R S l #[.int .i64 (prV l 0), .int .i64 0, .int .i64 0, .int .i64 0, .int .i64 0] (prS l 1) S) := J0.out.put 0 _
  clear J0
  have HX := refRInt_any R w.heap.size S l (prS l 1).1 (prS l 1).2 (x0.setCell ⟨S, 0, none⟩ (.int .i64 (prV l 0))) P1.out.r
  rw [show zag (rU l (prS l 1).1 (prS l 1).2).1 = prV l 1 from rfl, show (rU l (prS l 1).1 (prS l 1).2).2.1 = (prS l 2).1 from rfl, show (rU l (prS l 1).1 (prS l 1).2).2.2 = (prS l 2).2 from rfl] at HX
  go_wp2_with fail
  refine HX.mono ?_
  clear HX
  rintro e x1 ⟨rfl, r1, g1⟩
  have J1 : Hid (RSt w x1 Q R S l #[.int .i64 (prV l 0), .int .i64 0, .int .i64 0, .int .i64 0, .int .i64 0] (prS l 2) S) := P1.out.read g1 r1
  have c1 : x1.cell? ⟨S, 1, none⟩ = some (.int .i64 0) := J1.out.s.cell 1
  have f1 := J1.out.s.fz 1
  clear r1 g1 P1
  have P2 : Hid (RSt w (x1.setCell ⟨S, 1, none⟩ (.int .i64 (prV l 1))) Q R S l #[.int .i64 (prV l 0), .int .i64 (prV l 1), .int .i64 0, .int .i64 0, .int .i64 0] (prS l 2) S) := J1.out.put 1 _
  clear J1
  have HX := refRInt_any R w.heap.size S l (prS l 2).1 (prS l 2).2 (x1.setCell ⟨S, 1, none⟩ (.int .i64 (prV l 1))) P2.out.r
  rw [show zag (rU l (prS l 2).1 (prS l 2).2).1 = prV l 2 from rfl, show (rU l (prS l 2).1 (prS l 2).2).2.1 = (prS l 3).1 from rfl, show (rU l (prS l 2).1 (prS l 2).2).2.2 = (prS l 3).2 from rfl] at HX
  go_wp2_with fail
  refine HX.mono ?_
  clear HX
  rintro e x2 ⟨rfl, r2, g2⟩
  have J2 : Hid (RSt w x2 Q R S l #[.int .i64 (prV l 0), .int .i64 (prV l 1), .int .i64 0, .int .i64 0, .int .i64 0] (prS l 3) S) := P2.out.read g2 r2
  have c2 : x2.cell? ⟨S, 2, none⟩ = some (.int .i64 0) := J2.out.s.cell 2
  have f2 := J2.out.s.fz 2
  clear r2 g2 P2
  have P3 : Hid (RSt w (x2.setCell ⟨S, 2, none⟩ (.int .i64 (prV l 2))) Q R S l #[.int .i64 (prV l 0), .int .i64 (prV l 1), .int .i64 (prV l 2), .int .i64 0, .int .i64 0] (prS l 3) S) := J2.out.put 2 _
  clear J2
  have HX := refRInt_any R w.heap.size S l (prS l 3).1 (prS l 3).2 (x2.setCell ⟨S, 2, none⟩ (.int .i64 (prV l 2))) P3.out.r
  rw [show zag (rU l (prS l 3).1 (prS l 3).2).1 = prV l 3 from rfl, show (rU l (prS l 3).1 (prS l 3).2).2.1 = (prS l 4).1 from rfl, show (rU l (prS l 3).1 (prS l 3).2).2.2 = (prS l 4).2 from rfl] at HX
  go_wp2_with fail
  refine HX.mono ?_
  clear HX
  rintro e x3 ⟨rfl, r3, g3⟩
  have J3 : Hid (RSt w x3 Q R S l #[.int .i64 (prV l 0), .int .i64 (prV l 1), .int .i64 (prV l 2), .int .i64 0, .int .i64 0] (prS l 4) S) := P3.out.read g3 r3
  have c3 : x3.cell? ⟨S, 3, none⟩ = some (.int .i64 0) := J3.out.s.cell 3
  have f3 := J3.out.s.fz 3
  clear r3 g3 P3
  have P4 : Hid (RSt w (x3.setCell ⟨S, 3, none⟩ (.int .i64 (prV l 3))) Q R S l #[.int .i64 (prV l 0), .int .i64 (prV l 1), .int .i64 (prV l 2), .int .i64 (prV l 3), .int .i64 0] (prS l 4) S) := J3.out.put 3 _
  clear J3
  have HX := refRInt_any R w.heap.size S l (prS l 4).1 (prS l 4).2 (x3.setCell ⟨S, 3, none⟩ (.int .i64 (prV l 3))) P4.out.r
  rw [show zag (rU l (prS l 4).1 (prS l 4).2).1 = prV l 4 from rfl, show (rU l (prS l 4).1 (prS l 4).2).2.1 = (prS l 5).1 from rfl, show (rU l (prS l 4).1 (prS l 4).2).2.2 = (prS l 5).2 from rfl] at HX
  go_wp2_with fail
  refine HX.mono ?_
  clear HX
  rintro e x4 ⟨rfl, r4, g4⟩
  have J4 : Hid (RSt w x4 Q R S l #[.int .i64 (prV l 0), .int .i64 (prV l 1), .int .i64 (prV l 2), .int .i64 (prV l 3), .int .i64 0] (prS l 5) S) := P4.out.read g4 r4
  have c4 : x4.cell? ⟨S, 4, none⟩ = some (.int .i64 0) := J4.out.s.cell 4
  have f4 := J4.out.s.fz 4
  clear r4 g4 P4
  have P5 : Hid (RSt w (x4.setCell ⟨S, 4, none⟩ (.int .i64 (prV l 4))) Q R S l #[.int .i64 (prV l 0), .int .i64 (prV l 1), .int .i64 (prV l 2), .int .i64 (prV l 3), .int .i64 (prV l 4)] (prS l 5) S) := J4.out.put 4 _
  clear J4
  have HX := refREnd_any R w.heap.size S l (prS l 5).1 (prS l 5).2 (x4.setCell ⟨S, 4, none⟩ (.int .i64 (prV l 4))) P5.out.r
  rw [show rEnd l (prS l 5).1 (prS l 5).2 = parseE l from rfl] at HX
  go_wp2_with fail
  refine HX.mono ?_
  clear HX c0 f0 c1 f1 c2 f2 c3 f3 c4 f4
  rintro e y1 ⟨rfl, nq, rfl⟩
  have H7 : Hid (RSt w ((x4.setCell ⟨S, 4, none⟩ (.int .i64 (prV l 4))).drewN nq) Q R S l #[.int .i64 (prV l 0), .int .i64 (prV l 1), .int .i64 (prV l 2), .int .i64 (prV l 3), .int .i64 (prV l 4)] (prS l 5) S) := P5.out.drewN nq
  clear P5
  generalize (x4.setCell ⟨S, 4, none⟩ (.int .i64 (prV l 4))).drewN nq = y2 at *
  have z0 : y2.cell? ⟨Q, 0, none⟩ = some (.int .i64 0) := H7.out.q.cell 0
  have z1 : y2.cell? ⟨Q, 1, none⟩ = some (.int .i64 0) := H7.out.q.cell 1
  have z2 : y2.cell? ⟨Q, 2, none⟩ = some (.int .i64 0) := H7.out.q.cell 2
  have z3 : y2.cell? ⟨Q, 3, none⟩ = some (.int .i64 0) := H7.out.q.cell 3
  have z4 : y2.cell? ⟨Q, 4, none⟩ = some (.int .i64 0) := H7.out.q.cell 4
  have g0 := H7.out.q.fz 0
  have g1 := H7.out.q.fz 1
  have g2 := H7.out.q.fz 2
  have g3 := H7.out.q.fz 3
  have g4 := H7.out.q.fz 4
  have s0 : y2.cell? ⟨S, 0, none⟩ = some (.int .i64 (prV l 0)) := H7.out.s.cell 0
  have s1 : y2.cell? ⟨S, 1, none⟩ = some (.int .i64 (prV l 1)) := H7.out.s.cell 1
  have s2 : y2.cell? ⟨S, 2, none⟩ = some (.int .i64 (prV l 2)) := H7.out.s.cell 2
  have s3 : y2.cell? ⟨S, 3, none⟩ = some (.int .i64 (prV l 3)) := H7.out.s.cell 3
  have s4 : y2.cell? ⟨S, 4, none⟩ = some (.int .i64 (prV l 4)) := H7.out.s.cell 4
  by_cases he : parseE l = 0
  · have HE : Hid (parseE l = 0) := he
    rw [he]
    rw [show ((0 : Nat) : Int) = 0 from rfl]
    clear he
    go_wp2
    have B1 : ∀ (a b c d e : Value), Blk (((((y2.setCell ⟨Q, 0, none⟩ a).setCell ⟨Q, 1, none⟩ b).setCell ⟨Q, 2, none⟩ c).setCell ⟨Q, 3, none⟩ d).setCell ⟨Q, 4, none⟩ e) Q #[a, b, c, d, e] 46 := fun a b c d e => ((((H7.out.q.set 0 a).set 1 b).set 2 c).set 3 d).set 4 e
    have B2 : ∀ (a b c d e : Value), Below w.heap.size w (((((y2.setCell ⟨Q, 0, none⟩ a).setCell ⟨Q, 1, none⟩ b).setCell ⟨Q, 2, none⟩ c).setCell ⟨Q, 3, none⟩ d).setCell ⟨Q, 4, none⟩ e) := fun a b c d e => ((((H7.out.b.setCell H7.out.hq a).setCell H7.out.hq b).setCell H7.out.hq c).setCell H7.out.hq d).setCell H7.out.hq e
    exact bodyPost_ret (results_ct rfl _ _ Q 46 _ _ _ rfl (B1 _ _ _ _ _) Try.underlying46 rfl (by kernel_rfl)) rfl ⟨by rw [EX.out.trans (if_neg (fun x => x HE.out))]; rfl, B2 _ _ _ _ _⟩
  · have HE : Hid (parseE l ≠ 0) := he
    have he1 : ¬ ((parseE l : Int) = 0) := by omega
    have he2 : ((parseE l : Int) != 0) = true := by simpa using he
    clear he
    go_wp2
    have B1 : ∀ (a b c d e : Value), Blk (((((y2.setCell ⟨Q, 0, none⟩ a).setCell ⟨Q, 1, none⟩ b).setCell ⟨Q, 2, none⟩ c).setCell ⟨Q, 3, none⟩ d).setCell ⟨Q, 4, none⟩ e) Q #[a, b, c, d, e] 46 := fun a b c d e => ((((H7.out.q.set 0 a).set 1 b).set 2 c).set 3 d).set 4 e
    have B2 : ∀ (a b c d e : Value), Below w.heap.size w (((((y2.setCell ⟨Q, 0, none⟩ a).setCell ⟨Q, 1, none⟩ b).setCell ⟨Q, 2, none⟩ c).setCell ⟨Q, 3, none⟩ d).setCell ⟨Q, 4, none⟩ e) := fun a b c d e => ((((H7.out.b.setCell H7.out.hq a).setCell H7.out.hq b).setCell H7.out.hq c).setCell H7.out.hq d).setCell H7.out.hq e
    exact bodyPost_ret (results_ct rfl _ _ Q 46 _ _ _ rfl (B1 _ _ _ _ _) Try.underlying46 rfl (by kernel_rfl)) rfl ⟨by rw [EX.out.trans (if_pos HE.out)]; rfl, B2 _ _ _ _ _⟩
end Go.Proofs.Ytpdgmlljjjeifaa
