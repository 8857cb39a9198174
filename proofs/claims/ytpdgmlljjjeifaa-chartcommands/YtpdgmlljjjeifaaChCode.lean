/- Package chart: a command as bytes, and back. Written by gen_cc.py. -/
import Derived.Test.YtpdgmlljjjeifaaChLaw
import Derived.Test.YtpdgmlljjjeifaaReads
import Derived.Test.YtpdgmlljjjeifaaWriters
import Derived.Test.YtpdgmlljjjeifaaRefW
import Derived.Test.YtpdgmlljjjeifaaRefRf
import Derived.Test.YtpdgmlljjjeifaaBacks
import Derived.Test.YtpdgmlljjjeifaaKnownC
namespace Go.Proofs.Ytpdgmlljjjeifaa
open Go.RowKit Cod
attribute [local go_sem] Oper.semAt_some
set_option linter.unusedVariables false
theorem OnlyR.of_grown {w w' : World} {R : Nat} (g : w.grownBy w' (some R)) : OnlyR w w' R := ⟨g.os, g.tape, g.output, g.size, fun k hk hn => g.block k hk (fun e => hn (Option.some.inj e))⟩
/-- Bytes that were answered. -/
def Got (w : World) (v : Value) (l : List (BitVec 8)) : Prop := ∃ a c, v = .slice a l.length c ∧ Seen w a l.length l ∧ (a = none → c = 0)
theorem Got.below {w w' : World} {v : Value} {l : List (BitVec 8)} (h : Got w v l) (b : Below w.heap.size w w') : Got w' v l := by
  obtain ⟨a, c, h1, h2, h3⟩ := h
  exact ⟨a, c, h1, h2.below b, h3⟩
theorem got_nil (w : World) : Got w (.slice none 0 0) [] := ⟨none, 0, rfl, ⟨rfl, by simp, .inl rfl⟩, fun _ => rfl⟩
theorem got_owned {w : World} {base n : Nat} {v : Value} {l : List (BitVec 8)} (h : w.ownsRow base 5 1 v n (cellsOf l)) (hm : n ≤ maxLen) : Got w v l := by
  have hl : n = l.length := by have := h.1; rw [cellsOf_length] at this; omega
  subst hl
  obtain ⟨a, c, h1, h2, h3, _⟩ := owned_seen h hm
  exact ⟨a, c, h1, h2, h3⟩
def i64in (n : Int) : Prop := -9223372036854775808 ≤ n ∧ n < 9223372036854775808
theorem enc_zig {n : Int} (h : i64in n) : (enc (zig n)).length ≤ 10 := enc_ten (zig_lt n h)
theorem int_got {w : World} {v : Value} {l : List (BitVec 8)} (h : Got w v l) (n : Int) (hn : i64in n) (hm : l.length ≤ 1000000) :
    Calls Try.prog 34 #[v, .int .i64 n] w fun e w' => ∃ v', e = .returned v' ∧ Got w' v' (l ++ enc (zig n)) ∧ Below w.heap.size w w' := by
  obtain ⟨a, c, rfl, h2, h3⟩ := h
  refine (int_any a l.length c l n hn w h2 h3 (by omega)).mono fun e w' ⟨v', he, o, b⟩ => ⟨v', he, got_owned o ?_, b⟩
  have := enc_zig hn
  unfold maxLen
  omega
theorem refInt_got {w : World} {v : Value} {l : List (BitVec 8)} (h : Got w v l) (n : Int) (hn : i64in n) (hm : l.length ≤ 1000000) :
    Calls Try.prog 41 #[v, .int .i64 n] w fun e w' => ∃ v', e = .returned v' ∧ Got w' v' (l ++ enc (zig n)) ∧ Below w.heap.size w w' := by
  obtain ⟨a, c, rfl, h2, h3⟩ := h
  refine (refInt_any a l.length c l n hn w h2 h3 (by omega)).mono fun e w' ⟨v', he, o, b⟩ => ⟨v', he, got_owned o ?_, b⟩
  have := enc_zig hn
  unfold maxLen
  omega
/-- A command's bytes. -/
def cmdB (k s h n p : Int) : List (BitVec 8) := (((([] ++ enc (zig k)) ++ enc (zig s)) ++ enc (zig h)) ++ enc (zig n)) ++ enc (zig p)
set_option maxRecDepth 100000 in
set_option maxHeartbeats 1600000 in
theorem cBytes_any (k s h n p : Int) (hk : i64in k) (hs : i64in s) (hh : i64in h) (hn : i64in n) (hp : i64in p) (w : World) : Calls Try.prog 16 #[.agg #[.int .i64 k, .int .i64 s, .int .i64 h, .int .i64 n, .int .i64 p]] w fun e w' => ∃ v, e = .returned v ∧ Got w' v (cmdB k s h n p) ∧ Below w.heap.size w w' := by
  have p0 := Blk.new w #[.int .i64 k, .int .i64 s, .int .i64 h, .int .i64 n, .int .i64 p] 38
  have b0 : Below w.heap.size w (w.alloc (.cells #[.int .i64 k, .int .i64 s, .int .i64 h, .int .i64 n, .int .i64 p] 38)) := (Below.refl _ w).alloc (Nat.le_refl _) _
  obtain ⟨wA, eA⟩ : ∃ x, w.alloc (.cells #[.int .i64 k, .int .i64 s, .int .i64 h, .int .i64 n, .int .i64 p] 38) = x := ⟨_, rfl⟩
  obtain ⟨P, eP⟩ : ∃ x, w.heap.size = x := ⟨_, rfl⟩
  rw [eA] at p0 b0
  rw [eP] at p0
  have EA : Hid _ := eA
  have EP : Hid (w.heap.size = P) := eP
  have HB : Hid (i64in k ∧ i64in s ∧ i64in h ∧ i64in n ∧ i64in p) := ⟨hk, hs, hh, hn, hp⟩
  have H0 : Hid (Blk wA P #[.int .i64 k, .int .i64 s, .int .i64 h, .int .i64 n, .int .i64 p] 38 ∧ Below w.heap.size w wA ∧ Got wA (.slice none 0 0) []) := ⟨p0, b0, got_nil wA⟩
  have y0 : wA.cell? ⟨P, 0, none⟩ = some (.int .i64 k) := p0.cell 0
  clear eA eP p0 b0 hk hs hh hn hp
  go_enter Try.func16, Try.ntmps16
  go_wp2_with fail
  rw [EA.out, EP.out]
  refine (int_got H0.out.2.2 k HB.out.1 (by simp)).mono ?_
  rintro e w1 ⟨v1, rfl, g1, b1⟩
  have H1 : Hid (Blk w1 P #[.int .i64 k, .int .i64 s, .int .i64 h, .int .i64 n, .int .i64 p] 38 ∧ Below w.heap.size w w1 ∧ Got w1 v1 ([] ++ enc (zig k))) := ⟨H0.out.1.below b1, H0.out.2.1.trans (b1.mono H0.out.2.1.size), g1⟩
  have y1 : w1.cell? ⟨P, 1, none⟩ = some (.int .i64 s) := H1.out.1.cell 1
  clear b1 g1 y0 H0
  go_wp2_with fail
  refine (int_got H1.out.2.2 s HB.out.2.1 (by have e0 := enc_zig HB.out.1; have e1 := enc_zig HB.out.2.1; have e2 := enc_zig HB.out.2.2.1; have e3 := enc_zig HB.out.2.2.2.1; simp only [List.length_append, List.length_nil]; omega)).mono ?_
  rintro e w2 ⟨v2, rfl, g2, b2⟩
  have H2 : Hid (Blk w2 P #[.int .i64 k, .int .i64 s, .int .i64 h, .int .i64 n, .int .i64 p] 38 ∧ Below w.heap.size w w2 ∧ Got w2 v2 (([] ++ enc (zig k)) ++ enc (zig s))) := ⟨H1.out.1.below b2, H1.out.2.1.trans (b2.mono H1.out.2.1.size), g2⟩
  have y2 : w2.cell? ⟨P, 2, none⟩ = some (.int .i64 h) := H2.out.1.cell 2
  clear b2 g2 y1 H1
  go_wp2_with fail
  refine (int_got H2.out.2.2 h HB.out.2.2.1 (by have e0 := enc_zig HB.out.1; have e1 := enc_zig HB.out.2.1; have e2 := enc_zig HB.out.2.2.1; have e3 := enc_zig HB.out.2.2.2.1; simp only [List.length_append, List.length_nil]; omega)).mono ?_
  rintro e w3 ⟨v3, rfl, g3, b3⟩
  have H3 : Hid (Blk w3 P #[.int .i64 k, .int .i64 s, .int .i64 h, .int .i64 n, .int .i64 p] 38 ∧ Below w.heap.size w w3 ∧ Got w3 v3 ((([] ++ enc (zig k)) ++ enc (zig s)) ++ enc (zig h))) := ⟨H2.out.1.below b3, H2.out.2.1.trans (b3.mono H2.out.2.1.size), g3⟩
  have y3 : w3.cell? ⟨P, 3, none⟩ = some (.int .i64 n) := H3.out.1.cell 3
  clear b3 g3 y2 H2
  go_wp2_with fail
  refine (int_got H3.out.2.2 n HB.out.2.2.2.1 (by have e0 := enc_zig HB.out.1; have e1 := enc_zig HB.out.2.1; have e2 := enc_zig HB.out.2.2.1; have e3 := enc_zig HB.out.2.2.2.1; simp only [List.length_append, List.length_nil]; omega)).mono ?_
  rintro e w4 ⟨v4, rfl, g4, b4⟩
  have H4 : Hid (Blk w4 P #[.int .i64 k, .int .i64 s, .int .i64 h, .int .i64 n, .int .i64 p] 38 ∧ Below w.heap.size w w4 ∧ Got w4 v4 (((([] ++ enc (zig k)) ++ enc (zig s)) ++ enc (zig h)) ++ enc (zig n))) := ⟨H3.out.1.below b4, H3.out.2.1.trans (b4.mono H3.out.2.1.size), g4⟩
  have y4 : w4.cell? ⟨P, 4, none⟩ = some (.int .i64 p) := H4.out.1.cell 4
  clear b4 g4 y3 H3
  go_wp2_with fail
  refine (int_got H4.out.2.2 p HB.out.2.2.2.2 (by have e0 := enc_zig HB.out.1; have e1 := enc_zig HB.out.2.1; have e2 := enc_zig HB.out.2.2.1; have e3 := enc_zig HB.out.2.2.2.1; simp only [List.length_append, List.length_nil]; omega)).mono ?_
  rintro e w5 ⟨v5, rfl, g5, b5⟩
  have H5 : Hid (Got w5 v5 (cmdB k s h n p) ∧ Below w.heap.size w w5) := ⟨g5, H4.out.2.1.trans (b5.mono H4.out.2.1.size)⟩
  clear b5 g5
  go_wp2
  go_ret
  exact ⟨_, rfl, H5.out.1, H5.out.2⟩
set_option maxRecDepth 100000 in
set_option maxHeartbeats 1600000 in
theorem rBytes_any (k s h n p : Int) (hk : i64in k) (hs : i64in s) (hh : i64in h) (hn : i64in n) (hp : i64in p) (w : World) : Calls Try.prog 20 #[.agg #[.int .i64 k, .int .i64 s, .int .i64 h, .int .i64 n, .int .i64 p]] w fun e w' => ∃ v, e = .returned v ∧ Got w' v (cmdB k s h n p) ∧ Below w.heap.size w w' := by
  have p0 := Blk.new w #[.int .i64 k, .int .i64 s, .int .i64 h, .int .i64 n, .int .i64 p] 46
  have b0 : Below w.heap.size w (w.alloc (.cells #[.int .i64 k, .int .i64 s, .int .i64 h, .int .i64 n, .int .i64 p] 46)) := (Below.refl _ w).alloc (Nat.le_refl _) _
  obtain ⟨wA, eA⟩ : ∃ x, w.alloc (.cells #[.int .i64 k, .int .i64 s, .int .i64 h, .int .i64 n, .int .i64 p] 46) = x := ⟨_, rfl⟩
  obtain ⟨P, eP⟩ : ∃ x, w.heap.size = x := ⟨_, rfl⟩
  rw [eA] at p0 b0
  rw [eP] at p0
  have EA : Hid _ := eA
  have EP : Hid (w.heap.size = P) := eP
  have HB : Hid (i64in k ∧ i64in s ∧ i64in h ∧ i64in n ∧ i64in p) := ⟨hk, hs, hh, hn, hp⟩
  have H0 : Hid (Blk wA P #[.int .i64 k, .int .i64 s, .int .i64 h, .int .i64 n, .int .i64 p] 46 ∧ Below w.heap.size w wA ∧ Got wA (.slice none 0 0) []) := ⟨p0, b0, got_nil wA⟩
  have y0 : wA.cell? ⟨P, 0, none⟩ = some (.int .i64 k) := p0.cell 0
  clear eA eP p0 b0 hk hs hh hn hp
  go_enter Try.func20, Try.ntmps20
  go_wp2_with fail
  rw [EA.out, EP.out]
  refine (refInt_got H0.out.2.2 k HB.out.1 (by simp)).mono ?_
  rintro e w1 ⟨v1, rfl, g1, b1⟩
  have H1 : Hid (Blk w1 P #[.int .i64 k, .int .i64 s, .int .i64 h, .int .i64 n, .int .i64 p] 46 ∧ Below w.heap.size w w1 ∧ Got w1 v1 ([] ++ enc (zig k))) := ⟨H0.out.1.below b1, H0.out.2.1.trans (b1.mono H0.out.2.1.size), g1⟩
  have y1 : w1.cell? ⟨P, 1, none⟩ = some (.int .i64 s) := H1.out.1.cell 1
  clear b1 g1 y0 H0
  go_wp2_with fail
  refine (refInt_got H1.out.2.2 s HB.out.2.1 (by have e0 := enc_zig HB.out.1; have e1 := enc_zig HB.out.2.1; have e2 := enc_zig HB.out.2.2.1; have e3 := enc_zig HB.out.2.2.2.1; simp only [List.length_append, List.length_nil]; omega)).mono ?_
  rintro e w2 ⟨v2, rfl, g2, b2⟩
  have H2 : Hid (Blk w2 P #[.int .i64 k, .int .i64 s, .int .i64 h, .int .i64 n, .int .i64 p] 46 ∧ Below w.heap.size w w2 ∧ Got w2 v2 (([] ++ enc (zig k)) ++ enc (zig s))) := ⟨H1.out.1.below b2, H1.out.2.1.trans (b2.mono H1.out.2.1.size), g2⟩
  have y2 : w2.cell? ⟨P, 2, none⟩ = some (.int .i64 h) := H2.out.1.cell 2
  clear b2 g2 y1 H1
  go_wp2_with fail
  refine (refInt_got H2.out.2.2 h HB.out.2.2.1 (by have e0 := enc_zig HB.out.1; have e1 := enc_zig HB.out.2.1; have e2 := enc_zig HB.out.2.2.1; have e3 := enc_zig HB.out.2.2.2.1; simp only [List.length_append, List.length_nil]; omega)).mono ?_
  rintro e w3 ⟨v3, rfl, g3, b3⟩
  have H3 : Hid (Blk w3 P #[.int .i64 k, .int .i64 s, .int .i64 h, .int .i64 n, .int .i64 p] 46 ∧ Below w.heap.size w w3 ∧ Got w3 v3 ((([] ++ enc (zig k)) ++ enc (zig s)) ++ enc (zig h))) := ⟨H2.out.1.below b3, H2.out.2.1.trans (b3.mono H2.out.2.1.size), g3⟩
  have y3 : w3.cell? ⟨P, 3, none⟩ = some (.int .i64 n) := H3.out.1.cell 3
  clear b3 g3 y2 H2
  go_wp2_with fail
  refine (refInt_got H3.out.2.2 n HB.out.2.2.2.1 (by have e0 := enc_zig HB.out.1; have e1 := enc_zig HB.out.2.1; have e2 := enc_zig HB.out.2.2.1; have e3 := enc_zig HB.out.2.2.2.1; simp only [List.length_append, List.length_nil]; omega)).mono ?_
  rintro e w4 ⟨v4, rfl, g4, b4⟩
  have H4 : Hid (Blk w4 P #[.int .i64 k, .int .i64 s, .int .i64 h, .int .i64 n, .int .i64 p] 46 ∧ Below w.heap.size w w4 ∧ Got w4 v4 (((([] ++ enc (zig k)) ++ enc (zig s)) ++ enc (zig h)) ++ enc (zig n))) := ⟨H3.out.1.below b4, H3.out.2.1.trans (b4.mono H3.out.2.1.size), g4⟩
  have y4 : w4.cell? ⟨P, 4, none⟩ = some (.int .i64 p) := H4.out.1.cell 4
  clear b4 g4 y3 H3
  go_wp2_with fail
  refine (refInt_got H4.out.2.2 p HB.out.2.2.2.2 (by have e0 := enc_zig HB.out.1; have e1 := enc_zig HB.out.2.1; have e2 := enc_zig HB.out.2.2.1; have e3 := enc_zig HB.out.2.2.2.1; simp only [List.length_append, List.length_nil]; omega)).mono ?_
  rintro e w5 ⟨v5, rfl, g5, b5⟩
  have H5 : Hid (Got w5 v5 (cmdB k s h n p) ∧ Below w.heap.size w w5) := ⟨g5, H4.out.2.1.trans (b5.mono H4.out.2.1.size)⟩
  clear b5 g5
  go_wp2
  go_ret
  exact ⟨_, rfl, H5.out.1, H5.out.2⟩
/-- What is read, number by number: where the Reader stands behind j of them, and its error. -/
def prS (l : List (BitVec 8)) : Nat → Nat × Nat
  | 0 => (0, 0)
  | j + 1 => (rU l (prS l j).1 (prS l j).2).2
def prV (l : List (BitVec 8)) (j : Nat) : Int := zag (rU l (prS l j).1 (prS l j).2).1
def parseE (l : List (BitVec 8)) : Nat := rEnd l (prS l 5).1 (prS l 5).2
/-- What Parse answers: five numbers, and an error. -/
def parseR (l : List (BitVec 8)) : List Int :=
  if 100 < l.length then [0, 0, 0, 0, 0, 3] else
  if parseE l ≠ 0 then [0, 0, 0, 0, 0, (parseE l : Int)] else
  [prV l 0, prV l 1, prV l 2, prV l 3, prV l 4, 0]
def parseV (x : List Int) : Value := .tuple #[.agg #[.int .i64 (at_ x 0), .int .i64 (at_ x 1), .int .i64 (at_ x 2), .int .i64 (at_ x 3), .int .i64 (at_ x 4)], .int .i64 (at_ x 5)]
theorem results_ct {P : Program} {fn : Func} {p u : Tmp} {ty : TypeId} (h : fn.results = #[.cell p ty, .tmp u]) (tmps : Array Value) (w : World) (g : Nat) (t : TypeId) (cs : Array Value) (fr : Nat × Nat) (d : TypeDesc)
    (hp : tmps.getD p undef = .pointer (some ⟨g, 0, none⟩)) (hg : w.heap[g]? = some (.cells cs t fr))
    (hu : P.underlying ty = some d) (hd : (match d with | .struct _ | .array _ _ => true | _ => false) = true) (hi : (P.info? ty).map (·.size) = some cs.size) :
    (results fn tmps).run P w = .ok (.tuple #[.agg cs, tmps.getD u undef]) w := by
  rw [results_cell_tmp h, hp]
  simp [asAddr, run_loadVar_row w g t ty cs fr d hg hu hd hi]
/-- A Parse under way: the result's place, the command's place, the Reader. -/
structure PSt (w0 w : World) (Q R S : Nat) (l : List (BitVec 8)) (cs : Array Value) (x : Nat × Nat) : Prop where
  q : Blk w Q #[.int .i64 0, .int .i64 0, .int .i64 0, .int .i64 0, .int .i64 0] 38
  s : Blk w S cs 38
  r : Rdr w R l x.1 x.2
  b : Below w0.heap.size w0 w
  hq : w0.heap.size ≤ Q
  hs : w0.heap.size ≤ S
  hr : w0.heap.size ≤ R
  qs : Q ≠ S
  rs : R < S
theorem PSt.qr {w0 w : World} {Q R S : Nat} {l : List (BitVec 8)} {cs : Array Value} {x : Nat × Nat} (h : PSt w0 w Q R S l cs x) : Q ≠ R := fun e => by
  have h1 := h.q
  have h2 := h.r
  unfold Rdr at h2
  obtain ⟨a, c, h3, _⟩ := h2
  unfold Blk at h1
  rw [e, h3] at h1
  injection h1 with h1
  injection h1 with _ h4
  exact absurd h4 (by decide)
theorem PSt.put {w0 w : World} {Q R S : Nat} {l : List (BitVec 8)} {cs : Array Value} {x : Nat × Nat} (h : PSt w0 w Q R S l cs x) (k : Nat) (v : Value) : PSt w0 (w.setCell ⟨S, k, none⟩ v) Q R S l (cs.setIfInBounds k v) x :=
  ⟨h.q.other (Ne.symm h.qs) _ _, h.s.set _ _, h.r.set _ _ h.rs, h.b.setCell h.hs v, h.hq, h.hs, h.hr, h.qs, h.rs⟩
theorem PSt.read {w0 w w' : World} {Q R S : Nat} {l : List (BitVec 8)} {cs : Array Value} {x y : Nat × Nat} (h : PSt w0 w Q R S l cs x) (g : w.grownBy w' (some R)) (r : Rdr w' R l y.1 y.2) : PSt w0 w' Q R S l cs y :=
  ⟨h.q.only (OnlyR.of_grown g) h.qr, h.s.only (OnlyR.of_grown g) (by have := h.rs; omega), r, h.b.trans ((OnlyR.of_grown g).toBelow h.hr h.b.size), h.hq, h.hs, h.hr, h.qs, h.rs⟩
theorem PSt.drewN {w0 w : World} {Q R S : Nat} {l : List (BitVec 8)} {cs : Array Value} {x : Nat × Nat} (h : PSt w0 w Q R S l cs x) (n : Nat) : PSt w0 (w.drewN n) Q R S l cs x :=
  ⟨h.q, h.s, h.r, below_drewN' h.b n, h.hq, h.hs, h.hr, h.qs, h.rs⟩
set_option maxRecDepth 100000 in
set_option maxHeartbeats 4000000 in
theorem cParse_any (a : Option Addr) (len cap : Nat) (l : List (BitVec 8)) (w : World) (h : Seen w a len l) (hnil : a = none → cap = 0) (hm : len ≤ 140737488355328) : Calls Try.prog 18 #[.slice a len cap] w fun e w' => e = .returned (parseV (parseR l)) ∧ Below w.heap.size w w' := by
  obtain rfl : len = l.length := h.1
  by_cases h100 : 100 < l.length
  · have e1 : parseR l = [0, 0, 0, 0, 0, 3] := by unfold parseR; rw [if_pos h100]
    rw [e1]
    have q0 : (100 : Int) < (l.length : Int) := by omega
    have q1 : decide ((100 : Int) < (l.length : Int)) = true := decide_eq_true q0
    clear h hnil hm h100
    generalize l.length = n at *
    go_enter Try.func18, Try.ntmps18
    go_wp2
    exact bodyPost_ret (results_ct rfl _ _ w.heap.size 38 _ _ _ rfl (heap_alloc_new w _) Try.underlying38 rfl (by kernel_rfl)) rfl ⟨rfl, (Below.refl _ w).alloc (Nat.le_refl _) _⟩
  have e1 : parseR l = if parseE l ≠ 0 then [0, 0, 0, 0, 0, (parseE l : Int)] else [prV l 0, prV l 1, prV l 2, prV l 3, prV l 4, 0] := by unfold parseR; rw [if_neg h100]
  obtain ⟨X, eX⟩ : ∃ X, parseR l = X := ⟨_, rfl⟩
  rw [eX] at e1 ⊢
  have EX : Hid (X = if parseE l ≠ 0 then [0, 0, 0, 0, 0, (parseE l : Int)] else [prV l 0, prV l 1, prV l 2, prV l 3, prV l 4, 0]) := e1
  clear eX
  have bA : Below w.heap.size w (w.alloc (.cells #[.int .i64 0, .int .i64 0, .int .i64 0, .int .i64 0, .int .i64 0] 38)) := (Below.refl _ w).alloc (Nat.le_refl _) _
  have qA := Blk.new w #[.int .i64 0, .int .i64 0, .int .i64 0, .int .i64 0, .int .i64 0] 38
  have HN := newReader_any a l.length cap l (w.alloc (.cells #[.int .i64 0, .int .i64 0, .int .i64 0, .int .i64 0, .int .i64 0] 38)) (h.below bA) hnil hm
  obtain ⟨wA, eA⟩ : ∃ x, w.alloc (.cells #[.int .i64 0, .int .i64 0, .int .i64 0, .int .i64 0, .int .i64 0] 38) = x := ⟨_, rfl⟩
  obtain ⟨Q, eQ⟩ : ∃ x, w.heap.size = x := ⟨_, rfl⟩
  rw [eA] at HN bA qA
  rw [eQ] at qA
  have EA : Hid _ := eA
  have EQ : Hid (w.heap.size = Q) := eQ
  have HA : Hid (Below w.heap.size w wA ∧ Blk wA Q #[.int .i64 0, .int .i64 0, .int .i64 0, .int .i64 0, .int .i64 0] 38) := ⟨bA, qA⟩
  have q0 : ¬ (100 : Int) < (l.length : Int) := by omega
  have q1 : decide ((100 : Int) < (l.length : Int)) = false := decide_eq_false q0
  clear h hnil hm h100 bA qA eA eQ e1
  obtain ⟨n, en⟩ : ∃ n, l.length = n := ⟨_, rfl⟩
  rw [en] at HN q0 q1
  rw [en]
  clear en
  go_enter Try.func18, Try.ntmps18
  go_wp2_with fail
  rw [EA.out, EQ.out]
  refine HN.mono ?_
  clear HN
  rintro e w1 ⟨R, rfl, hR, r1, b1⟩
  have hz : Q < w1.heap.size := Nat.lt_of_lt_of_le HA.out.2.lt b1.size
  have P0 : Hid (PSt w (w1.alloc (.cells #[.int .i64 0, .int .i64 0, .int .i64 0, .int .i64 0, .int .i64 0] 38)) Q R w1.heap.size l #[.int .i64 0, .int .i64 0, .int .i64 0, .int .i64 0, .int .i64 0] (prS l 0)) :=
    ⟨(HA.out.2.below b1).alloc _, Blk.new w1 _ _, (r1.below ((Below.refl _ w1).alloc (Nat.le_refl _) _)), (HA.out.1.trans (b1.mono HA.out.1.size)).alloc (Nat.le_trans HA.out.1.size b1.size) _, Nat.le_of_eq EQ.out, Nat.le_trans HA.out.1.size b1.size, Nat.le_trans HA.out.1.size hR, by omega, r1.lt⟩
  obtain ⟨w2, e2⟩ : ∃ x, w1.alloc (.cells #[.int .i64 0, .int .i64 0, .int .i64 0, .int .i64 0, .int .i64 0] 38) = x := ⟨_, rfl⟩
  obtain ⟨S, eS⟩ : ∃ x, w1.heap.size = x := ⟨_, rfl⟩
  have E2 : Hid _ := e2
  have ES : Hid (w1.heap.size = S) := eS
  rw [e2, eS] at P0
  clear e2 eS r1 b1 hR HA hz
  have HX := rInt_any R l (prS l 0).1 (prS l 0).2 w2 P0.out.r
  rw [show zag (rU l (prS l 0).1 (prS l 0).2).1 = prV l 0 from rfl, show (rU l (prS l 0).1 (prS l 0).2).2.1 = (prS l 1).1 from rfl, show (rU l (prS l 0).1 (prS l 0).2).2.2 = (prS l 1).2 from rfl] at HX
  go_wp2_with fail
  rw [E2.out, ES.out]
  clear E2 ES
  refine HX.mono ?_
  clear HX
  rintro e x0 ⟨rfl, r0, g0⟩
  have J0 : Hid (PSt w x0 Q R S l #[.int .i64 0, .int .i64 0, .int .i64 0, .int .i64 0, .int .i64 0] (prS l 1)) := P0.out.read g0 r0
  have c0 : x0.cell? ⟨S, 0, none⟩ = some (.int .i64 0) := J0.out.s.cell 0
  have f0 := J0.out.s.fz 0
  clear r0 g0 P0
  have P1 : Hid (PSt w (x0.setCell ⟨S, 0, none⟩ (.int .i64 (prV l 0))) Q R S l #[.int .i64 (prV l 0), .int .i64 0, .int .i64 0, .int .i64 0, .int .i64 0] (prS l 1)) := J0.out.put 0 _
  clear J0
  have HX := rInt_any R l (prS l 1).1 (prS l 1).2 (x0.setCell ⟨S, 0, none⟩ (.int .i64 (prV l 0))) P1.out.r
  rw [show zag (rU l (prS l 1).1 (prS l 1).2).1 = prV l 1 from rfl, show (rU l (prS l 1).1 (prS l 1).2).2.1 = (prS l 2).1 from rfl, show (rU l (prS l 1).1 (prS l 1).2).2.2 = (prS l 2).2 from rfl] at HX
  go_wp2_with fail
  refine HX.mono ?_
  clear HX
  rintro e x1 ⟨rfl, r1, g1⟩
  have J1 : Hid (PSt w x1 Q R S l #[.int .i64 (prV l 0), .int .i64 0, .int .i64 0, .int .i64 0, .int .i64 0] (prS l 2)) := P1.out.read g1 r1
  have c1 : x1.cell? ⟨S, 1, none⟩ = some (.int .i64 0) := J1.out.s.cell 1
  have f1 := J1.out.s.fz 1
  clear r1 g1 P1
  have P2 : Hid (PSt w (x1.setCell ⟨S, 1, none⟩ (.int .i64 (prV l 1))) Q R S l #[.int .i64 (prV l 0), .int .i64 (prV l 1), .int .i64 0, .int .i64 0, .int .i64 0] (prS l 2)) := J1.out.put 1 _
  clear J1
  have HX := rInt_any R l (prS l 2).1 (prS l 2).2 (x1.setCell ⟨S, 1, none⟩ (.int .i64 (prV l 1))) P2.out.r
  rw [show zag (rU l (prS l 2).1 (prS l 2).2).1 = prV l 2 from rfl, show (rU l (prS l 2).1 (prS l 2).2).2.1 = (prS l 3).1 from rfl, show (rU l (prS l 2).1 (prS l 2).2).2.2 = (prS l 3).2 from rfl] at HX
  go_wp2_with fail
  refine HX.mono ?_
  clear HX
  rintro e x2 ⟨rfl, r2, g2⟩
  have J2 : Hid (PSt w x2 Q R S l #[.int .i64 (prV l 0), .int .i64 (prV l 1), .int .i64 0, .int .i64 0, .int .i64 0] (prS l 3)) := P2.out.read g2 r2
  have c2 : x2.cell? ⟨S, 2, none⟩ = some (.int .i64 0) := J2.out.s.cell 2
  have f2 := J2.out.s.fz 2
  clear r2 g2 P2
  have P3 : Hid (PSt w (x2.setCell ⟨S, 2, none⟩ (.int .i64 (prV l 2))) Q R S l #[.int .i64 (prV l 0), .int .i64 (prV l 1), .int .i64 (prV l 2), .int .i64 0, .int .i64 0] (prS l 3)) := J2.out.put 2 _
  clear J2
  have HX := rInt_any R l (prS l 3).1 (prS l 3).2 (x2.setCell ⟨S, 2, none⟩ (.int .i64 (prV l 2))) P3.out.r
  rw [show zag (rU l (prS l 3).1 (prS l 3).2).1 = prV l 3 from rfl, show (rU l (prS l 3).1 (prS l 3).2).2.1 = (prS l 4).1 from rfl, show (rU l (prS l 3).1 (prS l 3).2).2.2 = (prS l 4).2 from rfl] at HX
  go_wp2_with fail
  refine HX.mono ?_
  clear HX
  rintro e x3 ⟨rfl, r3, g3⟩
  have J3 : Hid (PSt w x3 Q R S l #[.int .i64 (prV l 0), .int .i64 (prV l 1), .int .i64 (prV l 2), .int .i64 0, .int .i64 0] (prS l 4)) := P3.out.read g3 r3
  have c3 : x3.cell? ⟨S, 3, none⟩ = some (.int .i64 0) := J3.out.s.cell 3
  have f3 := J3.out.s.fz 3
  clear r3 g3 P3
  have P4 : Hid (PSt w (x3.setCell ⟨S, 3, none⟩ (.int .i64 (prV l 3))) Q R S l #[.int .i64 (prV l 0), .int .i64 (prV l 1), .int .i64 (prV l 2), .int .i64 (prV l 3), .int .i64 0] (prS l 4)) := J3.out.put 3 _
  clear J3
  have HX := rInt_any R l (prS l 4).1 (prS l 4).2 (x3.setCell ⟨S, 3, none⟩ (.int .i64 (prV l 3))) P4.out.r
  rw [show zag (rU l (prS l 4).1 (prS l 4).2).1 = prV l 4 from rfl, show (rU l (prS l 4).1 (prS l 4).2).2.1 = (prS l 5).1 from rfl, show (rU l (prS l 4).1 (prS l 4).2).2.2 = (prS l 5).2 from rfl] at HX
  go_wp2_with fail
  refine HX.mono ?_
  clear HX
  rintro e x4 ⟨rfl, r4, g4⟩
  have J4 : Hid (PSt w x4 Q R S l #[.int .i64 (prV l 0), .int .i64 (prV l 1), .int .i64 (prV l 2), .int .i64 (prV l 3), .int .i64 0] (prS l 5)) := P4.out.read g4 r4
  have c4 : x4.cell? ⟨S, 4, none⟩ = some (.int .i64 0) := J4.out.s.cell 4
  have f4 := J4.out.s.fz 4
  clear r4 g4 P4
  have P5 : Hid (PSt w (x4.setCell ⟨S, 4, none⟩ (.int .i64 (prV l 4))) Q R S l #[.int .i64 (prV l 0), .int .i64 (prV l 1), .int .i64 (prV l 2), .int .i64 (prV l 3), .int .i64 (prV l 4)] (prS l 5)) := J4.out.put 4 _
  clear J4
  have HX := rEnd_any R l (prS l 5).1 (prS l 5).2 (x4.setCell ⟨S, 4, none⟩ (.int .i64 (prV l 4))) P5.out.r
  rw [show rEnd l (prS l 5).1 (prS l 5).2 = parseE l from rfl] at HX
  go_wp2_with fail
  refine HX.mono ?_
  clear HX c0 f0 c1 f1 c2 f2 c3 f3 c4 f4
  rintro e y1 ⟨rfl, nq, rfl⟩
  have H7 : Hid (PSt w ((x4.setCell ⟨S, 4, none⟩ (.int .i64 (prV l 4))).drewN nq) Q R S l #[.int .i64 (prV l 0), .int .i64 (prV l 1), .int .i64 (prV l 2), .int .i64 (prV l 3), .int .i64 (prV l 4)] (prS l 5)) := P5.out.drewN nq
  clear P5
  generalize (x4.setCell ⟨S, 4, none⟩ (.int .i64 (prV l 4))).drewN nq = y2 at *
  have z0 : y2.cell? ⟨Q, 0, none⟩ = some (.int .i64 0) := H7.out.q.cell 0
  have z1 : y2.cell? ⟨Q, 1, none⟩ = some (.int .i64 0) := H7.out.q.cell 1
  have z2 : y2.cell? ⟨Q, 2, none⟩ = some (.int .i64 0) := H7.out.q.cell 2
  have z3 : y2.cell? ⟨Q, 3, none⟩ = some (.int .i64 0) := H7.out.q.cell 3
  have z4 : y2.cell? ⟨Q, 4, none⟩ = some (.int .i64 0) := H7.out.q.cell 4
  have g0 := H7.out.q.fz 0
  have g1 := H7.out.q.fz 1
  have g2 := H7.out.q.fz 2
  have g3 := H7.out.q.fz 3
  have g4 := H7.out.q.fz 4
  have s0 : y2.cell? ⟨S, 0, none⟩ = some (.int .i64 (prV l 0)) := H7.out.s.cell 0
  have s1 : y2.cell? ⟨S, 1, none⟩ = some (.int .i64 (prV l 1)) := H7.out.s.cell 1
  have s2 : y2.cell? ⟨S, 2, none⟩ = some (.int .i64 (prV l 2)) := H7.out.s.cell 2
  have s3 : y2.cell? ⟨S, 3, none⟩ = some (.int .i64 (prV l 3)) := H7.out.s.cell 3
  have s4 : y2.cell? ⟨S, 4, none⟩ = some (.int .i64 (prV l 4)) := H7.out.s.cell 4
  by_cases he : parseE l = 0
  · have HE : Hid (parseE l = 0) := he
    rw [he]
    rw [show ((0 : Nat) : Int) = 0 from rfl]
    clear he
    go_wp2
    have B1 : ∀ (a b c d e : Value), Blk (((((y2.setCell ⟨Q, 0, none⟩ a).setCell ⟨Q, 1, none⟩ b).setCell ⟨Q, 2, none⟩ c).setCell ⟨Q, 3, none⟩ d).setCell ⟨Q, 4, none⟩ e) Q #[a, b, c, d, e] 38 := fun a b c d e => ((((H7.out.q.set 0 a).set 1 b).set 2 c).set 3 d).set 4 e
    have B2 : ∀ (a b c d e : Value), Below w.heap.size w (((((y2.setCell ⟨Q, 0, none⟩ a).setCell ⟨Q, 1, none⟩ b).setCell ⟨Q, 2, none⟩ c).setCell ⟨Q, 3, none⟩ d).setCell ⟨Q, 4, none⟩ e) := fun a b c d e => ((((H7.out.b.setCell H7.out.hq a).setCell H7.out.hq b).setCell H7.out.hq c).setCell H7.out.hq d).setCell H7.out.hq e
    exact bodyPost_ret (results_ct rfl _ _ Q 38 _ _ _ rfl (B1 _ _ _ _ _) Try.underlying38 rfl (by kernel_rfl)) rfl ⟨by rw [EX.out.trans (if_neg (fun x => x HE.out))]; rfl, B2 _ _ _ _ _⟩
  · have HE : Hid (parseE l ≠ 0) := he
    have he1 : ¬ ((parseE l : Int) = 0) := by omega
    have he2 : ((parseE l : Int) != 0) = true := by simpa using he
    clear he
    go_wp2
    have B1 : ∀ (a b c d e : Value), Blk (((((y2.setCell ⟨Q, 0, none⟩ a).setCell ⟨Q, 1, none⟩ b).setCell ⟨Q, 2, none⟩ c).setCell ⟨Q, 3, none⟩ d).setCell ⟨Q, 4, none⟩ e) Q #[a, b, c, d, e] 38 := fun a b c d e => ((((H7.out.q.set 0 a).set 1 b).set 2 c).set 3 d).set 4 e
    have B2 : ∀ (a b c d e : Value), Below w.heap.size w (((((y2.setCell ⟨Q, 0, none⟩ a).setCell ⟨Q, 1, none⟩ b).setCell ⟨Q, 2, none⟩ c).setCell ⟨Q, 3, none⟩ d).setCell ⟨Q, 4, none⟩ e) := fun a b c d e => ((((H7.out.b.setCell H7.out.hq a).setCell H7.out.hq b).setCell H7.out.hq c).setCell H7.out.hq d).setCell H7.out.hq e
    exact bodyPost_ret (results_ct rfl _ _ Q 38 _ _ _ rfl (B1 _ _ _ _ _) Try.underlying38 rfl (by kernel_rfl)) rfl ⟨by rw [EX.out.trans (if_pos HE.out)]; rfl, B2 _ _ _ _ _⟩
end Go.Proofs.Ytpdgmlljjjeifaa
