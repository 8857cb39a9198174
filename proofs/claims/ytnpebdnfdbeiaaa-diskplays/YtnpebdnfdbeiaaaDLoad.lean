/- What Load does. -/
import Derived.Test.YtnpebdnfdbeiaaaDNew
namespace Go.Proofs.Ytnpebdnfdbeiaaa
open Go.RowKit
set_option linter.unusedVariables false

theorem owns_form {w : World} {base n : Nat} {v : Value} {l : List (BitVec 8)} (h : w.ownsRow base 5 1 v n (cellsOf l)) (hn : 1 ≤ n) : ∃ g c, v = .slice (some ⟨g, 0, none⟩) n c ∧ base ≤ g ∧ g < w.heap.size := by
  rcases h.2 with ⟨e, h0⟩ | ⟨g, c, cur, e, hb, hg, _⟩
  · omega
  · exact ⟨g, c, e, hb, (Array.getElem?_eq_some_iff.1 hg).1⟩
theorem loaded_dsk {w w1 w2 : World} {n ga gb ca cb : Nat} {l : List (BitVec 8)} (hn1 : 1 ≤ n) (hn2 : n ≤ 4096) (hl : l.length = 256 * n) (o1 : w1.ownsRow w.heap.size 5 1 (.slice (some ⟨ga, 0, none⟩) (256 * n) ca) (256 * n) (cellsOf l)) (b1 : Below w.heap.size w w1) (z1 : w.heap.size ≤ ga ∧ ga < w1.heap.size)
    (o2 : w2.ownsRow w1.heap.size 5 1 (.slice (some ⟨gb, 0, none⟩) (256 * n) cb) (256 * n) (cellsOf l)) (b2 : Below w1.heap.size w1 w2) (z2 : w1.heap.size ≤ gb ∧ gb < w2.heap.size) :
    Dsk (w2.alloc (.cells #[.slice (some ⟨ga, 0, none⟩) (256 * n) ca, .slice (some ⟨gb, 0, none⟩) (256 * n) cb, .slice none 0 0, .bool false, .bool false, .bool false] 54)) ⟨w2.heap.size, ga, gb, ca, cb, .slice none 0 0⟩ n (loadD l) ∧
    Below w.heap.size w (w2.alloc (.cells #[.slice (some ⟨ga, 0, none⟩) (256 * n) ca, .slice (some ⟨gb, 0, none⟩) (256 * n) cb, .slice none 0 0, .bool false, .bool false, .bool false] 54)) ∧
    ∀ k, (⟨w2.heap.size, ga, gb, ca, cb, .slice none 0 0⟩ : DM).own k → w.heap.size ≤ k := by
  have b3 : ∀ o, Below w2.heap.size w2 (w2.alloc o) := fun o => (Below.refl _ w2).alloc (Nat.le_refl _) o
  have s1 := b1.size
  have s2 := b2.size
  refine ⟨⟨⟨hn1, hn2, hl, hl, (fun x hx => by cases hx), by simp [loadD]⟩, heap_alloc_new w2 _, ?_, ?_, World.ownsRow_nil _ _ _ _, ?_⟩, b1.trans (((b2.trans ((b3 _).mono (by omega))).mono (by omega))), ?_⟩
  · refine owns_same (w := w1) ⟨o1.1, o1.2.imp id fun ⟨g, cap, cur, e1, e2, e3⟩ => ⟨g, cap, cur, e1, Nat.zero_le _, e3⟩⟩ (fun g e => ?_)
    obtain rfl : ga = g := by simpa [Value.ownBlock] using e
    rw [(b3 _).block _ (by omega), b2.block _ (by omega)]
  · refine owns_same (w := w2) ⟨o2.1, o2.2.imp id fun ⟨g, cap, cur, e1, e2, e3⟩ => ⟨g, cap, cur, e1, Nat.zero_le _, e3⟩⟩ (fun g e => ?_)
    obtain rfl : gb = g := by simpa [Value.ownBlock] using e
    rw [(b3 _).block _ (by omega)]
  · show ga ≠ gb
    omega
  · rintro k (e | e | e | e)
    · have e' : k = w2.heap.size := e; omega
    · have e' : k = ga := e; omega
    · have e' : k = gb := e; omega
    · cases e
set_option maxRecDepth 100000 in
set_option maxHeartbeats 800000 in
theorem load_any (a : Option Addr) (n cap : Nat) (l : List (BitVec 8)) (w : World) (h1 : 1 ≤ n) (h2 : n ≤ 4096) (hs : Seen w a (256 * n) l) (hnil : a = none → cap = 0) :
    Calls Try.prog 7 #[.slice a (256 * n) cap] w fun e w' => ∃ m : DM, e = .returned (.tuple #[.pointer (some ⟨m.D, 0, none⟩), .int .i64 0]) ∧ Dsk w' m n (loadD l) ∧ Below w.heap.size w w' ∧ ∀ k, m.own k → w.heap.size ≤ k := by
  have HA := fun w => allowed_any n w
  rw [decide_eq_true (by omega)] at HA
  have hl : l.length = 256 * n := hs.1.symm
  have hwr : wrap64 (n : Int) = n := by unfold wrap64; omega
  have hq : Int.tdiv (256 * (n : Int)) 256 = n := by rw [Int.mul_comm]; exact Int.mul_tdiv_cancel _ (by decide)
  have hr : Int.tmod (256 * (n : Int)) 256 = 0 := by rw [Int.mul_comm]; exact Int.mul_tmod_left _ _
  have HC1 := clone_any a (256 * n) cap l w hs hnil (by omega)
  have HS : Hid (Seen w a (256 * n) l) := hs
  have H12 : Hid (1 ≤ n ∧ n ≤ 4096 ∧ l.length = 256 * n) := ⟨h1, h2, hl⟩
  have HN : Hid (a = none → cap = 0) := hnil
  clear h1 h2 hs hl hnil
  go_enter Try.func7, Try.ntmps7
  go_wp2_with fail
  rw [hwr]
  refine (HA w).mono ?_
  rintro e w' ⟨rfl, rfl⟩
  go_wp2_with fail
  refine HC1.mono ?_
  rintro e w1 ⟨v1, rfl, o1, b1⟩
  obtain ⟨g1, c1, rfl, z1⟩ := owns_form o1 (by have := H12.out.1; omega)
  have HC2 := clone_any a (256 * n) cap l w1 (HS.out.below b1) HN.out (by have := H12.out.2.1; omega)
  have G1 : Hid _ := And.intro o1 (And.intro b1 z1)
  clear o1 b1 z1 HC1
  go_wp2_with fail
  refine HC2.mono ?_
  rintro e w2 ⟨v2, rfl, o2, b2⟩
  obtain ⟨g2, c2, rfl, z2⟩ := owns_form o2 (by have := H12.out.1; omega)
  have G2 : Hid _ := And.intro o2 (And.intro b2 z2)
  clear o2 b2 z2 HC2
  go_wp2
  go_ret2
  obtain ⟨d1, d2, d3⟩ := loaded_dsk H12.out.1 H12.out.2.1 H12.out.2.2 G1.out.1 G1.out.2.1 G1.out.2.2 G2.out.1 G2.out.2.1 G2.out.2.2
  exact ⟨_, rfl, d1, d2, d3⟩
end Go.Proofs.Ytnpebdnfdbeiaaa
