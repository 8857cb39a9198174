/- Both books: a step of the law. -/
import Derived.Test.YtdchnfggmkokhaaGreatDoorBAlike
import Derived.Test.YtdchnfggmkokhaaGreatDoorBOp
namespace Go.Proofs.YtdchnfggmkokhaaGreatDoor
open Go.RowKit Cod
set_option linter.unusedVariables false

section
variable {w w' : World} {base base' N N' : Nat} {sv sv' : Value} {L L' : List Acc}
/-- Where a book has changed, what is none of it has not. -/
theorem BookIn.aside (b : BookIn w base N sv L) (c : Chg w w' N sv.ownBlock) {k : Nat} {cs : Array Value} {t : TypeId} {z : Nat × Nat} (hk : w.heap[k]? = some (.cells cs t z)) (h1 : t ≠ 45) (h2 : t ≠ 52) : w'.heap[k]? = w.heap[k]? := by
  refine c.block k (Array.getElem?_eq_some_iff.1 hk).1 (fun e => ?_) (fun e => ?_)
  · rw [e, b.hN] at hk
    injection hk with hk
    injection hk with _ hk
    exact h1 hk.symm
  · obtain ⟨_, _, cur, h3⟩ := row_kind b.row e.symm
    rw [h3] at hk
    injection hk with hk
    injection hk with _ hk
    exact h2 hk.symm
theorem RefB.aside (b : RefB w base N sv L) (c : Chg w w' N sv.ownBlock) {k : Nat} {cs : Array Value} {t : TypeId} {z : Nat × Nat} (hk : w.heap[k]? = some (.cells cs t z)) (h1 : t ≠ 28) (h2 : t ≠ 89) : w'.heap[k]? = w.heap[k]? := by
  refine c.block k (Array.getElem?_eq_some_iff.1 hk).1 (fun e => ?_) (fun e => ?_)
  · rw [e, b.hN] at hk
    injection hk with hk
    injection hk with _ hk
    exact h1 hk.symm
  · obtain ⟨_, _, cur, h3⟩ := row_kind b.row e.symm
    rw [h3] at hk
    injection hk with hk
    injection hk with _ hk
    exact h2 hk.symm
end
/-- Both books, made behind w0. -/
structure Two (w0 w : World) (N N' : Nat) (L L' : List Acc) (B0 : Option (Nat × Array Value)) : Prop where
  b : ∃ base sv, BookIn w base N sv L ∧ w0.heap.size ≤ base
  q : ∃ base sv, RefB w base N' sv L' ∧ w0.heap.size ≤ base
  t : Tabs w0
  bel : Below w0.heap.size w0 w
  ob : ∀ k C, B0 = some (k, C) → w.heap[k]? = some (.cells C 30 (0, 0))
section
variable {w0 w w' : World} {base N N' : Nat} {sv : Value} {L L' L1 : List Acc} {B0 : Option (Nat × Array Value)}
theorem Two.below (h : Two w0 w N N' L L' B0) (k : Below w.heap.size w w') : Two w0 w' N N' L L' B0 := by
  obtain ⟨b1, s1, h1, e1⟩ := h.b
  obtain ⟨b2, s2, h2, e2⟩ := h.q
  exact ⟨⟨b1, s1, h1.below k, e1⟩, ⟨b2, s2, h2.below k, e2⟩, h.t, h.bel.trans (k.mono h.bel.size), fun j C e => (k.block _ (Array.getElem?_eq_some_iff.1 (h.ob j C e)).1).trans (h.ob j C e)⟩
theorem Two.tab (h : Two w0 w N N' L L' B0) : Tabs w := h.t.below h.bel h.t.size
/-- The program's book has been told. -/
theorem Two.tellB (h : Two w0 w N N' L L' B0) (hb : BookIn w base N sv L) (hl : w0.heap.size ≤ base) (t : BTold w w' base N sv L1) : Two w0 w' N N' L1 L' B0 := by
  obtain ⟨sv2, t1, t2, _⟩ := t
  obtain ⟨b2, s2, h2, e2⟩ := h.q
  refine ⟨⟨base, sv2, t1, hl⟩, ⟨b2, s2, h2.keep (hb.aside t2 h2.hN (by decide) (by decide)) (fun g e => ?_), e2⟩, h.t, h.bel.trans ((hb.chg_below t2).mono hl), fun j C e => by rw [hb.aside t2 (h.ob j C e) (by decide) (by decide)]; exact h.ob j C e⟩
  obtain ⟨_, _, cur, h3⟩ := row_kind h2.row e
  exact hb.aside t2 h3 (by decide) (by decide)
theorem Two.tellQ (h : Two w0 w N N' L L' B0) (hb : RefB w base N' sv L') (hl : w0.heap.size ≤ base) (t : QTold w w' base N' sv L1) : Two w0 w' N N' L L1 B0 := by
  obtain ⟨sv2, t1, t2, _⟩ := t
  obtain ⟨b2, s2, h2, e2⟩ := h.b
  refine ⟨⟨b2, s2, h2.keep (hb.aside t2 h2.hN (by decide) (by decide)) (fun g e => ?_), e2⟩, ⟨base, sv2, t1, hl⟩, h.t, h.bel.trans ((hb.chg_below t2).mono hl), fun j C e => by rw [hb.aside t2 (h.ob j C e) (by decide) (by decide)]; exact h.ob j C e⟩
  obtain ⟨_, _, cur, h3⟩ := row_kind h2.row e
  exact hb.aside t2 h3 (by decide) (by decide)
end
/-- Both books and the law's box of a call. -/
structure TwK (w0 w : World) (N N' K : Nat) (L L' : List Acc) (C : Array Value) (B0 : Option (Nat × Array Value)) (t : TypeId := 30) : Prop where
  two : Two w0 w N N' L L' B0
  bx : w.heap[K]? = some (.cells C t (0, 0))
  h1 : t ≠ 45 ∧ t ≠ 52
  h2 : t ≠ 28 ∧ t ≠ 89
section
variable {w0 w w' : World} {N N' K : Nat} {L L' : List Acc} {C : Array Value} {tt : TypeId} {B0 : Option (Nat × Array Value)}
theorem Two.open_ (h : Two w0 w N N' L L' B0) (t : ByteArray) (hs : t.size ≤ maxLen) : Calls Tryz.prog 13 #[.pointer (some ⟨N, 0, none⟩), .string t] w fun e w' => e = .returned (.int .i64 (putP L t 0).1) ∧ Two w0 w' N N' (putP L t 0).2 L' B0 := by
  obtain ⟨base, sv, hb, hl⟩ := h.b
  exact (open_any hb t hs).mono (by rintro e w' ⟨rfl, q⟩; exact ⟨rfl, h.tellB hb hl q⟩)
theorem Two.qopen (h : Two w0 w N N' L L' B0) (t : ByteArray) (hs : t.size ≤ maxLen) : Calls Tryz.prog 25 #[.pointer (some ⟨N', 0, none⟩), .string t] w fun e w' => e = .returned (.int .i64 (putP L' t 0).1) ∧ Two w0 w' N N' L (putP L' t 0).2 B0 := by
  obtain ⟨base, sv, hb, hl⟩ := h.q
  exact (qopen_any hb t hs).mono (by rintro e w' ⟨rfl, q⟩; exact ⟨rfl, h.tellQ hb hl q⟩)
theorem TwK.below (h : TwK w0 w N N' K L L' C B0 tt) (k : Below w.heap.size w w') : TwK w0 w' N N' K L L' C B0 tt := ⟨h.two.below k, (k.block _ (Array.getElem?_eq_some_iff.1 h.bx).1).trans h.bx, h.h1, h.h2⟩
theorem TwK.tellB {base : Nat} {sv : Value} {L1 : List Acc} (h : TwK w0 w N N' K L L' C B0 tt) (hb : BookIn w base N sv L) (hl : w0.heap.size ≤ base) (t : BTold w w' base N sv L1) : TwK w0 w' N N' K L1 L' C B0 tt := by
  refine ⟨h.two.tellB hb hl t, ?_, h.h1, h.h2⟩
  obtain ⟨sv2, t1, t2, _⟩ := t
  rw [hb.aside t2 h.bx h.h1.1 h.h1.2]
  exact h.bx
theorem TwK.tellQ {base : Nat} {sv : Value} {L1 : List Acc} (h : TwK w0 w N N' K L L' C B0 tt) (hb : RefB w base N' sv L') (hl : w0.heap.size ≤ base) (t : QTold w w' base N' sv L1) : TwK w0 w' N N' K L L1 C B0 tt := by
  refine ⟨h.two.tellQ hb hl t, ?_, h.h1, h.h2⟩
  obtain ⟨sv2, t1, t2, _⟩ := t
  rw [hb.aside t2 h.bx h.h2.1 h.h2.2]
  exact h.bx
theorem two_open (h : TwK w0 w N N' K L L' C B0 tt) (t : ByteArray) (hs : t.size ≤ maxLen) : Calls Tryz.prog 13 #[.pointer (some ⟨N, 0, none⟩), .string t] w fun e w' => e = .returned (.int .i64 (putP L t 0).1) ∧ TwK w0 w' N N' K (putP L t 0).2 L' C B0 tt := by
  obtain ⟨base, sv, hb, hl⟩ := h.two.b
  exact (open_any hb t hs).mono (by rintro e w' ⟨rfl, q⟩; exact ⟨rfl, h.tellB hb hl q⟩)
theorem two_qopen (h : TwK w0 w N N' K L L' C B0 tt) (t : ByteArray) (hs : t.size ≤ maxLen) : Calls Tryz.prog 25 #[.pointer (some ⟨N', 0, none⟩), .string t] w fun e w' => e = .returned (.int .i64 (putP L' t 0).1) ∧ TwK w0 w' N N' K L (putP L' t 0).2 C B0 tt := by
  obtain ⟨base, sv, hb, hl⟩ := h.two.q
  exact (qopen_any hb t hs).mono (by rintro e w' ⟨rfl, q⟩; exact ⟨rfl, h.tellQ hb hl q⟩)
theorem two_add (h : TwK w0 w N N' K L L' C B0 tt) (t : ByteArray) (n : Int) (hn : -9223372036854775808 ≤ n ∧ n ≤ 9223372036854775807) : Calls Tryz.prog 26 #[.pointer (some ⟨N, 0, none⟩), .string t, .int .i64 n] w fun e w' => e = .returned (.int .i64 (onP L t (addP n)).1) ∧ TwK w0 w' N N' K (onP L t (addP n)).2 L' C B0 tt := by
  obtain ⟨base, sv, hb, hl⟩ := h.two.b
  exact (add_any hb t n hn).mono (by rintro e w' ⟨rfl, q⟩; exact ⟨rfl, h.tellB hb hl q⟩)
theorem two_qadd (h : TwK w0 w N N' K L L' C B0 tt) (t : ByteArray) (n : Int) (hn : -9223372036854775808 ≤ n ∧ n ≤ 9223372036854775807) : Calls Tryz.prog 27 #[.pointer (some ⟨N', 0, none⟩), .string t, .int .i64 n] w fun e w' => e = .returned (.int .i64 (onP L' t (addP n)).1) ∧ TwK w0 w' N N' K L (onP L' t (addP n)).2 C B0 tt := by
  obtain ⟨base, sv, hb, hl⟩ := h.two.q
  exact (qadd_any hb t n hn).mono (by rintro e w' ⟨rfl, q⟩; exact ⟨rfl, h.tellQ hb hl q⟩)
theorem two_take (h : TwK w0 w N N' K L L' C B0 tt) (t : ByteArray) (n : Int) (hn : -9223372036854775808 ≤ n ∧ n ≤ 9223372036854775807) : Calls Tryz.prog 28 #[.pointer (some ⟨N, 0, none⟩), .string t, .int .i64 n] w fun e w' => e = .returned (.int .i64 (onP L t (takeP n)).1) ∧ TwK w0 w' N N' K (onP L t (takeP n)).2 L' C B0 tt := by
  obtain ⟨base, sv, hb, hl⟩ := h.two.b
  exact (take_any hb t n hn).mono (by rintro e w' ⟨rfl, q⟩; exact ⟨rfl, h.tellB hb hl q⟩)
theorem two_qtake (h : TwK w0 w N N' K L L' C B0 tt) (t : ByteArray) (n : Int) (hn : -9223372036854775808 ≤ n ∧ n ≤ 9223372036854775807) : Calls Tryz.prog 29 #[.pointer (some ⟨N', 0, none⟩), .string t, .int .i64 n] w fun e w' => e = .returned (.int .i64 (onP L' t (takeP n)).1) ∧ TwK w0 w' N N' K L (onP L' t (takeP n)).2 C B0 tt := by
  obtain ⟨base, sv, hb, hl⟩ := h.two.q
  exact (qtake_any hb t n hn).mono (by rintro e w' ⟨rfl, q⟩; exact ⟨rfl, h.tellQ hb hl q⟩)
theorem two_hold (h : TwK w0 w N N' K L L' C B0 tt) (t s : ByteArray) : Calls Tryz.prog 30 #[.pointer (some ⟨N, 0, none⟩), .string t, .string s] w fun e w' => e = .returned (.int .i64 (onP L t (holdP s)).1) ∧ TwK w0 w' N N' K (onP L t (holdP s)).2 L' C B0 tt := by
  obtain ⟨base, sv, hb, hl⟩ := h.two.b
  exact (hold_any hb t s).mono (by rintro e w' ⟨rfl, q⟩; exact ⟨rfl, h.tellB hb hl q⟩)
theorem two_qhold (h : TwK w0 w N N' K L L' C B0 tt) (t s : ByteArray) : Calls Tryz.prog 31 #[.pointer (some ⟨N', 0, none⟩), .string t, .string s] w fun e w' => e = .returned (.int .i64 (onP L' t (holdP s)).1) ∧ TwK w0 w' N N' K L (onP L' t (holdP s)).2 C B0 tt := by
  obtain ⟨base, sv, hb, hl⟩ := h.two.q
  exact (qhold_any hb t s).mono (by rintro e w' ⟨rfl, q⟩; exact ⟨rfl, h.tellQ hb hl q⟩)
theorem two_free (h : TwK w0 w N N' K L L' C B0 tt) (t s : ByteArray) : Calls Tryz.prog 32 #[.pointer (some ⟨N, 0, none⟩), .string t, .string s] w fun e w' => e = .returned (.int .i64 (onP L t (freeP s)).1) ∧ TwK w0 w' N N' K (onP L t (freeP s)).2 L' C B0 tt := by
  obtain ⟨base, sv, hb, hl⟩ := h.two.b
  exact (free_any hb t s).mono (by rintro e w' ⟨rfl, q⟩; exact ⟨rfl, h.tellB hb hl q⟩)
theorem two_qfree (h : TwK w0 w N N' K L L' C B0 tt) (t s : ByteArray) : Calls Tryz.prog 33 #[.pointer (some ⟨N', 0, none⟩), .string t, .string s] w fun e w' => e = .returned (.int .i64 (onP L' t (freeP s)).1) ∧ TwK w0 w' N N' K L (onP L' t (freeP s)).2 C B0 tt := by
  obtain ⟨base, sv, hb, hl⟩ := h.two.q
  exact (qfree_any hb t s).mono (by rintro e w' ⟨rfl, q⟩; exact ⟨rfl, h.tellQ hb hl q⟩)
theorem two_put (h : TwK w0 w N N' K L L' C B0 tt) (t : ByteArray) (n : Int) (hn : -9223372036854775808 ≤ n ∧ n ≤ 9223372036854775807) (hs : t.size ≤ maxLen) : Calls Tryz.prog 34 #[.pointer (some ⟨N, 0, none⟩), .agg #[.string t, .int .i64 n]] w fun e w' => e = .returned (.int .i64 (putP L t n).1) ∧ TwK w0 w' N N' K (putP L t n).2 L' C B0 tt := by
  obtain ⟨base, sv, hb, hl⟩ := h.two.b
  exact (put_any hb t n hn hs).mono (by rintro e w' ⟨rfl, q⟩; exact ⟨rfl, h.tellB hb hl q⟩)
theorem two_qput (h : TwK w0 w N N' K L L' C B0 tt) (t : ByteArray) (n : Int) (hn : -9223372036854775808 ≤ n ∧ n ≤ 9223372036854775807) (hs : t.size ≤ maxLen) : Calls Tryz.prog 35 #[.pointer (some ⟨N', 0, none⟩), .agg #[.string t, .int .i64 n]] w fun e w' => e = .returned (.int .i64 (putP L' t n).1) ∧ TwK w0 w' N N' K L (putP L' t n).2 C B0 tt := by
  obtain ⟨base, sv, hb, hl⟩ := h.two.q
  exact (qput_any hb t n hn hs).mono (by rintro e w' ⟨rfl, q⟩; exact ⟨rfl, h.tellQ hb hl q⟩)
theorem two_drop (h : TwK w0 w N N' K L L' C B0 tt) (slot : Int) : Calls Tryz.prog 36 #[.pointer (some ⟨N, 0, none⟩), .int .i64 slot] w fun e w' => e = .returned (.int .i64 ((L.length : Int) - ((stay slot L).length : Int))) ∧ TwK w0 w' N N' K (stay slot L) L' C B0 tt := by
  obtain ⟨base, sv, hb, hl⟩ := h.two.b
  exact (drop_any hb h.two.tab (Nat.le_trans h.two.t.size hl) slot).mono (by rintro e w' ⟨rfl, q⟩; exact ⟨rfl, h.tellB hb hl q⟩)
theorem two_qdrop (h : TwK w0 w N N' K L L' C B0 tt) (slot : Int) : Calls Tryz.prog 37 #[.pointer (some ⟨N', 0, none⟩), .int .i64 slot] w fun e w' => e = .returned (.int .i64 ((L'.length : Int) - ((stay slot L').length : Int))) ∧ TwK w0 w' N N' K L (stay slot L') C B0 tt := by
  obtain ⟨base, sv, hb, hl⟩ := h.two.q
  exact (qdrop_any hb slot).mono (by rintro e w' ⟨rfl, q⟩; exact ⟨rfl, h.tellQ hb hl q⟩)
end
set_option maxRecDepth 100000 in
set_option maxHeartbeats 16000000 in
theorem bstep_any {w0 w : World} {N N' : Nat} {L : List Acc} {B0 : Option (Nat × Array Value)} (h : Two w0 w N N' L L B0) (kd on slot : Int) (nm oby : ByteArray) (hn : -9223372036854775808 ≤ on ∧ on ≤ 9223372036854775807) (hs : nm.size ≤ maxLen) :
    Calls Tryz.prog 10 #[.pointer (some ⟨N, 0, none⟩), .pointer (some ⟨N', 0, none⟩), .agg #[.int .i64 kd, .string nm, .string oby, .int .i64 on, .int .i64 slot]] w fun e w' => e = .returned (.bool true) ∧ ∃ L1, Two w0 w' N N' L1 L1 B0 := by
  obtain ⟨w1, hw1⟩ : ∃ w1, w.alloc (.cells #[.int .i64 kd, .string nm, .string oby, .int .i64 on, .int .i64 slot] 30) = w1 := ⟨_, rfl⟩
  have b1 : Below w.heap.size w w1 := by rw [← hw1]; exact (Below.refl _ w).alloc (Nat.le_refl _) _
  have H1 : Hid (TwK w0 w1 N N' w.heap.size L L #[.int .i64 kd, .string nm, .string oby, .int .i64 on, .int .i64 slot] B0) := ⟨h.below b1, by rw [← hw1]; exact heap_alloc_new w _, by decide, by decide⟩
  have HBX : Hid (∀ wq : World, wq.heap[w.heap.size]? = some (.cells #[.int .i64 kd, .string nm, .string oby, .int .i64 on, .int .i64 slot] 30 (0, 0)) → wq.cell? ⟨w.heap.size, 1, none⟩ = some (.string nm) ∧ wq.cell? ⟨w.heap.size, 2, none⟩ = some (.string oby) ∧ wq.cell? ⟨w.heap.size, 3, none⟩ = some (.int .i64 on) ∧ wq.cell? ⟨w.heap.size, 4, none⟩ = some (.int .i64 slot)) := fun wq hb => ⟨by simp [World.cell?, hb], by simp [World.cell?, hb], by simp [World.cell?, hb], by simp [World.cell?, hb]⟩
  have HNo : Hid (-9223372036854775808 ≤ on ∧ on ≤ 9223372036854775807) := hn
  have HSo : Hid (nm.size ≤ maxLen) := hs
  have c0 : w1.cell? ⟨w.heap.size, 0, none⟩ = some (.int .i64 kd) := by simp [World.cell?, H1.out.bx]
  clear h hn hs b1
  go_enter Tryz.func10, Tryz.ntmps10
  by_cases e0 : kd = 0
  · subst e0
    go_wp2_with fail
    refine onwardB_wp ?_
    refine wp_region_held_drew (S := fun w' => w'.heap[w.heap.size]? = some (.cells #[.int .i64 0, .string nm, .string oby, .int .i64 on, .int .i64 slot] 30 (0, 0))) (by kernel_rfl) H1.out.bx (fun hHeld => ?_)
    have H0 : Hid (TwK w0 w1.drew N N' w.heap.size L L #[.int .i64 0, .string nm, .string oby, .int .i64 on, .int .i64 slot] B0) := H1.out.below (Below.refl _ w1).drew
    refine take_run (i := 0) (oi := { dst := some 15, op := Go.Op.move (Go.Operand.tmp 0), type := 23, pos := "law.go:39", after := #[], guard := none }) (v := ?_) rfl (by kernel_rfl) (by kernel_rfl) (by kernel_rfl) (fun _ _ _ h => h) (by rfl) ?_ hHeld ?_
    rotate_left
    · (intro wq hSw; go_simp <;> with_reducible rfl)
    try simp only [Act.put, List.setIfInBounds_toArray, List.set_cons_zero, List.set_cons_succ]
    refine take_run (i := 1) (oi := { dst := some 16, op := Go.Op.fieldAddr 30 (Go.Operand.tmp 5) 1, type := 0, pos := "law.go:39", after := #[], guard := none }) (v := ?_) rfl (by kernel_rfl) (by kernel_rfl) (by kernel_rfl) (fun _ _ _ h => h) (by rfl) ?_ hHeld ?_
    rotate_left
    · (intro wq hSw; go_simp <;> with_reducible rfl)
    try simp only [Act.put, List.setIfInBounds_toArray, List.set_cons_zero, List.set_cons_succ]
    refine take_run (i := 2) (oi := { dst := some 17, op := Go.Op.load 9 (Go.Operand.tmp 16), type := 9, pos := "law.go:39", after := #[{ on := 1, ground := Go.Ground.data }], guard := none }) (v := ?_) rfl (by kernel_rfl) (by kernel_rfl) (by kernel_rfl) (fun _ _ _ h => h) (by rfl) ?_ hHeld ?_
    rotate_left
    · (intro wq hSw; have q0 := HBX.out wq hSw; obtain ⟨q1, q2, q3, q4⟩ := q0; go_simp <;> with_reducible rfl)
    try simp only [Act.put, List.setIfInBounds_toArray, List.set_cons_zero, List.set_cons_succ]
    refine take_run (i := 4) (oi := { dst := some 19, op := Go.Op.move (Go.Operand.tmp 1), type := 25, pos := "law.go:39", after := #[], guard := none }) (v := ?_) rfl (by kernel_rfl) (by kernel_rfl) (by kernel_rfl) (fun _ _ _ h => h) (by rfl) ?_ hHeld ?_
    rotate_left
    · (intro wq hSw; go_simp <;> with_reducible rfl)
    try simp only [Act.put, List.setIfInBounds_toArray, List.set_cons_zero, List.set_cons_succ]
    refine take_run (i := 5) (oi := { dst := some 20, op := Go.Op.fieldAddr 30 (Go.Operand.tmp 5) 1, type := 0, pos := "law.go:39", after := #[], guard := none }) (v := ?_) rfl (by kernel_rfl) (by kernel_rfl) (by kernel_rfl) (fun _ _ _ h => h) (by rfl) ?_ hHeld ?_
    rotate_left
    · (intro wq hSw; go_simp <;> with_reducible rfl)
    try simp only [Act.put, List.setIfInBounds_toArray, List.set_cons_zero, List.set_cons_succ]
    refine take_run (i := 6) (oi := { dst := some 21, op := Go.Op.load 9 (Go.Operand.tmp 20), type := 9, pos := "law.go:39", after := #[{ on := 5, ground := Go.Ground.data }], guard := none }) (v := ?_) rfl (by kernel_rfl) (by kernel_rfl) (by kernel_rfl) (fun _ _ _ h => h) (by rfl) ?_ hHeld ?_
    rotate_left
    · (intro wq hSw; have q0 := HBX.out wq hSw; obtain ⟨q1, q2, q3, q4⟩ := q0; go_simp <;> with_reducible rfl)
    try simp only [Act.put, List.setIfInBounds_toArray, List.set_cons_zero, List.set_cons_succ]
    refine take_call (i := 3) (oi := { dst := some 18, op := Go.Op.call { callee := Go.Callee.value (Go.Operand.func 13), args := #[Go.Operand.tmp 15, Go.Operand.tmp 17], argTypes := #[23, 9] }, type := 34, pos := "law.go:39", after := #[{ on := 0, ground := Go.Ground.data }, { on := 2, ground := Go.Ground.data }], guard := none }) rfl (by kernel_rfl) (by rfl) 13 _ (by go_simp <;> with_reducible rfl) ?_
    refine (two_open H0.out nm HSo.out).mono ?_
    rintro e y1 ⟨rfl, h1⟩
    have K1 : Hid (TwK w0 y1 N N' w.heap.size (putP L nm 0).2 L #[.int .i64 0, .string nm, .string oby, .int .i64 on, .int .i64 slot] B0) := h1
    have s1 : y1.heap[w.heap.size]? = some (.cells #[.int .i64 0, .string nm, .string oby, .int .i64 on, .int .i64 slot] 30 (0, 0)) := h1.bx
    clear h1
    refine ⟨_, rfl, s1, ?_⟩
    try simp only [Act.put, List.setIfInBounds_toArray, List.set_cons_zero, List.set_cons_succ]
    refine take_call (i := 7) (oi := { dst := some 22, op := Go.Op.call { callee := Go.Callee.value (Go.Operand.func 25), args := #[Go.Operand.tmp 19, Go.Operand.tmp 21], argTypes := #[25, 9] }, type := 34, pos := "law.go:39", after := #[{ on := 4, ground := Go.Ground.data }, { on := 6, ground := Go.Ground.data }, { on := 3, ground := Go.Ground.chain }], guard := none }) rfl (by kernel_rfl) (by rfl) 25 _ (by go_simp <;> with_reducible rfl) ?_
    refine (two_qopen K1.out nm HSo.out).mono ?_
    rintro e y2 ⟨rfl, h2⟩
    have K2 : Hid (TwK w0 y2 N N' w.heap.size (putP L nm 0).2 (putP L nm 0).2 #[.int .i64 0, .string nm, .string oby, .int .i64 on, .int .i64 slot] B0) := h2
    have s2 : y2.heap[w.heap.size]? = some (.cells #[.int .i64 0, .string nm, .string oby, .int .i64 on, .int .i64 slot] 30 (0, 0)) := h2.bx
    clear h2 K1 s1
    refine ⟨_, rfl, s2, ?_⟩
    try simp only [Act.put, List.setIfInBounds_toArray, List.set_cons_zero, List.set_cons_succ]
    refine take_run (i := 8) (oi := { dst := some 23, op := Go.Op.binOp Go.BinOp.eql 34 (Go.Operand.tmp 18) (Go.Operand.tmp 22) 34, type := 4, pos := "law.go:39", after := #[{ on := 3, ground := Go.Ground.data }, { on := 7, ground := Go.Ground.data }], guard := none }) (v := ?_) rfl (by kernel_rfl) (by kernel_rfl) (by kernel_rfl) (fun _ _ _ h => h) (by rfl) ?_ s2 ?_
    rotate_left
    · (intro wq hSw; go_simp <;> with_reducible rfl)
    try simp only [Act.put, List.setIfInBounds_toArray, List.set_cons_zero, List.set_cons_succ]
    refine take_run (i := 9) (oi := { dst := some 6, op := Go.Op.assign (Go.Operand.tmp 23), type := 4, pos := "law.go:39", after := #[{ on := 8, ground := Go.Ground.data }, { on := 7, ground := Go.Ground.chain }, { on := 0, ground := Go.Ground.phase }, { on := 1, ground := Go.Ground.phase }, { on := 2, ground := Go.Ground.phase }, { on := 3, ground := Go.Ground.phase }, { on := 4, ground := Go.Ground.phase }, { on := 5, ground := Go.Ground.phase }, { on := 6, ground := Go.Ground.phase }, { on := 7, ground := Go.Ground.phase }, { on := 8, ground := Go.Ground.phase }], guard := none }) (v := ?_) rfl (by kernel_rfl) (by kernel_rfl) (by kernel_rfl) (fun _ _ _ h => h) (by rfl) ?_ s2 ?_
    rotate_left
    · (intro wq hSw; go_simp <;> with_reducible rfl)
    try simp only [Act.put, List.setIfInBounds_toArray, List.set_cons_zero, List.set_cons_succ]
    refine wpAnyH_done (by kernel_rfl) ?_ _
    show onwardB _ .normal _ _
    unfold onwardB
    go_wp2
    go_ret
    exact ⟨by simp, _, K2.out.two⟩
  have g0 : (kd == 0) = false := by rw [beq_eq_false_iff_ne]; exact e0
  by_cases e1 : kd = 1
  · subst e1
    go_wp2_with fail
    refine onwardB_wp ?_
    refine wp_region_held_drew (S := fun w' => w'.heap[w.heap.size]? = some (.cells #[.int .i64 1, .string nm, .string oby, .int .i64 on, .int .i64 slot] 30 (0, 0))) (by kernel_rfl) H1.out.bx (fun hHeld => ?_)
    have H0 : Hid (TwK w0 w1.drew N N' w.heap.size L L #[.int .i64 1, .string nm, .string oby, .int .i64 on, .int .i64 slot] B0) := H1.out.below (Below.refl _ w1).drew
    refine take_run (i := 0) (oi := { dst := some 15, op := Go.Op.move (Go.Operand.tmp 0), type := 23, pos := "law.go:39", after := #[], guard := none }) (v := ?_) rfl (by kernel_rfl) (by kernel_rfl) (by kernel_rfl) (fun _ _ _ h => h) (by rfl) ?_ hHeld ?_
    rotate_left
    · (intro wq hSw; go_simp <;> with_reducible rfl)
    try simp only [Act.put, List.setIfInBounds_toArray, List.set_cons_zero, List.set_cons_succ]
    refine take_run (i := 1) (oi := { dst := some 16, op := Go.Op.fieldAddr 30 (Go.Operand.tmp 5) 1, type := 0, pos := "law.go:39", after := #[], guard := none }) (v := ?_) rfl (by kernel_rfl) (by kernel_rfl) (by kernel_rfl) (fun _ _ _ h => h) (by rfl) ?_ hHeld ?_
    rotate_left
    · (intro wq hSw; go_simp <;> with_reducible rfl)
    try simp only [Act.put, List.setIfInBounds_toArray, List.set_cons_zero, List.set_cons_succ]
    refine take_run (i := 2) (oi := { dst := some 17, op := Go.Op.load 9 (Go.Operand.tmp 16), type := 9, pos := "law.go:39", after := #[{ on := 1, ground := Go.Ground.data }], guard := none }) (v := ?_) rfl (by kernel_rfl) (by kernel_rfl) (by kernel_rfl) (fun _ _ _ h => h) (by rfl) ?_ hHeld ?_
    rotate_left
    · (intro wq hSw; have q0 := HBX.out wq hSw; obtain ⟨q1, q2, q3, q4⟩ := q0; go_simp <;> with_reducible rfl)
    try simp only [Act.put, List.setIfInBounds_toArray, List.set_cons_zero, List.set_cons_succ]
    refine take_run (i := 4) (oi := { dst := some 19, op := Go.Op.move (Go.Operand.tmp 1), type := 25, pos := "law.go:39", after := #[], guard := none }) (v := ?_) rfl (by kernel_rfl) (by kernel_rfl) (by kernel_rfl) (fun _ _ _ h => h) (by rfl) ?_ hHeld ?_
    rotate_left
    · (intro wq hSw; go_simp <;> with_reducible rfl)
    try simp only [Act.put, List.setIfInBounds_toArray, List.set_cons_zero, List.set_cons_succ]
    refine take_run (i := 5) (oi := { dst := some 20, op := Go.Op.fieldAddr 30 (Go.Operand.tmp 5) 1, type := 0, pos := "law.go:39", after := #[], guard := none }) (v := ?_) rfl (by kernel_rfl) (by kernel_rfl) (by kernel_rfl) (fun _ _ _ h => h) (by rfl) ?_ hHeld ?_
    rotate_left
    · (intro wq hSw; go_simp <;> with_reducible rfl)
    try simp only [Act.put, List.setIfInBounds_toArray, List.set_cons_zero, List.set_cons_succ]
    refine take_run (i := 6) (oi := { dst := some 21, op := Go.Op.load 9 (Go.Operand.tmp 20), type := 9, pos := "law.go:39", after := #[{ on := 5, ground := Go.Ground.data }], guard := none }) (v := ?_) rfl (by kernel_rfl) (by kernel_rfl) (by kernel_rfl) (fun _ _ _ h => h) (by rfl) ?_ hHeld ?_
    rotate_left
    · (intro wq hSw; have q0 := HBX.out wq hSw; obtain ⟨q1, q2, q3, q4⟩ := q0; go_simp <;> with_reducible rfl)
    try simp only [Act.put, List.setIfInBounds_toArray, List.set_cons_zero, List.set_cons_succ]
    refine take_call (i := 3) (oi := { dst := some 18, op := Go.Op.call { callee := Go.Callee.value (Go.Operand.func 13), args := #[Go.Operand.tmp 15, Go.Operand.tmp 17], argTypes := #[23, 9] }, type := 34, pos := "law.go:39", after := #[{ on := 0, ground := Go.Ground.data }, { on := 2, ground := Go.Ground.data }], guard := none }) rfl (by kernel_rfl) (by rfl) 13 _ (by go_simp <;> with_reducible rfl) ?_
    refine (two_open H0.out nm HSo.out).mono ?_
    rintro e y1 ⟨rfl, h1⟩
    have K1 : Hid (TwK w0 y1 N N' w.heap.size (putP L nm 0).2 L #[.int .i64 1, .string nm, .string oby, .int .i64 on, .int .i64 slot] B0) := h1
    have s1 : y1.heap[w.heap.size]? = some (.cells #[.int .i64 1, .string nm, .string oby, .int .i64 on, .int .i64 slot] 30 (0, 0)) := h1.bx
    clear h1
    refine ⟨_, rfl, s1, ?_⟩
    try simp only [Act.put, List.setIfInBounds_toArray, List.set_cons_zero, List.set_cons_succ]
    refine take_call (i := 7) (oi := { dst := some 22, op := Go.Op.call { callee := Go.Callee.value (Go.Operand.func 25), args := #[Go.Operand.tmp 19, Go.Operand.tmp 21], argTypes := #[25, 9] }, type := 34, pos := "law.go:39", after := #[{ on := 4, ground := Go.Ground.data }, { on := 6, ground := Go.Ground.data }, { on := 3, ground := Go.Ground.chain }], guard := none }) rfl (by kernel_rfl) (by rfl) 25 _ (by go_simp <;> with_reducible rfl) ?_
    refine (two_qopen K1.out nm HSo.out).mono ?_
    rintro e y2 ⟨rfl, h2⟩
    have K2 : Hid (TwK w0 y2 N N' w.heap.size (putP L nm 0).2 (putP L nm 0).2 #[.int .i64 1, .string nm, .string oby, .int .i64 on, .int .i64 slot] B0) := h2
    have s2 : y2.heap[w.heap.size]? = some (.cells #[.int .i64 1, .string nm, .string oby, .int .i64 on, .int .i64 slot] 30 (0, 0)) := h2.bx
    clear h2 K1 s1
    refine ⟨_, rfl, s2, ?_⟩
    try simp only [Act.put, List.setIfInBounds_toArray, List.set_cons_zero, List.set_cons_succ]
    refine take_run (i := 8) (oi := { dst := some 23, op := Go.Op.binOp Go.BinOp.eql 34 (Go.Operand.tmp 18) (Go.Operand.tmp 22) 34, type := 4, pos := "law.go:39", after := #[{ on := 3, ground := Go.Ground.data }, { on := 7, ground := Go.Ground.data }], guard := none }) (v := ?_) rfl (by kernel_rfl) (by kernel_rfl) (by kernel_rfl) (fun _ _ _ h => h) (by rfl) ?_ s2 ?_
    rotate_left
    · (intro wq hSw; go_simp <;> with_reducible rfl)
    try simp only [Act.put, List.setIfInBounds_toArray, List.set_cons_zero, List.set_cons_succ]
    refine take_run (i := 9) (oi := { dst := some 6, op := Go.Op.assign (Go.Operand.tmp 23), type := 4, pos := "law.go:39", after := #[{ on := 8, ground := Go.Ground.data }, { on := 7, ground := Go.Ground.chain }, { on := 0, ground := Go.Ground.phase }, { on := 1, ground := Go.Ground.phase }, { on := 2, ground := Go.Ground.phase }, { on := 3, ground := Go.Ground.phase }, { on := 4, ground := Go.Ground.phase }, { on := 5, ground := Go.Ground.phase }, { on := 6, ground := Go.Ground.phase }, { on := 7, ground := Go.Ground.phase }, { on := 8, ground := Go.Ground.phase }], guard := none }) (v := ?_) rfl (by kernel_rfl) (by kernel_rfl) (by kernel_rfl) (fun _ _ _ h => h) (by rfl) ?_ s2 ?_
    rotate_left
    · (intro wq hSw; go_simp <;> with_reducible rfl)
    try simp only [Act.put, List.setIfInBounds_toArray, List.set_cons_zero, List.set_cons_succ]
    refine wpAnyH_done (by kernel_rfl) ?_ _
    show onwardB _ .normal _ _
    unfold onwardB
    go_wp2
    go_ret
    exact ⟨by simp, _, K2.out.two⟩
  have g1 : (kd == 1) = false := by rw [beq_eq_false_iff_ne]; exact e1
  by_cases e2 : kd = 2
  · subst e2
    go_wp2_with fail
    refine onwardB_wp ?_
    refine wp_region_held_drew (S := fun w' => w'.heap[w.heap.size]? = some (.cells #[.int .i64 2, .string nm, .string oby, .int .i64 on, .int .i64 slot] 30 (0, 0))) (by kernel_rfl) H1.out.bx (fun hHeld => ?_)
    have H0 : Hid (TwK w0 w1.drew N N' w.heap.size L L #[.int .i64 2, .string nm, .string oby, .int .i64 on, .int .i64 slot] B0) := H1.out.below (Below.refl _ w1).drew
    refine take_run (i := 0) (oi := { dst := some 27, op := Go.Op.move (Go.Operand.tmp 0), type := 23, pos := "law.go:41", after := #[], guard := none }) (v := ?_) rfl (by kernel_rfl) (by kernel_rfl) (by kernel_rfl) (fun _ _ _ h => h) (by rfl) ?_ hHeld ?_
    rotate_left
    · (intro wq hSw; go_simp <;> with_reducible rfl)
    try simp only [Act.put, List.setIfInBounds_toArray, List.set_cons_zero, List.set_cons_succ]
    refine take_run (i := 1) (oi := { dst := some 28, op := Go.Op.fieldAddr 30 (Go.Operand.tmp 5) 1, type := 0, pos := "law.go:41", after := #[], guard := none }) (v := ?_) rfl (by kernel_rfl) (by kernel_rfl) (by kernel_rfl) (fun _ _ _ h => h) (by rfl) ?_ hHeld ?_
    rotate_left
    · (intro wq hSw; go_simp <;> with_reducible rfl)
    try simp only [Act.put, List.setIfInBounds_toArray, List.set_cons_zero, List.set_cons_succ]
    refine take_run (i := 2) (oi := { dst := some 29, op := Go.Op.load 9 (Go.Operand.tmp 28), type := 9, pos := "law.go:41", after := #[{ on := 1, ground := Go.Ground.data }], guard := none }) (v := ?_) rfl (by kernel_rfl) (by kernel_rfl) (by kernel_rfl) (fun _ _ _ h => h) (by rfl) ?_ hHeld ?_
    rotate_left
    · (intro wq hSw; have q0 := HBX.out wq hSw; obtain ⟨q1, q2, q3, q4⟩ := q0; go_simp <;> with_reducible rfl)
    try simp only [Act.put, List.setIfInBounds_toArray, List.set_cons_zero, List.set_cons_succ]
    refine take_run (i := 3) (oi := { dst := some 30, op := Go.Op.fieldAddr 30 (Go.Operand.tmp 5) 3, type := 0, pos := "law.go:41", after := #[], guard := none }) (v := ?_) rfl (by kernel_rfl) (by kernel_rfl) (by kernel_rfl) (fun _ _ _ h => h) (by rfl) ?_ hHeld ?_
    rotate_left
    · (intro wq hSw; go_simp <;> with_reducible rfl)
    try simp only [Act.put, List.setIfInBounds_toArray, List.set_cons_zero, List.set_cons_succ]
    refine take_run (i := 4) (oi := { dst := some 31, op := Go.Op.load 2 (Go.Operand.tmp 30), type := 2, pos := "law.go:41", after := #[{ on := 3, ground := Go.Ground.data }], guard := none }) (v := ?_) rfl (by kernel_rfl) (by kernel_rfl) (by kernel_rfl) (fun _ _ _ h => h) (by rfl) ?_ hHeld ?_
    rotate_left
    · (intro wq hSw; have q0 := HBX.out wq hSw; obtain ⟨q1, q2, q3, q4⟩ := q0; go_simp <;> with_reducible rfl)
    try simp only [Act.put, List.setIfInBounds_toArray, List.set_cons_zero, List.set_cons_succ]
    refine take_run (i := 6) (oi := { dst := some 33, op := Go.Op.move (Go.Operand.tmp 1), type := 25, pos := "law.go:41", after := #[], guard := none }) (v := ?_) rfl (by kernel_rfl) (by kernel_rfl) (by kernel_rfl) (fun _ _ _ h => h) (by rfl) ?_ hHeld ?_
    rotate_left
    · (intro wq hSw; go_simp <;> with_reducible rfl)
    try simp only [Act.put, List.setIfInBounds_toArray, List.set_cons_zero, List.set_cons_succ]
    refine take_run (i := 7) (oi := { dst := some 34, op := Go.Op.fieldAddr 30 (Go.Operand.tmp 5) 1, type := 0, pos := "law.go:41", after := #[], guard := none }) (v := ?_) rfl (by kernel_rfl) (by kernel_rfl) (by kernel_rfl) (fun _ _ _ h => h) (by rfl) ?_ hHeld ?_
    rotate_left
    · (intro wq hSw; go_simp <;> with_reducible rfl)
    try simp only [Act.put, List.setIfInBounds_toArray, List.set_cons_zero, List.set_cons_succ]
    refine take_run (i := 8) (oi := { dst := some 35, op := Go.Op.load 9 (Go.Operand.tmp 34), type := 9, pos := "law.go:41", after := #[{ on := 7, ground := Go.Ground.data }], guard := none }) (v := ?_) rfl (by kernel_rfl) (by kernel_rfl) (by kernel_rfl) (fun _ _ _ h => h) (by rfl) ?_ hHeld ?_
    rotate_left
    · (intro wq hSw; have q0 := HBX.out wq hSw; obtain ⟨q1, q2, q3, q4⟩ := q0; go_simp <;> with_reducible rfl)
    try simp only [Act.put, List.setIfInBounds_toArray, List.set_cons_zero, List.set_cons_succ]
    refine take_run (i := 9) (oi := { dst := some 36, op := Go.Op.fieldAddr 30 (Go.Operand.tmp 5) 3, type := 0, pos := "law.go:41", after := #[], guard := none }) (v := ?_) rfl (by kernel_rfl) (by kernel_rfl) (by kernel_rfl) (fun _ _ _ h => h) (by rfl) ?_ hHeld ?_
    rotate_left
    · (intro wq hSw; go_simp <;> with_reducible rfl)
    try simp only [Act.put, List.setIfInBounds_toArray, List.set_cons_zero, List.set_cons_succ]
    refine take_run (i := 10) (oi := { dst := some 37, op := Go.Op.load 2 (Go.Operand.tmp 36), type := 2, pos := "law.go:41", after := #[{ on := 9, ground := Go.Ground.data }], guard := none }) (v := ?_) rfl (by kernel_rfl) (by kernel_rfl) (by kernel_rfl) (fun _ _ _ h => h) (by rfl) ?_ hHeld ?_
    rotate_left
    · (intro wq hSw; have q0 := HBX.out wq hSw; obtain ⟨q1, q2, q3, q4⟩ := q0; go_simp <;> with_reducible rfl)
    try simp only [Act.put, List.setIfInBounds_toArray, List.set_cons_zero, List.set_cons_succ]
    refine take_call (i := 5) (oi := { dst := some 32, op := Go.Op.call { callee := Go.Callee.value (Go.Operand.func 26), args := #[Go.Operand.tmp 27, Go.Operand.tmp 29, Go.Operand.tmp 31], argTypes := #[23, 9, 2] }, type := 34, pos := "law.go:41", after := #[{ on := 0, ground := Go.Ground.data }, { on := 2, ground := Go.Ground.data }, { on := 4, ground := Go.Ground.data }], guard := none }) rfl (by kernel_rfl) (by rfl) 26 _ (by go_simp <;> with_reducible rfl) ?_
    refine (two_add H0.out nm on HNo.out).mono ?_
    rintro e y1 ⟨rfl, h1⟩
    have K1 : Hid (TwK w0 y1 N N' w.heap.size (onP L nm (addP on)).2 L #[.int .i64 2, .string nm, .string oby, .int .i64 on, .int .i64 slot] B0) := h1
    have s1 : y1.heap[w.heap.size]? = some (.cells #[.int .i64 2, .string nm, .string oby, .int .i64 on, .int .i64 slot] 30 (0, 0)) := h1.bx
    clear h1
    refine ⟨_, rfl, s1, ?_⟩
    try simp only [Act.put, List.setIfInBounds_toArray, List.set_cons_zero, List.set_cons_succ]
    refine take_call (i := 11) (oi := { dst := some 38, op := Go.Op.call { callee := Go.Callee.value (Go.Operand.func 27), args := #[Go.Operand.tmp 33, Go.Operand.tmp 35, Go.Operand.tmp 37], argTypes := #[25, 9, 2] }, type := 34, pos := "law.go:41", after := #[{ on := 6, ground := Go.Ground.data }, { on := 8, ground := Go.Ground.data }, { on := 10, ground := Go.Ground.data }, { on := 5, ground := Go.Ground.chain }], guard := none }) rfl (by kernel_rfl) (by rfl) 27 _ (by go_simp <;> with_reducible rfl) ?_
    refine (two_qadd K1.out nm on HNo.out).mono ?_
    rintro e y2 ⟨rfl, h2⟩
    have K2 : Hid (TwK w0 y2 N N' w.heap.size (onP L nm (addP on)).2 (onP L nm (addP on)).2 #[.int .i64 2, .string nm, .string oby, .int .i64 on, .int .i64 slot] B0) := h2
    have s2 : y2.heap[w.heap.size]? = some (.cells #[.int .i64 2, .string nm, .string oby, .int .i64 on, .int .i64 slot] 30 (0, 0)) := h2.bx
    clear h2 K1 s1
    refine ⟨_, rfl, s2, ?_⟩
    try simp only [Act.put, List.setIfInBounds_toArray, List.set_cons_zero, List.set_cons_succ]
    refine take_run (i := 12) (oi := { dst := some 39, op := Go.Op.binOp Go.BinOp.eql 34 (Go.Operand.tmp 32) (Go.Operand.tmp 38) 34, type := 4, pos := "law.go:41", after := #[{ on := 5, ground := Go.Ground.data }, { on := 11, ground := Go.Ground.data }], guard := none }) (v := ?_) rfl (by kernel_rfl) (by kernel_rfl) (by kernel_rfl) (fun _ _ _ h => h) (by rfl) ?_ s2 ?_
    rotate_left
    · (intro wq hSw; go_simp <;> with_reducible rfl)
    try simp only [Act.put, List.setIfInBounds_toArray, List.set_cons_zero, List.set_cons_succ]
    refine take_run (i := 13) (oi := { dst := some 6, op := Go.Op.assign (Go.Operand.tmp 39), type := 4, pos := "law.go:41", after := #[{ on := 12, ground := Go.Ground.data }, { on := 11, ground := Go.Ground.chain }, { on := 0, ground := Go.Ground.phase }, { on := 1, ground := Go.Ground.phase }, { on := 2, ground := Go.Ground.phase }, { on := 3, ground := Go.Ground.phase }, { on := 4, ground := Go.Ground.phase }, { on := 5, ground := Go.Ground.phase }, { on := 6, ground := Go.Ground.phase }, { on := 7, ground := Go.Ground.phase }, { on := 8, ground := Go.Ground.phase }, { on := 9, ground := Go.Ground.phase }, { on := 10, ground := Go.Ground.phase }, { on := 11, ground := Go.Ground.phase }, { on := 12, ground := Go.Ground.phase }], guard := none }) (v := ?_) rfl (by kernel_rfl) (by kernel_rfl) (by kernel_rfl) (fun _ _ _ h => h) (by rfl) ?_ s2 ?_
    rotate_left
    · (intro wq hSw; go_simp <;> with_reducible rfl)
    try simp only [Act.put, List.setIfInBounds_toArray, List.set_cons_zero, List.set_cons_succ]
    refine wpAnyH_done (by kernel_rfl) ?_ _
    show onwardB _ .normal _ _
    unfold onwardB
    go_wp2
    go_ret
    exact ⟨by simp, _, K2.out.two⟩
  have g2 : (kd == 2) = false := by rw [beq_eq_false_iff_ne]; exact e2
  by_cases e3 : kd = 3
  · subst e3
    go_wp2_with fail
    refine onwardB_wp ?_
    refine wp_region_held_drew (S := fun w' => w'.heap[w.heap.size]? = some (.cells #[.int .i64 3, .string nm, .string oby, .int .i64 on, .int .i64 slot] 30 (0, 0))) (by kernel_rfl) H1.out.bx (fun hHeld => ?_)
    have H0 : Hid (TwK w0 w1.drew N N' w.heap.size L L #[.int .i64 3, .string nm, .string oby, .int .i64 on, .int .i64 slot] B0) := H1.out.below (Below.refl _ w1).drew
    refine take_run (i := 0) (oi := { dst := some 27, op := Go.Op.move (Go.Operand.tmp 0), type := 23, pos := "law.go:41", after := #[], guard := none }) (v := ?_) rfl (by kernel_rfl) (by kernel_rfl) (by kernel_rfl) (fun _ _ _ h => h) (by rfl) ?_ hHeld ?_
    rotate_left
    · (intro wq hSw; go_simp <;> with_reducible rfl)
    try simp only [Act.put, List.setIfInBounds_toArray, List.set_cons_zero, List.set_cons_succ]
    refine take_run (i := 1) (oi := { dst := some 28, op := Go.Op.fieldAddr 30 (Go.Operand.tmp 5) 1, type := 0, pos := "law.go:41", after := #[], guard := none }) (v := ?_) rfl (by kernel_rfl) (by kernel_rfl) (by kernel_rfl) (fun _ _ _ h => h) (by rfl) ?_ hHeld ?_
    rotate_left
    · (intro wq hSw; go_simp <;> with_reducible rfl)
    try simp only [Act.put, List.setIfInBounds_toArray, List.set_cons_zero, List.set_cons_succ]
    refine take_run (i := 2) (oi := { dst := some 29, op := Go.Op.load 9 (Go.Operand.tmp 28), type := 9, pos := "law.go:41", after := #[{ on := 1, ground := Go.Ground.data }], guard := none }) (v := ?_) rfl (by kernel_rfl) (by kernel_rfl) (by kernel_rfl) (fun _ _ _ h => h) (by rfl) ?_ hHeld ?_
    rotate_left
    · (intro wq hSw; have q0 := HBX.out wq hSw; obtain ⟨q1, q2, q3, q4⟩ := q0; go_simp <;> with_reducible rfl)
    try simp only [Act.put, List.setIfInBounds_toArray, List.set_cons_zero, List.set_cons_succ]
    refine take_run (i := 3) (oi := { dst := some 30, op := Go.Op.fieldAddr 30 (Go.Operand.tmp 5) 3, type := 0, pos := "law.go:41", after := #[], guard := none }) (v := ?_) rfl (by kernel_rfl) (by kernel_rfl) (by kernel_rfl) (fun _ _ _ h => h) (by rfl) ?_ hHeld ?_
    rotate_left
    · (intro wq hSw; go_simp <;> with_reducible rfl)
    try simp only [Act.put, List.setIfInBounds_toArray, List.set_cons_zero, List.set_cons_succ]
    refine take_run (i := 4) (oi := { dst := some 31, op := Go.Op.load 2 (Go.Operand.tmp 30), type := 2, pos := "law.go:41", after := #[{ on := 3, ground := Go.Ground.data }], guard := none }) (v := ?_) rfl (by kernel_rfl) (by kernel_rfl) (by kernel_rfl) (fun _ _ _ h => h) (by rfl) ?_ hHeld ?_
    rotate_left
    · (intro wq hSw; have q0 := HBX.out wq hSw; obtain ⟨q1, q2, q3, q4⟩ := q0; go_simp <;> with_reducible rfl)
    try simp only [Act.put, List.setIfInBounds_toArray, List.set_cons_zero, List.set_cons_succ]
    refine take_run (i := 6) (oi := { dst := some 33, op := Go.Op.move (Go.Operand.tmp 1), type := 25, pos := "law.go:41", after := #[], guard := none }) (v := ?_) rfl (by kernel_rfl) (by kernel_rfl) (by kernel_rfl) (fun _ _ _ h => h) (by rfl) ?_ hHeld ?_
    rotate_left
    · (intro wq hSw; go_simp <;> with_reducible rfl)
    try simp only [Act.put, List.setIfInBounds_toArray, List.set_cons_zero, List.set_cons_succ]
    refine take_run (i := 7) (oi := { dst := some 34, op := Go.Op.fieldAddr 30 (Go.Operand.tmp 5) 1, type := 0, pos := "law.go:41", after := #[], guard := none }) (v := ?_) rfl (by kernel_rfl) (by kernel_rfl) (by kernel_rfl) (fun _ _ _ h => h) (by rfl) ?_ hHeld ?_
    rotate_left
    · (intro wq hSw; go_simp <;> with_reducible rfl)
    try simp only [Act.put, List.setIfInBounds_toArray, List.set_cons_zero, List.set_cons_succ]
    refine take_run (i := 8) (oi := { dst := some 35, op := Go.Op.load 9 (Go.Operand.tmp 34), type := 9, pos := "law.go:41", after := #[{ on := 7, ground := Go.Ground.data }], guard := none }) (v := ?_) rfl (by kernel_rfl) (by kernel_rfl) (by kernel_rfl) (fun _ _ _ h => h) (by rfl) ?_ hHeld ?_
    rotate_left
    · (intro wq hSw; have q0 := HBX.out wq hSw; obtain ⟨q1, q2, q3, q4⟩ := q0; go_simp <;> with_reducible rfl)
    try simp only [Act.put, List.setIfInBounds_toArray, List.set_cons_zero, List.set_cons_succ]
    refine take_run (i := 9) (oi := { dst := some 36, op := Go.Op.fieldAddr 30 (Go.Operand.tmp 5) 3, type := 0, pos := "law.go:41", after := #[], guard := none }) (v := ?_) rfl (by kernel_rfl) (by kernel_rfl) (by kernel_rfl) (fun _ _ _ h => h) (by rfl) ?_ hHeld ?_
    rotate_left
    · (intro wq hSw; go_simp <;> with_reducible rfl)
    try simp only [Act.put, List.setIfInBounds_toArray, List.set_cons_zero, List.set_cons_succ]
    refine take_run (i := 10) (oi := { dst := some 37, op := Go.Op.load 2 (Go.Operand.tmp 36), type := 2, pos := "law.go:41", after := #[{ on := 9, ground := Go.Ground.data }], guard := none }) (v := ?_) rfl (by kernel_rfl) (by kernel_rfl) (by kernel_rfl) (fun _ _ _ h => h) (by rfl) ?_ hHeld ?_
    rotate_left
    · (intro wq hSw; have q0 := HBX.out wq hSw; obtain ⟨q1, q2, q3, q4⟩ := q0; go_simp <;> with_reducible rfl)
    try simp only [Act.put, List.setIfInBounds_toArray, List.set_cons_zero, List.set_cons_succ]
    refine take_call (i := 5) (oi := { dst := some 32, op := Go.Op.call { callee := Go.Callee.value (Go.Operand.func 26), args := #[Go.Operand.tmp 27, Go.Operand.tmp 29, Go.Operand.tmp 31], argTypes := #[23, 9, 2] }, type := 34, pos := "law.go:41", after := #[{ on := 0, ground := Go.Ground.data }, { on := 2, ground := Go.Ground.data }, { on := 4, ground := Go.Ground.data }], guard := none }) rfl (by kernel_rfl) (by rfl) 26 _ (by go_simp <;> with_reducible rfl) ?_
    refine (two_add H0.out nm on HNo.out).mono ?_
    rintro e y1 ⟨rfl, h1⟩
    have K1 : Hid (TwK w0 y1 N N' w.heap.size (onP L nm (addP on)).2 L #[.int .i64 3, .string nm, .string oby, .int .i64 on, .int .i64 slot] B0) := h1
    have s1 : y1.heap[w.heap.size]? = some (.cells #[.int .i64 3, .string nm, .string oby, .int .i64 on, .int .i64 slot] 30 (0, 0)) := h1.bx
    clear h1
    refine ⟨_, rfl, s1, ?_⟩
    try simp only [Act.put, List.setIfInBounds_toArray, List.set_cons_zero, List.set_cons_succ]
    refine take_call (i := 11) (oi := { dst := some 38, op := Go.Op.call { callee := Go.Callee.value (Go.Operand.func 27), args := #[Go.Operand.tmp 33, Go.Operand.tmp 35, Go.Operand.tmp 37], argTypes := #[25, 9, 2] }, type := 34, pos := "law.go:41", after := #[{ on := 6, ground := Go.Ground.data }, { on := 8, ground := Go.Ground.data }, { on := 10, ground := Go.Ground.data }, { on := 5, ground := Go.Ground.chain }], guard := none }) rfl (by kernel_rfl) (by rfl) 27 _ (by go_simp <;> with_reducible rfl) ?_
    refine (two_qadd K1.out nm on HNo.out).mono ?_
    rintro e y2 ⟨rfl, h2⟩
    have K2 : Hid (TwK w0 y2 N N' w.heap.size (onP L nm (addP on)).2 (onP L nm (addP on)).2 #[.int .i64 3, .string nm, .string oby, .int .i64 on, .int .i64 slot] B0) := h2
    have s2 : y2.heap[w.heap.size]? = some (.cells #[.int .i64 3, .string nm, .string oby, .int .i64 on, .int .i64 slot] 30 (0, 0)) := h2.bx
    clear h2 K1 s1
    refine ⟨_, rfl, s2, ?_⟩
    try simp only [Act.put, List.setIfInBounds_toArray, List.set_cons_zero, List.set_cons_succ]
    refine take_run (i := 12) (oi := { dst := some 39, op := Go.Op.binOp Go.BinOp.eql 34 (Go.Operand.tmp 32) (Go.Operand.tmp 38) 34, type := 4, pos := "law.go:41", after := #[{ on := 5, ground := Go.Ground.data }, { on := 11, ground := Go.Ground.data }], guard := none }) (v := ?_) rfl (by kernel_rfl) (by kernel_rfl) (by kernel_rfl) (fun _ _ _ h => h) (by rfl) ?_ s2 ?_
    rotate_left
    · (intro wq hSw; go_simp <;> with_reducible rfl)
    try simp only [Act.put, List.setIfInBounds_toArray, List.set_cons_zero, List.set_cons_succ]
    refine take_run (i := 13) (oi := { dst := some 6, op := Go.Op.assign (Go.Operand.tmp 39), type := 4, pos := "law.go:41", after := #[{ on := 12, ground := Go.Ground.data }, { on := 11, ground := Go.Ground.chain }, { on := 0, ground := Go.Ground.phase }, { on := 1, ground := Go.Ground.phase }, { on := 2, ground := Go.Ground.phase }, { on := 3, ground := Go.Ground.phase }, { on := 4, ground := Go.Ground.phase }, { on := 5, ground := Go.Ground.phase }, { on := 6, ground := Go.Ground.phase }, { on := 7, ground := Go.Ground.phase }, { on := 8, ground := Go.Ground.phase }, { on := 9, ground := Go.Ground.phase }, { on := 10, ground := Go.Ground.phase }, { on := 11, ground := Go.Ground.phase }, { on := 12, ground := Go.Ground.phase }], guard := none }) (v := ?_) rfl (by kernel_rfl) (by kernel_rfl) (by kernel_rfl) (fun _ _ _ h => h) (by rfl) ?_ s2 ?_
    rotate_left
    · (intro wq hSw; go_simp <;> with_reducible rfl)
    try simp only [Act.put, List.setIfInBounds_toArray, List.set_cons_zero, List.set_cons_succ]
    refine wpAnyH_done (by kernel_rfl) ?_ _
    show onwardB _ .normal _ _
    unfold onwardB
    go_wp2
    go_ret
    exact ⟨by simp, _, K2.out.two⟩
  have g3 : (kd == 3) = false := by rw [beq_eq_false_iff_ne]; exact e3
  by_cases e4 : kd = 4
  · subst e4
    go_wp2_with fail
    refine onwardB_wp ?_
    refine wp_region_held_drew (S := fun w' => w'.heap[w.heap.size]? = some (.cells #[.int .i64 4, .string nm, .string oby, .int .i64 on, .int .i64 slot] 30 (0, 0))) (by kernel_rfl) H1.out.bx (fun hHeld => ?_)
    have H0 : Hid (TwK w0 w1.drew N N' w.heap.size L L #[.int .i64 4, .string nm, .string oby, .int .i64 on, .int .i64 slot] B0) := H1.out.below (Below.refl _ w1).drew
    refine take_run (i := 0) (oi := { dst := some 43, op := Go.Op.move (Go.Operand.tmp 0), type := 23, pos := "law.go:43", after := #[], guard := none }) (v := ?_) rfl (by kernel_rfl) (by kernel_rfl) (by kernel_rfl) (fun _ _ _ h => h) (by rfl) ?_ hHeld ?_
    rotate_left
    · (intro wq hSw; go_simp <;> with_reducible rfl)
    try simp only [Act.put, List.setIfInBounds_toArray, List.set_cons_zero, List.set_cons_succ]
    refine take_run (i := 1) (oi := { dst := some 44, op := Go.Op.fieldAddr 30 (Go.Operand.tmp 5) 1, type := 0, pos := "law.go:43", after := #[], guard := none }) (v := ?_) rfl (by kernel_rfl) (by kernel_rfl) (by kernel_rfl) (fun _ _ _ h => h) (by rfl) ?_ hHeld ?_
    rotate_left
    · (intro wq hSw; go_simp <;> with_reducible rfl)
    try simp only [Act.put, List.setIfInBounds_toArray, List.set_cons_zero, List.set_cons_succ]
    refine take_run (i := 2) (oi := { dst := some 45, op := Go.Op.load 9 (Go.Operand.tmp 44), type := 9, pos := "law.go:43", after := #[{ on := 1, ground := Go.Ground.data }], guard := none }) (v := ?_) rfl (by kernel_rfl) (by kernel_rfl) (by kernel_rfl) (fun _ _ _ h => h) (by rfl) ?_ hHeld ?_
    rotate_left
    · (intro wq hSw; have q0 := HBX.out wq hSw; obtain ⟨q1, q2, q3, q4⟩ := q0; go_simp <;> with_reducible rfl)
    try simp only [Act.put, List.setIfInBounds_toArray, List.set_cons_zero, List.set_cons_succ]
    refine take_run (i := 3) (oi := { dst := some 46, op := Go.Op.fieldAddr 30 (Go.Operand.tmp 5) 3, type := 0, pos := "law.go:43", after := #[], guard := none }) (v := ?_) rfl (by kernel_rfl) (by kernel_rfl) (by kernel_rfl) (fun _ _ _ h => h) (by rfl) ?_ hHeld ?_
    rotate_left
    · (intro wq hSw; go_simp <;> with_reducible rfl)
    try simp only [Act.put, List.setIfInBounds_toArray, List.set_cons_zero, List.set_cons_succ]
    refine take_run (i := 4) (oi := { dst := some 47, op := Go.Op.load 2 (Go.Operand.tmp 46), type := 2, pos := "law.go:43", after := #[{ on := 3, ground := Go.Ground.data }], guard := none }) (v := ?_) rfl (by kernel_rfl) (by kernel_rfl) (by kernel_rfl) (fun _ _ _ h => h) (by rfl) ?_ hHeld ?_
    rotate_left
    · (intro wq hSw; have q0 := HBX.out wq hSw; obtain ⟨q1, q2, q3, q4⟩ := q0; go_simp <;> with_reducible rfl)
    try simp only [Act.put, List.setIfInBounds_toArray, List.set_cons_zero, List.set_cons_succ]
    refine take_run (i := 6) (oi := { dst := some 49, op := Go.Op.move (Go.Operand.tmp 1), type := 25, pos := "law.go:43", after := #[], guard := none }) (v := ?_) rfl (by kernel_rfl) (by kernel_rfl) (by kernel_rfl) (fun _ _ _ h => h) (by rfl) ?_ hHeld ?_
    rotate_left
    · (intro wq hSw; go_simp <;> with_reducible rfl)
    try simp only [Act.put, List.setIfInBounds_toArray, List.set_cons_zero, List.set_cons_succ]
    refine take_run (i := 7) (oi := { dst := some 50, op := Go.Op.fieldAddr 30 (Go.Operand.tmp 5) 1, type := 0, pos := "law.go:43", after := #[], guard := none }) (v := ?_) rfl (by kernel_rfl) (by kernel_rfl) (by kernel_rfl) (fun _ _ _ h => h) (by rfl) ?_ hHeld ?_
    rotate_left
    · (intro wq hSw; go_simp <;> with_reducible rfl)
    try simp only [Act.put, List.setIfInBounds_toArray, List.set_cons_zero, List.set_cons_succ]
    refine take_run (i := 8) (oi := { dst := some 51, op := Go.Op.load 9 (Go.Operand.tmp 50), type := 9, pos := "law.go:43", after := #[{ on := 7, ground := Go.Ground.data }], guard := none }) (v := ?_) rfl (by kernel_rfl) (by kernel_rfl) (by kernel_rfl) (fun _ _ _ h => h) (by rfl) ?_ hHeld ?_
    rotate_left
    · (intro wq hSw; have q0 := HBX.out wq hSw; obtain ⟨q1, q2, q3, q4⟩ := q0; go_simp <;> with_reducible rfl)
    try simp only [Act.put, List.setIfInBounds_toArray, List.set_cons_zero, List.set_cons_succ]
    refine take_run (i := 9) (oi := { dst := some 52, op := Go.Op.fieldAddr 30 (Go.Operand.tmp 5) 3, type := 0, pos := "law.go:43", after := #[], guard := none }) (v := ?_) rfl (by kernel_rfl) (by kernel_rfl) (by kernel_rfl) (fun _ _ _ h => h) (by rfl) ?_ hHeld ?_
    rotate_left
    · (intro wq hSw; go_simp <;> with_reducible rfl)
    try simp only [Act.put, List.setIfInBounds_toArray, List.set_cons_zero, List.set_cons_succ]
    refine take_run (i := 10) (oi := { dst := some 53, op := Go.Op.load 2 (Go.Operand.tmp 52), type := 2, pos := "law.go:43", after := #[{ on := 9, ground := Go.Ground.data }], guard := none }) (v := ?_) rfl (by kernel_rfl) (by kernel_rfl) (by kernel_rfl) (fun _ _ _ h => h) (by rfl) ?_ hHeld ?_
    rotate_left
    · (intro wq hSw; have q0 := HBX.out wq hSw; obtain ⟨q1, q2, q3, q4⟩ := q0; go_simp <;> with_reducible rfl)
    try simp only [Act.put, List.setIfInBounds_toArray, List.set_cons_zero, List.set_cons_succ]
    refine take_call (i := 5) (oi := { dst := some 48, op := Go.Op.call { callee := Go.Callee.value (Go.Operand.func 28), args := #[Go.Operand.tmp 43, Go.Operand.tmp 45, Go.Operand.tmp 47], argTypes := #[23, 9, 2] }, type := 34, pos := "law.go:43", after := #[{ on := 0, ground := Go.Ground.data }, { on := 2, ground := Go.Ground.data }, { on := 4, ground := Go.Ground.data }], guard := none }) rfl (by kernel_rfl) (by rfl) 28 _ (by go_simp <;> with_reducible rfl) ?_
    refine (two_take H0.out nm on HNo.out).mono ?_
    rintro e y1 ⟨rfl, h1⟩
    have K1 : Hid (TwK w0 y1 N N' w.heap.size (onP L nm (takeP on)).2 L #[.int .i64 4, .string nm, .string oby, .int .i64 on, .int .i64 slot] B0) := h1
    have s1 : y1.heap[w.heap.size]? = some (.cells #[.int .i64 4, .string nm, .string oby, .int .i64 on, .int .i64 slot] 30 (0, 0)) := h1.bx
    clear h1
    refine ⟨_, rfl, s1, ?_⟩
    try simp only [Act.put, List.setIfInBounds_toArray, List.set_cons_zero, List.set_cons_succ]
    refine take_call (i := 11) (oi := { dst := some 54, op := Go.Op.call { callee := Go.Callee.value (Go.Operand.func 29), args := #[Go.Operand.tmp 49, Go.Operand.tmp 51, Go.Operand.tmp 53], argTypes := #[25, 9, 2] }, type := 34, pos := "law.go:43", after := #[{ on := 6, ground := Go.Ground.data }, { on := 8, ground := Go.Ground.data }, { on := 10, ground := Go.Ground.data }, { on := 5, ground := Go.Ground.chain }], guard := none }) rfl (by kernel_rfl) (by rfl) 29 _ (by go_simp <;> with_reducible rfl) ?_
    refine (two_qtake K1.out nm on HNo.out).mono ?_
    rintro e y2 ⟨rfl, h2⟩
    have K2 : Hid (TwK w0 y2 N N' w.heap.size (onP L nm (takeP on)).2 (onP L nm (takeP on)).2 #[.int .i64 4, .string nm, .string oby, .int .i64 on, .int .i64 slot] B0) := h2
    have s2 : y2.heap[w.heap.size]? = some (.cells #[.int .i64 4, .string nm, .string oby, .int .i64 on, .int .i64 slot] 30 (0, 0)) := h2.bx
    clear h2 K1 s1
    refine ⟨_, rfl, s2, ?_⟩
    try simp only [Act.put, List.setIfInBounds_toArray, List.set_cons_zero, List.set_cons_succ]
    refine take_run (i := 12) (oi := { dst := some 55, op := Go.Op.binOp Go.BinOp.eql 34 (Go.Operand.tmp 48) (Go.Operand.tmp 54) 34, type := 4, pos := "law.go:43", after := #[{ on := 5, ground := Go.Ground.data }, { on := 11, ground := Go.Ground.data }], guard := none }) (v := ?_) rfl (by kernel_rfl) (by kernel_rfl) (by kernel_rfl) (fun _ _ _ h => h) (by rfl) ?_ s2 ?_
    rotate_left
    · (intro wq hSw; go_simp <;> with_reducible rfl)
    try simp only [Act.put, List.setIfInBounds_toArray, List.set_cons_zero, List.set_cons_succ]
    refine take_run (i := 13) (oi := { dst := some 6, op := Go.Op.assign (Go.Operand.tmp 55), type := 4, pos := "law.go:43", after := #[{ on := 12, ground := Go.Ground.data }, { on := 11, ground := Go.Ground.chain }, { on := 0, ground := Go.Ground.phase }, { on := 1, ground := Go.Ground.phase }, { on := 2, ground := Go.Ground.phase }, { on := 3, ground := Go.Ground.phase }, { on := 4, ground := Go.Ground.phase }, { on := 5, ground := Go.Ground.phase }, { on := 6, ground := Go.Ground.phase }, { on := 7, ground := Go.Ground.phase }, { on := 8, ground := Go.Ground.phase }, { on := 9, ground := Go.Ground.phase }, { on := 10, ground := Go.Ground.phase }, { on := 11, ground := Go.Ground.phase }, { on := 12, ground := Go.Ground.phase }], guard := none }) (v := ?_) rfl (by kernel_rfl) (by kernel_rfl) (by kernel_rfl) (fun _ _ _ h => h) (by rfl) ?_ s2 ?_
    rotate_left
    · (intro wq hSw; go_simp <;> with_reducible rfl)
    try simp only [Act.put, List.setIfInBounds_toArray, List.set_cons_zero, List.set_cons_succ]
    refine wpAnyH_done (by kernel_rfl) ?_ _
    show onwardB _ .normal _ _
    unfold onwardB
    go_wp2
    go_ret
    exact ⟨by simp, _, K2.out.two⟩
  have g4 : (kd == 4) = false := by rw [beq_eq_false_iff_ne]; exact e4
  by_cases e5 : kd = 5
  · subst e5
    go_wp2_with fail
    refine onwardB_wp ?_
    refine wp_region_held_drew (S := fun w' => w'.heap[w.heap.size]? = some (.cells #[.int .i64 5, .string nm, .string oby, .int .i64 on, .int .i64 slot] 30 (0, 0))) (by kernel_rfl) H1.out.bx (fun hHeld => ?_)
    have H0 : Hid (TwK w0 w1.drew N N' w.heap.size L L #[.int .i64 5, .string nm, .string oby, .int .i64 on, .int .i64 slot] B0) := H1.out.below (Below.refl _ w1).drew
    refine take_run (i := 0) (oi := { dst := some 43, op := Go.Op.move (Go.Operand.tmp 0), type := 23, pos := "law.go:43", after := #[], guard := none }) (v := ?_) rfl (by kernel_rfl) (by kernel_rfl) (by kernel_rfl) (fun _ _ _ h => h) (by rfl) ?_ hHeld ?_
    rotate_left
    · (intro wq hSw; go_simp <;> with_reducible rfl)
    try simp only [Act.put, List.setIfInBounds_toArray, List.set_cons_zero, List.set_cons_succ]
    refine take_run (i := 1) (oi := { dst := some 44, op := Go.Op.fieldAddr 30 (Go.Operand.tmp 5) 1, type := 0, pos := "law.go:43", after := #[], guard := none }) (v := ?_) rfl (by kernel_rfl) (by kernel_rfl) (by kernel_rfl) (fun _ _ _ h => h) (by rfl) ?_ hHeld ?_
    rotate_left
    · (intro wq hSw; go_simp <;> with_reducible rfl)
    try simp only [Act.put, List.setIfInBounds_toArray, List.set_cons_zero, List.set_cons_succ]
    refine take_run (i := 2) (oi := { dst := some 45, op := Go.Op.load 9 (Go.Operand.tmp 44), type := 9, pos := "law.go:43", after := #[{ on := 1, ground := Go.Ground.data }], guard := none }) (v := ?_) rfl (by kernel_rfl) (by kernel_rfl) (by kernel_rfl) (fun _ _ _ h => h) (by rfl) ?_ hHeld ?_
    rotate_left
    · (intro wq hSw; have q0 := HBX.out wq hSw; obtain ⟨q1, q2, q3, q4⟩ := q0; go_simp <;> with_reducible rfl)
    try simp only [Act.put, List.setIfInBounds_toArray, List.set_cons_zero, List.set_cons_succ]
    refine take_run (i := 3) (oi := { dst := some 46, op := Go.Op.fieldAddr 30 (Go.Operand.tmp 5) 3, type := 0, pos := "law.go:43", after := #[], guard := none }) (v := ?_) rfl (by kernel_rfl) (by kernel_rfl) (by kernel_rfl) (fun _ _ _ h => h) (by rfl) ?_ hHeld ?_
    rotate_left
    · (intro wq hSw; go_simp <;> with_reducible rfl)
    try simp only [Act.put, List.setIfInBounds_toArray, List.set_cons_zero, List.set_cons_succ]
    refine take_run (i := 4) (oi := { dst := some 47, op := Go.Op.load 2 (Go.Operand.tmp 46), type := 2, pos := "law.go:43", after := #[{ on := 3, ground := Go.Ground.data }], guard := none }) (v := ?_) rfl (by kernel_rfl) (by kernel_rfl) (by kernel_rfl) (fun _ _ _ h => h) (by rfl) ?_ hHeld ?_
    rotate_left
    · (intro wq hSw; have q0 := HBX.out wq hSw; obtain ⟨q1, q2, q3, q4⟩ := q0; go_simp <;> with_reducible rfl)
    try simp only [Act.put, List.setIfInBounds_toArray, List.set_cons_zero, List.set_cons_succ]
    refine take_run (i := 6) (oi := { dst := some 49, op := Go.Op.move (Go.Operand.tmp 1), type := 25, pos := "law.go:43", after := #[], guard := none }) (v := ?_) rfl (by kernel_rfl) (by kernel_rfl) (by kernel_rfl) (fun _ _ _ h => h) (by rfl) ?_ hHeld ?_
    rotate_left
    · (intro wq hSw; go_simp <;> with_reducible rfl)
    try simp only [Act.put, List.setIfInBounds_toArray, List.set_cons_zero, List.set_cons_succ]
    refine take_run (i := 7) (oi := { dst := some 50, op := Go.Op.fieldAddr 30 (Go.Operand.tmp 5) 1, type := 0, pos := "law.go:43", after := #[], guard := none }) (v := ?_) rfl (by kernel_rfl) (by kernel_rfl) (by kernel_rfl) (fun _ _ _ h => h) (by rfl) ?_ hHeld ?_
    rotate_left
    · (intro wq hSw; go_simp <;> with_reducible rfl)
    try simp only [Act.put, List.setIfInBounds_toArray, List.set_cons_zero, List.set_cons_succ]
    refine take_run (i := 8) (oi := { dst := some 51, op := Go.Op.load 9 (Go.Operand.tmp 50), type := 9, pos := "law.go:43", after := #[{ on := 7, ground := Go.Ground.data }], guard := none }) (v := ?_) rfl (by kernel_rfl) (by kernel_rfl) (by kernel_rfl) (fun _ _ _ h => h) (by rfl) ?_ hHeld ?_
    rotate_left
    · (intro wq hSw; have q0 := HBX.out wq hSw; obtain ⟨q1, q2, q3, q4⟩ := q0; go_simp <;> with_reducible rfl)
    try simp only [Act.put, List.setIfInBounds_toArray, List.set_cons_zero, List.set_cons_succ]
    refine take_run (i := 9) (oi := { dst := some 52, op := Go.Op.fieldAddr 30 (Go.Operand.tmp 5) 3, type := 0, pos := "law.go:43", after := #[], guard := none }) (v := ?_) rfl (by kernel_rfl) (by kernel_rfl) (by kernel_rfl) (fun _ _ _ h => h) (by rfl) ?_ hHeld ?_
    rotate_left
    · (intro wq hSw; go_simp <;> with_reducible rfl)
    try simp only [Act.put, List.setIfInBounds_toArray, List.set_cons_zero, List.set_cons_succ]
    refine take_run (i := 10) (oi := { dst := some 53, op := Go.Op.load 2 (Go.Operand.tmp 52), type := 2, pos := "law.go:43", after := #[{ on := 9, ground := Go.Ground.data }], guard := none }) (v := ?_) rfl (by kernel_rfl) (by kernel_rfl) (by kernel_rfl) (fun _ _ _ h => h) (by rfl) ?_ hHeld ?_
    rotate_left
    · (intro wq hSw; have q0 := HBX.out wq hSw; obtain ⟨q1, q2, q3, q4⟩ := q0; go_simp <;> with_reducible rfl)
    try simp only [Act.put, List.setIfInBounds_toArray, List.set_cons_zero, List.set_cons_succ]
    refine take_call (i := 5) (oi := { dst := some 48, op := Go.Op.call { callee := Go.Callee.value (Go.Operand.func 28), args := #[Go.Operand.tmp 43, Go.Operand.tmp 45, Go.Operand.tmp 47], argTypes := #[23, 9, 2] }, type := 34, pos := "law.go:43", after := #[{ on := 0, ground := Go.Ground.data }, { on := 2, ground := Go.Ground.data }, { on := 4, ground := Go.Ground.data }], guard := none }) rfl (by kernel_rfl) (by rfl) 28 _ (by go_simp <;> with_reducible rfl) ?_
    refine (two_take H0.out nm on HNo.out).mono ?_
    rintro e y1 ⟨rfl, h1⟩
    have K1 : Hid (TwK w0 y1 N N' w.heap.size (onP L nm (takeP on)).2 L #[.int .i64 5, .string nm, .string oby, .int .i64 on, .int .i64 slot] B0) := h1
    have s1 : y1.heap[w.heap.size]? = some (.cells #[.int .i64 5, .string nm, .string oby, .int .i64 on, .int .i64 slot] 30 (0, 0)) := h1.bx
    clear h1
    refine ⟨_, rfl, s1, ?_⟩
    try simp only [Act.put, List.setIfInBounds_toArray, List.set_cons_zero, List.set_cons_succ]
    refine take_call (i := 11) (oi := { dst := some 54, op := Go.Op.call { callee := Go.Callee.value (Go.Operand.func 29), args := #[Go.Operand.tmp 49, Go.Operand.tmp 51, Go.Operand.tmp 53], argTypes := #[25, 9, 2] }, type := 34, pos := "law.go:43", after := #[{ on := 6, ground := Go.Ground.data }, { on := 8, ground := Go.Ground.data }, { on := 10, ground := Go.Ground.data }, { on := 5, ground := Go.Ground.chain }], guard := none }) rfl (by kernel_rfl) (by rfl) 29 _ (by go_simp <;> with_reducible rfl) ?_
    refine (two_qtake K1.out nm on HNo.out).mono ?_
    rintro e y2 ⟨rfl, h2⟩
    have K2 : Hid (TwK w0 y2 N N' w.heap.size (onP L nm (takeP on)).2 (onP L nm (takeP on)).2 #[.int .i64 5, .string nm, .string oby, .int .i64 on, .int .i64 slot] B0) := h2
    have s2 : y2.heap[w.heap.size]? = some (.cells #[.int .i64 5, .string nm, .string oby, .int .i64 on, .int .i64 slot] 30 (0, 0)) := h2.bx
    clear h2 K1 s1
    refine ⟨_, rfl, s2, ?_⟩
    try simp only [Act.put, List.setIfInBounds_toArray, List.set_cons_zero, List.set_cons_succ]
    refine take_run (i := 12) (oi := { dst := some 55, op := Go.Op.binOp Go.BinOp.eql 34 (Go.Operand.tmp 48) (Go.Operand.tmp 54) 34, type := 4, pos := "law.go:43", after := #[{ on := 5, ground := Go.Ground.data }, { on := 11, ground := Go.Ground.data }], guard := none }) (v := ?_) rfl (by kernel_rfl) (by kernel_rfl) (by kernel_rfl) (fun _ _ _ h => h) (by rfl) ?_ s2 ?_
    rotate_left
    · (intro wq hSw; go_simp <;> with_reducible rfl)
    try simp only [Act.put, List.setIfInBounds_toArray, List.set_cons_zero, List.set_cons_succ]
    refine take_run (i := 13) (oi := { dst := some 6, op := Go.Op.assign (Go.Operand.tmp 55), type := 4, pos := "law.go:43", after := #[{ on := 12, ground := Go.Ground.data }, { on := 11, ground := Go.Ground.chain }, { on := 0, ground := Go.Ground.phase }, { on := 1, ground := Go.Ground.phase }, { on := 2, ground := Go.Ground.phase }, { on := 3, ground := Go.Ground.phase }, { on := 4, ground := Go.Ground.phase }, { on := 5, ground := Go.Ground.phase }, { on := 6, ground := Go.Ground.phase }, { on := 7, ground := Go.Ground.phase }, { on := 8, ground := Go.Ground.phase }, { on := 9, ground := Go.Ground.phase }, { on := 10, ground := Go.Ground.phase }, { on := 11, ground := Go.Ground.phase }, { on := 12, ground := Go.Ground.phase }], guard := none }) (v := ?_) rfl (by kernel_rfl) (by kernel_rfl) (by kernel_rfl) (fun _ _ _ h => h) (by rfl) ?_ s2 ?_
    rotate_left
    · (intro wq hSw; go_simp <;> with_reducible rfl)
    try simp only [Act.put, List.setIfInBounds_toArray, List.set_cons_zero, List.set_cons_succ]
    refine wpAnyH_done (by kernel_rfl) ?_ _
    show onwardB _ .normal _ _
    unfold onwardB
    go_wp2
    go_ret
    exact ⟨by simp, _, K2.out.two⟩
  have g5 : (kd == 5) = false := by rw [beq_eq_false_iff_ne]; exact e5
  by_cases e6 : kd = 6
  · subst e6
    go_wp2_with fail
    refine onwardB_wp ?_
    refine wp_region_held_drew (S := fun w' => w'.heap[w.heap.size]? = some (.cells #[.int .i64 6, .string nm, .string oby, .int .i64 on, .int .i64 slot] 30 (0, 0))) (by kernel_rfl) H1.out.bx (fun hHeld => ?_)
    have H0 : Hid (TwK w0 w1.drew N N' w.heap.size L L #[.int .i64 6, .string nm, .string oby, .int .i64 on, .int .i64 slot] B0) := H1.out.below (Below.refl _ w1).drew
    refine take_run (i := 0) (oi := { dst := some 58, op := Go.Op.move (Go.Operand.tmp 0), type := 23, pos := "law.go:45", after := #[], guard := none }) (v := ?_) rfl (by kernel_rfl) (by kernel_rfl) (by kernel_rfl) (fun _ _ _ h => h) (by rfl) ?_ hHeld ?_
    rotate_left
    · (intro wq hSw; go_simp <;> with_reducible rfl)
    try simp only [Act.put, List.setIfInBounds_toArray, List.set_cons_zero, List.set_cons_succ]
    refine take_run (i := 1) (oi := { dst := some 59, op := Go.Op.fieldAddr 30 (Go.Operand.tmp 5) 1, type := 0, pos := "law.go:45", after := #[], guard := none }) (v := ?_) rfl (by kernel_rfl) (by kernel_rfl) (by kernel_rfl) (fun _ _ _ h => h) (by rfl) ?_ hHeld ?_
    rotate_left
    · (intro wq hSw; go_simp <;> with_reducible rfl)
    try simp only [Act.put, List.setIfInBounds_toArray, List.set_cons_zero, List.set_cons_succ]
    refine take_run (i := 2) (oi := { dst := some 60, op := Go.Op.load 9 (Go.Operand.tmp 59), type := 9, pos := "law.go:45", after := #[{ on := 1, ground := Go.Ground.data }], guard := none }) (v := ?_) rfl (by kernel_rfl) (by kernel_rfl) (by kernel_rfl) (fun _ _ _ h => h) (by rfl) ?_ hHeld ?_
    rotate_left
    · (intro wq hSw; have q0 := HBX.out wq hSw; obtain ⟨q1, q2, q3, q4⟩ := q0; go_simp <;> with_reducible rfl)
    try simp only [Act.put, List.setIfInBounds_toArray, List.set_cons_zero, List.set_cons_succ]
    refine take_run (i := 3) (oi := { dst := some 61, op := Go.Op.fieldAddr 30 (Go.Operand.tmp 5) 2, type := 0, pos := "law.go:45", after := #[], guard := none }) (v := ?_) rfl (by kernel_rfl) (by kernel_rfl) (by kernel_rfl) (fun _ _ _ h => h) (by rfl) ?_ hHeld ?_
    rotate_left
    · (intro wq hSw; go_simp <;> with_reducible rfl)
    try simp only [Act.put, List.setIfInBounds_toArray, List.set_cons_zero, List.set_cons_succ]
    refine take_run (i := 4) (oi := { dst := some 62, op := Go.Op.load 9 (Go.Operand.tmp 61), type := 9, pos := "law.go:45", after := #[{ on := 3, ground := Go.Ground.data }], guard := none }) (v := ?_) rfl (by kernel_rfl) (by kernel_rfl) (by kernel_rfl) (fun _ _ _ h => h) (by rfl) ?_ hHeld ?_
    rotate_left
    · (intro wq hSw; have q0 := HBX.out wq hSw; obtain ⟨q1, q2, q3, q4⟩ := q0; go_simp <;> with_reducible rfl)
    try simp only [Act.put, List.setIfInBounds_toArray, List.set_cons_zero, List.set_cons_succ]
    refine take_run (i := 6) (oi := { dst := some 64, op := Go.Op.move (Go.Operand.tmp 1), type := 25, pos := "law.go:45", after := #[], guard := none }) (v := ?_) rfl (by kernel_rfl) (by kernel_rfl) (by kernel_rfl) (fun _ _ _ h => h) (by rfl) ?_ hHeld ?_
    rotate_left
    · (intro wq hSw; go_simp <;> with_reducible rfl)
    try simp only [Act.put, List.setIfInBounds_toArray, List.set_cons_zero, List.set_cons_succ]
    refine take_run (i := 7) (oi := { dst := some 65, op := Go.Op.fieldAddr 30 (Go.Operand.tmp 5) 1, type := 0, pos := "law.go:45", after := #[], guard := none }) (v := ?_) rfl (by kernel_rfl) (by kernel_rfl) (by kernel_rfl) (fun _ _ _ h => h) (by rfl) ?_ hHeld ?_
    rotate_left
    · (intro wq hSw; go_simp <;> with_reducible rfl)
    try simp only [Act.put, List.setIfInBounds_toArray, List.set_cons_zero, List.set_cons_succ]
    refine take_run (i := 8) (oi := { dst := some 66, op := Go.Op.load 9 (Go.Operand.tmp 65), type := 9, pos := "law.go:45", after := #[{ on := 7, ground := Go.Ground.data }], guard := none }) (v := ?_) rfl (by kernel_rfl) (by kernel_rfl) (by kernel_rfl) (fun _ _ _ h => h) (by rfl) ?_ hHeld ?_
    rotate_left
    · (intro wq hSw; have q0 := HBX.out wq hSw; obtain ⟨q1, q2, q3, q4⟩ := q0; go_simp <;> with_reducible rfl)
    try simp only [Act.put, List.setIfInBounds_toArray, List.set_cons_zero, List.set_cons_succ]
    refine take_run (i := 9) (oi := { dst := some 67, op := Go.Op.fieldAddr 30 (Go.Operand.tmp 5) 2, type := 0, pos := "law.go:45", after := #[], guard := none }) (v := ?_) rfl (by kernel_rfl) (by kernel_rfl) (by kernel_rfl) (fun _ _ _ h => h) (by rfl) ?_ hHeld ?_
    rotate_left
    · (intro wq hSw; go_simp <;> with_reducible rfl)
    try simp only [Act.put, List.setIfInBounds_toArray, List.set_cons_zero, List.set_cons_succ]
    refine take_run (i := 10) (oi := { dst := some 68, op := Go.Op.load 9 (Go.Operand.tmp 67), type := 9, pos := "law.go:45", after := #[{ on := 9, ground := Go.Ground.data }], guard := none }) (v := ?_) rfl (by kernel_rfl) (by kernel_rfl) (by kernel_rfl) (fun _ _ _ h => h) (by rfl) ?_ hHeld ?_
    rotate_left
    · (intro wq hSw; have q0 := HBX.out wq hSw; obtain ⟨q1, q2, q3, q4⟩ := q0; go_simp <;> with_reducible rfl)
    try simp only [Act.put, List.setIfInBounds_toArray, List.set_cons_zero, List.set_cons_succ]
    refine take_call (i := 5) (oi := { dst := some 63, op := Go.Op.call { callee := Go.Callee.value (Go.Operand.func 30), args := #[Go.Operand.tmp 58, Go.Operand.tmp 60, Go.Operand.tmp 62], argTypes := #[23, 9, 9] }, type := 34, pos := "law.go:45", after := #[{ on := 0, ground := Go.Ground.data }, { on := 2, ground := Go.Ground.data }, { on := 4, ground := Go.Ground.data }], guard := none }) rfl (by kernel_rfl) (by rfl) 30 _ (by go_simp <;> with_reducible rfl) ?_
    refine (two_hold H0.out nm oby).mono ?_
    rintro e y1 ⟨rfl, h1⟩
    have K1 : Hid (TwK w0 y1 N N' w.heap.size (onP L nm (holdP oby)).2 L #[.int .i64 6, .string nm, .string oby, .int .i64 on, .int .i64 slot] B0) := h1
    have s1 : y1.heap[w.heap.size]? = some (.cells #[.int .i64 6, .string nm, .string oby, .int .i64 on, .int .i64 slot] 30 (0, 0)) := h1.bx
    clear h1
    refine ⟨_, rfl, s1, ?_⟩
    try simp only [Act.put, List.setIfInBounds_toArray, List.set_cons_zero, List.set_cons_succ]
    refine take_call (i := 11) (oi := { dst := some 69, op := Go.Op.call { callee := Go.Callee.value (Go.Operand.func 31), args := #[Go.Operand.tmp 64, Go.Operand.tmp 66, Go.Operand.tmp 68], argTypes := #[25, 9, 9] }, type := 34, pos := "law.go:45", after := #[{ on := 6, ground := Go.Ground.data }, { on := 8, ground := Go.Ground.data }, { on := 10, ground := Go.Ground.data }, { on := 5, ground := Go.Ground.chain }], guard := none }) rfl (by kernel_rfl) (by rfl) 31 _ (by go_simp <;> with_reducible rfl) ?_
    refine (two_qhold K1.out nm oby).mono ?_
    rintro e y2 ⟨rfl, h2⟩
    have K2 : Hid (TwK w0 y2 N N' w.heap.size (onP L nm (holdP oby)).2 (onP L nm (holdP oby)).2 #[.int .i64 6, .string nm, .string oby, .int .i64 on, .int .i64 slot] B0) := h2
    have s2 : y2.heap[w.heap.size]? = some (.cells #[.int .i64 6, .string nm, .string oby, .int .i64 on, .int .i64 slot] 30 (0, 0)) := h2.bx
    clear h2 K1 s1
    refine ⟨_, rfl, s2, ?_⟩
    try simp only [Act.put, List.setIfInBounds_toArray, List.set_cons_zero, List.set_cons_succ]
    refine take_run (i := 12) (oi := { dst := some 70, op := Go.Op.binOp Go.BinOp.eql 34 (Go.Operand.tmp 63) (Go.Operand.tmp 69) 34, type := 4, pos := "law.go:45", after := #[{ on := 5, ground := Go.Ground.data }, { on := 11, ground := Go.Ground.data }], guard := none }) (v := ?_) rfl (by kernel_rfl) (by kernel_rfl) (by kernel_rfl) (fun _ _ _ h => h) (by rfl) ?_ s2 ?_
    rotate_left
    · (intro wq hSw; go_simp <;> with_reducible rfl)
    try simp only [Act.put, List.setIfInBounds_toArray, List.set_cons_zero, List.set_cons_succ]
    refine take_run (i := 13) (oi := { dst := some 6, op := Go.Op.assign (Go.Operand.tmp 70), type := 4, pos := "law.go:45", after := #[{ on := 12, ground := Go.Ground.data }, { on := 11, ground := Go.Ground.chain }, { on := 0, ground := Go.Ground.phase }, { on := 1, ground := Go.Ground.phase }, { on := 2, ground := Go.Ground.phase }, { on := 3, ground := Go.Ground.phase }, { on := 4, ground := Go.Ground.phase }, { on := 5, ground := Go.Ground.phase }, { on := 6, ground := Go.Ground.phase }, { on := 7, ground := Go.Ground.phase }, { on := 8, ground := Go.Ground.phase }, { on := 9, ground := Go.Ground.phase }, { on := 10, ground := Go.Ground.phase }, { on := 11, ground := Go.Ground.phase }, { on := 12, ground := Go.Ground.phase }], guard := none }) (v := ?_) rfl (by kernel_rfl) (by kernel_rfl) (by kernel_rfl) (fun _ _ _ h => h) (by rfl) ?_ s2 ?_
    rotate_left
    · (intro wq hSw; go_simp <;> with_reducible rfl)
    try simp only [Act.put, List.setIfInBounds_toArray, List.set_cons_zero, List.set_cons_succ]
    refine wpAnyH_done (by kernel_rfl) ?_ _
    show onwardB _ .normal _ _
    unfold onwardB
    go_wp2
    go_ret
    exact ⟨by simp, _, K2.out.two⟩
  have g6 : (kd == 6) = false := by rw [beq_eq_false_iff_ne]; exact e6
  by_cases e7 : kd = 7
  · subst e7
    go_wp2_with fail
    refine onwardB_wp ?_
    refine wp_region_held_drew (S := fun w' => w'.heap[w.heap.size]? = some (.cells #[.int .i64 7, .string nm, .string oby, .int .i64 on, .int .i64 slot] 30 (0, 0))) (by kernel_rfl) H1.out.bx (fun hHeld => ?_)
    have H0 : Hid (TwK w0 w1.drew N N' w.heap.size L L #[.int .i64 7, .string nm, .string oby, .int .i64 on, .int .i64 slot] B0) := H1.out.below (Below.refl _ w1).drew
    refine take_run (i := 0) (oi := { dst := some 73, op := Go.Op.move (Go.Operand.tmp 0), type := 23, pos := "law.go:47", after := #[], guard := none }) (v := ?_) rfl (by kernel_rfl) (by kernel_rfl) (by kernel_rfl) (fun _ _ _ h => h) (by rfl) ?_ hHeld ?_
    rotate_left
    · (intro wq hSw; go_simp <;> with_reducible rfl)
    try simp only [Act.put, List.setIfInBounds_toArray, List.set_cons_zero, List.set_cons_succ]
    refine take_run (i := 1) (oi := { dst := some 74, op := Go.Op.fieldAddr 30 (Go.Operand.tmp 5) 1, type := 0, pos := "law.go:47", after := #[], guard := none }) (v := ?_) rfl (by kernel_rfl) (by kernel_rfl) (by kernel_rfl) (fun _ _ _ h => h) (by rfl) ?_ hHeld ?_
    rotate_left
    · (intro wq hSw; go_simp <;> with_reducible rfl)
    try simp only [Act.put, List.setIfInBounds_toArray, List.set_cons_zero, List.set_cons_succ]
    refine take_run (i := 2) (oi := { dst := some 75, op := Go.Op.load 9 (Go.Operand.tmp 74), type := 9, pos := "law.go:47", after := #[{ on := 1, ground := Go.Ground.data }], guard := none }) (v := ?_) rfl (by kernel_rfl) (by kernel_rfl) (by kernel_rfl) (fun _ _ _ h => h) (by rfl) ?_ hHeld ?_
    rotate_left
    · (intro wq hSw; have q0 := HBX.out wq hSw; obtain ⟨q1, q2, q3, q4⟩ := q0; go_simp <;> with_reducible rfl)
    try simp only [Act.put, List.setIfInBounds_toArray, List.set_cons_zero, List.set_cons_succ]
    refine take_run (i := 3) (oi := { dst := some 76, op := Go.Op.fieldAddr 30 (Go.Operand.tmp 5) 2, type := 0, pos := "law.go:47", after := #[], guard := none }) (v := ?_) rfl (by kernel_rfl) (by kernel_rfl) (by kernel_rfl) (fun _ _ _ h => h) (by rfl) ?_ hHeld ?_
    rotate_left
    · (intro wq hSw; go_simp <;> with_reducible rfl)
    try simp only [Act.put, List.setIfInBounds_toArray, List.set_cons_zero, List.set_cons_succ]
    refine take_run (i := 4) (oi := { dst := some 77, op := Go.Op.load 9 (Go.Operand.tmp 76), type := 9, pos := "law.go:47", after := #[{ on := 3, ground := Go.Ground.data }], guard := none }) (v := ?_) rfl (by kernel_rfl) (by kernel_rfl) (by kernel_rfl) (fun _ _ _ h => h) (by rfl) ?_ hHeld ?_
    rotate_left
    · (intro wq hSw; have q0 := HBX.out wq hSw; obtain ⟨q1, q2, q3, q4⟩ := q0; go_simp <;> with_reducible rfl)
    try simp only [Act.put, List.setIfInBounds_toArray, List.set_cons_zero, List.set_cons_succ]
    refine take_run (i := 6) (oi := { dst := some 79, op := Go.Op.move (Go.Operand.tmp 1), type := 25, pos := "law.go:47", after := #[], guard := none }) (v := ?_) rfl (by kernel_rfl) (by kernel_rfl) (by kernel_rfl) (fun _ _ _ h => h) (by rfl) ?_ hHeld ?_
    rotate_left
    · (intro wq hSw; go_simp <;> with_reducible rfl)
    try simp only [Act.put, List.setIfInBounds_toArray, List.set_cons_zero, List.set_cons_succ]
    refine take_run (i := 7) (oi := { dst := some 80, op := Go.Op.fieldAddr 30 (Go.Operand.tmp 5) 1, type := 0, pos := "law.go:47", after := #[], guard := none }) (v := ?_) rfl (by kernel_rfl) (by kernel_rfl) (by kernel_rfl) (fun _ _ _ h => h) (by rfl) ?_ hHeld ?_
    rotate_left
    · (intro wq hSw; go_simp <;> with_reducible rfl)
    try simp only [Act.put, List.setIfInBounds_toArray, List.set_cons_zero, List.set_cons_succ]
    refine take_run (i := 8) (oi := { dst := some 81, op := Go.Op.load 9 (Go.Operand.tmp 80), type := 9, pos := "law.go:47", after := #[{ on := 7, ground := Go.Ground.data }], guard := none }) (v := ?_) rfl (by kernel_rfl) (by kernel_rfl) (by kernel_rfl) (fun _ _ _ h => h) (by rfl) ?_ hHeld ?_
    rotate_left
    · (intro wq hSw; have q0 := HBX.out wq hSw; obtain ⟨q1, q2, q3, q4⟩ := q0; go_simp <;> with_reducible rfl)
    try simp only [Act.put, List.setIfInBounds_toArray, List.set_cons_zero, List.set_cons_succ]
    refine take_run (i := 9) (oi := { dst := some 82, op := Go.Op.fieldAddr 30 (Go.Operand.tmp 5) 2, type := 0, pos := "law.go:47", after := #[], guard := none }) (v := ?_) rfl (by kernel_rfl) (by kernel_rfl) (by kernel_rfl) (fun _ _ _ h => h) (by rfl) ?_ hHeld ?_
    rotate_left
    · (intro wq hSw; go_simp <;> with_reducible rfl)
    try simp only [Act.put, List.setIfInBounds_toArray, List.set_cons_zero, List.set_cons_succ]
    refine take_run (i := 10) (oi := { dst := some 83, op := Go.Op.load 9 (Go.Operand.tmp 82), type := 9, pos := "law.go:47", after := #[{ on := 9, ground := Go.Ground.data }], guard := none }) (v := ?_) rfl (by kernel_rfl) (by kernel_rfl) (by kernel_rfl) (fun _ _ _ h => h) (by rfl) ?_ hHeld ?_
    rotate_left
    · (intro wq hSw; have q0 := HBX.out wq hSw; obtain ⟨q1, q2, q3, q4⟩ := q0; go_simp <;> with_reducible rfl)
    try simp only [Act.put, List.setIfInBounds_toArray, List.set_cons_zero, List.set_cons_succ]
    refine take_call (i := 5) (oi := { dst := some 78, op := Go.Op.call { callee := Go.Callee.value (Go.Operand.func 32), args := #[Go.Operand.tmp 73, Go.Operand.tmp 75, Go.Operand.tmp 77], argTypes := #[23, 9, 9] }, type := 34, pos := "law.go:47", after := #[{ on := 0, ground := Go.Ground.data }, { on := 2, ground := Go.Ground.data }, { on := 4, ground := Go.Ground.data }], guard := none }) rfl (by kernel_rfl) (by rfl) 32 _ (by go_simp <;> with_reducible rfl) ?_
    refine (two_free H0.out nm oby).mono ?_
    rintro e y1 ⟨rfl, h1⟩
    have K1 : Hid (TwK w0 y1 N N' w.heap.size (onP L nm (freeP oby)).2 L #[.int .i64 7, .string nm, .string oby, .int .i64 on, .int .i64 slot] B0) := h1
    have s1 : y1.heap[w.heap.size]? = some (.cells #[.int .i64 7, .string nm, .string oby, .int .i64 on, .int .i64 slot] 30 (0, 0)) := h1.bx
    clear h1
    refine ⟨_, rfl, s1, ?_⟩
    try simp only [Act.put, List.setIfInBounds_toArray, List.set_cons_zero, List.set_cons_succ]
    refine take_call (i := 11) (oi := { dst := some 84, op := Go.Op.call { callee := Go.Callee.value (Go.Operand.func 33), args := #[Go.Operand.tmp 79, Go.Operand.tmp 81, Go.Operand.tmp 83], argTypes := #[25, 9, 9] }, type := 34, pos := "law.go:47", after := #[{ on := 6, ground := Go.Ground.data }, { on := 8, ground := Go.Ground.data }, { on := 10, ground := Go.Ground.data }, { on := 5, ground := Go.Ground.chain }], guard := none }) rfl (by kernel_rfl) (by rfl) 33 _ (by go_simp <;> with_reducible rfl) ?_
    refine (two_qfree K1.out nm oby).mono ?_
    rintro e y2 ⟨rfl, h2⟩
    have K2 : Hid (TwK w0 y2 N N' w.heap.size (onP L nm (freeP oby)).2 (onP L nm (freeP oby)).2 #[.int .i64 7, .string nm, .string oby, .int .i64 on, .int .i64 slot] B0) := h2
    have s2 : y2.heap[w.heap.size]? = some (.cells #[.int .i64 7, .string nm, .string oby, .int .i64 on, .int .i64 slot] 30 (0, 0)) := h2.bx
    clear h2 K1 s1
    refine ⟨_, rfl, s2, ?_⟩
    try simp only [Act.put, List.setIfInBounds_toArray, List.set_cons_zero, List.set_cons_succ]
    refine take_run (i := 12) (oi := { dst := some 85, op := Go.Op.binOp Go.BinOp.eql 34 (Go.Operand.tmp 78) (Go.Operand.tmp 84) 34, type := 4, pos := "law.go:47", after := #[{ on := 5, ground := Go.Ground.data }, { on := 11, ground := Go.Ground.data }], guard := none }) (v := ?_) rfl (by kernel_rfl) (by kernel_rfl) (by kernel_rfl) (fun _ _ _ h => h) (by rfl) ?_ s2 ?_
    rotate_left
    · (intro wq hSw; go_simp <;> with_reducible rfl)
    try simp only [Act.put, List.setIfInBounds_toArray, List.set_cons_zero, List.set_cons_succ]
    refine take_run (i := 13) (oi := { dst := some 6, op := Go.Op.assign (Go.Operand.tmp 85), type := 4, pos := "law.go:47", after := #[{ on := 12, ground := Go.Ground.data }, { on := 11, ground := Go.Ground.chain }, { on := 0, ground := Go.Ground.phase }, { on := 1, ground := Go.Ground.phase }, { on := 2, ground := Go.Ground.phase }, { on := 3, ground := Go.Ground.phase }, { on := 4, ground := Go.Ground.phase }, { on := 5, ground := Go.Ground.phase }, { on := 6, ground := Go.Ground.phase }, { on := 7, ground := Go.Ground.phase }, { on := 8, ground := Go.Ground.phase }, { on := 9, ground := Go.Ground.phase }, { on := 10, ground := Go.Ground.phase }, { on := 11, ground := Go.Ground.phase }, { on := 12, ground := Go.Ground.phase }], guard := none }) (v := ?_) rfl (by kernel_rfl) (by kernel_rfl) (by kernel_rfl) (fun _ _ _ h => h) (by rfl) ?_ s2 ?_
    rotate_left
    · (intro wq hSw; go_simp <;> with_reducible rfl)
    try simp only [Act.put, List.setIfInBounds_toArray, List.set_cons_zero, List.set_cons_succ]
    refine wpAnyH_done (by kernel_rfl) ?_ _
    show onwardB _ .normal _ _
    unfold onwardB
    go_wp2
    go_ret
    exact ⟨by simp, _, K2.out.two⟩
  have g7 : (kd == 7) = false := by rw [beq_eq_false_iff_ne]; exact e7
  by_cases e9 : kd = 9
  · subst e9
    go_wp2_with fail
    refine onwardB_wp ?_
    refine wp_region_held_drew (S := fun w' => w'.heap[w.heap.size]? = some (.cells #[.int .i64 9, .string nm, .string oby, .int .i64 on, .int .i64 slot] 30 (0, 0))) (by kernel_rfl) H1.out.bx (fun hHeld => ?_)
    have H0 : Hid (TwK w0 w1.drew N N' w.heap.size L L #[.int .i64 9, .string nm, .string oby, .int .i64 on, .int .i64 slot] B0) := H1.out.below (Below.refl _ w1).drew
    refine take_run (i := 0) (oi := { dst := some 102, op := Go.Op.move (Go.Operand.tmp 0), type := 23, pos := "law.go:52", after := #[], guard := none }) (v := ?_) rfl (by kernel_rfl) (by kernel_rfl) (by kernel_rfl) (fun _ _ _ h => h) (by rfl) ?_ hHeld ?_
    rotate_left
    · (intro wq hSw; go_simp <;> with_reducible rfl)
    try simp only [Act.put, List.setIfInBounds_toArray, List.set_cons_zero, List.set_cons_succ]
    refine take_run (i := 1) (oi := { dst := some 103, op := Go.Op.fieldAddr 30 (Go.Operand.tmp 5) 4, type := 0, pos := "law.go:52", after := #[], guard := none }) (v := ?_) rfl (by kernel_rfl) (by kernel_rfl) (by kernel_rfl) (fun _ _ _ h => h) (by rfl) ?_ hHeld ?_
    rotate_left
    · (intro wq hSw; go_simp <;> with_reducible rfl)
    try simp only [Act.put, List.setIfInBounds_toArray, List.set_cons_zero, List.set_cons_succ]
    refine take_run (i := 2) (oi := { dst := some 104, op := Go.Op.load 3 (Go.Operand.tmp 103), type := 3, pos := "law.go:52", after := #[{ on := 1, ground := Go.Ground.data }], guard := none }) (v := ?_) rfl (by kernel_rfl) (by kernel_rfl) (by kernel_rfl) (fun _ _ _ h => h) (by rfl) ?_ hHeld ?_
    rotate_left
    · (intro wq hSw; have q0 := HBX.out wq hSw; obtain ⟨q1, q2, q3, q4⟩ := q0; go_simp <;> with_reducible rfl)
    try simp only [Act.put, List.setIfInBounds_toArray, List.set_cons_zero, List.set_cons_succ]
    refine take_run (i := 4) (oi := { dst := some 106, op := Go.Op.move (Go.Operand.tmp 1), type := 25, pos := "law.go:52", after := #[], guard := none }) (v := ?_) rfl (by kernel_rfl) (by kernel_rfl) (by kernel_rfl) (fun _ _ _ h => h) (by rfl) ?_ hHeld ?_
    rotate_left
    · (intro wq hSw; go_simp <;> with_reducible rfl)
    try simp only [Act.put, List.setIfInBounds_toArray, List.set_cons_zero, List.set_cons_succ]
    refine take_run (i := 5) (oi := { dst := some 107, op := Go.Op.fieldAddr 30 (Go.Operand.tmp 5) 4, type := 0, pos := "law.go:52", after := #[], guard := none }) (v := ?_) rfl (by kernel_rfl) (by kernel_rfl) (by kernel_rfl) (fun _ _ _ h => h) (by rfl) ?_ hHeld ?_
    rotate_left
    · (intro wq hSw; go_simp <;> with_reducible rfl)
    try simp only [Act.put, List.setIfInBounds_toArray, List.set_cons_zero, List.set_cons_succ]
    refine take_run (i := 6) (oi := { dst := some 108, op := Go.Op.load 3 (Go.Operand.tmp 107), type := 3, pos := "law.go:52", after := #[{ on := 5, ground := Go.Ground.data }], guard := none }) (v := ?_) rfl (by kernel_rfl) (by kernel_rfl) (by kernel_rfl) (fun _ _ _ h => h) (by rfl) ?_ hHeld ?_
    rotate_left
    · (intro wq hSw; have q0 := HBX.out wq hSw; obtain ⟨q1, q2, q3, q4⟩ := q0; go_simp <;> with_reducible rfl)
    try simp only [Act.put, List.setIfInBounds_toArray, List.set_cons_zero, List.set_cons_succ]
    refine take_call (i := 3) (oi := { dst := some 105, op := Go.Op.call { callee := Go.Callee.value (Go.Operand.func 36), args := #[Go.Operand.tmp 102, Go.Operand.tmp 104], argTypes := #[23, 3] }, type := 3, pos := "law.go:52", after := #[{ on := 0, ground := Go.Ground.data }, { on := 2, ground := Go.Ground.data }], guard := none }) rfl (by kernel_rfl) (by rfl) 36 _ (by go_simp <;> with_reducible rfl) ?_
    refine (two_drop H0.out slot).mono ?_
    rintro e y1 ⟨rfl, h1⟩
    have K1 : Hid (TwK w0 y1 N N' w.heap.size (stay slot L) L #[.int .i64 9, .string nm, .string oby, .int .i64 on, .int .i64 slot] B0) := h1
    have s1 : y1.heap[w.heap.size]? = some (.cells #[.int .i64 9, .string nm, .string oby, .int .i64 on, .int .i64 slot] 30 (0, 0)) := h1.bx
    clear h1
    refine ⟨_, rfl, s1, ?_⟩
    try simp only [Act.put, List.setIfInBounds_toArray, List.set_cons_zero, List.set_cons_succ]
    refine take_call (i := 7) (oi := { dst := some 109, op := Go.Op.call { callee := Go.Callee.value (Go.Operand.func 37), args := #[Go.Operand.tmp 106, Go.Operand.tmp 108], argTypes := #[25, 3] }, type := 3, pos := "law.go:52", after := #[{ on := 4, ground := Go.Ground.data }, { on := 6, ground := Go.Ground.data }, { on := 3, ground := Go.Ground.chain }], guard := none }) rfl (by kernel_rfl) (by rfl) 37 _ (by go_simp <;> with_reducible rfl) ?_
    refine (two_qdrop K1.out slot).mono ?_
    rintro e y2 ⟨rfl, h2⟩
    have K2 : Hid (TwK w0 y2 N N' w.heap.size (stay slot L) (stay slot L) #[.int .i64 9, .string nm, .string oby, .int .i64 on, .int .i64 slot] B0) := h2
    have s2 : y2.heap[w.heap.size]? = some (.cells #[.int .i64 9, .string nm, .string oby, .int .i64 on, .int .i64 slot] 30 (0, 0)) := h2.bx
    clear h2 K1 s1
    refine ⟨_, rfl, s2, ?_⟩
    try simp only [Act.put, List.setIfInBounds_toArray, List.set_cons_zero, List.set_cons_succ]
    refine take_run (i := 8) (oi := { dst := some 110, op := Go.Op.binOp Go.BinOp.eql 3 (Go.Operand.tmp 105) (Go.Operand.tmp 109) 3, type := 4, pos := "law.go:52", after := #[{ on := 3, ground := Go.Ground.data }, { on := 7, ground := Go.Ground.data }], guard := none }) (v := ?_) rfl (by kernel_rfl) (by kernel_rfl) (by kernel_rfl) (fun _ _ _ h => h) (by rfl) ?_ s2 ?_
    rotate_left
    · (intro wq hSw; go_simp <;> with_reducible rfl)
    try simp only [Act.put, List.setIfInBounds_toArray, List.set_cons_zero, List.set_cons_succ]
    refine take_run (i := 9) (oi := { dst := some 6, op := Go.Op.assign (Go.Operand.tmp 110), type := 4, pos := "law.go:52", after := #[{ on := 8, ground := Go.Ground.data }, { on := 7, ground := Go.Ground.chain }, { on := 0, ground := Go.Ground.phase }, { on := 1, ground := Go.Ground.phase }, { on := 2, ground := Go.Ground.phase }, { on := 3, ground := Go.Ground.phase }, { on := 4, ground := Go.Ground.phase }, { on := 5, ground := Go.Ground.phase }, { on := 6, ground := Go.Ground.phase }, { on := 7, ground := Go.Ground.phase }, { on := 8, ground := Go.Ground.phase }], guard := none }) (v := ?_) rfl (by kernel_rfl) (by kernel_rfl) (by kernel_rfl) (fun _ _ _ h => h) (by rfl) ?_ s2 ?_
    rotate_left
    · (intro wq hSw; go_simp <;> with_reducible rfl)
    try simp only [Act.put, List.setIfInBounds_toArray, List.set_cons_zero, List.set_cons_succ]
    refine wpAnyH_done (by kernel_rfl) ?_ _
    show onwardB _ .normal _ _
    unfold onwardB
    go_wp2
    go_ret
    exact ⟨by simp, _, K2.out.two⟩
  have g9 : (kd == 9) = false := by rw [beq_eq_false_iff_ne]; exact e9
  by_cases e8 : kd = 8
  · subst e8
    obtain ⟨k1, k2, k3, k4⟩ := HBX.out w1 H1.out.bx
    have f0 : ∀ i, w1.frozen? ⟨w.heap.size, i, none⟩ = false := fun i => by have hq := H1.out.bx; simp [World.frozen?, hq]
    have HXX : Hid (∀ wq : World, wq.heap[w1.heap.size]? = some (.cells #[.string nm, .int .i64 on] 50 (0, 0)) → wq.cell? ⟨w1.heap.size, 0, none⟩ = some (.string nm) ∧ wq.cell? ⟨w1.heap.size, 1, none⟩ = some (.int .i64 on)) := fun wq hb => ⟨by simp [World.cell?, hb], by simp [World.cell?, hb]⟩
    go_wp2_with fail
    obtain ⟨w2, hw2⟩ : ∃ w2, w1.alloc (.cells #[.string nm, .int .i64 on] 50) = w2 := ⟨_, rfl⟩
    have b2 : Below w1.heap.size w1 w2 := by rw [← hw2]; exact (Below.refl _ w1).alloc (Nat.le_refl _) _
    have H2 : Hid (TwK w0 w2 N N' w1.heap.size L L #[.string nm, .int .i64 on] B0 50) := ⟨H1.out.two.below b2, by rw [← hw2]; exact heap_alloc_new w1 _, by decide, by decide⟩
    rw [hw2]
    clear hw2 b2 k1 k2 k3 k4 f0
    refine onwardB_wp ?_
    refine wp_region_held_drew (S := fun w' => w'.heap[w1.heap.size]? = some (.cells #[.string nm, .int .i64 on] 50 (0, 0))) (by kernel_rfl) H2.out.bx (fun hHeld => ?_)
    have H0 : Hid (TwK w0 w2.drew N N' w1.heap.size L L #[.string nm, .int .i64 on] B0 50) := H2.out.below (Below.refl _ w2).drew
    refine take_run (i := 0) (oi := { dst := some 93, op := Go.Op.move (Go.Operand.tmp 0), type := 23, pos := "law.go:50", after := #[], guard := none }) (v := ?_) rfl (by kernel_rfl) (by kernel_rfl) (by kernel_rfl) (fun _ _ _ h => h) (by rfl) ?_ hHeld ?_
    rotate_left
    · (intro wq hSw; go_simp <;> with_reducible rfl)
    try simp only [Act.put, List.setIfInBounds_toArray, List.set_cons_zero, List.set_cons_succ]
    refine take_run (i := 1) (oi := { dst := some 94, op := Go.Op.load 50 (Go.Operand.tmp 7), type := 50, pos := "law.go:50", after := #[], guard := none }) (v := ?_) rfl (by kernel_rfl) (by kernel_rfl) (by kernel_rfl) (fun _ _ _ h => h) (by rfl) ?_ hHeld ?_
    rotate_left
    · (intro wq hSw; obtain ⟨q1, q2⟩ := HXX.out wq hSw; go_simp <;> with_reducible rfl)
    try simp only [Act.put, List.setIfInBounds_toArray, List.set_cons_zero, List.set_cons_succ]
    refine take_run (i := 3) (oi := { dst := some 96, op := Go.Op.move (Go.Operand.tmp 1), type := 25, pos := "law.go:50", after := #[], guard := none }) (v := ?_) rfl (by kernel_rfl) (by kernel_rfl) (by kernel_rfl) (fun _ _ _ h => h) (by rfl) ?_ hHeld ?_
    rotate_left
    · (intro wq hSw; go_simp <;> with_reducible rfl)
    try simp only [Act.put, List.setIfInBounds_toArray, List.set_cons_zero, List.set_cons_succ]
    refine take_run (i := 4) (oi := { dst := some 97, op := Go.Op.load 50 (Go.Operand.tmp 7), type := 50, pos := "law.go:50", after := #[], guard := none }) (v := ?_) rfl (by kernel_rfl) (by kernel_rfl) (by kernel_rfl) (fun _ _ _ h => h) (by rfl) ?_ hHeld ?_
    rotate_left
    · (intro wq hSw; obtain ⟨q1, q2⟩ := HXX.out wq hSw; go_simp <;> with_reducible rfl)
    try simp only [Act.put, List.setIfInBounds_toArray, List.set_cons_zero, List.set_cons_succ]
    refine take_call (i := 2) (oi := { dst := some 95, op := Go.Op.call { callee := Go.Callee.value (Go.Operand.func 34), args := #[Go.Operand.tmp 93, Go.Operand.tmp 94], argTypes := #[23, 50] }, type := 34, pos := "law.go:50", after := #[{ on := 0, ground := Go.Ground.data }, { on := 1, ground := Go.Ground.data }], guard := none }) rfl (by kernel_rfl) (by rfl) 34 _ (by go_simp <;> with_reducible rfl) ?_
    refine (two_put H0.out nm on HNo.out HSo.out).mono ?_
    rintro e y1 ⟨rfl, h1⟩
    have K1 : Hid (TwK w0 y1 N N' w1.heap.size (putP L nm on).2 L #[.string nm, .int .i64 on] B0 50) := h1
    have s1 : y1.heap[w1.heap.size]? = some (.cells #[.string nm, .int .i64 on] 50 (0, 0)) := h1.bx
    clear h1
    refine ⟨_, rfl, s1, ?_⟩
    try simp only [Act.put, List.setIfInBounds_toArray, List.set_cons_zero, List.set_cons_succ]
    refine take_call (i := 5) (oi := { dst := some 98, op := Go.Op.call { callee := Go.Callee.value (Go.Operand.func 35), args := #[Go.Operand.tmp 96, Go.Operand.tmp 97], argTypes := #[25, 50] }, type := 34, pos := "law.go:50", after := #[{ on := 3, ground := Go.Ground.data }, { on := 4, ground := Go.Ground.data }, { on := 2, ground := Go.Ground.chain }], guard := none }) rfl (by kernel_rfl) (by rfl) 35 _ (by go_simp <;> with_reducible rfl) ?_
    refine (two_qput K1.out nm on HNo.out HSo.out).mono ?_
    rintro e y2 ⟨rfl, h2⟩
    have K2 : Hid (TwK w0 y2 N N' w1.heap.size (putP L nm on).2 (putP L nm on).2 #[.string nm, .int .i64 on] B0 50) := h2
    have s2 : y2.heap[w1.heap.size]? = some (.cells #[.string nm, .int .i64 on] 50 (0, 0)) := h2.bx
    clear h2 K1 s1
    refine ⟨_, rfl, s2, ?_⟩
    try simp only [Act.put, List.setIfInBounds_toArray, List.set_cons_zero, List.set_cons_succ]
    refine take_run (i := 6) (oi := { dst := some 99, op := Go.Op.binOp Go.BinOp.eql 34 (Go.Operand.tmp 95) (Go.Operand.tmp 98) 34, type := 4, pos := "law.go:50", after := #[{ on := 2, ground := Go.Ground.data }, { on := 5, ground := Go.Ground.data }], guard := none }) (v := ?_) rfl (by kernel_rfl) (by kernel_rfl) (by kernel_rfl) (fun _ _ _ h => h) (by rfl) ?_ s2 ?_
    rotate_left
    · (intro wq hSw; go_simp <;> with_reducible rfl)
    try simp only [Act.put, List.setIfInBounds_toArray, List.set_cons_zero, List.set_cons_succ]
    refine take_run (i := 7) (oi := { dst := some 6, op := Go.Op.assign (Go.Operand.tmp 99), type := 4, pos := "law.go:50", after := #[{ on := 6, ground := Go.Ground.data }, { on := 5, ground := Go.Ground.chain }, { on := 0, ground := Go.Ground.phase }, { on := 1, ground := Go.Ground.phase }, { on := 2, ground := Go.Ground.phase }, { on := 3, ground := Go.Ground.phase }, { on := 4, ground := Go.Ground.phase }, { on := 5, ground := Go.Ground.phase }, { on := 6, ground := Go.Ground.phase }], guard := none }) (v := ?_) rfl (by kernel_rfl) (by kernel_rfl) (by kernel_rfl) (fun _ _ _ h => h) (by rfl) ?_ s2 ?_
    rotate_left
    · (intro wq hSw; go_simp <;> with_reducible rfl)
    try simp only [Act.put, List.setIfInBounds_toArray, List.set_cons_zero, List.set_cons_succ]
    refine wpAnyH_done (by kernel_rfl) ?_ _
    show onwardB _ .normal _ _
    unfold onwardB
    go_wp2
    go_ret
    exact ⟨by simp, _, K2.out.two⟩
  by_cases e11 : kd = 11
  · subst e11
    have T1 : Hid (Two w0 w1 N N' L L B0) := H1.out.two
    go_wp2_with fail
    go_loopw [8] (fun i wr => ∃ (k : Nat) (L1 : List Acc), k ≤ 201 ∧ i = .int .i64 k ∧ Hid (Two w0 wr N N' L1 L1 B0)) (fun i _ => 201 - (intOf i).toNat)
    case atStart => exact ⟨0, L, by omega, rfl, T1⟩
    case round =>
      obtain ⟨k, L1, hk, rfl, hT⟩ := hrel
      by_cases hlt : k < 201
      · have hlt' : (k : Int) < 201 := by omega
        obtain ⟨p, hp, hp2⟩ : ∃ p : Nat, (k : Int).tmod 26 = (p : Int) ∧ p < 26 := ⟨k % 26, by rw [Int.tmod_eq_emod_of_nonneg (by omega)]; omega, by omega⟩
        obtain ⟨q, hq, hq2⟩ : ∃ q : Nat, (k : Int).tdiv 26 = (q : Int) ∧ q < 8 := ⟨k / 26, by rw [Int.tdiv_eq_ediv_of_nonneg (by omega)]; omega, by omega⟩
        have e1 : IntKind.i64.wrap (p : Int) = p := by rw [IntKind.wrap_i64]; omega
        have e2 : IntKind.i64.wrap (97 + (p : Int)) = 97 + p := by rw [IntKind.wrap_i64]; omega
        have e3 : IntKind.u8.wrap (97 + (p : Int)) = 97 + p := by simp only [IntKind.wrap, IntKind.signed, IntKind.bits]; simp; omega
        have e4 : IntKind.i64.wrap (q : Int) = q := by rw [IntKind.wrap_i64]; omega
        have e5 : IntKind.i64.wrap (97 + (q : Int)) = 97 + q := by rw [IntKind.wrap_i64]; omega
        have e6 : IntKind.u8.wrap (97 + (q : Int)) = 97 + q := by simp only [IntKind.wrap, IntKind.signed, IntKind.bits]; simp; omega
        have v1 : V (BitVec.ofNat 8 (97 + p)) = 97 + (p : Int) := by rw [V_small _ (by omega)]; simp
        have v2 : V (BitVec.ofNat 8 (97 + q)) = 97 + (q : Int) := by rw [V_small _ (by omega)]; simp
        have sn : Seen (wr.alloc (.cells #[.int .u8 (97 + (p : Int)), .int .u8 (97 + (q : Int))] 5)) (some ⟨wr.heap.size, 0, none⟩) 2 [BitVec.ofNat 8 (97 + p), BitVec.ofNat 8 (97 + q)] := by
          have h := seen_new wr [BitVec.ofNat 8 (97 + p), BitVec.ofNat 8 (97 + q)] 5 (0, 0) (by simp [maxLen])
          simp only [cellsOf, List.map_cons, List.map_nil, v1, v2] at h
          exact h
        have tx := run_to_text _ _ 2 2 _ sn
        have bA : Below wr.heap.size wr (wr.alloc (.cells #[.int .u8 (97 + (p : Int)), .int .u8 (97 + (q : Int))] 5)) := (Below.refl _ wr).alloc (Nat.le_refl _) _
        have TA : Hid (Two w0 (wr.alloc (.cells #[.int .u8 (97 + (p : Int)), .int .u8 (97 + (q : Int))] 5)) N N' L1 L1 B0) := hT.out.below bA
        have hsz : (textOf [BitVec.ofNat 8 (97 + p), BitVec.ofNat 8 (97 + q)]).size = 2 := by simp [textOf, ByteArray.size]
        generalize textOf [BitVec.ofNat 8 (97 + p), BitVec.ofNat 8 (97 + q)] = tt at *
        have HSZ : Hid (tt.size = 2) := hsz
        have hc1 : ¬ (9223372036854775807 < (((⟨#[110]⟩ : ByteArray).size + tt.size : Nat) : Int)) := by rw [hsz]; decide
        have hc2 : ¬ (9223372036854775807 < ((1 : Int) + (tt.size : Int))) := by omega
        have hc3 : ¬ ((9223372036854775807 : Int) < (((1 + tt.size : Nat)) : Int)) := by omega
        clear v1 v2 sn bA hT
        go_wp2_with fail
        refine (TA.out.open_ _ ?hs).mono ?_
        case hs => have h1 : ((⟨#[110]⟩ : ByteArray)).size = 1 := rfl; have := HSZ.out; rw [ByteArray.size_append]; unfold maxLen; omega
        rintro e w4 ⟨rfl, h4⟩
        have H4 : Hid _ := h4
        clear h4 TA tx hc1 hc2 hc3 hsz
        go_wp2_with fail
        refine (Two.qopen H4.out _ ?hs).mono ?_
        case hs => have h1 : ((⟨#[110]⟩ : ByteArray)).size = 1 := rfl; have := HSZ.out; rw [ByteArray.size_append]; unfold maxLen; omega
        rintro e w5 ⟨rfl, h5⟩
        have H5 : Hid _ := h5
        clear h5 H4 e1 e2 e3 e4 e5 e6 hp hq
        go_wp2
        go_roundw
        case rel => exact ⟨k + 1, _, by omega, by go_num, H5⟩
        case measure => simp only [intOf]; omega
      · obtain rfl : k = 201 := by omega
        clear hlt
        go_wp2
        go_ret
        exact ⟨rfl, _, hT.out⟩
  have g8 : (kd == 8) = false := by rw [beq_eq_false_iff_ne]; exact e8
  have g11 : (kd == 11) = false := by rw [beq_eq_false_iff_ne]; exact e11
  go_wp2
  go_ret
  exact ⟨rfl, _, H1.out.two⟩
end Go.Proofs.YtdchnfggmkokhaaGreatDoor
