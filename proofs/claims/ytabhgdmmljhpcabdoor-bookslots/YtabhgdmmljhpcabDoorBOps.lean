/- Package book: Add, Take, Hold, Free. -/
import Derived.Test.YtabhgdmmljhpcabDoorBChange
namespace Go.Proofs.YtabhgdmmljhpcabDoor
open Go.RowKit
attribute [local go_sem] Oper.semAt_some
set_option linter.unusedVariables false

/-- What becomes of a book behind a call that changes it. -/
def BTold (w w' : World) (base N : Nat) (sv : Value) (L' : List Acc) : Prop := ∃ sv', BookIn w' base N sv' L' ∧ Chg w w' N sv.ownBlock ∧ (∀ k, sv'.ownBlock = some k → sv.ownBlock = some k ∨ w.heap.size ≤ k)
theorem BTold.same {w w' : World} {base N : Nat} {sv : Value} {L : List Acc} (h : BookIn w base N sv L) (b : Below w.heap.size w w') : BTold w w' base N sv L := ⟨sv, h.below b, Chg.of_below b _ _, fun k e => .inl e⟩
theorem BTold.after {w w1 w' : World} {base N : Nat} {sv : Value} {L' : List Acc} (b : Below w.heap.size w w1) (h : BTold w1 w' base N sv L') : BTold w w' base N sv L' := by
  obtain ⟨sv', h1, h2, h3⟩ := h
  exact ⟨sv', h1, (Chg.of_below b _ _).trans h2 (fun g e => .inl e), fun k e => (h3 k e).imp id (fun q => Nat.le_trans b.size q)⟩
/-- Money comes. -/
def addP (n : Int) (p : Acc) : Int × Acc := if n < 1 then (47, p) else if 9223372036854775807 - n < p.amt then (43, p) else (0, ⟨p.nm, p.amt + n, p.by_⟩)
/-- Money goes. -/
def takeP (n : Int) (p : Acc) : Int × Acc := if n < 1 then (47, p) else if p.amt < n then (42, p) else (0, ⟨p.nm, p.amt - n, p.by_⟩)
/-- Somebody holds it. -/
def holdP (s : ByteArray) (p : Acc) : Int × Acc := if s.size = 0 ∨ 65536 < s.size then (1, p) else if p.by_.size ≠ 0 ∧ p.by_ ≠ s then (5, p) else (0, ⟨p.nm, p.amt, s⟩)
/-- Nobody does. -/
def freeP (s : ByteArray) (p : Acc) : Int × Acc := if s.size = 0 ∨ p.by_ ≠ s then (5, p) else (0, ⟨p.nm, p.amt, ⟨#[]⟩⟩)
theorem cells3_of {W : World} {K : Nat} {a b c : Value} {t : TypeId} (h : W.heap[K]? = some (.cells #[a, b, c] t (0, 0))) : W.cell? ⟨K, 0, none⟩ = some a ∧ W.cell? ⟨K, 1, none⟩ = some b ∧ W.cell? ⟨K, 2, none⟩ = some c ∧ (∀ i, W.frozen? ⟨K, i, none⟩ = false) := by
  refine ⟨?_, ?_, ?_, fun i => ?_⟩ <;> simp [World.cell?, World.frozen?, h]
theorem set_of3 {W : World} {K i : Nat} {cs : Array Value} {v : Value} {t : TypeId} (h : W.heap[K]? = some (.cells cs t (0, 0))) : (W.setCell ⟨K, i, none⟩ v).heap[K]? = some (.cells (cs.setIfInBounds i v) t (0, 0)) := by
  rw [setCell_eq_setRow W K i cs t (0, 0) v h]
  exact setRow_heap _ _ _ _ _ _ h
/-- Something is done with the account of a name. -/
def onP (L : List Acc) (t : ByteArray) (f : Acc → Int × Acc) : Int × List Acc := match getA L t with | none => (40, L) | some p => if (f p).1 = 0 then (0, upd L (f p).2) else ((f p).1, L)
theorem on_any {w : World} {base N : Nat} {sv : Value} {L : List Acc} (h : BookIn w base N sv L) (t : ByteArray) (fn : Nat) (c0 : Value) (f : Acc → Int × Acc) (hcf : ∀ args w, (callFunc fn args).run Tryd.prog w = .ok (.enter fn args) w)
    (hd : ∀ p, getA L t = some p → DoesTo w fn #[c0] p (f p).1 (f p).2) (hf : ∀ p, getA L t = some p → (f p).1 = 0 → (f p).2.nm = p.nm ∧ (0 ≤ (f p).2.amt ∧ (f p).2.amt ≤ 9223372036854775807) ∧ (f p).2.by_.size ≤ 65536) :
    Calls Tryd.prog 28 #[.pointer (some ⟨N, 0, none⟩), .string t, .func (.func fn) #[] #[c0]] w fun e w' => e = .returned (.int .i64 (onP L t f).1) ∧ BTold w w' base N sv (onP L t f).2 := by
  unfold onP
  cases hg : getA L t with
  | none =>
    refine (change_none h t ((getA_none _ _).1 hg) _).mono ?_
    rintro e w' ⟨rfl, b⟩
    exact ⟨rfl, BTold.same h b⟩
  | some p =>
    simp only
    by_cases hz : (f p).1 = 0
    · rw [if_pos hz]
      obtain ⟨q1, q2, q3⟩ := hf p hg hz
      have hd' := hd p hg
      rw [hz] at hd'
      refine (change_yes h t p hg fn c0 (f p).2 hd' hcf q1 q2 q3).mono ?_
      rintro e w' ⟨rfl, hb, hc⟩
      exact ⟨rfl, sv, hb, hc, fun k e => .inl e⟩
    · rw [if_neg hz]
      refine (change_no h t p hg fn c0 (f p).1 (f p).2 hz (hd p hg) hcf).mono ?_
      rintro e w' ⟨rfl, b⟩
      exact ⟨rfl, BTold.same h b⟩
theorem addP_fit (n : Int) (hn : -9223372036854775808 ≤ n ∧ n ≤ 9223372036854775807) (p : Acc) (q1 : 0 ≤ p.amt) (q2 : p.amt ≤ 9223372036854775807) (q3 : p.by_.size ≤ 65536) (hz : (addP n p).1 = 0) : (addP n p).2.nm = p.nm ∧ (0 ≤ (addP n p).2.amt ∧ (addP n p).2.amt ≤ 9223372036854775807) ∧ (addP n p).2.by_.size ≤ 65536 := by
  unfold addP at hz ⊢
  split at hz
  · simp at hz
  · split at hz
    · simp at hz
    · rename_i h1 h2
      rw [if_neg h1, if_neg h2]
      exact ⟨rfl, ⟨by simp only; omega, by simp only; omega⟩, q3⟩
theorem takeP_fit (n : Int) (hn : -9223372036854775808 ≤ n ∧ n ≤ 9223372036854775807) (p : Acc) (q1 : 0 ≤ p.amt) (q2 : p.amt ≤ 9223372036854775807) (q3 : p.by_.size ≤ 65536) (hz : (takeP n p).1 = 0) : (takeP n p).2.nm = p.nm ∧ (0 ≤ (takeP n p).2.amt ∧ (takeP n p).2.amt ≤ 9223372036854775807) ∧ (takeP n p).2.by_.size ≤ 65536 := by
  unfold takeP at hz ⊢
  split at hz
  · simp at hz
  · split at hz
    · simp at hz
    · rename_i h1 h2
      rw [if_neg h1, if_neg h2]
      exact ⟨rfl, ⟨by simp only; omega, by simp only; omega⟩, q3⟩
set_option maxRecDepth 100000 in
theorem does_add (w : World) (bx : Nat) (n : Int) (hb : w.cell? ⟨bx, 0, none⟩ = some (.int .i64 n)) (hn : -9223372036854775808 ≤ n ∧ n ≤ 9223372036854775807) (p : Acc) (hp : 0 ≤ p.amt ∧ p.amt ≤ 9223372036854775807) :
    DoesTo w 29 #[.pointer (some ⟨bx, 0, none⟩)] p (addP n p).1 (addP n p).2 := by
  intro K W bel hK hW
  obtain ⟨k0, k1, k2, kf⟩ := cells3_of hW
  have hbx : W.cell? ⟨bx, 0, none⟩ = some (.int .i64 n) := (bel.cell (p := ⟨bx, 0, none⟩) (World.block_lt_of_cell? w _ hb)).trans hb
  have HB : Hid (Below w.heap.size w W) := bel
  have HW : Hid (W.heap[K]? = some (.cells #[.string p.nm, .int .i64 p.amt, .string p.by_] 42 (0, 0))) := hW
  have kf1 := kf 1
  unfold addP
  clear hb bel hW kf
  obtain ⟨nm, amt, by_⟩ := p
  simp only at *
  by_cases h1 : n < 1
  · rw [if_pos h1]
    go_enter Tryd.func29, Tryd.ntmps29
    go_wp2
    go_ret
    exact ⟨rfl, HB.out, HW.out⟩
  · rw [if_neg h1]
    by_cases h2 : 9223372036854775807 - n < amt
    · rw [if_pos h2]
      go_enter Tryd.func29, Tryd.ntmps29
      go_wp2
      go_quiet (fail)
      go_wp2
      go_ret
      exact ⟨rfl, below_drewN' HB.out _, HW.out⟩
    · rw [if_neg h2]
      go_enter Tryd.func29, Tryd.ntmps29
      go_wp2
      go_quiet (fail)
      go_wp2
      go_region
      go_wp2
      go_ret
      refine ⟨rfl, ?_, ?_⟩
      · refine Below.setCell (below_drewN' HB.out _) ?_ _
        exact hK
      · exact set_of3 (W := W) HW.out
set_option maxRecDepth 100000 in
theorem add_any {w : World} {base N : Nat} {sv : Value} {L : List Acc} (h : BookIn w base N sv L) (t : ByteArray) (n : Int) (hn : -9223372036854775808 ≤ n ∧ n ≤ 9223372036854775807) :
    Calls Tryd.prog 18 #[.pointer (some ⟨N, 0, none⟩), .string t, .int .i64 n] w fun e w' => e = .returned (.int .i64 (onP L t (addP n)).1) ∧ BTold w w' base N sv (onP L t (addP n)).2 := by
  have b0 : Below w.heap.size w (w.alloc (.cells #[.int .i64 n] 2)) := (Below.refl _ w).alloc (Nat.le_refl _) _
  have HC := on_any (h.below b0) t 29 (.pointer (some ⟨w.heap.size, 0, none⟩)) (addP n) (fun args w => by kernel_rfl) (fun p hp => does_add _ w.heap.size n (by rw [World.cell?_alloc_mark]; rfl) hn p (by obtain ⟨_, _, _, q1, q2, _⟩ := h.fit.got hp; exact ⟨q1, q2⟩)) (fun p hp => by
    obtain ⟨_, _, _, q1, q2, q3⟩ := h.fit.got hp
    exact addP_fit n hn p q1 q2 q3)
  have B0 : Hid (Below w.heap.size w (w.alloc (.cells #[.int .i64 n] 2))) := b0
  clear b0 h
  go_enter Tryd.func18, Tryd.ntmps18
  go_wp2_with fail
  refine HC.mono ?_
  rintro e w1 ⟨rfl, ht⟩
  have HT : Hid (BTold _ w1 base N sv (onP L t (addP n)).2) := ht
  clear ht HC
  go_wp2
  go_ret
  exact ⟨rfl, HT.out.after B0.out⟩
set_option maxRecDepth 100000 in
theorem does_take (w : World) (bx : Nat) (n : Int) (hb : w.cell? ⟨bx, 0, none⟩ = some (.int .i64 n)) (hn : -9223372036854775808 ≤ n ∧ n ≤ 9223372036854775807) (p : Acc) (hp : 0 ≤ p.amt ∧ p.amt ≤ 9223372036854775807) :
    DoesTo w 30 #[.pointer (some ⟨bx, 0, none⟩)] p (takeP n p).1 (takeP n p).2 := by
  intro K W bel hK hW
  obtain ⟨k0, k1, k2, kf⟩ := cells3_of hW
  have hbx : W.cell? ⟨bx, 0, none⟩ = some (.int .i64 n) := (bel.cell (p := ⟨bx, 0, none⟩) (World.block_lt_of_cell? w _ hb)).trans hb
  have HB : Hid (Below w.heap.size w W) := bel
  have HW : Hid (W.heap[K]? = some (.cells #[.string p.nm, .int .i64 p.amt, .string p.by_] 42 (0, 0))) := hW
  have kf1 := kf 1
  unfold takeP
  clear hb bel hW kf
  obtain ⟨nm, amt, by_⟩ := p
  simp only at *
  by_cases h1 : n < 1
  · rw [if_pos h1]
    go_enter Tryd.func30, Tryd.ntmps30
    go_wp2
    go_ret
    exact ⟨rfl, HB.out, HW.out⟩
  · rw [if_neg h1]
    by_cases h2 : amt < n
    · rw [if_pos h2]
      go_enter Tryd.func30, Tryd.ntmps30
      go_wp2
      go_quiet (fail)
      go_wp2
      go_ret
      exact ⟨rfl, below_drewN' HB.out _, HW.out⟩
    · rw [if_neg h2]
      go_enter Tryd.func30, Tryd.ntmps30
      go_wp2
      go_quiet (fail)
      go_wp2
      go_region
      go_wp2
      go_ret
      refine ⟨rfl, ?_, ?_⟩
      · refine Below.setCell (below_drewN' HB.out _) ?_ _
        exact hK
      · exact set_of3 (W := W) HW.out
set_option maxRecDepth 100000 in
theorem take_any {w : World} {base N : Nat} {sv : Value} {L : List Acc} (h : BookIn w base N sv L) (t : ByteArray) (n : Int) (hn : -9223372036854775808 ≤ n ∧ n ≤ 9223372036854775807) :
    Calls Tryd.prog 19 #[.pointer (some ⟨N, 0, none⟩), .string t, .int .i64 n] w fun e w' => e = .returned (.int .i64 (onP L t (takeP n)).1) ∧ BTold w w' base N sv (onP L t (takeP n)).2 := by
  have b0 : Below w.heap.size w (w.alloc (.cells #[.int .i64 n] 2)) := (Below.refl _ w).alloc (Nat.le_refl _) _
  have HC := on_any (h.below b0) t 30 (.pointer (some ⟨w.heap.size, 0, none⟩)) (takeP n) (fun args w => by kernel_rfl) (fun p hp => does_take _ w.heap.size n (by rw [World.cell?_alloc_mark]; rfl) hn p (by obtain ⟨_, _, _, q1, q2, _⟩ := h.fit.got hp; exact ⟨q1, q2⟩)) (fun p hp => by
    obtain ⟨_, _, _, q1, q2, q3⟩ := h.fit.got hp
    exact takeP_fit n hn p q1 q2 q3)
  have B0 : Hid (Below w.heap.size w (w.alloc (.cells #[.int .i64 n] 2))) := b0
  clear b0 h
  go_enter Tryd.func19, Tryd.ntmps19
  go_wp2_with fail
  refine HC.mono ?_
  rintro e w1 ⟨rfl, ht⟩
  have HT : Hid (BTold _ w1 base N sv (onP L t (takeP n)).2) := ht
  clear ht HC
  go_wp2
  go_ret
  exact ⟨rfl, HT.out.after B0.out⟩
end Go.Proofs.YtabhgdmmljhpcabDoor
