/- The reference of package net: how it lies in memory, Look, To. -/
import Derived.Test.YtccmehbdnnelhaaNLet
namespace Go.Proofs.Ytccmehbdnnelhaa
open Go.RowKit Go.Maps
set_option linter.unusedVariables false

/-- The reference's net in memory. -/
structure RefIn (w : World) (base R : Nat) (v : Value) (ms : List OpN) : Prop where
  hR : w.heap[R]? = some (.cells #[v] 28 (0, 0))
  bR : base ≤ R
  row : w.ownsRow base 48 3 v ms.length (cells3 ms)
  dat : ∀ q ∈ ms, DataAt w (.slice q.a q.b.length q.c) q.b
  len : ms.length ≤ 10000
section
variable {w w' : World} {base R : Nat} {v : Value} {ms : List OpN}
theorem RefIn.lt (h : RefIn w base R v ms) : R < w.heap.size := (Array.getElem?_eq_some_iff.1 h.hR).1
theorem RefIn.below (h : RefIn w base R v ms) (b : Below w.heap.size w w') : RefIn w' base R v ms :=
  ⟨(b.block R h.lt).trans h.hR, h.bR, owns_kept h.row (fun g e => b.block g (row_lt4 h.row e).2), fun q hq => (h.dat q hq).below b, h.len⟩
theorem RefIn.c0 (h : RefIn w base R v ms) : w.cell? ⟨R, 0, none⟩ = some v := by have := h.hR; simp [World.cell?, this]
theorem RefIn.form (h : RefIn w base R v ms) : ∃ a c, v = .slice a ms.length c := by
  rcases h.row.2 with ⟨e1, e2⟩ | ⟨g, c, cur, e1, _⟩
  · exact ⟨none, 0, by rw [e1, e2]⟩
  · exact ⟨_, c, e1⟩
theorem RefIn.at {a : Option Addr} {c : Nat} (h : RefIn w base R (.slice a ms.length c) ms) {i : Nat} (hi : i < ms.length) : ∃ g, a = some ⟨g, 0, none⟩ ∧ w.cell? ⟨g, i * 3, none⟩ = some (.int .i64 ms[i].f) ∧ w.cell? ⟨g, i * 3 + 1, none⟩ = some (.int .i64 ms[i].n) ∧ w.cell? ⟨g, i * 3 + 2, none⟩ = some (.slice ms[i].a ms[i].b.length ms[i].c) := by
  obtain ⟨g, c', e, _, _⟩ := h.row.form (by omega)
  cases e
  obtain ⟨q0, q1, q2⟩ := cells3_at ms i hi
  have k0 := h.row.cellAt (i * 3) (by omega)
  have k1 := h.row.cellAt (i * 3 + 1) (by omega)
  have k2 := h.row.cellAt (i * 3 + 2) (by omega)
  exact ⟨g, rfl, k0.trans q0, k1.trans q1, k2.trans q2⟩
end
/-- What the reference's Look answers. -/
def RLookTold (ms : List OpN) (k : Int) (e : Ending) : Prop :=
  ((k < 0 ∨ (ms.length : Int) ≤ k) ∧ e = .returned (.tuple #[.agg #[.int .i64 0, .int .i64 0, .slice none 0 0], .int .i64 1])) ∨
  ∃ (i : Nat) (hi : i < ms.length), k = (i : Int) ∧ e = .returned (.tuple #[.agg #[.int .i64 ms[i].f, .int .i64 ms[i].n, .slice ms[i].a ms[i].b.length ms[i].c], .int .i64 0])
theorem row3r (w : World) : (w.alloc (.cells #[.int .i64 0, .int .i64 0, .slice none 0 0] 48)).heap[w.heap.size]? = some (.cells #[.int .i64 0, .int .i64 0, .slice none 0 0] 48 (0, 0)) := heap_alloc_new w _
set_option maxRecDepth 100000 in
set_option maxHeartbeats 1600000 in
theorem rlook_any {w : World} {base R : Nat} {v : Value} {ms : List OpN} (h : RefIn w base R v ms) (k : Int) : Calls Try.prog 22 #[.pointer (some ⟨R, 0, none⟩), .int .i64 k] w fun e w' => RLookTold ms k e ∧ Below w.heap.size w w' := by
  have bA := (Below.refl w.heap.size w).alloc (Nat.le_refl _) (.cells #[.int .i64 0, .int .i64 0, .slice none 0 0] 48)
  have r0 := row3r w
  have hA := h.below bA
  obtain ⟨wA, eA⟩ : ∃ wA, w.alloc (.cells #[.int .i64 0, .int .i64 0, .slice none 0 0] 48) = wA := ⟨_, rfl⟩
  rw [eA] at bA r0 hA
  have R0 : Hid (wA.heap[w.heap.size]? = some (.cells #[.int .i64 0, .int .i64 0, .slice none 0 0] 48 (0, 0))) := r0
  have BA : Hid (Below w.heap.size w wA) := bA
  obtain ⟨a, c, rfl⟩ := h.form
  have q := hA.c0
  by_cases hk : k < 0
  · clear h hA bA r0 q
    go_enter Try.func22, Try.ntmps22
    go_wp2_with (first | (rw [eA]) | (refine wpList_store_row rfl 48 (.tmp 4) (.tmp 17) rfl w.heap.size #[.int .i64 0, .int .i64 0, .slice none 0 0] rfl rfl 48 _ R0.out (by kernel_rfl) rfl (by simp [Value.oneCell']) ?_))
    exact bodyPost_ret (results_rowN rfl _ _ w.heap.size 48 _ _ _ rfl (setRow_heap _ _ _ _ _ _ R0.out) Try.underlying48 rfl (by kernel_rfl)) rfl ⟨.inl ⟨.inl hk, rfl⟩, rowN_below BA.out (Nat.le_refl _)⟩
  · by_cases hl : (ms.length : Int) ≤ k
    · have HL : Hid ((ms.length : Int) ≤ k) := hl
      obtain ⟨m, em⟩ : ∃ m, ms.length = m := ⟨_, rfl⟩
      rw [em] at q hl
      clear h hA bA r0 em
      go_enter Try.func22, Try.ntmps22
      go_wp2_with (first | (rw [eA]) | (refine wpList_store_row rfl 48 (.tmp 4) (.tmp 17) rfl w.heap.size #[.int .i64 0, .int .i64 0, .slice none 0 0] rfl rfl 48 _ R0.out (by kernel_rfl) rfl (by simp [Value.oneCell']) ?_))
      exact bodyPost_ret (results_rowN rfl _ _ w.heap.size 48 _ _ _ rfl (setRow_heap _ _ _ _ _ _ R0.out) Try.underlying48 rfl (by kernel_rfl)) rfl ⟨.inl ⟨.inr HL.out, rfl⟩, rowN_below BA.out (Nat.le_refl _)⟩
    · obtain ⟨i, rfl⟩ : ∃ i : Nat, k = (i : Int) := ⟨k.toNat, by omega⟩
      have hi : i < ms.length := by omega
      obtain ⟨g, rfl, q0, q1, q2⟩ := hA.at hi
      obtain ⟨o, eo⟩ : ∃ o, ms[i] = o := ⟨_, rfl⟩
      rw [eo] at q0 q1 q2
      have EO : Hid (∃ h : i < ms.length, ms[i] = o) := ⟨hi, eo⟩
      obtain ⟨m, em⟩ : ∃ m, ms.length = m := ⟨_, rfl⟩
      rw [em] at q hl hi
      clear h hA bA r0 em eo
      go_enter Try.func22, Try.ntmps22
      go_wp2_with (first | (rw [eA]) | (refine wpList_store_row rfl 48 (.tmp 4) (.tmp 24) rfl w.heap.size #[.int .i64 o.f, .int .i64 o.n, .slice o.a o.b.length o.c] rfl rfl 48 _ R0.out (by kernel_rfl) rfl (by simp [Value.oneCell']) ?_))
      obtain ⟨h1, h2⟩ := EO.out
      exact bodyPost_ret (results_rowN rfl _ _ w.heap.size 48 _ _ _ rfl (setRow_heap _ _ _ _ _ _ R0.out) Try.underlying48 rfl (by kernel_rfl)) rfl ⟨.inr ⟨i, h1, rfl, by rw [h2]; rfl⟩, rowN_below BA.out (Nat.le_refl _)⟩
theorem less_byR {k n : Nat} (h : k < n) : n - (intOf (.int .i64 ((k : Int) + 1))).toNat < n - (intOf (.int .i64 (k : Int))).toNat := by
  simp only [intOf]
  omega
set_option maxRecDepth 100000 in
set_option maxHeartbeats 1600000 in
theorem rto_any {w : World} {base R : Nat} {v : Value} {ms : List OpN} (h : RefIn w base R v ms) (k : Int) : Calls Try.prog 25 #[.pointer (some ⟨R, 0, none⟩), .int .i64 k] w fun e w' => e = .returned (.int .i64 (ms.countP (fun o => decide (o.n = k)) : Nat)) ∧ w' = w := by
  have q := h.c0
  obtain ⟨a, c, rfl⟩ := h.form
  obtain ⟨m, em⟩ : ∃ m, ms.length = m := ⟨_, rfl⟩
  have EM : Hid (ms.length = m ∧ m ≤ 10000) := ⟨em, by have := h.len; omega⟩
  have H : Hid (RefIn w base R (.slice a ms.length c) ms) := h
  rw [em] at q
  clear h em
  go_enter Try.func25, Try.ntmps25
  go_wp2
  go_loopw [5, 6] (fun cv iv wr => ∃ (i n : Nat), cv = .int .i64 (n : Int) ∧ iv = .int .i64 (i : Int) ∧ Hid (i ≤ m ∧ n ≤ i ∧ n = (ms.take i).countP (fun o => decide (o.n = k))) ∧ wr = w) (fun _ iv _ => 10000 - (intOf iv).toNat)
  case atStart => exact ⟨0, 0, rfl, rfl, ⟨Nat.zero_le _, Nat.le_refl _, rfl⟩, rfl⟩
  case round =>
    obtain ⟨i, n, rfl, rfl, hi, rfl⟩ := hrel
    by_cases hlt : i < m
    · have him : i < ms.length := by have := EM.out; omega
      obtain ⟨g, ea, q0, q1, q2⟩ := H.out.at him
      subst ea
      clear q0 q2
      obtain ⟨o, eo⟩ : ∃ o, ms[i] = o := ⟨_, rfl⟩
      rw [eo] at q1
      have CN : Hid ((ms.take (i + 1)).countP (fun o => decide (o.n = k)) = n + if o.n = k then 1 else 0) := by
        show _ = _
        rw [List.take_succ_eq_append_getElem him, List.countP_append, List.countP_singleton, eo, ← hi.out.2.2]
        simp
      have HI : Hid (i < m ∧ i < 10000 ∧ n ≤ i) := ⟨hlt, by have := EM.out; omega, hi.out.2.1⟩
      have h1 : (i : Int) < (m : Int) := by omega
      have wi : IntKind.i64.wrap ((i : Int) + 1) = (i : Int) + 1 := by rw [IntKind.wrap_i64]; have := HI.out; omega
      have wn : IntKind.i64.wrap ((n : Int) + 1) = (n : Int) + 1 := by rw [IntKind.wrap_i64]; have := HI.out; omega
      obtain ⟨on, eon⟩ : ∃ on, o.n = on := ⟨_, rfl⟩
      rw [eon] at q1 CN
      clear eo him eon
      by_cases hx : on = k
      · subst hx
        have CN2 : Hid (n + 1 = (ms.take (i + 1)).countP (fun o => decide (o.n = on))) := by show _ = _; rw [CN.out, if_pos rfl]
        have e1 : (on == on) = true := by simp
        clear CN
        go_wp2
        go_roundw
        case rel => exact ⟨i + 1, n + 1, rfl, rfl, ⟨by have := HI.out; omega, by have := HI.out; omega, CN2.out⟩, by first | rfl | trivial⟩
        case measure => exact less_byR HI.out.2.1
      · have CN2 : Hid (n = (ms.take (i + 1)).countP (fun o => decide (o.n = k))) := by show _ = _; rw [CN.out, if_neg hx]; omega
        have e1 : (on == k) = false := by simp [hx]
        clear CN
        go_wp2
        go_roundw
        case rel => exact ⟨i + 1, n, rfl, rfl, ⟨by have := HI.out; omega, by have := HI.out; omega, CN2.out⟩, by first | rfl | trivial⟩
        case measure => exact less_byR HI.out.2.1
    · have h1 : ¬ ((i : Int) < (m : Int)) := by omega
      have FIN : Hid (n = ms.countP (fun o => decide (o.n = k))) := by
        show _ = _
        rw [hi.out.2.2, List.take_of_length_le (by have := EM.out; omega)]
      clear hlt
      go_wp2
      go_ret
      exact ⟨by rw [← FIN.out]; rfl, rfl⟩
end Go.Proofs.Ytccmehbdnnelhaa

namespace Go.Proofs.Ytccmehbdnnelhaa
open Go.RowKit Go.Maps
set_option linter.unusedVariables false

theorem tMP : (28 : TypeId) ≠ 69 := by decide
theorem tMN : (28 : TypeId) ≠ 38 := by decide
theorem tM5 : (28 : TypeId) ≠ 5 := by decide
theorem tMR : (28 : TypeId) ≠ 48 := by decide
/-- What is none of the reference's is as it was. -/
def RKeep (base : Nat) (w w' : World) : Prop := Below base w w' ∧ w.heap.size ≤ w'.heap.size ∧ ∀ (g : Nat) (o : Obj), w.heap[g]? = some o → (∀ cs z, o ≠ .cells cs 48 z) → (∀ cs z, o ≠ .cells cs 28 z) → w'.heap[g]? = w.heap[g]?
section
variable {w w' : World} {base R N T : Nat} {v : Value} {ms : List OpN} {L : List Post}
theorem RKeep.trans {a b c : World} (h : RKeep base a b) (k : RKeep base b c) : RKeep base a c :=
  ⟨h.1.trans k.1, Nat.le_trans h.2.1 k.2.1, fun g o e h1 h2 => (k.2.2 g o ((h.2.2 g o e h1 h2).trans e) h1 h2).trans (h.2.2 g o e h1 h2)⟩
theorem RKeep.of_below {a b : World} (h : Below a.heap.size a b) (hb : base ≤ a.heap.size) : RKeep base a b := ⟨h.mono hb, h.size, fun g o e _ _ => h.block g (Array.getElem?_eq_some_iff.1 e).1⟩
theorem RefIn.nk (h : RefIn w base R v ms) (k : NKeep base w w') : RefIn w' base R v ms := by
  refine ⟨(k.2.2 R _ _ _ h.hR tMP tMN).trans h.hR, h.bR, owns_kept h.row (fun g e => ?_), fun q hq => dataAt_nk (h.dat q hq) k, h.len⟩
  obtain ⟨cur, hc⟩ := row_kind h.row e
  exact k.2.2 g _ _ _ hc tRP tRN
theorem dataAt_rk {b : List (BitVec 8)} (h : DataAt w v b) (k : RKeep base w w') : DataAt w' v b :=
  h.keep fun g ⟨cs, z, e⟩ => k.2.2 g _ e (fun cs' z' x => by injection x with _ x _; exact tR5 x.symm) (fun cs' z' x => by injection x with _ x _; exact tM5 x.symm)
theorem NetS.rk (h : NetS w base N L T) (k : RKeep base w w') : NetS w' base N L T := by
  refine ⟨h.1, ?_⟩
  have kN : ∀ (q : Nat) (cs : Array Value) (z : Nat × Nat), w.heap[q]? = some (.cells cs 38 z) → w'.heap[q]? = w.heap[q]? := fun q cs z e =>
    k.2.2 q _ e (fun cs' z' x => by injection x with _ x _; exact tRN x.symm) (fun cs' z' x => by injection x with _ x _; exact tMN x.symm)
  rcases h.2 with ⟨h1, e⟩ | ⟨B, bx, h1⟩
  · exact .inl ⟨⟨(kN N _ _ h1.1).trans h1.1, h1.2⟩, e⟩
  · refine .inr ⟨B, bx, { h1 with hN := (kN N _ _ h1.hN).trans h1.hN, hM := ?_, row := fun j => ?_, dat := fun p hp => dataAt_rk (h1.dat p hp) k }⟩
    · obtain ⟨es, cl, hm⟩ := h1.hM.isMap
      exact h1.hM.kept (k.2.2 B _ hm (fun cs z x => by cases x) (fun cs z x => by cases x))
    · refine owns_kept (h1.row j) (fun g eg => ?_)
      obtain ⟨cur, hc⟩ := row_kind (h1.row j) eg
      exact k.2.2 g _ hc (fun cs z x => by injection x with _ x _; exact tRP x.symm) (fun cs z x => by injection x with _ x _; exact tMP x.symm)
/-- One letter more: the append, and the store of what it answers. -/
theorem RefIn.grow (h : RefIn w base R v ms) (o : OpN) (hm : ms.length < 10000) (hd : DataAt w (.slice o.a o.b.length o.c) o.b) :
    ∃ g c w', (Builtin.append_ #[26, 26] 26 #[v, .slice (some ⟨w.heap.size, 0, none⟩) 1 1]).run Try.prog (w.alloc (.cells #[.int .i64 o.f, .int .i64 o.n, .slice o.a o.b.length o.c] 48)) = .ok (.slice (some ⟨g, 0, none⟩) (ms.length + 1) c) w' ∧
      w'.frozen? ⟨R, 0, none⟩ = false ∧ w'.cell? ⟨R, 0, none⟩ = some v ∧ RefIn (w'.setCell ⟨R, 0, none⟩ (.slice (some ⟨g, 0, none⟩) (ms.length + 1) c)) base R (.slice (some ⟨g, 0, none⟩) (ms.length + 1) c) (ms ++ [o]) ∧ RKeep base w (w'.setCell ⟨R, 0, none⟩ (.slice (some ⟨g, 0, none⟩) (ms.length + 1) c)) := by
  have ba := (Below.refl w.heap.size w).alloc (Nat.le_refl _) (.cells #[.int .i64 o.f, .int .i64 o.n, .slice o.a o.b.length o.c] 48)
  have hA := h.below ba
  have hnew := heap_alloc_new w (.cells #[.int .i64 o.f, .int .i64 o.n, .slice o.a o.b.length o.c] 48)
  obtain ⟨i0, hi, hz0, hz1, hz2⟩ := info_parts infoRL
  have bs : base ≤ w.heap.size := Nat.le_of_lt (Nat.lt_of_le_of_lt h.bR h.lt)
  obtain ⟨g, c, w', hr, o', gr, hat, hlt⟩ := run_append_lies (P := Try.prog) (w.alloc (.cells #[.int .i64 o.f, .int .i64 o.n, .slice o.a o.b.length o.c] 48)) 26 26 base 48 i0 _ 3 40 Try.underlying26 hi hz0 hz1 hz2 rfl (by omega) v ms.length _ hA.row
    ⟨w.heap.size, 0, none⟩ 1 1 [.int .i64 o.f, .int .i64 o.n, .slice o.a o.b.length o.c] (by rfl) (World.news_of_block (cs := #[.int .i64 o.f, .int .i64 o.n, .slice o.a o.b.length o.c]) (t := 48) (fr := (0, 0)) hnew) (fun u hu => by
      simp only [List.mem_cons, List.not_mem_nil, or_false] at hu
      rcases hu with rfl | rfl | rfl <;> rfl) (by omega) (by unfold maxLen; omega) (by omega) (by simp; omega) _ rfl
  have rowty : ∀ q, v.ownBlock = some q → ∃ cur, (w.alloc (.cells #[.int .i64 o.f, .int .i64 o.n, .slice o.a o.b.length o.c] 48)).heap[q]? = some (.cells cur 48 (0, 0)) := fun q e => row_kind hA.row e
  have keep : ∀ (q : Nat) (ob : Obj), (w.alloc (.cells #[.int .i64 o.f, .int .i64 o.n, .slice o.a o.b.length o.c] 48)).heap[q]? = some ob → (∀ cs z, ob ≠ .cells cs 48 z) → w'.heap[q]? = (w.alloc (.cells #[.int .i64 o.f, .int .i64 o.n, .slice o.a o.b.length o.c] 48)).heap[q]? := fun q ob e hne => gr.block q (Array.getElem?_eq_some_iff.1 e).1 (fun er => by
    obtain ⟨cs, e2⟩ := rowty q er.symm
    rw [e] at e2
    exact hne cs _ (Option.some.inj e2))
  have hR' : w'.heap[R]? = some (.cells #[v] 28 (0, 0)) := (keep R _ hA.hR (fun cs z x => by injection x with _ x _; exact tMR x)).trans hA.hR
  have be' : Below base w w' := (ba.mono bs).grown gr (Nat.le_trans bs (ba.mono bs).size) (fun j e => (row_lt4 hA.row e).1)
  have oth : ∀ q : Nat, q ≠ R → (w'.setCell ⟨R, 0, none⟩ (.slice (some ⟨g, 0, none⟩) (ms.length + 1) c)).heap[q]? = w'.heap[q]? := fun q hq => heap_setCell_other _ _ _ _ hq
  have hS := heap_setCell_same w' R 0 #[v] 28 (.slice (some ⟨g, 0, none⟩) (ms.length + 1) c) hR'
  have row' : w'.ownsRow base 48 3 (.slice (some ⟨g, 0, none⟩) (ms ++ [o]).length c) (ms ++ [o]).length (cells3 (ms ++ [o])) := by rw [cells3_snoc]; simpa using o'
  have dk : ∀ (x : Value) (b : List (BitVec 8)), DataAt w x b → DataAt (w'.setCell ⟨R, 0, none⟩ (.slice (some ⟨g, 0, none⟩) (ms.length + 1) c)) x b := fun x b hx => (hx.below ba).keep fun q ⟨cs, z, e⟩ => by
    rw [oth q (fun eq => by rw [eq, hA.hR] at e; injection e with e; injection e with _ e _; exact tM5 e)]
    exact keep q _ e (fun cs' z' x => by injection x with _ x _; exact tR5 x.symm)
  refine ⟨g, c, w', by simpa using hr, by simp [World.frozen?, hR'], by simp [World.cell?, hR'], ⟨by simpa using hS, h.bR, ?_, fun q hq => ?_, by simp; omega⟩, be'.setCell h.bR _, ?_, fun q ob e h1 h2 => ?_⟩
  · have := owns_kept (w' := w'.setCell ⟨R, 0, none⟩ (.slice (some ⟨g, 0, none⟩) (ms.length + 1) c)) row' (fun q eq => oth q (fun e => by
      obtain ⟨cur, hc⟩ := row_kind row' eq
      rw [e, hR'] at hc
      injection hc with hc
      injection hc with _ hc _
      exact tMR hc))
    simpa using this
  · rcases List.mem_append.1 hq with hq | hq
    · exact dk _ _ (h.dat q hq)
    · rw [List.mem_singleton.1 hq]
      exact dk _ _ hd
  · have := be'.size
    simp only [World.size_setCell]
    have := gr.size
    simp at this
    omega
  · have lt := (Array.getElem?_eq_some_iff.1 e).1
    have eA := (ba.block q lt).trans e
    rw [oth q (fun eq => by rw [eq, h.hR] at e; exact h2 _ _ (Option.some.inj e).symm), keep q ob eA h1, ba.block q lt]
end
end Go.Proofs.Ytccmehbdnnelhaa

namespace Go.Proofs.Ytccmehbdnnelhaa
open Go.RowKit Go.Maps
set_option linter.unusedVariables false

theorem cells3_app (l m : List OpN) : cells3 (l ++ m) = cells3 l ++ cells3 m := by simp [cells3]
theorem cells3_one {l : List OpN} : ∀ u ∈ cells3 l, u.oneCell' = true := by
  intro u hu
  unfold cells3 at hu
  obtain ⟨o, _, ho⟩ := List.mem_flatMap.1 hu
  simp only [List.mem_cons, List.not_mem_nil, or_false] at ho
  rcases ho with rfl | rfl | rfl <;> rfl
theorem addr_add (g o j : Nat) : (⟨g, o, none⟩ : Addr).add j = ⟨g, o + j, none⟩ := by unfold Addr.add; split <;> simp_all
section
variable {w : World} {base R : Nat} {ms : List OpN}
/-- The row without one letter: two appends into a new row, and the store of what they answer. -/
theorem RefIn.cut {g c : Nat} (h : RefIn w base R (.slice (some ⟨g, 0, none⟩) ms.length c) ms) {i : Nat} (hi : i < ms.length) :
    ∃ v1 w1 v2 w2, (Builtin.append_ #[26, 26] 26 #[.slice none 0 0, .slice (some ⟨g, 0, none⟩) i c]).run Try.prog w = .ok v1 w1 ∧ Below w.heap.size w w1 ∧
      (Builtin.append_ #[26, 26] 26 #[v1, .slice (some (if c = i + 1 then ⟨g, 0, none⟩ else ⟨g, (i + 1) * 3, none⟩)) (ms.length - (i + 1)) (c - (i + 1))]).run Try.prog w1 = .ok v2 w2 ∧ Below w.heap.size w w2 ∧
      w2.frozen? ⟨R, 0, none⟩ = false ∧ RefIn (w2.setCell ⟨R, 0, none⟩ v2) base R v2 (ms.eraseIdx i) ∧ (∀ q, v2.ownBlock = some q → w.heap.size ≤ q) ∧ RKeep base w (w2.setCell ⟨R, 0, none⟩ v2) := by
  obtain ⟨i0, hi0, hz0, hz1, hz2⟩ := info_parts infoRL
  have bs : base ≤ w.heap.size := Nat.le_of_lt (Nat.lt_of_le_of_lt h.bR h.lt)
  have lm := h.len
  have lcap : ms.length ≤ c := by
    rcases h.row.2 with ⟨e, _⟩ | ⟨g', c2, cur, e, _, _, hnc, _⟩
    · cases e
    · injection e with _ _ e3
      omega
  have cl := fun j (hj : j < ms.length * 3) => h.row.cellAt j (by omega)
  have lenT : (cells3 (ms.take i)).length = i * 3 := by rw [cells3_length]; simp; omega
  have lenD : (cells3 (ms.drop (i + 1))).length = (ms.length - (i + 1)) * 3 := by rw [cells3_length]; simp
  have eT : ∀ j, j < i * 3 → (cells3 ms)[j]? = (cells3 (ms.take i))[j]? := fun j hj => by
    conv => lhs; rw [← List.take_append_drop i ms, cells3_app]
    rw [List.getElem?_append_left (by omega)]
  have eD : ∀ j, (cells3 ms)[(i + 1) * 3 + j]? = (cells3 (ms.drop (i + 1)))[j]? := fun j => by
    conv => lhs; rw [← List.take_append_drop (i + 1) ms, cells3_app]
    have : (cells3 (ms.take (i + 1))).length = (i + 1) * 3 := by rw [cells3_length]; simp; omega
    rw [List.getElem?_append_right (by omega), this, Nat.add_sub_cancel_left]
  obtain ⟨v1, w1, r1, o1, g1, _⟩ := run_append_own (P := Try.prog) w w.heap.size 26 26 48 i0 _ 3 40 Try.underlying26 hi0 hz0 hz1 hz2 rfl (by omega) (.slice none 0 0) 0 [] (World.ownsRow_nil _ _ _ _)
    ⟨g, 0, none⟩ i c (cells3 (ms.take i)) lenT (fun j u hu => by
      have hj : j < i * 3 := by rw [← lenT]; exact (List.getElem?_eq_some_iff.1 hu).1
      rw [addr_add, Nat.zero_add]
      exact (cl j (by omega)).trans ((eT j hj).trans hu)) cells3_one (by unfold maxLen; omega) (by omega) (Nat.le_refl _)
  have b1 : Below w.heap.size w w1 := (Below.refl _ w).grown g1 (Nat.le_refl _) (fun k e => by cases e)
  have h1 := h.below b1
  have cl1 := fun j (hj : j < ms.length * 3) => h1.row.cellAt j (by omega)
  obtain ⟨v2, w2, r2, o2, g2, _⟩ := run_append_own (P := Try.prog) w1 w.heap.size 26 26 48 i0 _ 3 40 Try.underlying26 hi0 hz0 hz1 hz2 rfl (by omega) v1 _ _ o1
    (if c = i + 1 then ⟨g, 0, none⟩ else ⟨g, (i + 1) * 3, none⟩) (ms.length - (i + 1)) (c - (i + 1)) (cells3 (ms.drop (i + 1))) lenD (fun j u hu => by
      have hj : j < (ms.length - (i + 1)) * 3 := by rw [← lenD]; exact (List.getElem?_eq_some_iff.1 hu).1
      rw [if_neg (by omega), addr_add]
      exact (cl1 _ (by omega)).trans ((eD j).trans hu)) cells3_one (by unfold maxLen; omega) (by omega) b1.size
  have b2 : Below w.heap.size w w2 := b1.grown g2 b1.size (fun k e => (row_lt4 o1 e).1)
  have h2 := h.below b2
  have ee : ms.eraseIdx i = ms.take i ++ ms.drop (i + 1) := List.eraseIdx_eq_take_drop_succ _ _
  have el : (ms.eraseIdx i).length = ms.length - 1 := List.length_eraseIdx_of_lt hi
  have oth : ∀ q : Nat, q ≠ R → (w2.setCell ⟨R, 0, none⟩ v2).heap[q]? = w2.heap[q]? := fun q hq => heap_setCell_other _ _ _ _ hq
  have hS := heap_setCell_same w2 R 0 _ 28 v2 h2.hR
  have row' : w2.ownsRow base 48 3 v2 (ms.eraseIdx i).length (cells3 (ms.eraseIdx i)) := by
    rw [el, ee, cells3_app]
    have : 0 + i + (ms.length - (i + 1)) = ms.length - 1 := by omega
    rw [this, List.nil_append] at o2
    refine ⟨o2.1, o2.2.imp id ?_⟩
    rintro ⟨g, c, cur, e, hb, rest⟩
    exact ⟨g, c, cur, e, Nat.le_trans bs hb, rest⟩
  refine ⟨v1, w1, v2, w2, r1, b1, r2, b2, by simp [World.frozen?, h2.hR], ⟨by simpa using hS, h.bR, owns_kept row' (fun q eq => oth q (fun e => by
      obtain ⟨cur, hc⟩ := row_kind row' eq
      rw [e, h2.hR] at hc
      injection hc with hc
      injection hc with _ hc _
      exact tMR hc)), fun q hq => ?_, by omega⟩, fun q eq => (row_lt4 o2 eq).1, (b2.mono bs).setCell h.bR _, ?_, fun q ob e h1 h2' => ?_⟩
  · refine (h2.dat q (List.mem_of_mem_eraseIdx hq)).keep fun x ⟨cs, z, e⟩ => oth x (fun eq => ?_)
    rw [eq, h2.hR] at e
    injection e with e
    injection e with _ e _
    exact tM5 e
  · have := b2.size
    simpa using this
  · have lt := (Array.getElem?_eq_some_iff.1 e).1
    rw [oth q (fun eq => by rw [eq, h.hR] at e; exact h2' _ _ (Option.some.inj e).symm), b2.block q lt]
theorem RefIn.away {v : Value} {P : Nat} {cs cs' : Array Value} (h : RefIn w base R v ms) (e : w.heap[P]? = some (.cells cs 48 (0, 0))) (hq : ∀ q, v.ownBlock = some q → q ≠ P) : RefIn (w.setRow P cs') base R v ms := by
  have k : ∀ q : Nat, q ≠ P → (w.setRow P cs').heap[q]? = w.heap[q]? := fun q hq => setRow_other _ _ _ _ hq
  refine ⟨(k R (fun eq => by rw [← eq, h.hR] at e; injection e with e; injection e with _ e _; exact tMR e)).trans h.hR, h.bR, owns_kept h.row (fun q eq => k q (hq q eq)), fun q hq => (h.dat q hq).keep fun x ⟨c, z, ex⟩ => k x (fun eq => ?_), h.len⟩
  rw [eq, e] at ex
  injection ex with ex
  injection ex with _ ex _
  exact tR5 ex
theorem RKeep.away {w' : World} {P : Nat} {cs' : Array Value} (h : RKeep base w w') (hb : base ≤ w.heap.size) (hP : w.heap.size ≤ P) : RKeep base w (w'.setRow P cs') :=
  ⟨rowN_below h.1 (Nat.le_trans hb hP), by simpa using h.2.1, fun q o e h1 h2 => by
    have lt := (Array.getElem?_eq_some_iff.1 e).1
    rw [setRow_other _ _ _ _ (by omega)]
    exact h.2.2 q o e h1 h2⟩
end
end Go.Proofs.Ytccmehbdnnelhaa
