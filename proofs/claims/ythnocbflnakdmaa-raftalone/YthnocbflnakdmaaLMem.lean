/- Package rlog: how a log lies in memory. -/
import Derived.Test.YthnocbflnakdmaaClone
import Derived.Test.YthnocbflnakdmaaText
import Derived.Test.YthnocbflnakdmaaSteps
namespace Go.Proofs.Ythnocbflnakdmaa
open Go.RowKit
set_option linter.unusedVariables false

/-- An entry: its term, and its command's bytes. -/
abbrev Ent := Int × List (BitVec 8)
/-- An entry, and the value of its bytes. -/
abbrev EntV := Ent × Value
def B8At (w : World) (g : Nat) : Prop := ∃ (cs : Array Value) (z : Nat × Nat), w.heap[g]? = some (Obj.cells cs 5 z)
/-- Bytes in memory, as a value. -/
def BytesV (w : World) (v : Value) (p : List (BitVec 8)) : Prop := ∃ a c, v = .slice a p.length c ∧ Seen w a p.length p ∧ (a = none → c = 0) ∧ p.length ≤ 140737488355328
/-- Bytes in memory, whose block is one of bytes. -/
def DataAt (w : World) (v : Value) (b : List (BitVec 8)) : Prop := BytesV w v b ∧ ∀ a n c, v = .slice a n c → ∀ x, a = some x → b ≠ [] → B8At w x.block
/-- Entries in memory. -/
def EntsAt (w : World) (a : Option Addr) (n : Nat) (ents : List Ent) : Prop :=
  n = ents.length ∧ (n = 0 ∨ ∃ b off, a = some ⟨b, off, none⟩ ∧ ∀ j (hj : j < ents.length), w.cell? ⟨b, off + j * 2, none⟩ = some (.int .i64 ents[j].1) ∧ ∃ v, w.cell? ⟨b, off + j * 2 + 1, none⟩ = some v ∧ BytesV w v ents[j].2)
theorem BytesV.below {w w' : World} {v : Value} {p : List (BitVec 8)} (h : BytesV w v p) (hb : Below w.heap.size w w') : BytesV w' v p := by
  obtain ⟨a, c, h1, h2, h3⟩ := h
  exact ⟨a, c, h1, h2.below hb, h3⟩
theorem EntsAt.below {w w' : World} {a : Option Addr} {n : Nat} {ents : List Ent} (h : EntsAt w a n ents) (hb : Below w.heap.size w w') : EntsAt w' a n ents := by
  obtain ⟨h1, h3⟩ := h
  refine ⟨h1, ?_⟩
  rcases h3 with h3 | ⟨b, off, ha, hc⟩
  · exact .inl h3
  · refine .inr ⟨b, off, ha, fun j hj => ?_⟩
    obtain ⟨c1, v, c2, c3⟩ := hc j hj
    rw [hb.cell (p := ⟨b, off + j * 2, none⟩) (World.block_lt_of_cell? w _ c1), hb.cell (p := ⟨b, off + j * 2 + 1, none⟩) (World.block_lt_of_cell? w _ c2)]
    exact ⟨c1, v, c2, c3.below hb⟩
theorem EntsAt.at {w : World} {a : Option Addr} {n : Nat} {ents : List Ent} (h : EntsAt w a n ents) {k : Nat} (hk : k < ents.length) :
    ∃ b off v, a = some ⟨b, off, none⟩ ∧ w.cell? ⟨b, off + k * 2, none⟩ = some (.int .i64 ents[k].1) ∧ w.cell? ⟨b, off + k * 2 + 1, none⟩ = some v ∧ BytesV w v ents[k].2 := by
  rcases h.2 with h3 | ⟨b, off, ha, hc⟩
  · have := h.1; omega
  · obtain ⟨c1, v, c2, c3⟩ := hc k hk
    exact ⟨b, off, v, ha, c1, c2, c3⟩
def entCells (es : List EntV) : List Value := es.flatMap fun e => [.int .i64 e.1.1, e.2]
theorem entCells_snoc (es : List EntV) (e : EntV) : entCells (es ++ [e]) = entCells es ++ [.int .i64 e.1.1, e.2] := by simp [entCells]
theorem entCells_append (es fs : List EntV) : entCells (es ++ fs) = entCells es ++ entCells fs := by simp [entCells]
theorem entCells_length (es : List EntV) : (entCells es).length = es.length * 2 := by
  induction es with
  | nil => rfl
  | cons e es ih => simp [entCells] at ih ⊢; omega
theorem entCells_get : ∀ (es : List EntV) (j : Nat) (hj : j < es.length), (entCells es)[j * 2]? = some (.int .i64 es[j].1.1) ∧ (entCells es)[j * 2 + 1]? = some es[j].2
  | r :: rest, 0, _ => by simp [entCells]
  | r :: rest, j + 1, hj => by
    have ih := entCells_get rest j (by simpa using hj)
    have e1 : (j + 1) * 2 = j * 2 + 1 + 1 := by omega
    simp only [entCells, List.flatMap_cons, List.cons_append, List.nil_append, e1, List.getElem?_cons_succ, List.getElem_cons_succ] at ih ⊢
    exact ih
theorem entCells_take (es : List EntV) (k : Nat) : entCells (es.take k) = (entCells es).take (k * 2) := by
  induction es generalizing k with
  | nil => simp [entCells]
  | cons e es ih =>
    cases k with
    | zero => simp [entCells]
    | succ k =>
      have e1 : (k + 1) * 2 = k * 2 + 1 + 1 := by omega
      have := ih k
      simp only [entCells] at this
      simp only [entCells, List.take_succ_cons, List.flatMap_cons, List.cons_append, List.nil_append, e1, this]
theorem info_entry : (Try.prog.info? 52).map (fun i => (i.zero, i.size, i.bytes)) = some (some (.agg #[.int .i64 0, .slice none 0 0]), 2, 32) := by kernel_rfl
/-- A log in memory: its base, its term, the slice of its entries. -/
structure LogIn (w : World) (base N : Nat) (B T : Int) (sv : Value) (L : List EntV) : Prop where
  hN : w.heap[N]? = some (.cells #[.int .i64 B, .int .i64 T, sv] 92 (0, 0))
  row : w.ownsRow base 52 2 sv L.length (entCells L)
  dat : ∀ e ∈ L, DataAt w e.2 e.1.2
  bN : base ≤ N
  len : L.length ≤ 4096
  bB : 0 ≤ B ∧ B ≤ 2305843009213693952
  bT : 0 ≤ T ∧ T ≤ 1152921504606846976
  bE : ∀ e ∈ L, 1 ≤ e.1.1 ∧ e.1.1 ≤ 1152921504606846976
/-- Only a log's own two blocks have changed. -/
structure Chg (w w' : World) (N : Nat) (row : Option Nat) : Prop where
  os : w'.os = w.os
  tape : w'.tape = w.tape
  output : w'.output = w.output
  size : w.heap.size ≤ w'.heap.size
  block : ∀ k, k < w.heap.size → k ≠ N → some k ≠ row → w'.heap[k]? = w.heap[k]?
theorem row_form {w : World} {base n : Nat} {v : Value} {xs : List Value} {t : TypeId} {s : Nat} (h : w.ownsRow base t s v n xs) : ∃ a c, v = .slice a n c ∧ (a = none → c = 0) ∧ n ≤ c ∧ c ≤ maxLen ∧ (∀ x, a = some x → x = ⟨x.block, 0, none⟩ ∧ ∃ cur, w.heap[x.block]? = some (.cells cur t (0, 0)) ∧ cur.size = c * s) := by
  rcases h.2 with ⟨rfl, rfl⟩ | ⟨g, c, cur, rfl, hb, hg, hnc, hcm, hcs, _⟩
  · exact ⟨none, 0, rfl, fun _ => rfl, Nat.le_refl _, Nat.zero_le _, fun x e => by cases e⟩
  · exact ⟨_, c, rfl, (fun e => by cases e), hnc, hcm, fun x e => by cases e; exact ⟨rfl, cur, hg, hcs⟩⟩
theorem DataAt.keep {w w' : World} {v : Value} {b : List (BitVec 8)} (h : DataAt w v b) (k : ∀ g, B8At w g → w'.heap[g]? = w.heap[g]?) : DataAt w' v b := by
  obtain ⟨⟨a, c, e, s, n, m⟩, u⟩ := h
  have u' := fun x (ex : a = some x) hb => u a _ c e x ex hb
  refine ⟨⟨a, c, e, ?_, n, m⟩, fun a' n' c' e' x ex hb => ?_⟩
  · obtain ⟨s1, s2, s3⟩ := s
    refine ⟨s1, s2, s3.imp id ?_⟩
    rintro ⟨g, o, rfl, hc⟩
    refine ⟨g, o, rfl, fun j hj => ?_⟩
    have hb : b ≠ [] := fun e => by rw [e] at hj; simp at hj
    rw [World.cell?_of_block (w := w) (a := ⟨g, o + j, none⟩) (k g (u' ⟨g, o, none⟩ rfl hb))]
    exact hc j hj
  · obtain ⟨cs, z, e2⟩ := u a' n' c' e' x ex hb
    exact ⟨cs, z, (k _ ⟨cs, z, e2⟩).trans e2⟩
theorem DataAt.below {w w' : World} {v : Value} {b : List (BitVec 8)} (h : DataAt w v b) (k : Below w.heap.size w w') : DataAt w' v b :=
  h.keep fun g ⟨cs, z, e⟩ => k.block g (Array.getElem?_eq_some_iff.1 e).1
theorem owns_kept {w w' : World} {base : Nat} {v : Value} {n : Nat} {xs : List Value} {t : TypeId} {s : Nat} (h : w.ownsRow base t s v n xs) (k : ∀ g, v.ownBlock = some g → w'.heap[g]? = w.heap[g]?) : w'.ownsRow base t s v n xs := by
  refine ⟨h.1, h.2.imp id ?_⟩
  rintro ⟨g, cap, cur, rfl, hb, hg, hr⟩
  exact ⟨g, cap, cur, rfl, hb, by rw [k g rfl]; exact hg, hr⟩
theorem row_kind {w : World} {base : Nat} {v : Value} {n : Nat} {xs : List Value} {t : TypeId} {s : Nat} (h : w.ownsRow base t s v n xs) {g : Nat} (e : v.ownBlock = some g) : base ≤ g ∧ g < w.heap.size ∧ ∃ cur, w.heap[g]? = some (.cells cur t (0, 0)) := by
  rcases h.2 with ⟨e1, _⟩ | ⟨g', c, cur, e1, hb, hg, _⟩
  · rw [e1] at e; cases e
  · rw [e1] at e
    obtain rfl : g' = g := by simpa [Value.ownBlock] using e
    exact ⟨hb, (Array.getElem?_eq_some_iff.1 hg).1, cur, hg⟩
section
variable {w w' : World} {base N : Nat} {B T : Int} {sv : Value} {L : List EntV}
theorem LogIn.ltN (h : LogIn w base N B T sv L) : N < w.heap.size := (Array.getElem?_eq_some_iff.1 h.hN).1
theorem LogIn.size (h : LogIn w base N B T sv L) : base ≤ w.heap.size := Nat.le_trans h.bN (Nat.le_of_lt h.ltN)
theorem LogIn.keep (h : LogIn w base N B T sv L) (k : ∀ g, base ≤ g → g < w.heap.size → w'.heap[g]? = w.heap[g]?) (k8 : ∀ g, B8At w g → w'.heap[g]? = w.heap[g]?) : LogIn w' base N B T sv L :=
  { h with
    hN := (k N h.bN h.ltN).trans h.hN
    row := owns_kept h.row (fun g e => by obtain ⟨h1, h2, _⟩ := row_kind h.row e; exact k g h1 h2)
    dat := fun e he => (h.dat e he).keep k8 }
theorem LogIn.below (h : LogIn w base N B T sv L) (k : Below w.heap.size w w') : LogIn w' base N B T sv L :=
  h.keep (fun g _ hg => k.block g hg) (fun g ⟨cs, z, e⟩ => k.block g (Array.getElem?_eq_some_iff.1 e).1)
theorem LogIn.c0 (h : LogIn w base N B T sv L) : w.cell? ⟨N, 0, none⟩ = some (.int .i64 B) := by have := h.hN; simp [World.cell?, this]
theorem LogIn.c1 (h : LogIn w base N B T sv L) : w.cell? ⟨N, 1, none⟩ = some (.int .i64 T) := by have := h.hN; simp [World.cell?, this]
theorem LogIn.c2 (h : LogIn w base N B T sv L) : w.cell? ⟨N, 2, none⟩ = some sv := by have := h.hN; simp [World.cell?, this]
theorem LogIn.fz (h : LogIn w base N B T sv L) (i : Nat) : w.frozen? ⟨N, i, none⟩ = false := by have := h.hN; simp [World.frozen?, this]
theorem Chg.below {row : Option Nat} (h : Chg w w' N row) (hs : base ≤ w.heap.size) (hN : base ≤ N) (hr : ∀ g, row = some g → base ≤ g) : Below base w w' :=
  ⟨h.os, h.tape, h.output, h.size, fun k hk => h.block k (by omega) (by omega) (fun e => by have := hr k e.symm; omega)⟩
theorem LogIn.chg_below (h : LogIn w base N B T sv L) (c : Chg w w' N sv.ownBlock) : Below base w w' :=
  c.below h.size h.bN (fun g e => (row_kind h.row e).1)
theorem Chg.of_below (h : Below w.heap.size w w') (N : Nat) (row : Option Nat) : Chg w w' N row := ⟨h.os, h.tape, h.output, h.size, fun k hk _ _ => h.block k hk⟩
theorem Chg.refl (w : World) (N : Nat) (row : Option Nat) : Chg w w N row := ⟨rfl, rfl, rfl, Nat.le_refl _, fun _ _ _ _ => rfl⟩
theorem Chg.trans {w1 : World} {row row' : Option Nat} (h : Chg w w1 N row) (k : Chg w1 w' N row') (hr : ∀ g, row' = some g → row = some g ∨ w.heap.size ≤ g) : Chg w w' N row :=
  ⟨k.os.trans h.os, k.tape.trans h.tape, k.output.trans h.output, Nat.le_trans h.size k.size, fun i hi hn hne => by
    rw [k.block i (Nat.lt_of_lt_of_le hi h.size) hn (fun e => by
      rcases hr i e.symm with h1 | h1
      · exact hne h1.symm
      · omega)]
    exact h.block i hi hn hne⟩
/-- Bytes are not among a log's own two blocks. -/
theorem LogIn.bytes (h : LogIn w base N B T sv L) (c : Chg w w' N sv.ownBlock) (g : Nat) (hg : B8At w g) : w'.heap[g]? = w.heap[g]? := by
  obtain ⟨cs, z, e⟩ := hg
  refine c.block g (Array.getElem?_eq_some_iff.1 e).1 (fun x => ?_) (fun x => ?_)
  · subst x
    rw [h.hN] at e
    injection e with e
    injection e with _ e2
    exact absurd e2 (by decide)
  · obtain ⟨_, _, cur, e2⟩ := row_kind h.row x.symm
    rw [e] at e2
    injection e2 with e2
    injection e2 with _ e3
    exact absurd e3 (by decide)
theorem LogIn.sv_form (h : LogIn w base N B T sv L) : ∃ a c, sv = .slice a L.length c ∧ (a = none → c = 0) ∧ L.length ≤ c ∧ c ≤ maxLen := by
  obtain ⟨a, c, h1, h2, h3, h4, _⟩ := row_form h.row
  exact ⟨a, c, h1, h2, h3, h4⟩
theorem row_at {v : Value} {es : List EntV} (h : w.ownsRow base 52 2 v es.length (entCells es)) {k : Nat} (hk : k < es.length) : ∃ g c, v = .slice (some ⟨g, 0, none⟩) es.length c ∧ w.cell? ⟨g, k * 2, none⟩ = some (.int .i64 es[k].1.1) ∧ w.cell? ⟨g, k * 2 + 1, none⟩ = some es[k].2 := by
  rcases h.2 with ⟨_, h0⟩ | ⟨g, c, cur, rfl, hb, hg, hnc, hcm, hcs, htake⟩
  · omega
  · refine ⟨g, c, rfl, ?_⟩
    obtain ⟨h1, h2⟩ := entCells_get es k hk
    rw [← htake, List.getElem?_take, if_pos (by omega)] at h1 h2
    simp only [World.cell?, hg]
    exact ⟨by simpa using h1, by simpa using h2⟩
/-- A log's own row is a row of entries. -/
theorem row_ents {v : Value} {es : List EntV} (h : w.ownsRow base 52 2 v es.length (entCells es)) (hE : ∀ e ∈ es, BytesV w e.2 e.1.2) : ∃ a c, v = .slice a es.length c ∧ EntsAt w a es.length (es.map Prod.fst) ∧ (a = none → c = 0) := by
  obtain ⟨a, c, e, hn, _⟩ := row_form h
  refine ⟨a, c, e, ⟨by simp, ?_⟩, hn⟩
  by_cases h0 : es.length = 0
  · exact .inl h0
  · obtain ⟨g, c', e2, _⟩ := row_at h (show 0 < es.length by omega)
    rw [e] at e2
    cases e2
    refine .inr ⟨g, 0, rfl, fun j hj => ?_⟩
    have hj' : j < es.length := by simpa using hj
    obtain ⟨g', c'', e3, q1, q2⟩ := row_at h hj'
    rw [e] at e3
    cases e3
    rw [Nat.zero_add]
    simp only [List.getElem_map]
    exact ⟨q1, es[j].2, q2, hE _ (List.getElem_mem hj')⟩
end
end Go.Proofs.Ythnocbflnakdmaa
