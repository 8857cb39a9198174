/- Package txn: transfers, commands and asks in memory; things of so many cells, one behind the other. -/
import Derived.Test.YtckldjiabalgbaaSteps
import Derived.Maps.AppendAt
import Derived.Laws.Tables
namespace Go.Proofs.Ytckldjiabalgbaa
open Go.RowKit
set_option linter.unusedVariables false

section
variable {α : Type} {enc : α → List Value} {K : Nat}
/-- Things one behind the other. -/
def flat (enc : α → List Value) (l : List α) : List Value := l.flatMap enc
theorem flat_append (a b : List α) : flat enc (a ++ b) = flat enc a ++ flat enc b := by simp [flat]
theorem flat_length (hK : ∀ x, (enc x).length = K) : ∀ l : List α, (flat enc l).length = l.length * K
  | [] => by simp [flat]
  | x :: l => by
    have ih := flat_length hK l
    simp only [flat, List.flatMap_cons, List.length_append, List.length_cons] at ih ⊢
    rw [ih, hK, Nat.add_mul]
    omega
theorem flat_at (hK : ∀ x, (enc x).length = K) : ∀ (l : List α) (i : Nat) (hi : i < l.length) (j : Nat), j < K → (flat enc l)[i * K + j]? = (enc l[i])[j]?
  | x :: l, 0, _, j, hj => by
    simp only [flat, List.flatMap_cons, List.getElem_cons_zero]
    rw [List.getElem?_append_left (by rw [hK]; omega)]
    simp
  | x :: l, i + 1, hi, j, hj => by
    have ih := flat_at hK l i (by simpa using hi) j hj
    simp only [flat, List.flatMap_cons, List.getElem_cons_succ] at ih ⊢
    rw [List.getElem?_append_right (by rw [hK, Nat.add_mul]; omega), ← ih]
    congr 1
    rw [hK, Nat.add_mul]
    omega
/-- They lie in a slice. -/
def RecsAt (enc : α → List Value) (K : Nat) (w : World) (a : Option Addr) (n : Nat) (l : List α) : Prop :=
  n = l.length ∧ (n = 0 ∨ ∃ b off, a = some ⟨b, off, none⟩ ∧ b < w.heap.size ∧ ∀ i (hi : i < l.length) j v, (enc l[i])[j]? = some v → w.cell? ⟨b, off + i * K + j, none⟩ = some v)
theorem RecsAt.below {w w' : World} {a : Option Addr} {n : Nat} {l : List α} (h : RecsAt enc K w a n l) (b : Below w.heap.size w w') : RecsAt enc K w' a n l := by
  refine ⟨h.1, h.2.imp id ?_⟩
  rintro ⟨g, o, e, hb, hc⟩
  exact ⟨g, o, e, Nat.lt_of_lt_of_le hb b.size, fun i hi j v hv => (b.cell (p := ⟨g, o + i * K + j, none⟩) hb).trans (hc i hi j v hv)⟩
theorem RecsAt.at {w : World} {a : Option Addr} {n : Nat} {l : List α} (h : RecsAt enc K w a n l) {i : Nat} (hi : i < l.length) : ∃ b off, a = some ⟨b, off, none⟩ ∧ ∀ j v, (enc l[i])[j]? = some v → w.cell? ⟨b, off + i * K + j, none⟩ = some v := by
  rcases h.2 with h0 | ⟨g, o, e, _, hc⟩
  · have := h.1; omega
  · exact ⟨g, o, e, hc i hi⟩
theorem row_form {w : World} {base n : Nat} {v : Value} {xs : List Value} {t : TypeId} {s : Nat} (h : w.ownsRow base t s v n xs) : ∃ a c, v = .slice a n c ∧ (a = none → c = 0) ∧ n ≤ c ∧ c ≤ maxLen ∧ (∀ x, a = some x → x = ⟨x.block, 0, none⟩ ∧ ∃ cur, w.heap[x.block]? = some (.cells cur t (0, 0)) ∧ cur.size = c * s) := by
  rcases h.2 with ⟨rfl, rfl⟩ | ⟨g, c, cur, rfl, hb, hg, hnc, hcm, hcs, _⟩
  · exact ⟨none, 0, rfl, fun _ => rfl, Nat.le_refl _, Nat.zero_le _, fun x e => by cases e⟩
  · exact ⟨_, c, rfl, (fun e => by cases e), hnc, hcm, fun x e => by cases e; exact ⟨rfl, cur, hg, hcs⟩⟩
theorem owns_kept {w w' : World} {base : Nat} {v : Value} {n : Nat} {xs : List Value} {t : TypeId} {s : Nat} (h : w.ownsRow base t s v n xs) (k : ∀ g, v.ownBlock = some g → w'.heap[g]? = w.heap[g]?) : w'.ownsRow base t s v n xs := by
  refine ⟨h.1, h.2.imp id ?_⟩
  rintro ⟨g, cap, cur, rfl, hb, hg, hr⟩
  exact ⟨g, cap, cur, rfl, hb, by rw [k g rfl]; exact hg, hr⟩
theorem row_kind {w : World} {base : Nat} {v : Value} {n : Nat} {xs : List Value} {t : TypeId} {s : Nat} (h : w.ownsRow base t s v n xs) {g : Nat} (e : v.ownBlock = some g) : base ≤ g ∧ g < w.heap.size ∧ ∃ cur, w.heap[g]? = some (.cells cur t (0, 0)) := by
  rcases h.2 with ⟨e1, _⟩ | ⟨g', c, cur, e1, hb, hg, _⟩
  · rw [e1] at e; cases e
  · rw [e1] at e
    cases e
    exact ⟨hb, (Array.getElem?_eq_some_iff.1 hg).1, cur, hg⟩
theorem recs_owned (hK : ∀ x, (enc x).length = K) {w : World} {base n : Nat} {v : Value} {t : TypeId} {l : List α} (h : w.ownsRow base t K v n (flat enc l)) (hn : n = l.length) : ∃ a c, v = .slice a n c ∧ RecsAt enc K w a n l ∧ (a = none → c = 0) := by
  subst hn
  obtain ⟨a, c, e, h0, _⟩ := row_form h
  refine ⟨a, c, e, ⟨rfl, ?_⟩, h0⟩
  rcases h.2 with ⟨e1, h0⟩ | ⟨g, cap, cur, e1, hb, hg, hnc, hcm, hcs, htake⟩
  · exact .inl h0
  · rw [e] at e1
    cases e1
    refine .inr ⟨g, 0, rfl, (Array.getElem?_eq_some_iff.1 hg).1, fun i hi j v hv => ?_⟩
    have hj : j < K := by have := (List.getElem?_eq_some_iff.1 hv).1; rwa [hK] at this
    have q := flat_at hK l i hi j hj
    rw [← htake, List.getElem?_take, if_pos (by
      calc i * K + j < i * K + K := by omega
        _ = (i + 1) * K := by rw [Nat.add_mul]; omega
        _ ≤ l.length * K := Nat.mul_le_mul_right _ hi), hv] at q
    rw [Nat.zero_add]
    simp only [World.cell?, hg]
    simpa using q
end
/-- A transfer. -/
structure TxnD where
  id : ByteArray
  fr : ByteArray
  ky : ByteArray
  to : ByteArray
  n : Int
  done : Bool
  why : Int
def TxnD.cells (t : TxnD) : List Value := [.string t.id, .string t.fr, .string t.ky, .string t.to, .int .i64 t.n, .bool t.done, .int .i64 t.why]
theorem TxnD.cells7 (t : TxnD) : t.cells.length = 7 := rfl
/-- A command's parts. -/
structure CmdV where
  k : Int
  ok : Int
  of_ : ByteArray
  ot : ByteArray
  oa : Int
  oy : ByteArray
  os : Int
  oh : Int
  id : ByteArray
  nm : ByteArray
  n : Int
  why : Int
  slot : Int
  ep : Int
  at_ : Int
  last : Bool
  data : Value
def CmdV.cells (c : CmdV) : List Value := [.int .i64 c.k, .int .i64 c.ok, .string c.of_, .string c.ot, .int .i64 c.oa, .string c.oy, .int .i64 c.os, .int .i64 c.oh, .string c.id, .string c.nm, .int .i64 c.n, .int .i64 c.why, .int .i64 c.slot, .int .i64 c.ep, .int .i64 c.at_, .bool c.last, c.data]
theorem CmdV.cells17 (c : CmdV) : c.cells.length = 17 := rfl
def noText : ByteArray := ⟨#[]⟩
def CmdV.zero : CmdV := ⟨0, 0, noText, noText, 0, noText, 0, 0, noText, noText, 0, 0, 0, 0, 0, false, .slice none 0 0⟩
/-- What another shard is to do for a transfer. -/
def lesser (why : Int) : Int := if why = 0 then 0 else 50
def wantC (t : TxnD) : CmdV := if t.done = true then { CmdV.zero with k := 4, id := t.id, nm := t.to, why := lesser t.why } else { CmdV.zero with k := 2, id := t.id, nm := t.to, n := t.n }
/-- An ask: a group, a command. -/
abbrev AskV := Int × CmdV
def AskV.cells (a : AskV) : List Value := .int .i64 a.1 :: a.2.cells
theorem askCells18 (a : AskV) : (AskV.cells a).length = 18 := rfl
/-- What follows an answer. -/
def mute (why : Int) : Bool := decide (why = 5) || decide (why = 1) || decide (why = 2)
def nextC (c : CmdV) (why : Int) : CmdV × Bool :=
  if mute why = true then (CmdV.zero, false) else if c.k = 2 then ({ CmdV.zero with k := 3, id := c.id, why := why }, true) else if c.k = 4 ∧ why = 0 then ({ CmdV.zero with k := 5, id := c.id }, true) else (CmdV.zero, false)
theorem heap_two (w : World) (o o' : Obj) : ((w.alloc o).alloc o').heap[w.heap.size + 1]? = some o' := by simpa using heap_alloc_new (w.alloc o) o'
theorem heap_three (w : World) (o o' o'' : Obj) : (((w.alloc o).alloc o').alloc o'').heap[w.heap.size + 2]? = some o'' := by simpa using heap_alloc_new ((w.alloc o).alloc o') o''
/-- A struct that stands in a cell, and a value. -/
theorem results_ct {P : Program} {fn : Func} {p u : Tmp} {ty : TypeId} (h : fn.results = #[.cell p ty, .tmp u]) (tmps : Array Value) (w : World) (g : Nat) (t : TypeId) (cs : Array Value) (fr : Nat × Nat) (d : TypeDesc)
    (hp : tmps.getD p undef = .pointer (some ⟨g, 0, none⟩)) (hg : w.heap[g]? = some (.cells cs t fr))
    (hu : P.underlying ty = some d) (hd : (match d with | .struct _ | .array _ _ => true | _ => false) = true) (hi : (P.info? ty).map (·.size) = some cs.size) :
    (results fn tmps).run P w = .ok (.tuple #[.agg cs, tmps.getD u undef]) w := by
  rw [results_cell_tmp h, hp]
  simp [asAddr, run_loadVar_row w g t ty cs fr d hg hu hd hi]
end Go.Proofs.Ytckldjiabalgbaa
