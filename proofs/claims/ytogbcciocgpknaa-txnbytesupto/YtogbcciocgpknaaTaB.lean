/- Walking a region that draws its order, one operation behind the other, where what is held grows on the way. -/
import Derived.Test.YtogbcciocgpknaaTaA
import Derived.Deep.RegionHeld3
import Derived.Laws.Rows
import Derived.Maps.AppendAt
import Derived.Laws.Tables
namespace Go.Proofs.Ytogbcciocgpknaa
open Go.RowKit
set_option linter.unusedVariables false

section
variable {P : Program} {ops : Array Oper} {Q : Exit → Act → World → Prop} {md : Region.Mode} {S S' : World → Prop}
/-- What is held may grow. -/
theorem held_more (h : ∀ w, S' w → S w) : ∀ (fuel : Nat) (listed : Array Bool) (a : Act) (w : World), wpAnyH P md ops Q S' fuel listed a w → wpAnyH P md ops Q S fuel listed a w
  | 0, _, _, _, hh => hh
  | fuel + 1, _, _, _, hh => ⟨hh.1, fun i hi => wpOp_mono (fun a' w' h' => ⟨h w' h'.1, held_more h fuel _ a' w' h'.2⟩) (hh.2 i hi)⟩
/-- An operation that yields the same in every world that meets what is held. -/
theorem take_run {i : Nat} {oi : Oper} {v : Value} {fuel : Nat} {listed : Array Bool} {a : Act} {w : World} (hi : ops[i]? = some oi)
    (hs : Region.noSelect ops = true) (hf : Region.free md ops listed i = true) (hr : (Region.ready md ops listed).contains i = true)
    (hQ : ∀ c a w, Q (.panic c) (a.put oi.dst v) w → Q (.panic c) a w) (hw : Region.wanted oi (yielded ops a.tmps) = true) (hv : ∀ w, S w → (execOp a.eval oi).run P w = .ok (.value v) w) (hS : S w)
    (h : wpAnyH P md ops Q S fuel (listed.setIfInBounds i true) (a.put oi.dst v) w) : wpAnyH P md ops Q S (fuel + 1) listed a w :=
  wpAnyH_take hi hs hf hr hQ (.inl ⟨hw, hv⟩) hS h
/-- A struct is read. -/
theorem take_row {i : Nat} {oi : Oper} {fuel : Nat} {listed : Array Bool} {a : Act} {w : World} (hi : ops[i]? = some oi)
    (hs : Region.noSelect ops = true) (hf : Region.free md ops listed i = true) (hr : (Region.ready md ops listed).contains i = true) (ty : TypeId) (x : Operand) (g : Nat) (t : TypeId) (cs : Array Value) (fr : Nat × Nat) (d : TypeDesc)
    (hQ : ∀ c a w, Q (.panic c) (a.put oi.dst (.agg cs)) w → Q (.panic c) a w) (hw : Region.wanted oi (yielded ops a.tmps) = true) (ho : oi.op = .load ty x)
    (hx : a.eval x = .pointer (some ⟨g, 0, none⟩)) (hg : ∀ w, S w → w.heap[g]? = some (.cells cs t fr))
    (hu : P.underlying ty = some d) (hd : (match d with | .struct _ | .array _ _ => true | _ => false) = true) (hz : (P.info? ty).map (·.size) = some cs.size) (hS : S w)
    (h : wpAnyH P md ops Q S fuel (listed.setIfInBounds i true) (a.put oi.dst (.agg cs)) w) : wpAnyH P md ops Q S (fuel + 1) listed a w :=
  take_run hi hs hf hr hQ hw (fun w' hS' => by
    unfold execOp
    simp only [ho, hx, Instr.loadAt, Instr.sureAddr, Sem.run_bind, Sem.run_pure, Result.andThen_ok, run_loadVar_row w' g t ty cs fr d (hg w' hS') hu hd hz]) hS h
/-- Bytes become a text. -/
theorem take_text {i : Nat} {oi : Oper} {fuel : Nat} {listed : Array Bool} {a : Act} {w : World} (hi : ops[i]? = some oi)
    (hs : Region.noSelect ops = true) (hf : Region.free md ops listed i = true) (hr : (Region.ready md ops listed).contains i = true) (t1 t2 : TypeId) (x : Operand) (u v : Value)
    (hQ : ∀ c a w, Q (.panic c) (a.put oi.dst v) w → Q (.panic c) a w) (hw : Region.wanted oi (yielded ops a.tmps) = true) (ho : oi.op = .convert t1 t2 x)
    (hx : a.eval x = u) (hc : ∀ w, S w → (convert t1 t2 u).run P w = .ok v w) (hS : S w)
    (h : wpAnyH P md ops Q S fuel (listed.setIfInBounds i true) (a.put oi.dst v) w) : wpAnyH P md ops Q S (fuel + 1) listed a w :=
  take_run hi hs hf hr hQ hw (fun w' hS' => by
    unfold execOp
    simp only [ho, hx, Sem.run_bind, Sem.run_pure, Result.andThen_ok, hc w' hS']) hS h
/-- An operation that makes memory: the one that may come up. -/
theorem take_make {i : Nat} {oi : Oper} {v : Value} {fuel : Nat} {listed : Array Bool} {a : Act} {w w' : World} (hi : ops[i]? = some oi) (hr : Region.ready md ops listed = [i]) (hw : Region.wanted oi (yielded ops a.tmps) = true)
    (hx : (execOp a.eval oi).run P w = .ok (.value v) w') (hS : S w') (h : wpAnyH P md ops Q S fuel (listed.setIfInBounds i true) (a.put oi.dst v) w') : wpAnyH P md ops Q S (fuel + 1) listed a w := by
  refine wpAnyH_all (rs := [i]) hr (by simp) (fun j hj => ?_)
  obtain rfl : j = i := by simpa using hj
  unfold wpOp
  simp only [hi, hw, if_true, Oper.wp, hx]
  rw [Oper.upon_value]
  exact .inl ⟨hS, h⟩
/-- A call: the one operation that may come up. -/
theorem take_call {i : Nat} {oi : Oper} {fuel : Nat} {listed : Array Bool} {a : Act} {w : World} (hi : ops[i]? = some oi) (hr : Region.ready md ops listed = [i]) (hw : Region.wanted oi (yielded ops a.tmps) = true)
    (f : FuncId) (args : Array Value) (hx : (execOp a.eval oi).run P w = .ok (.enter f args) w)
    (h : Calls P f args w fun e w' => ∃ v, e = .returned v ∧ S w' ∧ wpAnyH P md ops Q S fuel (listed.setIfInBounds i true) (a.put oi.dst v) w') : wpAnyH P md ops Q S (fuel + 1) listed a w := by
  refine wpAnyH_all (rs := [i]) hr (by simp) (fun j hj => ?_)
  obtain rfl : j = i := by simpa using hj
  unfold wpOp
  simp only [hi, hw, if_true, Oper.wp, hx]
  rw [Oper.upon_enter]
  refine .inl (h.mono fun e w' ⟨v, he, hS, hh⟩ => ?_)
  subst he
  exact ⟨hS, hh⟩
end
end Go.Proofs.Ytogbcciocgpknaa

namespace Go.Proofs.Ytogbcciocgpknaa
open Go.RowKit
set_option linter.unusedVariables false

section
variable {α : Type} {enc : α → List Value} {K : Nat}
/-- Things one behind the other. -/
def flat (enc : α → List Value) (l : List α) : List Value := l.flatMap enc
theorem flat_append (a b : List α) : flat enc (a ++ b) = flat enc a ++ flat enc b := by simp [flat]
theorem flat_length (hK : ∀ x, (enc x).length = K) : ∀ l : List α, (flat enc l).length = l.length * K
  | [] => by simp [flat]
  | x :: l => by
    have ih := flat_length hK l
    simp only [flat, List.flatMap_cons, List.length_append, List.length_cons] at ih ⊢
    rw [ih, hK, Nat.add_mul]
    omega
theorem flat_at (hK : ∀ x, (enc x).length = K) : ∀ (l : List α) (i : Nat) (hi : i < l.length) (j : Nat), j < K → (flat enc l)[i * K + j]? = (enc l[i])[j]?
  | x :: l, 0, _, j, hj => by
    simp only [flat, List.flatMap_cons, List.getElem_cons_zero]
    rw [List.getElem?_append_left (by rw [hK]; omega)]
    simp
  | x :: l, i + 1, hi, j, hj => by
    have ih := flat_at hK l i (by simpa using hi) j hj
    simp only [flat, List.flatMap_cons, List.getElem_cons_succ] at ih ⊢
    rw [List.getElem?_append_right (by rw [hK, Nat.add_mul]; omega), ← ih]
    congr 1
    rw [hK, Nat.add_mul]
    omega
/-- They lie in a slice. -/
def RecsAt (enc : α → List Value) (K : Nat) (w : World) (a : Option Addr) (n : Nat) (l : List α) : Prop :=
  n = l.length ∧ (n = 0 ∨ ∃ b off, a = some ⟨b, off, none⟩ ∧ b < w.heap.size ∧ ∀ i (hi : i < l.length) j v, (enc l[i])[j]? = some v → w.cell? ⟨b, off + i * K + j, none⟩ = some v)
theorem RecsAt.below {w w' : World} {a : Option Addr} {n : Nat} {l : List α} (h : RecsAt enc K w a n l) (b : Below w.heap.size w w') : RecsAt enc K w' a n l := by
  refine ⟨h.1, h.2.imp id ?_⟩
  rintro ⟨g, o, e, hb, hc⟩
  exact ⟨g, o, e, Nat.lt_of_lt_of_le hb b.size, fun i hi j v hv => (b.cell (p := ⟨g, o + i * K + j, none⟩) hb).trans (hc i hi j v hv)⟩
theorem RecsAt.at {w : World} {a : Option Addr} {n : Nat} {l : List α} (h : RecsAt enc K w a n l) {i : Nat} (hi : i < l.length) : ∃ b off, a = some ⟨b, off, none⟩ ∧ ∀ j v, (enc l[i])[j]? = some v → w.cell? ⟨b, off + i * K + j, none⟩ = some v := by
  rcases h.2 with h0 | ⟨g, o, e, _, hc⟩
  · have := h.1; omega
  · exact ⟨g, o, e, hc i hi⟩
theorem row_form {w : World} {base n : Nat} {v : Value} {xs : List Value} {t : TypeId} {s : Nat} (h : w.ownsRow base t s v n xs) : ∃ a c, v = .slice a n c ∧ (a = none → c = 0) ∧ n ≤ c ∧ c ≤ maxLen ∧ (∀ x, a = some x → x = ⟨x.block, 0, none⟩ ∧ ∃ cur, w.heap[x.block]? = some (.cells cur t (0, 0)) ∧ cur.size = c * s) := by
  rcases h.2 with ⟨rfl, rfl⟩ | ⟨g, c, cur, rfl, hb, hg, hnc, hcm, hcs, _⟩
  · exact ⟨none, 0, rfl, fun _ => rfl, Nat.le_refl _, Nat.zero_le _, fun x e => by cases e⟩
  · exact ⟨_, c, rfl, (fun e => by cases e), hnc, hcm, fun x e => by cases e; exact ⟨rfl, cur, hg, hcs⟩⟩
theorem owns_kept {w w' : World} {base : Nat} {v : Value} {n : Nat} {xs : List Value} {t : TypeId} {s : Nat} (h : w.ownsRow base t s v n xs) (k : ∀ g, v.ownBlock = some g → w'.heap[g]? = w.heap[g]?) : w'.ownsRow base t s v n xs := by
  refine ⟨h.1, h.2.imp id ?_⟩
  rintro ⟨g, cap, cur, rfl, hb, hg, hr⟩
  exact ⟨g, cap, cur, rfl, hb, by rw [k g rfl]; exact hg, hr⟩
theorem row_kind {w : World} {base : Nat} {v : Value} {n : Nat} {xs : List Value} {t : TypeId} {s : Nat} (h : w.ownsRow base t s v n xs) {g : Nat} (e : v.ownBlock = some g) : base ≤ g ∧ g < w.heap.size ∧ ∃ cur, w.heap[g]? = some (.cells cur t (0, 0)) := by
  rcases h.2 with ⟨e1, _⟩ | ⟨g', c, cur, e1, hb, hg, _⟩
  · rw [e1] at e; cases e
  · rw [e1] at e
    cases e
    exact ⟨hb, (Array.getElem?_eq_some_iff.1 hg).1, cur, hg⟩
theorem recs_owned (hK : ∀ x, (enc x).length = K) {w : World} {base n : Nat} {v : Value} {t : TypeId} {l : List α} (h : w.ownsRow base t K v n (flat enc l)) (hn : n = l.length) : ∃ a c, v = .slice a n c ∧ RecsAt enc K w a n l ∧ (a = none → c = 0) := by
  subst hn
  obtain ⟨a, c, e, h0, _⟩ := row_form h
  refine ⟨a, c, e, ⟨rfl, ?_⟩, h0⟩
  rcases h.2 with ⟨e1, h0⟩ | ⟨g, cap, cur, e1, hb, hg, hnc, hcm, hcs, htake⟩
  · exact .inl h0
  · rw [e] at e1
    cases e1
    refine .inr ⟨g, 0, rfl, (Array.getElem?_eq_some_iff.1 hg).1, fun i hi j v hv => ?_⟩
    have hj : j < K := by have := (List.getElem?_eq_some_iff.1 hv).1; rwa [hK] at this
    have q := flat_at hK l i hi j hj
    rw [← htake, List.getElem?_take, if_pos (by
      calc i * K + j < i * K + K := by omega
        _ = (i + 1) * K := by rw [Nat.add_mul]; omega
        _ ≤ l.length * K := Nat.mul_le_mul_right _ hi), hv] at q
    rw [Nat.zero_add]
    simp only [World.cell?, hg]
    simpa using q
end
/-- A transfer. -/
structure TxnD where
  id : ByteArray
  fr : ByteArray
  ky : ByteArray
  to : ByteArray
  n : Int
  done : Bool
  why : Int
def TxnD.cells (t : TxnD) : List Value := [.string t.id, .string t.fr, .string t.ky, .string t.to, .int .i64 t.n, .bool t.done, .int .i64 t.why]
theorem TxnD.cells7 (t : TxnD) : t.cells.length = 7 := rfl
/-- A command's parts. -/
structure CmdV where
  k : Int
  ok : Int
  of_ : ByteArray
  ot : ByteArray
  oa : Int
  oy : ByteArray
  os : Int
  oh : Int
  id : ByteArray
  nm : ByteArray
  n : Int
  why : Int
  slot : Int
  ep : Int
  at_ : Int
  last : Bool
  data : Value
def CmdV.cells (c : CmdV) : List Value := [.int .i64 c.k, .int .i64 c.ok, .string c.of_, .string c.ot, .int .i64 c.oa, .string c.oy, .int .i64 c.os, .int .i64 c.oh, .string c.id, .string c.nm, .int .i64 c.n, .int .i64 c.why, .int .i64 c.slot, .int .i64 c.ep, .int .i64 c.at_, .bool c.last, c.data]
theorem CmdV.cells17 (c : CmdV) : c.cells.length = 17 := rfl
def noText : ByteArray := ⟨#[]⟩
def CmdV.zero : CmdV := ⟨0, 0, noText, noText, 0, noText, 0, 0, noText, noText, 0, 0, 0, 0, 0, false, .slice none 0 0⟩
/-- What another shard is to do for a transfer. -/
def lesser (why : Int) : Int := if why = 0 then 0 else 50
def wantC (t : TxnD) : CmdV := if t.done = true then { CmdV.zero with k := 4, id := t.id, nm := t.to, why := lesser t.why } else { CmdV.zero with k := 2, id := t.id, nm := t.to, n := t.n }
/-- An ask: a group, a command. -/
abbrev AskV := Int × CmdV
def AskV.cells (a : AskV) : List Value := .int .i64 a.1 :: a.2.cells
theorem askCells18 (a : AskV) : (AskV.cells a).length = 18 := rfl
/-- What follows an answer. -/
def mute (why : Int) : Bool := decide (why = 5) || decide (why = 1) || decide (why = 2)
def nextC (c : CmdV) (why : Int) : CmdV × Bool :=
  if mute why = true then (CmdV.zero, false) else if c.k = 2 then ({ CmdV.zero with k := 3, id := c.id, why := why }, true) else if c.k = 4 ∧ why = 0 then ({ CmdV.zero with k := 5, id := c.id }, true) else (CmdV.zero, false)
theorem heap_two (w : World) (o o' : Obj) : ((w.alloc o).alloc o').heap[w.heap.size + 1]? = some o' := by simpa using heap_alloc_new (w.alloc o) o'
theorem heap_three (w : World) (o o' o'' : Obj) : (((w.alloc o).alloc o').alloc o'').heap[w.heap.size + 2]? = some o'' := by simpa using heap_alloc_new ((w.alloc o).alloc o') o''
/-- A struct that stands in a cell, and a value. -/
theorem results_ct {P : Program} {fn : Func} {p u : Tmp} {ty : TypeId} (h : fn.results = #[.cell p ty, .tmp u]) (tmps : Array Value) (w : World) (g : Nat) (t : TypeId) (cs : Array Value) (fr : Nat × Nat) (d : TypeDesc)
    (hp : tmps.getD p undef = .pointer (some ⟨g, 0, none⟩)) (hg : w.heap[g]? = some (.cells cs t fr))
    (hu : P.underlying ty = some d) (hd : (match d with | .struct _ | .array _ _ => true | _ => false) = true) (hi : (P.info? ty).map (·.size) = some cs.size) :
    (results fn tmps).run P w = .ok (.tuple #[.agg cs, tmps.getD u undef]) w := by
  rw [results_cell_tmp h, hp]
  simp [asAddr, run_loadVar_row w g t ty cs fr d hg hu hd hi]
end Go.Proofs.Ytogbcciocgpknaa

namespace Go.Proofs.Ytogbcciocgpknaa
open Go.RowKit
attribute [local go_sem] Oper.semAt_some
set_option linter.unusedVariables false

theorem below_three (w : World) (o o' o'' : Obj) : Below w.heap.size w (((w.alloc o).alloc o').alloc o'') := (((Below.refl _ w).alloc (Nat.le_refl _) _).alloc (by simp) _).alloc (by simp; omega) _
set_option maxHeartbeats 400000 in
theorem lesser_any (why : Int) (w : World) : Calls Try.prog 84 #[.int .i64 why] w fun e w' => e = .returned (.int .i64 (lesser why)) ∧ w' = w := by
  unfold lesser
  by_cases h : why = 0
  · subst h
    go_enter Try.func84, Try.ntmps84
    go_wp2
    go_ret
    exact ⟨by simp, rfl⟩
  · have hb : (why == 0) = false := by simpa using h
    rw [if_neg h]
    clear h
    go_enter Try.func84, Try.ntmps84
    go_wp2
    go_ret
    exact ⟨rfl, rfl⟩
set_option maxHeartbeats 400000 in
theorem says_any (why : Int) (w : World) : Calls Try.prog 75 #[.int .i64 why] w fun e w' => e = .returned (.bool (mute why)) ∧ w' = w := by
  unfold mute
  by_cases h1 : why = 5
  · subst h1
    go_enter Try.func75, Try.ntmps75
    go_wp2
    go_ret
    exact ⟨rfl, rfl⟩
  · have b1 : (why == 5) = false := by simpa using h1
    by_cases h2 : why = 1
    · subst h2
      go_enter Try.func75, Try.ntmps75
      go_wp2
      go_ret
      exact ⟨rfl, rfl⟩
    · have b2 : (why == 1) = false := by simpa using h2
      by_cases h3 : why = 2
      · subst h3
        go_enter Try.func75, Try.ntmps75
        go_wp2
        go_ret
        exact ⟨rfl, rfl⟩
      · have b3 : (why == 2) = false := by simpa using h3
        rw [decide_eq_false h1, decide_eq_false h2, decide_eq_false h3]
        clear h1 h2 h3
        go_enter Try.func75, Try.ntmps75
        go_wp2
        go_ret
        exact ⟨rfl, rfl⟩

end Go.Proofs.Ytogbcciocgpknaa
