/- Bytes as a text: the conversion, and when two are the same. -/
import Derived.Test.YtcmhkeaimgppgaaGaA
import Derived.Laws.BytesArg
import Derived.Laws.IdiomStrings
import Derived.Lib.BufferRead
import Derived.Deep.RegionHeld3
import Derived.Laws.Rows
import Derived.Maps.AppendAt
import Derived.Laws.Tables
namespace Go.Proofs.Ytcmhkeaimgppgaa
open Go.RowKit
set_option linter.unusedVariables false

/-- Bytes as a text. -/
def textOf (A : List (BitVec 8)) : ByteArray := ⟨(A.map UInt8.ofBitVec).toArray⟩
theorem run_to_text (w : World) (aa : Option Addr) (la ca : Nat) (A : List (BitVec 8)) (hA : Seen w aa la A) : (convert 26 9 (.slice aa la ca)).run Try.prog w = .ok (.string (textOf A)) w := by
  cases aa with
  | none =>
    obtain ⟨h1, h2, h3⟩ := hA
    have hla : la = 0 := by
      rcases h3 with h3 | ⟨b, off, h, _⟩
      · exact h3
      · cases h
    subst hla
    have hAn : A = [] := List.eq_nil_of_length_eq_zero h1.symm
    subst hAn
    exact Lib.run_convert_nil_bytes w 26 9 5 ca Try.underlying26 Try.underlying5 Try.underlying9
  | some x =>
    have hn := append_news hA x rfl
    have hl : (A.map UInt8.ofBitVec).length = la := by rw [List.length_map]; exact hA.1.symm
    have := run_convert_bytes_back (P := Try.prog) w 26 9 5 x ca (A.map UInt8.ofBitVec) Try.underlying26 Try.underlying5 Try.underlying9 (fun j hj => by
      have hj' : j < A.length := by simpa using hj
      rw [hn j (.int .u8 (V A[j])) (by simp [cellsOf, hj'])]
      simp [V])
    rw [hl] at this
    exact this
theorem textOf_inj {A B : List (BitVec 8)} (h : textOf A = textOf B) : A = B := by
  have h1 : (A.map UInt8.ofBitVec).toArray = (B.map UInt8.ofBitVec).toArray := congrArg ByteArray.data h
  have h2 : A.map UInt8.ofBitVec = B.map UInt8.ofBitVec := by simpa using h1
  exact (List.map_inj_right (fun x y e => by simpa using congrArg UInt8.toBitVec e)).1 h2
theorem text_ne {s t : ByteArray} (h : s ≠ t) : (s.toList == t.toList) = false := by
  have : s.toList ≠ t.toList := fun e => h (by
    rw [ByteArray.toList_eq, ByteArray.toList_eq] at e
    cases s with | mk s => cases t with | mk t => simp at e; rw [e])
  simpa using this
theorem text_self (s : ByteArray) : (s.toList == s.toList) = true := by simp
theorem textOf_bytesL (s : ByteArray) : textOf (bytesL s) = s := by
  unfold textOf bytesL
  apply ByteArray.ext
  have : (UInt8.ofBitVec ∘ fun c : UInt8 => c.toBitVec) = id := rfl
  simp [this]
end Go.Proofs.Ytcmhkeaimgppgaa

namespace Go.Proofs.Ytcmhkeaimgppgaa
open Go.RowKit
set_option linter.unusedVariables false

section
variable {P : Program} {ops : Array Oper} {Q : Exit → Act → World → Prop} {md : Region.Mode} {S S' : World → Prop}
/-- What is held may grow. -/
theorem held_more (h : ∀ w, S' w → S w) : ∀ (fuel : Nat) (listed : Array Bool) (a : Act) (w : World), wpAnyH P md ops Q S' fuel listed a w → wpAnyH P md ops Q S fuel listed a w
  | 0, _, _, _, hh => hh
  | fuel + 1, _, _, _, hh => ⟨hh.1, fun i hi => wpOp_mono (fun a' w' h' => ⟨h w' h'.1, held_more h fuel _ a' w' h'.2⟩) (hh.2 i hi)⟩
/-- An operation that yields the same in every world that meets what is held. -/
theorem take_run {i : Nat} {oi : Oper} {v : Value} {fuel : Nat} {listed : Array Bool} {a : Act} {w : World} (hi : ops[i]? = some oi)
    (hs : Region.noSelect ops = true) (hf : Region.free md ops listed i = true) (hr : (Region.ready md ops listed).contains i = true)
    (hQ : ∀ c a w, Q (.panic c) (a.put oi.dst v) w → Q (.panic c) a w) (hw : Region.wanted oi (yielded ops a.tmps) = true) (hv : ∀ w, S w → (execOp a.eval oi).run P w = .ok (.value v) w) (hS : S w)
    (h : wpAnyH P md ops Q S fuel (listed.setIfInBounds i true) (a.put oi.dst v) w) : wpAnyH P md ops Q S (fuel + 1) listed a w :=
  wpAnyH_take hi hs hf hr hQ (.inl ⟨hw, hv⟩) hS h
/-- A struct is read. -/
theorem take_row {i : Nat} {oi : Oper} {fuel : Nat} {listed : Array Bool} {a : Act} {w : World} (hi : ops[i]? = some oi)
    (hs : Region.noSelect ops = true) (hf : Region.free md ops listed i = true) (hr : (Region.ready md ops listed).contains i = true) (ty : TypeId) (x : Operand) (g : Nat) (t : TypeId) (cs : Array Value) (fr : Nat × Nat) (d : TypeDesc)
    (hQ : ∀ c a w, Q (.panic c) (a.put oi.dst (.agg cs)) w → Q (.panic c) a w) (hw : Region.wanted oi (yielded ops a.tmps) = true) (ho : oi.op = .load ty x)
    (hx : a.eval x = .pointer (some ⟨g, 0, none⟩)) (hg : ∀ w, S w → w.heap[g]? = some (.cells cs t fr))
    (hu : P.underlying ty = some d) (hd : (match d with | .struct _ | .array _ _ => true | _ => false) = true) (hz : (P.info? ty).map (·.size) = some cs.size) (hS : S w)
    (h : wpAnyH P md ops Q S fuel (listed.setIfInBounds i true) (a.put oi.dst (.agg cs)) w) : wpAnyH P md ops Q S (fuel + 1) listed a w :=
  take_run hi hs hf hr hQ hw (fun w' hS' => by
    unfold execOp
    simp only [ho, hx, Instr.loadAt, Instr.sureAddr, Sem.run_bind, Sem.run_pure, Result.andThen_ok, run_loadVar_row w' g t ty cs fr d (hg w' hS') hu hd hz]) hS h
/-- Bytes become a text. -/
theorem take_text {i : Nat} {oi : Oper} {fuel : Nat} {listed : Array Bool} {a : Act} {w : World} (hi : ops[i]? = some oi)
    (hs : Region.noSelect ops = true) (hf : Region.free md ops listed i = true) (hr : (Region.ready md ops listed).contains i = true) (t1 t2 : TypeId) (x : Operand) (u v : Value)
    (hQ : ∀ c a w, Q (.panic c) (a.put oi.dst v) w → Q (.panic c) a w) (hw : Region.wanted oi (yielded ops a.tmps) = true) (ho : oi.op = .convert t1 t2 x)
    (hx : a.eval x = u) (hc : ∀ w, S w → (convert t1 t2 u).run P w = .ok v w) (hS : S w)
    (h : wpAnyH P md ops Q S fuel (listed.setIfInBounds i true) (a.put oi.dst v) w) : wpAnyH P md ops Q S (fuel + 1) listed a w :=
  take_run hi hs hf hr hQ hw (fun w' hS' => by
    unfold execOp
    simp only [ho, hx, Sem.run_bind, Sem.run_pure, Result.andThen_ok, hc w' hS']) hS h
/-- An operation that makes memory: the one that may come up. -/
theorem take_make {i : Nat} {oi : Oper} {v : Value} {fuel : Nat} {listed : Array Bool} {a : Act} {w w' : World} (hi : ops[i]? = some oi) (hr : Region.ready md ops listed = [i]) (hw : Region.wanted oi (yielded ops a.tmps) = true)
    (hx : (execOp a.eval oi).run P w = .ok (.value v) w') (hS : S w') (h : wpAnyH P md ops Q S fuel (listed.setIfInBounds i true) (a.put oi.dst v) w') : wpAnyH P md ops Q S (fuel + 1) listed a w := by
  refine wpAnyH_all (rs := [i]) hr (by simp) (fun j hj => ?_)
  obtain rfl : j = i := by simpa using hj
  unfold wpOp
  simp only [hi, hw, if_true, Oper.wp, hx]
  rw [Oper.upon_value]
  exact .inl ⟨hS, h⟩
/-- A call: the one operation that may come up. -/
theorem take_call {i : Nat} {oi : Oper} {fuel : Nat} {listed : Array Bool} {a : Act} {w : World} (hi : ops[i]? = some oi) (hr : Region.ready md ops listed = [i]) (hw : Region.wanted oi (yielded ops a.tmps) = true)
    (f : FuncId) (args : Array Value) (hx : (execOp a.eval oi).run P w = .ok (.enter f args) w)
    (h : Calls P f args w fun e w' => ∃ v, e = .returned v ∧ S w' ∧ wpAnyH P md ops Q S fuel (listed.setIfInBounds i true) (a.put oi.dst v) w') : wpAnyH P md ops Q S (fuel + 1) listed a w := by
  refine wpAnyH_all (rs := [i]) hr (by simp) (fun j hj => ?_)
  obtain rfl : j = i := by simpa using hj
  unfold wpOp
  simp only [hi, hw, if_true, Oper.wp, hx]
  rw [Oper.upon_enter]
  refine .inl (h.mono fun e w' ⟨v, he, hS, hh⟩ => ?_)
  subst he
  exact ⟨hS, hh⟩
end
end Go.Proofs.Ytcmhkeaimgppgaa

namespace Go.Proofs.Ytcmhkeaimgppgaa
open Go.RowKit
set_option linter.unusedVariables false

section
variable {α : Type} {enc : α → List Value} {K : Nat}
/-- Things one behind the other. -/
def flat (enc : α → List Value) (l : List α) : List Value := l.flatMap enc
theorem flat_append (a b : List α) : flat enc (a ++ b) = flat enc a ++ flat enc b := by simp [flat]
theorem flat_length (hK : ∀ x, (enc x).length = K) : ∀ l : List α, (flat enc l).length = l.length * K
  | [] => by simp [flat]
  | x :: l => by
    have ih := flat_length hK l
    simp only [flat, List.flatMap_cons, List.length_append, List.length_cons] at ih ⊢
    rw [ih, hK, Nat.add_mul]
    omega
theorem flat_at (hK : ∀ x, (enc x).length = K) : ∀ (l : List α) (i : Nat) (hi : i < l.length) (j : Nat), j < K → (flat enc l)[i * K + j]? = (enc l[i])[j]?
  | x :: l, 0, _, j, hj => by
    simp only [flat, List.flatMap_cons, List.getElem_cons_zero]
    rw [List.getElem?_append_left (by rw [hK]; omega)]
    simp
  | x :: l, i + 1, hi, j, hj => by
    have ih := flat_at hK l i (by simpa using hi) j hj
    simp only [flat, List.flatMap_cons, List.getElem_cons_succ] at ih ⊢
    rw [List.getElem?_append_right (by rw [hK, Nat.add_mul]; omega), ← ih]
    congr 1
    rw [hK, Nat.add_mul]
    omega
/-- They lie in a slice. -/
def RecsAt (enc : α → List Value) (K : Nat) (w : World) (a : Option Addr) (n : Nat) (l : List α) : Prop :=
  n = l.length ∧ (n = 0 ∨ ∃ b off, a = some ⟨b, off, none⟩ ∧ b < w.heap.size ∧ ∀ i (hi : i < l.length) j v, (enc l[i])[j]? = some v → w.cell? ⟨b, off + i * K + j, none⟩ = some v)
theorem RecsAt.below {w w' : World} {a : Option Addr} {n : Nat} {l : List α} (h : RecsAt enc K w a n l) (b : Below w.heap.size w w') : RecsAt enc K w' a n l := by
  refine ⟨h.1, h.2.imp id ?_⟩
  rintro ⟨g, o, e, hb, hc⟩
  exact ⟨g, o, e, Nat.lt_of_lt_of_le hb b.size, fun i hi j v hv => (b.cell (p := ⟨g, o + i * K + j, none⟩) hb).trans (hc i hi j v hv)⟩
theorem RecsAt.at {w : World} {a : Option Addr} {n : Nat} {l : List α} (h : RecsAt enc K w a n l) {i : Nat} (hi : i < l.length) : ∃ b off, a = some ⟨b, off, none⟩ ∧ ∀ j v, (enc l[i])[j]? = some v → w.cell? ⟨b, off + i * K + j, none⟩ = some v := by
  rcases h.2 with h0 | ⟨g, o, e, _, hc⟩
  · have := h.1; omega
  · exact ⟨g, o, e, hc i hi⟩
theorem row_form {w : World} {base n : Nat} {v : Value} {xs : List Value} {t : TypeId} {s : Nat} (h : w.ownsRow base t s v n xs) : ∃ a c, v = .slice a n c ∧ (a = none → c = 0) ∧ n ≤ c ∧ c ≤ maxLen ∧ (∀ x, a = some x → x = ⟨x.block, 0, none⟩ ∧ ∃ cur, w.heap[x.block]? = some (.cells cur t (0, 0)) ∧ cur.size = c * s) := by
  rcases h.2 with ⟨rfl, rfl⟩ | ⟨g, c, cur, rfl, hb, hg, hnc, hcm, hcs, _⟩
  · exact ⟨none, 0, rfl, fun _ => rfl, Nat.le_refl _, Nat.zero_le _, fun x e => by cases e⟩
  · exact ⟨_, c, rfl, (fun e => by cases e), hnc, hcm, fun x e => by cases e; exact ⟨rfl, cur, hg, hcs⟩⟩
theorem owns_kept {w w' : World} {base : Nat} {v : Value} {n : Nat} {xs : List Value} {t : TypeId} {s : Nat} (h : w.ownsRow base t s v n xs) (k : ∀ g, v.ownBlock = some g → w'.heap[g]? = w.heap[g]?) : w'.ownsRow base t s v n xs := by
  refine ⟨h.1, h.2.imp id ?_⟩
  rintro ⟨g, cap, cur, rfl, hb, hg, hr⟩
  exact ⟨g, cap, cur, rfl, hb, by rw [k g rfl]; exact hg, hr⟩
theorem row_kind {w : World} {base : Nat} {v : Value} {n : Nat} {xs : List Value} {t : TypeId} {s : Nat} (h : w.ownsRow base t s v n xs) {g : Nat} (e : v.ownBlock = some g) : base ≤ g ∧ g < w.heap.size ∧ ∃ cur, w.heap[g]? = some (.cells cur t (0, 0)) := by
  rcases h.2 with ⟨e1, _⟩ | ⟨g', c, cur, e1, hb, hg, _⟩
  · rw [e1] at e; cases e
  · rw [e1] at e
    cases e
    exact ⟨hb, (Array.getElem?_eq_some_iff.1 hg).1, cur, hg⟩
theorem recs_owned (hK : ∀ x, (enc x).length = K) {w : World} {base n : Nat} {v : Value} {t : TypeId} {l : List α} (h : w.ownsRow base t K v n (flat enc l)) (hn : n = l.length) : ∃ a c, v = .slice a n c ∧ RecsAt enc K w a n l ∧ (a = none → c = 0) := by
  subst hn
  obtain ⟨a, c, e, h0, _⟩ := row_form h
  refine ⟨a, c, e, ⟨rfl, ?_⟩, h0⟩
  rcases h.2 with ⟨e1, h0⟩ | ⟨g, cap, cur, e1, hb, hg, hnc, hcm, hcs, htake⟩
  · exact .inl h0
  · rw [e] at e1
    cases e1
    refine .inr ⟨g, 0, rfl, (Array.getElem?_eq_some_iff.1 hg).1, fun i hi j v hv => ?_⟩
    have hj : j < K := by have := (List.getElem?_eq_some_iff.1 hv).1; rwa [hK] at this
    have q := flat_at hK l i hi j hj
    rw [← htake, List.getElem?_take, if_pos (by
      calc i * K + j < i * K + K := by omega
        _ = (i + 1) * K := by rw [Nat.add_mul]; omega
        _ ≤ l.length * K := Nat.mul_le_mul_right _ hi), hv] at q
    rw [Nat.zero_add]
    simp only [World.cell?, hg]
    simpa using q
end
/-- A transfer. -/
structure TxnD where
  id : ByteArray
  fr : ByteArray
  ky : ByteArray
  to : ByteArray
  n : Int
  done : Bool
  why : Int
def TxnD.cells (t : TxnD) : List Value := [.string t.id, .string t.fr, .string t.ky, .string t.to, .int .i64 t.n, .bool t.done, .int .i64 t.why]
theorem TxnD.cells7 (t : TxnD) : t.cells.length = 7 := rfl
/-- A command's parts. -/
structure CmdV where
  k : Int
  ok : Int
  of_ : ByteArray
  ot : ByteArray
  oa : Int
  oy : ByteArray
  os : Int
  oh : Int
  id : ByteArray
  nm : ByteArray
  n : Int
  why : Int
  slot : Int
  ep : Int
  at_ : Int
  last : Bool
  data : Value
def CmdV.cells (c : CmdV) : List Value := [.int .i64 c.k, .int .i64 c.ok, .string c.of_, .string c.ot, .int .i64 c.oa, .string c.oy, .int .i64 c.os, .int .i64 c.oh, .string c.id, .string c.nm, .int .i64 c.n, .int .i64 c.why, .int .i64 c.slot, .int .i64 c.ep, .int .i64 c.at_, .bool c.last, c.data]
theorem CmdV.cells17 (c : CmdV) : c.cells.length = 17 := rfl
def noText : ByteArray := ⟨#[]⟩
def CmdV.zero : CmdV := ⟨0, 0, noText, noText, 0, noText, 0, 0, noText, noText, 0, 0, 0, 0, 0, false, .slice none 0 0⟩
/-- What another shard is to do for a transfer. -/
def lesser (why : Int) : Int := if why = 0 then 0 else 50
def wantC (t : TxnD) : CmdV := if t.done = true then { CmdV.zero with k := 4, id := t.id, nm := t.to, why := lesser t.why } else { CmdV.zero with k := 2, id := t.id, nm := t.to, n := t.n }
/-- An ask: a group, a command. -/
abbrev AskV := Int × CmdV
def AskV.cells (a : AskV) : List Value := .int .i64 a.1 :: a.2.cells
theorem askCells18 (a : AskV) : (AskV.cells a).length = 18 := rfl
/-- What follows an answer. -/
def mute (why : Int) : Bool := decide (why = 5) || decide (why = 1) || decide (why = 2)
def nextC (c : CmdV) (why : Int) : CmdV × Bool :=
  if mute why = true then (CmdV.zero, false) else if c.k = 2 then ({ CmdV.zero with k := 3, id := c.id, why := why }, true) else if c.k = 4 ∧ why = 0 then ({ CmdV.zero with k := 5, id := c.id }, true) else (CmdV.zero, false)
theorem heap_two (w : World) (o o' : Obj) : ((w.alloc o).alloc o').heap[w.heap.size + 1]? = some o' := by simpa using heap_alloc_new (w.alloc o) o'
theorem heap_three (w : World) (o o' o'' : Obj) : (((w.alloc o).alloc o').alloc o'').heap[w.heap.size + 2]? = some o'' := by simpa using heap_alloc_new ((w.alloc o).alloc o') o''
/-- A struct that stands in a cell, and a value. -/
theorem results_ct {P : Program} {fn : Func} {p u : Tmp} {ty : TypeId} (h : fn.results = #[.cell p ty, .tmp u]) (tmps : Array Value) (w : World) (g : Nat) (t : TypeId) (cs : Array Value) (fr : Nat × Nat) (d : TypeDesc)
    (hp : tmps.getD p undef = .pointer (some ⟨g, 0, none⟩)) (hg : w.heap[g]? = some (.cells cs t fr))
    (hu : P.underlying ty = some d) (hd : (match d with | .struct _ | .array _ _ => true | _ => false) = true) (hi : (P.info? ty).map (·.size) = some cs.size) :
    (results fn tmps).run P w = .ok (.tuple #[.agg cs, tmps.getD u undef]) w := by
  rw [results_cell_tmp h, hp]
  simp [asAddr, run_loadVar_row w g t ty cs fr d hg hu hd hi]
end Go.Proofs.Ytcmhkeaimgppgaa

namespace Go.Proofs.Ytcmhkeaimgppgaa
open Go.RowKit
set_option linter.unusedVariables false

theorem owns_empty (w : World) (base : Nat) (hb : base ≤ w.heap.size) : (w.alloc (.cells #[] 5)).ownsRow base 5 1 (.slice (some ⟨w.heap.size, 0, none⟩) 0 0) 0 (cellsOf []) :=
  ⟨rfl, .inr ⟨w.heap.size, 0, #[], rfl, hb, heap_alloc_new w _, Nat.le_refl _, by unfold maxLen; omega, rfl, rfl⟩⟩

set_option maxHeartbeats 400000 in
theorem clone_any (a : Option Addr) (len cap : Nat) (l : List (BitVec 8)) (w : World) (h : Seen w a len l) (hnil : a = none → cap = 0) (hm : len ≤ 140737488355328) :
    Calls Try.prog 37 #[.slice a len cap] w fun e w' => ∃ v, e = .returned v ∧ w'.ownsRow w.heap.size 5 1 v len (cellsOf l) ∧ Below w.heap.size w w' := by
  have qT : ∀ (w : World) (a : Option Addr) (n c n' c' : Nat), (binOp .eql 26 (.slice a n c) (.slice none n' c')).run Try.prog w = .ok (.bool a.isNone) w := fun w a n c n' c' => Lib.run_eql_slice_nil w _ _ a n c n' c' Try.underlying26
  cases a with
  | none =>
    obtain ⟨h1, h2, h3⟩ := h
    have h0 : len = 0 := by
      rcases h3 with h3 | ⟨b, off, h, _⟩
      · exact h3
      · cases h
    subst h0
    obtain rfl : l = [] := List.eq_nil_of_length_eq_zero h1.symm
    obtain rfl := hnil rfl
    clear h1 h2 h3 hnil hm
    go_enter Try.func37, Try.ntmps37
    go_wp2
    go_ret
    exact ⟨_, rfl, World.ownsRow_nil _ _ _ _, Below.refl _ _⟩
  | some x =>
    have hs : Seen (w.alloc (.cells #[] 5)) (some x) len l := h.below ((Below.refl _ w).alloc (Nat.le_refl _) _)
    obtain ⟨v', w', hr, hown, hgrow⟩ := run_append_bytes 26 (w.alloc (.cells #[] 5)) w.heap.size _ 0 [] (owns_empty w w.heap.size (Nat.le_refl _)) (some x) len cap l hs (fun e => by cases e) (by omega) (by simp)
    rw [List.nil_append, Nat.zero_add] at hown
    have HR : Hid _ := hr
    have HB : Hid (Below w.heap.size w w') := ((Below.refl _ w).alloc (Nat.le_refl _) _).grown hgrow (by simp) (fun k e => by cases e; exact Nat.le_refl _)
    have HO : Hid _ := hown
    clear h hs hnil hm hr hgrow hown
    go_enter Try.func37, Try.ntmps37
    go_wp2_with (at_builtin; refine wpList_append_known rfl (.tmp 5) (.tmp 6) 26 26 rfl _ _ rfl rfl _ _ HR.out ?_)
    go_ret
    exact ⟨_, rfl, HO.out, HB.out⟩
end Go.Proofs.Ytcmhkeaimgppgaa

namespace Go.Proofs.Ytcmhkeaimgppgaa
open Go.RowKit
set_option linter.unusedVariables false

/-- Nothing but one block has changed. -/
structure OnlyR (w w' : World) (R : Nat) : Prop where
  os : w'.os = w.os
  tape : w'.tape = w.tape
  output : w'.output = w.output
  size : w.heap.size ≤ w'.heap.size
  block : ∀ k, k < w.heap.size → k ≠ R → w'.heap[k]? = w.heap[k]?
section
variable {w w' w'' : World} {R : Nat}
theorem OnlyR.refl (w : World) (R : Nat) : OnlyR w w R := ⟨rfl, rfl, rfl, Nat.le_refl _, fun _ _ _ => rfl⟩
theorem OnlyR.trans (h : OnlyR w w' R) (g : OnlyR w' w'' R) : OnlyR w w'' R :=
  ⟨g.os.trans h.os, g.tape.trans h.tape, g.output.trans h.output, Nat.le_trans h.size g.size, fun k hk hn => (g.block k (Nat.lt_of_lt_of_le hk h.size) hn).trans (h.block k hk hn)⟩
theorem OnlyR.of_below (h : Below w.heap.size w w') (R : Nat) : OnlyR w w' R := ⟨h.os, h.tape, h.output, h.size, fun k hk _ => h.block k hk⟩
theorem OnlyR.drewN (h : OnlyR w w' R) (n : Nat) : OnlyR w (w'.drewN n) R := ⟨h.os, h.tape, h.output, h.size, h.block⟩
theorem OnlyR.alloc (h : OnlyR w w' R) (o : Obj) : OnlyR w (w'.alloc o) R := h.trans (.of_below ((Below.refl _ w').alloc (Nat.le_refl _) o) R)
theorem OnlyR.toBelow {B : Nat} (h : OnlyR w w' R) (hB : B ≤ R) (hs : B ≤ w.heap.size) : Below B w w' := ⟨h.os, h.tape, h.output, h.size, fun k hk => h.block k (by omega) (by omega)⟩
theorem OnlyR.set (h : OnlyR w w' R) (k : Nat) (v : Value) : OnlyR w (w'.setCell ⟨R, k, none⟩ v) R :=
  h.trans ⟨rfl, rfl, rfl, by simp, fun j _ hn => Below.heap_setCell _ _ _ _ hn⟩
theorem OnlyR.setRow (h : OnlyR w w' R) (cs : Array Value) : OnlyR w (w'.setRow R cs) R :=
  h.trans ⟨rfl, rfl, rfl, by simp [World.setRow], fun j _ hn => setRow_other _ _ _ _ hn⟩
theorem OnlyR.other (h : OnlyR w w' R) {Q : Nat} (hQ : w.heap.size ≤ Q) (k : Nat) (v : Value) : OnlyR w (w'.setCell ⟨Q, k, none⟩ v) R :=
  ⟨h.os, h.tape, h.output, by simpa using h.size, fun j hj hn => (Below.heap_setCell _ _ _ _ (by show j ≠ Q; omega)).trans (h.block j hj hn)⟩
end
/-- What a mover is: the number of its move, whether it has the bytes, the bytes, how many have gone. -/
structure MD where
  n : Int
  has : Bool
  d : List (BitVec 8)
  at_ : Nat
def MD.zero : MD := ⟨0, false, [], 0⟩
/-- A move. -/
structure MvD where
  slot : Int
  fr : Int
  to : Int
  ep : Int
  ph : Int
  n : Int
def MvD.cells (x : MvD) : List Value := [.int .i64 x.slot, .int .i64 x.fr, .int .i64 x.to, .int .i64 x.ep, .int .i64 x.ph, .int .i64 x.n]
def knowM (M : MD) (x : MvD) : MD := if x.ph = 0 then MD.zero else if x.n = M.n then M else { MD.zero with n := x.n }
/-- From where on its own blocks lie, and which blocks may be those of its bytes. -/
structure Bs where
  n : Nat
  D : Nat → Prop
instance : Coe Nat Bs := ⟨fun n => ⟨n, fun g => n ≤ g⟩⟩
def Bs.ok (b : Bs) (s : Nat) : Prop := b.n ≤ s ∧ ∀ g, s ≤ g → b.D g
theorem Bs.ok.mono {b : Bs} {s s' : Nat} (h : b.ok s) (hs : s ≤ s') : b.ok s' := ⟨Nat.le_trans h.1 hs, fun g hg => h.2 g (Nat.le_trans hs hg)⟩
theorem Bs.of {n s : Nat} (h : n ≤ s) : (n : Bs).ok s := ⟨h, fun g hg => Nat.le_trans h hg⟩
/-- Bytes of its own. -/
def OwnB (w : World) (b : Bs) (v : Value) (n : Nat) (l : List Value) : Prop := w.ownsRow b.n 5 1 v n l ∧ ∀ g, v.ownBlock = some g → b.D g
theorem OwnB.nil (w : World) (b : Bs) : OwnB w b (.slice none 0 0) 0 [] := ⟨World.ownsRow_nil _ _ _ _, fun g e => by cases e⟩
/-- A mover in memory. -/
structure MvIn (w : World) (base : Bs) (G : Nat) (M : MD) : Prop where
  ex : ∃ a c, w.heap[G]? = some (.cells #[.int .i64 M.n, .bool M.has, .slice a M.d.length c, .int .i64 M.at_] 74 (0, 0)) ∧ OwnB w base (.slice a M.d.length c) M.d.length (cellsOf M.d)
  bG : base.n ≤ G
  fits : M.at_ ≤ M.d.length
  len : M.d.length ≤ 140737488351232
section
variable {w w' : World} {base : Bs} {G : Nat} {M : MD}
theorem MvIn.lt (h : MvIn w base G M) : G < w.heap.size := by obtain ⟨a, c, h1, _⟩ := h.ex; exact (Array.getElem?_eq_some_iff.1 h1).1
theorem MvIn.kept (h : MvIn w base G M) (k : ∀ g, g < w.heap.size → w'.heap[g]? = w.heap[g]?) : MvIn w' base G M := by
  obtain ⟨a, c, h1, h2⟩ := h.ex
  exact ⟨⟨a, c, (k _ h.lt).trans h1, owns_kept h2.1 (fun g e => k g (row_kind h2.1 e).2.1), h2.2⟩, h.bG, h.fits, h.len⟩
theorem MvIn.below (h : MvIn w base G M) (b : Below w.heap.size w w') : MvIn w' base G M := h.kept (fun g hg => b.block g hg)
theorem MvIn.alloc (h : MvIn w base G M) (o : Obj) : MvIn (w.alloc o) base G M := h.below ((Below.refl _ w).alloc (Nat.le_refl _) o)
theorem MvIn.drewN (h : MvIn w base G M) (q : Nat) : MvIn (w.drewN q) base G M := ⟨h.ex, h.bG, h.fits, h.len⟩
/-- Another block is changed that is no block of bytes. -/
theorem MvIn.other (h : MvIn w base G M) {Q : Nat} {o : Obj} (hQ : Q ≠ G) (ho : w.heap[Q]? = some o) (hn : ∀ cur z, o ≠ .cells cur 5 z) (k : ∀ g, g ≠ Q → g < w.heap.size → w'.heap[g]? = w.heap[g]?) : MvIn w' base G M := by
  obtain ⟨a, c, h1, h2⟩ := h.ex
  refine ⟨⟨a, c, (k _ (Ne.symm hQ) h.lt).trans h1, owns_kept h2.1 (fun g e => ?_), h2.2⟩, h.bG, h.fits, h.len⟩
  obtain ⟨_, hl, cur, hc⟩ := row_kind h2.1 e
  refine k g (fun e2 => ?_) hl
  subst e2
  rw [ho] at hc
  injection hc with hc
  exact hn _ _ hc
/-- Its own block is another row. -/
theorem MvIn.row (h : MvIn w base G M) (M' : MD) {a : Option Addr} {c : Nat} (hg : w'.heap[G]? = some (.cells #[.int .i64 M'.n, .bool M'.has, .slice a M'.d.length c, .int .i64 M'.at_] 74 (0, 0))) (ho : OwnB w' base (.slice a M'.d.length c) M'.d.length (cellsOf M'.d)) (hf : M'.at_ ≤ M'.d.length) (hl : M'.d.length ≤ 140737488351232) : MvIn w' base G M' :=
  ⟨⟨a, c, hg, ho⟩, h.bG, hf, hl⟩
theorem MvIn.zero (h : MvIn w base G M) (n : Int) (hg : w'.heap[G]? = some (.cells #[.int .i64 n, .bool false, .slice none 0 0, .int .i64 0] 74 (0, 0))) : MvIn w' base G { MD.zero with n := n } :=
  ⟨⟨none, 0, hg, OwnB.nil _ _⟩, h.bG, Nat.le_refl _, by simp [MD.zero]⟩
end
theorem setRow_self {w : World} {g : Nat} {cs cs' : Array Value} {t : TypeId} {fr : Nat × Nat} (h : w.heap[g]? = some (.cells cs t fr)) : (w.setRow g cs').heap[g]? = some (.cells cs' t fr) := setRow_heap w g cs cs' t fr h
end Go.Proofs.Ytcmhkeaimgppgaa

namespace Go.Proofs.Ytcmhkeaimgppgaa
open Go.RowKit
attribute [local go_sem] Oper.semAt_some
set_option linter.unusedVariables false

theorem mnew_any (w : World) : Calls Try.prog 6 #[] w fun e w' => e = .returned (.pointer (some ⟨w.heap.size, 0, none⟩)) ∧ MvIn w' w.heap.size w.heap.size MD.zero ∧ Below w.heap.size w w' := by
  go_enter Try.func6, Try.ntmps6
  go_wp2
  go_ret
  exact ⟨rfl, ⟨⟨none, 0, heap_alloc_new w _, OwnB.nil _ _⟩, Nat.le_refl _, Nat.le_refl _, by simp [MD.zero]⟩, (Below.refl _ w).alloc (Nat.le_refl _) _⟩
theorem mhas_nil (w : World) : Calls Try.prog 17 #[.pointer none] w fun e w' => e = .returned (.int .i64 0) ∧ w' = w := by
  go_enter Try.func17, Try.ntmps17
  go_wp2
  go_ret
  exact ⟨rfl, rfl⟩
theorem mat_nil (w : World) : Calls Try.prog 19 #[.pointer none] w fun e w' => e = .returned (.int .i64 0) ∧ w' = w := by
  go_enter Try.func19, Try.ntmps19
  go_wp2
  go_ret
  exact ⟨rfl, rfl⟩
theorem mat_any {w : World} {base : Bs} {G : Nat} {M : MD} (h : MvIn w base G M) : Calls Try.prog 19 #[.pointer (some ⟨G, 0, none⟩)] w fun e w' => e = .returned (.int .i64 M.at_) ∧ w' = w := by
  obtain ⟨a, c, h1, _⟩ := h.ex
  have c3 : w.cell? ⟨G, 3, none⟩ = some (.int .i64 M.at_) := by simp [World.cell?, h1]
  clear h h1
  go_enter Try.func19, Try.ntmps19
  go_wp2
  go_ret
  exact ⟨rfl, rfl⟩
theorem mhas_any {w : World} {base : Bs} {G : Nat} {M : MD} (h : MvIn w base G M) : Calls Try.prog 17 #[.pointer (some ⟨G, 0, none⟩)] w fun e w' => e = .returned (.int .i64 (if M.has = true then (M.d.length : Int) else -1)) ∧ w' = w := by
  obtain ⟨a, c, h1, _⟩ := h.ex
  have c1 : w.cell? ⟨G, 1, none⟩ = some (.bool M.has) := by simp [World.cell?, h1]
  have c2 : w.cell? ⟨G, 2, none⟩ = some (.slice a M.d.length c) := by simp [World.cell?, h1]
  clear h h1
  obtain ⟨n, has, d, at_⟩ := M
  dsimp only at c1 c2 ⊢
  generalize d.length = k at *
  go_enter Try.func17, Try.ntmps17
  cases has
  · go_wp2
    go_ret
    exact ⟨rfl, rfl⟩
  · go_wp2
    go_ret
    exact ⟨rfl, rfl⟩
set_option maxHeartbeats 800000 in
theorem know_any {w : World} {base : Bs} {G : Nat} {M : MD} (h : MvIn w base G M) (x : MvD) : Calls Try.prog 24 #[.pointer (some ⟨G, 0, none⟩), .agg #[.int .i64 x.slot, .int .i64 x.fr, .int .i64 x.to, .int .i64 x.ep, .int .i64 x.ph, .int .i64 x.n]] w fun e w' => (∃ v, e = .returned v) ∧ MvIn w' base G (knowM M x) ∧ OnlyR w w' G := by
  obtain ⟨a, c, h1, h2⟩ := h.ex
  obtain ⟨sl, fr, to, ep, ph, n⟩ := x
  have hA := h.alloc (.cells #[.int .i64 sl, .int .i64 fr, .int .i64 to, .int .i64 ep, .int .i64 ph, .int .i64 n] 47)
  have hO := (OnlyR.refl w G).alloc (.cells #[.int .i64 sl, .int .i64 fr, .int .i64 to, .int .i64 ep, .int .i64 ph, .int .i64 n] 47)
  have g1 : (w.alloc (.cells #[.int .i64 sl, .int .i64 fr, .int .i64 to, .int .i64 ep, .int .i64 ph, .int .i64 n] 47)).heap[G]? = some (.cells #[.int .i64 M.n, .bool M.has, .slice a M.d.length c, .int .i64 M.at_] 74 (0, 0)) := (Below.heap_alloc _ _ _ h.lt).trans h1
  have c0 : (w.alloc (.cells #[.int .i64 sl, .int .i64 fr, .int .i64 to, .int .i64 ep, .int .i64 ph, .int .i64 n] 47)).cell? ⟨G, 0, none⟩ = some (.int .i64 M.n) := by simp only [World.cell?, g1]; rfl
  clear h1 h2 h
  have HA : Hid _ := hA
  have HO : Hid _ := hO
  have HG : Hid _ := g1
  clear hA hO g1
  go_enter Try.func24, Try.ntmps24
  by_cases hp : ph = 0
  · subst hp
    go_wp2_with (first | (refine wpList_store_row rfl 74 (.tmp 9) (.tmp 8) rfl G #[.int .i64 0, .bool false, .slice none 0 0, .int .i64 0] rfl rfl 74 _ HG.out (by kernel_rfl) rfl (by simp [Value.oneCell']) ?_))
    go_end0
    exact ⟨⟨_, rfl⟩, (by
      have e : knowM M ⟨sl, fr, to, ep, 0, n⟩ = { MD.zero with n := 0 } := by simp [knowM]; rfl
      rw [e]
      exact HA.out.zero 0 (setRow_self HG.out)), HO.out.setRow _⟩
  · by_cases hn : n = M.n
    · have hb : (n != M.n) = false := by simpa using hn
      have hp' : (ph == 0) = false := by simpa using hp
      have HE : Hid (knowM M ⟨sl, fr, to, ep, ph, n⟩ = M) := by show _ = _; simp [knowM, hp, hn]
      clear hn hp
      go_wp2
      go_quiet (fail)
      rename_i nq
      go_wp2
      go_end0
      exact ⟨⟨_, rfl⟩, by rw [HE.out]; exact HA.out.drewN nq, HO.out.drewN nq⟩
    · have hb : (n != M.n) = true := by simpa using hn
      have hp' : (ph == 0) = false := by simpa using hp
      have HE : Hid (knowM M ⟨sl, fr, to, ep, ph, n⟩ = { MD.zero with n := n }) := by show _ = _; simp [knowM, hp, hn]
      clear hn hp
      go_wp2
      go_quiet (fail)
      rename_i nq
      go_wp2_with (first | (refine wpList_store_row rfl 74 (.tmp 21) (.tmp 20) rfl G #[.int .i64 n, .bool false, .slice none 0 0, .int .i64 0] rfl rfl 74 _ HG.out (by kernel_rfl) rfl (by simp [Value.oneCell']) ?_))
      go_end0
      exact ⟨⟨_, rfl⟩, by rw [HE.out]; exact (HA.out.drewN nq).zero n (setRow_self (show (World.drewN _ nq).heap[G]? = _ from HG.out)), (HO.out.drewN nq).setRow _⟩
end Go.Proofs.Ytcmhkeaimgppgaa
