/- A command read: what is read, plainly; what lies in memory while it is read. Written by gen_xpa.py. -/
import Derived.Test.YtogbcciocgpknaaXBy
import Derived.Test.YtogbcciocgpknaaTaD
import Derived.Test.YtogbcciocgpknaaTaI
import Derived.Test.YtogbcciocgpknaaTaK
import Derived.Test.YtogbcciocgpknaaTaJ
import Derived.Test.YtogbcciocgpknaaTaM
import Derived.Test.YtogbcciocgpknaaTaL
import Derived.Deep.MidRow
namespace Go.Proofs.Ytogbcciocgpknaa
open Go.RowKit Cod
set_option linter.unusedVariables false
/-- Bytes behind a place. -/
def Far (w : World) (B : Nat) (v : Value) (l : List (BitVec 8)) : Prop := ∃ a c, v = .slice a l.length c ∧ Seen w a l.length l ∧ (a = none → c = 0) ∧ (∀ x, a = some x → B ≤ x.block)
theorem Far.got {w : World} {B : Nat} {v : Value} {l : List (BitVec 8)} (h : Far w B v l) : Got w v l := by
  obtain ⟨a, c, h1, h2, h3, _⟩ := h
  exact ⟨a, c, h1, h2, h3⟩
theorem far_owned {w : World} {base n : Nat} {v : Value} {l : List (BitVec 8)} (h : w.ownsRow base 5 1 v n (cellsOf l)) (hm : n ≤ maxLen) : Far w base v l := by
  obtain ⟨a, c, h1, h2, h3⟩ := got_owned h hm
  refine ⟨a, c, h1, h2, h3, fun x hx => ?_⟩
  subst h1
  rcases h.2 with ⟨e1, e2⟩ | ⟨g, cap, cur, e1, hb, _⟩
  · injection e1 with e1
    rw [hx] at e1
    cases e1
  · injection e1 with e1
    rw [hx] at e1
    cases e1
    exact hb
theorem Far.since {w w' : World} {B : Nat} {v : Value} {l : List (BitVec 8)} (h : Far w B v l) (hb : ∀ k, B ≤ k → w'.heap[k]? = w.heap[k]?) : Far w' B v l := by
  obtain ⟨a, c, h1, h2, h3, h4⟩ := h
  exact ⟨a, c, h1, h2.since (fun _ x hx => hb _ (h4 x hx)), h3, h4⟩
theorem Far.mono {w : World} {B B' : Nat} {v : Value} {l : List (BitVec 8)} (h : Far w B v l) (hb : B' ≤ B) : Far w B' v l := by
  obtain ⟨a, c, h1, h2, h3, h4⟩ := h
  exact ⟨a, c, h1, h2, h3, fun x hx => Nat.le_trans hb (h4 x hx)⟩
theorem Far.below {w w' : World} {B : Nat} {v : Value} {l : List (BitVec 8)} (h : Far w B v l) (b : Below w.heap.size w w') : Far w' B v l := by
  obtain ⟨a, c, h1, h2, h3, h4⟩ := h
  exact ⟨a, c, h1, h2.below b, h3, h4⟩
theorem far_nil (w : World) (B : Nat) : Far w B (.slice none 0 0) [] := ⟨none, 0, rfl, ⟨rfl, by simp, .inl rfl⟩, fun _ => rfl, fun x hx => by cases hx⟩
/-- A block of cells. -/
def BlX (w : World) (P : Nat) (cs : Array Value) (t : Nat) : Prop := w.heap[P]? = some (.cells cs t (0, 0))
section
variable {w w' : World}
theorem BlX.lt {P t : Nat} {cs : Array Value} (h : BlX w P cs t) : P < w.heap.size := (Array.getElem?_eq_some_iff.1 h).1
theorem BlX.cell {P t : Nat} {cs : Array Value} (h : BlX w P cs t) (i : Nat) : w.cell? ⟨P, i, none⟩ = cs[i]? := by unfold BlX at h; simp [World.cell?, h]
theorem BlX.fz {P t : Nat} {cs : Array Value} (h : BlX w P cs t) (i : Nat) : w.frozen? ⟨P, i, none⟩ = false := by unfold BlX at h; simp [World.frozen?, h]
theorem BlX.below {P t : Nat} {cs : Array Value} (h : BlX w P cs t) (b : Below w.heap.size w w') : BlX w' P cs t := (b.block P h.lt).trans h
theorem BlX.alloc {P t : Nat} {cs : Array Value} (h : BlX w P cs t) (o : Obj) : BlX (w.alloc o) P cs t := h.below ((Below.refl _ w).alloc (Nat.le_refl _) o)
theorem BlX.new (w : World) (cs : Array Value) (t : Nat) : BlX (w.alloc (.cells cs t)) w.heap.size cs t := heap_alloc_new w _
theorem BlX.grown {P t R : Nat} {cs : Array Value} (h : BlX w P cs t) (g : w.grownBy w' (some R)) (hn : P ≠ R) : BlX w' P cs t := (g.block P h.lt (fun e => hn (Option.some.inj e))).trans h
theorem BlX.other {P t : Nat} {cs : Array Value} (h : BlX w P cs t) {Q : Nat} (hQ : Q ≠ P) (k : Nat) (v : Value) : BlX (w.setCell ⟨Q, k, none⟩ v) P cs t := (Below.heap_setCell _ _ _ _ (Ne.symm hQ)).trans h
theorem BlX.set {P t : Nat} {cs : Array Value} (h : BlX w P cs t) (k : Nat) (v : Value) : BlX (w.setCell ⟨P, k, none⟩ v) P (cs.setIfInBounds k v) t := by
  obtain ⟨hlt, hk⟩ := Array.getElem?_eq_some_iff.1 h
  show (w.heap.modify P _)[P]? = _
  rw [Array.getElem?_eq_getElem (by rw [Array.size_modify]; exact hlt), Array.getElem_modify_self, hk]
  rfl
theorem BlX.there {P t o n : Nat} {cs : Array Value} (h : BlX w P cs t) (ho : o + n ≤ cs.size) : w.there P o n := fun j hj => by
  refine ⟨?_, h.fz _⟩
  rw [h.cell (o + j), Array.getElem?_eq_getElem (by omega)]
  rfl
theorem BlX.range {P t : Nat} {cs : Array Value} (h : BlX w P cs t) : w.rangeAt P 0 cs.toList := fun j v hv => by
  rw [Nat.zero_add, h.cell j]
  simpa using hv
end
theorem below_toX {w w' : World} {B R : Nat} (g : w.grownBy w' (some R)) (hB : B ≤ R) (hs : B ≤ w.heap.size) : Below B w w' :=
  ⟨g.os, g.tape, g.output, g.size, fun k hk => g.block k (by omega) (fun e => by have := Option.some.inj e; omega)⟩
/-- How far a Reader has come behind so many parts, and its error. -/
def pX0 (_ : List (BitVec 8)) : Nat × Nat := (0, 0)
def pX1 (l : List (BitVec 8)) : Nat × Nat := (rU l (pX0 l).1 (pX0 l).2).2
theorem pX1_a (l : List (BitVec 8)) : (rU l (pX0 l).1 (pX0 l).2).2.1 = (pX1 l).1 := by unfold pX1; rfl
theorem pX1_b (l : List (BitVec 8)) : (rU l (pX0 l).1 (pX0 l).2).2.2 = (pX1 l).2 := by unfold pX1; rfl
def pX2 (l : List (BitVec 8)) : Nat × Nat := (rOp7 l (pX1 l).1 (pX1 l).2).2
theorem pX2_a (l : List (BitVec 8)) : (rOp7 l (pX1 l).1 (pX1 l).2).2.1 = (pX2 l).1 := by unfold pX2; rfl
theorem pX2_b (l : List (BitVec 8)) : (rOp7 l (pX1 l).1 (pX1 l).2).2.2 = (pX2 l).2 := by unfold pX2; rfl
def pX3 (l : List (BitVec 8)) : Nat × Nat := (rS l (pX2 l).1 (pX2 l).2).2
theorem pX3_a (l : List (BitVec 8)) : (rS l (pX2 l).1 (pX2 l).2).2.1 = (pX3 l).1 := by unfold pX3; rfl
theorem pX3_b (l : List (BitVec 8)) : (rS l (pX2 l).1 (pX2 l).2).2.2 = (pX3 l).2 := by unfold pX3; rfl
def pX4 (l : List (BitVec 8)) : Nat × Nat := (rS l (pX3 l).1 (pX3 l).2).2
theorem pX4_a (l : List (BitVec 8)) : (rS l (pX3 l).1 (pX3 l).2).2.1 = (pX4 l).1 := by unfold pX4; rfl
theorem pX4_b (l : List (BitVec 8)) : (rS l (pX3 l).1 (pX3 l).2).2.2 = (pX4 l).2 := by unfold pX4; rfl
def pX5 (l : List (BitVec 8)) : Nat × Nat := (rU l (pX4 l).1 (pX4 l).2).2
theorem pX5_a (l : List (BitVec 8)) : (rU l (pX4 l).1 (pX4 l).2).2.1 = (pX5 l).1 := by unfold pX5; rfl
theorem pX5_b (l : List (BitVec 8)) : (rU l (pX4 l).1 (pX4 l).2).2.2 = (pX5 l).2 := by unfold pX5; rfl
def pX6 (l : List (BitVec 8)) : Nat × Nat := (rU l (pX5 l).1 (pX5 l).2).2
theorem pX6_a (l : List (BitVec 8)) : (rU l (pX5 l).1 (pX5 l).2).2.1 = (pX6 l).1 := by unfold pX6; rfl
theorem pX6_b (l : List (BitVec 8)) : (rU l (pX5 l).1 (pX5 l).2).2.2 = (pX6 l).2 := by unfold pX6; rfl
def pX7 (l : List (BitVec 8)) : Nat × Nat := (rU l (pX6 l).1 (pX6 l).2).2
theorem pX7_a (l : List (BitVec 8)) : (rU l (pX6 l).1 (pX6 l).2).2.1 = (pX7 l).1 := by unfold pX7; rfl
theorem pX7_b (l : List (BitVec 8)) : (rU l (pX6 l).1 (pX6 l).2).2.2 = (pX7 l).2 := by unfold pX7; rfl
def pX8 (l : List (BitVec 8)) : Nat × Nat := (rU l (pX7 l).1 (pX7 l).2).2
theorem pX8_a (l : List (BitVec 8)) : (rU l (pX7 l).1 (pX7 l).2).2.1 = (pX8 l).1 := by unfold pX8; rfl
theorem pX8_b (l : List (BitVec 8)) : (rU l (pX7 l).1 (pX7 l).2).2.2 = (pX8 l).2 := by unfold pX8; rfl
def pX9 (l : List (BitVec 8)) : Nat × Nat := (rU l (pX8 l).1 (pX8 l).2).2
theorem pX9_a (l : List (BitVec 8)) : (rU l (pX8 l).1 (pX8 l).2).2.1 = (pX9 l).1 := by unfold pX9; rfl
theorem pX9_b (l : List (BitVec 8)) : (rU l (pX8 l).1 (pX8 l).2).2.2 = (pX9 l).2 := by unfold pX9; rfl
def pX10 (l : List (BitVec 8)) : Nat × Nat := (rB l (pX9 l).1 (pX9 l).2).2
theorem pX10_a (l : List (BitVec 8)) : (rB l (pX9 l).1 (pX9 l).2).2.1 = (pX10 l).1 := by unfold pX10; rfl
theorem pX10_b (l : List (BitVec 8)) : (rB l (pX9 l).1 (pX9 l).2).2.2 = (pX10 l).2 := by unfold pX10; rfl
def pX11 (l : List (BitVec 8)) : Nat × Nat := (rS l (pX10 l).1 (pX10 l).2).2
theorem pX11_a (l : List (BitVec 8)) : (rS l (pX10 l).1 (pX10 l).2).2.1 = (pX11 l).1 := by unfold pX11; rfl
theorem pX11_b (l : List (BitVec 8)) : (rS l (pX10 l).1 (pX10 l).2).2.2 = (pX11 l).2 := by unfold pX11; rfl
def pcI0 (l : List (BitVec 8)) : Int := zag (rU l (pX0 l).1 (pX0 l).2).1
theorem pcI0_is (l : List (BitVec 8)) : zag (rU l (pX0 l).1 (pX0 l).2).1 = pcI0 l := by unfold pcI0; rfl
def pcI4 (l : List (BitVec 8)) : Int := zag (rU l (pX4 l).1 (pX4 l).2).1
theorem pcI4_is (l : List (BitVec 8)) : zag (rU l (pX4 l).1 (pX4 l).2).1 = pcI4 l := by unfold pcI4; rfl
def pcI5 (l : List (BitVec 8)) : Int := zag (rU l (pX5 l).1 (pX5 l).2).1
theorem pcI5_is (l : List (BitVec 8)) : zag (rU l (pX5 l).1 (pX5 l).2).1 = pcI5 l := by unfold pcI5; rfl
def pcI6 (l : List (BitVec 8)) : Int := zag (rU l (pX6 l).1 (pX6 l).2).1
theorem pcI6_is (l : List (BitVec 8)) : zag (rU l (pX6 l).1 (pX6 l).2).1 = pcI6 l := by unfold pcI6; rfl
def pcI7 (l : List (BitVec 8)) : Int := zag (rU l (pX7 l).1 (pX7 l).2).1
theorem pcI7_is (l : List (BitVec 8)) : zag (rU l (pX7 l).1 (pX7 l).2).1 = pcI7 l := by unfold pcI7; rfl
def pcI8 (l : List (BitVec 8)) : Int := zag (rU l (pX8 l).1 (pX8 l).2).1
theorem pcI8_is (l : List (BitVec 8)) : zag (rU l (pX8 l).1 (pX8 l).2).1 = pcI8 l := by unfold pcI8; rfl
def pcT2 (l : List (BitVec 8)) : ByteArray := textOf (rS l (pX2 l).1 (pX2 l).2).1
theorem pcT2_is (l : List (BitVec 8)) : textOf (rS l (pX2 l).1 (pX2 l).2).1 = pcT2 l := by unfold pcT2; rfl
def pcT3 (l : List (BitVec 8)) : ByteArray := textOf (rS l (pX3 l).1 (pX3 l).2).1
theorem pcT3_is (l : List (BitVec 8)) : textOf (rS l (pX3 l).1 (pX3 l).2).1 = pcT3 l := by unfold pcT3; rfl
def pcO (l : List (BitVec 8)) : OpD := rOpV l (pX1 l).1 (pX1 l).2
def pcL (l : List (BitVec 8)) : Bool := (rB l (pX9 l).1 (pX9 l).2).1
def pcD (l : List (BitVec 8)) : List (BitVec 8) := (rS l (pX10 l).1 (pX10 l).2).1
def pcE (l : List (BitVec 8)) : Nat := rEnd l (pX11 l).1 (pX11 l).2
theorem pcO_is (l : List (BitVec 8)) : (rOpV l (pX1 l).1 (pX1 l).2).val = .agg #[.int .i64 (pcO l).kind, .string (pcO l).src, .string (pcO l).dst, .int .i64 (pcO l).amount, .string (pcO l).key, .int .i64 (pcO l).slot, .int .i64 (pcO l).shard] := by unfold pcO OpD.val; rfl
theorem pcL_is (l : List (BitVec 8)) : (rB l (pX9 l).1 (pX9 l).2).1 = pcL l := by unfold pcL; rfl
theorem pcD_is (l : List (BitVec 8)) : (rS l (pX10 l).1 (pX10 l).2).1 = pcD l := by unfold pcD; rfl
theorem pcE_is (l : List (BitVec 8)) : rEnd l (pX11 l).1 (pX11 l).2 = pcE l := by unfold pcE; rfl
def pcC (l : List (BitVec 8)) (dv : Value) : CmdV := ⟨pcI0 l, (pcO l).kind, (pcO l).src, (pcO l).dst, (pcO l).amount, (pcO l).key, (pcO l).slot, (pcO l).shard, pcT2 l, pcT3 l, pcI4 l, pcI5 l, pcI6 l, pcI7 l, pcI8 l, pcL l, dv⟩
/-- What Parse answers: its error, its command, its bytes. -/
def psW (l : List (BitVec 8)) : Nat := if 65536 < l.length then 3 else pcE l
def psC (l : List (BitVec 8)) (dv : Value) : CmdV := if psW l = 0 then pcC l dv else CmdV.zero
def psD (l : List (BitVec 8)) : List (BitVec 8) := if psW l = 0 then pcD l else []
theorem psC_no {l : List (BitVec 8)} (h : psW l ≠ 0) (dv : Value) : psC l dv = CmdV.zero := if_neg h
theorem psD_no {l : List (BitVec 8)} (h : psW l ≠ 0) : psD l = [] := if_neg h
theorem psC_yes {l : List (BitVec 8)} (h : psW l = 0) (dv : Value) : psC l dv = pcC l dv := if_pos h
theorem psD_yes {l : List (BitVec 8)} (h : psW l = 0) : psD l = pcD l := if_pos h
/-- What a Parse answers. -/
def Parsed (w w' : World) (l : List (BitVec 8)) (e : Ending) : Prop := ∃ dv, e = .returned (.tuple #[.agg ⟨(psC l dv).cells⟩, .int .i64 (psW l : Nat)]) ∧ Far w' w.heap.size dv (psD l) ∧ (psD l).length ≤ 65536 ∧ Below w.heap.size w w'
theorem parsed_no {w w' : World} {l : List (BitVec 8)} {n : Int} (h : psW l ≠ 0) (hn : n = (psW l : Nat)) (b : Below w.heap.size w w') : Parsed w w' l (.returned (.tuple #[.agg ⟨CmdV.zero.cells⟩, .int .i64 n])) := by
  refine ⟨.slice none 0 0, ?_, ?_, ?_, b⟩
  · rw [psC_no h, hn]
  · rw [psD_no h]; exact far_nil w' _
  · rw [psD_no h]; simp
theorem parsed_yes {w w' : World} {l : List (BitVec 8)} {dv : Value} (h : psW l = 0) (g : Far w' w.heap.size dv (pcD l)) (hl : (pcD l).length ≤ 65536) (b : Below w.heap.size w w') : Parsed w w' l (.returned (.tuple #[.agg ⟨(pcC l dv).cells⟩, .int .i64 0])) := by
  refine ⟨dv, ?_, ?_, ?_, b⟩
  · rw [psC_yes h, h]; rfl
  · rw [psD_yes h]; exact g
  · rw [psD_yes h]; exact hl
theorem parsedZ {w w' : World} {l : List (BitVec 8)} (n : Int) (h : psW l ≠ 0) (hn : n = (psW l : Nat)) (b : Below w.heap.size w w') : Parsed w w' l (.returned (.tuple #[.agg #[.int .i64 0, .int .i64 0, .string ⟨#[]⟩, .string ⟨#[]⟩, .int .i64 0, .string ⟨#[]⟩, .int .i64 0, .int .i64 0, .string ⟨#[]⟩, .string ⟨#[]⟩, .int .i64 0, .int .i64 0, .int .i64 0, .int .i64 0, .int .i64 0, .bool false, .slice none 0 0], .int .i64 n])) := by
  have q := parsed_no h hn b
  simp only [CmdV.zero, CmdV.cells, noText] at q
  exact q
theorem parsedY {w w' : World} {l : List (BitVec 8)} (dv : Value) (h : psW l = 0) (g : Far w' w.heap.size dv (pcD l)) (hl : (pcD l).length ≤ 65536) (b : Below w.heap.size w w') : Parsed w w' l (.returned (.tuple #[.agg #[.int .i64 (pcI0 l), .int .i64 (pcO l).kind, .string (pcO l).src, .string (pcO l).dst, .int .i64 (pcO l).amount, .string (pcO l).key, .int .i64 (pcO l).slot, .int .i64 (pcO l).shard, .string (pcT2 l), .string (pcT3 l), .int .i64 (pcI4 l), .int .i64 (pcI5 l), .int .i64 (pcI6 l), .int .i64 (pcI7 l), .int .i64 (pcI8 l), .bool (pcL l), dv], .int .i64 0])) := by
  have q := parsed_yes h g hl b
  simp only [pcC, CmdV.cells] at q
  exact q
/-- A Parse under way: the result's place, the command's place, the Reader. -/
structure PSx (w0 w : World) (T Q R S : Nat) (l : List (BitVec 8)) (cs : Array Value) (x : Nat × Nat) : Prop where
  q : BlX w Q #[.int .i64 0, .int .i64 0, .string ⟨#[]⟩, .string ⟨#[]⟩, .int .i64 0, .string ⟨#[]⟩, .int .i64 0, .int .i64 0, .string ⟨#[]⟩, .string ⟨#[]⟩, .int .i64 0, .int .i64 0, .int .i64 0, .int .i64 0, .int .i64 0, .bool false, .slice none 0 0] T
  s : BlX w S cs T
  r : Rdr w R l x.1 x.2
  b : Below w0.heap.size w0 w
  hq : w0.heap.size ≤ Q
  hs : w0.heap.size ≤ S
  hr : w0.heap.size ≤ R
  qs : Q < S
  qr : Q < R
  rs : R < S
theorem PSx.put {w0 w : World} {T Q R S : Nat} {l : List (BitVec 8)} {cs : Array Value} {x : Nat × Nat} (h : PSx w0 w T Q R S l cs x) (k : Nat) (v : Value) : PSx w0 (w.setCell ⟨S, k, none⟩ v) T Q R S l (cs.setIfInBounds k v) x :=
  ⟨h.q.other (by have := h.qs; omega) _ _, h.s.set _ _, (h.r.set _ _ h.rs), h.b.setCell h.hs v, h.hq, h.hs, h.hr, h.qs, h.qr, h.rs⟩
theorem PSx.puts {w0 w : World} {T Q R S : Nat} {l : List (BitVec 8)} {cs : Array Value} {x : Nat × Nat} (h : PSx w0 w T Q R S l cs x) (vs : List Value) (k : Nat) : PSx w0 (w.setCells S k vs) T Q R S l (vs.foldl (fun (p : Nat × Array Value) v => (p.1 + 1, p.2.setIfInBounds p.1 v)) (k, cs)).2 x := by
  induction vs generalizing w k cs with
  | nil => exact h
  | cons v vs ih => exact ih (h.put k v) (k + 1)
theorem PSx.read {w' : World} {y : Nat × Nat} {w0 w : World} {T Q R S : Nat} {l : List (BitVec 8)} {cs : Array Value} {x : Nat × Nat} (h : PSx w0 w T Q R S l cs x) (g : w.grownBy w' (some R)) (r : Rdr w' R l y.1 y.2) : PSx w0 w' T Q R S l cs y :=
  ⟨h.q.grown g (by have := h.qr; omega), h.s.grown g (by have := h.rs; omega), r, h.b.trans (below_toX g h.hr h.b.size), h.hq, h.hs, h.hr, h.qs, h.qr, h.rs⟩
theorem PSx.drewN {w0 w : World} {T Q R S : Nat} {l : List (BitVec 8)} {cs : Array Value} {x : Nat × Nat} (h : PSx w0 w T Q R S l cs x) (n : Nat) : PSx w0 (w.drewN n) T Q R S l cs x :=
  ⟨h.q, h.s, (h.r.since (fun _ _ => rfl)), below_drewN' h.b n, h.hq, h.hs, h.hr, h.qs, h.qr, h.rs⟩
/-- A Parse under way: the result's place, the command's place, the Reader. -/
structure RSx (w0 w : World) (T Q R S : Nat) (l : List (BitVec 8)) (cs : Array Value) (x : Nat × Nat) (A B : Nat) : Prop where
  q : BlX w Q #[.int .i64 0, .int .i64 0, .string ⟨#[]⟩, .string ⟨#[]⟩, .int .i64 0, .string ⟨#[]⟩, .int .i64 0, .int .i64 0, .string ⟨#[]⟩, .string ⟨#[]⟩, .int .i64 0, .int .i64 0, .int .i64 0, .int .i64 0, .int .i64 0, .bool false, .slice none 0 0] T
  s : BlX w S cs T
  r : RRd w R A B l x.1 x.2
  b : Below w0.heap.size w0 w
  hq : w0.heap.size ≤ Q
  hs : w0.heap.size ≤ S
  hr : w0.heap.size ≤ R
  qs : Q < S
  qr : Q < R
  rs : R < S ∧ R < B ∧ B ≤ S
theorem RSx.put {w0 w : World} {T Q R S : Nat} {l : List (BitVec 8)} {cs : Array Value} {x : Nat × Nat} {A B : Nat} (h : RSx w0 w T Q R S l cs x A B) (k : Nat) (v : Value) : RSx w0 (w.setCell ⟨S, k, none⟩ v) T Q R S l (cs.setIfInBounds k v) x A B :=
  ⟨h.q.other (by have := h.qs; omega) _ _, h.s.set _ _, (h.r.since (Below.heap_setCell _ _ _ _ (by have := h.rs; show R ≠ S; omega)) (fun k hk _ => Below.heap_setCell _ _ _ _ (by have := h.rs; show k ≠ S; omega))), h.b.setCell h.hs v, h.hq, h.hs, h.hr, h.qs, h.qr, h.rs⟩
theorem RSx.puts {w0 w : World} {T Q R S : Nat} {l : List (BitVec 8)} {cs : Array Value} {x : Nat × Nat} {A B : Nat} (h : RSx w0 w T Q R S l cs x A B) (vs : List Value) (k : Nat) : RSx w0 (w.setCells S k vs) T Q R S l (vs.foldl (fun (p : Nat × Array Value) v => (p.1 + 1, p.2.setIfInBounds p.1 v)) (k, cs)).2 x A B := by
  induction vs generalizing w k cs with
  | nil => exact h
  | cons v vs ih => exact ih (h.put k v) (k + 1)
theorem RSx.read {w' : World} {y : Nat × Nat} {w0 w : World} {T Q R S : Nat} {l : List (BitVec 8)} {cs : Array Value} {x : Nat × Nat} {A B : Nat} (h : RSx w0 w T Q R S l cs x A B) (g : w.grownBy w' (some R)) (r : RRd w' R A B l y.1 y.2) : RSx w0 w' T Q R S l cs y A B :=
  ⟨h.q.grown g (by have := h.qr; omega), h.s.grown g (by have := h.rs; omega), r, h.b.trans (below_toX g h.hr h.b.size), h.hq, h.hs, h.hr, h.qs, h.qr, h.rs⟩
theorem RSx.drewN {w0 w : World} {T Q R S : Nat} {l : List (BitVec 8)} {cs : Array Value} {x : Nat × Nat} {A B : Nat} (h : RSx w0 w T Q R S l cs x A B) (n : Nat) : RSx w0 (w.drewN n) T Q R S l cs x A B :=
  ⟨h.q, h.s, (h.r.since rfl (fun _ _ _ => rfl)), below_drewN' h.b n, h.hq, h.hs, h.hr, h.qs, h.qr, h.rs⟩
end Go.Proofs.Ytogbcciocgpknaa
