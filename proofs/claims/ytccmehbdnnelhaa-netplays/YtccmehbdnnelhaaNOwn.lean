/- Package net: bytes that lie in a block of their own behind a place; what a Spoil of one block of bytes leaves as it was. -/
import Derived.Test.YtccmehbdnnelhaaNGb
import Derived.Test.YtccmehbdnnelhaaNGa
namespace Go.Proofs.Ytccmehbdnnelhaa
open Go.RowKit Go.Maps
set_option linter.unusedVariables false

/-- Bytes that lie in a block of their own behind a place. -/
def OwnAt (B : Nat) (w : World) (v : Value) (b : List (BitVec 8)) : Prop := w.ownsRow B 5 1 v b.length (cellsOf b)
section
variable {B : Nat} {w w' : World} {v : Value} {b : List (BitVec 8)}
theorem OwnAt.form (h : OwnAt B w v b) : ∃ a c, v = .slice a b.length c := by
  rcases h.2 with ⟨e1, e2⟩ | ⟨g, c, cur, e1, _⟩
  · exact ⟨none, 0, by rw [e1, e2]⟩
  · exact ⟨_, c, e1⟩
theorem OwnAt.data (h : OwnAt B w v b) (hm : b.length ≤ 140737488355328) : DataAt w v b := dataAt_owned h rfl hm
theorem OwnAt.keep (h : OwnAt B w v b) (k : ∀ g, B ≤ g → g < w.heap.size → B8At w g → w'.heap[g]? = w.heap[g]?) : OwnAt B w' v b :=
  owns_kept h (fun g e => k g (row_lt4 h e).1 (row_lt4 h e).2 (by obtain ⟨cur, hc⟩ := row_kind h e; exact ⟨cur, _, hc⟩))
theorem OwnAt.below (h : OwnAt B w v b) (k : Below w.heap.size w w') : OwnAt B w' v b := h.keep fun g _ hl _ => k.block g hl
theorem OwnAt.mono {B' : Nat} (h : OwnAt B w v b) (k : B' ≤ B) : OwnAt B' w v b :=
  ⟨h.1, h.2.imp id fun ⟨g, cap, cur, e1, e2, e3⟩ => ⟨g, cap, cur, e1, Nat.le_trans k e2, e3⟩⟩
theorem OwnAt.nk {base : Nat} (h : OwnAt B w v b) (k : NKeep base w w') : OwnAt B w' v b := h.keep fun g _ _ ⟨cs, z, e⟩ => k.2.2 g cs 5 z e t5P t5N
theorem OwnAt.rk {base : Nat} (h : OwnAt B w v b) (k : RKeep base w w') : OwnAt B w' v b := h.keep fun g _ _ ⟨cs, z, e⟩ => k.2.2 g _ e (fun cs' z' eq => by injection eq with _ eq _; exact absurd eq (by decide)) (fun cs' z' eq => by injection eq with _ eq _; exact absurd eq (by decide))
/-- No block of theirs is this one. -/
def Off (X : Nat) (v : Value) (b : List (BitVec 8)) : Prop := b ≠ [] → ∀ x n c, v = .slice (some x) n c → x.block ≠ X
theorem DataAt.off {X : Nat} (h : DataAt w v b) (hX : w.heap.size ≤ X) : Off X v b := fun hb x n c e eq => by
  obtain ⟨a, c', e2, _, _, u⟩ := h
  rw [e2] at e
  cases e
  obtain ⟨cs, z, e3⟩ := u x rfl hb
  have := (Array.getElem?_eq_some_iff.1 e3).1
  omega
theorem OwnAt.off {X : Nat} (h : OwnAt B w v b) (hX : X < B) : Off X v b := fun hb x n c e eq => by
  rcases h.2 with ⟨e1, _⟩ | ⟨g, c', cur, e1, hB, _⟩
  · rw [e1] at e; cases e
  · rw [e1] at e
    cases e
    have : g = X := eq
    omega
theorem DataAt.spoilt {X : Nat} (h : DataAt w v b) (ho : Off X v b) (g : w.grownBy w' (some X)) : DataAt w' v b := by
  obtain ⟨a, c, e, s, n, u⟩ := h
  have k : ∀ x, a = some x → b ≠ [] → w'.heap[x.block]? = w.heap[x.block]? := fun x ex hb => by
    obtain ⟨cs, z, e3⟩ := u x ex hb
    exact g.block _ (Array.getElem?_eq_some_iff.1 e3).1 (fun eq => ho hb x _ _ (by rw [e, ex]) (Option.some.inj eq))
  refine ⟨a, c, e, ?_, n, fun x ex hb => ?_⟩
  · obtain ⟨s1, s2, s3⟩ := s
    refine ⟨s1, s2, s3.imp id ?_⟩
    rintro ⟨g', o, ea, hc⟩
    refine ⟨g', o, ea, fun j hj => ?_⟩
    have hb : b ≠ [] := fun e => by rw [e] at hj; simp at hj
    rw [World.cell?_of_block (w := w) (a := ⟨g', o + j, none⟩) (k ⟨g', o, none⟩ ea hb)]
    exact hc j hj
  · obtain ⟨cs, z, e2⟩ := u x ex hb
    exact ⟨cs, z, (k x ex hb).trans e2⟩
end
section
variable {w w' : World} {base N B T X R : Nat} {bx : Int → Value} {L : List Post} {v : Value} {ms : List OpN}
/-- A block of bytes is none of a net's. -/
theorem NetIn.spoilt (h : NetIn w base N B bx L T) (hX : B8At w X) (g : w.grownBy w' (some X)) (ho : ∀ p ∈ L, Off X p.dv p.b) : NetIn w' base N B bx L T := by
  obtain ⟨cs, z, eX⟩ := hX
  have k : ∀ q : Nat, q < w.heap.size → q ≠ X → w'.heap[q]? = w.heap[q]? := fun q hq hn => g.block q hq (fun e => hn (Option.some.inj e))
  refine { h with hN := ?_, hM := ?_, row := fun j => ?_, dat := fun p hp => (h.dat p hp).spoilt (ho p hp) g }
  · rw [k N h.ltN (fun eq => by rw [← eq, h.hN] at eX; injection eX with e; injection e with _ e _; exact absurd e (by decide))]
    exact h.hN
  · obtain ⟨es, cl, hm⟩ := h.hM.isMap
    exact h.hM.kept (k B h.hM.lt (fun eq => by rw [← eq, hm] at eX; cases eX))
  · refine owns_kept (h.row j) (fun q eg => k q (row_lt4 (h.row j) eg).2 (fun eq => ?_))
    obtain ⟨cur, hc⟩ := row_kind (h.row j) eg
    rw [eq, eX] at hc
    injection hc with hc
    injection hc with _ hc _
    exact t5P hc
theorem NetS.spoilt (h : NetS w base N L T) (hX : B8At w X) (g : w.grownBy w' (some X)) (ho : ∀ p ∈ L, Off X p.dv p.b) : NetS w' base N L T := by
  obtain ⟨s, h⟩ := h
  refine ⟨s, ?_⟩
  rcases h with ⟨h, e1, e2⟩ | ⟨B, bx, h⟩
  · refine .inl ⟨⟨?_, h.2⟩, e1, e2⟩
    obtain ⟨cs, z, eX⟩ := hX
    rw [g.block N h.lt (fun eq => by
      have e := h.1
      rw [Option.some.inj eq, eX] at e
      injection e with e
      injection e with _ e _
      exact absurd e (by decide))]
    exact h.1
  · exact .inr ⟨B, bx, h.spoilt hX g ho⟩
theorem RefIn.spoilt (h : RefIn w base R v ms) (hX : B8At w X) (g : w.grownBy w' (some X)) (ho : ∀ q ∈ ms, Off X (.slice q.a q.b.length q.c) q.b) : RefIn w' base R v ms := by
  obtain ⟨cs, z, eX⟩ := hX
  have k : ∀ q : Nat, q < w.heap.size → q ≠ X → w'.heap[q]? = w.heap[q]? := fun q hq hn => g.block q hq (fun e => hn (Option.some.inj e))
  refine ⟨?_, h.bR, ?_, fun q hq => (h.dat q hq).spoilt (ho q hq) g, h.len⟩
  · rw [k R h.lt (fun eq => by have e := h.hR; rw [eq, eX] at e; injection e with e; injection e with _ e _; exact absurd e (by decide))]
    exact h.hR
  · refine owns_kept h.row (fun q eg => k q (row_lt4 h.row eg).2 (fun eq => ?_))
    obtain ⟨cur, hc⟩ := row_kind h.row eg
    rw [eq, eX] at hc
    injection hc with hc
    injection hc with _ hc _
    exact absurd hc (by decide)
end
end Go.Proofs.Ytccmehbdnnelhaa
