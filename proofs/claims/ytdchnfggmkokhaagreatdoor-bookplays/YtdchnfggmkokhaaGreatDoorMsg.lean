/- What Msg does. -/
import Derived.Test.YtdchnfggmkokhaaGreatDoorHead
import Derived.Test.YtdchnfggmkokhaaGreatDoorGF
namespace Go.Proofs.YtdchnfggmkokhaaGreatDoor
open Go.RowKit Cod
set_option linter.unusedVariables false

/-- Bytes in memory, as a value. -/
def BytesV (w : World) (v : Value) (p : List (BitVec 8)) : Prop := ∃ a c, v = .slice a p.length c ∧ Seen w a p.length p ∧ (a = none → c = 0)
/-- Entries of a message in memory. -/
def EntsAt (w : World) (a : Option Addr) (n : Nat) (ents : List (Int × List (BitVec 8))) : Prop :=
  n = ents.length ∧ (n = 0 ∨ ∃ b off, a = some ⟨b, off, none⟩ ∧ ∀ j (hj : j < ents.length), w.cell? ⟨b, off + j * 2, none⟩ = some (.int .i64 ents[j].1) ∧ ∃ v, w.cell? ⟨b, off + j * 2 + 1, none⟩ = some v ∧ BytesV w v ents[j].2)
theorem BytesV.below {w w' : World} {v : Value} {p : List (BitVec 8)} (h : BytesV w v p) (hb : Below w.heap.size w w') : BytesV w' v p := by
  obtain ⟨a, c, h1, h2, h3⟩ := h
  exact ⟨a, c, h1, h2.below hb, h3⟩
theorem EntsAt.below {w w' : World} {a : Option Addr} {n : Nat} {ents : List (Int × List (BitVec 8))} (h : EntsAt w a n ents) (hb : Below w.heap.size w w') : EntsAt w' a n ents := by
  obtain ⟨h1, h3⟩ := h
  refine ⟨h1, ?_⟩
  rcases h3 with h3 | ⟨b, off, ha, hc⟩
  · exact .inl h3
  · refine .inr ⟨b, off, ha, fun j hj => ?_⟩
    obtain ⟨c1, v, c2, c3⟩ := hc j hj
    rw [hb.cell (p := ⟨b, off + j * 2, none⟩) (World.block_lt_of_cell? w _ c1), hb.cell (p := ⟨b, off + j * 2 + 1, none⟩) (World.block_lt_of_cell? w _ c2)]
    exact ⟨c1, v, c2, c3.below hb⟩
theorem EntsAt.at {w : World} {a : Option Addr} {n : Nat} {ents : List (Int × List (BitVec 8))} (h : EntsAt w a n ents) {k : Nat} (hk : k < ents.length) :
    ∃ b off v, a = some ⟨b, off, none⟩ ∧ w.cell? ⟨b, off + k * 2, none⟩ = some (.int .i64 ents[k].1) ∧ w.cell? ⟨b, off + k * 2 + 1, none⟩ = some v ∧ BytesV w v ents[k].2 := by
  rcases h.2 with h3 | ⟨b, off, ha, hc⟩
  · have := h.1; omega
  · obtain ⟨c1, v, c2, c3⟩ := hc k hk
    exact ⟨b, off, v, ha, c1, c2, c3⟩
def entB (e : Int × List (BitVec 8)) : List (BitVec 8) := enc (zig e.1) ++ sz e.2
def entsB (ents : List (Int × List (BitVec 8))) : List (BitVec 8) := (ents.map entB).flatten
theorem entsB_take {ents : List (Int × List (BitVec 8))} {k : Nat} (hk : k < ents.length) : entsB (ents.take (k + 1)) = entsB (ents.take k) ++ entB ents[k] := by
  rw [List.take_add_one, List.getElem?_eq_getElem hk]
  simp only [entsB, List.map_append, List.flatten_append, Option.toList_some, List.map_cons, List.map_nil, List.flatten_cons, List.flatten_nil, List.append_nil]
theorem entsB_split (ents : List (Int × List (BitVec 8))) (k : Nat) : entsB ents = entsB (ents.take k) ++ entsB (ents.drop k) := by
  conv => lhs; rw [← List.take_append_drop k ents]
  simp only [entsB, List.map_append, List.flatten_append]
/-- A message's bytes. -/
def msgB (h : HeadD) (ents : List (Int × List (BitVec 8))) (data : List (BitVec 8)) : List (BitVec 8) := h.bytes ++ enc ents.length ++ entsB ents ++ sz data
/-- Whether a message can be written. -/
def msgFits (h : HeadD) (ents : List (Int × List (BitVec 8))) (data : List (BitVec 8)) : Prop :=
  ents.length ≤ 4096 ∧ data.length ≤ 65536 ∧ (∀ e ∈ ents, e.2.length ≤ 65536) ∧ (msgB h ents data).length ≤ 1048576
/-- What Msg answers. -/
def MsgTold (w0 w : World) (h : HeadD) (ents : List (Int × List (BitVec 8))) (data : List (BitVec 8)) (e : Ending) : Prop :=
  (msgFits h ents data ∧ ∃ v, e = .returned (.tuple #[v, .int .i64 0]) ∧ w.ownsRow w0.heap.size 5 1 v (msgB h ents data).length (cellsOf (msgB h ents data))) ∨ (¬ msgFits h ents data ∧ e = .returned (.tuple #[.slice none 0 0, .int .i64 3]))
theorem owned_form {w : World} {base n : Nat} {v : Value} {xs : List Value} (h : w.ownsRow base 5 1 v n xs) : ∃ a c, v = .slice a n c ∧ (a = none → c = 0) := by
  rcases h.2 with ⟨rfl, rfl⟩ | ⟨g, c, cur, rfl, _⟩
  · exact ⟨none, 0, rfl, fun _ => rfl⟩
  · exact ⟨_, c, rfl, fun e => by cases e⟩
end Go.Proofs.YtdchnfggmkokhaaGreatDoor
