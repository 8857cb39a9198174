/- The reference's disk in memory: what lies where; full. -/
import Derived.Test.YtnpebdnfdbeiaaaDPure
import Derived.Test.YtnpebdnfdbeiaaaDLoad
import Derived.Deep.AppendLies
import Derived.Deep.RegionHeld
namespace Go.Proofs.Ytnpebdnfdbeiaaa
open Go.RowKit
set_option linter.unusedVariables false

/-- A sector's slice. -/
abbrev sl (g : Nat) : Value := .slice (some ⟨g, 0, none⟩) 256 256
/-- A sector's bytes lie there. -/
def Con (w : World) (g : Nat) (l : List (BitVec 8)) : Prop := w.ownsRow 0 5 1 (.slice (some ⟨g, 0, none⟩) 256 256) 256 (cellsOf l)
theorem owns_ne {w : World} {b1 b2 z1 z2 n1 n2 : Nat} {t1 t2 : TypeId} {v1 v2 : Value} {x1 x2 : List Value} (h1 : w.ownsRow b1 t1 z1 v1 n1 x1) (h2 : w.ownsRow b2 t2 z2 v2 n2 x2) (ht : t1 ≠ t2) {k : Nat} (e1 : v1.ownBlock = some k) (e2 : v2.ownBlock = some k) : False := by
  rcases h1.2 with ⟨e, _⟩ | ⟨g, c, cur, e, _, hg, _⟩
  · rw [e] at e1; cases e1
  · rcases h2.2 with ⟨e', _⟩ | ⟨g', c', cur', e', _, hg', _⟩
    · rw [e'] at e2; cases e2
    · rw [e] at e1
      rw [e'] at e2
      obtain rfl : g = k := by simpa [Value.ownBlock] using e1
      obtain rfl : g' = g := by simpa [Value.ownBlock] using e2
      rw [hg] at hg'
      cases hg'
      exact ht rfl
theorem owns_block {w : World} {b z n : Nat} {t : TypeId} {v : Value} {x : List Value} (h : w.ownsRow b t z v n x) {k : Nat} (e : v.ownBlock = some k) : ∃ cur, w.heap[k]? = some (.cells cur t (0, 0)) := by
  rcases h.2 with ⟨e', _⟩ | ⟨g, c, cur, e', _, hg, _⟩
  · rw [e'] at e; cases e
  · rw [e'] at e
    obtain rfl : g = k := by simpa [Value.ownBlock] using e
    exact ⟨cur, hg⟩
theorem Con.len {w : World} {g : Nat} {l : List (BitVec 8)} (h : Con w g l) : l.length = 256 := by have := h.1; rw [cellsOf_length] at this; omega
theorem Con.lt {w : World} {g : Nat} {l : List (BitVec 8)} (h : Con w g l) : g < w.heap.size := (World.ownsRow.lt h g rfl).2
theorem Con.seen {w : World} {g : Nat} {l : List (BitVec 8)} (h : Con w g l) : Seen w (some ⟨g, 0, none⟩) 256 l := seen_owned h h.len (by unfold maxLen; omega)
theorem Con.same {w w' : World} {g : Nat} {l : List (BitVec 8)} (h : Con w g l) (e : w'.heap[g]? = w.heap[g]?) : Con w' g l := owns_same h (fun k hk => by cases hk; exact e)
theorem Con.below {w w' : World} {g : Nat} {l : List (BitVec 8)} (h : Con w g l) (b : Below w.heap.size w w') : Con w' g l := h.same (b.block _ h.lt)
theorem Con.form {w : World} {base g : Nat} {l : List (BitVec 8)} (h : w.ownsRow base 5 1 (.slice (some ⟨g, 0, none⟩) 256 256) 256 (cellsOf l)) : Con w g l := by
  refine ⟨h.1, h.2.imp id ?_⟩
  rintro ⟨g', c, cur, e, hb, r⟩
  exact ⟨g', c, cur, e, Nat.zero_le _, r⟩
/-- So many bytes are set. -/
def fillTo (b : List (BitVec 8)) (k : Nat) : List (BitVec 8) := b.take k ++ List.replicate (256 - k) 0#8
theorem fillTo_zero (b : List (BitVec 8)) : fillTo b 0 = List.replicate 256 0#8 := by unfold fillTo; rw [List.take_zero, List.nil_append]
theorem fillTo_step {b : List (BitVec 8)} {k : Nat} (h1 : k < b.length) (h2 : k < 256) : (fillTo b k).set k (b.getD k 0#8) = fillTo b (k + 1) := by
  unfold fillTo
  have e : 256 - k = (256 - (k + 1)) + 1 := by omega
  have hl : (b.take k).length = k := by simp; omega
  rw [e, List.replicate_succ, List.set_append_right _ _ (by omega), hl, Nat.sub_self, List.set_cons_zero, List.take_succ_eq_append_getElem h1, List.append_assoc]
  simp [h1]
theorem fillTo_end {b : List (BitVec 8)} {k : Nat} (h1 : k ≤ b.length) (h2 : k ≤ 256) (h : ¬ (k < b.length ∧ k < 256)) : fillTo b k = pad (b.take 256) := by
  unfold fillTo pad
  by_cases hh : k < b.length
  · obtain rfl : k = 256 := by omega
    simp
    omega
  · obtain rfl : k = b.length := by omega
    rw [List.take_of_length_le (Nat.le_refl _), List.take_of_length_le h2]
theorem pad_full {l : List (BitVec 8)} (h : l.length = 256) : pad (l.take 256) = l := by unfold pad; simp [List.take_of_length_le (Nat.le_of_eq h), h]
theorem pad_most {l : List (BitVec 8)} (h : l.length ≤ 256) : pad (l.take 256) = pad l := by rw [List.take_of_length_le h]
set_option maxRecDepth 100000 in
set_option maxHeartbeats 1600000 in
theorem full_ref (a : Option Addr) (len cap : Nat) (b : List (BitVec 8)) (w : World) (h : Seen w a len b) : Calls Try.prog 19 #[.slice a len cap] w fun e w' => ∃ g, e = .returned (.slice (some ⟨g, 0, none⟩) 256 256) ∧ w.heap.size ≤ g ∧ Con w' g (pad (b.take 256)) ∧ Below w.heap.size w w' := by
  obtain ⟨w1, hm, o1, g1, z1⟩ := make_bytes w 256 (by omega)
  rw [show ((256 : Nat) : Int) = 256 from rfl] at hm
  have b1 : Below w.heap.size w w1 := (Below.refl _ w).grown g1 (Nat.le_refl _) (fun k e => by cases e)
  rw [← fillTo_zero b] at o1
  have HM : Hid _ := hm
  have H1 : Hid (w1.ownsRow w.heap.size 5 1 (.slice (some ⟨w.heap.size, 0, none⟩) 256 256) 256 (cellsOf (fillTo b 0)) ∧ Below w.heap.size w w1) := ⟨o1, b1⟩
  have HS : Hid (Seen w a len b) := h
  have HL : Hid (len = b.length) := h.1
  have HLm : Hid (b.length ≤ maxLen) := h.2.1
  clear hm o1 g1 b1 h z1
  go_enter Try.func19, Try.ntmps19
  go_wp2_with (refine wpList_value rfl (exec_make (t := 22) (l := .const (.int .i64 256)) (c := .const (.int .i64 256)) rfl rfl rfl HM.out) ?_)
  go_loopw [4] (fun i wr => ∃ k : Nat, i = .int .i64 k ∧ Hid (k ≤ len ∧ k ≤ 256) ∧ Hid (wr.ownsRow w.heap.size 5 1 (.slice (some ⟨w.heap.size, 0, none⟩) 256 256) 256 (cellsOf (fillTo b k)) ∧ Below w.heap.size w wr)) (fun i _ => 256 - (intOf i).toNat)
  case atStart => exact ⟨0, rfl, ⟨Nat.zero_le _, Nat.zero_le _⟩, H1.out⟩
  case round =>
    clear H1 HM
    obtain ⟨k, rfl, hk, hr⟩ := hrel
    by_cases hlt : k < len ∧ k < 256
    · have hS := HS.out.below hr.out.2
      obtain ⟨ga, off, rfl, hc⟩ : ∃ ga off, a = some ⟨ga, off, none⟩ ∧ ∀ j, j < b.length → wr.cell? ⟨ga, off + j, none⟩ = some (.int .u8 (V (b.getD j 0#8))) := by
        rcases hS.2.2 with e | e
        · omega
        · exact e
      have hb := HL.out
      have c1 := hc k (by omega)
      have c2 := hr.out.1.cellAt k (by omega)
      have fl : (fillTo b k).length = 256 := by have := hr.out.1.1; rw [cellsOf_length] at this; omega
      have c2' : wr.cell? ⟨w.heap.size, k, none⟩ = some (.int .u8 (V ((fillTo b k).getD k 0#8))) := by
        rw [c2]; simp [cellsOf, fl, hlt.2]
      have c3 := hr.out.1.frozenAt k
      have st : Hid ((wr.setCell ⟨w.heap.size, k, none⟩ (.int .u8 (V (b.getD k 0#8)))).ownsRow w.heap.size 5 1 (.slice (some ⟨w.heap.size, 0, none⟩) 256 256) 256 (cellsOf (fillTo b (k + 1))) ∧ Below w.heap.size w (wr.setCell ⟨w.heap.size, k, none⟩ (.int .u8 (V (b.getD k 0#8))))) := by
        refine ⟨?_, hr.out.2.setCell (p := ⟨w.heap.size, k, none⟩) (Nat.le_refl _) _⟩
        rw [← fillTo_step (by omega) hlt.2, ← cellsOf_set]
        exact (hr.out.1.stored k _).1
      have h1 : (k : Int) < (len : Int) := by omega
      have h2 : (k : Int) < 256 := by omega
      have HLT : Hid (k < len ∧ k < 256) := hlt
      have WK : Hid ((k : Int) + 1 = ((k + 1 : Nat) : Int)) := by show (k : Int) + 1 = ((k + 1 : Nat) : Int); omega
      obtain ⟨x1, e1⟩ : ∃ x, V (b.getD k 0#8) = x := ⟨_, rfl⟩
      obtain ⟨x2, e2⟩ : ∃ x, V ((fillTo b k).getD k 0#8) = x := ⟨_, rfl⟩
      rw [e1] at c1 st
      rw [e2] at c2'
      clear hS hc c2 fl hlt hk hr e1 e2 hb
      go_wp2
      rw [WK.out]
      go_roundw
      case rel => exact ⟨k + 1, rfl, HLT.out, st.out⟩
      case measure => exact less_by HLT.out.2
    · have hx : ¬ (k : Int) < (len : Int) ∨ ((k : Int) < (len : Int) ∧ ¬ (k : Int) < 256) := by omega
      have FE : Hid (fillTo b k = pad (b.take 256)) := fillTo_end (by have := HL.out; have := hk.out; omega) hk.out.2 (by have := HL.out; rw [this] at hlt; exact hlt)
      clear hlt hk
      rcases hx with h1 | ⟨h1, h2⟩
      all_goals
        go_wp2
        go_ret
        refine ⟨w.heap.size, rfl, Nat.le_refl _, Con.form (base := w.heap.size) ?_, hr.out.2⟩
        rw [← FE.out]
        exact hr.out.1
end Go.Proofs.Ytnpebdnfdbeiaaa
