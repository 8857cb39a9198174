/- Package net: what a letter less makes of the memory. -/
import Derived.Test.YtginkikkenegkaaNDelW
namespace Go.Proofs.Ytginkikkenegkaa
open Go.RowKit Go.Maps
set_option linter.unusedVariables false

/-- What is no row of letters and no map is as it was. -/
def KeepC (w w' : World) : Prop := ∀ (q : Nat) (cs : Array Value) (t : TypeId) (z : Nat × Nat), w.heap[q]? = some (Obj.cells cs t z) → t ≠ 71 → w'.heap[q]? = w.heap[q]?
theorem KeepC.trans {a b c : World} (h : KeepC a b) (k : KeepC b c) : KeepC a c := fun q cs t z e ht => by
  have q1 := h q cs t z e ht
  rw [k q cs t z (q1.trans e) ht, q1]
theorem KeepC.drew (a : World) : KeepC a a.drew := fun q cs t z e ht => rfl
theorem KeepC.turned {a b : World} {B : Nat} (h : a.mapTurned b B) : KeepC a b := fun q cs t z e ht => by
  refine mapTurned_block h (Array.getElem?_eq_some_iff.1 e).1 (fun eq => ?_)
  obtain ⟨es, c, _, _, hb, _⟩ := h
  subst eq
  rw [e] at hb
  cases hb
theorem KeepC.grown {a b : World} {base g n cap : Nat} {xs : List Value} (h : a.grownBy b (some g)) (ho : a.ownsRow base 71 4 (.slice (some ⟨g, 0, none⟩) n cap) n xs) : KeepC a b := fun q cs t z e ht =>
  h.block q (Array.getElem?_eq_some_iff.1 e).1 (fun eq => not_row ho e ht (by rw [Value.ownBlock]; exact eq.symm))
/-- The rows of the others are as they were. -/
def KeepR (w w' : World) (bx : Int → Value) (to : Int) : Prop := ∀ j, j ≠ to → ∀ q, (bx j).ownBlock = some q → w'.heap[q]? = w.heap[q]?
theorem net_dropped {w w' : World} {base N B T : Nat} {bx bx' : Int → Value} {L : List Post} (h : NetIn w base N B bx L T) {i : Nat} (hi : i < L.length) (hc : KeepC w w') (hr : KeepR w w' bx L[i].to) (hm : BoxMap w' B T bx' (fun k => decide (box (L.eraseIdx i) k ≠ [])))
    (ho : ∀ j, j ≠ L[i].to → bx' j = bx j) (hrow : w'.ownsRow base 71 4 (bx' L[i].to) (box (L.eraseIdx i) L[i].to).length (cells4 (box (L.eraseIdx i) L[i].to))) (hg : ∀ q, (bx' L[i].to).ownBlock = some q → (bx L[i].to).ownBlock = some q) :
    NetIn w' base N B bx' (L.eraseIdx i) T := by
  refine ⟨(hc N _ _ _ h.hN tPN).trans h.hN, hm, fun j => ?_, fun j k g e1 e2 => ?_, h.bN, h.bB, fun p hp => (h.dat p (mem_erase hp)).keep fun g ⟨cs, z, e⟩ => hc g cs 5 z e t5P, h.ris.erase i, fun p hp => h.tur p (mem_erase hp), fun p hp => h.tos p (mem_erase hp), ?_⟩
  · by_cases e : j = L[i].to
    · rw [e]; exact hrow
    · rw [ho j e, box_erase_ne hi (fun x => e x.symm)]
      exact owns_kept (h.row j) (fun q eq => hr j e q eq)
  · have f : ∀ j, (bx' j).ownBlock = some g → (bx j).ownBlock = some g := fun j ej => by
      by_cases e : j = L[i].to
      · rw [e] at ej ⊢; exact hg g ej
      · rw [ho j e] at ej; exact ej
    exact h.apart j k g (f j e1) (f k e2)
  · have := List.length_eraseIdx_le L i
    have := h.len
    omega
theorem NetIn.one {w : World} {base N B T : Nat} {bx : Int → Value} {L : List Post} (h : NetIn w base N B bx L T) (k : Int) : ∀ p ∈ Go.Proofs.Ytginkikkenegkaa.box L k, p.dv.oneCell' = true := fun p hp => by
  obtain ⟨a, c, e, _⟩ := h.dat p (mem_box.1 hp).1
  rw [e]
  rfl
/-- The box of a letter. -/
theorem net_box {w : World} {base N B T : Nat} {bx : Int → Value} {L : List Post} (h : NetIn w base N B bx L T) {i : Nat} (hi : i < L.length) : ∃ g n cap, bx L[i].to = .slice (some ⟨g, 0, none⟩) n cap ∧ n = (box L L[i].to).length ∧ spotOf L i < n ∧ n ≤ 10000 ∧ w.ownsRow base 71 4 (.slice (some ⟨g, 0, none⟩) n cap) n (cells4 (box L L[i].to)) := by
  obtain ⟨hk, _⟩ := spot_ok h.ris hi
  have ho := h.row L[i].to
  obtain ⟨g, cap, e, _, _⟩ := ho.form (by omega)
  have := box_len L L[i].to
  have := h.len
  rw [e] at ho
  exact ⟨g, _, cap, e, rfl, hk, by omega, ho⟩
/-- Behind Delete and the store. -/
theorem net_cut {w w2 : World} {base N B T : Nat} {bx : Int → Value} {L : List Post} (h : NetIn w base N B bx L T) {i : Nat} (hi : i < L.length) {g n cap : Nat} (hb : bx L[i].to = .slice (some ⟨g, 0, none⟩) n cap) (hn : n = (box L L[i].to).length)
    (ho : w.ownsRow base 71 4 (.slice (some ⟨g, 0, none⟩) n cap) n (cells4 (box L L[i].to))) (ho2 : w2.ownsRow base 71 4 (.slice (some ⟨g, 0, none⟩) (n - 1) cap) (n - 1) (cells4 ((box L L[i].to).eraseIdx (spotOf L i)))) (hgr : w.grownBy w2 (some g)) (hT : T ≤ 1000000000000) :
    ∃ w3, (Instr.mapUpdate 53 (.map (some B)) (.int .i64 L[i].to) (.slice (some ⟨g, 0, none⟩) (n - 1) cap)).run Try.prog w2 = .ok () w3 ∧ KeepC w w2 ∧ KeepC w w3 ∧ KeepR w w3 bx L[i].to ∧ NKeep base w w3 ∧ w3.heap[g]? = w2.heap[g]? ∧ g ≠ B ∧
      BoxMap w3 B T (fun j => if j = L[i].to then .slice (some ⟨g, 0, none⟩) (n - 1) cap else bx j) (fun j => decide (box L j ≠ []) || decide (j = L[i].to)) := by
  have hkw : kwf L[i].to := h.kwf (List.getElem_mem hi)
  have k2 : KeepC w w2 := KeepC.grown hgr ho
  obtain ⟨es, cl, hmap⟩ := h.hM.isMap
  have hrg : (bx L[i].to).ownBlock = some g := by rw [hb]; rfl
  have gB : g ≠ B := fun e => not_row_map (h.row L[i].to) (by rw [← e] at hmap; exact hmap) hrg
  have m2 : BoxMap w2 B T bx (fun k => decide (box L k ≠ [])) := h.hM.kept (hgr.block B h.hM.lt (fun e => gB (by simpa using e.symm)))
  have hkk : decide (box L L[i].to ≠ []) = true := by
    simp only [ne_eq, decide_eq_true_eq]
    exact List.ne_nil_of_mem (mem_box.2 ⟨List.getElem_mem hi, rfl⟩)
  obtain ⟨w3, hr3, _, m3, ht3⟩ := m2.store (by unfold maxLen; omega) hkw (.slice (some ⟨g, 0, none⟩) (n - 1) cap)
  have hbs : base ≤ w.heap.size := Nat.le_of_lt (Nat.lt_of_le_of_lt h.bN h.ltN)
  have hgb : base ≤ g := (row_lt4 ho (k := g) rfl).1
  have hg2 : g < w2.heap.size := (row_lt4 ho2 (k := g) rfl).2
  have k3 : KeepC w w3 := k2.trans (KeepC.turned ht3)
  refine ⟨w3, hr3, k2, k3, fun j hj q e => ?_, ⟨?_, Nat.le_trans hgr.size ht3.grown.size, fun q cs t z e h1 _ => k3 q cs t z e h1⟩, mapTurned_block ht3 hg2 gB, gB, m3 hkk⟩
  · have lt := (row_lt4 (h.row j) e).2
    obtain ⟨cur, hc⟩ := row_kind (h.row j) e
    have n1 : q ≠ g := fun eq => hj (h.apart j L[i].to q e (by rw [eq]; exact hrg))
    have nB : q ≠ B := fun eq => by subst eq; rw [hc] at hmap; cases hmap
    rw [mapTurned_block ht3 (Nat.lt_of_lt_of_le lt hgr.size) nB, hgr.block q lt (fun x => n1 (by simpa using x))]
  · have b1 : Below base w w2 := (Below.refl base w).grown hgr hbs (fun j e => by cases e; exact hgb)
    exact b1.grown ht3.grown (Nat.le_trans hbs b1.size) (fun j e => by cases e; exact h.bB)
end Go.Proofs.Ytginkikkenegkaa
