/- Package net: a net in memory; Len, To, ahead. -/
import Derived.Test.YtccmehbdnnelhaaNMem
import Derived.Test.YtccmehbdnnelhaaClone
import Derived.Laws.IdiomRangeMap
namespace Go.Proofs.Ytccmehbdnnelhaa
open Go.RowKit Go.Maps
set_option linter.unusedVariables false

def B8At (w : World) (g : Nat) : Prop := ∃ (cs : Array Value) (z : Nat × Nat), w.heap[g]? = some (Obj.cells cs 5 z)
/-- A letter's bytes. -/
def DataAt (w : World) (v : Value) (b : List (BitVec 8)) : Prop := ∃ a c, v = .slice a b.length c ∧ Seen w a b.length b ∧ (a = none → c = 0) ∧ ∀ x, a = some x → b ≠ [] → B8At w x.block
/-- A net in memory. -/
structure NetIn (w : World) (base N B : Nat) (bx : Int → Value) (L : List Post) (T : Nat) : Prop where
  hN : w.heap[N]? = some (.cells #[.map (some B), .int .i64 (T : Int)] 38 (0, 0))
  hM : BoxMap w B T bx (fun k => decide (box L k ≠ []))
  row : ∀ k, w.ownsRow base 69 4 (bx k) (box L k).length (cells4 (box L k))
  apart : ∀ j k g, (bx j).ownBlock = some g → (bx k).ownBlock = some g → j = k
  bN : base ≤ N
  bB : base ≤ B
  dat : ∀ p ∈ L, DataAt w p.dv p.b
  ris : Rising L
  tur : ∀ p ∈ L, p.t < T
  tos : ∀ p ∈ L, -1 ≤ p.to ∧ p.to ≤ 4
  len : L.length ≤ 10000
section
variable {w : World} {base N B T : Nat} {bx : Int → Value} {L : List Post}
theorem row_lt4 {v : Value} {n : Nat} {xs : List Value} {t : TypeId} {s : Nat} (h : w.ownsRow base t s v n xs) {k : Nat} (e : v.ownBlock = some k) : base ≤ k ∧ k < w.heap.size := h.lt k e
theorem row_kind {v : Value} {n : Nat} {xs : List Value} {t : TypeId} {s : Nat} (h : w.ownsRow base t s v n xs) {g : Nat} (e : v.ownBlock = some g) : ∃ cur, w.heap[g]? = some (.cells cur t (0, 0)) := by
  rcases h.2 with ⟨e1, _⟩ | ⟨g', c, cur, e1, _, hg, _⟩
  · rw [e1] at e; cases e
  · rw [e1] at e
    obtain rfl : g' = g := by simpa [Value.ownBlock] using e
    exact ⟨cur, hg⟩
theorem owns_kept {v : Value} {n : Nat} {xs : List Value} {t : TypeId} {s : Nat} {w' : World} (h : w.ownsRow base t s v n xs) (k : ∀ g, v.ownBlock = some g → w'.heap[g]? = w.heap[g]?) : w'.ownsRow base t s v n xs := by
  refine ⟨h.1, h.2.imp id ?_⟩
  rintro ⟨g, cap, cur, rfl, hb, hg, hr⟩
  exact ⟨g, cap, cur, rfl, hb, by rw [k g rfl]; exact hg, hr⟩
theorem NetIn.ltN (h : NetIn w base N B bx L T) : N < w.heap.size := (Array.getElem?_eq_some_iff.1 h.hN).1
theorem DataAt.keep {w' : World} {v : Value} {b : List (BitVec 8)} (h : DataAt w v b) (k : ∀ g, B8At w g → w'.heap[g]? = w.heap[g]?) : DataAt w' v b := by
  obtain ⟨a, c, e, s, n, u⟩ := h
  refine ⟨a, c, e, ?_, n, fun x ex hb => ?_⟩
  · obtain ⟨s1, s2, s3⟩ := s
    refine ⟨s1, s2, s3.imp id ?_⟩
    rintro ⟨g, o, rfl, hc⟩
    refine ⟨g, o, rfl, fun j hj => ?_⟩
    have hb : b ≠ [] := fun e => by rw [e] at hj; simp at hj
    rw [World.cell?_of_block (w := w) (a := ⟨g, o + j, none⟩) (k g (u ⟨g, o, none⟩ rfl hb))]
    exact hc j hj
  · obtain ⟨cs, z, e2⟩ := u x ex hb
    exact ⟨cs, z, (k _ ⟨cs, z, e2⟩).trans e2⟩
theorem DataAt.below {w' : World} {v : Value} {b : List (BitVec 8)} (h : DataAt w v b) (k : Below w.heap.size w w') : DataAt w' v b :=
  h.keep fun g ⟨cs, z, e⟩ => k.block g (Array.getElem?_eq_some_iff.1 e).1
theorem NetIn.below {w' : World} (h : NetIn w base N B bx L T) (k : Below w.heap.size w w') : NetIn w' base N B bx L T :=
  { h with
    hN := (k.block N h.ltN).trans h.hN
    hM := h.hM.kept (k.block B h.hM.lt)
    row := fun j => owns_kept (h.row j) (fun g e => k.block g (row_lt4 (h.row j) e).2)
    dat := fun p hp => (h.dat p hp).below k }
theorem NetIn.c0 (h : NetIn w base N B bx L T) : w.cell? ⟨N, 0, none⟩ = some (.map (some B)) := by have := h.hN; simp [World.cell?, this]
theorem NetIn.c1 (h : NetIn w base N B bx L T) : w.cell? ⟨N, 1, none⟩ = some (.int .i64 (T : Int)) := by have := h.hN; simp [World.cell?, this]
theorem NetIn.fz (h : NetIn w base N B bx L T) (i : Nat) : w.frozen? ⟨N, i, none⟩ = false := by have := h.hN; simp [World.frozen?, this]
theorem NetIn.kwf (h : NetIn w base N B bx L T) {p : Post} (hp : p ∈ L) : kwf p.to := by
  have := h.tos p hp
  exact kwf_of (by omega) (by omega)
theorem row_posts {v : Value} {l : List Post} (h : w.ownsRow base 69 4 v l.length (cells4 l)) : ∃ a c, v = .slice a l.length c ∧ PostsAt w a l := by
  by_cases h0 : l = []
  · subst h0
    rcases h.2 with ⟨e1, _⟩ | ⟨g, c, cur, e1, _⟩
    · exact ⟨none, 0, e1, .inl rfl⟩
    · exact ⟨_, c, e1, .inl rfl⟩
  · have hl : 0 < l.length := List.length_pos_iff.2 h0
    obtain ⟨g, c, e, _, _⟩ := h.form hl
    subst e
    refine ⟨_, c, rfl, .inr ⟨g, 0, rfl, fun i hi => ?_⟩⟩
    obtain ⟨q0, q1, q2, q3⟩ := cells4_at l i hi
    have k0 := h.cellAt (i * 4) (by omega)
    have k1 := h.cellAt (i * 4 + 1) (by omega)
    have k2 := h.cellAt (i * 4 + 2) (by omega)
    have k3 := h.cellAt (i * 4 + 3) (by omega)
    simp only [Nat.zero_add]
    rw [k0, k1, k2, k3]
    exact ⟨q0, q1, q2, q3⟩
theorem NetIn.box (h : NetIn w base N B bx L T) (k : Int) : ∃ a c, bx k = .slice a (box L k).length c ∧ PostsAt w a (box L k) := row_posts (h.row k)
theorem NetIn.start (h : NetIn w base N B bx L T) : gone L (fun k => decide (Go.Proofs.Ytccmehbdnnelhaa.box L k ≠ [])) = [] := gone_none fun p hp => by
  have : p ∈ Go.Proofs.Ytccmehbdnnelhaa.box L p.to := mem_box.2 ⟨hp, rfl⟩
  simp only [ne_eq, decide_eq_true_eq]
  exact List.ne_nil_of_mem this
end
set_option maxRecDepth 100000 in
set_option maxHeartbeats 1600000 in
theorem to_any {w : World} {base N B T : Nat} {bx : Int → Value} {L : List Post} (h : NetIn w base N B bx L T) {k : Int} (hk : kwf k) : Calls Try.prog 24 #[.pointer (some ⟨N, 0, none⟩), .int .i64 k] w fun e w' => e = .returned (.int .i64 ((box L k).length : Nat)) ∧ w' = w := by
  have c0 := h.c0
  obtain ⟨a, c, e, _⟩ := h.box k
  have hl := h.hM.look hk
  rw [e] at hl
  obtain ⟨n, en⟩ : ∃ n, (box L k).length = n := ⟨_, rfl⟩
  rw [en] at hl
  rw [en]
  clear e en h
  go_enter Try.func24, Try.ntmps24
  go_wp2
  go_ret
  exact ⟨rfl, rfl⟩
theorem countP_all (l : List Post) : l.countP (fun _ => true) = l.length := by simp
set_option maxRecDepth 100000 in
set_option maxHeartbeats 1600000 in
theorem len_any {w : World} {base N B T : Nat} {bx : Int → Value} {L : List Post} (h : NetIn w base N B bx L T) : Calls Try.prog 23 #[.pointer (some ⟨N, 0, none⟩)] w fun e w' => e = .returned (.int .i64 (L.length : Nat)) ∧ Below w.heap.size w w' := by
  have H : Hid (NetIn w base N B bx L T) := h
  have c0 := h.c0
  obtain ⟨w1, cnt, hrun, hR, hg, hs⟩ := h.hM.range
  have R1 : Hid (BoxRange w1 B w.heap.size T bx (fun k => decide (box L k ≠ [])) cnt) := hR
  have B1 : Hid (Below w.heap.size w w1) := (Below.refl _ w).grown hg (Nat.le_refl _) (fun j e => by cases e)
  obtain ⟨r, er⟩ : ∃ r, w.heap.size = r := ⟨_, rfl⟩
  rw [er] at hrun R1
  have ER : Hid (w.heap.size = r) := er
  clear h hR hg hs er
  go_enter Try.func23, Try.ntmps23
  go_wp2
  go_loopw [3] (fun cv wr => ∃ (left : Int → Bool) (cnt : Nat), cv = .int .i64 ((gone L left).length : Nat) ∧ Hid (BoxRange wr B r T bx left cnt) ∧ Hid (Below w.heap.size w wr)) (fun _ wr => wr.rangeLeft B r)
  case atStart => exact ⟨_, cnt, by rw [H.out.start]; rfl, R1.out, B1.out⟩
  case round =>
    obtain ⟨left, cnt2, rfl, hR, hB⟩ := hrel
    rcases hR.out.next 0 with ⟨_, hl0, hrn⟩ | ⟨k, w2, cnt3, hkw, hlk, hrn, hR2, hlt, hg2, hs2, hen⟩
    · have eL : Hid (gone L left = L) := gone_all hl0
      rw [show gone L left = L from eL.out]
      clear hl0
      go_wp2
      go_ret
      exact ⟨rfl, hB.out⟩
    · obtain ⟨a, c, e, _⟩ := H.out.box k
      have hb2 : Below w.heap.size w w2 := hB.out.grown hg2 hB.out.size (fun j e => by cases e; rw [ER.out]; exact Nat.le_refl _)
      have es := gone_step (fun _ => true) hlk L
      rw [countP_all, countP_all, countP_all] at es
      have ES : Hid _ := es
      have HB2 : Hid _ := hb2
      have HR2 : Hid (BoxRange w2 B r T bx (fun x => left x && !decide (x = k)) cnt3) := hR2
      have HLT : Hid (cnt3 < cnt2) := hlt
      have le1 : (gone L left).length ≤ L.length := List.length_filter_le _ _
      have le2 := box_len L k
      have le3 := H.out.len
      rw [e] at hrn hen
      obtain ⟨n, en⟩ : ∃ n, (box L k).length = n := ⟨_, rfl⟩
      obtain ⟨m, em⟩ : ∃ m, (gone L left).length = m := ⟨_, rfl⟩
      rw [en] at hrn hen ES le2
      rw [em] at ES le1
      rw [em]
      have wm : IntKind.i64.wrap ((m : Int) + (n : Int)) = ((m + n : Nat) : Int) := by rw [IntKind.wrap_i64]; omega
      clear e en em hb2 hR2 hlt es le1 le2 le3 hg2 hs2 hkw hlk
      go_wp2
      go_roundw
      case rel => exact ⟨_, cnt3, by rw [ES.out, Int.natCast_add], HR2.out, HB2.out⟩
      case measure =>
        show w2.rangeLeft B r < wr.rangeLeft B r
        rw [HR2.out.left_eq, hR.out.left_eq]
        exact HLT.out
end Go.Proofs.Ytccmehbdnnelhaa
