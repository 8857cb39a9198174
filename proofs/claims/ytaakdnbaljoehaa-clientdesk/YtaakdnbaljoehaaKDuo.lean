/- Two desks of a law, the program's and the reference's, that say the same. -/
import Derived.Test.YtaakdnbaljoehaaKAllF
import Derived.Test.YtaakdnbaljoehaaKAllG
import Derived.Test.YtaakdnbaljoehaaKAllH
import Derived.Test.YtaakdnbaljoehaaKActs
namespace Go.Proofs.Ytaakdnbaljoehaa
open Go.RowKit Cod
set_option linter.unusedVariables false

structure Du (w0 w : World) (P R : Nat) (L L' : List CallV) : Prop where
  d : DeskIn w w0.heap.size P L
  r : RDeskIn w w0.heap.size R L'
  b : Below w0.heap.size w0 w
theorem Du.below {w0 w w' : World} {P R : Nat} {L L' : List CallV} (h : Du w0 w P R L L') (b : Below w.heap.size w w') : Du w0 w' P R L L' := ⟨h.d.below b, h.r.below b, h.b.trans (b.mono h.b.size)⟩
theorem Du.drew {w0 w : World} {P R : Nat} {L L' : List CallV} (h : Du w0 w P R L L') : Du w0 w.drew P R L L' := h.below (Below.refl _ w).drew
theorem Du.left {w0 w w' : World} {P R : Nat} {L L' L2 : List CallV} (h : Du w0 w P R L L') {ts : List TypeId} (hd : DeskIn w' w0.heap.size P L2) (on : OnlyT ts w w') (h1 : 55 ∉ ts) (h2 : 85 ∉ ts) (h3 : 59 ∉ ts) (bb : Below w0.heap.size w w') : Du w0 w' P R L2 L' := ⟨hd, h.r.keep on h1 h2 h3, h.b.trans bb⟩
theorem Du.right {w0 w w' : World} {P R : Nat} {L L' L2 : List CallV} (h : Du w0 w P R L L') {ts : List TypeId} (hd : RDeskIn w' w0.heap.size R L2) (on : OnlyT ts w w') (h1 : 77 ∉ ts) (h2 : 74 ∉ ts) (h3 : 59 ∉ ts) (bb : Below w0.heap.size w w') : Du w0 w' P R L L2 := ⟨h.d.keep on h1 h2 h3, hd, h.b.trans bb⟩
/-- What the two lists say: the same, and their answers have few rows. -/
structure Say (L L' : List CallV) : Prop where
  like : LikeL L L'
  few : ∀ c ∈ L, c.rows.length * 24 ≤ 140737488355328
theorem Say.nil : Say [] [] := ⟨LikeL.nil, fun c hc => by cases hc⟩
theorem Say.begin {L L' : List CallV} (h : Say L L') (o : OpD) : (beginL L o).1 = (beginL L' o).1 ∧ Say (beginL L o).2 (beginL L' o).2 := by
  unfold beginL
  rw [← h.like.1]
  by_cases hl : 2000 ≤ L.length
  · rw [if_pos hl, if_pos hl]; exact ⟨rfl, h⟩
  · rw [if_neg hl, if_neg hl]
    refine ⟨rfl, h.like.app ⟨rfl, rfl, rfl, rfl, rfl⟩, fun c hc => ?_⟩
    rcases List.mem_append.1 hc with hc | hc
    · exact h.few c hc
    · obtain rfl := List.mem_singleton.1 hc
      simp [callOf]
theorem Say.ok {L L' : List CallV} (h : Say L L') (n : Int) : hearOk L n = hearOk L' n := by
  unfold hearOk hasN
  rw [← h.like.1]
  by_cases h0 : 0 ≤ n
  · by_cases h1 : n < (L.length : Int)
    · have k1 : n.toNat < L.length := by omega
      have k2 : n.toNat < L'.length := by rw [← h.like.1]; exact k1
      rw [List.getElem?_eq_getElem k1, List.getElem?_eq_getElem k2]
      simp only
      rw [(h.like.2 _ k1 k2).2.1]
    · rw [decide_eq_false h1]; simp
  · rw [decide_eq_false h0]; simp
/-- What Hear makes of a list. -/
def HearTo (L : List CallV) (n ry rm : Int) (rows : List (ByteArray × Int)) (B : Nat) (L2 : List CallV) : Prop :=
  (hearOk L n = false ∧ L2 = L) ∨ ∃ (k : Nat) (hk : k < L.length) (a5 : Option Addr) (c5 : Nat), n = (k : Int) ∧ L2 = L.set k (L[k].hear ry rm rows a5 c5) ∧ ∀ x, a5 = some x → B ≤ x.block
theorem hear_split {L : List CallV} {n : Int} (h : hearOk L n = true) : ∃ (k : Nat) (hk : k < L.length), n = (k : Int) ∧ L[k].heard = false := by
  unfold hearOk at h
  rw [Bool.and_eq_true] at h
  obtain ⟨k, rfl, hk⟩ := hasN_true h.1
  refine ⟨k, hk, rfl, ?_⟩
  simpa [hk] using h.2
theorem Say.hear {L L' L2 L2' : List CallV} {n ry rm : Int} {rows : List (ByteArray × Int)} {B B' : Nat} (h : Say L L') (hr : rows.length * 24 ≤ 140737488355328) (h1 : HearTo L n ry rm rows B L2) (h2 : HearTo L' n ry rm rows B' L2') (o1 : hearOk L n = false → L2 = L) (o2 : hearOk L' n = false → L2' = L') : Say L2 L2' := by
  cases hh : hearOk L n with
  | false =>
    rw [o1 hh, o2 (by rw [← h.ok]; exact hh)]
    exact h
  | true =>
    rcases h1 with ⟨e1, _⟩ | ⟨k, hk, a5, c5, rfl, rfl, _⟩
    · rw [hh] at e1; cases e1
    rcases h2 with ⟨e1, _⟩ | ⟨k', hk', a6, c6, e6, rfl, _⟩
    · rw [← h.ok, hh] at e1; cases e1
    obtain rfl : k = k' := by omega
    have hc : LikeC (L[k].hear ry rm rows a5 c5) (L'[k].hear ry rm rows a6 c6) := ⟨(h.like.2 k hk hk').1, rfl, rfl, rfl, rfl⟩
    refine ⟨h.like.set hc k, fun c hc => ?_⟩
    rcases List.mem_or_eq_of_mem_set hc with hc | rfl
    · exact h.few c hc
    · exact hr
/-- No answer's rows lie in that block. -/
def Off (g : Nat) (L : List CallV) : Prop := ∀ c ∈ L, ∀ x, c.ra = some x → x.block ≠ g
theorem Off.hear {L L2 : List CallV} {n ry rm : Int} {rows : List (ByteArray × Int)} {B g : Nat} (h : Off g L) (hg : g < B) (ht : HearTo L n ry rm rows B L2) : Off g L2 := by
  rcases ht with ⟨_, rfl⟩ | ⟨k, hk, a5, c5, _, rfl, hx⟩
  · exact h
  · intro c hc x e
    rcases List.mem_or_eq_of_mem_set hc with hc | rfl
    · exact h c hc x e
    · have := hx x e
      omega
theorem owns_off {w : World} {base g o : Nat} {v : Value} {t : TypeId} {s n : Nat} {u : Value} {xs : List Value} (h : w.ownsRow base t s u n xs) (hn : ∀ gg, u.ownBlock = some gg → gg ≠ g) : (w.setCell ⟨g, o, none⟩ v).ownsRow base t s u n xs := ownsK h fun gg hg => Below.heap_setCell _ _ _ _ (hn gg hg)
theorem Du.spoil {w0 w : World} {P R : Nat} {L L' : List CallV} (h : Du w0 w P R L L') {g o : Nat} {cur : Array Value} {fr : Nat × Nat} (hg : w.heap[g]? = some (.cells cur 59 fr)) (hb : w0.heap.size ≤ g) (a1 : Off g L) (a2 : Off g L') (v : Value) : Du w0 (w.setCell ⟨g, o, none⟩ v) P R L L' := by
  have ne : ∀ K c t f, w.heap[K]? = some (.cells c t f) → t ≠ 59 → K ≠ g := fun K c t f hK ht e => by
    rw [e, hg] at hK
    injection hK with hK
    injection hK with _ hK
    exact ht hK.symm
  obtain ⟨v1, hv1, ho1⟩ := h.d.ex
  obtain ⟨v2, hv2, ho2⟩ := h.r.ex
  have rw1 : ∀ c : CallV, w.ownsRow w0.heap.size 59 2 (.slice c.ra c.rows.length c.rc) c.rows.length (rowCells c.rows) → (∀ x, c.ra = some x → x.block ≠ g) → (w.setCell ⟨g, o, none⟩ v).ownsRow w0.heap.size 59 2 (.slice c.ra c.rows.length c.rc) c.rows.length (rowCells c.rows) := fun c hc hx => owns_off hc fun gg e => by
    cases hr : c.ra with
    | none => rw [hr] at e; cases e
    | some x =>
      rw [hr] at e
      have := hx x hr
      rcases hc.2 with ⟨e1, _⟩ | ⟨g', c', cur', e1, _, _, _⟩
      · rw [hr] at e1; cases e1
      · rw [hr] at e1
        injection e1 with e1 _ _
        injection e1 with e1
        subst e1
        simp [Value.ownBlock] at e
        rw [← e]
        exact this
  refine ⟨⟨⟨v1, ?_, owns_off ho1 fun gg e => ?_⟩, fun c hc => rw1 c (h.d.rows c hc) (a1 c hc), h.d.pb, h.d.few⟩, ⟨⟨v2, ?_, owns_off ho2 fun gg e => ?_⟩, fun c hc => rw1 c (h.r.rows c hc) (a2 c hc), h.r.pb, h.r.few⟩, h.b.setCell hb _⟩
  · rw [Below.heap_setCell _ _ _ _ (ne _ _ _ _ hv1 (by decide))]; exact hv1
  · obtain ⟨_, _, c, hc⟩ := row_kind ho1 e
    exact ne _ _ _ _ hc (by decide)
  · rw [Below.heap_setCell _ _ _ _ (ne _ _ _ _ hv2 (by decide))]; exact hv2
  · obtain ⟨_, _, c, hc⟩ := row_kind ho2 e
    exact ne _ _ _ _ hc (by decide)
/-- What lay in memory when a block was made lies in none that is new. -/
theorem Du.off {w0 w : World} {P R : Nat} {L L' : List CallV} (h : Du w0 w P R L L') {g : Nat} (hg : w.heap.size ≤ g) : Off g L ∧ Off g L' := by
  have one : ∀ c : CallV, w.ownsRow w0.heap.size 59 2 (.slice c.ra c.rows.length c.rc) c.rows.length (rowCells c.rows) → ∀ x, c.ra = some x → x.block ≠ g := fun c hc x e he => by
    have := (row_kind hc (g := x.block) (by rw [e]; rfl)).2.1
    omega
  exact ⟨fun c hc => one c (h.d.rows c hc), fun c hc => one c (h.r.rows c hc)⟩
/-- Hear, whatever number. -/
theorem desk_hearB {w : World} {base P : Nat} {L : List CallV} (h : DeskIn w base P L) (n ry rm : Int) (qa : Option Addr) (qc : Nat) (rows : List (ByteArray × Int)) (hq : RowsAt w qa rows.length rows) (hqn : qa = none → qc = 0) (hsz : rows.length * 24 ≤ 140737488355328) (hb : base ≤ w.heap.size) :
    Calls Try.prog 10 #[.pointer (some ⟨P, 0, none⟩), .int .i64 n, .agg #[.int .i64 ry, .int .i64 rm, .slice qa rows.length qc]] w fun e w' => ∃ L2, e = .returned (.bool (hearOk L n)) ∧ DeskIn w' base P L2 ∧ OnlyT [74] w w' ∧ Below base w w' ∧ HearTo L n ry rm rows w.heap.size L2 ∧ (hearOk L n = false → L2 = L) := by
  cases hh : hearOk L n with
  | false =>
    refine (desk_hearNo h n ry rm (.slice qa rows.length qc) hh).mono ?_
    rintro e w' ⟨rfl, b⟩
    exact ⟨L, rfl, h.below b, OnlyT.below b, b.mono hb, .inl ⟨hh, rfl⟩, fun _ => rfl⟩
  | true =>
    obtain ⟨k, hk, rfl, hd⟩ := hear_split hh
    refine (desk_hear h hk hd ry rm qa qc rows hq hqn hsz).mono ?_
    rintro e w' ⟨a5, c5, rfl, d, o, b, x⟩
    exact ⟨_, rfl, d, o, b, .inr ⟨k, hk, a5, c5, rfl, rfl, x⟩, fun e => by cases e⟩
theorem rdesk_hearB {w : World} {base P : Nat} {L : List CallV} (h : RDeskIn w base P L) (n ry rm : Int) (qa : Option Addr) (qc : Nat) (rows : List (ByteArray × Int)) (hq : RowsAt w qa rows.length rows) (hqn : qa = none → qc = 0) (hsz : rows.length * 24 ≤ 140737488355328) (hqg : ∀ x, qa = some x → rows ≠ [] → x.block < base) (hb : base ≤ w.heap.size) :
    Calls Try.prog 21 #[.pointer (some ⟨P, 0, none⟩), .int .i64 n, .agg #[.int .i64 ry, .int .i64 rm, .slice qa rows.length qc]] w fun e w' => ∃ L2, e = .returned (.bool (hearOk L n)) ∧ RDeskIn w' base P L2 ∧ OnlyT [85] w w' ∧ Below base w w' ∧ HearTo L n ry rm rows w.heap.size L2 ∧ (hearOk L n = false → L2 = L) := by
  cases hh : hearOk L n with
  | false =>
    refine (rdesk_hearNo h n ry rm (.slice qa rows.length qc) hh).mono ?_
    rintro e w' ⟨rfl, b⟩
    exact ⟨L, rfl, h.below b, OnlyT.below b, b.mono hb, .inl ⟨hh, rfl⟩, fun _ => rfl⟩
  | true =>
    obtain ⟨k, hk, rfl, hd⟩ := hear_split hh
    refine (rdesk_hear h hk hd ry rm qa qc rows hq hqn hsz hqg).mono ?_
    rintro e w' ⟨a5, c5, rfl, d, o, b, x⟩
    exact ⟨_, rfl, d, o, b, .inr ⟨k, hk, a5, c5, rfl, rfl, x⟩, fun e => by cases e⟩
end Go.Proofs.Ytaakdnbaljoehaa
