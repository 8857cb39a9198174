/- Package book: how a book lies in memory. -/
import Derived.Test.YtdchnfggmkokhaaGreatDoorBMath
import Derived.Test.YtdchnfggmkokhaaGreatDoorText
import Derived.Test.YtdchnfggmkokhaaGreatDoorSteps
namespace Go.Proofs.YtdchnfggmkokhaaGreatDoor
open Go.RowKit
set_option linter.unusedVariables false

/-- Accounts in a slice. -/
def AccsAt (w : World) (a : Option Addr) (l : List Acc) : Prop := l = [] ∨ ∃ g o, a = some ⟨g, o, none⟩ ∧ ∀ i (hi : i < l.length), w.cell? ⟨g, o + i * 3, none⟩ = some (.string l[i].nm) ∧ w.cell? ⟨g, o + i * 3 + 1, none⟩ = some (.int .i64 l[i].amt) ∧ w.cell? ⟨g, o + i * 3 + 2, none⟩ = some (.string l[i].by_)
theorem AccsAt.below {w w' : World} {a : Option Addr} {l : List Acc} (h : AccsAt w a l) (b : Below w.heap.size w w') : AccsAt w' a l := by
  refine h.imp id ?_
  rintro ⟨g, o, e, hc⟩
  refine ⟨g, o, e, fun i hi => ?_⟩
  obtain ⟨h1, h2, h3⟩ := hc i hi
  refine ⟨?_, ?_, ?_⟩
  · rw [b.cell (p := ⟨g, o + i * 3, none⟩) (World.block_lt_of_cell? w _ h1)]; exact h1
  · rw [b.cell (p := ⟨g, o + i * 3 + 1, none⟩) (World.block_lt_of_cell? w _ h2)]; exact h2
  · rw [b.cell (p := ⟨g, o + i * 3 + 2, none⟩) (World.block_lt_of_cell? w _ h3)]; exact h3
theorem AccsAt.at {w : World} {a : Option Addr} {l : List Acc} (h : AccsAt w a l) {i : Nat} (hi : i < l.length) : ∃ g o, a = some ⟨g, o, none⟩ ∧ w.cell? ⟨g, o + i * 3, none⟩ = some (.string l[i].nm) ∧ w.cell? ⟨g, o + i * 3 + 1, none⟩ = some (.int .i64 l[i].amt) ∧ w.cell? ⟨g, o + i * 3 + 2, none⟩ = some (.string l[i].by_) := by
  rcases h with h | ⟨g, o, e, hc⟩
  · rw [h] at hi; simp at hi
  · exact ⟨g, o, e, hc i hi⟩
/-- A byte that a name can have. -/
def okc (c : UInt8) : Bool := decide (97 ≤ c.toNat ∧ c.toNat ≤ 122) || decide (48 ≤ c.toNat ∧ c.toNat ≤ 57) || decide (c.toNat = 95)
/-- A text can be a name. -/
def nameOk (s : ByteArray) : Bool := decide (1 ≤ s.size) && decide (s.size ≤ 24) && s.data.toList.all okc
theorem nameOk_size {s : ByteArray} (h : nameOk s = true) : 1 ≤ s.size ∧ s.size ≤ 24 := by
  simp [nameOk] at h
  exact h.1
/-- What a book's accounts are. -/
structure Fit (L : List Acc) : Prop where
  srt : Sorted L
  len : L.length ≤ 200
  amt : ∀ a ∈ L, 0 ≤ a.amt ∧ a.amt ≤ 9223372036854775807
  nm : ∀ a ∈ L, nameOk a.nm = true
  by_ : ∀ a ∈ L, a.by_.size ≤ 65536
theorem Fit.nil : Fit [] := ⟨List.Pairwise.nil, by simp, by simp, by simp, by simp⟩
theorem Fit.ins {L : List Acc} (h : Fit L) (a : Acc) (hn : hasN L a.nm = false) (hl : L.length < 200) (h1 : 0 ≤ a.amt ∧ a.amt ≤ 9223372036854775807) (h2 : nameOk a.nm = true) (h3 : a.by_.size ≤ 65536) : Fit (ins L a) :=
  ⟨sorted_ins h.srt a hn, by rw [ins_length]; omega, fun x hx => by
    rcases (mem_ins _ _ _).1 hx with rfl | hx
    · exact h1
    · exact h.amt x hx, fun x hx => by
    rcases (mem_ins _ _ _).1 hx with rfl | hx
    · exact h2
    · exact h.nm x hx, fun x hx => by
    rcases (mem_ins _ _ _).1 hx with rfl | hx
    · exact h3
    · exact h.by_ x hx⟩
theorem Fit.upd {L : List Acc} (h : Fit L) (a : Acc) (hn : hasN L a.nm = true) (h1 : 0 ≤ a.amt ∧ a.amt ≤ 9223372036854775807) (h3 : a.by_.size ≤ 65536) : Fit (upd L a) :=
  ⟨sorted_upd h.srt a hn, by rw [upd_length]; exact h.len, fun x hx => by
    rcases mem_upd hx with rfl | hx
    · exact h1
    · exact h.amt x hx, fun x hx => by
    rcases mem_upd hx with rfl | hx
    · obtain ⟨p, hp, e⟩ := (hasN_mem _ _).1 hn
      rw [← e]
      exact h.nm p hp
    · exact h.nm x hx, fun x hx => by
    rcases mem_upd hx with rfl | hx
    · exact h3
    · exact h.by_ x hx⟩
theorem Fit.got {L : List Acc} (h : Fit L) {s : ByteArray} {p : Acc} (hp : getA L s = some p) : p ∈ L ∧ p.nm = s ∧ nameOk s = true ∧ 0 ≤ p.amt ∧ p.amt ≤ 9223372036854775807 ∧ p.by_.size ≤ 65536 := by
  obtain ⟨h1, h2⟩ := (getA_iff h.srt s p).1 hp
  exact ⟨h1, h2, by rw [← h2]; exact h.nm p h1, (h.amt p h1).1, (h.amt p h1).2, h.by_ p h1⟩
/-- A book in memory: the slice of its accounts. -/
structure BookIn (w : World) (base N : Nat) (sv : Value) (L : List Acc) : Prop where
  hN : w.heap[N]? = some (.cells #[sv] 45 (0, 0))
  row : w.ownsRow base 52 3 sv L.length (cells3 L)
  bN : base ≤ N
  fit : Fit L
/-- Only a book's own two blocks have changed. -/
structure Chg (w w' : World) (N : Nat) (row : Option Nat) : Prop where
  os : w'.os = w.os
  tape : w'.tape = w.tape
  output : w'.output = w.output
  size : w.heap.size ≤ w'.heap.size
  block : ∀ k, k < w.heap.size → k ≠ N → some k ≠ row → w'.heap[k]? = w.heap[k]?
theorem row_form {w : World} {base n : Nat} {v : Value} {xs : List Value} {t : TypeId} {s : Nat} (h : w.ownsRow base t s v n xs) : ∃ a c, v = .slice a n c ∧ (a = none → c = 0) ∧ n ≤ c ∧ c ≤ maxLen ∧ (∀ x, a = some x → x = ⟨x.block, 0, none⟩ ∧ ∃ cur, w.heap[x.block]? = some (.cells cur t (0, 0)) ∧ cur.size = c * s) := by
  rcases h.2 with ⟨rfl, rfl⟩ | ⟨g, c, cur, rfl, hb, hg, hnc, hcm, hcs, _⟩
  · exact ⟨none, 0, rfl, fun _ => rfl, Nat.le_refl _, Nat.zero_le _, fun x e => by cases e⟩
  · exact ⟨_, c, rfl, (fun e => by cases e), hnc, hcm, fun x e => by cases e; exact ⟨rfl, cur, hg, hcs⟩⟩
theorem owns_kept {w w' : World} {base : Nat} {v : Value} {n : Nat} {xs : List Value} {t : TypeId} {s : Nat} (h : w.ownsRow base t s v n xs) (k : ∀ g, v.ownBlock = some g → w'.heap[g]? = w.heap[g]?) : w'.ownsRow base t s v n xs := by
  refine ⟨h.1, h.2.imp id ?_⟩
  rintro ⟨g, cap, cur, rfl, hb, hg, hr⟩
  exact ⟨g, cap, cur, rfl, hb, by rw [k g rfl]; exact hg, hr⟩
theorem row_kind {w : World} {base : Nat} {v : Value} {n : Nat} {xs : List Value} {t : TypeId} {s : Nat} (h : w.ownsRow base t s v n xs) {g : Nat} (e : v.ownBlock = some g) : base ≤ g ∧ g < w.heap.size ∧ ∃ cur, w.heap[g]? = some (.cells cur t (0, 0)) := by
  rcases h.2 with ⟨e1, _⟩ | ⟨g', c, cur, e1, hb, hg, _⟩
  · rw [e1] at e; cases e
  · rw [e1] at e
    obtain rfl : g' = g := by simpa [Value.ownBlock] using e
    exact ⟨hb, (Array.getElem?_eq_some_iff.1 hg).1, cur, hg⟩
theorem info_acc : (Tryz.prog.info? 52).map (fun i => (i.zero, i.size, i.bytes)) = some (some (.agg #[.string ⟨#[]⟩, .int .i64 0, .string ⟨#[]⟩]), 3, 40) := by kernel_rfl
section
variable {w w' : World} {base N : Nat} {sv : Value} {L : List Acc}
theorem BookIn.ltN (h : BookIn w base N sv L) : N < w.heap.size := (Array.getElem?_eq_some_iff.1 h.hN).1
theorem BookIn.size (h : BookIn w base N sv L) : base ≤ w.heap.size := Nat.le_trans h.bN (Nat.le_of_lt h.ltN)
theorem BookIn.ne (h : BookIn w base N sv L) {g : Nat} (e : sv.ownBlock = some g) : g ≠ N := fun q => by
  obtain ⟨_, _, cur, h3⟩ := row_kind h.row e
  rw [q, h.hN] at h3
  injection h3 with h3
  injection h3 with _ h3
  exact absurd h3 (by decide)
theorem BookIn.keep (h : BookIn w base N sv L) (kN : w'.heap[N]? = w.heap[N]?) (kr : ∀ g, sv.ownBlock = some g → w'.heap[g]? = w.heap[g]?) : BookIn w' base N sv L :=
  { h with hN := kN.trans h.hN, row := owns_kept h.row kr }
theorem BookIn.below (h : BookIn w base N sv L) (k : Below w.heap.size w w') : BookIn w' base N sv L :=
  h.keep (k.block N h.ltN) (fun g e => k.block g (row_kind h.row e).2.1)
theorem BookIn.base_le (h : BookIn w base N sv L) {b' : Nat} (hb : b' ≤ base) : BookIn w b' N sv L :=
  { h with
    row := ⟨h.row.1, h.row.2.imp id (by rintro ⟨g, c, cur, e, h1, h2⟩; exact ⟨g, c, cur, e, Nat.le_trans hb h1, h2⟩)⟩
    bN := Nat.le_trans hb h.bN }
theorem BookIn.c0 (h : BookIn w base N sv L) : w.cell? ⟨N, 0, none⟩ = some sv := by have := h.hN; simp [World.cell?, this]
theorem BookIn.fz (h : BookIn w base N sv L) (i : Nat) : w.frozen? ⟨N, i, none⟩ = false := by have := h.hN; simp [World.frozen?, this]
theorem Chg.below {row : Option Nat} (h : Chg w w' N row) (hs : base ≤ w.heap.size) (hN : base ≤ N) (hr : ∀ g, row = some g → base ≤ g) : Below base w w' :=
  ⟨h.os, h.tape, h.output, h.size, fun k hk => h.block k (by omega) (by omega) (fun e => by have := hr k e.symm; omega)⟩
theorem BookIn.chg_below (h : BookIn w base N sv L) (c : Chg w w' N sv.ownBlock) : Below base w w' :=
  c.below h.size h.bN (fun g e => (row_kind h.row e).1)
theorem Chg.of_below (h : Below w.heap.size w w') (N : Nat) (row : Option Nat) : Chg w w' N row := ⟨h.os, h.tape, h.output, h.size, fun k hk _ _ => h.block k hk⟩
theorem Chg.refl (w : World) (N : Nat) (row : Option Nat) : Chg w w N row := ⟨rfl, rfl, rfl, Nat.le_refl _, fun _ _ _ _ => rfl⟩
theorem Chg.trans {w1 : World} {row row' : Option Nat} (h : Chg w w1 N row) (k : Chg w1 w' N row') (hr : ∀ g, row' = some g → row = some g ∨ w.heap.size ≤ g) : Chg w w' N row :=
  ⟨k.os.trans h.os, k.tape.trans h.tape, k.output.trans h.output, Nat.le_trans h.size k.size, fun i hi hn hne => by
    rw [k.block i (Nat.lt_of_lt_of_le hi h.size) hn (fun e => by
      rcases hr i e.symm with h1 | h1
      · exact hne h1.symm
      · omega)]
    exact h.block i hi hn hne⟩
theorem BookIn.sv_form (h : BookIn w base N sv L) : ∃ a c, sv = .slice a L.length c ∧ (a = none → c = 0) ∧ L.length ≤ c ∧ c ≤ maxLen := by
  obtain ⟨a, c, h1, h2, h3, h4, _⟩ := row_form h.row
  exact ⟨a, c, h1, h2, h3, h4⟩
theorem row_at {v : Value} {l : List Acc} {n : Nat} (h : w.ownsRow base 52 3 v n (cells3 l)) (hn : n = l.length) {k : Nat} (hk : k < l.length) : ∃ g c, v = .slice (some ⟨g, 0, none⟩) l.length c ∧ w.cell? ⟨g, k * 3, none⟩ = some (.string l[k].nm) ∧ w.cell? ⟨g, k * 3 + 1, none⟩ = some (.int .i64 l[k].amt) ∧ w.cell? ⟨g, k * 3 + 2, none⟩ = some (.string l[k].by_) := by
  subst hn
  rcases h.2 with ⟨_, h0⟩ | ⟨g, c, cur, rfl, hb, hg, hnc, hcm, hcs, htake⟩
  · omega
  · refine ⟨g, c, rfl, ?_⟩
    obtain ⟨h1, h2, h3⟩ := cells3_at l k hk
    rw [← htake, List.getElem?_take, if_pos (by omega)] at h1 h2 h3
    simp only [World.cell?, hg]
    exact ⟨by simpa using h1, by simpa using h2, by simpa using h3⟩
theorem row_accs {v : Value} {l : List Acc} {n : Nat} (h : w.ownsRow base 52 3 v n (cells3 l)) (hn : n = l.length) : ∃ a c, v = .slice a l.length c ∧ AccsAt w a l ∧ (a = none → c = 0) := by
  obtain ⟨a, c, e, hnil, _⟩ := row_form h
  subst hn
  refine ⟨a, c, e, ?_, hnil⟩
  by_cases h0 : l = []
  · exact .inl h0
  · have hl : 0 < l.length := List.length_pos_iff.2 h0
    obtain ⟨g, c', e2, _⟩ := row_at h rfl hl
    rw [e] at e2
    cases e2
    refine .inr ⟨g, 0, rfl, fun j hj => ?_⟩
    obtain ⟨g', c'', e3, q⟩ := row_at h rfl hj
    rw [e] at e3
    cases e3
    rw [Nat.zero_add]
    exact q
end
end Go.Proofs.YtdchnfggmkokhaaGreatDoor
