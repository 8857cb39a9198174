/- A result read: what is read, plainly; what lies in memory while it is read. Written by gen_xgr.py. -/
import Derived.Test.YtogbcciocgpknaaXPa
import Derived.Test.YtogbcciocgpknaaTaN
namespace Go.Proofs.Ytogbcciocgpknaa
open Go.RowKit Cod
set_option linter.unusedVariables false
/-- Rows behind a place. -/
def FarR (w : World) (B : Nat) (a : Option Addr) (rows : List (ByteArray × Int)) : Prop := RowsAt w a rows.length rows ∧ ∀ x, a = some x → B ≤ x.block
theorem farR_owned {w : World} {base n : Nat} {a : Option Addr} {k c : Nat} {rows : List (ByteArray × Int)} (h : w.ownsRow base 62 2 (.slice a k c) n (rowCells rows)) (hl : rows.length = n) (hm : n ≤ 140737488355328) : FarR w base a rows := by
  have hk := owns_len h
  have q := rows_owned h hl hm
  rw [hk, ← hl] at q
  refine ⟨q, fun x hx => ?_⟩
  rcases h.2 with ⟨e1, e2⟩ | ⟨g, cap, cur, e1, hb, _⟩
  · injection e1 with e1
    rw [hx] at e1
    cases e1
  · injection e1 with e1
    rw [hx] at e1
    cases e1
    exact hb
theorem FarR.since {w w' : World} {B : Nat} {a : Option Addr} {rows : List (ByteArray × Int)} (h : FarR w B a rows) (hb : ∀ k, B ≤ k → w'.heap[k]? = w.heap[k]?) : FarR w' B a rows := by
  obtain ⟨⟨h1, h2, h3⟩, h4⟩ := h
  refine ⟨⟨h1, h2, ?_⟩, h4⟩
  rcases h3 with h3 | ⟨b, off, rfl, hc⟩
  · exact .inl h3
  · refine .inr ⟨b, off, rfl, fun j hj => ?_⟩
    have e := hb b (h4 _ rfl)
    have ec : ∀ i, w'.cell? ⟨b, i, none⟩ = w.cell? ⟨b, i, none⟩ := fun i => by simp only [World.cell?, e]
    rw [ec, ec]
    exact hc j hj
theorem FarR.below {w w' : World} {B : Nat} {a : Option Addr} {rows : List (ByteArray × Int)} (h : FarR w B a rows) (b : Below w.heap.size w w') : FarR w' B a rows := ⟨h.1.below b, h.2⟩
theorem FarR.mono {w : World} {B B' : Nat} {a : Option Addr} {rows : List (ByteArray × Int)} (h : FarR w B a rows) (hb : B' ≤ B) : FarR w B' a rows := ⟨h.1, fun x hx => Nat.le_trans hb (h.2 x hx)⟩
theorem farR_nil (w : World) (B : Nat) : FarR w B none [] := ⟨⟨rfl, by simp, .inl rfl⟩, fun x hx => by cases hx⟩
def gX2 (l : List (BitVec 8)) : Nat × Nat := (rB l (pX1 l).1 (pX1 l).2).2
theorem gX2_a (l : List (BitVec 8)) : (rB l (pX1 l).1 (pX1 l).2).2.1 = (gX2 l).1 := by unfold gX2; rfl
theorem gX2_b (l : List (BitVec 8)) : (rB l (pX1 l).1 (pX1 l).2).2.2 = (gX2 l).2 := by unfold gX2; rfl
def gX3 (l : List (BitVec 8)) : Nat × Nat := (rRe4 l (gX2 l).1 (gX2 l).2).2
theorem gX3_a (l : List (BitVec 8)) : (rRe4 l (gX2 l).1 (gX2 l).2).2.1 = (gX3 l).1 := by unfold gX3; rfl
theorem gX3_b (l : List (BitVec 8)) : (rRe4 l (gX2 l).1 (gX2 l).2).2.2 = (gX3 l).2 := by unfold gX3; rfl
def gX4 (l : List (BitVec 8)) : Nat × Nat := (rS l (gX3 l).1 (gX3 l).2).2
theorem gX4_a (l : List (BitVec 8)) : (rS l (gX3 l).1 (gX3 l).2).2.1 = (gX4 l).1 := by unfold gX4; rfl
theorem gX4_b (l : List (BitVec 8)) : (rS l (gX3 l).1 (gX3 l).2).2.2 = (gX4 l).2 := by unfold gX4; rfl
def gcL (l : List (BitVec 8)) : Bool := (rB l (pX1 l).1 (pX1 l).2).1
theorem gcL_is (l : List (BitVec 8)) : (rB l (pX1 l).1 (pX1 l).2).1 = gcL l := by unfold gcL; rfl
def gcY (l : List (BitVec 8)) : Int := zag (rRe1 l (gX2 l).1 (gX2 l).2).1
theorem gcY_is (l : List (BitVec 8)) : zag (rRe1 l (gX2 l).1 (gX2 l).2).1 = gcY l := by unfold gcY; rfl
def gcM (l : List (BitVec 8)) : Int := zag (rRe2 l (gX2 l).1 (gX2 l).2).1
theorem gcM_is (l : List (BitVec 8)) : zag (rRe2 l (gX2 l).1 (gX2 l).2).1 = gcM l := by unfold gcM; rfl
def gcR (l : List (BitVec 8)) : List (ByteArray × Int) := (rRe4 l (gX2 l).1 (gX2 l).2).1
theorem gcR_is (l : List (BitVec 8)) : (rRe4 l (gX2 l).1 (gX2 l).2).1 = gcR l := by unfold gcR; rfl
def gcD (l : List (BitVec 8)) : List (BitVec 8) := (rS l (gX3 l).1 (gX3 l).2).1
theorem gcD_is (l : List (BitVec 8)) : (rS l (gX3 l).1 (gX3 l).2).1 = gcD l := by unfold gcD; rfl
def gcE (l : List (BitVec 8)) : Nat := rEnd l (gX4 l).1 (gX4 l).2
theorem gcE_is (l : List (BitVec 8)) : rEnd l (gX4 l).1 (gX4 l).2 = gcE l := by unfold gcE; rfl
/-- What GetResult answers: its error; why, wait, the reply, the bytes. -/
def grW (l : List (BitVec 8)) : Nat := if 1048576 < l.length then 3 else gcE l
def grY (l : List (BitVec 8)) : Int := if grW l = 0 then pcI0 l else 0
def grL (l : List (BitVec 8)) : Bool := if grW l = 0 then gcL l else false
def grA (l : List (BitVec 8)) : Int := if grW l = 0 then gcY l else 0
def grM (l : List (BitVec 8)) : Int := if grW l = 0 then gcM l else 0
def grR (l : List (BitVec 8)) : List (ByteArray × Int) := if grW l = 0 then gcR l else []
def grD (l : List (BitVec 8)) : List (BitVec 8) := if grW l = 0 then gcD l else []
def Gotten (w w' : World) (l : List (BitVec 8)) (e : Ending) : Prop := ∃ qa qc da dc, e = .returned (.tuple #[.agg #[.int .i64 (grY l), .bool (grL l), .int .i64 (grA l), .int .i64 (grM l), .slice qa (grR l).length qc, .slice da (grD l).length dc], .int .i64 (grW l : Nat)]) ∧ FarR w' w.heap.size qa (grR l) ∧ (grR l).length ≤ 600 ∧ Far w' w.heap.size (.slice da (grD l).length dc) (grD l) ∧ (grD l).length ≤ 65536 ∧ Below w.heap.size w w'
theorem gottenZ {w w' : World} {l : List (BitVec 8)} (n : Int) (h : grW l ≠ 0) (hn : n = (grW l : Nat)) (b : Below w.heap.size w w') : Gotten w w' l (.returned (.tuple #[.agg #[.int .i64 0, .bool false, .int .i64 0, .int .i64 0, .slice none 0 0, .slice none 0 0], .int .i64 n])) := by
  unfold Gotten grY grL grA grM grR grD
  simp only [if_neg h]
  exact ⟨none, 0, none, 0, by rw [hn]; rfl, farR_nil w' _, by simp, far_nil w' _, by simp, b⟩
theorem gottenY {w w' : World} {l : List (BitVec 8)} {qa : Option Addr} {qc : Nat} {da : Option Addr} {dc : Nat} (h : grW l = 0) (q : FarR w' w.heap.size qa (gcR l)) (hq : (gcR l).length ≤ 600) (g : Far w' w.heap.size (.slice da (gcD l).length dc) (gcD l)) (hl : (gcD l).length ≤ 65536) (b : Below w.heap.size w w') : Gotten w w' l (.returned (.tuple #[.agg #[.int .i64 (pcI0 l), .bool (gcL l), .int .i64 (gcY l), .int .i64 (gcM l), .slice qa (gcR l).length qc, .slice da (gcD l).length dc], .int .i64 0])) := by
  unfold Gotten grY grL grA grM grR grD
  simp only [if_pos h]
  exact ⟨qa, qc, da, dc, by rw [h]; rfl, q, hq, g, hl, b⟩
/-- A GetResult under way: the result's place, the command's place, the Reader. -/
structure GSx (w0 w : World) (T Q R S : Nat) (l : List (BitVec 8)) (cs : Array Value) (x : Nat × Nat) : Prop where
  q : BlX w Q #[.int .i64 0, .bool false, .int .i64 0, .int .i64 0, .slice none 0 0, .slice none 0 0] T
  s : BlX w S cs T
  r : Rdr w R l x.1 x.2
  b : Below w0.heap.size w0 w
  hq : w0.heap.size ≤ Q
  hs : w0.heap.size ≤ S
  hr : w0.heap.size ≤ R
  qs : Q < S
  qr : Q < R
  rs : R < S
theorem GSx.put {w0 w : World} {T Q R S : Nat} {l : List (BitVec 8)} {cs : Array Value} {x : Nat × Nat} (h : GSx w0 w T Q R S l cs x) (k : Nat) (v : Value) : GSx w0 (w.setCell ⟨S, k, none⟩ v) T Q R S l (cs.setIfInBounds k v) x :=
  ⟨h.q.other (by have := h.qs; omega) _ _, h.s.set _ _, (h.r.set _ _ h.rs), h.b.setCell h.hs v, h.hq, h.hs, h.hr, h.qs, h.qr, h.rs⟩
theorem GSx.puts {w0 w : World} {T Q R S : Nat} {l : List (BitVec 8)} {cs : Array Value} {x : Nat × Nat} (h : GSx w0 w T Q R S l cs x) (vs : List Value) (k : Nat) : GSx w0 (w.setCells S k vs) T Q R S l (vs.foldl (fun (p : Nat × Array Value) v => (p.1 + 1, p.2.setIfInBounds p.1 v)) (k, cs)).2 x := by
  induction vs generalizing w k cs with
  | nil => exact h
  | cons v vs ih => exact ih (h.put k v) (k + 1)
theorem GSx.read {w' : World} {y : Nat × Nat} {w0 w : World} {T Q R S : Nat} {l : List (BitVec 8)} {cs : Array Value} {x : Nat × Nat} (h : GSx w0 w T Q R S l cs x) (g : w.grownBy w' (some R)) (r : Rdr w' R l y.1 y.2) : GSx w0 w' T Q R S l cs y :=
  ⟨h.q.grown g (by have := h.qr; omega), h.s.grown g (by have := h.rs; omega), r, h.b.trans (below_toX g h.hr h.b.size), h.hq, h.hs, h.hr, h.qs, h.qr, h.rs⟩
theorem GSx.drewN {w0 w : World} {T Q R S : Nat} {l : List (BitVec 8)} {cs : Array Value} {x : Nat × Nat} (h : GSx w0 w T Q R S l cs x) (n : Nat) : GSx w0 (w.drewN n) T Q R S l cs x :=
  ⟨h.q, h.s, (h.r.since (fun _ _ => rfl)), below_drewN' h.b n, h.hq, h.hs, h.hr, h.qs, h.qr, h.rs⟩
/-- A GetResult under way: the result's place, the command's place, the Reader. -/
structure HSx (w0 w : World) (T Q R S : Nat) (l : List (BitVec 8)) (cs : Array Value) (x : Nat × Nat) (A B : Nat) : Prop where
  q : BlX w Q #[.int .i64 0, .bool false, .int .i64 0, .int .i64 0, .slice none 0 0, .slice none 0 0] T
  s : BlX w S cs T
  r : RRd w R A B l x.1 x.2
  b : Below w0.heap.size w0 w
  hq : w0.heap.size ≤ Q
  hs : w0.heap.size ≤ S
  hr : w0.heap.size ≤ R
  qs : Q < S
  qr : Q < R
  rs : R < S ∧ R < B ∧ B ≤ S
theorem HSx.put {w0 w : World} {T Q R S : Nat} {l : List (BitVec 8)} {cs : Array Value} {x : Nat × Nat} {A B : Nat} (h : HSx w0 w T Q R S l cs x A B) (k : Nat) (v : Value) : HSx w0 (w.setCell ⟨S, k, none⟩ v) T Q R S l (cs.setIfInBounds k v) x A B :=
  ⟨h.q.other (by have := h.qs; omega) _ _, h.s.set _ _, (h.r.since (Below.heap_setCell _ _ _ _ (by have := h.rs; show R ≠ S; omega)) (fun k hk _ => Below.heap_setCell _ _ _ _ (by have := h.rs; show k ≠ S; omega))), h.b.setCell h.hs v, h.hq, h.hs, h.hr, h.qs, h.qr, h.rs⟩
theorem HSx.puts {w0 w : World} {T Q R S : Nat} {l : List (BitVec 8)} {cs : Array Value} {x : Nat × Nat} {A B : Nat} (h : HSx w0 w T Q R S l cs x A B) (vs : List Value) (k : Nat) : HSx w0 (w.setCells S k vs) T Q R S l (vs.foldl (fun (p : Nat × Array Value) v => (p.1 + 1, p.2.setIfInBounds p.1 v)) (k, cs)).2 x A B := by
  induction vs generalizing w k cs with
  | nil => exact h
  | cons v vs ih => exact ih (h.put k v) (k + 1)
theorem HSx.read {w' : World} {y : Nat × Nat} {w0 w : World} {T Q R S : Nat} {l : List (BitVec 8)} {cs : Array Value} {x : Nat × Nat} {A B : Nat} (h : HSx w0 w T Q R S l cs x A B) (g : w.grownBy w' (some R)) (r : RRd w' R A B l y.1 y.2) : HSx w0 w' T Q R S l cs y A B :=
  ⟨h.q.grown g (by have := h.qr; omega), h.s.grown g (by have := h.rs; omega), r, h.b.trans (below_toX g h.hr h.b.size), h.hq, h.hs, h.hr, h.qs, h.qr, h.rs⟩
theorem HSx.drewN {w0 w : World} {T Q R S : Nat} {l : List (BitVec 8)} {cs : Array Value} {x : Nat × Nat} {A B : Nat} (h : HSx w0 w T Q R S l cs x A B) (n : Nat) : HSx w0 (w.drewN n) T Q R S l cs x A B :=
  ⟨h.q, h.s, (h.r.since rfl (fun _ _ _ => rfl)), below_drewN' h.b n, h.hq, h.hs, h.hr, h.qs, h.qr, h.rs⟩
end Go.Proofs.Ytogbcciocgpknaa
