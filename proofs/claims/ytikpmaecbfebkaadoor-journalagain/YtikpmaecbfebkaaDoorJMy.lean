/- Package journal: its calls, in the words of a law that has a disk and a journal of its own. -/
import Derived.Test.YtikpmaecbfebkaaDoorJOpenW
import Derived.Test.YtikpmaecbfebkaaDoorJRest
namespace Go.Proofs.YtikpmaecbfebkaaDoor
open Go.RowKit Go.Shelf
set_option linter.unusedVariables false

/-- A disk of one's own. -/
def MyD (w0 w : World) (D n : Nat) (d : DS) : Prop := ∃ m : DM, m.D = D ∧ Dsk w m n d ∧ (∀ k, m.own k → w0.heap.size ≤ k) ∧ Below w0.heap.size w0 w
/-- A journal of one's own, and its disk. -/
def MyJ (w0 w : World) (D J n : Nat) (d : DS) (fr sz st nx : Nat) : Prop := ∃ m : DM, m.D = D ∧ Dsk w m n d ∧ (∀ k, m.own k → w0.heap.size ≤ k) ∧ Below w0.heap.size w0 w ∧ JAt w J D fr sz st nx false ∧ ¬ m.own J ∧ w0.heap.size ≤ J
theorem MyD.bel {w0 w : World} {D n : Nat} {d : DS} (h : MyD w0 w D n d) : Below w0.heap.size w0 w := by obtain ⟨m, _, _, _, b⟩ := h; exact b
theorem MyJ.bel {w0 w : World} {D J n : Nat} {d : DS} {fr sz st nx : Nat} (h : MyJ w0 w D J n d fr sz st nx) : Below w0.heap.size w0 w := by obtain ⟨m, _, _, _, b, _⟩ := h; exact b
theorem MyJ.ja {w0 w : World} {D J n : Nat} {d : DS} {fr sz st nx : Nat} (h : MyJ w0 w D J n d fr sz st nx) : JAt w J D fr sz st nx false := by obtain ⟨m, _, _, _, _, j, _⟩ := h; exact j
theorem MyJ.disk {w0 w : World} {D J n : Nat} {d : DS} {fr sz st nx : Nat} (h : MyJ w0 w D J n d fr sz st nx) : MyD w0 w D n d := by obtain ⟨m, e, q, o, b, _⟩ := h; exact ⟨m, e, q, o, b⟩
theorem MyD.below {w0 w w' : World} {D n : Nat} {d : DS} (h : MyD w0 w D n d) (b : Below w.heap.size w w') : MyD w0 w' D n d := by
  obtain ⟨m, e, q, o, b0⟩ := h
  exact ⟨m, e, q.below b, o, b0.trans (b.mono b0.size)⟩
theorem MyJ.below {w0 w w' : World} {D J n : Nat} {d : DS} {fr sz st nx : Nat} (h : MyJ w0 w D J n d fr sz st nx) (b : Below w.heap.size w w') : MyJ w0 w' D J n d fr sz st nx := by
  obtain ⟨m, e, q, o, b0, j, nj, gj⟩ := h
  exact ⟨m, e, q.below b, o, b0.trans (b.mono b0.size), j.below b, nj, gj⟩
theorem my_new (n : Nat) (w0 w : World) (hb : Below w0.heap.size w0 w) (h1 : 1 ≤ n) (h2 : n ≤ 4096) : Calls Tryd.prog 15 #[.int .i64 n] w fun e w' => ∃ D, e = .returned (.tuple #[.pointer (some ⟨D, 0, none⟩), .int .i64 0]) ∧ MyD w0 w' D n (newD n) ∧ Below w.heap.size w w' := by
  refine (new_any n w h1 h2).mono ?_
  rintro e w' ⟨m, rfl, q, b, o⟩
  exact ⟨m.D, rfl, ⟨m, rfl, q, fun k hk => Nat.le_trans hb.size (o k hk), hb.trans (b.mono hb.size)⟩, b⟩
theorem my_open {w0 w : World} {D n : Nat} {d : DS} (h : MyD w0 w D n d) (fr sz st : Nat) (hT : Tabs w0) (h1 : 1 ≤ st) (h2 : st ≤ 1152921504606846976) (hz : 2 ≤ sz) (hs : fr + sz ≤ n)
    (hno : ∀ xs, Chain d fr sz st xs → recFrom d fr sz st (numb st xs) = none → ∀ s, numb st xs ≤ s → s < numb st xs + sz → ¬ rightP (atS d fr sz s) s) :
    Calls Tryd.prog 16 #[.pointer (some ⟨D, 0, none⟩), .int .i64 (fr : Int), .int .i64 (sz : Int), .int .i64 (st : Int)] w fun e w' => ∃ (xs : List GotJ) (a : Option Addr) (c : Nat), e = .returned (.tuple #[.pointer (some ⟨w.heap.size, 0, none⟩), .slice a xs.length c, .int .i64 0]) ∧
      recFrom d fr sz st (numb st xs) = none ∧ Chain d fr sz st xs ∧ MyJ w0 w' D w.heap.size n d fr sz st (numb st xs) ∧ w'.ownsRow (w.heap.size + 4) 22 1 (.slice a xs.length c) xs.length (xs.map (·.v)) ∧ (∀ x ∈ xs, IsRec w' x.v x.l) ∧ Below w.heap.size w w' := by
  obtain ⟨m, rfl, q, o, b0⟩ := h
  refine (open_clean m n d fr sz st w (hT.below b0 hT.size) q h1 h2 hz hs hno).mono ?_
  rintro e w' ⟨xs, v, rfl, hn, ho, hv⟩
  obtain ⟨v', hv', ow, a, l, c, rfl⟩ := ho.cr
  rw [hv] at hv'
  cases hv'
  have hl : l = xs.length := by
    rcases ow.2 with ⟨e1, e2⟩ | ⟨g, cc, cur, e1, _⟩
    · cases e1; exact e2.symm
    · cases e1; rfl
  subst hl
  exact ⟨xs, a, c, rfl, hn, ho.ch, ⟨m, rfl, ho.dk, o, b0.trans (ho.bw.mono b0.size), ho.ja, fun hk => by have := q.lt hk; omega, b0.size⟩, ow, ho.rs, ho.bw⟩
theorem JOnly.low {m : DM} {J B : Nat} {w w' : World} (h : JOnly m J w w') (hB : B ≤ w.heap.size) (ho : ∀ k, m.own k → B ≤ k) (hJ : B ≤ J) : Below B w w' :=
  ⟨h.os, h.tape, h.output, by have := h.size; omega, fun k hk => h.block k (by omega) (fun q => by have := ho k q; omega) (by omega)⟩
theorem my_append {w0 w : World} {D J n : Nat} {d : DS} {fr sz st nx : Nat} (h : MyJ w0 w D J n d fr sz st nx) (a : Option Addr) (cap : Nat) (b : List (BitVec 8)) (hT : Tabs w0) (hS : Seen w a b.length b) (h1 : 1 ≤ st) (h2 : st ≤ 2305843009213693952) (hz : 1 ≤ sz) (hs : fr + sz ≤ n) (hx : st ≤ nx) (hb : b.length ≤ 8192) (hf : nx + secs b.length ≤ st + sz) (hw : whyA d = 0) (hk : d.ws.length + 100 ≤ 1000000) :
    Calls Tryd.prog 17 #[.pointer (some ⟨J, 0, none⟩), .slice a b.length cap] w fun e w' => e = .returned (.int .i64 0) ∧ MyJ w0 w' D J n (appD fr sz nx b d (secs b.length)) fr sz st (nx + secs b.length) := by
  obtain ⟨m, rfl, q, o, b0, j, nj, gj⟩ := h
  have h2' := hT.size
  refine (append_ok m n d J fr sz st nx a cap b w (hT.below b0 hT.size) q j nj hS h1 h2 hz hs hx hb hf hw hk (fun k hk => by have := o k hk; omega)).mono ?_
  rintro e w' ⟨m', rfl, e2, q', j', jo, nx'⟩
  refine ⟨rfl, m', e2, q', fun k hk => ?_, b0.trans (jo.low b0.size o gj), j', fun hk => ?_, gj⟩
  · rcases nx'.own_of hk with x | x
    · exact o k x
    · have := b0.size; omega
  · rcases nx'.own_of hk with x | x
    · exact nj x
    · have := j.lt; omega
theorem my_sync {w0 w : World} {D J n : Nat} {d : DS} {fr sz st nx : Nat} (h : MyJ w0 w D J n d fr sz st nx) (hw : whyS d = 0) :
    Calls Tryd.prog 18 #[.pointer (some ⟨J, 0, none⟩)] w fun e w' => e = .returned (.int .i64 0) ∧ MyJ w0 w' D J n (syncD d) fr sz st nx := by
  obtain ⟨m, rfl, q, o, b0, j, nj, gj⟩ := h
  refine (jsync_ok m n d J fr sz st nx w q j nj hw).mono ?_
  rintro e w' ⟨m', rfl, e2, q', j', jo, nx'⟩
  refine ⟨rfl, m', e2, q', fun k hk => ?_, b0.trans (jo.low b0.size o gj), j', fun hk => ?_, gj⟩
  · rcases nx'.own_of hk with x | x
    · exact o k x
    · have := b0.size; omega
  · rcases nx'.own_of hk with x | x
    · exact nj x
    · have := j.lt; omega
end Go.Proofs.YtikpmaecbfebkaaDoor
