/- A law's own disk, and rows that lie beside it. -/
import Derived.Test.YtnpebdnfdbeiaaaDMine
namespace Go.Proofs.Ytnpebdnfdbeiaaa
open Go.RowKit
set_option linter.unusedVariables false

/-- A disk of the law's own, and rows of bytes that are no part of it. -/
def Hold (w0 w : World) (D : Nat) (s : DS) (rs : List (Nat × List (BitVec 8))) : Prop := ∃ m : DM, m.D = D ∧ Mine w0 w m 5 s ∧ ∀ r ∈ rs, Seen w (some ⟨r.1, 0, none⟩) r.2.length r.2 ∧ r.1 < w.heap.size ∧ ¬ m.own r.1
theorem Seen.block {w w' : World} {g off len : Nat} {l : List (BitVec 8)} (h : Seen w (some ⟨g, off, none⟩) len l) (e : w'.heap[g]? = w.heap[g]?) : Seen w' (some ⟨g, off, none⟩) len l := by
  obtain ⟨h1, h2, h3⟩ := h
  refine ⟨h1, h2, h3.imp id ?_⟩
  rintro ⟨b, o, ha, hc⟩
  cases ha
  refine ⟨g, off, rfl, fun j hj => ?_⟩
  rw [← hc j hj]
  simp [World.cell?, e]
theorem Hold.low {w0 w : World} {D : Nat} {s : DS} {rs : List (Nat × List (BitVec 8))} (h : Hold w0 w D s rs) : Below w0.heap.size w0 w := by obtain ⟨m, _, h, _⟩ := h; exact h.b
theorem Hold.ok {w0 w : World} {D : Nat} {s : DS} {rs : List (Nat × List (BitVec 8))} (h : Hold w0 w D s rs) : s.ok 5 := by obtain ⟨m, _, h, _⟩ := h; exact h.d.ok
theorem Hold.row {w0 w : World} {D : Nat} {s : DS} {rs : List (Nat × List (BitVec 8))} (h : Hold w0 w D s rs) {g : Nat} {l : List (BitVec 8)} (hr : (g, l) ∈ rs) : Seen w (some ⟨g, 0, none⟩) l.length l := by obtain ⟨m, _, _, h⟩ := h; exact (h _ hr).1
theorem Hold.below {w0 w w' : World} {D : Nat} {s : DS} {rs : List (Nat × List (BitVec 8))} (h : Hold w0 w D s rs) (b : Below w.heap.size w w') : Hold w0 w' D s rs := by
  obtain ⟨m, e, h, k⟩ := h
  exact ⟨m, e, h.below b, fun r hr => ⟨Seen.below (k r hr).1 b, Nat.lt_of_lt_of_le (k r hr).2.1 b.size, (k r hr).2.2⟩⟩
theorem Hold.drew {w0 w : World} {D : Nat} {s : DS} {rs : List (Nat × List (BitVec 8))} (h : Hold w0 w D s rs) : Hold w0 w.drew D s rs := h.below (Below.refl _ w).drew
theorem Hold.add {w0 w w' : World} {D g n c : Nat} {s : DS} {rs : List (Nat × List (BitVec 8))} {l : List (BitVec 8)} (h : Hold w0 w D s rs) (b : Below w.heap.size w w') (o : w'.ownsRow w.heap.size 5 1 (.slice (some ⟨g, 0, none⟩) n c) n (cellsOf l)) (hn : n ≤ maxLen) : Hold w0 w' D s ((g, l) :: rs) := by
  have hl : l.length = n := by have := o.1; rw [cellsOf_length] at this; omega
  have hg : w.heap.size ≤ g ∧ g < w'.heap.size := by
    rcases o.2 with ⟨e, _⟩ | ⟨g', c', cur, e, hb, hg, _⟩
    · cases e
    · cases e; exact ⟨hb, (Array.getElem?_eq_some_iff.1 hg).1⟩
  obtain ⟨m, e, h', k⟩ := h
  obtain ⟨m1, e1, h1, k1⟩ := Hold.below ⟨m, e, h', k⟩ b
  refine ⟨m, e, h'.below b, fun r hr => ?_⟩
  rcases List.mem_cons.1 hr with rfl | hr
  · refine ⟨?_, hg.2, fun ho => by have := h'.d.lt ho; omega⟩
    have := seen_owned o hl hn
    rw [← hl] at this
    exact this
  · exact ⟨Seen.below (k r hr).1 b, Nat.lt_of_lt_of_le (k r hr).2.1 b.size, (k r hr).2.2⟩
theorem Hold.new {w0 w w' : World} {D n c : Nat} {v : Value} {s : DS} {rs : List (Nat × List (BitVec 8))} {l : List (BitVec 8)} (h : Hold w0 w D s rs) (b : Below w.heap.size w w') (o : w'.ownsRow w.heap.size 5 1 v n (cellsOf l)) (hn : n ≤ maxLen) (h1 : 1 ≤ n) : ∃ g c, v = .slice (some ⟨g, 0, none⟩) n c ∧ Hold w0 w' D s ((g, l) :: rs) := by
  obtain ⟨g, c, rfl, _⟩ := owns_form o h1
  exact ⟨g, c, rfl, h.add b o hn⟩
theorem Hold.step {w0 w w' : World} {m m' : DM} {s s' : DS} {rs : List (Nat × List (BitVec 8))} (h : Mine w0 w m 5 s) (k : ∀ r ∈ rs, Seen w (some ⟨r.1, 0, none⟩) r.2.length r.2 ∧ r.1 < w.heap.size ∧ ¬ m.own r.1) (r : DoR w w' m m' 5 s') : Hold w0 w' m.D s' rs := by
  refine ⟨m', r.D, h.done r, fun x hx => ⟨(k x hx).1.block (r.o.block _ (k x hx).2.1 (k x hx).2.2), Nat.lt_of_lt_of_le (k x hx).2.1 r.o.size, fun ho => ?_⟩⟩
  rcases r.n.own_of ho with e | e
  · exact (k x hx).2.2 e
  · have := (k x hx).2.1; omega
section
variable {w0 w : World} {D : Nat} {s : DS} {rs : List (Nat × List (BitVec 8))}
theorem hold_write (h : Hold w0 w D s rs) (i : Int) (a : Option Addr) (len cap : Nat) (b : List (BitVec 8)) (hs : Seen w a len b) (hk : s.ws.length < 1000000) :
    Calls Try.prog 16 #[.pointer (some ⟨D, 0, none⟩), .int .i64 i, .slice a len cap] w fun e w' => e = .returned (.int .i64 (whyW 5 s i b : Nat)) ∧ Hold w0 w' D (writeD 5 s i b) rs := by
  obtain ⟨m, rfl, h, k⟩ := h
  refine (write_any m 5 s i a len cap b w h.d hs hk).mono ?_
  rintro e w' ⟨m', rfl, h1, h2, h3, h4⟩
  exact ⟨rfl, Hold.step h k ⟨h1, h2, h3, h4⟩⟩
theorem hold_sync (h : Hold w0 w D s rs) : Calls Try.prog 21 #[.pointer (some ⟨D, 0, none⟩)] w fun e w' => e = .returned (.int .i64 (whyS s : Nat)) ∧ Hold w0 w' D (syncD s) rs := by
  obtain ⟨m, rfl, h, k⟩ := h
  refine (sync_any m 5 s w h.d).mono ?_
  rintro e w' ⟨m', rfl, h1, h2, h3, h4⟩
  exact ⟨rfl, Hold.step h k ⟨h1, h2, h3, h4⟩⟩
theorem hold_crash (h : Hold w0 w D s rs) (a : Option Addr) (len cap : Nat) (zs : List Int) (hz : IAt w a len zs) (hno : ∀ y, a = some y → zs ≠ [] → y.block < w0.heap.size) : Calls Try.prog 17 #[.pointer (some ⟨D, 0, none⟩), .slice a len cap] w fun e w' => e = .returned (.int .i64 0) ∧ Hold w0 w' D (crashD s zs) rs := by
  obtain ⟨m, rfl, h, k⟩ := h
  refine (crash_any m 5 s a len cap zs w h.d hz (fun y e hz ho => by have := h.f _ ho; have := hno y e hz; omega)).mono ?_
  rintro e w' ⟨m', rfl, h1, h2, h3, h4⟩
  exact ⟨rfl, Hold.step h k ⟨h1, h2, h3, h4⟩⟩
theorem Hold.fresh (h : Hold w0 w D s rs) (o : Obj) {len cap : Nat} {zs : List Int} (hz : IAt (w.alloc o) (some ⟨w.heap.size, 0, none⟩) len zs) : Calls Try.prog 17 #[.pointer (some ⟨D, 0, none⟩), .slice (some ⟨w.heap.size, 0, none⟩) len cap] (w.alloc o) fun e w' => e = .returned (.int .i64 0) ∧ Hold w0 w' D (crashD s zs) rs := by
  obtain ⟨m, e, h0, k0⟩ := h.below ((Below.refl _ w).alloc (Nat.le_refl _) o)
  obtain ⟨m, rfl, h, k⟩ := h
  have h' := h.below ((Below.refl _ w).alloc (Nat.le_refl _) o)
  refine (crash_any m 5 s _ len cap zs (w.alloc o) h'.d hz (fun y e hz ho => by cases e; have := h.d.lt ho; exact absurd this (Nat.lt_irrefl _))).mono ?_
  rintro e w' ⟨m', rfl, h1, h2, h3, h4⟩
  refine ⟨rfl, Hold.step h' (fun r hr => ⟨Seen.below (k r hr).1 ((Below.refl _ w).alloc (Nat.le_refl _) o), Nat.lt_of_lt_of_le (k r hr).2.1 ((Below.refl w.heap.size w).alloc (Nat.le_refl _) o).size, (k r hr).2.2⟩) ⟨h1, h2, h3, h4⟩⟩
theorem hold_full (h : Hold w0 w D s rs) (b : Bool) : Calls Try.prog 24 #[.pointer (some ⟨D, 0, none⟩), .bool b] w fun e w' => e = .returned (.int .i64 0) ∧ Hold w0 w' D { s with fu := b } rs := by
  obtain ⟨m, rfl, h, k⟩ := h
  refine (full_any m 5 s b w h.d).mono ?_
  rintro e w' ⟨rfl, h2, h3⟩
  exact ⟨rfl, Hold.step h k ⟨rfl, h2, h3, DM.next.refl m _⟩⟩
theorem hold_fail (h : Hold w0 w D s rs) : Calls Try.prog 23 #[.pointer (some ⟨D, 0, none⟩)] w fun e w' => e = .returned (.int .i64 0) ∧ Hold w0 w' D { s with fa := true } rs := by
  obtain ⟨m, rfl, h, k⟩ := h
  refine (fail_any m 5 s w h.d).mono ?_
  rintro e w' ⟨rfl, h2, h3⟩
  exact ⟨rfl, Hold.step h k ⟨rfl, h2, h3, DM.next.refl m _⟩⟩
theorem hold_dead (h : Hold w0 w D s rs) : Calls Try.prog 32 #[.pointer (some ⟨D, 0, none⟩)] w fun e w' => e = .returned (.bool s.de) ∧ w' = w := by
  obtain ⟨m, rfl, h, k⟩ := h
  exact dead_any m 5 s w h.d
theorem hold_unsynced (h : Hold w0 w D s rs) : Calls Try.prog 31 #[.pointer (some ⟨D, 0, none⟩)] w fun e w' => e = .returned (.int .i64 (s.ws.length : Nat)) ∧ w' = w := by
  obtain ⟨m, rfl, h, k⟩ := h
  exact unsynced_any m 5 s w h.d
theorem hold_read (h : Hold w0 w D s rs) (i : Nat) (hi : i < 5) : Calls Try.prog 22 #[.pointer (some ⟨D, 0, none⟩), .int .i64 (i : Int)] w fun e w' => ∃ g, e = .returned (.tuple #[.slice (some ⟨g, 0, none⟩) 256 256, .int .i64 0]) ∧ Hold w0 w' D s ((g, readD s i) :: rs) := by
  have H := h
  obtain ⟨m, rfl, h, k⟩ := h
  refine (read_any m 5 s i w h.d hi).mono ?_
  rintro e w' ⟨g, rfl, o, b⟩
  exact ⟨g, rfl, H.add b o (by unfold maxLen; omega)⟩
theorem hold_image (h : Hold w0 w D s rs) : Calls Try.prog 28 #[.pointer (some ⟨D, 0, none⟩)] w fun e w' => ∃ g c, e = .returned (.slice (some ⟨g, 0, none⟩) 1280 c) ∧ Hold w0 w' D s ((g, s.img) :: rs) := by
  have H := h
  obtain ⟨m, rfl, h, k⟩ := h
  refine (image_any m 5 s w h.d).mono ?_
  rintro e w' ⟨v, rfl, o, b⟩
  obtain ⟨g, c, rfl, _⟩ := owns_form o (by omega)
  exact ⟨g, c, rfl, H.add b o (by unfold maxLen; omega)⟩
theorem hold_do (h : Hold w0 w D s rs) (o : OpX) (hat : o.At w0) (hk : s.ws.length < 1000000) (hz : o.b.length ≤ 140737488351232) :
    Calls Try.prog 12 #[.pointer (some ⟨D, 0, none⟩), .agg #[.int .i64 o.k, .int .i64 o.n, .slice o.ba o.b.length o.bc, .slice o.la o.zs.length o.lc]] w fun e w' => e = .returned (.int .i64 (doE 5 s o : Nat)) ∧ Hold w0 w' D (doD 5 s o) rs := by
  obtain ⟨m, rfl, h, k⟩ := h
  refine (do_any m 5 s o w0 w h.d h.b hat h.f hk (by omega)).mono ?_
  rintro e w' ⟨m', rfl, r⟩
  exact ⟨rfl, Hold.step h k r⟩
end
theorem hold_new (w : World) : Calls Try.prog 4 #[.int .i64 5] w fun e w' => ∃ D, e = .returned (.tuple #[.pointer (some ⟨D, 0, none⟩), .int .i64 0]) ∧ Hold w w' D (newD 5) [] := by
  refine (new_any 5 w (by omega) (by omega)).mono ?_
  rintro e w' ⟨m, rfl, d, b, f⟩
  exact ⟨m.D, rfl, m, rfl, ⟨d, f, b⟩, fun r hr => by cases hr⟩
/-- The text of a row. -/
theorem Hold.text {w0 w : World} {D : Nat} {s : DS} {rs : List (Nat × List (BitVec 8))} (h : Hold w0 w D s rs) {g : Nat} {l : List (BitVec 8)} (hr : (g, l) ∈ rs) (n c : Nat) (hn : l.length = n) : (convert 22 9 (.slice (some ⟨g, 0, none⟩) n c)).run Try.prog w = .ok (.string (textOf l)) w := by
  rw [← hn]
  exact run_to_text w _ _ c _ (h.row hr)
end Go.Proofs.Ytnpebdnfdbeiaaa
