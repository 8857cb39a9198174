/- DiskCopies: disks that lie apart. -/
import Derived.Test.YtnpebdnfdbeiaaaDHold
import Derived.Test.YtnpebdnfdbeiaaaDCopy
import Derived.Deep.RegionHeld
namespace Go.Proofs.Ytnpebdnfdbeiaaa
open Go.RowKit
set_option linter.unusedVariables false

theorem runD_more {n : Nat} {s : DS} (hs : s.ok n) (hb : s.ws.length ≤ 1000) (os : List OpX) : ∀ k, k ≤ os.length → k ≤ 1000 → (runD n s (os.take k)).ok n ∧ (runD n s (os.take k)).ws.length ≤ s.ws.length + k
  | 0, _, _ => ⟨hs, Nat.le_refl _⟩
  | k + 1, hk, hl => by
    obtain ⟨a, c⟩ := runD_more hs hb os k (by omega) (by omega)
    rw [runD_step n s os k (by omega)]
    have := doD_ws n (runD n s (os.take k)) os[k]
    exact ⟨doD_ok a _ (by omega), by omega⟩
def Away (a b : DM) : Prop := ∀ k, a.own k → ¬ b.own k
theorem Away.symm {a b : DM} (h : Away a b) : Away b a := fun k hb ha => h k ha hb
theorem Away.next {a b b' : DM} {N : Nat} (h : Away a b) (l : ∀ k, a.own k → k < N) (n : b.next b' N) : Away a b' := fun k ha hb => (n.own_of hb).elim (h k ha) (fun x => by have := l k ha; omega)
theorem Away.new {a b : DM} {N : Nat} (l : ∀ k, a.own k → k < N) (f : ∀ k, b.own k → N ≤ k) : Away a b := fun k ha hb => by have := l k ha; have := f k hb; omega
theorem Mine.other {w0 w w' : World} {m m2 : DM} {n : Nat} {s : DS} (h : Mine w0 w m n s) (o : Only m2 w w') (a : Away m m2) (b : Below w0.heap.size w0 w') : Mine w0 w' m n s := ⟨h.d.same fun g hg => o.block g (h.d.lt hg) (a g hg), h.f, b⟩
/-- Three disks. -/
def Trio (w0 w : World) (C D X : Nat) (s sx : DS) : Prop := ∃ mc md mx : DM, mc.D = C ∧ md.D = D ∧ mx.D = X ∧ Mine w0 w mc 5 s ∧ Mine w0 w md 5 s ∧ Mine w0 w mx 5 sx ∧ Away mc md ∧ Away mc mx ∧ Away md mx
/-- Two disks. -/
def Duo (w0 w : World) (C D : Nat) (s t : DS) : Prop := ∃ mc md : DM, mc.D = C ∧ md.D = D ∧ Mine w0 w mc 5 s ∧ Mine w0 w md 5 t ∧ Away mc md
theorem Trio.duo {w0 w : World} {C D X : Nat} {s sx : DS} (h : Trio w0 w C D X s sx) : Duo w0 w C D s s := by
  obtain ⟨mc, md, mx, h1, h2, h3, h4, h5, h6, h7, h8, h9⟩ := h
  exact ⟨mc, md, h1, h2, h4, h5, h7⟩
theorem Trio.low {w0 w : World} {C D X : Nat} {s sx : DS} (h : Trio w0 w C D X s sx) : Below w0.heap.size w0 w := by
  obtain ⟨mc, md, mx, h1, h2, h3, h4, h5, h6, h7, h8, h9⟩ := h
  exact h4.b
theorem Duo.low {w0 w : World} {C D : Nat} {s t : DS} (h : Duo w0 w C D s t) : Below w0.heap.size w0 w := by
  obtain ⟨mc, md, h1, h2, h4, h5, h7⟩ := h
  exact h4.b
theorem Duo.below {w0 w w' : World} {C D : Nat} {s t : DS} (h : Duo w0 w C D s t) (b : Below w.heap.size w w') : Duo w0 w' C D s t := by
  obtain ⟨mc, md, h1, h2, h4, h5, h7⟩ := h
  exact ⟨mc, md, h1, h2, h4.below b, h5.below b, h7⟩
theorem Duo.symm {w0 w : World} {C D : Nat} {s t : DS} (h : Duo w0 w C D s t) : Duo w0 w D C t s := by
  obtain ⟨mc, md, h1, h2, h4, h5, h7⟩ := h
  exact ⟨md, mc, h2, h1, h5, h4, h7.symm⟩
theorem trio_do {w0 w : World} {C D X : Nat} {s sx : DS} (h : Trio w0 w C D X s sx) (o : OpX) (hat : o.At w0) (hk : sx.ws.length < 1000000) (hz : o.b.length ≤ 140737488351232) :
    Calls Try.prog 12 #[.pointer (some ⟨X, 0, none⟩), .agg #[.int .i64 o.k, .int .i64 o.n, .slice o.ba o.b.length o.bc, .slice o.la o.zs.length o.lc]] w fun e w' => e = .returned (.int .i64 (doE 5 sx o : Nat)) ∧ Trio w0 w' C D X s (doD 5 sx o) := by
  obtain ⟨mc, md, mx, h1, h2, rfl, h4, h5, h6, h7, h8, h9⟩ := h
  refine (do_any mx 5 sx o w0 w h6.d h6.b hat h6.f hk (by omega)).mono ?_
  rintro e w' ⟨m', rfl, r⟩
  have k6 := h6.done r
  exact ⟨rfl, mc, md, m', h1, h2, r.D, h4.other r.o h8 k6.b, h5.other r.o h9 k6.b, k6, h7, h8.next (fun k hk => h4.d.lt hk) r.n, h9.next (fun k hk => h5.d.lt hk) r.n⟩
theorem duo_do {w0 w : World} {C D : Nat} {s t : DS} (h : Duo w0 w C D s t) (o : OpX) (hat : o.At w0) (hk : s.ws.length < 1000000) (hz : o.b.length ≤ 140737488351232) :
    Calls Try.prog 12 #[.pointer (some ⟨C, 0, none⟩), .agg #[.int .i64 o.k, .int .i64 o.n, .slice o.ba o.b.length o.bc, .slice o.la o.zs.length o.lc]] w fun e w' => e = .returned (.int .i64 (doE 5 s o : Nat)) ∧ Duo w0 w' C D (doD 5 s o) t := by
  obtain ⟨mc, md, rfl, h2, h4, h5, h7⟩ := h
  refine (do_any mc 5 s o w0 w h4.d h4.b hat h4.f hk (by omega)).mono ?_
  rintro e w' ⟨m', rfl, r⟩
  have k4 := h4.done r
  exact ⟨rfl, m', md, r.D, h2, k4, h5.other r.o h7.symm k4.b, (h7.symm.next (fun k hk => h5.d.lt hk) r.n).symm⟩
theorem duo_image {w0 w : World} {C D : Nat} {s t : DS} (h : Duo w0 w C D s t) : Calls Try.prog 28 #[.pointer (some ⟨C, 0, none⟩)] w fun e w' => ∃ g c, e = .returned (.slice (some ⟨g, 0, none⟩) 1280 c) ∧ Seen w' (some ⟨g, 0, none⟩) 1280 s.img ∧ Below w.heap.size w w' ∧ Duo w0 w' C D s t := by
  have H := h
  obtain ⟨mc, md, rfl, h2, h4, h5, h7⟩ := h
  refine (image_any mc 5 s w h4.d).mono ?_
  rintro e w' ⟨v, rfl, o, b⟩
  obtain ⟨g, c, rfl, _⟩ := owns_form o (by omega)
  exact ⟨g, c, rfl, seen_owned o h4.d.ok.li (by unfold maxLen; omega), b, H.below b⟩
theorem duo_unsynced {w0 w : World} {C D : Nat} {s t : DS} (h : Duo w0 w C D s t) : Calls Try.prog 31 #[.pointer (some ⟨C, 0, none⟩)] w fun e w' => e = .returned (.int .i64 (s.ws.length : Nat)) ∧ w' = w := by
  obtain ⟨mc, md, rfl, h2, h4, h5, h7⟩ := h
  exact unsynced_any mc 5 s w h4.d
theorem duo_dead {w0 w : World} {C D : Nat} {s t : DS} (h : Duo w0 w C D s t) : Calls Try.prog 32 #[.pointer (some ⟨C, 0, none⟩)] w fun e w' => e = .returned (.bool s.de) ∧ w' = w := by
  obtain ⟨mc, md, rfl, h2, h4, h5, h7⟩ := h
  exact dead_any mc 5 s w h4.d
/-- The first copy. -/
theorem copy_first {w0 w : World} {D : Nat} {s : DS} (h : Hold w0 w D s []) : Calls Try.prog 15 #[.pointer (some ⟨D, 0, none⟩)] w fun e w' => ∃ C, e = .returned (.pointer (some ⟨C, 0, none⟩)) ∧ Duo w0 w' C D s s := by
  obtain ⟨m, rfl, h, _⟩ := h
  refine (copy_any m 5 s w h.d).mono ?_
  rintro e w' ⟨mc, rfl, d, b, f⟩
  have hb := h.below b
  exact ⟨mc.D, rfl, mc, m, rfl, rfl, ⟨d, fun k hk => Nat.le_trans h.b.size (f k hk), hb.b⟩, hb, (Away.new (fun k hk => h.d.lt hk) f).symm⟩
/-- The second copy. -/
theorem copy_second {w0 w : World} {C D : Nat} {s : DS} (h : Duo w0 w C D s s) : Calls Try.prog 15 #[.pointer (some ⟨D, 0, none⟩)] w fun e w' => ∃ X, e = .returned (.pointer (some ⟨X, 0, none⟩)) ∧ Trio w0 w' C D X s s := by
  obtain ⟨mc, md, h1, rfl, h4, h5, h7⟩ := h
  refine (copy_any md 5 s w h5.d).mono ?_
  rintro e w' ⟨mx, rfl, d, b, f⟩
  have hb := h5.below b
  exact ⟨mx.D, rfl, mc, md, mx, h1, rfl, rfl, h4.below b, hb, ⟨d, fun k hk => Nat.le_trans h5.b.size (f k hk), hb.b⟩, h7, Away.new (fun k hk => h4.d.lt hk) f, Away.new (fun k hk => h5.d.lt hk) f⟩
theorem Hold.base {w0 w : World} {D : Nat} {s : DS} {rs : List (Nat × List (BitVec 8))} (h : Hold w0 w D s rs) : s.ok 5 := h.ok
end Go.Proofs.Ytnpebdnfdbeiaaa
