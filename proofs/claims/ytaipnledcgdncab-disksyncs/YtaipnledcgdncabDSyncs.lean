/- DiskSyncs: a disk and a row that grows beside it. -/
import Derived.Test.YtaipnledcgdncabDCopies
import Derived.Deep.AppendLies
namespace Go.Proofs.Ytaipnledcgdncab
open Go.RowKit
set_option linter.unusedVariables false

/-- A disk of the law's own, and a row that grows. -/
def Acc (w0 w : World) (D : Nat) (s : DS) (v : Value) (n : Nat) (l : List (BitVec 8)) : Prop := ∃ m : DM, m.D = D ∧ Mine w0 w m 5 s ∧ w.ownsRow w0.heap.size 5 1 v n (cellsOf l) ∧ ∀ k, v.ownBlock = some k → ¬ m.own k
theorem Acc.new {w0 w : World} {D : Nat} {s : DS} (h : Hold w0 w D s []) : Acc w0 w D s (.slice none 0 0) 0 [] := by
  obtain ⟨m, e, h, _⟩ := h
  exact ⟨m, e, h, World.ownsRow_nil _ _ _ _, fun k e => by cases e⟩
theorem owned_lt {w : World} {base : Nat} {t : TypeId} {sz n : Nat} {v : Value} {xs : List Value} (h : w.ownsRow base t sz v n xs) {k : Nat} (e : v.ownBlock = some k) : base ≤ k ∧ k < w.heap.size := by
  rcases h.2 with ⟨e1, _⟩ | ⟨g, c, cur, e1, hb, hg, _⟩
  · rw [e1] at e; cases e
  · rw [e1] at e
    obtain rfl : g = k := by simpa [Value.ownBlock] using e
    exact ⟨hb, (Array.getElem?_eq_some_iff.1 hg).1⟩
theorem acc_read {w0 w : World} {D : Nat} {s : DS} {v : Value} {n : Nat} {l : List (BitVec 8)} (h : Acc w0 w D s v n l) (i : Nat) (hi : i < 5) : Calls Try.prog 8 #[.pointer (some ⟨D, 0, none⟩), .int .i64 (i : Int)] w fun e w' => ∃ g, e = .returned (.tuple #[.slice (some ⟨g, 0, none⟩) 256 256, .int .i64 0]) ∧ Seen w' (some ⟨g, 0, none⟩) 256 (readD s i) ∧ Acc w0 w' D s v n l := by
  obtain ⟨m, rfl, h, o, k⟩ := h
  refine (read_any m 5 s i w h.d hi).mono ?_
  rintro e w' ⟨g, rfl, o', b⟩
  refine ⟨g, rfl, seen_owned o' (by have := o'.1; rw [cellsOf_length] at this; omega) (by unfold maxLen; omega), m, rfl, h.below b, owns_same o (fun j e => b.block j (owned_lt o e).2), k⟩
theorem acc_append {w0 w : World} {D : Nat} {s : DS} {v : Value} {n g : Nat} {l A : List (BitVec 8)} (h : Acc w0 w D s v n l) (hA : Seen w (some ⟨g, 0, none⟩) 256 A) (hn : n ≤ 100000) :
    ∃ v' w', (Builtin.append_ #[29, 29] 29 #[v, .slice (some ⟨g, 0, none⟩) 256 256]).run Try.prog w = .ok v' w' ∧ Acc w0 w' D s v' (n + 256) (l ++ A) := by
  obtain ⟨m, rfl, h, o, k⟩ := h
  obtain ⟨i0, hi, hz0, hz1, hz2⟩ := info_parts info5
  obtain ⟨a1, a2, a3⟩ := hA
  have hcell : ∀ j, j < A.length → w.cell? ⟨g, j, none⟩ = some (.int .u8 (V (A.getD j 0#8))) := by
    rcases a3 with e | ⟨b, off, e, hc⟩
    · omega
    · cases e
      intro j hj
      have := hc j hj
      rwa [Nat.zero_add] at this
  obtain ⟨g', cap, w', hr, o', gr, hat, hlt⟩ := run_append_lies (P := Try.prog) w 29 29 w0.heap.size 5 i0 (.int .u8 0) 1 1 Try.underlying29 hi hz0 hz1 hz2 rfl (by omega) v n (cellsOf l) o
    ⟨g, 0, none⟩ 256 256 (cellsOf A) (by rw [cellsOf_length]; omega) (fun j u hj => by
      have hj' : j < A.length := by have := (List.getElem?_eq_some_iff.1 hj).1; rwa [cellsOf_length] at this
      rw [Addr.add_lit, Nat.zero_add, hcell j hj', ← hj]
      simp [cellsOf, hj']) (fun u hu => by
      obtain ⟨x, _, rfl⟩ := List.mem_map.1 hu
      rfl) (by omega) (by unfold maxLen; omega) (by omega) h.b.size w.heap.size rfl
  refine ⟨_, w', hr, m, rfl, ⟨h.d.away gr (fun j e => k j e), h.f, h.b.grown gr h.b.size (fun j e => (owned_lt o e).1)⟩, by rw [cellsOf_append]; exact o', fun j e => ?_⟩
  obtain rfl : g' = j := by simpa [Value.ownBlock] using e
  rcases hat with e | e
  · exact k _ e
  · exact fun ho => by have := h.d.lt ho; omega
theorem kept_low {w0 : World} {a : Option Addr} {len : Nat} {zs : List Int} (hz : IAt w0 a len zs) {y : Addr} (e : a = some y) (hne : zs ≠ []) (h : w0.heap.size ≤ y.block) : False := by
  have hl : 0 < zs.length := List.length_pos_iff.2 hne
  rcases hz.2.2.2 with h0 | ⟨b, off, e', hc⟩
  · have := hz.1; omega
  · rw [e'] at e
    cases e
    have := World.block_lt_of_cell? w0 _ (hc 0 hl)
    have h' : w0.heap.size ≤ b := h
    have h2 : b < w0.heap.size := this
    omega
/-- Two disks, and a row. -/
def DuoR (w0 w : World) (C D : Nat) (s t : DS) (g : Nat) (l : List (BitVec 8)) : Prop := ∃ mc md : DM, mc.D = C ∧ md.D = D ∧ Mine w0 w mc 5 s ∧ Mine w0 w md 5 t ∧ Away mc md ∧ Seen w (some ⟨g, 0, none⟩) l.length l ∧ g < w.heap.size ∧ ¬ mc.own g
theorem DuoR.duo {w0 w : World} {C D g : Nat} {s t : DS} {l : List (BitVec 8)} (h : DuoR w0 w C D s t g l) : Duo w0 w C D s t := by
  obtain ⟨mc, md, h1, h2, h3, h4, h5, _⟩ := h
  exact ⟨mc, md, h1, h2, h3, h4, h5⟩
theorem DuoR.seen {w0 w : World} {C D g : Nat} {s t : DS} {l : List (BitVec 8)} (h : DuoR w0 w C D s t g l) : Seen w (some ⟨g, 0, none⟩) l.length l := by
  obtain ⟨mc, md, h1, h2, h3, h4, h5, h6, _⟩ := h
  exact h6
theorem DuoR.below {w0 w w' : World} {C D g : Nat} {s t : DS} {l : List (BitVec 8)} (h : DuoR w0 w C D s t g l) (b : Below w.heap.size w w') : DuoR w0 w' C D s t g l := by
  obtain ⟨mc, md, h1, h2, h3, h4, h5, h6, h7, h8⟩ := h
  exact ⟨mc, md, h1, h2, h3.below b, h4.below b, h5, Seen.below h6 b, Nat.lt_of_lt_of_le h7 b.size, h8⟩
theorem Duo.hold {w0 w : World} {C D : Nat} {s t : DS} (h : Duo w0 w C D s t) : Hold w0 w D t [] := by
  obtain ⟨mc, md, h1, h2, h3, h4, h5⟩ := h
  exact ⟨md, h2, h4, fun r hr => by cases hr⟩
theorem acc_copy {w0 w : World} {D g c : Nat} {s : DS} {n : Nat} {l : List (BitVec 8)} (h : Acc w0 w D s (.slice (some ⟨g, 0, none⟩) n c) n l) (hn : n ≤ 100000) : Calls Try.prog 9 #[.pointer (some ⟨D, 0, none⟩)] w fun e w' => ∃ C, e = .returned (.pointer (some ⟨C, 0, none⟩)) ∧ DuoR w0 w' C D s s g l := by
  obtain ⟨m, rfl, h, o, k⟩ := h
  have hl : l.length = n := by have := o.1; rw [cellsOf_length] at this; omega
  have hg := owned_lt o (k := g) rfl
  refine (copy_any m 5 s w h.d).mono ?_
  rintro e w' ⟨mc, rfl, d, b, f⟩
  have hb := h.below b
  have sn := seen_owned o hl (by unfold maxLen; omega)
  rw [← hl] at sn
  exact ⟨mc.D, rfl, mc, m, rfl, rfl, ⟨d, fun k hk => Nat.le_trans h.b.size (f k hk), hb.b⟩, hb, (Away.new (fun k hk => h.d.lt hk) f).symm, Seen.below sn b, Nat.lt_of_lt_of_le hg.2 b.size, fun ho => by have := f g ho; have := hg.2; omega⟩
theorem duoR_crash {w0 w : World} {C D g : Nat} {s t : DS} {l : List (BitVec 8)} (h : DuoR w0 w C D s t g l) (a : Option Addr) (len cap : Nat) (zs : List Int) (hz : IAt w0 a len zs) : Calls Try.prog 7 #[.pointer (some ⟨C, 0, none⟩), .slice a len cap] w fun e w' => e = .returned (.int .i64 0) ∧ DuoR w0 w' C D (crashD s zs) t g l := by
  obtain ⟨mc, md, rfl, h2, h3, h4, h5, h6, h7, h8⟩ := h
  refine (crash_any mc 5 s a len cap zs w h3.d (hz.below h3.b) (fun y e hne ho => kept_low hz e hne (h3.f _ ho))).mono ?_
  rintro e w' ⟨m', rfl, e1, d, o, n⟩
  have r : DoR w w' mc m' 5 (crashD s zs) := ⟨e1, d, o, n⟩
  have k3 := h3.done r
  exact ⟨rfl, m', md, e1, h2, k3, h4.other o h5.symm k3.b, (h5.symm.next (fun k hk => h4.d.lt hk) n).symm, Seen.block h6 (o.block g h7 h8), Nat.lt_of_lt_of_le h7 o.size, fun ho => (n.own_of ho).elim h8 (fun x => by omega)⟩
end Go.Proofs.Ytaipnledcgdncab
