/- The reference's book: Get, By, Held, Add, Take, Hold, Free. -/
import Derived.Test.YtdchnfggmkokhaaGreatDoorGH
import Derived.Deep.RegionLaw
import Derived.BigRegion
import Derived.Test.YtdchnfggmkokhaaGreatDoorGA
namespace Go.Proofs.YtdchnfggmkokhaaGreatDoor
open Go.RowKit
attribute [local go_sem] Oper.semAt_some
set_option linter.unusedVariables false

theorem cells3_amt : ∀ (l : List Acc) (c : Nat) (hc : c < l.length) (x : Int), cells3 (l.set c ⟨l[c].nm, x, l[c].by_⟩) = (cells3 l).set (c * 3 + 1) (.int .i64 x)
  | p :: l, 0, _, x => by simp [cells3_cons, Acc.cells]
  | p :: l, c + 1, h, x => by
    have ih := cells3_amt l c (by simpa using h) x
    have e1 : (c + 1) * 3 = c * 3 + 1 + 1 + 1 := by omega
    simp only [List.getElem_cons_succ]
    rw [List.set_cons_succ, cells3_cons, cells3_cons, ih, e1]
    simp [Acc.cells]
theorem cells3_by : ∀ (l : List Acc) (c : Nat) (hc : c < l.length) (x : ByteArray), cells3 (l.set c ⟨l[c].nm, l[c].amt, x⟩) = (cells3 l).set (c * 3 + 2) (.string x)
  | p :: l, 0, _, x => by simp [cells3_cons, Acc.cells]
  | p :: l, c + 1, h, x => by
    have ih := cells3_by l c (by simpa using h) x
    have e1 : (c + 1) * 3 = c * 3 + 1 + 1 + 1 := by omega
    simp only [List.getElem_cons_succ]
    rw [List.set_cons_succ, cells3_cons, cells3_cons, ih, e1]
    simp [Acc.cells]
/-- What becomes of the reference's book. -/
def QTold (w w' : World) (base N : Nat) (sv : Value) (L' : List Acc) : Prop := ∃ sv', RefB w' base N sv' L' ∧ Chg w w' N sv.ownBlock ∧ (∀ k, sv'.ownBlock = some k → sv.ownBlock = some k ∨ w.heap.size ≤ k)
theorem QTold.same {w w' : World} {base N : Nat} {sv : Value} {L : List Acc} (h : RefB w base N sv L) (b : Below w.heap.size w w') : QTold w w' base N sv L := ⟨sv, h.below b, Chg.of_below b _ _, fun k e => .inl e⟩
theorem QTold.after {w w1 w' : World} {base N : Nat} {sv : Value} {L' : List Acc} (b : Below w.heap.size w w1) (h : QTold w1 w' base N sv L') : QTold w w' base N sv L' := by
  obtain ⟨sv', h1, h2, h3⟩ := h
  exact ⟨sv', h1, (Chg.of_below b _ _).trans h2 (fun g e => .inl e), fun k e => (h3 k e).imp id (fun q => Nat.le_trans b.size q)⟩
section
variable {w w' : World} {base N : Nat} {sv : Value} {L : List Acc}
theorem RefB.drew (h : RefB w base N sv L) : RefB w.drew base N sv L := h.keep rfl (fun _ _ => rfl)
theorem QTold.drew {L' : List Acc} (h : QTold w w' base N sv L') : QTold w w'.drew base N sv L' := by
  obtain ⟨sv', h1, h2, h3⟩ := h
  exact ⟨sv', h1.drew, h2.drew, h3⟩
theorem RefB.gotAt (h : RefB w base N sv L) {t : ByteArray} {p : Acc} (hp : getA L t = some p) : hasN L t = true ∧ ∃ hk : under L t < L.length, L[under L t] = p ∧ ∃ g c, sv = .slice (some ⟨g, 0, none⟩) L.length c ∧ g < w.heap.size ∧ g ≠ N ∧ w.cell? ⟨g, under L t * 3, none⟩ = some (.string p.nm) ∧ w.cell? ⟨g, under L t * 3 + 1, none⟩ = some (.int .i64 p.amt) ∧ w.cell? ⟨g, under L t * 3 + 2, none⟩ = some (.string p.by_) ∧ (∀ i, w.frozen? ⟨g, i, none⟩ = false) := by
  have hh : hasN L t = true := (hasN_mem _ _).2 ⟨p, (h.fit.got hp).1, (h.fit.got hp).2.1⟩
  obtain ⟨hk, e1, e2⟩ := getA_some h.fit.srt hh
  rw [hp] at e1
  injection e1 with e1
  obtain ⟨g, cap, esv, q0, q1, q2⟩ := qrow_at h.row rfl hk
  rw [← e1] at q0 q1 q2
  obtain ⟨_, _, cur, hcur⟩ := row_kind h.row (g := g) (by rw [esv]; rfl)
  exact ⟨hh, hk, e1.symm, g, cap, esv, World.block_lt_of_cell? w _ q0, h.ne (by rw [esv]; rfl), q0, q1, q2, fun i => by simp [World.frozen?, hcur]⟩
/-- One cell of an account is turned. -/
theorem RefB.turn1 (h : RefB w base N sv L) {g n cap c i : Nat} {v : Value} {q : Acc} (esv : sv = .slice (some ⟨g, 0, none⟩) n cap) (hu : under L q.nm = c) (hcell : cells3 (L.set c q) = (cells3 L).set i v) (hf : Fit (upd L q)) :
    QTold w (w.setCell ⟨g, i, none⟩ v) base N sv (upd L q) := by
  have hgN : g ≠ N := h.ne (by rw [esv]; rfl)
  have eo : sv.ownBlock = some g := by rw [esv]; rfl
  rcases h.row.2 with ⟨e1, _⟩ | ⟨g', c', cur, e1, hb, hg, hnc, hcm, hcs, htake⟩
  · rw [esv] at e1; simp at e1
  · rw [esv] at e1
    simp only [Value.slice.injEq, Option.some.injEq, Addr.mk.injEq, and_true] at e1
    obtain ⟨rfl, hn, rfl⟩ := e1
    rw [setCell_eq_setRow w g _ cur _ _ _ hg]
    refine ⟨sv, ⟨?_, ⟨?_, .inr ⟨g, cap, _, ?_, hb, setRow_heap w g cur _ _ _ hg, ?_, hcm, ?_, ?_⟩⟩, h.bN, hf⟩, ⟨rfl, rfl, rfl, by simp, fun k hk h1 h2 => ?_⟩, fun k e => .inl e⟩
    · rw [setRow_other _ _ _ _ (Ne.symm hgN)]
      exact h.hN
    · rw [cells3_length]
    · rw [esv, upd_length, ← hn]
    · rw [upd_length]; exact hnc
    · simp only [Array.size_setIfInBounds]; exact hcs
    · rw [upd_length]
      unfold upd
      rw [hu, hcell, ← htake]
      simp only [Array.toList_setIfInBounds, List.take_set]
    · exact setRow_other _ _ _ _ (fun e => h2 (by rw [e, eo]))
set_option maxRecDepth 100000 in
theorem qget_any (h : RefB w base N sv L) (t : ByteArray) : Calls Tryz.prog 39 #[.pointer (some ⟨N, 0, none⟩), .string t] w fun e w' => e = .returned (getV L t) ∧ Below w.heap.size w w' := by
  have HF := qfind_any h t
  unfold getV
  cases hg : getA L t with
  | none =>
    rw [(getA_none _ _).1 hg] at HF
    generalize under L t = c at HF
    clear h hg
    go_enter Tryz.func39, Tryz.ntmps39
    go_wp2_with fail
    refine HF.mono ?_
    rintro e w1 ⟨rfl, b1⟩
    have B1 : Hid (Below w.heap.size w w1) := b1
    clear b1 HF
    go_wp2
    go_ret2
    exact ⟨rfl, B1.out⟩
  | some p =>
    obtain ⟨hh, hk, hLp0, g, c, esv, hgs, _, y0, y1, y2, _⟩ := h.gotAt hg
    clear hLp0
    rw [hh] at HF
    have c0 := h.c0
    have hN := h.ltN
    rw [esv] at c0
    have hl := h.fit.len
    generalize under L t = u at *
    generalize L.length = n at *
    clear h hg hh esv
    go_enter Tryz.func39, Tryz.ntmps39
    go_wp2_with fail
    refine HF.mono ?_
    rintro e w1 ⟨rfl, b1⟩
    have k0 := (b1.cell (p := ⟨N, 0, none⟩) hN).trans c0
    have k1 := (b1.cell (p := ⟨g, u * 3 + 1, none⟩) hgs).trans y1
    have B1 : Hid (Below w.heap.size w w1) := b1
    clear b1 HF
    go_wp2
    go_ret2
    exact ⟨rfl, B1.out⟩
set_option maxRecDepth 100000 in
set_option maxHeartbeats 1000000 in
theorem qadd_any (h : RefB w base N sv L) (t : ByteArray) (n : Int) (hn : -9223372036854775808 ≤ n ∧ n ≤ 9223372036854775807) : Calls Tryz.prog 27 #[.pointer (some ⟨N, 0, none⟩), .string t, .int .i64 n] w fun e w' => e = .returned (.int .i64 (onP L t (addP n)).1) ∧ QTold w w' base N sv (onP L t (addP n)).2 := by
  have HF := qfind_any h t
  unfold onP
  have H : Hid (RefB w base N sv L) := h
  cases hg : getA L t with
  | none =>
    rw [(getA_none _ _).1 hg] at HF
    generalize under L t = c at HF
    simp only
    clear h hg
    go_enter Tryz.func27, Tryz.ntmps27
    go_wp2_with fail
    refine HF.mono ?_
    rintro e w1 ⟨rfl, b1⟩
    have B1 : Hid (Below w.heap.size w w1) := b1
    clear b1 HF
    go_wp2
    go_ret
    exact ⟨rfl, QTold.same H.out B1.out⟩
  | some p =>
    obtain ⟨hh, hk, hLp, g, cp, esv, hgs, _, y0, y1, y2, _⟩ := h.gotAt hg
    obtain ⟨_, hpn, hnk, hp1, hp2, hp3⟩ := h.fit.got hg
    rw [hh] at HF
    have c0 := h.c0
    have hN := h.ltN
    rw [esv] at c0
    have ES : Hid (sv = .slice (some ⟨g, 0, none⟩) L.length cp) := esv
    have HK : Hid (under L t < L.length) := hk
    have HLP : Hid (∀ h, L[under L t]'h = p) := fun _ => hLp
    have HH : Hid (hasN L t = true) := hh
    have HPN : Hid (p.nm = t) := hpn
    have HU : Hid (under L p.nm = under L t) := by show under L p.nm = under L t; rw [hpn]
    have hl := h.fit.len
    obtain ⟨u, eu⟩ : ∃ u, under L t = u := ⟨_, rfl⟩
    have EU : Hid (under L t = u) := eu
    rw [eu] at HF hk y0 y1 y2
    obtain ⟨n', en⟩ : ∃ n, L.length = n := ⟨_, rfl⟩
    have EN : Hid (L.length = n') := en
    rw [en] at hk hl c0
    have HG : Hid (∀ W, Below w.heap.size w W → W.cell? ⟨N, 0, none⟩ = some (.slice (some ⟨g, 0, none⟩) n' cp) ∧ W.cell? ⟨g, u * 3 + 1, none⟩ = some (.int .i64 p.amt) ∧ W.cell? ⟨g, u * 3 + 2, none⟩ = some (.string p.by_) ∧ (∀ i, W.frozen? ⟨g, i, none⟩ = false)) := fun W b => by
      obtain ⟨_, _, cur, hcur⟩ := row_kind (H.out.below b).row (g := g) (by rw [ES.out]; rfl)
      exact ⟨(b.cell (p := ⟨N, 0, none⟩) hN).trans c0, (b.cell (p := ⟨g, u * 3 + 1, none⟩) hgs).trans y1, (b.cell (p := ⟨g, u * 3 + 2, none⟩) hgs).trans y2, fun i => by simp [World.frozen?, hcur]⟩
    clear h hg hh esv eu en hLp hpn y0 y1 y2 c0
    by_cases h1 : n < 1
    · have e1 : addP n p = (47, p) := by unfold addP; rw [if_pos h1]
      simp only [e1]
      rw [if_neg (by omega)]
      clear e1
      obtain ⟨nm, amt, by_⟩ := p
      simp only at *
      go_enter Tryz.func27, Tryz.ntmps27
      go_wp2_with fail
      refine HF.mono ?_
      rintro e w1 ⟨rfl, b1⟩
      obtain ⟨k0, k1, k2, kf⟩ := HG.out w1 b1
      have B1 : Hid (Below w.heap.size w w1) := b1
      clear b1 HF
      go_wp2
      go_ret
      exact ⟨rfl, QTold.same H.out B1.out⟩
    by_cases h2 : 9223372036854775807 - n < p.amt
    · have e1 : addP n p = (43, p) := by unfold addP; rw [if_neg h1, if_pos h2]
      simp only [e1]
      rw [if_neg (by omega)]
      clear e1
      obtain ⟨nm, amt, by_⟩ := p
      simp only at *
      have h3 : 9223372036854775807 - amt < n := by omega
      clear h2
      go_enter Tryz.func27, Tryz.ntmps27
      go_wp2_with fail
      refine HF.mono ?_
      rintro e w1 ⟨rfl, b1⟩
      obtain ⟨k0, k1, k2, kf⟩ := HG.out w1 b1
      have B1 : Hid (Below w.heap.size w w1) := b1
      clear b1 HF
      go_wp2
      go_ret
      exact ⟨rfl, QTold.same H.out B1.out⟩
    · have e1 : addP n p = (0, ⟨p.nm, p.amt + n, p.by_⟩) := by unfold addP; rw [if_neg h1, if_neg h2]
      have HFit : Hid (Fit (upd L ⟨p.nm, p.amt + n, p.by_⟩)) := H.out.fit.upd _ (by rw [HPN.out]; exact HH.out) ⟨by simp only; omega, by simp only; omega⟩ hp3
      have HCE : Hid (cells3 (L.set u ⟨p.nm, p.amt + n, p.by_⟩) = (cells3 L).set (u * 3 + 1) (.int .i64 (p.amt + n))) := by
        have := cells3_amt L (under L t) HK.out (p.amt + n)
        rw [HLP.out] at this
        rw [EU.out] at this
        exact this
      simp only [e1, if_true]
      clear e1
      obtain ⟨nm, amt, by_⟩ := p
      simp only at *
      have h3 : ¬ 9223372036854775807 - amt < n := by omega
      clear h2
      go_enter Tryz.func27, Tryz.ntmps27
      go_wp2_with fail
      refine HF.mono ?_
      rintro e w1 ⟨rfl, b1⟩
      obtain ⟨k0, k1, k2, kf⟩ := HG.out w1 b1
      have B1 : Hid (Below w.heap.size w w1) := b1
      clear b1 HF
      go_wp2
      go_region
      go_wp2
      go_ret
      have := (H.out.below B1.out).turn1 (q := ⟨nm, amt + n, by_⟩) ES.out (HU.out.trans EU.out) HCE.out HFit.out
      first
      | exact ⟨rfl, this.after B1.out⟩
      | exact ⟨rfl, (this.after B1.out).drew⟩
set_option maxRecDepth 100000 in
set_option maxHeartbeats 1000000 in
theorem qtake_any (h : RefB w base N sv L) (t : ByteArray) (n : Int) (hn : -9223372036854775808 ≤ n ∧ n ≤ 9223372036854775807) : Calls Tryz.prog 29 #[.pointer (some ⟨N, 0, none⟩), .string t, .int .i64 n] w fun e w' => e = .returned (.int .i64 (onP L t (takeP n)).1) ∧ QTold w w' base N sv (onP L t (takeP n)).2 := by
  have HF := qfind_any h t
  unfold onP
  have H : Hid (RefB w base N sv L) := h
  cases hg : getA L t with
  | none =>
    rw [(getA_none _ _).1 hg] at HF
    generalize under L t = c at HF
    simp only
    clear h hg
    go_enter Tryz.func29, Tryz.ntmps29
    go_wp2_with fail
    refine HF.mono ?_
    rintro e w1 ⟨rfl, b1⟩
    have B1 : Hid (Below w.heap.size w w1) := b1
    clear b1 HF
    go_wp2
    go_ret
    exact ⟨rfl, QTold.same H.out B1.out⟩
  | some p =>
    obtain ⟨hh, hk, hLp, g, cp, esv, hgs, _, y0, y1, y2, _⟩ := h.gotAt hg
    obtain ⟨_, hpn, hnk, hp1, hp2, hp3⟩ := h.fit.got hg
    rw [hh] at HF
    have c0 := h.c0
    have hN := h.ltN
    rw [esv] at c0
    have ES : Hid (sv = .slice (some ⟨g, 0, none⟩) L.length cp) := esv
    have HK : Hid (under L t < L.length) := hk
    have HLP : Hid (∀ h, L[under L t]'h = p) := fun _ => hLp
    have HH : Hid (hasN L t = true) := hh
    have HPN : Hid (p.nm = t) := hpn
    have HU : Hid (under L p.nm = under L t) := by show under L p.nm = under L t; rw [hpn]
    have hl := h.fit.len
    obtain ⟨u, eu⟩ : ∃ u, under L t = u := ⟨_, rfl⟩
    have EU : Hid (under L t = u) := eu
    rw [eu] at HF hk y0 y1 y2
    obtain ⟨n', en⟩ : ∃ n, L.length = n := ⟨_, rfl⟩
    have EN : Hid (L.length = n') := en
    rw [en] at hk hl c0
    have HG : Hid (∀ W, Below w.heap.size w W → W.cell? ⟨N, 0, none⟩ = some (.slice (some ⟨g, 0, none⟩) n' cp) ∧ W.cell? ⟨g, u * 3 + 1, none⟩ = some (.int .i64 p.amt) ∧ W.cell? ⟨g, u * 3 + 2, none⟩ = some (.string p.by_) ∧ (∀ i, W.frozen? ⟨g, i, none⟩ = false)) := fun W b => by
      obtain ⟨_, _, cur, hcur⟩ := row_kind (H.out.below b).row (g := g) (by rw [ES.out]; rfl)
      exact ⟨(b.cell (p := ⟨N, 0, none⟩) hN).trans c0, (b.cell (p := ⟨g, u * 3 + 1, none⟩) hgs).trans y1, (b.cell (p := ⟨g, u * 3 + 2, none⟩) hgs).trans y2, fun i => by simp [World.frozen?, hcur]⟩
    clear h hg hh esv eu en hLp hpn y0 y1 y2 c0
    by_cases h1 : n < 1
    · have e1 : takeP n p = (47, p) := by unfold takeP; rw [if_pos h1]
      simp only [e1]
      rw [if_neg (by omega)]
      clear e1
      obtain ⟨nm, amt, by_⟩ := p
      simp only at *
      go_enter Tryz.func29, Tryz.ntmps29
      go_wp2_with fail
      refine HF.mono ?_
      rintro e w1 ⟨rfl, b1⟩
      obtain ⟨k0, k1, k2, kf⟩ := HG.out w1 b1
      have B1 : Hid (Below w.heap.size w w1) := b1
      clear b1 HF
      go_wp2
      go_ret
      exact ⟨rfl, QTold.same H.out B1.out⟩
    by_cases h2 : p.amt < n
    · have e1 : takeP n p = (42, p) := by unfold takeP; rw [if_neg h1, if_pos h2]
      simp only [e1]
      rw [if_neg (by omega)]
      clear e1
      obtain ⟨nm, amt, by_⟩ := p
      simp only at *
      have h3 : amt < n := by omega
      clear h2
      go_enter Tryz.func29, Tryz.ntmps29
      go_wp2_with fail
      refine HF.mono ?_
      rintro e w1 ⟨rfl, b1⟩
      obtain ⟨k0, k1, k2, kf⟩ := HG.out w1 b1
      have B1 : Hid (Below w.heap.size w w1) := b1
      clear b1 HF
      go_wp2
      go_ret
      exact ⟨rfl, QTold.same H.out B1.out⟩
    · have e1 : takeP n p = (0, ⟨p.nm, p.amt - n, p.by_⟩) := by unfold takeP; rw [if_neg h1, if_neg h2]
      have HFit : Hid (Fit (upd L ⟨p.nm, p.amt - n, p.by_⟩)) := H.out.fit.upd _ (by rw [HPN.out]; exact HH.out) ⟨by simp only; omega, by simp only; omega⟩ hp3
      have HCE : Hid (cells3 (L.set u ⟨p.nm, p.amt - n, p.by_⟩) = (cells3 L).set (u * 3 + 1) (.int .i64 (p.amt - n))) := by
        have := cells3_amt L (under L t) HK.out (p.amt - n)
        rw [HLP.out] at this
        rw [EU.out] at this
        exact this
      simp only [e1, if_true]
      clear e1
      obtain ⟨nm, amt, by_⟩ := p
      simp only at *
      have h3 : ¬ amt < n := by omega
      clear h2
      go_enter Tryz.func29, Tryz.ntmps29
      go_wp2_with fail
      refine HF.mono ?_
      rintro e w1 ⟨rfl, b1⟩
      obtain ⟨k0, k1, k2, kf⟩ := HG.out w1 b1
      have B1 : Hid (Below w.heap.size w w1) := b1
      clear b1 HF
      go_wp2
      go_region
      go_wp2
      go_ret
      have := (H.out.below B1.out).turn1 (q := ⟨nm, amt - n, by_⟩) ES.out (HU.out.trans EU.out) HCE.out HFit.out
      first
      | exact ⟨rfl, this.after B1.out⟩
      | exact ⟨rfl, (this.after B1.out).drew⟩
end
end Go.Proofs.YtdchnfggmkokhaaGreatDoor

namespace Go.Proofs.YtdchnfggmkokhaaGreatDoor
open Go.RowKit
attribute [local go_sem] Oper.semAt_some
set_option linter.unusedVariables false

section
variable {w w' : World} {base N : Nat} {sv : Value} {L : List Acc}
set_option maxRecDepth 100000 in
theorem qby_any (h : RefB w base N sv L) (t : ByteArray) : Calls Tryz.prog 42 #[.pointer (some ⟨N, 0, none⟩), .string t] w fun e w' => e = .returned (.string (accOr (getA L t)).by_) ∧ Below w.heap.size w w' := by
  have HF := qfind_any h t
  cases hg : getA L t with
  | none =>
    rw [(getA_none _ _).1 hg] at HF
    generalize under L t = c at HF
    clear h hg
    go_enter Tryz.func42, Tryz.ntmps42
    go_wp2_with fail
    refine HF.mono ?_
    rintro e w1 ⟨rfl, b1⟩
    have B1 : Hid (Below w.heap.size w w1) := b1
    clear b1 HF
    go_wp2
    go_ret
    exact ⟨rfl, B1.out⟩
  | some p =>
    obtain ⟨hh, hk, hLp0, g, c, esv, hgs, _, y0, y1, y2, _⟩ := h.gotAt hg
    clear hLp0
    rw [hh] at HF
    have c0 := h.c0
    have hN := h.ltN
    rw [esv] at c0
    have hl := h.fit.len
    generalize under L t = u at *
    generalize L.length = n at *
    clear h hg hh esv
    go_enter Tryz.func42, Tryz.ntmps42
    go_wp2_with fail
    refine HF.mono ?_
    rintro e w1 ⟨rfl, b1⟩
    have k0 := (b1.cell (p := ⟨N, 0, none⟩) hN).trans c0
    have k1 := (b1.cell (p := ⟨g, u * 3 + 2, none⟩) hgs).trans y2
    have B1 : Hid (Below w.heap.size w w1) := b1
    clear b1 HF
    go_wp2
    go_ret
    exact ⟨rfl, B1.out⟩
set_option maxRecDepth 100000 in
theorem qheld_any (h : RefB w base N sv L) : Calls Tryz.prog 45 #[.pointer (some ⟨N, 0, none⟩)] w fun e w' => e = .returned (.int .i64 (heldN L : Nat)) ∧ w' = w := by
  have c0 := h.c0
  obtain ⟨a, cap, esv, _⟩ := h.sv_form
  have H : Hid (RefB w base N sv L) := h
  have ES : Hid (sv = .slice a L.length cap) := esv
  rw [esv] at c0
  have hl : L.length ≤ 200 := h.fit.len
  obtain ⟨n, en⟩ : ∃ n, L.length = n := ⟨_, rfl⟩
  have EN : Hid (L.length = n) := en
  rw [en] at c0 hl
  clear h esv en
  go_enter Tryz.func45, Tryz.ntmps45
  go_wp2
  go_loop [3, 4] (fun m i => ∃ k : Nat, k ≤ n ∧ i = .int .i64 k ∧ m = .int .i64 (heldN (L.take k) : Nat)) (fun _ i => n - (intOf i).toNat)
  case atStart => exact ⟨0, Nat.zero_le _, rfl, rfl⟩
  case round =>
    obtain ⟨k, hk, rfl, rfl⟩ := hrel
    by_cases hlt : k < n
    · have hk2 : k < L.length := by rw [EN.out]; exact hlt
      obtain ⟨g, cp, e2, y0, y1, y2⟩ := qrow_at H.out.row rfl hk2
      rw [ES.out] at e2
      injection e2 with e3 e4 e5
      subst e3
      clear e4 e5
      have hsn := heldN_snoc (L.take k) (L[k]'hk2)
      rw [← List.take_succ_eq_append_getElem hk2] at hsn
      have hle := heldN_le (L.take k)
      rw [List.length_take] at hle
      generalize L[k]'hk2 = p at y0 y1 y2 hsn
      obtain ⟨nm, amt, by_⟩ := p
      simp only at y0 y1 y2 hsn
      generalize heldN (L.take k) = m at hsn hle ⊢
      have hm : m ≤ 200 := by omega
      by_cases hb : by_.size = 0
      · rw [if_pos hb] at hsn
        have HSN : Hid (heldN (L.take (k + 1)) = m + 0) := hsn
        have hn1 : by_.toList = [] := by rw [text_zero hb, ByteArray.toList_eq]
        clear hb hsn hle
        go_wp2
        go_round
        case rel => exact ⟨k + 1, by omega, by go_num, by rw [HSN.out]; rfl⟩
        case measure => simp only [intOf]; omega
      · rw [if_neg hb] at hsn
        have HSN : Hid (heldN (L.take (k + 1)) = m + 1) := hsn
        have hn1 := text_nil_ne hb
        have hn2 := text_nil_beq hb
        clear hb hsn hle
        go_wp2
        go_round
        case rel => exact ⟨k + 1, by omega, by go_num, by rw [HSN.out]; go_num⟩
        case measure => simp only [intOf]; omega
    · obtain rfl : k = n := by omega
      go_wp2
      go_ret
      exact ⟨by rw [List.take_of_length_le (by rw [EN.out]; exact Nat.le_refl _)]; rfl, rfl⟩
set_option maxRecDepth 100000 in
set_option maxHeartbeats 1000000 in
theorem qhold_any (h : RefB w base N sv L) (t : ByteArray) (s : ByteArray) : Calls Tryz.prog 31 #[.pointer (some ⟨N, 0, none⟩), .string t, .string s] w fun e w' => e = .returned (.int .i64 (onP L t (holdP s)).1) ∧ QTold w w' base N sv (onP L t (holdP s)).2 := by
  have HF := qfind_any h t
  unfold onP
  have H : Hid (RefB w base N sv L) := h
  cases hg : getA L t with
  | none =>
    rw [(getA_none _ _).1 hg] at HF
    generalize under L t = c at HF
    simp only
    clear h hg
    go_enter Tryz.func31, Tryz.ntmps31
    go_wp2_with fail
    refine HF.mono ?_
    rintro e w1 ⟨rfl, b1⟩
    have B1 : Hid (Below w.heap.size w w1) := b1
    clear b1 HF
    go_wp2
    go_ret
    exact ⟨rfl, QTold.same H.out B1.out⟩
  | some p =>
    obtain ⟨hh, hk, hLp, g, cp, esv, hgs, _, y0, y1, y2, _⟩ := h.gotAt hg
    obtain ⟨_, hpn, hnk, hp1, hp2, hp3⟩ := h.fit.got hg
    rw [hh] at HF
    have c0 := h.c0
    have hN := h.ltN
    rw [esv] at c0
    have ES : Hid (sv = .slice (some ⟨g, 0, none⟩) L.length cp) := esv
    have HK : Hid (under L t < L.length) := hk
    have HLP : Hid (∀ h, L[under L t]'h = p) := fun _ => hLp
    have HH : Hid (hasN L t = true) := hh
    have HPN : Hid (p.nm = t) := hpn
    have HU : Hid (under L p.nm = under L t) := by show under L p.nm = under L t; rw [hpn]
    have hl := h.fit.len
    obtain ⟨u, eu⟩ : ∃ u, under L t = u := ⟨_, rfl⟩
    have EU : Hid (under L t = u) := eu
    rw [eu] at HF hk y0 y1 y2
    obtain ⟨n', en⟩ : ∃ n, L.length = n := ⟨_, rfl⟩
    have EN : Hid (L.length = n') := en
    rw [en] at hk hl c0
    have HG : Hid (∀ W, Below w.heap.size w W → W.cell? ⟨N, 0, none⟩ = some (.slice (some ⟨g, 0, none⟩) n' cp) ∧ W.cell? ⟨g, u * 3 + 1, none⟩ = some (.int .i64 p.amt) ∧ W.cell? ⟨g, u * 3 + 2, none⟩ = some (.string p.by_) ∧ (∀ i, W.frozen? ⟨g, i, none⟩ = false)) := fun W b => by
      obtain ⟨_, _, cur, hcur⟩ := row_kind (H.out.below b).row (g := g) (by rw [ES.out]; rfl)
      exact ⟨(b.cell (p := ⟨N, 0, none⟩) hN).trans c0, (b.cell (p := ⟨g, u * 3 + 1, none⟩) hgs).trans y1, (b.cell (p := ⟨g, u * 3 + 2, none⟩) hgs).trans y2, fun i => by simp [World.frozen?, hcur]⟩
    clear h hg hh esv eu en hLp hpn y0 y1 y2 c0
    by_cases h1 : s.size = 0
    · skip
      have e1 : holdP s p = (1, p) := by unfold holdP; rw [if_pos (.inl h1)]
      simp only [e1]
      rw [if_neg (by omega)]
      clear e1
      have hn1 : s.toList = [] := by rw [text_zero h1, ByteArray.toList_eq]
      clear h1
      obtain ⟨nm, amt, by_⟩ := p
      simp only at *
      go_enter Tryz.func31, Tryz.ntmps31
      go_wp2_with fail
      refine HF.mono ?_
      rintro e w1 ⟨rfl, b1⟩
      obtain ⟨k0, k1, k2, kf⟩ := HG.out w1 b1
      have B1 : Hid (Below w.heap.size w w1) := b1
      clear b1 HF
      go_wp2
      go_ret
      exact ⟨rfl, QTold.same H.out B1.out⟩
    have hne := text_nil_ne h1
    have hne2 := text_nil_beq h1
    by_cases h2 : 65536 < s.size
    · skip
      have e1 : holdP s p = (1, p) := by unfold holdP; rw [if_pos (.inr h2)]
      simp only [e1]
      rw [if_neg (by omega)]
      clear e1
      have h2' : (65536 : Int) < (s.size : Int) := by omega
      obtain ⟨nm, amt, by_⟩ := p
      simp only at *
      go_enter Tryz.func31, Tryz.ntmps31
      go_wp2_with fail
      refine HF.mono ?_
      rintro e w1 ⟨rfl, b1⟩
      obtain ⟨k0, k1, k2, kf⟩ := HG.out w1 b1
      have B1 : Hid (Below w.heap.size w w1) := b1
      clear b1 HF
      go_wp2
      go_ret
      exact ⟨rfl, QTold.same H.out B1.out⟩
    have h2' : ¬ (65536 : Int) < (s.size : Int) := by omega
    have hnp : ¬ (s.size = 0 ∨ 65536 < s.size) := by omega
    by_cases h3 : p.by_.size = 0
    · skip
      have e1 : holdP s p = (0, ⟨p.nm, p.amt, s⟩) := by unfold holdP; rw [if_neg hnp, if_neg (fun q => q.1 h3)]
      have HFit : Hid (Fit (upd L ⟨p.nm, p.amt, s⟩)) := H.out.fit.upd _ (by rw [HPN.out]; exact HH.out) ⟨hp1, hp2⟩ (by simp only; first | omega | (simp [ByteArray.size]))
      have HCE : Hid (cells3 (L.set u ⟨p.nm, p.amt, s⟩) = (cells3 L).set (u * 3 + 2) (.string s)) := by
        have := cells3_by L (under L t) HK.out s
        rw [HLP.out] at this
        rw [EU.out] at this
        exact this
      simp only [e1, if_true]
      clear e1
      have hb1 : p.by_.toList = [] := by rw [text_zero h3, ByteArray.toList_eq]
      clear h3 hnp h1
      obtain ⟨nm, amt, by_⟩ := p
      simp only at *
      go_enter Tryz.func31, Tryz.ntmps31
      go_wp2_with fail
      refine HF.mono ?_
      rintro e w1 ⟨rfl, b1⟩
      obtain ⟨k0, k1, k2, kf⟩ := HG.out w1 b1
      have B1 : Hid (Below w.heap.size w w1) := b1
      clear b1 HF
      go_wp2
      go_ret
      have := (H.out.below B1.out).turn1 (q := ⟨nm, amt, s⟩) ES.out (HU.out.trans EU.out) HCE.out HFit.out
      first
      | exact ⟨rfl, this.after B1.out⟩
      | exact ⟨rfl, (this.after B1.out).drew⟩
    have hb1 := text_nil_ne h3
    have hb2 := text_nil_beq h3
    by_cases h4 : p.by_ = s
    · skip
      have e1 : holdP s p = (0, ⟨p.nm, p.amt, s⟩) := by unfold holdP; rw [if_neg hnp, if_neg (fun q => q.2 h4)]
      have HFit : Hid (Fit (upd L ⟨p.nm, p.amt, s⟩)) := H.out.fit.upd _ (by rw [HPN.out]; exact HH.out) ⟨hp1, hp2⟩ (by simp only; first | omega | (simp [ByteArray.size]))
      have HCE : Hid (cells3 (L.set u ⟨p.nm, p.amt, s⟩) = (cells3 L).set (u * 3 + 2) (.string s)) := by
        have := cells3_by L (under L t) HK.out s
        rw [HLP.out] at this
        rw [EU.out] at this
        exact this
      simp only [e1, if_true]
      clear e1
      have hb3 : p.by_.toList = s.toList := by rw [h4]
      clear h4 h3 hnp h1
      obtain ⟨nm, amt, by_⟩ := p
      simp only at *
      go_enter Tryz.func31, Tryz.ntmps31
      go_wp2_with fail
      refine HF.mono ?_
      rintro e w1 ⟨rfl, b1⟩
      obtain ⟨k0, k1, k2, kf⟩ := HG.out w1 b1
      have B1 : Hid (Below w.heap.size w w1) := b1
      clear b1 HF
      go_wp2
      go_ret
      have := (H.out.below B1.out).turn1 (q := ⟨nm, amt, s⟩) ES.out (HU.out.trans EU.out) HCE.out HFit.out
      first
      | exact ⟨rfl, this.after B1.out⟩
      | exact ⟨rfl, (this.after B1.out).drew⟩
    · skip
      have e1 : holdP s p = (5, p) := by unfold holdP; rw [if_neg hnp, if_pos ⟨h3, h4⟩]
      simp only [e1]
      rw [if_neg (by omega)]
      clear e1
      have hb3 := text_ne' h4
      have hb4 := text_ne h4
      clear h4 h3 hnp h1
      obtain ⟨nm, amt, by_⟩ := p
      simp only at *
      go_enter Tryz.func31, Tryz.ntmps31
      go_wp2_with fail
      refine HF.mono ?_
      rintro e w1 ⟨rfl, b1⟩
      obtain ⟨k0, k1, k2, kf⟩ := HG.out w1 b1
      have B1 : Hid (Below w.heap.size w w1) := b1
      clear b1 HF
      go_wp2
      go_ret
      exact ⟨rfl, QTold.same H.out B1.out⟩
set_option maxRecDepth 100000 in
set_option maxHeartbeats 1000000 in
theorem qfree_any (h : RefB w base N sv L) (t : ByteArray) (s : ByteArray) : Calls Tryz.prog 33 #[.pointer (some ⟨N, 0, none⟩), .string t, .string s] w fun e w' => e = .returned (.int .i64 (onP L t (freeP s)).1) ∧ QTold w w' base N sv (onP L t (freeP s)).2 := by
  have HF := qfind_any h t
  unfold onP
  have H : Hid (RefB w base N sv L) := h
  cases hg : getA L t with
  | none =>
    rw [(getA_none _ _).1 hg] at HF
    generalize under L t = c at HF
    simp only
    clear h hg
    go_enter Tryz.func33, Tryz.ntmps33
    go_wp2_with fail
    refine HF.mono ?_
    rintro e w1 ⟨rfl, b1⟩
    have B1 : Hid (Below w.heap.size w w1) := b1
    clear b1 HF
    go_wp2
    go_ret
    exact ⟨rfl, QTold.same H.out B1.out⟩
  | some p =>
    obtain ⟨hh, hk, hLp, g, cp, esv, hgs, _, y0, y1, y2, _⟩ := h.gotAt hg
    obtain ⟨_, hpn, hnk, hp1, hp2, hp3⟩ := h.fit.got hg
    rw [hh] at HF
    have c0 := h.c0
    have hN := h.ltN
    rw [esv] at c0
    have ES : Hid (sv = .slice (some ⟨g, 0, none⟩) L.length cp) := esv
    have HK : Hid (under L t < L.length) := hk
    have HLP : Hid (∀ h, L[under L t]'h = p) := fun _ => hLp
    have HH : Hid (hasN L t = true) := hh
    have HPN : Hid (p.nm = t) := hpn
    have HU : Hid (under L p.nm = under L t) := by show under L p.nm = under L t; rw [hpn]
    have hl := h.fit.len
    obtain ⟨u, eu⟩ : ∃ u, under L t = u := ⟨_, rfl⟩
    have EU : Hid (under L t = u) := eu
    rw [eu] at HF hk y0 y1 y2
    obtain ⟨n', en⟩ : ∃ n, L.length = n := ⟨_, rfl⟩
    have EN : Hid (L.length = n') := en
    rw [en] at hk hl c0
    have HG : Hid (∀ W, Below w.heap.size w W → W.cell? ⟨N, 0, none⟩ = some (.slice (some ⟨g, 0, none⟩) n' cp) ∧ W.cell? ⟨g, u * 3 + 1, none⟩ = some (.int .i64 p.amt) ∧ W.cell? ⟨g, u * 3 + 2, none⟩ = some (.string p.by_) ∧ (∀ i, W.frozen? ⟨g, i, none⟩ = false)) := fun W b => by
      obtain ⟨_, _, cur, hcur⟩ := row_kind (H.out.below b).row (g := g) (by rw [ES.out]; rfl)
      exact ⟨(b.cell (p := ⟨N, 0, none⟩) hN).trans c0, (b.cell (p := ⟨g, u * 3 + 1, none⟩) hgs).trans y1, (b.cell (p := ⟨g, u * 3 + 2, none⟩) hgs).trans y2, fun i => by simp [World.frozen?, hcur]⟩
    clear h hg hh esv eu en hLp hpn y0 y1 y2 c0
    by_cases h1 : s.size = 0
    · skip
      have e1 : freeP s p = (5, p) := by unfold freeP; rw [if_pos (.inl h1)]
      simp only [e1]
      rw [if_neg (by omega)]
      clear e1
      have hn1 : s.toList = [] := by rw [text_zero h1, ByteArray.toList_eq]
      clear h1
      obtain ⟨nm, amt, by_⟩ := p
      simp only at *
      go_enter Tryz.func33, Tryz.ntmps33
      go_wp2_with fail
      refine HF.mono ?_
      rintro e w1 ⟨rfl, b1⟩
      obtain ⟨k0, k1, k2, kf⟩ := HG.out w1 b1
      have B1 : Hid (Below w.heap.size w w1) := b1
      clear b1 HF
      go_wp2
      go_ret
      exact ⟨rfl, QTold.same H.out B1.out⟩
    have hne := text_nil_ne h1
    have hne2 := text_nil_beq h1
    by_cases h4 : p.by_ = s
    · skip
      have e1 : freeP s p = (0, ⟨p.nm, p.amt, ⟨#[]⟩⟩) := by unfold freeP; rw [if_neg (fun q => q.elim h1 (fun q => q h4))]
      have HFit : Hid (Fit (upd L ⟨p.nm, p.amt, ⟨#[]⟩⟩)) := H.out.fit.upd _ (by rw [HPN.out]; exact HH.out) ⟨hp1, hp2⟩ (by simp only; first | omega | (simp [ByteArray.size]))
      have HCE : Hid (cells3 (L.set u ⟨p.nm, p.amt, ⟨#[]⟩⟩) = (cells3 L).set (u * 3 + 2) (.string ⟨#[]⟩)) := by
        have := cells3_by L (under L t) HK.out ⟨#[]⟩
        rw [HLP.out] at this
        rw [EU.out] at this
        exact this
      simp only [e1, if_true]
      clear e1
      have hb3 : p.by_.toList = s.toList := by rw [h4]
      clear h4 h1
      obtain ⟨nm, amt, by_⟩ := p
      simp only at *
      go_enter Tryz.func33, Tryz.ntmps33
      go_wp2_with fail
      refine HF.mono ?_
      rintro e w1 ⟨rfl, b1⟩
      obtain ⟨k0, k1, k2, kf⟩ := HG.out w1 b1
      have B1 : Hid (Below w.heap.size w w1) := b1
      clear b1 HF
      go_wp2
      go_ret
      have := (H.out.below B1.out).turn1 (q := ⟨nm, amt, ⟨#[]⟩⟩) ES.out (HU.out.trans EU.out) HCE.out HFit.out
      first
      | exact ⟨rfl, this.after B1.out⟩
      | exact ⟨rfl, (this.after B1.out).drew⟩
    · skip
      have e1 : freeP s p = (5, p) := by unfold freeP; rw [if_pos (.inr h4)]
      simp only [e1]
      rw [if_neg (by omega)]
      clear e1
      have hb3 := text_ne' h4
      have hb4 := text_ne h4
      clear h4 h1
      obtain ⟨nm, amt, by_⟩ := p
      simp only at *
      go_enter Tryz.func33, Tryz.ntmps33
      go_wp2_with fail
      refine HF.mono ?_
      rintro e w1 ⟨rfl, b1⟩
      obtain ⟨k0, k1, k2, kf⟩ := HG.out w1 b1
      have B1 : Hid (Below w.heap.size w w1) := b1
      clear b1 HF
      go_wp2
      go_ret
      exact ⟨rfl, QTold.same H.out B1.out⟩
end
end Go.Proofs.YtdchnfggmkokhaaGreatDoor

namespace Go.Proofs.YtdchnfggmkokhaaGreatDoor
open Go.RowKit
attribute [local go_sem] Oper.semAt_some
set_option linter.unusedVariables false

set_option maxRecDepth 100000 in
set_option maxHeartbeats 1000000 in
theorem refName_any (s : ByteArray) (w : World) (hs : s.size ≤ maxLen) : Calls Tryz.prog 70 #[.string s] w fun e w' => e = .returned (.bool (nameOk s)) ∧ w' = w := by
  unfold maxLen at hs
  by_cases h1 : (s.size : Int) < 1
  · have HR : Hid (nameOk s = false) := by
      show nameOk s = false
      unfold nameOk; rw [decide_eq_false (by omega)]; rfl
    go_enter Tryz.func70, Tryz.ntmps70
    go_wp2
    go_ret
    exact ⟨ret_bool HR.out.symm, rfl⟩
  · by_cases h2 : (24 : Int) < (s.size : Int)
    · have HR : Hid (nameOk s = false) := by
        show nameOk s = false
        unfold nameOk; rw [decide_eq_false (p := s.size ≤ 24) (by omega)]; simp
      go_enter Tryz.func70, Tryz.ntmps70
      go_wp2
      go_ret
      exact ⟨ret_bool HR.out.symm, rfl⟩
    · have HN : Hid (nameOk s = s.data.toList.all okc) := by
        show nameOk s = _
        unfold nameOk; rw [decide_eq_true (p := 1 ≤ s.size) (by omega), decide_eq_true (p := s.size ≤ 24) (by omega)]; rfl
      go_enter Tryz.func70, Tryz.ntmps70
      go_wp2
      go_loop [3] (fun i => ∃ k : Nat, k ≤ s.size ∧ i = .int .i64 k ∧ Hid ((s.data.toList.take k).all okc = true)) (fun i => s.size - (intOf i).toNat)
      case atStart => exact ⟨0, Nat.zero_le _, rfl, rfl⟩
      case round =>
        obtain ⟨k, hk, rfl, I⟩ := hrel
        by_cases hlt : k < s.size
        · have HG : Hid (okc s[k] = true → (s.data.toList.take (k + 1)).all okc = true) := fun hc => by
            rw [take_snocB s k hlt, List.all_append, I.out]; simp [hc]
          have HB : Hid (okc s[k] = false → nameOk s = false) := fun hc => by
            rw [HN.out, List.all_eq_false]
            exact ⟨s[k], by show s.data[k]'hlt ∈ s.data.toList; simp, by simp [hc]⟩
          by_cases g1 : (97 : Int) ≤ (s[k].toNat : Int)
          · by_cases g2 : (s[k].toNat : Int) ≤ 122
            · skip
              have HO : Hid (okc s[k] = true) := by show okc s[k] = true; simp [okc]; omega
              go_wp2
              go_round
              case rel => exact ⟨k + 1, by omega, by go_num, HG.out HO.out⟩
              case measure => simp [intOf]; omega
            · skip
              have HO : Hid (okc s[k] = false) := by show okc s[k] = false; simp [okc]; omega
              have g3 : ¬ (s[k].toNat : Int) ≤ 57 := by omega
              have g4 : ((s[k].toNat : Int) == 95) = false := by simp; omega
              have g6 : (48 : Int) ≤ (s[k].toNat : Int) := by omega
              go_wp2
              go_ret
              exact ⟨ret_bool (HB.out HO.out).symm, rfl⟩
          · by_cases g2 : (48 : Int) ≤ (s[k].toNat : Int)
            · by_cases g3 : (s[k].toNat : Int) ≤ 57
              · skip
                have HO : Hid (okc s[k] = true) := by show okc s[k] = true; simp [okc]; omega
                go_wp2
                go_round
                case rel => exact ⟨k + 1, by omega, by go_num, HG.out HO.out⟩
                case measure => simp [intOf]; omega
              · by_cases g4 : (s[k].toNat : Int) = 95
                · skip
                  have HO : Hid (okc s[k] = true) := by show okc s[k] = true; simp [okc]; omega
                  go_wp2
                  go_round
                  case rel => exact ⟨k + 1, by omega, by go_num, HG.out HO.out⟩
                  case measure => simp [intOf]; omega
                · skip
                  have HO : Hid (okc s[k] = false) := by show okc s[k] = false; simp [okc]; omega
                  have g5 : ((s[k].toNat : Int) == 95) = false := by simpa using g4
                  go_wp2
                  go_ret
                  exact ⟨ret_bool (HB.out HO.out).symm, rfl⟩
            · skip
              have HO : Hid (okc s[k] = false) := by show okc s[k] = false; simp [okc]; omega
              have g5 : ((s[k].toNat : Int) == 95) = false := by simp; omega
              go_wp2
              go_ret
              exact ⟨ret_bool (HB.out HO.out).symm, rfl⟩
        · have HR : Hid (nameOk s = true) := by
            show nameOk s = true
            have := I.out
            rw [List.take_of_length_le (by simp; omega)] at this
            rw [HN.out, this]
          go_wp2
          go_ret
          exact ⟨ret_bool HR.out.symm, rfl⟩
/-- What is wrong of an operation. -/
def wrongV (k : Int) (fr to_ : ByteArray) (am : Int) (ky : ByteArray) (sl sh : Int) : Int :=
  if k < 1 ∨ 7 < k then 1 else if k = 6 then 0 else if k = 7 then (if sl < 0 ∨ 15 < sl ∨ sh < 1 ∨ 3 < sh then 1 else 0)
  else if nameOk fr = false then 46 else if k = 5 then 0 else if nameOk ky = false then 46 else if k = 1 then 0
  else if k = 4 ∧ nameOk to_ = false then 46 else if am < 1 then 47 else if k = 4 ∧ to_ = fr then 44 else 0
theorem seven (k : Int) (h1 : ¬ k < 1) (h2 : ¬ 7 < k) : k = 1 ∨ k = 2 ∨ k = 3 ∨ k = 4 ∨ k = 5 ∨ k = 6 ∨ k = 7 := by omega
end Go.Proofs.YtdchnfggmkokhaaGreatDoor

namespace Go.Proofs.YtdchnfggmkokhaaGreatDoor
open Go.RowKit
attribute [local go_sem] Oper.semAt_some
set_option linter.unusedVariables false

theorem accsAt_news {w : World} {a : Option Addr} {l : List Acc} (h : AccsAt w a l) (x : Addr) (hx : a = some x) : ∀ j v, (cells3 l)[j]? = some v → w.cell? (x.add j) = some v := fun j v hj => by
  have hj' : j < (cells3 l).length := (List.getElem?_eq_some_iff.1 hj).1
  rw [cells3_length] at hj'
  rcases h with h | ⟨g, o, e, hc⟩
  · subst h; simp at hj'
  · rw [hx] at e
    cases e
    obtain ⟨c0, c1, c2⟩ := hc (j / 3) (by omega)
    obtain ⟨d0, d1, d2⟩ := cells3_at l (j / 3) (by omega)
    rw [Addr.add_lit]
    rcases (show j = j / 3 * 3 ∨ j = j / 3 * 3 + 1 ∨ j = j / 3 * 3 + 2 by omega) with q | q | q
    · rw [q] at hj ⊢
      rw [d0] at hj
      rw [c0]
      exact hj
    · rw [q] at hj ⊢
      rw [d1] at hj
      rw [← Nat.add_assoc, c1]
      exact hj
    · rw [q] at hj ⊢
      rw [d2] at hj
      rw [← Nat.add_assoc, c2]
      exact hj
theorem run_append_q (ty : TypeId) (w : World) (base : Nat) (v : Value) (n : Nat) (es : List Acc) (hown : w.ownsRow base 89 3 v n (cells3 es)) (aa : Option Addr) (la ca : Nat) (fs : List Acc) (hla : la = fs.length) (hA : AccsAt w aa fs) (hnil : aa = none → ca = 0) (hb : n + la ≤ 1000) (hbase : base ≤ w.heap.size) :
    ∃ a' c' w', (Builtin.append_ #[26, 26] ty #[v, .slice aa la ca]).run Tryz.prog w = .ok (.slice a' (n + la) c') w' ∧ w'.ownsRow base 89 3 (.slice a' (n + la) c') (n + la) (cells3 (es ++ fs)) ∧ w.grownBy w' v.ownBlock ∧ (∀ k, (Value.slice a' (n + la) c').ownBlock = some k → v.ownBlock = some k ∨ w.heap.size ≤ k) := by
  obtain ⟨i0, hi, hz0, hz1, hz2⟩ := info_parts info_qacc
  cases aa with
  | none =>
    have hl0 : fs = [] := by
      rcases hA with h3 | ⟨b, off, h, _⟩
      · exact h3
      · cases h
    subst hl0
    subst hla
    rw [hnil rfl]
    have hr := run_append_owned_none (P := Tryz.prog) (w := w) base 26 ty 89 i0 3 Tryz.underlying26 hi v n _ hown
    obtain ⟨a, c, e, _⟩ := row_form hown
    subst e
    exact ⟨a, c, w, hr, by simpa using hown, ⟨rfl, rfl, rfl, Nat.le_refl _, fun _ _ _ => rfl⟩, fun k e => .inl e⟩
  | some x =>
    obtain ⟨v', w', hr, h1, h2, _, h5⟩ := run_append_own_at (P := Tryz.prog) w base 26 ty 89 i0 (.agg #[.string ⟨#[]⟩, .int .i64 0, .string ⟨#[]⟩]) 3 40 Tryz.underlying26 hi hz0 hz1 hz2 rfl (by omega) v n (cells3 es) hown x la ca (cells3 fs) (by rw [cells3_length, hla]) (accsAt_news hA x rfl) (one3 fs) (by unfold maxLen; omega) (by omega) hbase
    obtain ⟨a, c, e, _⟩ := row_form h1
    subst e
    exact ⟨a, c, w', hr, by rw [cells3_append]; exact h1, h2, fun k e => by
      rcases h5 with h5 | h5
      · exact .inl (h5.symm.trans e)
      · rw [h5] at e
        cases e
        exact .inr (Nat.le_refl _)⟩
theorem accsAt_take {w : World} {a : Option Addr} {l : List Acc} (h : AccsAt w a l) (i : Nat) : AccsAt w a (l.take i) := by
  rcases h with h | ⟨g, o, e, hc⟩
  · exact .inl (by rw [h]; simp)
  · refine .inr ⟨g, o, e, fun j hj => ?_⟩
    rw [List.length_take] at hj
    rw [List.getElem_take]
    exact hc j (by omega)
theorem accsAt_drop {w : World} {g cap : Nat} {l : List Acc} (h : AccsAt w (some ⟨g, 0, none⟩) l) (i : Nat) (hn : l.length ≤ cap) : AccsAt w (if cap = i then some ⟨g, 0, none⟩ else some ⟨g, i * 3, none⟩) (l.drop i) := by
  by_cases hd : l.drop i = []
  · exact .inl hd
  · have hi : i < l.length := by
      rcases Nat.lt_or_ge i l.length with q | q
      · exact q
      · exact absurd (List.drop_eq_nil_of_le q) hd
    rw [if_neg (by omega)]
    rcases h with h | ⟨g', o, e, hc⟩
    · rw [h] at hi; simp at hi
    · cases e
      refine .inr ⟨g, i * 3, rfl, fun j hj => ?_⟩
      rw [List.length_drop] at hj
      rw [List.getElem_drop]
      obtain ⟨c0, c1, c2⟩ := hc (i + j) (by omega)
      rw [Nat.zero_add, show (i + j) * 3 = i * 3 + j * 3 by omega] at c0 c1 c2
      exact ⟨c0, c1, c2⟩
section
variable {w : World} {base N : Nat} {sv : Value} {L : List Acc}
/-- The reference's book with a new row. -/
theorem RefB.fresh {w3 : World} {a3 : Option Addr} {c3 : Nat} {L' : List Acc} (h : RefB w base N sv L) (b : Below w.heap.size w w3) (o : w3.ownsRow base 89 3 (.slice a3 L'.length c3) L'.length (cells3 L')) (hs : ∀ k, (Value.slice a3 L'.length c3).ownBlock = some k → w.heap.size ≤ k) (hf : Fit L') : w3.cell? ⟨N, 0, none⟩ = some sv ∧ w3.frozen? ⟨N, 0, none⟩ = false ∧ QTold w (w3.setCell ⟨N, 0, none⟩ (.slice a3 L'.length c3)) base N sv L' := by
  have hN : w3.heap[N]? = some (.cells #[sv] 28 (0, 0)) := (b.block N h.ltN).trans h.hN
  have e := setCell_eq_setRow w3 N 0 _ _ _ (.slice a3 L'.length c3) hN
  refine ⟨by simp [World.cell?, hN], by simp [World.frozen?, hN], .slice a3 L'.length c3, ⟨?_, ?_, h.bN, hf⟩, ⟨?_, ?_, ?_, ?_, fun k hk h1 h2 => ?_⟩, fun k q => .inr (hs k q)⟩
  · rw [e]
    exact setRow_heap _ _ _ _ _ _ hN
  · rw [e]
    exact owns_kept o (fun g q => setRow_other _ _ _ _ (fun z => by have := hs g q; have := h.ltN; omega))
  · rw [e]; exact b.os
  · rw [e]; exact b.tape
  · rw [e]; exact b.output
  · rw [e]; simpa using b.size
  · rw [e, setRow_other _ _ _ _ h1]
    exact b.block k hk
theorem grown_below {w1 w2 : World} {r : Option Nat} (b : Below w.heap.size w w1) (g : w1.grownBy w2 r) (hr : ∀ k, r = some k → w.heap.size ≤ k) : Below w.heap.size w w2 :=
  b.grown g b.size hr
/-- The three appends of Put. -/
theorem put_runs {w1 : World} {a : Option Addr} {cap i : Nat} {q : Acc} (h : RefB w1 base N (.slice a L.length cap) L) (hl : L.length < 200) (hi : i ≤ L.length) :
    ∃ a1 c1 w2 a2 c2 w3,
      (Builtin.append_ #[26, 26] 26 #[.slice none 0 0, .slice a i cap]).run Tryz.prog w1 = .ok (.slice a1 i c1) w2 ∧ Below w1.heap.size w1 w2 ∧
      (Builtin.append_ #[26, 26] 26 #[.slice a1 i c1, .slice (some ⟨w2.heap.size, 0, none⟩) 1 1]).run Tryz.prog (w2.alloc (.cells #[.string q.nm, .int .i64 q.amt, .string q.by_] 89)) = .ok (.slice a2 (i + 1) c2) w3 ∧ Below w1.heap.size w1 w3 ∧
      (∀ sa, AccsAt w3 sa (L.drop i) → ∀ cs, (sa = none → cs = 0) → (∃ a3 c3 w4, (Builtin.append_ #[26, 26] 26 #[.slice a2 (i + 1) c2, .slice sa (L.length - i) cs]).run Tryz.prog w3 = .ok (.slice a3 (L.length + 1) c3) w4 ∧ Below w1.heap.size w1 w4 ∧ w4.ownsRow base 89 3 (.slice a3 (L.length + 1) c3) (L.length + 1) (cells3 (L.take i ++ q :: L.drop i)) ∧ ∀ k, (Value.slice a3 (L.length + 1) c3).ownBlock = some k → w1.heap.size ≤ k)) := by
  obtain ⟨a', c', e', hA, hnil⟩ := qrow_accs h.row rfl
  cases e'
  obtain ⟨a1, c1, w2, r1, o1, g1, s1⟩ := run_append_q 26 w1 base (.slice none 0 0) 0 [] (World.ownsRow_nil _ _ _ _) a i cap (L.take i) (by rw [List.length_take]; omega) (accsAt_take hA i) hnil (by omega) h.size
  rw [Nat.zero_add] at r1 o1 s1
  rw [List.nil_append] at o1
  have b2 : Below w1.heap.size w1 w2 := grown_below (Below.refl _ _) g1 (fun k e => by cases e)
  have k1 : ∀ k, (Value.slice a1 i c1).ownBlock = some k → w1.heap.size ≤ k := fun k e => (s1 k e).elim (fun q => by cases q) id
  have bA : Below w1.heap.size w1 (w2.alloc (.cells #[.string q.nm, .int .i64 q.amt, .string q.by_] 89)) := b2.alloc b2.size _
  have hnew := heap_alloc_new w2 (.cells #[.string q.nm, .int .i64 q.amt, .string q.by_] 89)
  obtain ⟨a2, c2, w3, r2, o2, g2, s2⟩ := run_append_q 26 (w2.alloc (.cells #[.string q.nm, .int .i64 q.amt, .string q.by_] 89)) base (.slice a1 i c1) i (L.take i) (owns_kept o1 (fun g e => Below.heap_alloc w2 _ g (row_kind o1 e).2.1)) (some ⟨w2.heap.size, 0, none⟩) 1 1 [q] rfl (.inr ⟨w2.heap.size, 0, rfl, fun j hj => by
    have hj0 : j = 0 := by simp at hj; omega
    subst hj0
    simp only [World.cell?, hnew]
    simp⟩) (fun e => by cases e) (by omega) (by have := h.size; have := bA.size; omega)
  have b3 : Below w1.heap.size w1 w3 := grown_below bA g2 k1
  have k2 : ∀ k, (Value.slice a2 (i + 1) c2).ownBlock = some k → w1.heap.size ≤ k := fun k e => (s2 k e).elim (k1 k) (fun q => Nat.le_trans bA.size q)
  refine ⟨a1, c1, w2, a2, c2, w3, r1, b2, r2, b3, fun sa hAs cs hcs => ?_⟩
  obtain ⟨a3, c3, w4, r3, o3, g3, s3⟩ := run_append_q 26 w3 base (.slice a2 (i + 1) c2) (i + 1) (L.take i ++ [q]) o2 sa (L.length - i) cs (L.drop i) (by rw [List.length_drop]) hAs hcs (by omega) (by have := h.size; have := b3.size; omega)
  rw [show i + 1 + (L.length - i) = L.length + 1 by omega] at r3 o3 s3
  rw [List.append_assoc] at o3
  exact ⟨a3, c3, w4, r3, grown_below b3 g3 k2, o3, fun k e => (s3 k e).elim (k2 k) (fun q => Nat.le_trans b3.size q)⟩
set_option maxRecDepth 100000 in
set_option maxHeartbeats 2000000 in
theorem qput_any (h : RefB w base N sv L) (t : ByteArray) (n : Int) (hn : -9223372036854775808 ≤ n ∧ n ≤ 9223372036854775807) (hs : t.size ≤ maxLen) :
    Calls Tryz.prog 35 #[.pointer (some ⟨N, 0, none⟩), .agg #[.string t, .int .i64 n]] w fun e w' => e = .returned (.int .i64 (putP L t n).1) ∧ QTold w w' base N sv (putP L t n).2 := by
  obtain ⟨w0, ew0⟩ : ∃ w0, w0 = w.alloc (.cells #[.string t, .int .i64 n] 50) := ⟨_, rfl⟩
  have B0 : Hid (Below w.heap.size w w0) := by
    show Below w.heap.size w w0
    rw [ew0]; exact (Below.refl _ w).alloc (Nat.le_refl _) _
  have hz : w.heap.size < w0.heap.size := by rw [ew0]; simp
  have HR : Hid (∀ W, Below w0.heap.size w0 W → W.cell? ⟨w.heap.size, 0, none⟩ = some (.string t) ∧ W.cell? ⟨w.heap.size, 1, none⟩ = some (.int .i64 n)) := fun W b => by
    refine ⟨(b.cell (p := ⟨w.heap.size, 0, none⟩) hz).trans ?_, (b.cell (p := ⟨w.heap.size, 1, none⟩) hz).trans ?_⟩ <;> (rw [ew0, World.cell?_alloc_mark]; rfl)
  have HF := qfind_any (h.below B0.out) t
  have HN := fun W => refName_any t W hs
  have H : Hid (RefB w base N sv L) := h
  obtain ⟨a, cap, esv, _⟩ := h.sv_form
  have ES : Hid (sv = .slice a L.length cap) := esv
  have HC : Hid (∀ W, Below w.heap.size w W → W.cell? ⟨N, 0, none⟩ = some (.slice a L.length cap)) := fun W b => by rw [← ES.out]; exact (H.out.below b).c0
  have hul := under_le L t
  have hl := h.fit.len
  have HHas : Hid (∀ b, hasN L t = b → hasN L t = b) := fun _ q => q
  have HNM : Hid (∀ b, nameOk t = b → nameOk t = b) := fun _ q => q
  have HFitI : Hid (nameOk t = true → ¬ n < 0 → hasN L t = false → L.length < 200 → Fit (ins L ⟨t, n, ⟨#[]⟩⟩)) := fun q1 q2 q3 q4 => H.out.fit.ins _ q3 q4 ⟨by simp only; omega, by simp only; omega⟩ q1 (by simp [ByteArray.size])
  have HU : Hid (under L t ≤ L.length) := hul
  unfold putP
  clear h esv
  cases hnm : nameOk t with
  | false =>
    rw [if_pos rfl]
    rw [hnm] at HN
    generalize hasN L t = hb at HF
    generalize under L t = u at HF hul
    clear hnm
    go_enter Tryz.func35, Tryz.ntmps35
    go_wp2_with fail
    rw [← ew0]
    refine HF.mono ?_
    rintro e w1 ⟨rfl, b1⟩
    obtain ⟨r0, r1⟩ := HR.out w1 b1
    have B1 : Hid (Below w.heap.size w w1) := B0.out.trans (b1.mono B0.out.size)
    clear b1 HF ew0
    go_wp2_with (go_at_call 70; refine (HN _).mono ?_; rintro e w' ⟨rfl, rfl⟩)
    go_ret
    exact ⟨rfl, QTold.same H.out B1.out⟩
  | true =>
    rw [if_neg (by simp)]
    rw [hnm] at HN
    by_cases h2 : n < 0
    · rw [if_pos h2]
      generalize hasN L t = hb at HF
      generalize under L t = u at HF hul
      clear hnm
      go_enter Tryz.func35, Tryz.ntmps35
      go_wp2_with fail
      rw [← ew0]
      refine HF.mono ?_
      rintro e w1 ⟨rfl, b1⟩
      obtain ⟨r0, r1⟩ := HR.out w1 b1
      have B1 : Hid (Below w.heap.size w w1) := B0.out.trans (b1.mono B0.out.size)
      clear b1 HF ew0
      go_wp2_with (go_at_call 70; refine (HN _).mono ?_; rintro e w' ⟨rfl, rfl⟩)
      go_ret
      exact ⟨rfl, QTold.same H.out B1.out⟩
    rw [if_neg h2]
    cases hhas : hasN L t with
    | true =>
      rw [if_pos rfl]
      rw [hhas] at HF
      generalize under L t = u at HF hul
      clear hnm hhas
      go_enter Tryz.func35, Tryz.ntmps35
      go_wp2_with fail
      rw [← ew0]
      refine HF.mono ?_
      rintro e w1 ⟨rfl, b1⟩
      obtain ⟨r0, r1⟩ := HR.out w1 b1
      have B1 : Hid (Below w.heap.size w w1) := B0.out.trans (b1.mono B0.out.size)
      clear b1 HF ew0
      go_wp2_with (go_at_call 70; refine (HN _).mono ?_; rintro e w' ⟨rfl, rfl⟩)
      go_ret
      exact ⟨rfl, QTold.same H.out B1.out⟩
    | false =>
      rw [if_neg (by simp)]
      rw [hhas] at HF
      by_cases h4 : 200 ≤ L.length
      · rw [if_pos h4]
        have h4' : (200 : Int) ≤ (L.length : Int) := by omega
        generalize under L t = u at HF hul
        clear hnm hhas
        go_enter Tryz.func35, Tryz.ntmps35
        go_wp2_with fail
        rw [← ew0]
        refine HF.mono ?_
        rintro e w1 ⟨rfl, b1⟩
        obtain ⟨r0, r1⟩ := HR.out w1 b1
        have B1 : Hid (Below w.heap.size w w1) := B0.out.trans (b1.mono B0.out.size)
        have k0 := HC.out w1 B1.out
        clear b1 HF ew0
        go_wp2_with (go_at_call 70; refine (HN _).mono ?_; rintro e w' ⟨rfl, rfl⟩)
        go_ret
        exact ⟨rfl, QTold.same H.out B1.out⟩
      · rw [if_neg h4]
        have h4' : ¬ (200 : Int) ≤ (L.length : Int) := by omega
        have HFit : Hid (Fit (ins L ⟨t, n, ⟨#[]⟩⟩)) := HFitI.out hnm h2 hhas (by omega)
        have HL4 : Hid (L.length < 200) := by show L.length < 200; omega
        clear hnm hhas HFitI
        go_enter Tryz.func35, Tryz.ntmps35
        go_wp2_with fail
        rw [← ew0]
        refine HF.mono ?_
        rintro e w1 ⟨rfl, b1⟩
        obtain ⟨r0, r1⟩ := HR.out w1 b1
        have B1 : Hid (Below w.heap.size w w1) := B0.out.trans (b1.mono B0.out.size)
        have B01 : Hid (Below w0.heap.size w0 w1) := b1
        have k0 := HC.out w1 B1.out
        have hR1 := H.out.below B1.out
        rw [ES.out] at hR1
        obtain ⟨a1, c1, w2, a2, c2, w3, x1, y2, x2, y3, x3⟩ := put_runs (q := ⟨t, n, ⟨#[]⟩⟩) hR1 HL4.out HU.out
        have Y2 : Hid (Below w1.heap.size w1 w2) := y2
        have Y3 : Hid (Below w1.heap.size w1 w3) := y3
        obtain ⟨r02, r12⟩ := HR.out w2 (B01.out.trans (y2.mono B01.out.size))
        have k2 := HC.out w2 (B1.out.trans (y2.mono B1.out.size))
        have k3 := HC.out w3 (B1.out.trans (y3.mono B1.out.size))
        clear y2 y3 b1 HF ew0
        cases a with
        | none =>
          obtain ⟨_, _, e9, h9, h10, _⟩ := row_form hR1.row
          injection e9 with e91 e92 e93
          subst e91 e93
          have hc0 := h9 rfl
          subst hc0
          have hL0 : L = [] := List.eq_nil_of_length_eq_zero (by omega)
          have hu0 : under L t = 0 := by rw [hL0]; rfl
          obtain ⟨a3, c3, w4, r3, y4, o3, s3⟩ := x3 none (.inl (by rw [hL0]; simp)) 0 (fun _ => rfl)
          have X1 : Hid _ := x1
          have X2 : Hid _ := x2
          have X3 : Hid _ := r3
          have HO : Hid (w4.ownsRow base 89 3 (.slice a3 (ins L ⟨t, n, ⟨#[]⟩⟩).length c3) (ins L ⟨t, n, ⟨#[]⟩⟩).length (cells3 (ins L ⟨t, n, ⟨#[]⟩⟩))) := by
            show w4.ownsRow base 89 3 (.slice a3 (ins L ⟨t, n, ⟨#[]⟩⟩).length c3) (ins L ⟨t, n, ⟨#[]⟩⟩).length (cells3 (ins L ⟨t, n, ⟨#[]⟩⟩))
            rw [ins_length]
            exact o3
          have B4 : Hid (Below w.heap.size w w4) := B1.out.trans (y4.mono B1.out.size)
          obtain ⟨z0, z1, z2⟩ := H.out.fresh B4.out HO.out (fun k e => by
            rw [ins_length] at e
            have := s3 k e
            have := B1.out.size
            omega) HFit.out
          have Z2 : Hid (QTold w (w4.setCell ⟨N, 0, none⟩ (.slice a3 (ins L ⟨t, n, ⟨#[]⟩⟩).length c3)) base N sv (ins L ⟨t, n, ⟨#[]⟩⟩)) := z2
          rw [ins_length] at z2 Z2
          rw [hu0] at X1 X2 X3
          have hll0 : L.length = 0 := by rw [hL0]; rfl
          rw [hll0] at X3 Z2
          rw [hu0]
          clear z2 x1 x2 x3 r3 y4 o3 s3 hR1 e92 h9 h10 hu0
          simp only [hll0] at k0 k2 k3
          clear hll0 hL0
          go_wp2_with (first | (go_at_call 70; refine (HN _).mono ?_; rintro e w' ⟨rfl, rfl⟩) | (at_builtin; refine wpList_append_known rfl (.tmp 33) (.tmp 39) 26 26 rfl _ _ rfl rfl _ _ X1.out ?_) | (at_builtin; refine wpList_append_known rfl (.tmp 41) (.tmp 47) 26 26 rfl _ _ rfl rfl _ _ X2.out ?_) | (at_builtin; refine wpList_append_known rfl (.tmp 49) (.tmp 55) 26 26 rfl _ _ rfl rfl _ _ X3.out ?_))
          all_goals
            go_ret
            exact ⟨rfl, Z2.out⟩
        | some x =>
          obtain ⟨_, _, e9, _, hnc, hcm, hx9⟩ := row_form hR1.row
          injection e9 with e91 e92 e93
          subst e91 e93
          have hx := (hx9 x rfl).1
          obtain ⟨g, xo, xs⟩ := x
          simp only [Addr.mk.injEq, true_and] at hx
          obtain ⟨rfl, rfl⟩ := hx
          obtain ⟨a', c', e', hA, _⟩ := qrow_accs hR1.row rfl
          cases e'
          obtain ⟨a3, c3, w4, r3, y4, o3, s3⟩ := x3 (if cap = under L t then some ⟨g, 0, none⟩ else some ⟨g, under L t * 3, none⟩) (accsAt_drop (hA.below Y3.out) (under L t) hnc) (cap - under L t) (fun e => by split at e <;> cases e)
          have X1 : Hid _ := x1
          have X2 : Hid _ := x2
          have X3 : Hid _ := r3
          have HO : Hid (w4.ownsRow base 89 3 (.slice a3 (ins L ⟨t, n, ⟨#[]⟩⟩).length c3) (ins L ⟨t, n, ⟨#[]⟩⟩).length (cells3 (ins L ⟨t, n, ⟨#[]⟩⟩))) := by
            show w4.ownsRow base 89 3 (.slice a3 (ins L ⟨t, n, ⟨#[]⟩⟩).length c3) (ins L ⟨t, n, ⟨#[]⟩⟩).length (cells3 (ins L ⟨t, n, ⟨#[]⟩⟩))
            rw [ins_length]
            exact o3
          have B4 : Hid (Below w.heap.size w w4) := B1.out.trans (y4.mono B1.out.size)
          obtain ⟨z0, z1, z2⟩ := H.out.fresh B4.out HO.out (fun k e => by
            rw [ins_length] at e
            have := s3 k e
            have := B1.out.size
            omega) HFit.out
          have Z2 : Hid (QTold w (w4.setCell ⟨N, 0, none⟩ (.slice a3 (ins L ⟨t, n, ⟨#[]⟩⟩).length c3)) base N sv (ins L ⟨t, n, ⟨#[]⟩⟩)) := z2
          rw [ins_length] at z2 Z2
          have hic : under L t ≤ cap := by omega
          clear z2 x1 x2 x3 r3 y4 o3 s3 hR1 hx9 hA e92
          generalize under L t = u at *
          obtain ⟨sa, esa⟩ : ∃ sa, (if cap = u then some (⟨g, 0, none⟩ : Addr) else some ⟨g, u * 3, none⟩) = sa := ⟨_, rfl⟩
          rw [esa] at X3
          go_wp2_with (first | (go_at_call 70; refine (HN _).mono ?_; rintro e w' ⟨rfl, rfl⟩) | (at_builtin; refine wpList_append_known rfl (.tmp 33) (.tmp 39) 26 26 rfl _ _ rfl rfl _ _ X1.out ?_) | (at_builtin; refine wpList_append_known rfl (.tmp 41) (.tmp 47) 26 26 rfl _ _ rfl rfl _ _ X2.out ?_) | (at_builtin; refine wpList_append_known rfl (.tmp 49) (.tmp 55) 26 26 rfl _ _ rfl rfl _ _ X3.out ?_))
          all_goals
            go_ret
            exact ⟨rfl, Z2.out⟩
set_option maxRecDepth 100000 in
theorem qopen_any (h : RefB w base N sv L) (t : ByteArray) (hs : t.size ≤ maxLen) :
    Calls Tryz.prog 25 #[.pointer (some ⟨N, 0, none⟩), .string t] w fun e w' => e = .returned (.int .i64 (putP L t 0).1) ∧ QTold w w' base N sv (putP L t 0).2 := by
  have HP := qput_any h t 0 (by omega) hs
  clear h
  go_enter Tryz.func25, Tryz.ntmps25
  go_wp2_with fail
  refine HP.mono ?_
  rintro e w1 ⟨rfl, ht⟩
  have HT : Hid (QTold w w1 base N sv (putP L t 0).2) := ht
  clear ht HP
  go_wp2
  go_ret
  exact ⟨rfl, HT.out⟩
end
end Go.Proofs.YtdchnfggmkokhaaGreatDoor
