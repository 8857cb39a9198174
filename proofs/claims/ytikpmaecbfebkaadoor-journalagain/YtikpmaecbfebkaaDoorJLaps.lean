/- JournalLaps. -/
import Derived.Test.YtikpmaecbfebkaaDoorJRing
import Derived.Test.YtikpmaecbfebkaaDoorJRoom
import Derived.Test.YtikpmaecbfebkaaDoorJKnown
import Derived.Test.YtikpmaecbfebkaaDoorJLAt
import Derived.Test.YtikpmaecbfebkaaDoorJCount
namespace Go.Proofs.YtikpmaecbfebkaaDoor
open Go.RowKit Go.Shelf
attribute [local go_sem] Oper.semAt_some
set_option linter.unusedVariables false

section
variable {w : World} {J D fr sz st nx : Nat} {dead : Bool}
set_option maxRecDepth 100000 in
set_option maxHeartbeats 800000 in
theorem trim_is (h : JAt w J D fr sz st nx dead) (s : Nat) (h1 : st ≤ s) (h2 : s ≤ nx) : Calls Tryd.prog 23 #[.pointer (some ⟨J, 0, none⟩), .int .i64 (s : Int)] w fun e w' => e = .returned (.int .i64 0) ∧ w' = w.setCell ⟨J, 3, none⟩ (.int .i64 (s : Int)) := by
  have c3 := h.cells.2.2.2.1
  have c4 := h.cells.2.2.2.2.1
  have f3 := h.cells.2.2.2.2.2.2 3
  have g1 : ¬ (s : Int) < (st : Int) := by omega
  have g2 : ¬ (nx : Int) < (s : Int) := by omega
  clear h h1 h2
  go_enter Tryd.func23, Tryd.ntmps23
  go_wp2
  go_ret
  exact ⟨rfl, rfl⟩
end
theorem my_trim {w0 w : World} {D J n : Nat} {d : DS} {fr sz st nx : Nat} (h : MyJ w0 w D J n d fr sz st nx) (s : Nat) (h1 : st ≤ s) (h2 : s ≤ nx) :
    Calls Tryd.prog 23 #[.pointer (some ⟨J, 0, none⟩), .int .i64 (s : Int)] w fun e w' => e = .returned (.int .i64 0) ∧ MyJ w0 w' D J n d fr sz s nx := by
  obtain ⟨m, e0, q, o, b0, j, nj, gj⟩ := h
  refine (trim_is j s h1 h2).mono ?_
  rintro e w' ⟨rfl, rfl⟩
  refine ⟨rfl, m, e0, q.same (fun k hk => Below.heap_setCell _ _ _ k (fun e => nj ((show k = J by simpa using e) ▸ hk))), o, b0.trans ((JOnly.set (m := m) (J := J) (i := 3) (w := w) (.int .i64 (s : Int))).low b0.size o gj), ?_, nj, gj⟩
  unfold JAt at j ⊢
  have := block_put j 3 (.int .i64 (s : Int))
  simpa using this

/-- The law's own journal: the records that stand in it, and how many there have been. -/
def LSt (w wr : World) (D J st nx k : Nat) (rs : List (List (BitVec 8))) (z : Nat) : Prop := ∃ d, MyJ w wr D J 10 d 0 10 st nx ∧ whyA d = 0 ∧ whyS d = 0 ∧ d.ws.length ≤ z ∧ Clear d 0 10 nx ∧ Stand d 0 10 st st rs nx ∧ 1 ≤ st ∧ nx ≤ 1 + 10 * k
section
variable {w wr : World} {D J st nx k z : Nat} {rs : List (List (BitVec 8))}
theorem LSt.bel (h : LSt w wr D J st nx k rs z) : Below w.heap.size w wr := by obtain ⟨d, h, _⟩ := h; exact h.bel
theorem LSt.ja (h : LSt w wr D J st nx k rs z) : JAt wr J D 0 10 st nx false := by obtain ⟨d, h, _⟩ := h; exact h.ja
theorem LSt.num (h : LSt w wr D J st nx k rs z) : 1 ≤ st ∧ st ≤ nx ∧ nx ≤ 1 + 10 * k := by obtain ⟨d, h, _, _, _, _, q, a, b⟩ := h; exact ⟨a, q.le, b⟩
theorem lst_trim (h : LSt w wr D J st nx k rs z) : Calls Tryd.prog 23 #[.pointer (some ⟨J, 0, none⟩), .int .i64 (nx : Int)] wr fun e w' => e = .returned (.int .i64 0) ∧ LSt w w' D J nx nx k [] z := by
  have hn := h.num
  obtain ⟨d, h, a1, a2, a3, a4, a5, a6, a7⟩ := h
  refine (my_trim h nx hn.2.1 (Nat.le_refl _)).mono ?_
  rintro e w' ⟨rfl, h'⟩
  exact ⟨rfl, d, h', a1, a2, a3, a4, rfl, by omega, a7⟩
theorem lst_append (h : LSt w wr D J nx nx k [] 0) (hT : Tabs w) (a : Option Addr) (cap : Nat) (b : List (BitVec 8)) (hS : Seen wr a b.length b) (hb : b.length ≤ 2000) (hk : k ≤ 1000) :
    Calls Tryd.prog 17 #[.pointer (some ⟨J, 0, none⟩), .slice a b.length cap] wr fun e w' => e = .returned (.int .i64 0) ∧ LSt w w' D J nx (nx + secs b.length) (k + 1) [b] 100 := by
  have hn := h.num
  obtain ⟨d, h, a1, a2, a3, a4, a5, a6, a7⟩ := h
  have hK : secs b.length ≤ 10 := by unfold secs; omega
  have hok : d.ok 10 := by obtain ⟨m, _, q, _⟩ := h; exact q.ok
  refine (my_append h a cap b hT hS (by omega) (by omega) (by omega) (by omega) (by omega) (by omega) (by omega) a1 (by omega)).mono ?_
  rintro e w' ⟨rfl, h'⟩
  obtain ⟨f1, f2, f3, f4⟩ := appD_flags 0 10 nx b d (secs b.length)
  refine ⟨rfl, _, h', ?_, ?_, by omega, a4.app hok.ln (by omega) (by omega) (by omega) (by omega) (by omega) hK (Nat.le_refl _), ?_, by omega, by omega⟩
  · unfold whyA at a1 ⊢; rw [f1, f2]; exact a1
  · unfold whyS at a2 ⊢; rw [f1, f3]; exact a2
  · have a5' : Stand d 0 10 nx nx [] nx := rfl
    exact a5'.app hok.ln (by omega) (by omega) (by omega) (by omega) (by omega) (by omega)
theorem sync_flags {d : DS} (h : whyS d = 0) : (syncD d).de = d.de ∧ (syncD d).fu = d.fu ∧ (syncD d).fa = d.fa ∧ (syncD d).ws = [] := by
  unfold whyS at h
  unfold syncD
  split at h
  · cases h
  · rename_i h1
    split at h
    · cases h
    · rename_i h2
      rw [if_neg h1, if_neg h2]
      exact ⟨rfl, rfl, rfl, rfl⟩
theorem lst_sync (h : LSt w wr D J st nx k rs z) : Calls Tryd.prog 18 #[.pointer (some ⟨J, 0, none⟩)] wr fun e w' => e = .returned (.int .i64 0) ∧ LSt w w' D J st nx k rs 0 := by
  obtain ⟨d, h, a1, a2, a3, a4, a5, a6, a7⟩ := h
  refine (my_sync h a2).mono ?_
  rintro e w' ⟨rfl, h'⟩
  obtain ⟨f1, f2, f3, f4⟩ := sync_flags a2
  refine ⟨rfl, _, h', ?_, ?_, by rw [f4]; exact Nat.le_refl _, a4.sync, a5.sync, a6, a7⟩
  · unfold whyA at a1 ⊢; rw [f1, f2]; exact a1
  · unfold whyS at a2 ⊢; rw [f1, f3]; exact a2
theorem lst_open (h : LSt w wr D J st nx k rs z) (hT : Tabs w) (hk : k ≤ 1000) :
    Calls Tryd.prog 16 #[.pointer (some ⟨D, 0, none⟩), .int .i64 0, .int .i64 10, .int .i64 (st : Int)] wr fun e w' => ∃ (xs : List GotJ) (a : Option Addr) (c : Nat), e = .returned (.tuple #[.pointer (some ⟨wr.heap.size, 0, none⟩), .slice a xs.length c, .int .i64 0]) ∧
      xs.map (·.l) = rs ∧ JAt w' wr.heap.size D 0 10 st nx false ∧ w'.ownsRow (wr.heap.size + 4) 22 1 (.slice a xs.length c) xs.length (xs.map (·.v)) ∧ (∀ x ∈ xs, IsRec w' x.v x.l) ∧ Below wr.heap.size wr w' := by
  have hn := h.num
  obtain ⟨d, h, a1, a2, a3, a4, a5, a6, a7⟩ := h
  have hO := my_open h.disk 0 10 st hT a6 (by omega) (by omega) (by omega) (fun xs hc hr s s1 s2 => a4 s (by rw [(ring_told hc hr a5 a4).2] at s1; exact s1))
  refine hO.mono ?_
  rintro e w' ⟨xs, a, c, rfl, hr, hc, hJ, ow, rs', b⟩
  obtain ⟨e1, e2⟩ := ring_told hc hr a5 a4
  rw [e2] at hJ
  exact ⟨xs, a, c, rfl, e1, hJ.ja, ow, rs', b⟩
end
/-- The last record that was appended. -/
def LastV (w : World) (v : Value) (rs : List (List (BitVec 8))) : Prop := rs = [] ∨ ∃ b a c, rs = [b] ∧ v = .slice a b.length c ∧ Seen w a b.length b
set_option maxRecDepth 100000 in
set_option maxHeartbeats 8000000 in
theorem laps_any (laps : Int) (la : Option Addr) (ln lc : Nat) (ps : List (List (BitVec 8))) (w : World) (hT : Tabs w) (hl : LAt w la ln ps) (h0 : -9223372036854775808 ≤ laps) (h1 : laps ≤ 9223372036854775807) :
    Calls Tryd.prog 7 #[.slice la ln lc, .int .i64 laps] w fun e w' => e = .returned (.bool true) ∧ Below w.heap.size w w' := by
  have HT : Hid (Tabs w) := hT
  have HL : Hid (LAt w la ln ps) := hl
  obtain ⟨C, eC⟩ : ∃ C : Nat, laps % 6 = (C : Int) := ⟨(laps % 6).toNat, by omega⟩
  have HCB : Hid (C ≤ 5) := by show _ ≤ _; omega
  have HC : ∀ W, Calls Tryd.prog 28 #[.int .i64 laps, .int .i64 6] W fun e w1 => e = .returned (.int .i64 (C : Int)) ∧ w1 = W := fun W => by rw [← eC]; exact count_any laps 6 W h0 h1 (by omega) (by omega)
  have wC : IntKind.i64.wrap ((1 : Int) + (C : Int)) = (C : Int) + 1 := by rw [IntKind.wrap_i64]; omega
  have HN : Calls Tryd.prog 15 #[.int .i64 10] w _ := my_new 10 w w (Below.refl _ _) (by omega) (by omega)
  clear hT hl h0 h1 eC
  go_enter Tryd.func7, Tryd.ntmps7
  go_wp2_with fail
  refine HN.mono ?_
  clear HN
  rintro e w1 ⟨D, rfl, hD, b1⟩
  have HO : Calls Tryd.prog 16 #[.pointer (some ⟨D, 0, none⟩), .int .i64 0, .int .i64 10, .int .i64 1] w1 _ := my_open hD 0 10 1 HT.out (by omega) (by omega) (by omega) (by omega) (fun xs _ _ s _ _ => new_bad _ _ _)
  clear hD b1
  go_wp2_with fail
  refine HO.mono ?_
  clear HO
  rintro e w2 ⟨xs, a, c, rfl, _, hc, hJ, _, _, _⟩
  obtain rfl := new_chain hc
  clear hc
  have hJ : MyJ w w2 D w1.heap.size 10 (newD 10) 0 10 1 1 := hJ
  obtain ⟨J, eJ⟩ : ∃ J, w1.heap.size = J := ⟨_, rfl⟩
  rw [eJ] at hJ
  rw [eJ]
  clear eJ
  have HJ : Hid (LSt w w2 D J 1 1 0 [] 0) := ⟨_, hJ, rfl, rfl, Nat.le_refl _, clear_new _ _ _ _, rfl, by omega, by omega⟩
  clear hJ
  go_wp2_with fail
  go_loopw [10, 11] (fun lv kv wr => ∃ (K st nx q : Nat) (rs : List (List (BitVec 8))) (lv' : Value), lv = lv' ∧ kv = .int .i64 (K : Int) ∧ Hid (K ≤ C + 1 ∧ q ≤ 20 * K) ∧ Hid (LSt w wr D J st nx q rs 0) ∧ Hid (LastV w lv' rs)) (fun _ kv _ => 7 - (intOf kv).toNat)
  case atStart => exact ⟨0, 1, 1, 0, [], _, rfl, rfl, ⟨by omega, by omega⟩, HJ.out, Or.inl rfl⟩
  case round =>
    clear HJ
    obtain ⟨K, st, nx, q, rs, lv', rfl, rfl, hk, hS, hV⟩ := hrel
    by_cases hlt : K < C + 1
    · have h1 : (K : Int) < (C : Int) + 1 := by omega
      have HK : Hid (K < C + 1) := hlt
      clear hlt
      have wK : IntKind.i64.wrap ((K : Int) + 1) = (K : Int) + 1 := by rw [IntKind.wrap_i64]; have := HK.out; have := HCB.out; omega
      go_wp2_with fail
      refine (HC _).mono ?_
      rintro e w3 ⟨rfl, hw⟩
      subst w3
      try rw [wC]
      go_wp2_with fail
      obtain ⟨wo, rfl⟩ : ∃ wo : World, wo = wr := ⟨_, rfl⟩
      go_loopw [10, 12] (fun lv iv wr => ∃ (i st nx q : Nat) (rs : List (List (BitVec 8))) (lv' : Value), lv = lv' ∧ iv = .int .i64 (i : Int) ∧ Hid (i ≤ 20 ∧ i ≤ ps.length ∧ q ≤ 20 * K + i) ∧ Hid (LSt w wr D J st nx q rs 0) ∧ Hid (LastV w lv' rs)) (fun _ iv _ => 20 - (intOf iv).toNat)
      case atStart => exact ⟨0, st, nx, q, rs, _, rfl, rfl, ⟨by omega, by omega, by have := hk.out; omega⟩, hS.out, hV.out⟩
      case round =>
        clear hS hV hk
        obtain ⟨i, st, nx, q, rs, lv', rfl, rfl, hi, hS, hV⟩ := hrel
        have hln : ln = ps.length := HL.out.1
        by_cases hlt : i < ps.length ∧ i < 20
        · obtain ⟨b, off, rfl, hcell⟩ : ∃ b off, la = some ⟨b, off, none⟩ ∧ ∀ j (hj : j < ps.length), ∃ a' c', w.cell? ⟨b, off + j, none⟩ = some (.slice a' ps[j].length c') ∧ Seen w a' ps[j].length ps[j] ∧ (a' = none → c' = 0) := by
            rcases HL.out.2 with h | h
            · omega
            · exact h
          obtain ⟨p, hpk⟩ : ∃ p, ps[i] = p := ⟨_, rfl⟩
          have hcellk := hcell i hlt.1
          rw [hpk] at hcellk
          obtain ⟨a', c', e1, e2, e3⟩ := hcellk
          have h1 : (i : Int) < (ln : Int) := by omega
          have h2 : (i : Int) < 20 := by omega
          have hkl : i < ln := by omega
          have E1 : Hid (w.cell? ⟨b, off + i, none⟩ = some (.slice a' p.length c')) := e1
          have E2 : Hid (Seen w a' p.length p) := e2
          have HI : Hid (i < ps.length ∧ i < 20) := hlt
          clear hpk hlt hcell e1 e2 e3 hln
          have d0 : wr.cell? ⟨b, off + i, none⟩ = some (.slice a' p.length c') := by rw [hS.out.bel.cell (p := ⟨b, off + i, none⟩) (World.block_lt_of_cell? w _ E1.out)]; exact E1.out
          have wi : IntKind.i64.wrap ((i : Int) + 1) = (i : Int) + 1 := by rw [IntKind.wrap_i64]; have := HI.out; omega
          by_cases hp : p.length ≤ 2000
          · have hp1 : ¬ (2000 < (p.length : Int)) := by omega
            have HP : Hid (p.length ≤ 2000) := hp
            clear hp
            have HX := next_any hS.out.ja
            have HQ : Hid (q ≤ 1000) := by show q ≤ 1000; have := hi.out; have := HK.out; have := HCB.out; omega
            go_wp2_with fail
            refine HX.mono ?_
            clear HX
            rintro e w3 ⟨rfl, hw⟩
            subst w3
            go_wp2_with fail
            refine (lst_trim hS.out).mono ?_
            rintro e w3 ⟨rfl, r3⟩
            have R3 : Hid (LSt w w3 D J nx nx q [] 0) := r3
            have d3 : w3.cell? ⟨b, off + i, none⟩ = some (.slice a' p.length c') := by rw [r3.bel.cell (p := ⟨b, off + i, none⟩) (World.block_lt_of_cell? w _ E1.out)]; exact E1.out
            clear r3 d0
            go_wp2_with fail
            refine (lst_append R3.out HT.out a' c' p (E2.out.below R3.out.bel) HP.out HQ.out).mono ?_
            rintro e w4 ⟨rfl, r4⟩
            have R4 : Hid (LSt w w4 D J nx (nx + secs p.length) (q + 1) [p] 100) := r4
            clear r4 d3 R3
            go_wp2_with fail
            refine (lst_sync R4.out).mono ?_
            rintro e w5 ⟨rfl, r5⟩
            have R5 : Hid (LSt w w5 D J nx (nx + secs p.length) (q + 1) [p] 0) := r5
            have d5 : w5.cell? ⟨b, off + i, none⟩ = some (.slice a' p.length c') := by rw [r5.bel.cell (p := ⟨b, off + i, none⟩) (World.block_lt_of_cell? w _ E1.out)]; exact E1.out
            have HXs := start_any r5.ja
            have HXn := next_any r5.ja
            have hs1 : 1 ≤ secs p.length := by unfold secs; omega
            have hgt : ¬ (((nx + secs p.length : Nat) : Int) ≤ (nx : Int)) := by omega
            clear hs1
            obtain ⟨N2, eN2⟩ : ∃ N2, nx + secs p.length = N2 := ⟨_, rfl⟩
            rw [eN2] at HXn hgt
            clear r5 R4
            go_wp2_with fail
            refine HXs.mono ?_
            clear HXs
            rintro e w6 ⟨rfl, hw⟩
            subst w6
            go_wp2_with fail
            refine HXn.mono ?_
            clear HXn
            rintro e w6 ⟨rfl, hw⟩
            subst w6
            clear eN2
            go_wp2
            go_roundw
            case rel => exact ⟨i + 1, nx, nx + secs p.length, q + 1, [p], _, rfl, rfl, ⟨by have := HI.out; omega, by have := HI.out; omega, by have := hi.out; omega⟩, R5.out, Or.inr ⟨p, a', c', rfl, rfl, E2.out⟩⟩
            case measure => exact less_by HI.out.2
          · have hp1 : 2000 < (p.length : Int) := by omega
            clear hp
            go_wp2
            go_roundw
            case rel => exact ⟨i + 1, st, nx, q, rs, _, rfl, rfl, ⟨by have := HI.out; omega, by have := HI.out; omega, by have := hi.out; omega⟩, hS.out, hV.out⟩
            case measure => exact less_by HI.out.2
        · by_cases hi2 : i < ps.length
          · have h1 : (i : Int) < (ln : Int) := by omega
            have h2 : ¬ ((i : Int) < 20) := by omega
            clear hlt hi2 hln
            go_wp2
            go_roundw
            case rel => exact ⟨K + 1, st, nx, q, rs, _, rfl, rfl, ⟨by have := HK.out; omega, by have := hi.out; omega⟩, hS.out, hV.out⟩
            case measure => exact less_by (show K < 7 by have := HK.out; have := HCB.out; omega)
          · have h1 : ¬ ((i : Int) < (ln : Int)) := by omega
            clear hlt hi2 hln
            go_wp2
            go_roundw
            case rel => exact ⟨K + 1, st, nx, q, rs, _, rfl, rfl, ⟨by have := HK.out; omega, by have := hi.out; omega⟩, hS.out, hV.out⟩
            case measure => exact less_by (show K < 7 by have := HK.out; have := HCB.out; omega)
    · have h1 : ¬ ((K : Int) < (C : Int) + 1) := by omega
      have h2 : ¬ ((K : Int) ≤ (C : Int)) := by omega
      have h3 : ¬ (K ≤ C) := by omega
      have h4 : ¬ (K < C + 1) := by omega
      have HQ : Hid (q ≤ 1000) := by show q ≤ 1000; have := hk.out; have := HCB.out; omega
      clear hlt
      go_wp2_with fail
      refine (HC _).mono ?_
      rintro e w3 ⟨rfl, hw⟩
      subst w3
      try rw [wC]
      clear HC
      have HXs := start_any hS.out.ja
      go_wp2_with fail
      refine HXs.mono ?_
      clear HXs
      rintro e w3 ⟨rfl, hw⟩
      subst w3
      go_wp2_with fail
      refine (lst_open hS.out HT.out HQ.out).mono ?_
      rintro e w8 ⟨xs, a8, c8, rfl, hxs, j8, ow, rs8, b8⟩
      have B8 : Hid (Below w.heap.size w w8) := hS.out.bel.trans (b8.mono hS.out.bel.size)
      have JJ : Hid (JAt w8 J D 0 10 st nx false) := hS.out.ja.below b8
      have J8' : Hid (JAt w8 wr.heap.size D 0 10 st nx false) := j8
      obtain ⟨J8, eJ8⟩ : ∃ J8, wr.heap.size = J8 := ⟨_, rfl⟩
      rw [eJ8] at J8' ow
      rw [eJ8]
      have HXs := start_any JJ.out
      have HXn := next_any JJ.out
      have ST : Hid (1 ≤ st ∧ st ≤ nx ∧ nx ≤ 1 + 10 * q) := hS.out.num
      have TB : Hid (Tabs w8) := HT.out.below B8.out HT.out.size
      have SS : Hid (∃ d, Stand d 0 10 st st rs nx) := by obtain ⟨d, _, _, _, _, _, x, _⟩ := hS.out; exact ⟨d, x⟩
      clear eJ8 b8 j8 hS
      go_wp2_with fail
      refine HXn.mono ?_
      clear HXn
      rintro e w9 ⟨rfl, hw⟩
      subst w9
      go_wp2_with fail
      refine HXs.mono ?_
      clear HXs
      rintro e w9 ⟨rfl, hw⟩
      subst w9
      rcases hV.out with e0 | ⟨b, a2, c2, e0, e1, sb⟩
      · obtain rfl : xs = [] := by rw [e0] at hxs; exact List.map_eq_nil_iff.1 hxs
        have hx0 : nx = st := by obtain ⟨d, x⟩ := SS.out; rw [e0] at x; exact x.symm
        subst hx0
        clear e0 hxs ow rs8 hV
        have n0 : ((nx : Int) == (nx : Int)) = true := by simp
        go_wp2_with fail
        refine (knownJ_any _ TB.out).mono ?_
        rintro e w9 ⟨rfl, b9⟩
        have B9 : Hid (Below w.heap.size w w9) := B8.out.trans (b9.mono B8.out.size)
        clear b9
        go_wp2
        go_ret
        exact ⟨rfl, B9.out⟩
      · subst e1
        rw [e0] at hxs
        cases xs with
        | nil => cases hxs
        | cons x xs =>
          obtain ⟨hx1, hx2⟩ : x.l = b ∧ xs = [] := by
            rw [List.map_cons] at hxs
            injection hxs with u1 u2
            exact ⟨u1, List.map_eq_nil_iff.1 u2⟩
          subst hx2
          have r1 := rs8 x (by simp)
          rw [hx1] at r1
          obtain ⟨g1, o1, c1, v1, sn1, _, _⟩ := r1
          have ow' : w8.ownsRow (J8 + 4) 22 1 (.slice a8 1 c8) 1 [x.v] := ow
          rw [v1] at ow'
          obtain ⟨g8, c8', e8, _, _⟩ := ow'.form (by omega)
          cases e8
          have q0 := ow'.cellAt 0 (by omega)
          have hne : st < nx := by
            obtain ⟨d, x⟩ := SS.out
            rw [e0] at x
            obtain ⟨m, y1, y2⟩ := x
            have := (recAt_num y1).1
            have : m = nx := y2
            omega
          have n0 : ((nx : Int) == (st : Int)) = false := by simp; omega
          have n1 : ¬ (nx : Int) = (st : Int) := by omega
          have n2 : ((nx : Int) == (nx : Int)) = true := by simp
          have tb := text_self (textOf b)
          have CELL : ∀ X, Below w8.heap.size w8 X → Hid (X.cell? ⟨g8, 0, none⟩ = some (.slice (some ⟨g1, o1, none⟩) b.length c1)) := fun X h => by
            show X.cell? _ = _
            rw [h.cell (p := ⟨g8, 0, none⟩) (World.block_lt_of_cell? w8 _ (by simpa using q0))]
            simpa using q0
          have T1 : ∀ X, Below w8.heap.size w8 X → Hid ((convert 22 9 (.slice (some ⟨g1, o1, none⟩) b.length c1)).run Tryd.prog X = .ok (.string (textOf b)) X) := fun X h => run_to_text X _ _ _ b (sn1.below h)
          have T2 : ∀ X, Below w8.heap.size w8 X → Hid ((convert 22 9 (.slice a2 b.length c2)).run Tryd.prog X = .ok (.string (textOf b)) X) := fun X h => run_to_text X _ _ _ b ((sb.below B8.out).below h)
          have NX8 : Hid (∀ X, Below w8.heap.size w8 X → Calls Tryd.prog 25 #[.pointer (some ⟨J8, 0, none⟩)] X fun e w' => e = .returned (.int .i64 (nx : Int)) ∧ w' = X) := fun X h => next_any (J8'.out.below h)
          have NXJ : Hid (∀ X, Below w8.heap.size w8 X → Calls Tryd.prog 25 #[.pointer (some ⟨J, 0, none⟩)] X fun e w' => e = .returned (.int .i64 (nx : Int)) ∧ w' = X) := fun X h => next_any (JJ.out.below h)
          have KN : Hid (∀ X, Below w8.heap.size w8 X → Calls Tryd.prog 11 #[] X fun e w' => e = .returned (.bool true) ∧ Below w8.heap.size w8 w') := fun X h => (knownJ_any X (TB.out.below h TB.out.size)).mono fun e w' hh => ⟨hh.1, h.trans (hh.2.mono h.size)⟩
          obtain ⟨B, eB⟩ : ∃ B, b.length = B := ⟨_, rfl⟩
          rw [eB] at CELL T1 T2
          rw [eB]
          simp only [List.length_cons, List.length_nil, Nat.zero_add]
          clear q0 ow' ow rs8 hxs v1 sn1 sb hV eB e0 hx1 hne
          go_wp2_with fail
          (first
          | (
            refine wp_region_held_drew (S := fun X => Below w8.heap.size w8 X) (by kernel_rfl) (Below.refl _ w8).drew (fun hHeld => ?_)
            refine take_run (i := 0) (oi := { dst := some 121, op := Go.Op.move (Go.Operand.tmp 15), type := 31, pos := "law.go:247", after := #[], guard := none }) (v := .slice (some ⟨g8, 0, none⟩) 1 c8) rfl (by kernel_rfl) (by kernel_rfl) (by kernel_rfl) (fun _ _ _ h => h) (by rfl) ?_ hHeld ?_
            · (intro wq hSw; go_simp <;> with_reducible rfl)
            try simp only [Act.put, List.setIfInBounds_toArray, List.set_cons_zero, List.set_cons_succ]
            refine take_run (i := 1) (oi := { dst := some 122, op := Go.Op.call { callee := Go.Callee.builtin Go.Builtin.len, args := #[Go.Operand.tmp 121], argTypes := #[31] }, type := 3, pos := "law.go:247", after := #[{ on := 0, ground := Go.Ground.data }], guard := none }) (v := .int .i64 1) rfl (by kernel_rfl) (by kernel_rfl) (by kernel_rfl) (fun _ _ _ h => h) (by rfl) ?_ hHeld ?_
            · (intro wq hSw; go_simp <;> with_reducible rfl)
            try simp only [Act.put, List.setIfInBounds_toArray, List.set_cons_zero, List.set_cons_succ]
            refine take_run (i := 2) (oi := { dst := some 123, op := Go.Op.binOp Go.BinOp.eql 3 (Go.Operand.tmp 122) (Go.Operand.const (Go.Value.int Go.IntKind.i64 1)) 3, type := 4, pos := "law.go:247", after := #[{ on := 1, ground := Go.Ground.data }], guard := none }) (v := .bool true) rfl (by kernel_rfl) (by kernel_rfl) (by kernel_rfl) (fun _ _ _ h => h) (by rfl) ?_ hHeld ?_
            · (intro wq hSw; go_simp <;> with_reducible rfl)
            try simp only [Act.put, List.setIfInBounds_toArray, List.set_cons_zero, List.set_cons_succ]
            refine take_run (i := 3) (oi := { dst := some 124, op := Go.Op.move (Go.Operand.tmp 123), type := 4, pos := "law.go:247", after := #[{ on := 2, ground := Go.Ground.data }], guard := none }) (v := .bool true) rfl (by kernel_rfl) (by kernel_rfl) (by kernel_rfl) (fun _ _ _ h => h) (by rfl) ?_ hHeld ?_
            · (intro wq hSw; go_simp <;> with_reducible rfl)
            try simp only [Act.put, List.setIfInBounds_toArray, List.set_cons_zero, List.set_cons_succ]
            refine take_run (i := 4) (oi := { dst := some 125, op := Go.Op.move (Go.Operand.tmp 15), type := 31, pos := "law.go:247", after := #[{ on := 3, ground := Go.Ground.guard }], guard := some (3, true) }) (v := .slice (some ⟨g8, 0, none⟩) 1 c8) rfl (by kernel_rfl) (by kernel_rfl) (by kernel_rfl) (fun _ _ _ h => h) (by rfl) ?_ hHeld ?_
            · (intro wq hSw; go_simp <;> with_reducible rfl)
            try simp only [Act.put, List.setIfInBounds_toArray, List.set_cons_zero, List.set_cons_succ]
            refine take_run (i := 5) (oi := { dst := some 126, op := Go.Op.indexAddr 31 (Go.Operand.tmp 125) (Go.Operand.const (Go.Value.int Go.IntKind.i64 0)), type := 0, pos := "law.go:247", after := #[{ on := 4, ground := Go.Ground.data }, { on := 3, ground := Go.Ground.guard }], guard := some (3, true) }) (v := .pointer (some ⟨g8, 0, none⟩)) rfl (by kernel_rfl) (by kernel_rfl) (by kernel_rfl) (fun _ _ _ h => h) (by rfl) ?_ hHeld ?_
            · (intro wq hSw; go_simp <;> with_reducible rfl)
            try simp only [Act.put, List.setIfInBounds_toArray, List.set_cons_zero, List.set_cons_succ]
            refine take_run (i := 6) (oi := { dst := some 127, op := Go.Op.load 22 (Go.Operand.tmp 126), type := 22, pos := "law.go:247", after := #[{ on := 5, ground := Go.Ground.data }, { on := 3, ground := Go.Ground.guard }], guard := some (3, true) }) (v := .slice (some ⟨g1, o1, none⟩) B c1) rfl (by kernel_rfl) (by kernel_rfl) (by kernel_rfl) (fun _ _ _ h => h) (by rfl) ?_ hHeld ?_
            · (intro wq hSw; have cc := (CELL _ hSw).out; go_simp <;> with_reducible rfl)
            try simp only [Act.put, List.setIfInBounds_toArray, List.set_cons_zero, List.set_cons_succ]
            refine take_run (i := 7) (oi := { dst := some 128, op := Go.Op.convert 22 9 (Go.Operand.tmp 127), type := 9, pos := "law.go:247", after := #[{ on := 6, ground := Go.Ground.data }, { on := 3, ground := Go.Ground.guard }], guard := some (3, true) }) (v := .string (textOf b)) rfl (by kernel_rfl) (by kernel_rfl) (by kernel_rfl) (fun _ _ _ h => h) (by rfl) ?_ hHeld ?_
            · (intro wq hSw; have cc := (T1 _ hSw).out; go_simp <;> with_reducible rfl)
            try simp only [Act.put, List.setIfInBounds_toArray, List.set_cons_zero, List.set_cons_succ]
            refine take_run (i := 8) (oi := { dst := some 129, op := Go.Op.move (Go.Operand.tmp 10), type := 22, pos := "law.go:247", after := #[{ on := 3, ground := Go.Ground.guard }], guard := some (3, true) }) (v := .slice a2 B c2) rfl (by kernel_rfl) (by kernel_rfl) (by kernel_rfl) (fun _ _ _ h => h) (by rfl) ?_ hHeld ?_
            · (intro wq hSw; go_simp <;> with_reducible rfl)
            try simp only [Act.put, List.setIfInBounds_toArray, List.set_cons_zero, List.set_cons_succ]
            refine take_run (i := 9) (oi := { dst := some 130, op := Go.Op.convert 22 9 (Go.Operand.tmp 129), type := 9, pos := "law.go:247", after := #[{ on := 8, ground := Go.Ground.data }, { on := 3, ground := Go.Ground.guard }], guard := some (3, true) }) (v := .string (textOf b)) rfl (by kernel_rfl) (by kernel_rfl) (by kernel_rfl) (fun _ _ _ h => h) (by rfl) ?_ hHeld ?_
            · (intro wq hSw; have cc := (T2 _ hSw).out; go_simp <;> with_reducible rfl)
            try simp only [Act.put, List.setIfInBounds_toArray, List.set_cons_zero, List.set_cons_succ]
            refine take_run (i := 10) (oi := { dst := some 131, op := Go.Op.binOp Go.BinOp.eql 9 (Go.Operand.tmp 128) (Go.Operand.tmp 130) 9, type := 4, pos := "law.go:247", after := #[{ on := 7, ground := Go.Ground.data }, { on := 9, ground := Go.Ground.data }, { on := 3, ground := Go.Ground.guard }], guard := some (3, true) }) (v := .bool true) rfl (by kernel_rfl) (by kernel_rfl) (by kernel_rfl) (fun _ _ _ h => h) (by rfl) ?_ hHeld ?_
            · (intro wq hSw; go_simp <;> with_reducible rfl)
            try simp only [Act.put, List.setIfInBounds_toArray, List.set_cons_zero, List.set_cons_succ]
            refine take_run (i := 11) (oi := { dst := some 132, op := Go.Op.pick (Go.Operand.tmp 124) (Go.Operand.tmp 131) (Go.Operand.const (Go.Value.bool false)), type := 4, pos := "law.go:247", after := #[{ on := 3, ground := Go.Ground.data }, { on := 10, ground := Go.Ground.data }], guard := none }) (v := .bool true) rfl (by kernel_rfl) (by kernel_rfl) (by kernel_rfl) (fun _ _ _ h => h) (by rfl) ?_ hHeld ?_
            · (intro wq hSw; go_simp <;> with_reducible rfl)
            try simp only [Act.put, List.setIfInBounds_toArray, List.set_cons_zero, List.set_cons_succ]
            refine take_run (i := 12) (oi := { dst := some 133, op := Go.Op.move (Go.Operand.tmp 132), type := 4, pos := "law.go:247", after := #[{ on := 11, ground := Go.Ground.data }, { on := 3, ground := Go.Ground.chain }], guard := none }) (v := .bool true) rfl (by kernel_rfl) (by kernel_rfl) (by kernel_rfl) (fun _ _ _ h => h) (by rfl) ?_ hHeld ?_
            · (intro wq hSw; go_simp <;> with_reducible rfl)
            try simp only [Act.put, List.setIfInBounds_toArray, List.set_cons_zero, List.set_cons_succ]
            refine take_run (i := 13) (oi := { dst := some 134, op := Go.Op.move (Go.Operand.tmp 14), type := 37, pos := "law.go:247", after := #[{ on := 12, ground := Go.Ground.guard }], guard := some (12, true) }) (v := .pointer (some ⟨J8, 0, none⟩)) rfl (by kernel_rfl) (by kernel_rfl) (by kernel_rfl) (fun _ _ _ h => h) (by rfl) ?_ hHeld ?_
            · (intro wq hSw; go_simp <;> with_reducible rfl)
            try simp only [Act.put, List.setIfInBounds_toArray, List.set_cons_zero, List.set_cons_succ]
            refine take_run (i := 15) (oi := { dst := some 136, op := Go.Op.move (Go.Operand.tmp 7), type := 37, pos := "law.go:247", after := #[{ on := 12, ground := Go.Ground.guard }], guard := some (12, true) }) (v := .pointer (some ⟨J, 0, none⟩)) rfl (by kernel_rfl) (by kernel_rfl) (by kernel_rfl) (fun _ _ _ h => h) (by rfl) ?_ hHeld ?_
            · (intro wq hSw; go_simp <;> with_reducible rfl)
            try simp only [Act.put, List.setIfInBounds_toArray, List.set_cons_zero, List.set_cons_succ]
            refine take_call (i := 14) (oi := { dst := some 135, op := Go.Op.call { callee := Go.Callee.value (Go.Operand.func 25), args := #[Go.Operand.tmp 134], argTypes := #[37] }, type := 2, pos := "law.go:247", after := #[{ on := 13, ground := Go.Ground.data }, { on := 12, ground := Go.Ground.chain }, { on := 12, ground := Go.Ground.guard }], guard := some (12, true) }) rfl (by kernel_rfl) (by rfl) 25 _ (by go_simp <;> with_reducible rfl) ?_
            refine (NX8.out _ hHeld).mono ?_
            rintro e wq ⟨rfl, hq⟩
            refine ⟨.int .i64 (nx : Int), rfl, by rw [hq]; exact hHeld, ?_⟩
            try simp only [Act.put, List.setIfInBounds_toArray, List.set_cons_zero, List.set_cons_succ]
            rw [hq]
            clear hq
            refine take_call (i := 16) (oi := { dst := some 137, op := Go.Op.call { callee := Go.Callee.value (Go.Operand.func 25), args := #[Go.Operand.tmp 136], argTypes := #[37] }, type := 2, pos := "law.go:247", after := #[{ on := 15, ground := Go.Ground.data }, { on := 14, ground := Go.Ground.chain }, { on := 12, ground := Go.Ground.guard }], guard := some (12, true) }) rfl (by kernel_rfl) (by rfl) 25 _ (by go_simp <;> with_reducible rfl) ?_
            refine (NXJ.out _ hHeld).mono ?_
            rintro e wq ⟨rfl, hq⟩
            refine ⟨.int .i64 (nx : Int), rfl, by rw [hq]; exact hHeld, ?_⟩
            try simp only [Act.put, List.setIfInBounds_toArray, List.set_cons_zero, List.set_cons_succ]
            rw [hq]
            clear hq
            refine take_run (i := 17) (oi := { dst := some 138, op := Go.Op.binOp Go.BinOp.eql 2 (Go.Operand.tmp 135) (Go.Operand.tmp 137) 2, type := 4, pos := "law.go:247", after := #[{ on := 14, ground := Go.Ground.data }, { on := 16, ground := Go.Ground.data }, { on := 12, ground := Go.Ground.guard }], guard := some (12, true) }) (v := .bool true) rfl (by kernel_rfl) (by kernel_rfl) (by kernel_rfl) (fun _ _ _ h => h) (by rfl) ?_ hHeld ?_
            · (intro wq hSw; go_simp <;> with_reducible rfl)
            try simp only [Act.put, List.setIfInBounds_toArray, List.set_cons_zero, List.set_cons_succ]
            refine take_run (i := 18) (oi := { dst := some 139, op := Go.Op.pick (Go.Operand.tmp 133) (Go.Operand.tmp 138) (Go.Operand.const (Go.Value.bool false)), type := 4, pos := "law.go:247", after := #[{ on := 12, ground := Go.Ground.data }, { on := 17, ground := Go.Ground.data }], guard := none }) (v := .bool true) rfl (by kernel_rfl) (by kernel_rfl) (by kernel_rfl) (fun _ _ _ h => h) (by rfl) ?_ hHeld ?_
            · (intro wq hSw; go_simp <;> with_reducible rfl)
            try simp only [Act.put, List.setIfInBounds_toArray, List.set_cons_zero, List.set_cons_succ]
            refine take_run (i := 19) (oi := { dst := some 140, op := Go.Op.move (Go.Operand.tmp 139), type := 4, pos := "law.go:247", after := #[{ on := 18, ground := Go.Ground.data }, { on := 16, ground := Go.Ground.chain }], guard := none }) (v := .bool true) rfl (by kernel_rfl) (by kernel_rfl) (by kernel_rfl) (fun _ _ _ h => h) (by rfl) ?_ hHeld ?_
            · (intro wq hSw; go_simp <;> with_reducible rfl)
            try simp only [Act.put, List.setIfInBounds_toArray, List.set_cons_zero, List.set_cons_succ]
            have HH : Hid _ := hHeld
            refine take_call (i := 20) (oi := { dst := some 141, op := Go.Op.call { callee := Go.Callee.value (Go.Operand.func 11), args := #[], argTypes := #[] }, type := 4, pos := "law.go:247", after := #[{ on := 19, ground := Go.Ground.chain }, { on := 19, ground := Go.Ground.guard }], guard := some (19, true) }) rfl (by kernel_rfl) (by rfl) 11 _ (by go_simp <;> with_reducible rfl) ?_
            refine (KN.out _ hHeld).mono ?_
            rintro e Y ⟨rfl, bY⟩
            refine ⟨.bool true, rfl, bY, ?_⟩
            try simp only [Act.put, List.setIfInBounds_toArray, List.set_cons_zero, List.set_cons_succ]
            refine take_run (i := 21) (oi := { dst := some 142, op := Go.Op.pick (Go.Operand.tmp 140) (Go.Operand.tmp 141) (Go.Operand.const (Go.Value.bool false)), type := 4, pos := "law.go:247", after := #[{ on := 19, ground := Go.Ground.data }, { on := 20, ground := Go.Ground.data }], guard := none }) (v := .bool true) rfl (by kernel_rfl) (by kernel_rfl) (by kernel_rfl) (fun _ _ _ h => h) (by rfl) ?_ bY ?_
            · (intro wq hSw; go_simp <;> with_reducible rfl)
            try simp only [Act.put, List.setIfInBounds_toArray, List.set_cons_zero, List.set_cons_succ]
            refine take_run (i := 22) (oi := { dst := some 4, op := Go.Op.assign (Go.Operand.tmp 142), type := 4, pos := "law.go:247", after := #[{ on := 21, ground := Go.Ground.data }, { on := 20, ground := Go.Ground.chain }, { on := 0, ground := Go.Ground.phase }, { on := 1, ground := Go.Ground.phase }, { on := 2, ground := Go.Ground.phase }, { on := 3, ground := Go.Ground.phase }, { on := 4, ground := Go.Ground.phase }, { on := 5, ground := Go.Ground.phase }, { on := 6, ground := Go.Ground.phase }, { on := 7, ground := Go.Ground.phase }, { on := 8, ground := Go.Ground.phase }, { on := 9, ground := Go.Ground.phase }, { on := 10, ground := Go.Ground.phase }, { on := 11, ground := Go.Ground.phase }, { on := 12, ground := Go.Ground.phase }, { on := 13, ground := Go.Ground.phase }, { on := 14, ground := Go.Ground.phase }, { on := 15, ground := Go.Ground.phase }, { on := 16, ground := Go.Ground.phase }, { on := 17, ground := Go.Ground.phase }, { on := 18, ground := Go.Ground.phase }, { on := 19, ground := Go.Ground.phase }, { on := 20, ground := Go.Ground.phase }, { on := 21, ground := Go.Ground.phase }], guard := none }) (v := .bool true) rfl (by kernel_rfl) (by kernel_rfl) (by kernel_rfl) (fun _ _ _ h => h) (by rfl) ?_ bY ?_
            · (intro wq hSw; go_simp <;> with_reducible rfl)
            try simp only [Act.put, List.setIfInBounds_toArray, List.set_cons_zero, List.set_cons_succ]
            have HY : Hid (Below w8.heap.size w8 Y) := bY
            clear bY hHeld
            refine wpAnyH_done (by kernel_rfl) ?_ _
            go_wp2
            go_ret
            exact ⟨rfl, B8.out.trans (HY.out.mono B8.out.size)⟩))
end Go.Proofs.YtikpmaecbfebkaaDoor
