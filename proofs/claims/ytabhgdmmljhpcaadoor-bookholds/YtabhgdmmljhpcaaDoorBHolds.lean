/- BookHolds. -/
import Derived.Test.YtabhgdmmljhpcaaDoorBDuo
namespace Go.Proofs.YtabhgdmmljhpcaaDoor
open Go.RowKit Cod
attribute [local go_sem] Oper.semAt_some
set_option linter.unusedVariables false

/-- What stands at the head of each round. -/
def HoldsI (w0 w : World) (A B : Nat) : Prop := ∃ sva LA svb LB, BookIn w w0.heap.size A sva LA ∧ BookIn w w0.heap.size B svb LB ∧ A ≠ B ∧ (∀ g, sva.ownBlock = some g → svb.ownBlock ≠ some g) ∧ Below w0.heap.size w0 w ∧ rw2 LA = rw2 LB ∧ Idle LA
theorem HoldsI.duo {w0 w : World} {A B : Nat} (h : HoldsI w0 w A B) (o : OpB) : ∃ sva LA svb LB, Duo w0 (w.alloc (.cells #[.int .i64 o.k, .string o.nm, .string o.by_, .int .i64 o.n, .int .i64 o.slot] 37)) A sva LA B svb LB w.heap.size o ∧ rw2 LA = rw2 LB ∧ Idle LA := by
  obtain ⟨sva, LA, svb, LB, h1, h2, h3, h4, h5, h6, h7⟩ := h
  have b := (Below.refl w.heap.size w).alloc (Nat.le_refl _) (.cells #[.int .i64 o.k, .string o.nm, .string o.by_, .int .i64 o.n, .int .i64 o.slot] 37)
  exact ⟨sva, LA, svb, LB, ⟨h1.below b, h2.below b, h3, h4, heap_alloc_new w _, h5.trans (b.mono h5.size)⟩, h6, h7⟩
theorem HoldsI.of {w0 w : World} {A B K : Nat} {sva svb : Value} {LA LB : List Acc} {o : OpB} (h : Duo w0 w A sva LA B svb LB K o) (h1 : rw2 LA = rw2 LB) (h2 : Idle LA) : HoldsI w0 w A B :=
  ⟨sva, LA, svb, LB, h.a, h.b, h.ne, h.nr, h.bel, h1, h2⟩
section
variable {w0 w : World} {A B K : Nat} {sva svb : Value} {LA LB : List Acc} {o : OpB}
theorem duo_open (h : Duo w0 w A sva LA B svb LB K o) (t : ByteArray) (hs : t.size ≤ maxLen) : Calls Tryd.prog 16 #[.pointer (some ⟨A, 0, none⟩), .string t] w fun e w' => e = .returned (.int .i64 (putP LA t 0).1) ∧ ∃ sva', Duo w0 w' A sva' (putP LA t 0).2 B svb LB K o :=
  (open_any h.a t hs).mono (by rintro e w' ⟨rfl, q⟩; exact ⟨rfl, h.turn q⟩)
theorem duo_add (h : Duo w0 w A sva LA B svb LB K o) (t : ByteArray) (n : Int) (hn : -9223372036854775808 ≤ n ∧ n ≤ 9223372036854775807) : Calls Tryd.prog 17 #[.pointer (some ⟨A, 0, none⟩), .string t, .int .i64 n] w fun e w' => e = .returned (.int .i64 (onP LA t (addP n)).1) ∧ ∃ sva', Duo w0 w' A sva' (onP LA t (addP n)).2 B svb LB K o :=
  (add_any h.a t n hn).mono (by rintro e w' ⟨rfl, q⟩; exact ⟨rfl, h.turn q⟩)
theorem duo_take (h : Duo w0 w A sva LA B svb LB K o) (t : ByteArray) (n : Int) (hn : -9223372036854775808 ≤ n ∧ n ≤ 9223372036854775807) : Calls Tryd.prog 18 #[.pointer (some ⟨A, 0, none⟩), .string t, .int .i64 n] w fun e w' => e = .returned (.int .i64 (onP LA t (takeP n)).1) ∧ ∃ sva', Duo w0 w' A sva' (onP LA t (takeP n)).2 B svb LB K o :=
  (take_any h.a t n hn).mono (by rintro e w' ⟨rfl, q⟩; exact ⟨rfl, h.turn q⟩)
theorem duo_hold (h : Duo w0 w A sva LA B svb LB K o) (t s : ByteArray) : Calls Tryd.prog 23 #[.pointer (some ⟨A, 0, none⟩), .string t, .string s] w fun e w' => e = .returned (.int .i64 (onP LA t (holdP s)).1) ∧ ∃ sva', Duo w0 w' A sva' (onP LA t (holdP s)).2 B svb LB K o :=
  (hold_any h.a t s).mono (by rintro e w' ⟨rfl, q⟩; exact ⟨rfl, h.turn q⟩)
theorem duo_free (h : Duo w0 w A sva LA B svb LB K o) (t s : ByteArray) : Calls Tryd.prog 24 #[.pointer (some ⟨A, 0, none⟩), .string t, .string s] w fun e w' => e = .returned (.int .i64 (onP LA t (freeP s)).1) ∧ ∃ sva', Duo w0 w' A sva' (onP LA t (freeP s)).2 B svb LB K o :=
  (free_any h.a t s).mono (by rintro e w' ⟨rfl, q⟩; exact ⟨rfl, h.turn q⟩)
theorem duo_rows (h : Duo w0 w A sva LA B svb LB K o) (hT : Tabs w0) : Calls Tryd.prog 20 #[.pointer (some ⟨A, 0, none⟩), .int .i64 (-1)] w fun e w' => ∃ a c, e = .returned (.slice a (rw2 LA).length c) ∧ RowsAt w' a (rw2 LA).length (rw2 LA) ∧ Below w.heap.size w w' := by
  refine (rows_any h.a (hT.below h.bel hT.size) (-1)).mono ?_
  rintro e w' ⟨a, c, rfl, q, b⟩
  rw [rw2_rows] at q ⊢
  have hl : (rw2 LA).length ≤ 1000 := by
    have := h.a.fit.len
    simp only [rw2, List.length_map]
    omega
  obtain ⟨a', c', e', q'⟩ := rowsAt_owned q rfl hl
  cases e'
  exact ⟨a, c, rfl, q', b⟩
theorem duo_by (h : Duo w0 w A sva LA B svb LB K o) (t : ByteArray) : Calls Tryd.prog 25 #[.pointer (some ⟨A, 0, none⟩), .string t] w fun e w' => e = .returned (.string (accOr (getA LA t)).by_) ∧ Duo w0 w' A sva LA B svb LB K o :=
  (by_any h.a t).mono (by rintro e w' ⟨rfl, q⟩; exact ⟨rfl, h.below q⟩)
end
/-- Who holds an account can't be put out by another one. -/
theorem held_firm {L : List Acc} {t s : ByteArray} (hs : ¬ s.size = 0) (hl : s.size ≤ 1000) (hb : (accOr (getA L t)).by_ = s) : onP L t (holdP (s ++ ⟨#[120]⟩)) = (5, L) ∧ onP L t (freeP (s ++ ⟨#[120]⟩)) = (5, L) := by
  have hsz : (s ++ (⟨#[120]⟩ : ByteArray)).size = s.size + 1 := by rw [ByteArray.size_append]; rfl
  have hne : s ≠ s ++ ⟨#[120]⟩ := fun e => by
    have := congrArg ByteArray.size e
    omega
  unfold onP
  cases hg : getA L t with
  | none =>
    rw [hg] at hb
    exact absurd (by rw [← hb]; rfl) hs
  | some p =>
    rw [hg] at hb
    have hp : p.by_ = s := hb
    have e1 : holdP (s ++ ⟨#[120]⟩) p = (5, p) := by
      unfold holdP
      rw [if_neg (by omega), if_pos ⟨by rw [hp]; exact hs, by rw [hp]; exact hne⟩]
    have e2 : freeP (s ++ ⟨#[120]⟩) p = (5, p) := by
      unfold freeP
      rw [if_pos (.inr (by rw [hp]; exact hne))]
    simp [e1, e2]
set_option maxRecDepth 100000 in
set_option maxHeartbeats 20000000 in
theorem bookHolds_any (a : Option Addr) (len cap : Nat) (os : List OpB) (s : ByteArray) (w : World) (hO : OpsB w a len os) (hT : Tabs w) (hs : s.size ≤ maxLen) (hlen : len ≤ 9223372036854775807) :
    Calls Tryd.prog 6 #[.slice a len cap, .string s] w fun e w' => e = .returned (.bool true) ∧ Below w.heap.size w w' := by
  have HO : Hid (OpsB w a len os) := hO
  have HT : Hid (Tabs w) := hT
  unfold maxLen at hs
  clear hO hT
  go_enter Tryd.func6, Tryd.ntmps6
  go_wp2_with fail
  refine (new_any w).mono ?_
  rintro e w1 ⟨rfl, b1, h1⟩
  have H1 : Hid (BookIn w1 w.heap.size w.heap.size (.slice none 0 0) []) := h1
  have B1 : Hid (Below w.heap.size w w1) := b1
  clear h1 b1
  go_wp2_with fail
  refine (new_any w1).mono ?_
  rintro e w2 ⟨rfl, b2, h2⟩
  have HI0 : Hid (HoldsI w w2 w.heap.size w1.heap.size) := ⟨.slice none 0 0, [], .slice none 0 0, [], H1.out.below b2, h2.base_le B1.out.size, by have := H1.out.ltN; omega, (fun g e => by cases e), B1.out.trans (b2.mono B1.out.size), rfl, (fun p hp => by cases hp)⟩
  clear H1 b2 h2
  have hA : w.heap.size < w2.heap.size := by obtain ⟨_, _, _, _, q, _⟩ := HI0.out; exact q.ltN
  have HB2 : Hid (Below w.heap.size w w2) := by obtain ⟨_, _, _, _, _, _, _, _, q, _⟩ := HI0.out; exact q
  generalize w.heap.size = A at HI0
  generalize w1.heap.size = B at *
  by_cases hbig : (1000 : Int) < (s.size : Int)
  · go_wp2_with fail
    refine (knownB_any w2).mono ?_
    rintro e wK ⟨rfl, bK⟩
    have BK : Hid (Below w.heap.size w wK) := HB2.out.trans (bK.mono HB2.out.size)
    clear bK
    go_wp2
    go_ret
    exact ⟨rfl, BK.out⟩
  have hsm : s.size ≤ 1000 := by omega
  go_wp2
  go_loopw [7] (fun i wr => ∃ k : Nat, k ≤ len ∧ k ≤ 80 ∧ i = .int .i64 k ∧ Hid (HoldsI w wr A B)) (fun i _ => 80 - (intOf i).toNat)
  case atStart => exact ⟨0, Nat.zero_le _, by omega, rfl, HI0⟩
  case round =>
    obtain ⟨k, hk, hk80, rfl, HI⟩ := hrel
    clear HI0 HB2 hA
    by_cases hlt : k < len ∧ k < 80
    · obtain ⟨hl1, hl2⟩ := hlt
      have hj : k < os.length := by have := HO.out.1; omega
      obtain ⟨g, off, ea, q0, q1, q2, q3, q4⟩ := HO.out.at (W := wr) (by obtain ⟨_, _, _, _, _, _, _, _, q, _⟩ := HI.out; exact q) hj
      subst ea
      have hok := HO.out.2.1 _ (List.getElem_mem hj)
      generalize os[k]'hj = ob at q0 q1 q2 q3 q4 hok
      obtain ⟨sva, LA, svb, LB, hd, hr, hi⟩ := HI.out.duo ob
      have HD : Hid (Duo w _ A sva LA B svb LB wr.heap.size ob) := hd
      have HR : Hid (rw2 LA = rw2 LB) := hr
      have HIA : Hid (Idle LA) := hi
      have HOK : Hid ob.ok := hok
      clear hd hr hi hok HI
      obtain ⟨kd, nm, by_, n, slot⟩ := ob
      simp only at q0 q1 q2 q3 q4 HD
      have hl1' : (k : Int) < (len : Int) := by omega
      have hl2' : (k : Int) < 80 := by omega
      by_cases e6 : kd = 6
      · subst e6
        go_wp2
        go_roundw
        case rel => exact ⟨k + 1, by omega, by omega, by go_num, HoldsI.of HD.out HR.out HIA.out⟩
        case measure => simp only [intOf]; omega
      by_cases e7 : kd = 7
      · subst e7
        go_wp2
        go_roundw
        case rel => exact ⟨k + 1, by omega, by omega, by go_num, HoldsI.of HD.out HR.out HIA.out⟩
        case measure => simp only [intOf]; omega
      by_cases e9 : (9 : Int) < kd
      · have f6 : (kd == 6) = false := by simpa using e6
        have f7 : (kd == 7) = false := by simpa using e7
        go_wp2
        go_roundw
        case rel => exact ⟨k + 1, by omega, by omega, by go_num, HoldsI.of HD.out HR.out HIA.out⟩
        case measure => simp only [intOf]; omega
      by_cases hs0 : s.size = 0
      · have hn1 : s.toList = [] := by rw [text_zero hs0, ByteArray.toList_eq]
        clear hs0
        by_cases e0 : kd = 0
        · subst e0
          go_wp2_with fail
          refine (duo_hold HD.out.swap nm s).mono ?_
          rintro e w3 ⟨rfl, svb3, d3⟩
          have R3 : rw2 LA = rw2 (onP LB nm (holdP s)).2 := HR.out.trans (rw2_hold HD.out.b.fit.srt nm s).symm
          clear HR HD
          generalize (onP LB nm (holdP s)).1 = c3 at *
          generalize (onP LB nm (holdP s)).2 = LB3 at d3 R3
          have D3 : Hid (Duo w w3 A sva LA B svb3 LB3 wr.heap.size ⟨0, nm, by_, n, slot⟩) := d3.swap
          clear d3
          obtain ⟨k0, k1, k2, k3, k4⟩ := D3.out.cells
          simp only at k0 k1 k2 k3 k4
          clear q0 q1 q2 q3 q4
          obtain ⟨x1, x2⟩ := rw2_put R3 nm 0
          have I5 : Hid (Idle (putP LA nm 0).2) := idle_put HIA.out nm 0
          have HCA := duo_open D3.out nm HOK.out.nm
          have HCB : ∀ sx lx wx, Duo w wx A sx lx B svb3 LB3 wr.heap.size ⟨0, nm, by_, n, slot⟩ → _ := fun sx lx wx (d : Duo w wx A sx lx B svb3 LB3 wr.heap.size ⟨0, nm, by_, n, slot⟩) => duo_open d.swap nm HOK.out.nm
          rw [← x1] at HCB
          generalize (putP LA nm 0).1 = cx at HCA HCB
          generalize (putP LA nm 0).2 = LA5 at HCA x2 I5
          generalize (putP LB3 nm 0).2 = LB5 at HCB x2
          have R5 : Hid (rw2 LA5 = rw2 LB5) := x2
          clear x1 x2 D3 R3 HIA
          go_wp2_with fail
          refine HCA.mono ?_
          rintro e w4 ⟨rfl, sva4, d4⟩
          obtain ⟨k0, k1, k2, k3, k4⟩ := d4.cells
          simp only at k0 k1 k2 k3 k4
          have HCC := HCB _ _ _ d4
          clear HCA HCB d4
          go_wp2_with fail
          refine HCC.mono ?_
          rintro e w5 ⟨rfl, svb5, d5⟩
          have D5 : Hid (Duo w w5 A sva4 LA5 B svb5 LB5 wr.heap.size ⟨0, nm, by_, n, slot⟩) := d5.swap
          clear HCC d5
          obtain ⟨k0, k1, k2, k3, k4⟩ := D5.out.cells
          simp only at k0 k1 k2 k3 k4
          go_wp2_with fail
          refine (duo_rows D5.out HT.out).mono ?_
          rintro e w6 ⟨a6, c6, rfl, r6, b6⟩
          have D6 := D5.out.below b6
          have R6 : Hid (RowsAt w6 a6 (rw2 LA5).length (rw2 LA5)) := r6
          clear b6 D5 r6
          go_wp2_with fail
          refine (duo_rows D6.swap HT.out).mono ?_
          rintro e w7 ⟨a7, c7, rfl, r7, b7⟩
          have D7 : Hid (Duo w w7 A sva4 LA5 B svb5 LB5 wr.heap.size ⟨0, nm, by_, n, slot⟩) := D6.below b7
          have HS := sameRows_any a6 a7 _ c6 _ c7 (rw2 LA5) (rw2 LB5) w7 (R6.out.below b7) r7
          rw [decide_eq_true R5.out] at HS
          clear b7 r7 D6 R6
          go_wp2_with fail
          refine HS.mono ?_
          rintro e w8 ⟨rfl, nq, ew8⟩
          have D8 : Hid (Duo w w8 A sva4 LA5 B svb5 LB5 wr.heap.size ⟨0, nm, by_, n, slot⟩) := by rw [ew8]; exact D7.out.below (below_drewN' (Below.refl _ _) _)
          clear HS D7 ew8 k0 k1 k2 k3 k4
          obtain ⟨k0, k1, k2, k3, k4⟩ := D8.out.cells
          simp only at k0 k1 k2 k3 k4
          go_wp2
          go_roundw
          case rel => exact ⟨k + 1, by omega, by omega, by go_num, HoldsI.of D8.out R5.out I5.out⟩
          case measure => simp only [intOf]; omega
        by_cases e1 : kd = 1
        · subst e1
          go_wp2_with fail
          refine (duo_hold HD.out.swap nm s).mono ?_
          rintro e w3 ⟨rfl, svb3, d3⟩
          have R3 : rw2 LA = rw2 (onP LB nm (holdP s)).2 := HR.out.trans (rw2_hold HD.out.b.fit.srt nm s).symm
          clear HR HD
          generalize (onP LB nm (holdP s)).1 = c3 at *
          generalize (onP LB nm (holdP s)).2 = LB3 at d3 R3
          have D3 : Hid (Duo w w3 A sva LA B svb3 LB3 wr.heap.size ⟨1, nm, by_, n, slot⟩) := d3.swap
          clear d3
          obtain ⟨k0, k1, k2, k3, k4⟩ := D3.out.cells
          simp only at k0 k1 k2 k3 k4
          clear q0 q1 q2 q3 q4
          obtain ⟨x1, x2⟩ := rw2_put R3 nm 0
          have I5 : Hid (Idle (putP LA nm 0).2) := idle_put HIA.out nm 0
          have HCA := duo_open D3.out nm HOK.out.nm
          have HCB : ∀ sx lx wx, Duo w wx A sx lx B svb3 LB3 wr.heap.size ⟨1, nm, by_, n, slot⟩ → _ := fun sx lx wx (d : Duo w wx A sx lx B svb3 LB3 wr.heap.size ⟨1, nm, by_, n, slot⟩) => duo_open d.swap nm HOK.out.nm
          rw [← x1] at HCB
          generalize (putP LA nm 0).1 = cx at HCA HCB
          generalize (putP LA nm 0).2 = LA5 at HCA x2 I5
          generalize (putP LB3 nm 0).2 = LB5 at HCB x2
          have R5 : Hid (rw2 LA5 = rw2 LB5) := x2
          clear x1 x2 D3 R3 HIA
          go_wp2_with fail
          refine HCA.mono ?_
          rintro e w4 ⟨rfl, sva4, d4⟩
          obtain ⟨k0, k1, k2, k3, k4⟩ := d4.cells
          simp only at k0 k1 k2 k3 k4
          have HCC := HCB _ _ _ d4
          clear HCA HCB d4
          go_wp2_with fail
          refine HCC.mono ?_
          rintro e w5 ⟨rfl, svb5, d5⟩
          have D5 : Hid (Duo w w5 A sva4 LA5 B svb5 LB5 wr.heap.size ⟨1, nm, by_, n, slot⟩) := d5.swap
          clear HCC d5
          obtain ⟨k0, k1, k2, k3, k4⟩ := D5.out.cells
          simp only at k0 k1 k2 k3 k4
          go_wp2_with fail
          refine (duo_rows D5.out HT.out).mono ?_
          rintro e w6 ⟨a6, c6, rfl, r6, b6⟩
          have D6 := D5.out.below b6
          have R6 : Hid (RowsAt w6 a6 (rw2 LA5).length (rw2 LA5)) := r6
          clear b6 D5 r6
          go_wp2_with fail
          refine (duo_rows D6.swap HT.out).mono ?_
          rintro e w7 ⟨a7, c7, rfl, r7, b7⟩
          have D7 : Hid (Duo w w7 A sva4 LA5 B svb5 LB5 wr.heap.size ⟨1, nm, by_, n, slot⟩) := D6.below b7
          have HS := sameRows_any a6 a7 _ c6 _ c7 (rw2 LA5) (rw2 LB5) w7 (R6.out.below b7) r7
          rw [decide_eq_true R5.out] at HS
          clear b7 r7 D6 R6
          go_wp2_with fail
          refine HS.mono ?_
          rintro e w8 ⟨rfl, nq, ew8⟩
          have D8 : Hid (Duo w w8 A sva4 LA5 B svb5 LB5 wr.heap.size ⟨1, nm, by_, n, slot⟩) := by rw [ew8]; exact D7.out.below (below_drewN' (Below.refl _ _) _)
          clear HS D7 ew8 k0 k1 k2 k3 k4
          obtain ⟨k0, k1, k2, k3, k4⟩ := D8.out.cells
          simp only at k0 k1 k2 k3 k4
          go_wp2
          go_roundw
          case rel => exact ⟨k + 1, by omega, by omega, by go_num, HoldsI.of D8.out R5.out I5.out⟩
          case measure => simp only [intOf]; omega
        by_cases e2 : kd = 2
        · subst e2
          go_wp2_with fail
          refine (duo_hold HD.out.swap nm s).mono ?_
          rintro e w3 ⟨rfl, svb3, d3⟩
          have R3 : rw2 LA = rw2 (onP LB nm (holdP s)).2 := HR.out.trans (rw2_hold HD.out.b.fit.srt nm s).symm
          clear HR HD
          generalize (onP LB nm (holdP s)).1 = c3 at *
          generalize (onP LB nm (holdP s)).2 = LB3 at d3 R3
          have D3 : Hid (Duo w w3 A sva LA B svb3 LB3 wr.heap.size ⟨2, nm, by_, n, slot⟩) := d3.swap
          clear d3
          obtain ⟨k0, k1, k2, k3, k4⟩ := D3.out.cells
          simp only at k0 k1 k2 k3 k4
          clear q0 q1 q2 q3 q4
          obtain ⟨x1, x2⟩ := rw2_on R3 D3.out.a.fit.srt D3.out.b.fit.srt nm (blind_add n)
          have I5 : Hid (Idle (onP LA nm (addP n)).2) := idle_on HIA.out D3.out.a.fit.srt nm (blind_add n)
          have HCA := duo_add D3.out nm n HOK.out.n
          have HCB : ∀ sx lx wx, Duo w wx A sx lx B svb3 LB3 wr.heap.size ⟨2, nm, by_, n, slot⟩ → _ := fun sx lx wx (d : Duo w wx A sx lx B svb3 LB3 wr.heap.size ⟨2, nm, by_, n, slot⟩) => duo_add d.swap nm n HOK.out.n
          rw [← x1] at HCB
          generalize (onP LA nm (addP n)).1 = cx at HCA HCB
          generalize (onP LA nm (addP n)).2 = LA5 at HCA x2 I5
          generalize (onP LB3 nm (addP n)).2 = LB5 at HCB x2
          have R5 : Hid (rw2 LA5 = rw2 LB5) := x2
          clear x1 x2 D3 R3 HIA
          go_wp2_with fail
          refine HCA.mono ?_
          rintro e w4 ⟨rfl, sva4, d4⟩
          obtain ⟨k0, k1, k2, k3, k4⟩ := d4.cells
          simp only at k0 k1 k2 k3 k4
          have HCC := HCB _ _ _ d4
          clear HCA HCB d4
          go_wp2_with fail
          refine HCC.mono ?_
          rintro e w5 ⟨rfl, svb5, d5⟩
          have D5 : Hid (Duo w w5 A sva4 LA5 B svb5 LB5 wr.heap.size ⟨2, nm, by_, n, slot⟩) := d5.swap
          clear HCC d5
          obtain ⟨k0, k1, k2, k3, k4⟩ := D5.out.cells
          simp only at k0 k1 k2 k3 k4
          go_wp2_with fail
          refine (duo_rows D5.out HT.out).mono ?_
          rintro e w6 ⟨a6, c6, rfl, r6, b6⟩
          have D6 := D5.out.below b6
          have R6 : Hid (RowsAt w6 a6 (rw2 LA5).length (rw2 LA5)) := r6
          clear b6 D5 r6
          go_wp2_with fail
          refine (duo_rows D6.swap HT.out).mono ?_
          rintro e w7 ⟨a7, c7, rfl, r7, b7⟩
          have D7 : Hid (Duo w w7 A sva4 LA5 B svb5 LB5 wr.heap.size ⟨2, nm, by_, n, slot⟩) := D6.below b7
          have HS := sameRows_any a6 a7 _ c6 _ c7 (rw2 LA5) (rw2 LB5) w7 (R6.out.below b7) r7
          rw [decide_eq_true R5.out] at HS
          clear b7 r7 D6 R6
          go_wp2_with fail
          refine HS.mono ?_
          rintro e w8 ⟨rfl, nq, ew8⟩
          have D8 : Hid (Duo w w8 A sva4 LA5 B svb5 LB5 wr.heap.size ⟨2, nm, by_, n, slot⟩) := by rw [ew8]; exact D7.out.below (below_drewN' (Below.refl _ _) _)
          clear HS D7 ew8 k0 k1 k2 k3 k4
          obtain ⟨k0, k1, k2, k3, k4⟩ := D8.out.cells
          simp only at k0 k1 k2 k3 k4
          go_wp2
          go_roundw
          case rel => exact ⟨k + 1, by omega, by omega, by go_num, HoldsI.of D8.out R5.out I5.out⟩
          case measure => simp only [intOf]; omega
        by_cases e3 : kd = 3
        · subst e3
          go_wp2_with fail
          refine (duo_hold HD.out.swap nm s).mono ?_
          rintro e w3 ⟨rfl, svb3, d3⟩
          have R3 : rw2 LA = rw2 (onP LB nm (holdP s)).2 := HR.out.trans (rw2_hold HD.out.b.fit.srt nm s).symm
          clear HR HD
          generalize (onP LB nm (holdP s)).1 = c3 at *
          generalize (onP LB nm (holdP s)).2 = LB3 at d3 R3
          have D3 : Hid (Duo w w3 A sva LA B svb3 LB3 wr.heap.size ⟨3, nm, by_, n, slot⟩) := d3.swap
          clear d3
          obtain ⟨k0, k1, k2, k3, k4⟩ := D3.out.cells
          simp only at k0 k1 k2 k3 k4
          clear q0 q1 q2 q3 q4
          obtain ⟨x1, x2⟩ := rw2_on R3 D3.out.a.fit.srt D3.out.b.fit.srt nm (blind_add n)
          have I5 : Hid (Idle (onP LA nm (addP n)).2) := idle_on HIA.out D3.out.a.fit.srt nm (blind_add n)
          have HCA := duo_add D3.out nm n HOK.out.n
          have HCB : ∀ sx lx wx, Duo w wx A sx lx B svb3 LB3 wr.heap.size ⟨3, nm, by_, n, slot⟩ → _ := fun sx lx wx (d : Duo w wx A sx lx B svb3 LB3 wr.heap.size ⟨3, nm, by_, n, slot⟩) => duo_add d.swap nm n HOK.out.n
          rw [← x1] at HCB
          generalize (onP LA nm (addP n)).1 = cx at HCA HCB
          generalize (onP LA nm (addP n)).2 = LA5 at HCA x2 I5
          generalize (onP LB3 nm (addP n)).2 = LB5 at HCB x2
          have R5 : Hid (rw2 LA5 = rw2 LB5) := x2
          clear x1 x2 D3 R3 HIA
          go_wp2_with fail
          refine HCA.mono ?_
          rintro e w4 ⟨rfl, sva4, d4⟩
          obtain ⟨k0, k1, k2, k3, k4⟩ := d4.cells
          simp only at k0 k1 k2 k3 k4
          have HCC := HCB _ _ _ d4
          clear HCA HCB d4
          go_wp2_with fail
          refine HCC.mono ?_
          rintro e w5 ⟨rfl, svb5, d5⟩
          have D5 : Hid (Duo w w5 A sva4 LA5 B svb5 LB5 wr.heap.size ⟨3, nm, by_, n, slot⟩) := d5.swap
          clear HCC d5
          obtain ⟨k0, k1, k2, k3, k4⟩ := D5.out.cells
          simp only at k0 k1 k2 k3 k4
          go_wp2_with fail
          refine (duo_rows D5.out HT.out).mono ?_
          rintro e w6 ⟨a6, c6, rfl, r6, b6⟩
          have D6 := D5.out.below b6
          have R6 : Hid (RowsAt w6 a6 (rw2 LA5).length (rw2 LA5)) := r6
          clear b6 D5 r6
          go_wp2_with fail
          refine (duo_rows D6.swap HT.out).mono ?_
          rintro e w7 ⟨a7, c7, rfl, r7, b7⟩
          have D7 : Hid (Duo w w7 A sva4 LA5 B svb5 LB5 wr.heap.size ⟨3, nm, by_, n, slot⟩) := D6.below b7
          have HS := sameRows_any a6 a7 _ c6 _ c7 (rw2 LA5) (rw2 LB5) w7 (R6.out.below b7) r7
          rw [decide_eq_true R5.out] at HS
          clear b7 r7 D6 R6
          go_wp2_with fail
          refine HS.mono ?_
          rintro e w8 ⟨rfl, nq, ew8⟩
          have D8 : Hid (Duo w w8 A sva4 LA5 B svb5 LB5 wr.heap.size ⟨3, nm, by_, n, slot⟩) := by rw [ew8]; exact D7.out.below (below_drewN' (Below.refl _ _) _)
          clear HS D7 ew8 k0 k1 k2 k3 k4
          obtain ⟨k0, k1, k2, k3, k4⟩ := D8.out.cells
          simp only at k0 k1 k2 k3 k4
          go_wp2
          go_roundw
          case rel => exact ⟨k + 1, by omega, by omega, by go_num, HoldsI.of D8.out R5.out I5.out⟩
          case measure => simp only [intOf]; omega
        by_cases e4 : kd = 4
        · subst e4
          go_wp2_with fail
          refine (duo_hold HD.out.swap nm s).mono ?_
          rintro e w3 ⟨rfl, svb3, d3⟩
          have R3 : rw2 LA = rw2 (onP LB nm (holdP s)).2 := HR.out.trans (rw2_hold HD.out.b.fit.srt nm s).symm
          clear HR HD
          generalize (onP LB nm (holdP s)).1 = c3 at *
          generalize (onP LB nm (holdP s)).2 = LB3 at d3 R3
          have D3 : Hid (Duo w w3 A sva LA B svb3 LB3 wr.heap.size ⟨4, nm, by_, n, slot⟩) := d3.swap
          clear d3
          obtain ⟨k0, k1, k2, k3, k4⟩ := D3.out.cells
          simp only at k0 k1 k2 k3 k4
          clear q0 q1 q2 q3 q4
          obtain ⟨x1, x2⟩ := rw2_on R3 D3.out.a.fit.srt D3.out.b.fit.srt nm (blind_take n)
          have I5 : Hid (Idle (onP LA nm (takeP n)).2) := idle_on HIA.out D3.out.a.fit.srt nm (blind_take n)
          have HCA := duo_take D3.out nm n HOK.out.n
          have HCB : ∀ sx lx wx, Duo w wx A sx lx B svb3 LB3 wr.heap.size ⟨4, nm, by_, n, slot⟩ → _ := fun sx lx wx (d : Duo w wx A sx lx B svb3 LB3 wr.heap.size ⟨4, nm, by_, n, slot⟩) => duo_take d.swap nm n HOK.out.n
          rw [← x1] at HCB
          generalize (onP LA nm (takeP n)).1 = cx at HCA HCB
          generalize (onP LA nm (takeP n)).2 = LA5 at HCA x2 I5
          generalize (onP LB3 nm (takeP n)).2 = LB5 at HCB x2
          have R5 : Hid (rw2 LA5 = rw2 LB5) := x2
          clear x1 x2 D3 R3 HIA
          go_wp2_with fail
          refine HCA.mono ?_
          rintro e w4 ⟨rfl, sva4, d4⟩
          obtain ⟨k0, k1, k2, k3, k4⟩ := d4.cells
          simp only at k0 k1 k2 k3 k4
          have HCC := HCB _ _ _ d4
          clear HCA HCB d4
          go_wp2_with fail
          refine HCC.mono ?_
          rintro e w5 ⟨rfl, svb5, d5⟩
          have D5 : Hid (Duo w w5 A sva4 LA5 B svb5 LB5 wr.heap.size ⟨4, nm, by_, n, slot⟩) := d5.swap
          clear HCC d5
          obtain ⟨k0, k1, k2, k3, k4⟩ := D5.out.cells
          simp only at k0 k1 k2 k3 k4
          go_wp2_with fail
          refine (duo_rows D5.out HT.out).mono ?_
          rintro e w6 ⟨a6, c6, rfl, r6, b6⟩
          have D6 := D5.out.below b6
          have R6 : Hid (RowsAt w6 a6 (rw2 LA5).length (rw2 LA5)) := r6
          clear b6 D5 r6
          go_wp2_with fail
          refine (duo_rows D6.swap HT.out).mono ?_
          rintro e w7 ⟨a7, c7, rfl, r7, b7⟩
          have D7 : Hid (Duo w w7 A sva4 LA5 B svb5 LB5 wr.heap.size ⟨4, nm, by_, n, slot⟩) := D6.below b7
          have HS := sameRows_any a6 a7 _ c6 _ c7 (rw2 LA5) (rw2 LB5) w7 (R6.out.below b7) r7
          rw [decide_eq_true R5.out] at HS
          clear b7 r7 D6 R6
          go_wp2_with fail
          refine HS.mono ?_
          rintro e w8 ⟨rfl, nq, ew8⟩
          have D8 : Hid (Duo w w8 A sva4 LA5 B svb5 LB5 wr.heap.size ⟨4, nm, by_, n, slot⟩) := by rw [ew8]; exact D7.out.below (below_drewN' (Below.refl _ _) _)
          clear HS D7 ew8 k0 k1 k2 k3 k4
          obtain ⟨k0, k1, k2, k3, k4⟩ := D8.out.cells
          simp only at k0 k1 k2 k3 k4
          go_wp2
          go_roundw
          case rel => exact ⟨k + 1, by omega, by omega, by go_num, HoldsI.of D8.out R5.out I5.out⟩
          case measure => simp only [intOf]; omega
        by_cases e5 : kd = 5
        · subst e5
          go_wp2_with fail
          refine (duo_hold HD.out.swap nm s).mono ?_
          rintro e w3 ⟨rfl, svb3, d3⟩
          have R3 : rw2 LA = rw2 (onP LB nm (holdP s)).2 := HR.out.trans (rw2_hold HD.out.b.fit.srt nm s).symm
          clear HR HD
          generalize (onP LB nm (holdP s)).1 = c3 at *
          generalize (onP LB nm (holdP s)).2 = LB3 at d3 R3
          have D3 : Hid (Duo w w3 A sva LA B svb3 LB3 wr.heap.size ⟨5, nm, by_, n, slot⟩) := d3.swap
          clear d3
          obtain ⟨k0, k1, k2, k3, k4⟩ := D3.out.cells
          simp only at k0 k1 k2 k3 k4
          clear q0 q1 q2 q3 q4
          obtain ⟨x1, x2⟩ := rw2_on R3 D3.out.a.fit.srt D3.out.b.fit.srt nm (blind_take n)
          have I5 : Hid (Idle (onP LA nm (takeP n)).2) := idle_on HIA.out D3.out.a.fit.srt nm (blind_take n)
          have HCA := duo_take D3.out nm n HOK.out.n
          have HCB : ∀ sx lx wx, Duo w wx A sx lx B svb3 LB3 wr.heap.size ⟨5, nm, by_, n, slot⟩ → _ := fun sx lx wx (d : Duo w wx A sx lx B svb3 LB3 wr.heap.size ⟨5, nm, by_, n, slot⟩) => duo_take d.swap nm n HOK.out.n
          rw [← x1] at HCB
          generalize (onP LA nm (takeP n)).1 = cx at HCA HCB
          generalize (onP LA nm (takeP n)).2 = LA5 at HCA x2 I5
          generalize (onP LB3 nm (takeP n)).2 = LB5 at HCB x2
          have R5 : Hid (rw2 LA5 = rw2 LB5) := x2
          clear x1 x2 D3 R3 HIA
          go_wp2_with fail
          refine HCA.mono ?_
          rintro e w4 ⟨rfl, sva4, d4⟩
          obtain ⟨k0, k1, k2, k3, k4⟩ := d4.cells
          simp only at k0 k1 k2 k3 k4
          have HCC := HCB _ _ _ d4
          clear HCA HCB d4
          go_wp2_with fail
          refine HCC.mono ?_
          rintro e w5 ⟨rfl, svb5, d5⟩
          have D5 : Hid (Duo w w5 A sva4 LA5 B svb5 LB5 wr.heap.size ⟨5, nm, by_, n, slot⟩) := d5.swap
          clear HCC d5
          obtain ⟨k0, k1, k2, k3, k4⟩ := D5.out.cells
          simp only at k0 k1 k2 k3 k4
          go_wp2_with fail
          refine (duo_rows D5.out HT.out).mono ?_
          rintro e w6 ⟨a6, c6, rfl, r6, b6⟩
          have D6 := D5.out.below b6
          have R6 : Hid (RowsAt w6 a6 (rw2 LA5).length (rw2 LA5)) := r6
          clear b6 D5 r6
          go_wp2_with fail
          refine (duo_rows D6.swap HT.out).mono ?_
          rintro e w7 ⟨a7, c7, rfl, r7, b7⟩
          have D7 : Hid (Duo w w7 A sva4 LA5 B svb5 LB5 wr.heap.size ⟨5, nm, by_, n, slot⟩) := D6.below b7
          have HS := sameRows_any a6 a7 _ c6 _ c7 (rw2 LA5) (rw2 LB5) w7 (R6.out.below b7) r7
          rw [decide_eq_true R5.out] at HS
          clear b7 r7 D6 R6
          go_wp2_with fail
          refine HS.mono ?_
          rintro e w8 ⟨rfl, nq, ew8⟩
          have D8 : Hid (Duo w w8 A sva4 LA5 B svb5 LB5 wr.heap.size ⟨5, nm, by_, n, slot⟩) := by rw [ew8]; exact D7.out.below (below_drewN' (Below.refl _ _) _)
          clear HS D7 ew8 k0 k1 k2 k3 k4
          obtain ⟨k0, k1, k2, k3, k4⟩ := D8.out.cells
          simp only at k0 k1 k2 k3 k4
          go_wp2
          go_roundw
          case rel => exact ⟨k + 1, by omega, by omega, by go_num, HoldsI.of D8.out R5.out I5.out⟩
          case measure => simp only [intOf]; omega
        have f0 : (kd == 0) = false := by simpa using e0
        have f1 : (kd == 1) = false := by simpa using e1
        have f2 : (kd == 2) = false := by simpa using e2
        have f3 : (kd == 3) = false := by simpa using e3
        have f4 : (kd == 4) = false := by simpa using e4
        have f5 : (kd == 5) = false := by simpa using e5
        have f6 : (kd == 6) = false := by simpa using e6
        have f7 : (kd == 7) = false := by simpa using e7
        go_wp2_with fail
        refine (duo_hold HD.out.swap nm s).mono ?_
        rintro e w3 ⟨rfl, svb3, d3⟩
        have R3 : rw2 LA = rw2 (onP LB nm (holdP s)).2 := HR.out.trans (rw2_hold HD.out.b.fit.srt nm s).symm
        clear HR HD
        generalize (onP LB nm (holdP s)).1 = c3 at *
        generalize (onP LB nm (holdP s)).2 = LB3 at d3 R3
        have D3 : Hid (Duo w w3 A sva LA B svb3 LB3 wr.heap.size ⟨kd, nm, by_, n, slot⟩) := d3.swap
        clear d3
        obtain ⟨k0, k1, k2, k3, k4⟩ := D3.out.cells
        simp only at k0 k1 k2 k3 k4
        clear q0 q1 q2 q3 q4
        have D5 := D3
        have R5 : Hid (rw2 LA = rw2 LB3) := R3
        have I5 := HIA
        clear D3 R3 HIA
        go_wp2_with fail
        refine (duo_rows D5.out HT.out).mono ?_
        rintro e w6 ⟨a6, c6, rfl, r6, b6⟩
        have D6 := D5.out.below b6
        have R6 : Hid (RowsAt w6 a6 (rw2 LA).length (rw2 LA)) := r6
        clear b6 D5 r6
        go_wp2_with fail
        refine (duo_rows D6.swap HT.out).mono ?_
        rintro e w7 ⟨a7, c7, rfl, r7, b7⟩
        have D7 : Hid (Duo w w7 A sva LA B svb3 LB3 wr.heap.size ⟨kd, nm, by_, n, slot⟩) := D6.below b7
        have HS := sameRows_any a6 a7 _ c6 _ c7 (rw2 LA) (rw2 LB3) w7 (R6.out.below b7) r7
        rw [decide_eq_true R5.out] at HS
        clear b7 r7 D6 R6
        go_wp2_with fail
        refine HS.mono ?_
        rintro e w8 ⟨rfl, nq, ew8⟩
        have D8 : Hid (Duo w w8 A sva LA B svb3 LB3 wr.heap.size ⟨kd, nm, by_, n, slot⟩) := by rw [ew8]; exact D7.out.below (below_drewN' (Below.refl _ _) _)
        clear HS D7 ew8 k0 k1 k2 k3 k4
        obtain ⟨k0, k1, k2, k3, k4⟩ := D8.out.cells
        simp only at k0 k1 k2 k3 k4
        go_wp2
        go_roundw
        case rel => exact ⟨k + 1, by omega, by omega, by go_num, HoldsI.of D8.out R5.out I5.out⟩
        case measure => simp only [intOf]; omega
      · have hne0 : ¬ s.size = 0 := hs0
        have hn1 := text_nil_ne hs0
        have hn2 := text_nil_beq hs0
        have hadd : ¬ ((9223372036854775807 : Int) < (((s.size + 1 : Nat)) : Int)) := by omega
        by_cases e0 : kd = 0
        · subst e0
          go_wp2_with fail
          refine (duo_hold HD.out.swap nm s).mono ?_
          rintro e w3 ⟨rfl, svb3, d3⟩
          have R3 : rw2 LA = rw2 (onP LB nm (holdP s)).2 := HR.out.trans (rw2_hold HD.out.b.fit.srt nm s).symm
          clear HR HD
          generalize (onP LB nm (holdP s)).1 = c3 at *
          generalize (onP LB nm (holdP s)).2 = LB3 at d3 R3
          have D3 : Hid (Duo w w3 A sva LA B svb3 LB3 wr.heap.size ⟨0, nm, by_, n, slot⟩) := d3.swap
          clear d3
          obtain ⟨k0, k1, k2, k3, k4⟩ := D3.out.cells
          simp only at k0 k1 k2 k3 k4
          clear q0 q1 q2 q3 q4
          obtain ⟨x1, x2⟩ := rw2_put R3 nm 0
          have I5 : Hid (Idle (putP LA nm 0).2) := idle_put HIA.out nm 0
          have HCA := duo_open D3.out nm HOK.out.nm
          have HCB : ∀ sx lx wx, Duo w wx A sx lx B svb3 LB3 wr.heap.size ⟨0, nm, by_, n, slot⟩ → _ := fun sx lx wx (d : Duo w wx A sx lx B svb3 LB3 wr.heap.size ⟨0, nm, by_, n, slot⟩) => duo_open d.swap nm HOK.out.nm
          rw [← x1] at HCB
          generalize (putP LA nm 0).1 = cx at HCA HCB
          generalize (putP LA nm 0).2 = LA5 at HCA x2 I5
          generalize (putP LB3 nm 0).2 = LB5 at HCB x2
          have R5 : Hid (rw2 LA5 = rw2 LB5) := x2
          clear x1 x2 D3 R3 HIA
          go_wp2_with fail
          refine HCA.mono ?_
          rintro e w4 ⟨rfl, sva4, d4⟩
          obtain ⟨k0, k1, k2, k3, k4⟩ := d4.cells
          simp only at k0 k1 k2 k3 k4
          have HCC := HCB _ _ _ d4
          clear HCA HCB d4
          go_wp2_with fail
          refine HCC.mono ?_
          rintro e w5 ⟨rfl, svb5, d5⟩
          have D5 : Hid (Duo w w5 A sva4 LA5 B svb5 LB5 wr.heap.size ⟨0, nm, by_, n, slot⟩) := d5.swap
          clear HCC d5
          obtain ⟨k0, k1, k2, k3, k4⟩ := D5.out.cells
          simp only at k0 k1 k2 k3 k4
          go_wp2_with fail
          refine (duo_rows D5.out HT.out).mono ?_
          rintro e w6 ⟨a6, c6, rfl, r6, b6⟩
          have D6 := D5.out.below b6
          have R6 : Hid (RowsAt w6 a6 (rw2 LA5).length (rw2 LA5)) := r6
          clear b6 D5 r6
          go_wp2_with fail
          refine (duo_rows D6.swap HT.out).mono ?_
          rintro e w7 ⟨a7, c7, rfl, r7, b7⟩
          have D7 : Hid (Duo w w7 A sva4 LA5 B svb5 LB5 wr.heap.size ⟨0, nm, by_, n, slot⟩) := D6.below b7
          have HS := sameRows_any a6 a7 _ c6 _ c7 (rw2 LA5) (rw2 LB5) w7 (R6.out.below b7) r7
          rw [decide_eq_true R5.out] at HS
          clear b7 r7 D6 R6
          go_wp2_with fail
          refine HS.mono ?_
          rintro e w8 ⟨rfl, nq, ew8⟩
          have D8 : Hid (Duo w w8 A sva4 LA5 B svb5 LB5 wr.heap.size ⟨0, nm, by_, n, slot⟩) := by rw [ew8]; exact D7.out.below (below_drewN' (Below.refl _ _) _)
          clear HS D7 ew8 k0 k1 k2 k3 k4
          obtain ⟨k0, k1, k2, k3, k4⟩ := D8.out.cells
          simp only at k0 k1 k2 k3 k4
          have HBy := duo_by D8.out.swap nm
          by_cases hb : (accOr (getA LB5 nm)).by_ = s
          · obtain ⟨f1, f2⟩ := held_firm hne0 hsm hb
            rw [hb] at HBy
            have HB9 : ∀ wx, Duo w wx B svb5 LB5 A sva4 LA5 wr.heap.size ⟨0, nm, by_, n, slot⟩ → _ := fun wx d => duo_hold d nm (s ++ ⟨#[120]⟩)
            have HB10 : ∀ sx wx, Duo w wx B sx LB5 A sva4 LA5 wr.heap.size ⟨0, nm, by_, n, slot⟩ → _ := fun sx wx d => duo_free d nm (s ++ ⟨#[120]⟩)
            have HB11 : ∀ sx wx, Duo w wx B sx LB5 A sva4 LA5 wr.heap.size ⟨0, nm, by_, n, slot⟩ → _ := fun sx wx d => duo_by d nm
            rw [f1] at HB9
            rw [f2] at HB10
            rw [hb] at HB11
            clear hb f1 f2
            go_wp2_with fail
            refine (HBy).mono ?_
            rintro e w9 ⟨rfl, d9⟩
            clear k0 k1 k2 k3 k4
            obtain ⟨k0, k1, k2, k3, k4⟩ := d9.cells
            simp only at k0 k1 k2 k3 k4
            go_wp2_with fail
            refine (HB9 w9 d9).mono ?_
            rintro e w10 ⟨rfl, svb10, d10⟩
            clear k0 k1 k2 k3 k4
            obtain ⟨k0, k1, k2, k3, k4⟩ := d10.cells
            simp only at k0 k1 k2 k3 k4
            clear HBy HB9 d9
            go_wp2_with fail
            refine (HB10 svb10 w10 d10).mono ?_
            rintro e w11 ⟨rfl, svb11, d11⟩
            clear k0 k1 k2 k3 k4
            obtain ⟨k0, k1, k2, k3, k4⟩ := d11.cells
            simp only at k0 k1 k2 k3 k4
            clear HB10 d10
            go_wp2_with fail
            refine (HB11 svb11 w11 d11).mono ?_
            rintro e w12 ⟨rfl, d12⟩
            clear k0 k1 k2 k3 k4
            obtain ⟨k0, k1, k2, k3, k4⟩ := d12.cells
            simp only at k0 k1 k2 k3 k4
            clear HB11 d11
            have D12 : Hid (Duo w w12 A sva4 LA5 B svb11 LB5 wr.heap.size ⟨0, nm, by_, n, slot⟩) := d12.swap
            clear d12
            go_wp2
            go_roundw
            case rel => exact ⟨k + 1, by omega, by omega, by go_num, HoldsI.of D12.out R5.out I5.out⟩
            case measure => simp only [intOf]; omega
          · generalize (accOr (getA LB5 nm)).by_ = bx at HBy hb
            have hb2 := text_ne hb
            have hb3 := text_ne' hb
            clear hb
            go_wp2_with fail
            refine HBy.mono ?_
            rintro e w9 ⟨rfl, d9⟩
            have D9 : Hid (Duo w w9 A sva4 LA5 B svb5 LB5 wr.heap.size ⟨0, nm, by_, n, slot⟩) := d9.swap
            clear d9 HBy k0 k1 k2 k3 k4
            go_wp2
            go_roundw
            case rel => exact ⟨k + 1, by omega, by omega, by go_num, HoldsI.of D9.out R5.out I5.out⟩
            case measure => simp only [intOf]; omega
        by_cases e1 : kd = 1
        · subst e1
          go_wp2_with fail
          refine (duo_hold HD.out.swap nm s).mono ?_
          rintro e w3 ⟨rfl, svb3, d3⟩
          have R3 : rw2 LA = rw2 (onP LB nm (holdP s)).2 := HR.out.trans (rw2_hold HD.out.b.fit.srt nm s).symm
          clear HR HD
          generalize (onP LB nm (holdP s)).1 = c3 at *
          generalize (onP LB nm (holdP s)).2 = LB3 at d3 R3
          have D3 : Hid (Duo w w3 A sva LA B svb3 LB3 wr.heap.size ⟨1, nm, by_, n, slot⟩) := d3.swap
          clear d3
          obtain ⟨k0, k1, k2, k3, k4⟩ := D3.out.cells
          simp only at k0 k1 k2 k3 k4
          clear q0 q1 q2 q3 q4
          obtain ⟨x1, x2⟩ := rw2_put R3 nm 0
          have I5 : Hid (Idle (putP LA nm 0).2) := idle_put HIA.out nm 0
          have HCA := duo_open D3.out nm HOK.out.nm
          have HCB : ∀ sx lx wx, Duo w wx A sx lx B svb3 LB3 wr.heap.size ⟨1, nm, by_, n, slot⟩ → _ := fun sx lx wx (d : Duo w wx A sx lx B svb3 LB3 wr.heap.size ⟨1, nm, by_, n, slot⟩) => duo_open d.swap nm HOK.out.nm
          rw [← x1] at HCB
          generalize (putP LA nm 0).1 = cx at HCA HCB
          generalize (putP LA nm 0).2 = LA5 at HCA x2 I5
          generalize (putP LB3 nm 0).2 = LB5 at HCB x2
          have R5 : Hid (rw2 LA5 = rw2 LB5) := x2
          clear x1 x2 D3 R3 HIA
          go_wp2_with fail
          refine HCA.mono ?_
          rintro e w4 ⟨rfl, sva4, d4⟩
          obtain ⟨k0, k1, k2, k3, k4⟩ := d4.cells
          simp only at k0 k1 k2 k3 k4
          have HCC := HCB _ _ _ d4
          clear HCA HCB d4
          go_wp2_with fail
          refine HCC.mono ?_
          rintro e w5 ⟨rfl, svb5, d5⟩
          have D5 : Hid (Duo w w5 A sva4 LA5 B svb5 LB5 wr.heap.size ⟨1, nm, by_, n, slot⟩) := d5.swap
          clear HCC d5
          obtain ⟨k0, k1, k2, k3, k4⟩ := D5.out.cells
          simp only at k0 k1 k2 k3 k4
          go_wp2_with fail
          refine (duo_rows D5.out HT.out).mono ?_
          rintro e w6 ⟨a6, c6, rfl, r6, b6⟩
          have D6 := D5.out.below b6
          have R6 : Hid (RowsAt w6 a6 (rw2 LA5).length (rw2 LA5)) := r6
          clear b6 D5 r6
          go_wp2_with fail
          refine (duo_rows D6.swap HT.out).mono ?_
          rintro e w7 ⟨a7, c7, rfl, r7, b7⟩
          have D7 : Hid (Duo w w7 A sva4 LA5 B svb5 LB5 wr.heap.size ⟨1, nm, by_, n, slot⟩) := D6.below b7
          have HS := sameRows_any a6 a7 _ c6 _ c7 (rw2 LA5) (rw2 LB5) w7 (R6.out.below b7) r7
          rw [decide_eq_true R5.out] at HS
          clear b7 r7 D6 R6
          go_wp2_with fail
          refine HS.mono ?_
          rintro e w8 ⟨rfl, nq, ew8⟩
          have D8 : Hid (Duo w w8 A sva4 LA5 B svb5 LB5 wr.heap.size ⟨1, nm, by_, n, slot⟩) := by rw [ew8]; exact D7.out.below (below_drewN' (Below.refl _ _) _)
          clear HS D7 ew8 k0 k1 k2 k3 k4
          obtain ⟨k0, k1, k2, k3, k4⟩ := D8.out.cells
          simp only at k0 k1 k2 k3 k4
          have HBy := duo_by D8.out.swap nm
          by_cases hb : (accOr (getA LB5 nm)).by_ = s
          · obtain ⟨f1, f2⟩ := held_firm hne0 hsm hb
            rw [hb] at HBy
            have HB9 : ∀ wx, Duo w wx B svb5 LB5 A sva4 LA5 wr.heap.size ⟨1, nm, by_, n, slot⟩ → _ := fun wx d => duo_hold d nm (s ++ ⟨#[120]⟩)
            have HB10 : ∀ sx wx, Duo w wx B sx LB5 A sva4 LA5 wr.heap.size ⟨1, nm, by_, n, slot⟩ → _ := fun sx wx d => duo_free d nm (s ++ ⟨#[120]⟩)
            have HB11 : ∀ sx wx, Duo w wx B sx LB5 A sva4 LA5 wr.heap.size ⟨1, nm, by_, n, slot⟩ → _ := fun sx wx d => duo_by d nm
            rw [f1] at HB9
            rw [f2] at HB10
            rw [hb] at HB11
            clear hb f1 f2
            go_wp2_with fail
            refine (HBy).mono ?_
            rintro e w9 ⟨rfl, d9⟩
            clear k0 k1 k2 k3 k4
            obtain ⟨k0, k1, k2, k3, k4⟩ := d9.cells
            simp only at k0 k1 k2 k3 k4
            go_wp2_with fail
            refine (HB9 w9 d9).mono ?_
            rintro e w10 ⟨rfl, svb10, d10⟩
            clear k0 k1 k2 k3 k4
            obtain ⟨k0, k1, k2, k3, k4⟩ := d10.cells
            simp only at k0 k1 k2 k3 k4
            clear HBy HB9 d9
            go_wp2_with fail
            refine (HB10 svb10 w10 d10).mono ?_
            rintro e w11 ⟨rfl, svb11, d11⟩
            clear k0 k1 k2 k3 k4
            obtain ⟨k0, k1, k2, k3, k4⟩ := d11.cells
            simp only at k0 k1 k2 k3 k4
            clear HB10 d10
            go_wp2_with fail
            refine (HB11 svb11 w11 d11).mono ?_
            rintro e w12 ⟨rfl, d12⟩
            clear k0 k1 k2 k3 k4
            obtain ⟨k0, k1, k2, k3, k4⟩ := d12.cells
            simp only at k0 k1 k2 k3 k4
            clear HB11 d11
            have D12 : Hid (Duo w w12 A sva4 LA5 B svb11 LB5 wr.heap.size ⟨1, nm, by_, n, slot⟩) := d12.swap
            clear d12
            go_wp2
            go_roundw
            case rel => exact ⟨k + 1, by omega, by omega, by go_num, HoldsI.of D12.out R5.out I5.out⟩
            case measure => simp only [intOf]; omega
          · generalize (accOr (getA LB5 nm)).by_ = bx at HBy hb
            have hb2 := text_ne hb
            have hb3 := text_ne' hb
            clear hb
            go_wp2_with fail
            refine HBy.mono ?_
            rintro e w9 ⟨rfl, d9⟩
            have D9 : Hid (Duo w w9 A sva4 LA5 B svb5 LB5 wr.heap.size ⟨1, nm, by_, n, slot⟩) := d9.swap
            clear d9 HBy k0 k1 k2 k3 k4
            go_wp2
            go_roundw
            case rel => exact ⟨k + 1, by omega, by omega, by go_num, HoldsI.of D9.out R5.out I5.out⟩
            case measure => simp only [intOf]; omega
        by_cases e2 : kd = 2
        · subst e2
          go_wp2_with fail
          refine (duo_hold HD.out.swap nm s).mono ?_
          rintro e w3 ⟨rfl, svb3, d3⟩
          have R3 : rw2 LA = rw2 (onP LB nm (holdP s)).2 := HR.out.trans (rw2_hold HD.out.b.fit.srt nm s).symm
          clear HR HD
          generalize (onP LB nm (holdP s)).1 = c3 at *
          generalize (onP LB nm (holdP s)).2 = LB3 at d3 R3
          have D3 : Hid (Duo w w3 A sva LA B svb3 LB3 wr.heap.size ⟨2, nm, by_, n, slot⟩) := d3.swap
          clear d3
          obtain ⟨k0, k1, k2, k3, k4⟩ := D3.out.cells
          simp only at k0 k1 k2 k3 k4
          clear q0 q1 q2 q3 q4
          obtain ⟨x1, x2⟩ := rw2_on R3 D3.out.a.fit.srt D3.out.b.fit.srt nm (blind_add n)
          have I5 : Hid (Idle (onP LA nm (addP n)).2) := idle_on HIA.out D3.out.a.fit.srt nm (blind_add n)
          have HCA := duo_add D3.out nm n HOK.out.n
          have HCB : ∀ sx lx wx, Duo w wx A sx lx B svb3 LB3 wr.heap.size ⟨2, nm, by_, n, slot⟩ → _ := fun sx lx wx (d : Duo w wx A sx lx B svb3 LB3 wr.heap.size ⟨2, nm, by_, n, slot⟩) => duo_add d.swap nm n HOK.out.n
          rw [← x1] at HCB
          generalize (onP LA nm (addP n)).1 = cx at HCA HCB
          generalize (onP LA nm (addP n)).2 = LA5 at HCA x2 I5
          generalize (onP LB3 nm (addP n)).2 = LB5 at HCB x2
          have R5 : Hid (rw2 LA5 = rw2 LB5) := x2
          clear x1 x2 D3 R3 HIA
          go_wp2_with fail
          refine HCA.mono ?_
          rintro e w4 ⟨rfl, sva4, d4⟩
          obtain ⟨k0, k1, k2, k3, k4⟩ := d4.cells
          simp only at k0 k1 k2 k3 k4
          have HCC := HCB _ _ _ d4
          clear HCA HCB d4
          go_wp2_with fail
          refine HCC.mono ?_
          rintro e w5 ⟨rfl, svb5, d5⟩
          have D5 : Hid (Duo w w5 A sva4 LA5 B svb5 LB5 wr.heap.size ⟨2, nm, by_, n, slot⟩) := d5.swap
          clear HCC d5
          obtain ⟨k0, k1, k2, k3, k4⟩ := D5.out.cells
          simp only at k0 k1 k2 k3 k4
          go_wp2_with fail
          refine (duo_rows D5.out HT.out).mono ?_
          rintro e w6 ⟨a6, c6, rfl, r6, b6⟩
          have D6 := D5.out.below b6
          have R6 : Hid (RowsAt w6 a6 (rw2 LA5).length (rw2 LA5)) := r6
          clear b6 D5 r6
          go_wp2_with fail
          refine (duo_rows D6.swap HT.out).mono ?_
          rintro e w7 ⟨a7, c7, rfl, r7, b7⟩
          have D7 : Hid (Duo w w7 A sva4 LA5 B svb5 LB5 wr.heap.size ⟨2, nm, by_, n, slot⟩) := D6.below b7
          have HS := sameRows_any a6 a7 _ c6 _ c7 (rw2 LA5) (rw2 LB5) w7 (R6.out.below b7) r7
          rw [decide_eq_true R5.out] at HS
          clear b7 r7 D6 R6
          go_wp2_with fail
          refine HS.mono ?_
          rintro e w8 ⟨rfl, nq, ew8⟩
          have D8 : Hid (Duo w w8 A sva4 LA5 B svb5 LB5 wr.heap.size ⟨2, nm, by_, n, slot⟩) := by rw [ew8]; exact D7.out.below (below_drewN' (Below.refl _ _) _)
          clear HS D7 ew8 k0 k1 k2 k3 k4
          obtain ⟨k0, k1, k2, k3, k4⟩ := D8.out.cells
          simp only at k0 k1 k2 k3 k4
          have HBy := duo_by D8.out.swap nm
          by_cases hb : (accOr (getA LB5 nm)).by_ = s
          · obtain ⟨f1, f2⟩ := held_firm hne0 hsm hb
            rw [hb] at HBy
            have HB9 : ∀ wx, Duo w wx B svb5 LB5 A sva4 LA5 wr.heap.size ⟨2, nm, by_, n, slot⟩ → _ := fun wx d => duo_hold d nm (s ++ ⟨#[120]⟩)
            have HB10 : ∀ sx wx, Duo w wx B sx LB5 A sva4 LA5 wr.heap.size ⟨2, nm, by_, n, slot⟩ → _ := fun sx wx d => duo_free d nm (s ++ ⟨#[120]⟩)
            have HB11 : ∀ sx wx, Duo w wx B sx LB5 A sva4 LA5 wr.heap.size ⟨2, nm, by_, n, slot⟩ → _ := fun sx wx d => duo_by d nm
            rw [f1] at HB9
            rw [f2] at HB10
            rw [hb] at HB11
            clear hb f1 f2
            go_wp2_with fail
            refine (HBy).mono ?_
            rintro e w9 ⟨rfl, d9⟩
            clear k0 k1 k2 k3 k4
            obtain ⟨k0, k1, k2, k3, k4⟩ := d9.cells
            simp only at k0 k1 k2 k3 k4
            go_wp2_with fail
            refine (HB9 w9 d9).mono ?_
            rintro e w10 ⟨rfl, svb10, d10⟩
            clear k0 k1 k2 k3 k4
            obtain ⟨k0, k1, k2, k3, k4⟩ := d10.cells
            simp only at k0 k1 k2 k3 k4
            clear HBy HB9 d9
            go_wp2_with fail
            refine (HB10 svb10 w10 d10).mono ?_
            rintro e w11 ⟨rfl, svb11, d11⟩
            clear k0 k1 k2 k3 k4
            obtain ⟨k0, k1, k2, k3, k4⟩ := d11.cells
            simp only at k0 k1 k2 k3 k4
            clear HB10 d10
            go_wp2_with fail
            refine (HB11 svb11 w11 d11).mono ?_
            rintro e w12 ⟨rfl, d12⟩
            clear k0 k1 k2 k3 k4
            obtain ⟨k0, k1, k2, k3, k4⟩ := d12.cells
            simp only at k0 k1 k2 k3 k4
            clear HB11 d11
            have D12 : Hid (Duo w w12 A sva4 LA5 B svb11 LB5 wr.heap.size ⟨2, nm, by_, n, slot⟩) := d12.swap
            clear d12
            go_wp2
            go_roundw
            case rel => exact ⟨k + 1, by omega, by omega, by go_num, HoldsI.of D12.out R5.out I5.out⟩
            case measure => simp only [intOf]; omega
          · generalize (accOr (getA LB5 nm)).by_ = bx at HBy hb
            have hb2 := text_ne hb
            have hb3 := text_ne' hb
            clear hb
            go_wp2_with fail
            refine HBy.mono ?_
            rintro e w9 ⟨rfl, d9⟩
            have D9 : Hid (Duo w w9 A sva4 LA5 B svb5 LB5 wr.heap.size ⟨2, nm, by_, n, slot⟩) := d9.swap
            clear d9 HBy k0 k1 k2 k3 k4
            go_wp2
            go_roundw
            case rel => exact ⟨k + 1, by omega, by omega, by go_num, HoldsI.of D9.out R5.out I5.out⟩
            case measure => simp only [intOf]; omega
        by_cases e3 : kd = 3
        · subst e3
          go_wp2_with fail
          refine (duo_hold HD.out.swap nm s).mono ?_
          rintro e w3 ⟨rfl, svb3, d3⟩
          have R3 : rw2 LA = rw2 (onP LB nm (holdP s)).2 := HR.out.trans (rw2_hold HD.out.b.fit.srt nm s).symm
          clear HR HD
          generalize (onP LB nm (holdP s)).1 = c3 at *
          generalize (onP LB nm (holdP s)).2 = LB3 at d3 R3
          have D3 : Hid (Duo w w3 A sva LA B svb3 LB3 wr.heap.size ⟨3, nm, by_, n, slot⟩) := d3.swap
          clear d3
          obtain ⟨k0, k1, k2, k3, k4⟩ := D3.out.cells
          simp only at k0 k1 k2 k3 k4
          clear q0 q1 q2 q3 q4
          obtain ⟨x1, x2⟩ := rw2_on R3 D3.out.a.fit.srt D3.out.b.fit.srt nm (blind_add n)
          have I5 : Hid (Idle (onP LA nm (addP n)).2) := idle_on HIA.out D3.out.a.fit.srt nm (blind_add n)
          have HCA := duo_add D3.out nm n HOK.out.n
          have HCB : ∀ sx lx wx, Duo w wx A sx lx B svb3 LB3 wr.heap.size ⟨3, nm, by_, n, slot⟩ → _ := fun sx lx wx (d : Duo w wx A sx lx B svb3 LB3 wr.heap.size ⟨3, nm, by_, n, slot⟩) => duo_add d.swap nm n HOK.out.n
          rw [← x1] at HCB
          generalize (onP LA nm (addP n)).1 = cx at HCA HCB
          generalize (onP LA nm (addP n)).2 = LA5 at HCA x2 I5
          generalize (onP LB3 nm (addP n)).2 = LB5 at HCB x2
          have R5 : Hid (rw2 LA5 = rw2 LB5) := x2
          clear x1 x2 D3 R3 HIA
          go_wp2_with fail
          refine HCA.mono ?_
          rintro e w4 ⟨rfl, sva4, d4⟩
          obtain ⟨k0, k1, k2, k3, k4⟩ := d4.cells
          simp only at k0 k1 k2 k3 k4
          have HCC := HCB _ _ _ d4
          clear HCA HCB d4
          go_wp2_with fail
          refine HCC.mono ?_
          rintro e w5 ⟨rfl, svb5, d5⟩
          have D5 : Hid (Duo w w5 A sva4 LA5 B svb5 LB5 wr.heap.size ⟨3, nm, by_, n, slot⟩) := d5.swap
          clear HCC d5
          obtain ⟨k0, k1, k2, k3, k4⟩ := D5.out.cells
          simp only at k0 k1 k2 k3 k4
          go_wp2_with fail
          refine (duo_rows D5.out HT.out).mono ?_
          rintro e w6 ⟨a6, c6, rfl, r6, b6⟩
          have D6 := D5.out.below b6
          have R6 : Hid (RowsAt w6 a6 (rw2 LA5).length (rw2 LA5)) := r6
          clear b6 D5 r6
          go_wp2_with fail
          refine (duo_rows D6.swap HT.out).mono ?_
          rintro e w7 ⟨a7, c7, rfl, r7, b7⟩
          have D7 : Hid (Duo w w7 A sva4 LA5 B svb5 LB5 wr.heap.size ⟨3, nm, by_, n, slot⟩) := D6.below b7
          have HS := sameRows_any a6 a7 _ c6 _ c7 (rw2 LA5) (rw2 LB5) w7 (R6.out.below b7) r7
          rw [decide_eq_true R5.out] at HS
          clear b7 r7 D6 R6
          go_wp2_with fail
          refine HS.mono ?_
          rintro e w8 ⟨rfl, nq, ew8⟩
          have D8 : Hid (Duo w w8 A sva4 LA5 B svb5 LB5 wr.heap.size ⟨3, nm, by_, n, slot⟩) := by rw [ew8]; exact D7.out.below (below_drewN' (Below.refl _ _) _)
          clear HS D7 ew8 k0 k1 k2 k3 k4
          obtain ⟨k0, k1, k2, k3, k4⟩ := D8.out.cells
          simp only at k0 k1 k2 k3 k4
          have HBy := duo_by D8.out.swap nm
          by_cases hb : (accOr (getA LB5 nm)).by_ = s
          · obtain ⟨f1, f2⟩ := held_firm hne0 hsm hb
            rw [hb] at HBy
            have HB9 : ∀ wx, Duo w wx B svb5 LB5 A sva4 LA5 wr.heap.size ⟨3, nm, by_, n, slot⟩ → _ := fun wx d => duo_hold d nm (s ++ ⟨#[120]⟩)
            have HB10 : ∀ sx wx, Duo w wx B sx LB5 A sva4 LA5 wr.heap.size ⟨3, nm, by_, n, slot⟩ → _ := fun sx wx d => duo_free d nm (s ++ ⟨#[120]⟩)
            have HB11 : ∀ sx wx, Duo w wx B sx LB5 A sva4 LA5 wr.heap.size ⟨3, nm, by_, n, slot⟩ → _ := fun sx wx d => duo_by d nm
            rw [f1] at HB9
            rw [f2] at HB10
            rw [hb] at HB11
            clear hb f1 f2
            go_wp2_with fail
            refine (HBy).mono ?_
            rintro e w9 ⟨rfl, d9⟩
            clear k0 k1 k2 k3 k4
            obtain ⟨k0, k1, k2, k3, k4⟩ := d9.cells
            simp only at k0 k1 k2 k3 k4
            go_wp2_with fail
            refine (HB9 w9 d9).mono ?_
            rintro e w10 ⟨rfl, svb10, d10⟩
            clear k0 k1 k2 k3 k4
            obtain ⟨k0, k1, k2, k3, k4⟩ := d10.cells
            simp only at k0 k1 k2 k3 k4
            clear HBy HB9 d9
            go_wp2_with fail
            refine (HB10 svb10 w10 d10).mono ?_
            rintro e w11 ⟨rfl, svb11, d11⟩
            clear k0 k1 k2 k3 k4
            obtain ⟨k0, k1, k2, k3, k4⟩ := d11.cells
            simp only at k0 k1 k2 k3 k4
            clear HB10 d10
            go_wp2_with fail
            refine (HB11 svb11 w11 d11).mono ?_
            rintro e w12 ⟨rfl, d12⟩
            clear k0 k1 k2 k3 k4
            obtain ⟨k0, k1, k2, k3, k4⟩ := d12.cells
            simp only at k0 k1 k2 k3 k4
            clear HB11 d11
            have D12 : Hid (Duo w w12 A sva4 LA5 B svb11 LB5 wr.heap.size ⟨3, nm, by_, n, slot⟩) := d12.swap
            clear d12
            go_wp2
            go_roundw
            case rel => exact ⟨k + 1, by omega, by omega, by go_num, HoldsI.of D12.out R5.out I5.out⟩
            case measure => simp only [intOf]; omega
          · generalize (accOr (getA LB5 nm)).by_ = bx at HBy hb
            have hb2 := text_ne hb
            have hb3 := text_ne' hb
            clear hb
            go_wp2_with fail
            refine HBy.mono ?_
            rintro e w9 ⟨rfl, d9⟩
            have D9 : Hid (Duo w w9 A sva4 LA5 B svb5 LB5 wr.heap.size ⟨3, nm, by_, n, slot⟩) := d9.swap
            clear d9 HBy k0 k1 k2 k3 k4
            go_wp2
            go_roundw
            case rel => exact ⟨k + 1, by omega, by omega, by go_num, HoldsI.of D9.out R5.out I5.out⟩
            case measure => simp only [intOf]; omega
        by_cases e4 : kd = 4
        · subst e4
          go_wp2_with fail
          refine (duo_hold HD.out.swap nm s).mono ?_
          rintro e w3 ⟨rfl, svb3, d3⟩
          have R3 : rw2 LA = rw2 (onP LB nm (holdP s)).2 := HR.out.trans (rw2_hold HD.out.b.fit.srt nm s).symm
          clear HR HD
          generalize (onP LB nm (holdP s)).1 = c3 at *
          generalize (onP LB nm (holdP s)).2 = LB3 at d3 R3
          have D3 : Hid (Duo w w3 A sva LA B svb3 LB3 wr.heap.size ⟨4, nm, by_, n, slot⟩) := d3.swap
          clear d3
          obtain ⟨k0, k1, k2, k3, k4⟩ := D3.out.cells
          simp only at k0 k1 k2 k3 k4
          clear q0 q1 q2 q3 q4
          obtain ⟨x1, x2⟩ := rw2_on R3 D3.out.a.fit.srt D3.out.b.fit.srt nm (blind_take n)
          have I5 : Hid (Idle (onP LA nm (takeP n)).2) := idle_on HIA.out D3.out.a.fit.srt nm (blind_take n)
          have HCA := duo_take D3.out nm n HOK.out.n
          have HCB : ∀ sx lx wx, Duo w wx A sx lx B svb3 LB3 wr.heap.size ⟨4, nm, by_, n, slot⟩ → _ := fun sx lx wx (d : Duo w wx A sx lx B svb3 LB3 wr.heap.size ⟨4, nm, by_, n, slot⟩) => duo_take d.swap nm n HOK.out.n
          rw [← x1] at HCB
          generalize (onP LA nm (takeP n)).1 = cx at HCA HCB
          generalize (onP LA nm (takeP n)).2 = LA5 at HCA x2 I5
          generalize (onP LB3 nm (takeP n)).2 = LB5 at HCB x2
          have R5 : Hid (rw2 LA5 = rw2 LB5) := x2
          clear x1 x2 D3 R3 HIA
          go_wp2_with fail
          refine HCA.mono ?_
          rintro e w4 ⟨rfl, sva4, d4⟩
          obtain ⟨k0, k1, k2, k3, k4⟩ := d4.cells
          simp only at k0 k1 k2 k3 k4
          have HCC := HCB _ _ _ d4
          clear HCA HCB d4
          go_wp2_with fail
          refine HCC.mono ?_
          rintro e w5 ⟨rfl, svb5, d5⟩
          have D5 : Hid (Duo w w5 A sva4 LA5 B svb5 LB5 wr.heap.size ⟨4, nm, by_, n, slot⟩) := d5.swap
          clear HCC d5
          obtain ⟨k0, k1, k2, k3, k4⟩ := D5.out.cells
          simp only at k0 k1 k2 k3 k4
          go_wp2_with fail
          refine (duo_rows D5.out HT.out).mono ?_
          rintro e w6 ⟨a6, c6, rfl, r6, b6⟩
          have D6 := D5.out.below b6
          have R6 : Hid (RowsAt w6 a6 (rw2 LA5).length (rw2 LA5)) := r6
          clear b6 D5 r6
          go_wp2_with fail
          refine (duo_rows D6.swap HT.out).mono ?_
          rintro e w7 ⟨a7, c7, rfl, r7, b7⟩
          have D7 : Hid (Duo w w7 A sva4 LA5 B svb5 LB5 wr.heap.size ⟨4, nm, by_, n, slot⟩) := D6.below b7
          have HS := sameRows_any a6 a7 _ c6 _ c7 (rw2 LA5) (rw2 LB5) w7 (R6.out.below b7) r7
          rw [decide_eq_true R5.out] at HS
          clear b7 r7 D6 R6
          go_wp2_with fail
          refine HS.mono ?_
          rintro e w8 ⟨rfl, nq, ew8⟩
          have D8 : Hid (Duo w w8 A sva4 LA5 B svb5 LB5 wr.heap.size ⟨4, nm, by_, n, slot⟩) := by rw [ew8]; exact D7.out.below (below_drewN' (Below.refl _ _) _)
          clear HS D7 ew8 k0 k1 k2 k3 k4
          obtain ⟨k0, k1, k2, k3, k4⟩ := D8.out.cells
          simp only at k0 k1 k2 k3 k4
          have HBy := duo_by D8.out.swap nm
          by_cases hb : (accOr (getA LB5 nm)).by_ = s
          · obtain ⟨f1, f2⟩ := held_firm hne0 hsm hb
            rw [hb] at HBy
            have HB9 : ∀ wx, Duo w wx B svb5 LB5 A sva4 LA5 wr.heap.size ⟨4, nm, by_, n, slot⟩ → _ := fun wx d => duo_hold d nm (s ++ ⟨#[120]⟩)
            have HB10 : ∀ sx wx, Duo w wx B sx LB5 A sva4 LA5 wr.heap.size ⟨4, nm, by_, n, slot⟩ → _ := fun sx wx d => duo_free d nm (s ++ ⟨#[120]⟩)
            have HB11 : ∀ sx wx, Duo w wx B sx LB5 A sva4 LA5 wr.heap.size ⟨4, nm, by_, n, slot⟩ → _ := fun sx wx d => duo_by d nm
            rw [f1] at HB9
            rw [f2] at HB10
            rw [hb] at HB11
            clear hb f1 f2
            go_wp2_with fail
            refine (HBy).mono ?_
            rintro e w9 ⟨rfl, d9⟩
            clear k0 k1 k2 k3 k4
            obtain ⟨k0, k1, k2, k3, k4⟩ := d9.cells
            simp only at k0 k1 k2 k3 k4
            go_wp2_with fail
            refine (HB9 w9 d9).mono ?_
            rintro e w10 ⟨rfl, svb10, d10⟩
            clear k0 k1 k2 k3 k4
            obtain ⟨k0, k1, k2, k3, k4⟩ := d10.cells
            simp only at k0 k1 k2 k3 k4
            clear HBy HB9 d9
            go_wp2_with fail
            refine (HB10 svb10 w10 d10).mono ?_
            rintro e w11 ⟨rfl, svb11, d11⟩
            clear k0 k1 k2 k3 k4
            obtain ⟨k0, k1, k2, k3, k4⟩ := d11.cells
            simp only at k0 k1 k2 k3 k4
            clear HB10 d10
            go_wp2_with fail
            refine (HB11 svb11 w11 d11).mono ?_
            rintro e w12 ⟨rfl, d12⟩
            clear k0 k1 k2 k3 k4
            obtain ⟨k0, k1, k2, k3, k4⟩ := d12.cells
            simp only at k0 k1 k2 k3 k4
            clear HB11 d11
            have D12 : Hid (Duo w w12 A sva4 LA5 B svb11 LB5 wr.heap.size ⟨4, nm, by_, n, slot⟩) := d12.swap
            clear d12
            go_wp2
            go_roundw
            case rel => exact ⟨k + 1, by omega, by omega, by go_num, HoldsI.of D12.out R5.out I5.out⟩
            case measure => simp only [intOf]; omega
          · generalize (accOr (getA LB5 nm)).by_ = bx at HBy hb
            have hb2 := text_ne hb
            have hb3 := text_ne' hb
            clear hb
            go_wp2_with fail
            refine HBy.mono ?_
            rintro e w9 ⟨rfl, d9⟩
            have D9 : Hid (Duo w w9 A sva4 LA5 B svb5 LB5 wr.heap.size ⟨4, nm, by_, n, slot⟩) := d9.swap
            clear d9 HBy k0 k1 k2 k3 k4
            go_wp2
            go_roundw
            case rel => exact ⟨k + 1, by omega, by omega, by go_num, HoldsI.of D9.out R5.out I5.out⟩
            case measure => simp only [intOf]; omega
        by_cases e5 : kd = 5
        · subst e5
          go_wp2_with fail
          refine (duo_hold HD.out.swap nm s).mono ?_
          rintro e w3 ⟨rfl, svb3, d3⟩
          have R3 : rw2 LA = rw2 (onP LB nm (holdP s)).2 := HR.out.trans (rw2_hold HD.out.b.fit.srt nm s).symm
          clear HR HD
          generalize (onP LB nm (holdP s)).1 = c3 at *
          generalize (onP LB nm (holdP s)).2 = LB3 at d3 R3
          have D3 : Hid (Duo w w3 A sva LA B svb3 LB3 wr.heap.size ⟨5, nm, by_, n, slot⟩) := d3.swap
          clear d3
          obtain ⟨k0, k1, k2, k3, k4⟩ := D3.out.cells
          simp only at k0 k1 k2 k3 k4
          clear q0 q1 q2 q3 q4
          obtain ⟨x1, x2⟩ := rw2_on R3 D3.out.a.fit.srt D3.out.b.fit.srt nm (blind_take n)
          have I5 : Hid (Idle (onP LA nm (takeP n)).2) := idle_on HIA.out D3.out.a.fit.srt nm (blind_take n)
          have HCA := duo_take D3.out nm n HOK.out.n
          have HCB : ∀ sx lx wx, Duo w wx A sx lx B svb3 LB3 wr.heap.size ⟨5, nm, by_, n, slot⟩ → _ := fun sx lx wx (d : Duo w wx A sx lx B svb3 LB3 wr.heap.size ⟨5, nm, by_, n, slot⟩) => duo_take d.swap nm n HOK.out.n
          rw [← x1] at HCB
          generalize (onP LA nm (takeP n)).1 = cx at HCA HCB
          generalize (onP LA nm (takeP n)).2 = LA5 at HCA x2 I5
          generalize (onP LB3 nm (takeP n)).2 = LB5 at HCB x2
          have R5 : Hid (rw2 LA5 = rw2 LB5) := x2
          clear x1 x2 D3 R3 HIA
          go_wp2_with fail
          refine HCA.mono ?_
          rintro e w4 ⟨rfl, sva4, d4⟩
          obtain ⟨k0, k1, k2, k3, k4⟩ := d4.cells
          simp only at k0 k1 k2 k3 k4
          have HCC := HCB _ _ _ d4
          clear HCA HCB d4
          go_wp2_with fail
          refine HCC.mono ?_
          rintro e w5 ⟨rfl, svb5, d5⟩
          have D5 : Hid (Duo w w5 A sva4 LA5 B svb5 LB5 wr.heap.size ⟨5, nm, by_, n, slot⟩) := d5.swap
          clear HCC d5
          obtain ⟨k0, k1, k2, k3, k4⟩ := D5.out.cells
          simp only at k0 k1 k2 k3 k4
          go_wp2_with fail
          refine (duo_rows D5.out HT.out).mono ?_
          rintro e w6 ⟨a6, c6, rfl, r6, b6⟩
          have D6 := D5.out.below b6
          have R6 : Hid (RowsAt w6 a6 (rw2 LA5).length (rw2 LA5)) := r6
          clear b6 D5 r6
          go_wp2_with fail
          refine (duo_rows D6.swap HT.out).mono ?_
          rintro e w7 ⟨a7, c7, rfl, r7, b7⟩
          have D7 : Hid (Duo w w7 A sva4 LA5 B svb5 LB5 wr.heap.size ⟨5, nm, by_, n, slot⟩) := D6.below b7
          have HS := sameRows_any a6 a7 _ c6 _ c7 (rw2 LA5) (rw2 LB5) w7 (R6.out.below b7) r7
          rw [decide_eq_true R5.out] at HS
          clear b7 r7 D6 R6
          go_wp2_with fail
          refine HS.mono ?_
          rintro e w8 ⟨rfl, nq, ew8⟩
          have D8 : Hid (Duo w w8 A sva4 LA5 B svb5 LB5 wr.heap.size ⟨5, nm, by_, n, slot⟩) := by rw [ew8]; exact D7.out.below (below_drewN' (Below.refl _ _) _)
          clear HS D7 ew8 k0 k1 k2 k3 k4
          obtain ⟨k0, k1, k2, k3, k4⟩ := D8.out.cells
          simp only at k0 k1 k2 k3 k4
          have HBy := duo_by D8.out.swap nm
          by_cases hb : (accOr (getA LB5 nm)).by_ = s
          · obtain ⟨f1, f2⟩ := held_firm hne0 hsm hb
            rw [hb] at HBy
            have HB9 : ∀ wx, Duo w wx B svb5 LB5 A sva4 LA5 wr.heap.size ⟨5, nm, by_, n, slot⟩ → _ := fun wx d => duo_hold d nm (s ++ ⟨#[120]⟩)
            have HB10 : ∀ sx wx, Duo w wx B sx LB5 A sva4 LA5 wr.heap.size ⟨5, nm, by_, n, slot⟩ → _ := fun sx wx d => duo_free d nm (s ++ ⟨#[120]⟩)
            have HB11 : ∀ sx wx, Duo w wx B sx LB5 A sva4 LA5 wr.heap.size ⟨5, nm, by_, n, slot⟩ → _ := fun sx wx d => duo_by d nm
            rw [f1] at HB9
            rw [f2] at HB10
            rw [hb] at HB11
            clear hb f1 f2
            go_wp2_with fail
            refine (HBy).mono ?_
            rintro e w9 ⟨rfl, d9⟩
            clear k0 k1 k2 k3 k4
            obtain ⟨k0, k1, k2, k3, k4⟩ := d9.cells
            simp only at k0 k1 k2 k3 k4
            go_wp2_with fail
            refine (HB9 w9 d9).mono ?_
            rintro e w10 ⟨rfl, svb10, d10⟩
            clear k0 k1 k2 k3 k4
            obtain ⟨k0, k1, k2, k3, k4⟩ := d10.cells
            simp only at k0 k1 k2 k3 k4
            clear HBy HB9 d9
            go_wp2_with fail
            refine (HB10 svb10 w10 d10).mono ?_
            rintro e w11 ⟨rfl, svb11, d11⟩
            clear k0 k1 k2 k3 k4
            obtain ⟨k0, k1, k2, k3, k4⟩ := d11.cells
            simp only at k0 k1 k2 k3 k4
            clear HB10 d10
            go_wp2_with fail
            refine (HB11 svb11 w11 d11).mono ?_
            rintro e w12 ⟨rfl, d12⟩
            clear k0 k1 k2 k3 k4
            obtain ⟨k0, k1, k2, k3, k4⟩ := d12.cells
            simp only at k0 k1 k2 k3 k4
            clear HB11 d11
            have D12 : Hid (Duo w w12 A sva4 LA5 B svb11 LB5 wr.heap.size ⟨5, nm, by_, n, slot⟩) := d12.swap
            clear d12
            go_wp2
            go_roundw
            case rel => exact ⟨k + 1, by omega, by omega, by go_num, HoldsI.of D12.out R5.out I5.out⟩
            case measure => simp only [intOf]; omega
          · generalize (accOr (getA LB5 nm)).by_ = bx at HBy hb
            have hb2 := text_ne hb
            have hb3 := text_ne' hb
            clear hb
            go_wp2_with fail
            refine HBy.mono ?_
            rintro e w9 ⟨rfl, d9⟩
            have D9 : Hid (Duo w w9 A sva4 LA5 B svb5 LB5 wr.heap.size ⟨5, nm, by_, n, slot⟩) := d9.swap
            clear d9 HBy k0 k1 k2 k3 k4
            go_wp2
            go_roundw
            case rel => exact ⟨k + 1, by omega, by omega, by go_num, HoldsI.of D9.out R5.out I5.out⟩
            case measure => simp only [intOf]; omega
        have f0 : (kd == 0) = false := by simpa using e0
        have f1 : (kd == 1) = false := by simpa using e1
        have f2 : (kd == 2) = false := by simpa using e2
        have f3 : (kd == 3) = false := by simpa using e3
        have f4 : (kd == 4) = false := by simpa using e4
        have f5 : (kd == 5) = false := by simpa using e5
        have f6 : (kd == 6) = false := by simpa using e6
        have f7 : (kd == 7) = false := by simpa using e7
        go_wp2_with fail
        refine (duo_hold HD.out.swap nm s).mono ?_
        rintro e w3 ⟨rfl, svb3, d3⟩
        have R3 : rw2 LA = rw2 (onP LB nm (holdP s)).2 := HR.out.trans (rw2_hold HD.out.b.fit.srt nm s).symm
        clear HR HD
        generalize (onP LB nm (holdP s)).1 = c3 at *
        generalize (onP LB nm (holdP s)).2 = LB3 at d3 R3
        have D3 : Hid (Duo w w3 A sva LA B svb3 LB3 wr.heap.size ⟨kd, nm, by_, n, slot⟩) := d3.swap
        clear d3
        obtain ⟨k0, k1, k2, k3, k4⟩ := D3.out.cells
        simp only at k0 k1 k2 k3 k4
        clear q0 q1 q2 q3 q4
        have D5 := D3
        have R5 : Hid (rw2 LA = rw2 LB3) := R3
        have I5 := HIA
        clear D3 R3 HIA
        go_wp2_with fail
        refine (duo_rows D5.out HT.out).mono ?_
        rintro e w6 ⟨a6, c6, rfl, r6, b6⟩
        have D6 := D5.out.below b6
        have R6 : Hid (RowsAt w6 a6 (rw2 LA).length (rw2 LA)) := r6
        clear b6 D5 r6
        go_wp2_with fail
        refine (duo_rows D6.swap HT.out).mono ?_
        rintro e w7 ⟨a7, c7, rfl, r7, b7⟩
        have D7 : Hid (Duo w w7 A sva LA B svb3 LB3 wr.heap.size ⟨kd, nm, by_, n, slot⟩) := D6.below b7
        have HS := sameRows_any a6 a7 _ c6 _ c7 (rw2 LA) (rw2 LB3) w7 (R6.out.below b7) r7
        rw [decide_eq_true R5.out] at HS
        clear b7 r7 D6 R6
        go_wp2_with fail
        refine HS.mono ?_
        rintro e w8 ⟨rfl, nq, ew8⟩
        have D8 : Hid (Duo w w8 A sva LA B svb3 LB3 wr.heap.size ⟨kd, nm, by_, n, slot⟩) := by rw [ew8]; exact D7.out.below (below_drewN' (Below.refl _ _) _)
        clear HS D7 ew8 k0 k1 k2 k3 k4
        obtain ⟨k0, k1, k2, k3, k4⟩ := D8.out.cells
        simp only at k0 k1 k2 k3 k4
        have HBy := duo_by D8.out.swap nm
        by_cases hb : (accOr (getA LB3 nm)).by_ = s
        · obtain ⟨f1, f2⟩ := held_firm hne0 hsm hb
          rw [hb] at HBy
          have HB9 : ∀ wx, Duo w wx B svb3 LB3 A sva LA wr.heap.size ⟨kd, nm, by_, n, slot⟩ → _ := fun wx d => duo_hold d nm (s ++ ⟨#[120]⟩)
          have HB10 : ∀ sx wx, Duo w wx B sx LB3 A sva LA wr.heap.size ⟨kd, nm, by_, n, slot⟩ → _ := fun sx wx d => duo_free d nm (s ++ ⟨#[120]⟩)
          have HB11 : ∀ sx wx, Duo w wx B sx LB3 A sva LA wr.heap.size ⟨kd, nm, by_, n, slot⟩ → _ := fun sx wx d => duo_by d nm
          rw [f1] at HB9
          rw [f2] at HB10
          rw [hb] at HB11
          clear hb f1 f2
          go_wp2_with fail
          refine (HBy).mono ?_
          rintro e w9 ⟨rfl, d9⟩
          clear k0 k1 k2 k3 k4
          obtain ⟨k0, k1, k2, k3, k4⟩ := d9.cells
          simp only at k0 k1 k2 k3 k4
          go_wp2_with fail
          refine (HB9 w9 d9).mono ?_
          rintro e w10 ⟨rfl, svb10, d10⟩
          clear k0 k1 k2 k3 k4
          obtain ⟨k0, k1, k2, k3, k4⟩ := d10.cells
          simp only at k0 k1 k2 k3 k4
          clear HBy HB9 d9
          go_wp2_with fail
          refine (HB10 svb10 w10 d10).mono ?_
          rintro e w11 ⟨rfl, svb11, d11⟩
          clear k0 k1 k2 k3 k4
          obtain ⟨k0, k1, k2, k3, k4⟩ := d11.cells
          simp only at k0 k1 k2 k3 k4
          clear HB10 d10
          go_wp2_with fail
          refine (HB11 svb11 w11 d11).mono ?_
          rintro e w12 ⟨rfl, d12⟩
          clear k0 k1 k2 k3 k4
          obtain ⟨k0, k1, k2, k3, k4⟩ := d12.cells
          simp only at k0 k1 k2 k3 k4
          clear HB11 d11
          have D12 : Hid (Duo w w12 A sva LA B svb11 LB3 wr.heap.size ⟨kd, nm, by_, n, slot⟩) := d12.swap
          clear d12
          go_wp2
          go_roundw
          case rel => exact ⟨k + 1, by omega, by omega, by go_num, HoldsI.of D12.out R5.out I5.out⟩
          case measure => simp only [intOf]; omega
        · generalize (accOr (getA LB3 nm)).by_ = bx at HBy hb
          have hb2 := text_ne hb
          have hb3 := text_ne' hb
          clear hb
          go_wp2_with fail
          refine HBy.mono ?_
          rintro e w9 ⟨rfl, d9⟩
          have D9 : Hid (Duo w w9 A sva LA B svb3 LB3 wr.heap.size ⟨kd, nm, by_, n, slot⟩) := d9.swap
          clear d9 HBy k0 k1 k2 k3 k4
          go_wp2
          go_roundw
          case rel => exact ⟨k + 1, by omega, by omega, by go_num, HoldsI.of D9.out R5.out I5.out⟩
          case measure => simp only [intOf]; omega
    · by_cases hl1 : k < len
      · have hl1' : (k : Int) < (len : Int) := by omega
        have hl2' : ¬ (k : Int) < 80 := by omega
        go_wp2_with fail
        obtain ⟨sva, LA, svb, LB, h1, h2, h3, h4, h5, h6, h7⟩ := HI.out
        have HH := held_any h1
        rw [idle_held h7] at HH
        refine HH.mono ?_
        rintro e w3 ⟨rfl, b3⟩
        have B3 : Hid (Below w.heap.size w w3) := h5.trans (b3.mono h5.size)
        clear HH b3 h1 h2 h3 h4 h5 h6 h7 HI
        go_wp2_with fail
        refine (knownB_any w3).mono ?_
        rintro e wK ⟨rfl, bK⟩
        have BK : Hid (Below w.heap.size w wK) := B3.out.trans (bK.mono B3.out.size)
        clear bK
        go_wp2
        go_ret
        exact ⟨rfl, BK.out⟩
      · have hl1' : ¬ (k : Int) < (len : Int) := by omega
        go_wp2_with fail
        obtain ⟨sva, LA, svb, LB, h1, h2, h3, h4, h5, h6, h7⟩ := HI.out
        have HH := held_any h1
        rw [idle_held h7] at HH
        refine HH.mono ?_
        rintro e w3 ⟨rfl, b3⟩
        have B3 : Hid (Below w.heap.size w w3) := h5.trans (b3.mono h5.size)
        clear HH b3 h1 h2 h3 h4 h5 h6 h7 HI
        go_wp2_with fail
        refine (knownB_any w3).mono ?_
        rintro e wK ⟨rfl, bK⟩
        have BK : Hid (Below w.heap.size w wK) := B3.out.trans (bK.mono B3.out.size)
        clear bK
        go_wp2
        go_ret
        exact ⟨rfl, BK.out⟩
end Go.Proofs.YtabhgdmmljhpcaaDoor
