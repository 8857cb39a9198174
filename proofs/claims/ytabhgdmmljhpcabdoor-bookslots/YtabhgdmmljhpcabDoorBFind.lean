/- Package book: an account is found by its name. -/
import Derived.Test.YtabhgdmmljhpcabDoorBMem
import Derived.Deep.LoopGhost
namespace Go.Proofs.YtabhgdmmljhpcabDoor
open Go.RowKit
set_option linter.unusedVariables false

set_option maxHeartbeats 1000000 in
set_option maxRecDepth 100000 in
theorem cmpString_any (a b : ByteArray) (w : World) : Calls Tryd.prog 48 #[.string a, .string b] w fun e w' => e = .returned (.int .i64 (cmpT a b)) ∧ w' = w := by
  go_enter Tryd.func48, Tryd.ntmps48
  go_wp2
  rw [run_callFunc_extern Tryd.func54 (by kernel_rfl) (by kernel_rfl) (by kernel_rfl) (e := Extern.BytealgCompare.compare) (by kernel_rfl), Lib.run_compareString]
  simp only [Result.andThen]
  rw [Oper.upon_value]
  go_wp2
  go_ret
  exact ⟨rfl, rfl⟩
set_option maxHeartbeats 1000000 in
set_option maxRecDepth 100000 in
theorem compareS_any (a b : ByteArray) (w : World) : Calls Tryd.prog 38 #[.string a, .string b] w fun e w' => e = .returned (.int .i64 (cmpT a b)) ∧ w' = w := by
  go_enter Tryd.func38, Tryd.ntmps38
  go_wp2_with (go_at_call 48; refine (cmpString_any _ _ _).mono ?_; rintro e w' ⟨rfl, rfl⟩)
  go_ret
  exact ⟨rfl, rfl⟩
set_option maxRecDepth 100000 in
theorem place1_any (nm : ByteArray) (amt : Int) (by_ s : ByteArray) (w : World) : Calls Tryd.prog 37 #[.agg #[.string nm, .int .i64 amt, .string by_], .string s] w fun e w' => e = .returned (.int .i64 (cmpT nm s)) ∧ Below w.heap.size w w' := by
  have HC := fun W => compareS_any nm s W
  have BB : Hid (Below w.heap.size w (w.alloc (.cells #[.string nm, .int .i64 amt, .string by_] 42))) := (Below.refl _ w).alloc (Nat.le_refl _) _
  go_enter Tryd.func37, Tryd.ntmps37
  go_wp2_with (go_at_call 38; refine (HC _).mono ?_; rintro e w1 ⟨rfl, rfl⟩)
  go_ret
  exact ⟨rfl, BB.out⟩
set_option maxRecDepth 100000 in
set_option maxHeartbeats 4000000 in
theorem bsearch_any (a : Option Addr) (cap : Nat) (l : List Acc) (t : ByteArray) (w : World) (hP : AccsAt w a l) (hr : Sorted l) (hl : l.length ≤ 100000) :
    Calls Tryd.prog 36 #[.slice a l.length cap, .string t, .func (.func 37) #[] #[]] w fun e w' => e = .returned (.tuple #[.int .i64 (under l t : Nat), .bool (hasN l t)]) ∧ Below w.heap.size w w' := by
  have HP : Hid (AccsAt w a l) := hP
  have HR : Hid (Sorted l) := hr
  have HLL : Hid (l.length ≤ 100000) := hl
  obtain ⟨cnt, ecnt⟩ : ∃ c, under l t = c := ⟨_, rfl⟩
  have CN : Hid (under l t = cnt) := ecnt
  obtain ⟨fin, efin⟩ : ∃ c, hasN l t = c := ⟨_, rfl⟩
  have FN : Hid (hasN l t = fin) := efin
  rw [ecnt, efin]
  obtain ⟨n, en⟩ : ∃ n, l.length = n := ⟨_, rfl⟩
  have EN : Hid (l.length = n) := en
  rw [en]
  have hn : n ≤ 100000 := by omega
  clear ecnt efin en hP hr hl
  go_enter Tryd.func36, Tryd.ntmps36
  go_wp2
  go_loopg [9, 10] n (fun kx s9 s10 wr => ∃ lo hi : Nat, s9 = .int .i64 lo ∧ s10 = .int .i64 hi ∧ lo ≤ hi ∧ hi ≤ n ∧ hi - lo ≤ kx ∧ Hid (Below w.heap.size w wr) ∧
    Hid ((∀ j (hj : j < l.length), j < lo → Ahead l[j].nm t) ∧ (∀ j (hj : j < l.length), hi ≤ j → ¬ Ahead l[j].nm t)))
  case atStart => exact ⟨0, n, rfl, rfl, Nat.zero_le _, Nat.le_refl _, by omega, Below.refl _ _, ⟨fun j hj h => by omega, fun j hj h => by have := EN.out; omega⟩⟩
  case round =>
    obtain ⟨lo, hi, rfl, rfl, hlh, hin, hg, S1, I⟩ := hrel
    by_cases hlt : lo < hi
    · have hm : (lo + hi) / 2 < l.length := by have := EN.out; omega
      obtain ⟨g, o, ea, c0, c1, c2⟩ := (HP.out.below S1.out).at hm
      subst ea
      obtain ⟨y, ey⟩ : ∃ y, l[(lo + hi) / 2] = y := ⟨_, rfl⟩
      rw [ey] at c0 c1 c2
      have Y : Hid (∀ h, l[(lo + hi) / 2]'h = y) := fun _ => ey
      have hcc := place1_any y.nm y.amt y.by_ t wr
      have HM : Hid ((lo + hi) / 2 < l.length) := hm
      clear ey hm
      obtain ⟨f, tt, dv⟩ := y
      simp only at c0 c1 c2 hcc
      by_cases hyx : Ahead f t
      · have h0 : cmpT f t < 0 := (cmpT_neg _ _).2 hyx
        have HY : Hid (Ahead f t) := hyx
        obtain ⟨cv, ecv⟩ : ∃ cv, cmpT f t = cv := ⟨_, rfl⟩
        rw [ecv] at hcc h0
        clear ecv hyx
        go_wp2_with (go_at_call 37; refine hcc.mono ?_; rintro e w' ⟨rfl, b'⟩)
        go_roundg (hi - ((lo + hi) / 2 + 1))
        case measure => omega
        case rel =>
          have I2 : Hid ((∀ j (hj : j < l.length), j < (lo + hi) / 2 + 1 → Ahead l[j].nm t) ∧ (∀ j (hj : j < l.length), hi ≤ j → ¬ Ahead l[j].nm t)) := ⟨fun j hj h => by
            have e2 : Ahead (l[(lo + hi) / 2]'HM.out).nm t := by rw [Y.out]; exact HY.out
            rcases Nat.lt_or_ge j ((lo + hi) / 2) with x | x
            · exact ahead_trans ((List.pairwise_iff_getElem.1 HR.out) j ((lo + hi) / 2) hj HM.out x) e2
            · have e3 : j = (lo + hi) / 2 := by omega
              subst e3
              exact e2, I.out.2⟩
          exact ⟨(lo + hi) / 2 + 1, hi, by rw [show ((lo : Int) + (hi : Int)) / 2 + 1 = (((lo + hi) / 2 + 1 : Nat) : Int) by omega], rfl, by omega, hin, Nat.le_refl _, S1.out.trans (b'.mono S1.out.size), I2⟩
      · have h0 : ¬ cmpT f t < 0 := fun h => hyx ((cmpT_neg _ _).1 h)
        have HY : Hid (¬ Ahead f t) := hyx
        obtain ⟨cv, ecv⟩ : ∃ cv, cmpT f t = cv := ⟨_, rfl⟩
        rw [ecv] at hcc h0
        clear ecv hyx
        go_wp2_with (go_at_call 37; refine hcc.mono ?_; rintro e w' ⟨rfl, b'⟩)
        go_roundg ((lo + hi) / 2 - lo)
        case measure => omega
        case rel =>
          have I2 : Hid ((∀ j (hj : j < l.length), j < lo → Ahead l[j].nm t) ∧ (∀ j (hj : j < l.length), (lo + hi) / 2 ≤ j → ¬ Ahead l[j].nm t)) := ⟨I.out.1, fun j hj h => by
            have e2 : ¬ Ahead (l[(lo + hi) / 2]'HM.out).nm t := by rw [Y.out]; exact HY.out
            rcases Nat.lt_or_ge ((lo + hi) / 2) j with x | x
            · exact fun q => e2 (ahead_trans ((List.pairwise_iff_getElem.1 HR.out) ((lo + hi) / 2) j HM.out hj x) q)
            · have e3 : j = (lo + hi) / 2 := by omega
              subst e3
              exact e2⟩
          exact ⟨lo, (lo + hi) / 2, rfl, by rw [show ((lo : Int) + (hi : Int)) / 2 = (((lo + hi) / 2 : Nat) : Int) by omega], by omega, by omega, Nat.le_refl _, S1.out.trans (b'.mono S1.out.size), I2⟩
    · obtain rfl : hi = lo := by omega
      have ec : cnt = hi := by
        rw [← CN.out]
        exact under_split HR.out (by have := EN.out; omega) I.out.1 I.out.2
      subst ec
      by_cases hn2 : cnt < n
      · have hm : cnt < l.length := by have := EN.out; omega
        obtain ⟨g, o, ea, c0, c1, c2⟩ := (HP.out.below S1.out).at hm
        subst ea
        obtain ⟨y, ey⟩ : ∃ y, l[cnt] = y := ⟨_, rfl⟩
        rw [ey] at c0 c1 c2
        have Y : Hid (∀ h, l[cnt]'h = y) := fun _ => ey
        have hcc := place1_any y.nm y.amt y.by_ t wr
        have HM : Hid (cnt < l.length) := hm
        clear ey hm
        obtain ⟨f, tt, dv⟩ := y
        simp only at c0 c1 c2 hcc
        by_cases hyx : f = t
        · have h0 : cmpT f t = 0 := (cmpT_zero _ _).2 hyx
          rw [h0] at hcc
          have ef : fin = true := by
            rw [← FN.out, hasN_iff HR.out]
            exact ⟨by rw [CN.out]; exact HM.out, by simp only [CN.out]; rw [Y.out]; exact hyx⟩
          have EF : Hid (fin = true) := ef
          clear h0 ef hyx
          go_wp2_with (go_at_call 37; refine hcc.mono ?_; rintro e w' ⟨rfl, b'⟩)
          go_ret2
          exact ⟨by rw [EF.out]; rfl, S1.out.trans (b'.mono S1.out.size)⟩
        · have h0 : ¬ cmpT f t = 0 := fun h => hyx ((cmpT_zero _ _).1 h)
          have ef : fin = false := by
            rw [← FN.out, Bool.eq_false_iff]
            intro h
            obtain ⟨hk, e2⟩ := (hasN_iff HR.out t).1 h
            simp only [CN.out] at e2
            rw [Y.out] at e2
            exact hyx e2
          have EF : Hid (fin = false) := ef
          obtain ⟨cv, ecv⟩ : ∃ cv, cmpT f t = cv := ⟨_, rfl⟩
          rw [ecv] at hcc h0
          have h1 : (cv == 0) = false := by simpa using h0
          clear ecv ef hyx
          go_wp2_with (go_at_call 37; refine hcc.mono ?_; rintro e w' ⟨rfl, b'⟩)
          go_ret2
          exact ⟨by rw [EF.out]; rfl, S1.out.trans (b'.mono S1.out.size)⟩
      · have ef : fin = false := by
          rw [← FN.out, Bool.eq_false_iff]
          intro h
          obtain ⟨hk, e2⟩ := (hasN_iff HR.out t).1 h
          have := CN.out
          have := EN.out
          omega
        have EF : Hid (fin = false) := ef
        clear ef
        go_wp2
        go_ret2
        exact ⟨by rw [EF.out]; rfl, S1.out⟩
section
variable {w : World} {base N : Nat} {sv : Value} {L : List Acc}
set_option maxRecDepth 100000 in
theorem place_any (h : BookIn w base N sv L) (t : ByteArray) :
    Calls Tryd.prog 23 #[.pointer (some ⟨N, 0, none⟩), .string t] w fun e w' => e = .returned (.tuple #[.int .i64 (under L t : Nat), .bool (hasN L t)]) ∧ Below w.heap.size w w' := by
  obtain ⟨a, cap, esv, hA, _⟩ := row_accs h.row rfl
  have HB := bsearch_any a cap L t w hA h.fit.srt (by have := h.fit.len; omega)
  have c0 := h.c0
  subst esv
  obtain ⟨n, en⟩ : ∃ n, L.length = n := ⟨_, rfl⟩
  obtain ⟨c, ec⟩ : ∃ c, under L t = c := ⟨_, rfl⟩
  obtain ⟨f, ef⟩ : ∃ f, hasN L t = f := ⟨_, rfl⟩
  rw [en, ec, ef] at HB
  rw [ec, ef]
  rw [en] at c0
  clear h hA en ec ef
  go_enter Tryd.func23, Tryd.ntmps23
  go_wp2_with fail
  refine HB.mono ?_
  rintro e w' ⟨rfl, b'⟩
  have B' : Hid (Below w.heap.size w w') := b'
  clear b' HB
  go_wp2
  go_ret2
  exact ⟨rfl, B'.out⟩
end
end Go.Proofs.YtabhgdmmljhpcabDoor
