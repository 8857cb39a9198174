/- Package net: a box is searched by turns. -/
import Derived.Test.YtccmehbdnnelhaaNCmp
import Derived.Deep.LoopGhost
namespace Go.Proofs.Ytccmehbdnnelhaa
open Go.RowKit
set_option linter.unusedVariables false

theorem PostsAt.at {w : World} {a : Option Addr} {l : List Post} (h : PostsAt w a l) {i : Nat} (hi : i < l.length) : ∃ g o, a = some ⟨g, o, none⟩ ∧ w.cell? ⟨g, o + i * 4, none⟩ = some (.int .i64 l[i].fr) ∧ w.cell? ⟨g, o + i * 4 + 1, none⟩ = some (.int .i64 l[i].to) ∧ w.cell? ⟨g, o + i * 4 + 2, none⟩ = some l[i].dv ∧ w.cell? ⟨g, o + i * 4 + 3, none⟩ = some (.int .i64 (l[i].t : Int)) := by
  rcases h with h | ⟨g, o, e, hc⟩
  · rw [h] at hi; simp at hi
  · exact ⟨g, o, e, hc i hi⟩
theorem cmpI_neg (x y : Nat) : cmpI (x : Int) (y : Int) < 0 ↔ x < y := by
  unfold cmpI
  by_cases h1 : (x : Int) < (y : Int)
  · rw [if_pos h1]; omega
  · rw [if_neg h1]
    by_cases h2 : (y : Int) < (x : Int)
    · rw [if_pos h2]; omega
    · rw [if_neg h2]; omega
theorem cmpI_zero (x y : Nat) : cmpI (x : Int) (y : Int) = 0 ↔ x = y := by
  unfold cmpI
  by_cases h1 : (x : Int) < (y : Int)
  · rw [if_pos h1]; omega
  · rw [if_neg h1]
    by_cases h2 : (y : Int) < (x : Int)
    · rw [if_pos h2]; omega
    · rw [if_neg h2]; omega
theorem under_split {l : List Post} (h : Rising l) {i t : Nat} (hi : i ≤ l.length) (h1 : ∀ j (hj : j < l.length), j < i → l[j].t < t) (h2 : ∀ j (hj : j < l.length), i ≤ j → ¬ l[j].t < t) : under l t = i := by
  have a1 : ¬ i < under l t := fun x => by obtain ⟨hk, y⟩ := (lt_under h).1 x; exact h2 i hk (Nat.le_refl _) y
  cases i with
  | zero => omega
  | succ i => have := (lt_under h (k := i) (t := t)).2 ⟨by omega, h1 i (by omega) (by omega)⟩; omega
def hasT (l : List Post) (t : Nat) : Bool := l.any (fun p => p.t == t)
theorem hasT_iff {l : List Post} (h : Rising l) (t : Nat) : hasT l t = true ↔ ∃ hk : under l t < l.length, l[under l t].t = t := by
  rw [← found_at h]
  unfold hasT
  simp
set_option maxRecDepth 100000 in
set_option maxHeartbeats 4000000 in
theorem bsearch_any (a : Option Addr) (cap : Nat) (l : List Post) (t : Nat) (w : World) (hP : PostsAt w a l) (hr : Rising l) (hl : l.length ≤ 100000) :
    Calls Try.prog 44 #[.slice a l.length cap, .int .i64 (t : Int), .func (.func 45) #[] #[]] w fun e w' => e = .returned (.tuple #[.int .i64 (under l t : Nat), .bool (hasT l t)]) ∧ Below w.heap.size w w' := by
  have HP : Hid (PostsAt w a l) := hP
  have HR : Hid (Rising l) := hr
  have HLL : Hid (l.length ≤ 100000) := hl
  obtain ⟨cnt, ecnt⟩ : ∃ c, under l t = c := ⟨_, rfl⟩
  have CN : Hid (under l t = cnt) := ecnt
  obtain ⟨fin, efin⟩ : ∃ c, hasT l t = c := ⟨_, rfl⟩
  have FN : Hid (hasT l t = fin) := efin
  rw [ecnt, efin]
  obtain ⟨n, en⟩ : ∃ n, l.length = n := ⟨_, rfl⟩
  have EN : Hid (l.length = n) := en
  rw [en]
  have hn : n ≤ 100000 := by omega
  clear ecnt efin en hP hr hl
  go_enter Try.func44, Try.ntmps44
  go_wp2
  go_loopg [9, 10] n (fun kx s9 s10 wr => ∃ lo hi : Nat, s9 = .int .i64 lo ∧ s10 = .int .i64 hi ∧ lo ≤ hi ∧ hi ≤ n ∧ hi - lo ≤ kx ∧ Hid (Below w.heap.size w wr) ∧
    Hid ((∀ j (hj : j < l.length), j < lo → l[j].t < t) ∧ (∀ j (hj : j < l.length), hi ≤ j → ¬ l[j].t < t)))
  case atStart => exact ⟨0, n, rfl, rfl, Nat.zero_le _, Nat.le_refl _, by omega, Below.refl _ _, ⟨fun j hj h => by omega, fun j hj h => by have := EN.out; omega⟩⟩
  case round =>
    obtain ⟨lo, hi, rfl, rfl, hlh, hin, hg, S1, I⟩ := hrel
    by_cases hlt : lo < hi
    · have hm : (lo + hi) / 2 < l.length := by have := EN.out; omega
      obtain ⟨g, o, ea, c0, c1, c2, c3⟩ := (HP.out.below S1.out).at hm
      subst ea
      obtain ⟨y, ey⟩ : ∃ y, l[(lo + hi) / 2] = y := ⟨_, rfl⟩
      rw [ey] at c0 c1 c2 c3
      have Y : Hid (∀ h, l[(lo + hi) / 2]'h = y) := fun _ => ey
      have hcc := place1_any y.fr y.to y.dv (y.t : Int) (t : Int) wr
      have HM : Hid ((lo + hi) / 2 < l.length) := hm
      clear ey hm
      obtain ⟨f, tt, dv, bb, yt⟩ := y
      simp only at c0 c1 c2 c3 hcc
      by_cases hyx : yt < t
      · have h0 : cmpI (yt : Int) (t : Int) < 0 := (cmpI_neg _ _).2 hyx
        obtain ⟨cv, ecv⟩ : ∃ cv, cmpI (yt : Int) (t : Int) = cv := ⟨_, rfl⟩
        rw [ecv] at hcc h0
        clear ecv
        go_wp2_with (go_at_call 45; refine hcc.mono ?_; rintro e w' ⟨rfl, b'⟩)
        go_roundg (hi - ((lo + hi) / 2 + 1))
        case measure => omega
        case rel =>
          have I2 : Hid ((∀ j (hj : j < l.length), j < (lo + hi) / 2 + 1 → l[j].t < t) ∧ (∀ j (hj : j < l.length), hi ≤ j → ¬ l[j].t < t)) := ⟨fun j hj h => by
            have e2 : (l[(lo + hi) / 2]'HM.out).t = yt := by rw [Y.out]
            rcases Nat.lt_or_ge j ((lo + hi) / 2) with x | x
            · have := (List.pairwise_iff_getElem.1 HR.out) j ((lo + hi) / 2) hj HM.out x
              omega
            · have e3 : j = (lo + hi) / 2 := by omega
              subst e3
              omega, I.out.2⟩
          exact ⟨(lo + hi) / 2 + 1, hi, by rw [show ((lo : Int) + (hi : Int)) / 2 + 1 = (((lo + hi) / 2 + 1 : Nat) : Int) by omega], rfl, by omega, hin, Nat.le_refl _, S1.out.trans (b'.mono S1.out.size), I2⟩
      · have h0 : ¬ cmpI (yt : Int) (t : Int) < 0 := fun h => hyx ((cmpI_neg _ _).1 h)
        obtain ⟨cv, ecv⟩ : ∃ cv, cmpI (yt : Int) (t : Int) = cv := ⟨_, rfl⟩
        rw [ecv] at hcc h0
        clear ecv
        go_wp2_with (go_at_call 45; refine hcc.mono ?_; rintro e w' ⟨rfl, b'⟩)
        go_roundg ((lo + hi) / 2 - lo)
        case measure => omega
        case rel =>
          have I2 : Hid ((∀ j (hj : j < l.length), j < lo → l[j].t < t) ∧ (∀ j (hj : j < l.length), (lo + hi) / 2 ≤ j → ¬ l[j].t < t)) := ⟨I.out.1, fun j hj h => by
            have e2 : (l[(lo + hi) / 2]'HM.out).t = yt := by rw [Y.out]
            rcases Nat.lt_or_ge ((lo + hi) / 2) j with x | x
            · have := (List.pairwise_iff_getElem.1 HR.out) ((lo + hi) / 2) j HM.out hj x
              omega
            · have e3 : j = (lo + hi) / 2 := by omega
              subst e3
              omega⟩
          exact ⟨lo, (lo + hi) / 2, rfl, by rw [show ((lo : Int) + (hi : Int)) / 2 = (((lo + hi) / 2 : Nat) : Int) by omega], by omega, by omega, Nat.le_refl _, S1.out.trans (b'.mono S1.out.size), I2⟩
    · obtain rfl : hi = lo := by omega
      have ec : cnt = hi := by
        rw [← CN.out]
        exact under_split HR.out (by have := EN.out; omega) I.out.1 I.out.2
      subst ec
      by_cases hn2 : cnt < n
      · have hm : cnt < l.length := by have := EN.out; omega
        obtain ⟨g, o, ea, c0, c1, c2, c3⟩ := (HP.out.below S1.out).at hm
        subst ea
        obtain ⟨y, ey⟩ : ∃ y, l[cnt] = y := ⟨_, rfl⟩
        rw [ey] at c0 c1 c2 c3
        have Y : Hid (∀ h, l[cnt]'h = y) := fun _ => ey
        have hcc := place1_any y.fr y.to y.dv (y.t : Int) (t : Int) wr
        have HM : Hid (cnt < l.length) := hm
        clear ey hm
        obtain ⟨f, tt, dv, bb, yt⟩ := y
        simp only at c0 c1 c2 c3 hcc
        by_cases hyx : yt = t
        · have h0 : cmpI (yt : Int) (t : Int) = 0 := (cmpI_zero _ _).2 hyx
          rw [h0] at hcc
          have ef : fin = true := by
            rw [← FN.out, hasT_iff HR.out]
            exact ⟨by rw [CN.out]; exact HM.out, by simp only [CN.out]; rw [Y.out]; exact hyx⟩
          have EF : Hid (fin = true) := ef
          clear h0 ef hyx
          go_wp2_with (go_at_call 45; refine hcc.mono ?_; rintro e w' ⟨rfl, b'⟩)
          go_ret2
          exact ⟨by rw [EF.out]; rfl, S1.out.trans (b'.mono S1.out.size)⟩
        · have h0 : ¬ cmpI (yt : Int) (t : Int) = 0 := fun h => hyx ((cmpI_zero _ _).1 h)
          have ef : fin = false := by
            rw [← FN.out, Bool.eq_false_iff]
            intro h
            obtain ⟨hk, e2⟩ := (hasT_iff HR.out t).1 h
            simp only [CN.out] at e2
            rw [Y.out] at e2
            exact hyx e2
          have EF : Hid (fin = false) := ef
          obtain ⟨cv, ecv⟩ : ∃ cv, cmpI (yt : Int) (t : Int) = cv := ⟨_, rfl⟩
          rw [ecv] at hcc h0
          have h1 : (cv == 0) = false := by simpa using h0
          clear ecv ef
          go_wp2_with (go_at_call 45; refine hcc.mono ?_; rintro e w' ⟨rfl, b'⟩)
          go_ret2
          exact ⟨by rw [EF.out]; rfl, S1.out.trans (b'.mono S1.out.size)⟩
      · have ef : fin = false := by
          rw [← FN.out, Bool.eq_false_iff]
          intro h
          obtain ⟨hk, e2⟩ := (hasT_iff HR.out t).1 h
          have := CN.out
          have := EN.out
          omega
        have EF : Hid (fin = false) := ef
        clear ef
        go_wp2
        go_ret2
        exact ⟨by rw [EF.out]; rfl, S1.out⟩
set_option maxRecDepth 100000 in
theorem place_t (a : Option Addr) (cap : Nat) (l : List Post) (t : Nat) (w : World) (hP : PostsAt w a l) (hr : Rising l) (hl : l.length ≤ 100000) :
    Calls Try.prog 40 #[.slice a l.length cap, .int .i64 (t : Int)] w fun e w' => e = .returned (.tuple #[.int .i64 (under l t : Nat), .bool (hasT l t)]) ∧ Below w.heap.size w w' := by
  have HB := bsearch_any a cap l t w hP hr hl
  obtain ⟨n, en⟩ : ∃ n, l.length = n := ⟨_, rfl⟩
  obtain ⟨c, ec⟩ : ∃ c, under l t = c := ⟨_, rfl⟩
  obtain ⟨f, ef⟩ : ∃ f, hasT l t = f := ⟨_, rfl⟩
  rw [en, ec, ef] at HB
  rw [en, ec, ef]
  clear hP hr hl en ec ef
  go_enter Try.func40, Try.ntmps40
  go_wp2_with fail
  refine HB.mono ?_
  rintro e w' ⟨rfl, b'⟩
  have B' : Hid (Below w.heap.size w w') := b'
  clear b' HB
  go_wp2
  go_ret2
  exact ⟨rfl, B'.out⟩
end Go.Proofs.Ytccmehbdnnelhaa
