/- Package book: an account is found by its name. -/
import Derived.Test.YtdchnfggmkokhaaGreatDoorBMem
import Derived.Deep.LoopGhost
namespace Go.Proofs.YtdchnfggmkokhaaGreatDoor
open Go.RowKit
set_option linter.unusedVariables false

set_option maxHeartbeats 1000000 in
set_option maxRecDepth 100000 in
theorem cmpString_any (a b : ByteArray) (w : World) : Calls Tryz.prog 98 #[.string a, .string b] w fun e w' => e = .returned (.int .i64 (cmpT a b)) ∧ w' = w := by
  go_enter Tryz.func98, Tryz.ntmps98
  go_wp2
  rw [run_callFunc_extern Tryz.func103 (by kernel_rfl) (by kernel_rfl) (by kernel_rfl) (e := Extern.BytealgCompare.compare) (by kernel_rfl), Lib.run_compareString]
  simp only [Result.andThen]
  rw [Oper.upon_value]
  go_wp2
  go_ret
  exact ⟨rfl, rfl⟩
set_option maxHeartbeats 1000000 in
set_option maxRecDepth 100000 in
theorem compareS_any (a b : ByteArray) (w : World) : Calls Tryz.prog 88 #[.string a, .string b] w fun e w' => e = .returned (.int .i64 (cmpT a b)) ∧ w' = w := by
  go_enter Tryz.func88, Tryz.ntmps88
  go_wp2_with (go_at_call 98; refine (cmpString_any _ _ _).mono ?_; rintro e w' ⟨rfl, rfl⟩)
  go_ret
  exact ⟨rfl, rfl⟩
set_option maxRecDepth 100000 in
theorem place1_any (nm : ByteArray) (amt : Int) (by_ s : ByteArray) (w : World) : Calls Tryz.prog 87 #[.agg #[.string nm, .int .i64 amt, .string by_], .string s] w fun e w' => e = .returned (.int .i64 (cmpT nm s)) ∧ Below w.heap.size w w' := by
  have HC := fun W => compareS_any nm s W
  have BB : Hid (Below w.heap.size w (w.alloc (.cells #[.string nm, .int .i64 amt, .string by_] 52))) := (Below.refl _ w).alloc (Nat.le_refl _) _
  go_enter Tryz.func87, Tryz.ntmps87
  go_wp2_with (go_at_call 88; refine (HC _).mono ?_; rintro e w1 ⟨rfl, rfl⟩)
  go_ret
  exact ⟨rfl, BB.out⟩
set_option maxRecDepth 100000 in
set_option maxHeartbeats 4000000 in
theorem bsearch_any (a : Option Addr) (cap : Nat) (l : List Acc) (t : ByteArray) (w : World) (hP : AccsAt w a l) (hr : Sorted l) (hl : l.length ≤ 100000) :
    Calls Tryz.prog 86 #[.slice a l.length cap, .string t, .func (.func 87) #[] #[]] w fun e w' => e = .returned (.tuple #[.int .i64 (under l t : Nat), .bool (hasN l t)]) ∧ Below w.heap.size w w' := by
  have HP : Hid (AccsAt w a l) := hP
  have HR : Hid (Sorted l) := hr
  have HLL : Hid (l.length ≤ 100000) := hl
  obtain ⟨cnt, ecnt⟩ : ∃ c, under l t = c := ⟨_, rfl⟩
  have CN : Hid (under l t = cnt) := ecnt
  obtain ⟨fin, efin⟩ : ∃ c, hasN l t = c := ⟨_, rfl⟩
  have FN : Hid (hasN l t = fin) := efin
  rw [ecnt, efin]
  obtain ⟨n, en⟩ : ∃ n, l.length = n := ⟨_, rfl⟩
  have EN : Hid (l.length = n) := en
  rw [en]
  have hn : n ≤ 100000 := by omega
  clear ecnt efin en hP hr hl
  go_enter Tryz.func86, Tryz.ntmps86
  go_wp2
  go_loopg [9, 10] n (fun kx s9 s10 wr => ∃ lo hi : Nat, s9 = .int .i64 lo ∧ s10 = .int .i64 hi ∧ lo ≤ hi ∧ hi ≤ n ∧ hi - lo ≤ kx ∧ Hid (Below w.heap.size w wr) ∧
    Hid ((∀ j (hj : j < l.length), j < lo → Ahead l[j].nm t) ∧ (∀ j (hj : j < l.length), hi ≤ j → ¬ Ahead l[j].nm t)))
  case atStart => exact ⟨0, n, rfl, rfl, Nat.zero_le _, Nat.le_refl _, by omega, Below.refl _ _, ⟨fun j hj h => by omega, fun j hj h => by have := EN.out; omega⟩⟩
  case round =>
    obtain ⟨lo, hi, rfl, rfl, hlh, hin, hg, S1, I⟩ := hrel
    by_cases hlt : lo < hi
    · have hm : (lo + hi) / 2 < l.length := by have := EN.out; omega
      obtain ⟨g, o, ea, c0, c1, c2⟩ := (HP.out.below S1.out).at hm
      subst ea
      obtain ⟨y, ey⟩ : ∃ y, l[(lo + hi) / 2] = y := ⟨_, rfl⟩
      rw [ey] at c0 c1 c2
      have Y : Hid (∀ h, l[(lo + hi) / 2]'h = y) := fun _ => ey
      have hcc := place1_any y.nm y.amt y.by_ t wr
      have HM : Hid ((lo + hi) / 2 < l.length) := hm
      clear ey hm
      obtain ⟨f, tt, dv⟩ := y
      simp only at c0 c1 c2 hcc
      by_cases hyx : Ahead f t
      · have h0 : cmpT f t < 0 := (cmpT_neg _ _).2 hyx
        have HY : Hid (Ahead f t) := hyx
        obtain ⟨cv, ecv⟩ : ∃ cv, cmpT f t = cv := ⟨_, rfl⟩
        rw [ecv] at hcc h0
        clear ecv hyx
        go_wp2_with (go_at_call 87; refine hcc.mono ?_; rintro e w' ⟨rfl, b'⟩)
        go_roundg (hi - ((lo + hi) / 2 + 1))
        case measure => omega
        case rel =>
          have I2 : Hid ((∀ j (hj : j < l.length), j < (lo + hi) / 2 + 1 → Ahead l[j].nm t) ∧ (∀ j (hj : j < l.length), hi ≤ j → ¬ Ahead l[j].nm t)) := ⟨fun j hj h => by
            have e2 : Ahead (l[(lo + hi) / 2]'HM.out).nm t := by rw [Y.out]; exact HY.out
            rcases Nat.lt_or_ge j ((lo + hi) / 2) with x | x
            · exact ahead_trans ((List.pairwise_iff_getElem.1 HR.out) j ((lo + hi) / 2) hj HM.out x) e2
            · have e3 : j = (lo + hi) / 2 := by omega
              subst e3
              exact e2, I.out.2⟩
          exact ⟨(lo + hi) / 2 + 1, hi, by rw [show ((lo : Int) + (hi : Int)) / 2 + 1 = (((lo + hi) / 2 + 1 : Nat) : Int) by omega], rfl, by omega, hin, Nat.le_refl _, S1.out.trans (b'.mono S1.out.size), I2⟩
      · have h0 : ¬ cmpT f t < 0 := fun h => hyx ((cmpT_neg _ _).1 h)
        have HY : Hid (¬ Ahead f t) := hyx
        obtain ⟨cv, ecv⟩ : ∃ cv, cmpT f t = cv := ⟨_, rfl⟩
        rw [ecv] at hcc h0
        clear ecv hyx
        go_wp2_with (go_at_call 87; refine hcc.mono ?_; rintro e w' ⟨rfl, b'⟩)
        go_roundg ((lo + hi) / 2 - lo)
        case measure => omega
        case rel =>
          have I2 : Hid ((∀ j (hj : j < l.length), j < lo → Ahead l[j].nm t) ∧ (∀ j (hj : j < l.length), (lo + hi) / 2 ≤ j → ¬ Ahead l[j].nm t)) := ⟨I.out.1, fun j hj h => by
            have e2 : ¬ Ahead (l[(lo + hi) / 2]'HM.out).nm t := by rw [Y.out]; exact HY.out
            rcases Nat.lt_or_ge ((lo + hi) / 2) j with x | x
            · exact fun q => e2 (ahead_trans ((List.pairwise_iff_getElem.1 HR.out) ((lo + hi) / 2) j HM.out hj x) q)
            · have e3 : j = (lo + hi) / 2 := by omega
              subst e3
              exact e2⟩
          exact ⟨lo, (lo + hi) / 2, rfl, by rw [show ((lo : Int) + (hi : Int)) / 2 = (((lo + hi) / 2 : Nat) : Int) by omega], by omega, by omega, Nat.le_refl _, S1.out.trans (b'.mono S1.out.size), I2⟩
    · obtain rfl : hi = lo := by omega
      have ec : cnt = hi := by
        rw [← CN.out]
        exact under_split HR.out (by have := EN.out; omega) I.out.1 I.out.2
      subst ec
      by_cases hn2 : cnt < n
      · have hm : cnt < l.length := by have := EN.out; omega
        obtain ⟨g, o, ea, c0, c1, c2⟩ := (HP.out.below S1.out).at hm
        subst ea
        obtain ⟨y, ey⟩ : ∃ y, l[cnt] = y := ⟨_, rfl⟩
        rw [ey] at c0 c1 c2
        have Y : Hid (∀ h, l[cnt]'h = y) := fun _ => ey
        have hcc := place1_any y.nm y.amt y.by_ t wr
        have HM : Hid (cnt < l.length) := hm
        clear ey hm
        obtain ⟨f, tt, dv⟩ := y
        simp only at c0 c1 c2 hcc
        by_cases hyx : f = t
        · have h0 : cmpT f t = 0 := (cmpT_zero _ _).2 hyx
          rw [h0] at hcc
          have ef : fin = true := by
            rw [← FN.out, hasN_iff HR.out]
            exact ⟨by rw [CN.out]; exact HM.out, by simp only [CN.out]; rw [Y.out]; exact hyx⟩
          have EF : Hid (fin = true) := ef
          clear h0 ef hyx
          go_wp2_with (go_at_call 87; refine hcc.mono ?_; rintro e w' ⟨rfl, b'⟩)
          go_ret2
          exact ⟨by rw [EF.out]; rfl, S1.out.trans (b'.mono S1.out.size)⟩
        · have h0 : ¬ cmpT f t = 0 := fun h => hyx ((cmpT_zero _ _).1 h)
          have ef : fin = false := by
            rw [← FN.out, Bool.eq_false_iff]
            intro h
            obtain ⟨hk, e2⟩ := (hasN_iff HR.out t).1 h
            simp only [CN.out] at e2
            rw [Y.out] at e2
            exact hyx e2
          have EF : Hid (fin = false) := ef
          obtain ⟨cv, ecv⟩ : ∃ cv, cmpT f t = cv := ⟨_, rfl⟩
          rw [ecv] at hcc h0
          have h1 : (cv == 0) = false := by simpa using h0
          clear ecv ef hyx
          go_wp2_with (go_at_call 87; refine hcc.mono ?_; rintro e w' ⟨rfl, b'⟩)
          go_ret2
          exact ⟨by rw [EF.out]; rfl, S1.out.trans (b'.mono S1.out.size)⟩
      · have ef : fin = false := by
          rw [← FN.out, Bool.eq_false_iff]
          intro h
          obtain ⟨hk, e2⟩ := (hasN_iff HR.out t).1 h
          have := CN.out
          have := EN.out
          omega
        have EF : Hid (fin = false) := ef
        clear ef
        go_wp2
        go_ret2
        exact ⟨by rw [EF.out]; rfl, S1.out⟩
section
variable {w : World} {base N : Nat} {sv : Value} {L : List Acc}
set_option maxRecDepth 100000 in
theorem place_any (h : BookIn w base N sv L) (t : ByteArray) :
    Calls Tryz.prog 68 #[.pointer (some ⟨N, 0, none⟩), .string t] w fun e w' => e = .returned (.tuple #[.int .i64 (under L t : Nat), .bool (hasN L t)]) ∧ Below w.heap.size w w' := by
  obtain ⟨a, cap, esv, hA, _⟩ := row_accs h.row rfl
  have HB := bsearch_any a cap L t w hA h.fit.srt (by have := h.fit.len; omega)
  have c0 := h.c0
  subst esv
  obtain ⟨n, en⟩ : ∃ n, L.length = n := ⟨_, rfl⟩
  obtain ⟨c, ec⟩ : ∃ c, under L t = c := ⟨_, rfl⟩
  obtain ⟨f, ef⟩ : ∃ f, hasN L t = f := ⟨_, rfl⟩
  rw [en, ec, ef] at HB
  rw [ec, ef]
  rw [en] at c0
  clear h hA en ec ef
  go_enter Tryz.func68, Tryz.ntmps68
  go_wp2_with fail
  refine HB.mono ?_
  rintro e w' ⟨rfl, b'⟩
  have B' : Hid (Below w.heap.size w w') := b'
  clear b' HB
  go_wp2
  go_ret2
  exact ⟨rfl, B'.out⟩
end
end Go.Proofs.YtdchnfggmkokhaaGreatDoor

namespace Go.Proofs.YtdchnfggmkokhaaGreatDoor
open Go.RowKit
attribute [local go_sem] Oper.semAt_some
set_option linter.unusedVariables false

/-- An account as a value; none: the empty one. -/
def Acc.val (p : Acc) : Value := .agg #[.string p.nm, .int .i64 p.amt, .string p.by_]
def noAcc : Acc := ⟨⟨#[]⟩, 0, ⟨#[]⟩⟩
def accOr (o : Option Acc) : Acc := match o with | some p => p | none => noAcc
theorem text_nonempty {s : ByteArray} (h : 1 ≤ s.size) : ¬ s.toList = [] := fun e => by
  rw [ByteArray.toList_eq] at e
  have h2 : s.data.toList.length = s.size := by simp
  rw [e] at h2
  simp at h2
  omega
section
variable {w : World} {base N : Nat} {sv : Value} {L : List Acc}
theorem BookIn.gotAt (h : BookIn w base N sv L) {t : ByteArray} {p : Acc} (hp : getA L t = some p) : hasN L t = true ∧ under L t < L.length ∧ ∃ g c, sv = .slice (some ⟨g, 0, none⟩) L.length c ∧ g < w.heap.size ∧ g ≠ N ∧ w.cell? ⟨g, under L t * 3, none⟩ = some (.string p.nm) ∧ w.cell? ⟨g, under L t * 3 + 1, none⟩ = some (.int .i64 p.amt) ∧ w.cell? ⟨g, under L t * 3 + 2, none⟩ = some (.string p.by_) := by
  have hh : hasN L t = true := (hasN_mem _ _).2 ⟨p, (h.fit.got hp).1, (h.fit.got hp).2.1⟩
  obtain ⟨hk, e1, e2⟩ := getA_some h.fit.srt hh
  rw [hp] at e1
  injection e1 with e1
  obtain ⟨g, cap, esv, q0, q1, q2⟩ := row_at h.row rfl hk
  rw [← e1] at q0 q1 q2
  exact ⟨hh, hk, g, cap, esv, World.block_lt_of_cell? w _ q0, h.ne (by rw [esv]; rfl), q0, q1, q2⟩
set_option maxRecDepth 100000 in
theorem find_some (h : BookIn w base N sv L) (t : ByteArray) (p : Acc) (hp : getA L t = some p) :
    Calls Tryz.prog 77 #[.pointer (some ⟨N, 0, none⟩), .string t] w fun e w' => e = .returned (.agg #[.string p.nm, .int .i64 p.amt, .string p.by_]) ∧ Below w.heap.size w w' := by
  obtain ⟨hh, hk, g, cap, esv, hg, hgN, q0, q1, q2⟩ := h.gotAt hp
  have HB := fun W (hb : Below w.heap.size w W) => place_any (h.below hb) t
  have c0 := h.c0
  have hN := h.ltN
  rw [hh] at HB
  have hn : L.length ≤ 200 := h.fit.len
  obtain ⟨c, ec⟩ : ∃ c, under L t = c := ⟨_, rfl⟩
  rw [ec] at HB hk q0 q1 q2
  rw [esv] at c0
  obtain ⟨n, en⟩ : ∃ n, L.length = n := ⟨_, rfl⟩
  rw [en] at hk hn c0
  clear h hh ec en hp esv
  go_enter Tryz.func77, Tryz.ntmps77
  go_wp2_with fail
  refine (HB _ ((Below.refl _ w).alloc (Nat.le_refl _) _)).mono ?_
  rintro e w1 ⟨rfl, b1⟩
  have B1 : Hid (Below w.heap.size w w1) := ((Below.refl _ w).alloc (Nat.le_refl _) _).trans (b1.mono (by simp))
  have hz : w.heap.size < w1.heap.size := by have := b1.size; simp at this; omega
  have hfz := b1.frozen (p := ⟨w.heap.size, 0, none⟩) (by simp)
  have hfz1 := b1.frozen (p := ⟨w.heap.size, 1, none⟩) (by simp)
  have hfz2 := b1.frozen (p := ⟨w.heap.size, 2, none⟩) (by simp)
  have hc0 := b1.cell (p := ⟨w.heap.size, 0, none⟩) (by simp)
  have hc1 := b1.cell (p := ⟨w.heap.size, 1, none⟩) (by simp)
  have hc2 := b1.cell (p := ⟨w.heap.size, 2, none⟩) (by simp)
  rw [World.frozen?_alloc_mark] at hfz hfz1 hfz2
  rw [World.cell?_alloc_mark] at hc0 hc1 hc2
  have k0 := (B1.out.cell (p := ⟨N, 0, none⟩) hN).trans c0
  have r0 := (B1.out.cell (p := ⟨g, c * 3, none⟩) hg).trans q0
  have r1 := (B1.out.cell (p := ⟨g, c * 3 + 1, none⟩) hg).trans q1
  have r2 := (B1.out.cell (p := ⟨g, c * 3 + 2, none⟩) hg).trans q2
  clear b1 HB c0 q0 q1 q2
  go_wp2
  exact bodyPost_ret (v := .agg #[.string p.nm, .int .i64 p.amt, .string p.by_]) (by simp [results, Tryz.results77, go_sem, hc0, hc1, hc2]) rfl ⟨rfl, ((B1.out.setCell (Nat.le_refl _) _).setCell (Nat.le_refl _) _).setCell (Nat.le_refl _) _⟩
set_option maxRecDepth 100000 in
theorem find_none (h : BookIn w base N sv L) (t : ByteArray) (hp : hasN L t = false) :
    Calls Tryz.prog 77 #[.pointer (some ⟨N, 0, none⟩), .string t] w fun e w' => e = .returned (.agg #[.string ⟨#[]⟩, .int .i64 0, .string ⟨#[]⟩]) ∧ Below w.heap.size w w' := by
  have HB := fun W (hb : Below w.heap.size w W) => place_any (h.below hb) t
  rw [hp] at HB
  obtain ⟨c, ec⟩ : ∃ c, under L t = c := ⟨_, rfl⟩
  rw [ec] at HB
  clear h ec hp
  go_enter Tryz.func77, Tryz.ntmps77
  go_wp2_with fail
  refine (HB _ ((Below.refl _ w).alloc (Nat.le_refl _) _)).mono ?_
  rintro e w1 ⟨rfl, b1⟩
  have B1 : Hid (Below w.heap.size w w1) := ((Below.refl _ w).alloc (Nat.le_refl _) _).trans (b1.mono (by simp))
  have hz : w.heap.size < w1.heap.size := by have := b1.size; simp at this; omega
  have hfz := b1.frozen (p := ⟨w.heap.size, 0, none⟩) (by simp)
  have hfz1 := b1.frozen (p := ⟨w.heap.size, 1, none⟩) (by simp)
  have hfz2 := b1.frozen (p := ⟨w.heap.size, 2, none⟩) (by simp)
  have hc0 := b1.cell (p := ⟨w.heap.size, 0, none⟩) (by simp)
  have hc1 := b1.cell (p := ⟨w.heap.size, 1, none⟩) (by simp)
  have hc2 := b1.cell (p := ⟨w.heap.size, 2, none⟩) (by simp)
  rw [World.frozen?_alloc_mark] at hfz hfz1 hfz2
  rw [World.cell?_alloc_mark] at hc0 hc1 hc2
  clear b1 HB
  go_wp2
  exact bodyPost_ret (v := .agg #[.string ⟨#[]⟩, .int .i64 0, .string ⟨#[]⟩]) (by simp [results, Tryz.results77, go_sem, hc0, hc1, hc2]) rfl ⟨rfl, ((B1.out.setCell (Nat.le_refl _) _).setCell (Nat.le_refl _) _).setCell (Nat.le_refl _) _⟩
theorem find_any (h : BookIn w base N sv L) (t : ByteArray) :
    Calls Tryz.prog 77 #[.pointer (some ⟨N, 0, none⟩), .string t] w fun e w' => e = .returned (.agg #[.string (accOr (getA L t)).nm, .int .i64 (accOr (getA L t)).amt, .string (accOr (getA L t)).by_]) ∧ Below w.heap.size w w' := by
  cases hg : getA L t with
  | some p => exact find_some h t p hg
  | none => exact find_none h t ((getA_none _ _).1 hg)
set_option maxRecDepth 100000 in
theorem look_some (h : BookIn w base N sv L) (t : ByteArray) (p : Acc) (hp : getA L t = some p) :
    Calls Tryz.prog 75 #[.pointer (some ⟨N, 0, none⟩), .string t] w fun e w' => e = .returned (.tuple #[.agg #[.string p.nm, .int .i64 p.amt, .string p.by_], .int .i64 0]) ∧ Below w.heap.size w w' := by
  have HF := fun W (hb : Below w.heap.size w W) => find_some (h.below hb) t p hp
  have hne : ¬ p.nm.toList = [] := text_nonempty (by
    obtain ⟨_, e, h1, _⟩ := h.fit.got hp
    rw [e]
    exact (nameOk_size h1).1)
  obtain ⟨nm, amt, by_⟩ := p
  simp only at HF hne ⊢
  clear h hp
  go_enter Tryz.func75, Tryz.ntmps75
  go_wp2_with fail
  refine (HF _ ((Below.refl _ w).alloc (Nat.le_refl _) _)).mono ?_
  rintro e w1 ⟨rfl, b1⟩
  have B1 : Hid (Below w.heap.size w w1) := ((Below.refl _ w).alloc (Nat.le_refl _) _).trans (b1.mono (by simp))
  have hz : w.heap.size < w1.heap.size := by have := b1.size; simp at this; omega
  have hfz := b1.frozen (p := ⟨w.heap.size, 0, none⟩) (by simp)
  have hfz1 := b1.frozen (p := ⟨w.heap.size, 1, none⟩) (by simp)
  have hfz2 := b1.frozen (p := ⟨w.heap.size, 2, none⟩) (by simp)
  have hc0 := b1.cell (p := ⟨w.heap.size, 0, none⟩) (by simp)
  have hc1 := b1.cell (p := ⟨w.heap.size, 1, none⟩) (by simp)
  have hc2 := b1.cell (p := ⟨w.heap.size, 2, none⟩) (by simp)
  rw [World.frozen?_alloc_mark] at hfz hfz1 hfz2
  rw [World.cell?_alloc_mark] at hc0 hc1 hc2
  clear b1 HF
  go_wp2
  exact bodyPost_ret (v := .tuple #[.agg #[.string nm, .int .i64 amt, .string by_], .int .i64 0]) (by simp [results, Tryz.results75, go_sem, hc0, hc1, hc2, hz]) rfl ⟨rfl, (((B1.out.setCell (Nat.le_refl _) _).setCell (Nat.le_refl _) _).setCell (Nat.le_refl _) _).alloc (by simp; exact Nat.le_of_lt hz) _⟩
set_option maxRecDepth 100000 in
theorem look_none (h : BookIn w base N sv L) (t : ByteArray) (hp : hasN L t = false) :
    Calls Tryz.prog 75 #[.pointer (some ⟨N, 0, none⟩), .string t] w fun e w' => e = .returned (.tuple #[.agg #[.string ⟨#[]⟩, .int .i64 0, .string ⟨#[]⟩], .int .i64 40]) ∧ Below w.heap.size w w' := by
  have HF := fun W (hb : Below w.heap.size w W) => find_none (h.below hb) t hp
  clear h hp
  go_enter Tryz.func75, Tryz.ntmps75
  go_wp2_with fail
  refine (HF _ ((Below.refl _ w).alloc (Nat.le_refl _) _)).mono ?_
  rintro e w1 ⟨rfl, b1⟩
  have B1 : Hid (Below w.heap.size w w1) := ((Below.refl _ w).alloc (Nat.le_refl _) _).trans (b1.mono (by simp))
  have hz : w.heap.size < w1.heap.size := by have := b1.size; simp at this; omega
  have hfz := b1.frozen (p := ⟨w.heap.size, 0, none⟩) (by simp)
  have hfz1 := b1.frozen (p := ⟨w.heap.size, 1, none⟩) (by simp)
  have hfz2 := b1.frozen (p := ⟨w.heap.size, 2, none⟩) (by simp)
  have hc0 := b1.cell (p := ⟨w.heap.size, 0, none⟩) (by simp)
  have hc1 := b1.cell (p := ⟨w.heap.size, 1, none⟩) (by simp)
  have hc2 := b1.cell (p := ⟨w.heap.size, 2, none⟩) (by simp)
  rw [World.frozen?_alloc_mark] at hfz hfz1 hfz2
  rw [World.cell?_alloc_mark] at hc0 hc1 hc2
  clear b1 HF
  go_wp2
  exact bodyPost_ret (v := .tuple #[.agg #[.string ⟨#[]⟩, .int .i64 0, .string ⟨#[]⟩], .int .i64 40]) (by simp [results, Tryz.results75, go_sem, hc0, hc1, hc2, hz]) rfl ⟨rfl, by
    first
    | exact (((B1.out.setCell (Nat.le_refl _) _).setCell (Nat.le_refl _) _).setCell (Nat.le_refl _) _).alloc (by simp; exact Nat.le_of_lt hz) _
    | exact (((B1.out.alloc (Nat.le_of_lt hz) _).setCell (Nat.le_refl _) _).setCell (Nat.le_refl _) _).setCell (Nat.le_refl _) _⟩
/-- What Get answers. -/
def getV (L : List Acc) (t : ByteArray) : Value := match getA L t with | some p => .tuple #[.int .i64 p.amt, .int .i64 0] | none => .tuple #[.int .i64 0, .int .i64 40]
set_option maxRecDepth 100000 in
theorem get_any (h : BookIn w base N sv L) (t : ByteArray) :
    Calls Tryz.prog 38 #[.pointer (some ⟨N, 0, none⟩), .string t] w fun e w' => e = .returned (getV L t) ∧ Below w.heap.size w w' := by
  unfold getV
  cases hg : getA L t with
  | some p =>
    have HF := look_some h t p hg
    obtain ⟨nm, amt, by_⟩ := p
    simp only at HF ⊢
    clear h hg
    go_enter Tryz.func38, Tryz.ntmps38
    go_wp2_with fail
    refine HF.mono ?_
    rintro e w1 ⟨rfl, b1⟩
    have B1 : Hid (Below w.heap.size w w1) := b1
    clear b1 HF
    go_wp2
    go_ret2
    exact ⟨rfl, B1.out.alloc B1.out.size _⟩
  | none =>
    have HF := look_none h t ((getA_none _ _).1 hg)
    clear h hg
    go_enter Tryz.func38, Tryz.ntmps38
    go_wp2_with fail
    refine HF.mono ?_
    rintro e w1 ⟨rfl, b1⟩
    have B1 : Hid (Below w.heap.size w w1) := b1
    clear b1 HF
    go_wp2
    go_ret2
    exact ⟨rfl, B1.out.alloc B1.out.size _⟩
set_option maxRecDepth 100000 in
theorem by_any (h : BookIn w base N sv L) (t : ByteArray) :
    Calls Tryz.prog 41 #[.pointer (some ⟨N, 0, none⟩), .string t] w fun e w' => e = .returned (.string (accOr (getA L t)).by_) ∧ Below w.heap.size w w' := by
  have HF := find_any h t
  generalize accOr (getA L t) = p at *
  obtain ⟨nm, amt, by_⟩ := p
  simp only at HF ⊢
  have hfd : ∀ W, (Instr.field 52 (.agg #[.string nm, .int .i64 amt, .string by_]) 1).run Tryz.prog W = .ok (.string by_) W := fun W => by kernel_rfl
  clear h
  go_enter Tryz.func41, Tryz.ntmps41
  go_wp2_with fail
  refine HF.mono ?_
  rintro e w1 ⟨rfl, b1⟩
  have B1 : Hid (Below w.heap.size w w1) := b1
  clear b1 HF
  go_wp2
  go_ret
  exact ⟨rfl, B1.out⟩
set_option maxRecDepth 100000 in
theorem len_any (h : BookIn w base N sv L) : Calls Tryz.prog 43 #[.pointer (some ⟨N, 0, none⟩)] w fun e w' => e = .returned (.int .i64 (L.length : Nat)) ∧ w' = w := by
  have c0 := h.c0
  obtain ⟨a, c, e, _⟩ := h.sv_form
  subst e
  clear h
  go_enter Tryz.func43, Tryz.ntmps43
  go_wp2
  go_ret
  exact ⟨rfl, rfl⟩
set_option maxRecDepth 100000 in
theorem new_any (w : World) : Calls Tryz.prog 4 #[] w fun e w' => e = .returned (.pointer (some ⟨w.heap.size, 0, none⟩)) ∧ Below w.heap.size w w' ∧ BookIn w' w.heap.size w.heap.size (.slice none 0 0) [] := by
  go_enter Tryz.func4, Tryz.ntmps4
  go_wp2
  go_ret
  refine ⟨rfl, (Below.refl _ w).alloc (Nat.le_refl _) _, ⟨heap_alloc_new w _, World.ownsRow_nil _ _ _ _, Nat.le_refl _, Fit.nil⟩⟩
end
end Go.Proofs.YtdchnfggmkokhaaGreatDoor

namespace Go.Proofs.YtdchnfggmkokhaaGreatDoor
open Go.RowKit
attribute [local go_sem] Oper.semAt_some
set_option linter.unusedVariables false

theorem ret_bool {a b : Bool} (h : a = b) : Ending.returned (.bool a) = .returned (.bool b) := by rw [h]
set_option maxRecDepth 100000 in
theorem ofName_any (c : UInt8) (w : World) : Calls Tryz.prog 85 #[.int .u8 (c.toNat : Int)] w fun e w' => e = .returned (.bool (okc c)) ∧ w' = w := by
  have hk : ∀ b : Bool, okc c = b → Hid (okc c = b) := fun _ h => h
  by_cases h1 : (97 : Int) ≤ (c.toNat : Int)
  · by_cases h2 : (c.toNat : Int) ≤ 122
    · have hR := hk true (by simp [okc]; omega)
      go_enter Tryz.func85, Tryz.ntmps85
      go_wp2
      go_ret
      exact ⟨ret_bool (by rw [hR.out] <;> simp), rfl⟩
    · have hR := hk false (by simp [okc]; omega)
      have h3 : ¬ (c.toNat : Int) ≤ 57 := by omega
      have h4 : ((c.toNat : Int) == 95) = false := by simp; omega
      have h5 : ¬ ((c.toNat : Int) = 95) := by omega
      have h6 : (48 : Int) ≤ (c.toNat : Int) := by omega
      go_enter Tryz.func85, Tryz.ntmps85
      go_wp2
      go_ret
      exact ⟨ret_bool (by rw [hR.out] <;> simp [h5]), rfl⟩
  · by_cases h2 : (48 : Int) ≤ (c.toNat : Int)
    · by_cases h3 : (c.toNat : Int) ≤ 57
      · have hR := hk true (by simp [okc]; omega)
        go_enter Tryz.func85, Tryz.ntmps85
        go_wp2
        go_ret
        exact ⟨ret_bool (by rw [hR.out] <;> simp), rfl⟩
      · by_cases h4 : (c.toNat : Int) = 95
        · have hR := hk true (by simp [okc]; omega)
          go_enter Tryz.func85, Tryz.ntmps85
          go_wp2
          go_ret
          exact ⟨ret_bool (by rw [hR.out] <;> simp [h4]), rfl⟩
        · have hR := hk false (by simp [okc]; omega)
          have h5 : ((c.toNat : Int) == 95) = false := by simpa using h4
          go_enter Tryz.func85, Tryz.ntmps85
          go_wp2
          go_ret
          exact ⟨ret_bool (by rw [hR.out] <;> simp [h4]), rfl⟩
    · have hR := hk false (by simp [okc]; omega)
      have h5 : ((c.toNat : Int) == 95) = false := by simp; omega
      have h4 : ¬ (c.toNat : Int) = 95 := by omega
      go_enter Tryz.func85, Tryz.ntmps85
      go_wp2
      go_ret
      exact ⟨ret_bool (by rw [hR.out] <;> simp [h4]), rfl⟩
theorem take_snocB (s : ByteArray) (k : Nat) (h : k < s.size) : s.data.toList.take (k + 1) = s.data.toList.take k ++ [s[k]] := by
  rw [List.take_succ_eq_append_getElem (by simpa using h)]; rfl
set_option maxRecDepth 100000 in
set_option maxHeartbeats 400000 in
theorem name_any (s : ByteArray) (w : World) (hs : s.size ≤ maxLen) : Calls Tryz.prog 67 #[.string s] w fun e w' => e = .returned (.bool (nameOk s)) ∧ w' = w := by
  unfold maxLen at hs
  by_cases h1 : (s.size : Int) < 1
  · have HR : Hid (nameOk s = false) := by
      show nameOk s = false
      unfold nameOk; rw [decide_eq_false (by omega)]; rfl
    go_enter Tryz.func67, Tryz.ntmps67
    go_wp2
    go_ret
    exact ⟨ret_bool HR.out.symm, rfl⟩
  · by_cases h2 : (24 : Int) < (s.size : Int)
    · have HR : Hid (nameOk s = false) := by
        show nameOk s = false
        unfold nameOk; rw [decide_eq_false (p := s.size ≤ 24) (by omega)]; simp
      go_enter Tryz.func67, Tryz.ntmps67
      go_wp2
      go_ret
      exact ⟨ret_bool HR.out.symm, rfl⟩
    · have HN : Hid (nameOk s = s.data.toList.all okc) := by
        show nameOk s = _
        unfold nameOk; rw [decide_eq_true (p := 1 ≤ s.size) (by omega), decide_eq_true (p := s.size ≤ 24) (by omega)]; rfl
      go_enter Tryz.func67, Tryz.ntmps67
      go_wp2
      go_loop [14] (fun i => ∃ k : Nat, k ≤ s.size ∧ i = .int .i64 k ∧ Hid ((s.data.toList.take k).all okc = true)) (fun i => s.size - (intOf i).toNat)
      case atStart => exact ⟨0, Nat.zero_le _, rfl, rfl⟩
      case round =>
        obtain ⟨k, hk, rfl, I⟩ := hrel
        by_cases hlt : k < s.size
        · have HC := ofName_any s[k] w
          cases hc : okc s[k] with
          | true =>
            rw [hc] at HC
            have HI : Hid ((s.data.toList.take (k + 1)).all okc = true) := by
              show _ = true
              rw [take_snocB s k hlt, List.all_append, I.out]; simp [hc]
            clear hc
            go_wp2_with (go_at_call 85; refine HC.mono ?_; rintro e w' ⟨rfl, rfl⟩)
            go_round
            case rel => exact ⟨k + 1, by omega, by go_num, HI⟩
            case measure => simp [intOf]; omega
          | false =>
            rw [hc] at HC
            have HR : Hid (nameOk s = false) := by
              show nameOk s = false
              rw [HN.out, List.all_eq_false]
              exact ⟨s[k], by show s.data[k]'hlt ∈ s.data.toList; simp, by simp [hc]⟩
            clear hc
            go_wp2_with (go_at_call 85; refine HC.mono ?_; rintro e w' ⟨rfl, rfl⟩)
            go_ret
            exact ⟨ret_bool HR.out.symm, rfl⟩
        · have HR : Hid (nameOk s = true) := by
            show nameOk s = true
            have := I.out
            rw [List.take_of_length_le (by simp; omega)] at this
            rw [HN.out, this]
          go_wp2
          go_ret
          exact ⟨ret_bool HR.out.symm, rfl⟩
end Go.Proofs.YtdchnfggmkokhaaGreatDoor
