/- The reference's Frames: a list of rows. -/
import Derived.Test.YtpnnbkhlbohfbaaDoorK1
import Derived.Test.YtpnnbkhlbohfbaaDoorFr3
import Derived.Test.YtpnnbkhlbohfbaaDoorStMath
namespace Go.Proofs.YtpnnbkhlbohfbaaDoor
open Go.RowKit Cod
attribute [local go_sem] Oper.semAt_some
set_option linter.unusedVariables false

/-- Rows of frames' bytes, in new memory. -/
def FrL (W : World) (base : Nat) (v : Value) (l : List (BitVec 8)) (k : Nat) : Prop :=
  ∃ vs : List Value, W.ownsRow base 22 1 v k vs ∧ ∀ j, j < k → ∃ u, vs[j]? = some u ∧ W.ownsRow base 5 1 u (cutBody (rk l j)).length (cellsOf (cutBody (rk l j)))
theorem FrL.nil (W : World) (base : Nat) (l : List (BitVec 8)) : FrL W base (.slice none 0 0) l 0 := ⟨[], World.ownsRow_nil _ _ _ _, fun j h => absurd h (Nat.not_lt_zero _)⟩
theorem row_other {w : World} {base base' n n' s s' : Nat} {v v' : Value} {xs xs' : List Value} {t t' : TypeId} (h : w.ownsRow base t s v n xs) (h' : w.ownsRow base' t' s' v' n' xs') (ht : t ≠ t') : ∀ g, v.ownBlock = some g → v'.ownBlock ≠ some g := fun g e e' => by
  obtain ⟨_, _, c1, q1⟩ := row_kind h e
  obtain ⟨_, _, c2, q2⟩ := row_kind h' e'
  rw [q1] at q2
  injection q2 with q2
  injection q2 with _ q2
  exact ht q2
theorem FrL.below {W W' : World} {base : Nat} {v : Value} {l : List (BitVec 8)} {k : Nat} (h : FrL W base v l k) (b : Below W.heap.size W W') : FrL W' base v l k := by
  obtain ⟨vs, h1, h2⟩ := h
  refine ⟨vs, owns_kept h1 (fun g e => b.block g (row_kind h1 e).2.1), fun j hj => ?_⟩
  obtain ⟨u, h3, h4⟩ := h2 j hj
  exact ⟨u, h3, owns_kept h4 (fun g e => b.block g (row_kind h4 e).2.1)⟩
theorem infoBs : (Tryd.prog.info? 22).map (fun i => (i.zero, i.size, i.bytes)) = some (some (.slice none 0 0), 1, 24) := by kernel_rfl
/-- One frame more. -/
theorem FrL.more {w W : World} {v : Value} {l : List (BitVec 8)} {k : Nat} (h : FrL W w.heap.size v l k) (hb : Below w.heap.size w W) (hk : k ≤ 1048576) (u : Value) (hu : W.ownsRow w.heap.size 5 1 u (cutBody (rk l k)).length (cellsOf (cutBody (rk l k)))) :
    ∃ v' Z, (Builtin.append_ #[35, 35] 35 #[v, .slice (some ⟨W.heap.size, 0, none⟩) 1 1]).run Tryd.prog (W.alloc (.cells #[u] 22)) = .ok v' Z ∧ FrL Z w.heap.size v' l (k + 1) ∧ Below w.heap.size w Z := by
  obtain ⟨vs, h1, h2⟩ := h
  obtain ⟨i0, hi, hz0, hz1, hz2⟩ := info_parts infoBs
  obtain ⟨ua, uc, eu, _⟩ := row_form hu
  have bA : Below W.heap.size W (W.alloc (.cells #[u] 22)) := (Below.refl _ W).alloc (Nat.le_refl _) _
  have h1A := owns_kept h1 (fun g e => bA.block g (row_kind h1 e).2.1)
  have hc : ∀ j x, [u][j]? = some x → (W.alloc (.cells #[u] 22)).cell? ((⟨W.heap.size, 0, none⟩ : Addr).add j) = some x := fun j x hj => by
    obtain rfl : j = 0 := by
      have := (List.getElem?_eq_some_iff.1 hj).1
      simpa using this
    rw [Addr.add_lit]
    simp only [World.cell?, heap_alloc_new]
    simpa using hj
  obtain ⟨v', Z, hr, o1, g1, _⟩ := run_append_own (P := Tryd.prog) (W.alloc (.cells #[u] 22)) w.heap.size 35 35 22 i0 (.slice none 0 0) 1 24 Tryd.underlying35 hi hz0 hz1 hz2 rfl (by omega) v k vs h1A ⟨W.heap.size, 0, none⟩ 1 1 [u] rfl hc (fun x hx => by rw [List.mem_singleton.1 hx, eu]; rfl) (by unfold maxLen; omega) (by omega) (by have := hb.size; simp; omega)
  have keep : ∀ {n : Nat} {x : Value} {xs : List Value}, W.ownsRow w.heap.size 5 1 x n xs → Z.ownsRow w.heap.size 5 1 x n xs := fun hx => by
    have hxA := owns_kept hx (fun g e => bA.block g (row_kind hx e).2.1)
    exact owns_kept hxA (fun g e => g1.block g (row_kind hxA e).2.1 (fun e2 => row_other h1A hxA (by decide) g e2.symm e))
  refine ⟨v', Z, hr, ⟨vs ++ [u], o1, fun j hj => ?_⟩, (hb.trans (bA.mono hb.size)).grown g1 (by have := hb.size; simp; omega) (fun q e => (row_kind h1A e).1)⟩
  have hl : vs.length = k := by have := h1.1; omega
  by_cases hjk : j < k
  · obtain ⟨x, h3, h4⟩ := h2 j hjk
    exact ⟨x, by rw [List.getElem?_append_left (by omega)]; exact h3, keep h4⟩
  · obtain rfl : j = k := by omega
    exact ⟨u, by rw [List.getElem?_append_right (by omega), hl, Nat.sub_self]; rfl, keep hu⟩
/-- How far frames are sound. -/
theorem rk_len (l : List (BitVec 8)) : ∀ k, (∀ j, j < k → good l j) → (rk l k).length + k ≤ l.length
  | 0, _ => by simp [rk]
  | k + 1, h => by
    have h1 := rk_len l k (fun j hj => h j (by omega))
    have h2 := cutRest_lt (h k (by omega)).1
    show (cutRest (rk l k)).length + (k + 1) ≤ _
    omega
set_option maxRecDepth 100000 in
set_option maxHeartbeats 1600000 in
theorem rframes_any (a : Option Addr) (len cap : Nat) (l : List (BitVec 8)) (w : World) (h : Seen w a len l) (hnil : a = none → cap = 0) (hk : len ≤ cap) (hm : len ≤ 1048576) (hlo : 0 < len → ∀ y, a = some y → y.block < w.heap.size) :
    Calls Tryd.prog 12 #[.slice a len cap] w fun e w' => ∃ v K, e = .returned v ∧ FrL w' w.heap.size v l K ∧ K ≤ l.length ∧ (∀ j, j < K → good l j) ∧ ¬ good l K ∧ Below w.heap.size w w' := by
  have hlen : len = l.length := h.1
  have HM : Hid (l.length ≤ 1048576) := by show _ ≤ _; omega
  have H0 : Hid (Seen w a len (rk l 0) ∧ (a = none → cap = 0) ∧ len ≤ cap ∧ (0 < len → ∀ y, a = some y → y.block < w.heap.size)) := ⟨h, hnil, hk, hlo⟩
  clear h hnil hk hm hlen hlo
  go_enter Tryd.func12, Tryd.ntmps12
  go_wp2_with fail
  go_loopw [0, 3] (fun x v wr => ∃ (k : Nat) (a' : Option Addr) (n' c' : Nat), x = .slice a' n' c' ∧ Hid (Seen wr a' n' (rk l k) ∧ (a' = none → c' = 0) ∧ n' ≤ c' ∧ (0 < n' → ∀ y, a' = some y → y.block < w.heap.size)) ∧ Hid (FrL wr w.heap.size v l k) ∧ Hid (∀ j, j < k → good l j) ∧ Hid (Below w.heap.size w wr)) (fun x _ _ => match x with | .slice _ n _ => n | _ => 0)
  case atStart => exact ⟨0, a, len, cap, rfl, H0, FrL.nil _ _ _, fun j hj => absurd hj (Nat.not_lt_zero _), Below.refl _ _⟩
  case round =>
    obtain ⟨k, a', n', c', rfl, hs, hF, hG, hB⟩ := hrel
    have hkl := rk_len l k hG.out
    have hn' : n' = (rk l k).length := hs.out.1.1
    by_cases hz : n' = 0
    · have hbad : Hid (¬ good l k) := fun hg => by
        have e0 : rk l k = [] := List.eq_nil_of_length_eq_zero (by omega)
        have := hg.1
        rw [e0] at this
        exact why_nil this
      have HKL : Hid (k ≤ l.length) := by show _ ≤ _; omega
      subst hz
      clear hn' hkl H0
      go_wp2
      go_ret
      exact ⟨_, k, rfl, hF.out, HKL.out, hG.out, hbad.out, hB.out⟩
    · have hpos : 0 < (n' : Int) := by omega
      have HPz : Hid (0 < n') := by show _ < _; omega
      have HC := first_any a' n' c' (rk l k) wr hs.out.1 hs.out.2.1 hs.out.2.2.1 (by have := HM.out; omega)
      have HKL : Hid (k ≤ l.length ∧ n' = (rk l k).length) := ⟨by omega, hn'⟩
      clear hn' hkl hz H0
      go_wp2_with fail
      refine HC.mono ?_
      clear HC
      rintro e w1 ⟨hT, b1⟩
      have B1 : Hid (Below wr.heap.size wr w1) := b1
      have FL1 : Hid (FrL w1 w.heap.size _ l k) := hF.out.below b1
      have BW1 : Hid (Below w.heap.size w w1) := hB.out.trans (b1.mono hB.out.size)
      rcases hT with ⟨h0, rfl⟩ | ⟨h0, a3, n3, c3, a4, n4, c4, rfl, ⟨s3, m3, k3, z3⟩, ⟨s4, m4, k4, z4, q4⟩⟩
      · have hbad : Hid (¬ good l k) := fun hg => h0 hg.1
        generalize cutWhy (rk l k) = y at *
        have g0 : ((y : Int) != 0) = true := by simpa using h0
        clear h0 b1
        go_wp2
        go_ret
        exact ⟨_, k, rfl, FL1.out, HKL.out.1, hG.out, hbad.out, BW1.out⟩
      · by_cases hsum : cutSum (rk l k) = four (Crc.more 0#32 (cutBody (rk l k)))
        · have HGd : Hid (good l k) := ⟨h0, hsum⟩
          rw [if_pos hsum]
          obtain rfl : n3 = (cutBody (rk l k)).length := s3.1
          obtain ⟨u, Z, hrun, hown, hgz⟩ := run_append_bytes 22 w1 w.heap.size (.slice none 0 0) 0 [] (World.ownsRow_nil _ _ _ _) a3 (cutBody (rk l k)).length c3 (cutBody (rk l k)) (s3.below b1) m3 (by omega) BW1.out.size
          rw [List.nil_append, Nat.zero_add] at hown
          have bZ : Below w1.heap.size w1 Z := (Below.refl _ w1).grown hgz (Nat.le_refl _) (fun q e => by cases e)
          have BZ : Below w.heap.size w Z := BW1.out.trans (bZ.mono BW1.out.size)
          obtain ⟨v2, Z2, hrun2, fl2, bZ2⟩ := (FL1.out.below bZ).more BZ (by have := HM.out; have := HKL.out.1; omega) u hown
          have HRun : Hid _ := hrun
          have HRun2 : Hid _ := hrun2
          have FL2 : Hid (FrL Z2 w.heap.size v2 l (k + 1)) := fl2
          have BZ2 : Hid (Below w.heap.size w Z2) := bZ2
          have hlo4 : ∀ y, a4 = some y → y.block < w.heap.size := fun y hy => by
            obtain ⟨x, hx, e2⟩ := q4 y hy
            rw [e2]
            exact hs.out.2.2.2 HPz.out x hx
          have S4 : Hid (Seen Z2 a4 n4 (rk l (k + 1)) ∧ (a4 = none → c4 = 0) ∧ n4 ≤ c4 ∧ (0 < n4 → ∀ y, a4 = some y → y.block < w.heap.size)) := ⟨s4.since (fun _ y hy => (bZ2.block _ (hlo4 y hy)).trans (hB.out.block _ (hlo4 y hy)).symm), m4, k4, fun _ => hlo4⟩
          have HLt : Hid (n4 < n') := by
            have e1 : n4 = (cutRest (rk l k)).length := s4.1
            have := cutRest_lt h0
            have := HKL.out.2
            show _ < _
            omega
          have HG2 : Hid (∀ j, j < k + 1 → good l j) := fun j hj => by
            by_cases hjk : j < k
            · exact hG.out j hjk
            · obtain rfl : j = k := by omega
              exact HGd.out
          obtain ⟨ua, uc, rfl, _⟩ := row_form hown
          clear q4 hlo4 s3 m3 k3 z3 s4 m4 k4 z4 b1 hrun hown hgz hrun2 fl2 bZ2 bZ BZ h0 hsum hF hG hB FL1 BW1 B1 hs HKL HGd
          go_wp2_with (at_builtin; first
            | refine wpList_append_known rfl (.tmp 19) (.tmp 20) 22 22 rfl _ _ rfl rfl _ _ HRun.out ?_
            | refine wpList_append_known rfl (.tmp 22) (.tmp 24) 35 35 rfl _ _ rfl rfl _ _ HRun2.out ?_)
          go_roundw
          case rel => exact ⟨k + 1, a4, n4, c4, rfl, S4, FL2, HG2, BZ2⟩
          case measure => exact HLt.out
        · have hbad : Hid (¬ good l k) := fun hg => hsum hg.2
          rw [if_neg hsum]
          clear q4 s3 m3 k3 z3 s4 m4 k4 z4 b1 hsum h0
          go_wp2
          go_ret
          exact ⟨_, k, rfl, FL1.out, HKL.out.1, hG.out, hbad.out, BW1.out⟩
end Go.Proofs.YtpnnbkhlbohfbaaDoor
