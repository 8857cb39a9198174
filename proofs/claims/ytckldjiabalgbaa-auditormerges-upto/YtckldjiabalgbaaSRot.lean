/- slices' rotate at rows. -/
import Derived.Test.YtckldjiabalgbaaSSwap
namespace Go.Proofs.Ytckldjiabalgbaa
open Go.Shelf Go.RowKit Go.Lib Go.Sort
set_option linter.unusedVariables false
variable {P : Program} {k : Nat} {α : Type} [Inhabited α] {enc : α → List Value}
/-- What stands at a place behind the exchange of the pieces from s to m and from m to e. -/
def rv (f : Nat → α) (s m e x : Nat) : α := if x < s then f x else if x < s + (e - m) then f (x - s + m) else if x < e then f (x - (e - m)) else f x
def sw (f : Nat → α) (a b n x : Nat) : α := if a ≤ x ∧ x < a + n then f (b + (x - a)) else if b ≤ x ∧ x < b + n then f (a + (x - b)) else f x
omit [Inhabited α] in
theorem rv_left (f : Nat → α) (s m j x : Nat) (h : s + j < m) : rv (sw f s m j) (s + j) m (m + j) x = rv f s m (m + j) x := by
  simp only [rv, sw]
  repeat' split
  all_goals first | rfl | (exfalso; omega) | (congr 1; omega)
omit [Inhabited α] in
theorem rv_right (f : Nat → α) (s m i j x : Nat) (hi : s + i = m) (h : i < j) : rv (sw f s (m + j - i) i) s m (m + j - i) x = rv f s m (m + j) x := by
  simp only [rv, sw]
  repeat' split
  all_goals first | rfl | (exfalso; omega) | (congr 1; omega)
omit [Inhabited α] in
theorem rv_end (f : Nat → α) (s m i x : Nat) (hi : s + i = m) : sw f s m i x = rv f s m (m + i) x := by
  simp only [rv, sw]
  repeat' split
  all_goals first | rfl | (exfalso; omega) | (congr 1; omega)
theorem SwpR.at {d dk : Array α} {a b n : Nat} (h : SwpR d dk a b n) (hab : a + n ≤ b) (x : Nat) : dk[x]! = sw (fun i => d[i]!) a b n x := by
  unfold sw
  by_cases h1 : a ≤ x ∧ x < a + n
  · rw [if_pos h1]
    have := h.lo (x - a) (by omega)
    rwa [show a + (x - a) = x by omega] at this
  · rw [if_neg h1]
    by_cases h2 : b ≤ x ∧ x < b + n
    · rw [if_pos h2]
      have := h.hi (x - b) (by omega)
      rwa [show b + (x - b) = x by omega] at this
    · rw [if_neg h2]
      exact h.out x (by omega) (by omega)
theorem rotOf_rv {d d' : Array α} {s m e : Nat} (hs : d'.size = d.size) (h1 : s ≤ m) (h2 : m ≤ e) (h : ∀ x, d'[x]! = rv (fun i => d[i]!) s m e x) : RotOf d d' s m e := by
  refine ⟨hs, fun i hi => ?_, fun i hi => ?_, fun i hi => ?_⟩
  · rw [h i]; unfold rv; repeat' split
    all_goals first | rfl | (exfalso; omega)
  · rw [h (s + i)]; unfold rv; repeat' split
    all_goals first | (exfalso; omega) | (show d[_]! = d[_]!; congr 1; omega)
  · rw [h (s + (e - m) + i)]; unfold rv; repeat' split
    all_goals first | (exfalso; omega) | (show d[_]! = d[_]!; congr 1; omega)

set_option maxHeartbeats 4000000 in
set_option maxRecDepth 1000000 in
theorem rotate_any (L : SL P k) {blk off cap a m b A B : Nat} {d0 d : Array α} {w0 w : World} {fv : Value}
    (R : RowK enc k w0 blk off d0) (hs : d0.size = d.size) (S : SWK enc k w0 blk off d w) (ham : a < m) (hmb : m < b) (hA : A ≤ a) (hB : b ≤ B) (hb : B ≤ d.size) (hsz : d.size < 4611686018427387904) :
    Calls P 35 #[.slice (some ⟨blk, off, none⟩) d.size cap, .int .i64 a, .int .i64 m, .int .i64 b, fv] w fun e w' =>
      e = .returned (.tuple #[]) ∧ ∃ d', SWK enc k w0 blk off d' w' ∧ PermIn A B d d' ∧ RotOf d d' a m b := by
  have mixed := L.mixed; have aE := L.aE; have zE := L.zE; have t0 := L.t0; have a0 := L.a0; have z0 := L.z0; have v0 := L.v0; have t3 := L.t3; have a3 := L.a3; have z3 := L.z3; have v3 := L.v3; have t4 := L.t4; have a4 := L.a4; have z4 := L.z4; have v4 := L.v4; have t84 := L.t84; have a84 := L.a84; have z84 := L.z84; have v84 := L.v84; have t22 := L.t22; have a22 := L.a22; have z22 := L.z22; have v22 := L.v22; have t63 := L.t63; have a63 := L.a63; have z63 := L.z63; have v63 := L.v63
  have u22 := run_underlying L.t22
  have e36 : ∀ args w, (callFunc 36 args).run P w = .ok (.enter 36 args) w := enters_of L.f36 (by kernel_rfl) rfl
  have S0 : Aside (SWK enc k w0 blk off d w) := S
  clear S
  go_enter L.f35, Try.ntmps35
  go_wp2
  go_loopg [10, 11] (m - a + (b - m)) (fun kx s10 s11 wr => ∃ (i j : Nat) (dk : Array α), s10 = .int .i64 i ∧ s11 = .int .i64 j ∧ 0 < i ∧ 0 < j ∧ i ≤ m - a ∧ j ≤ b - m ∧ i + j ≤ kx ∧ dk.size = d.size ∧ Aside (SWK enc k w0 blk off dk wr) ∧ Hid (PermIn A B d dk ∧ ∀ x, rv (fun y => dk[y]!) (m - i) m (m + j) x = rv (fun y => d[y]!) a m b x))
  case atStart => exact ⟨m - a, b - m, d, by go_num, by go_num, by omega, by omega, Nat.le_refl _, Nat.le_refl _, Nat.le_refl _, rfl, S0, permIn_refl _ _ _, fun x => by rw [show m - (m - a) = a by omega, show m + (b - m) = b by omega]⟩
  case round =>
    clear S0
    obtain ⟨i, j, dk, rfl, rfl, hi0, hj0, hi, hj, hkx, hds, S1, HI⟩ := hrel
    have e1 : ((m - i : Nat) : Int) = (m : Int) - (i : Int) := by omega
    by_cases hij : i = j
    · subst hij
      have hne : ((i : Int) != (i : Int)) = false := by simp
      have hc := swapRange_any L (cap := cap) (a := m - i) (b := m) (n := i) (A := A) (B := B) (fv := fv) R (by omega) S1.out (by omega) (by omega) (by omega) (by omega) (by omega) (by omega)
      rw [e1, hds] at hc
      clear S1
      go_wp2_with (go_at_fn 36; refine hc.mono ?_; rintro e w1 ⟨rfl, d', S2, p2, q2⟩)
      go_end0
      refine ⟨rfl, d', S2, permIn_trans _ _ _ _ _ HI.out.1 p2, rotOf_rv (p2.1.trans hds) (by omega) (by omega) fun x => ?_⟩
      rw [q2.at (by omega), ← HI.out.2]
      exact rv_end _ _ _ _ _ (by omega)
    · have hne : ((i : Int) != (j : Int)) = true := by simp; omega
      by_cases hlt : j < i
      · have hltz : (j : Int) < (i : Int) := by omega
        have hc := swapRange_any L (cap := cap) (a := m - i) (b := m) (n := j) (A := A) (B := B) (fv := fv) R (by omega) S1.out (by omega) (by omega) (by omega) (by omega) (by omega) (by omega)
        rw [e1, hds] at hc
        clear S1
        go_wp2_with (go_at_fn 36; refine hc.mono ?_; rintro e w1 ⟨rfl, d', S2, p2, q2⟩)
        have S3 : Aside (SWK enc k w0 blk off d' w1) := S2
        have H3 : Hid (PermIn A B d d' ∧ (∀ x, rv (fun y => d'[y]!) (m - (i - j)) m (m + j) x = rv (fun y => d[y]!) a m b x)) := ⟨permIn_trans _ _ _ _ _ HI.out.1 p2, fun x => by
          rw [show (fun y => d'[y]!) = sw (fun y => dk[y]!) (m - i) m j from funext (q2.at (by omega)), show m - (i - j) = m - i + j by omega, rv_left _ _ _ _ _ (by omega)]
          exact HI.out.2 x⟩
        have hsz' : d'.size = d.size := p2.1.trans hds
        clear S2 p2 q2 HI
        go_roundg (i - j + j)
        case measure => omega
        case rel => exact ⟨i - j, j, d', by go_num, rfl, by omega, hj0, by omega, hj, by omega, hsz', S3, H3⟩
      · have hltz : ¬ (j : Int) < (i : Int) := by omega
        have e2 : ((m + j - i : Nat) : Int) = (m : Int) + (j : Int) - (i : Int) := by omega
        have hc := swapRange_any L (cap := cap) (a := m - i) (b := m + j - i) (n := i) (A := A) (B := B) (fv := fv) R (by omega) S1.out (by omega) (by omega) (by omega) (by omega) (by omega) (by omega)
        rw [e1, e2, hds] at hc
        clear S1
        go_wp2_with (go_at_fn 36; refine hc.mono ?_; rintro e w1 ⟨rfl, d', S2, p2, q2⟩)
        have S3 : Aside (SWK enc k w0 blk off d' w1) := S2
        have H3 : Hid (PermIn A B d d' ∧ (∀ x, rv (fun y => d'[y]!) (m - i) m (m + (j - i)) x = rv (fun y => d[y]!) a m b x)) := ⟨permIn_trans _ _ _ _ _ HI.out.1 p2, fun x => by
          rw [show (fun y => d'[y]!) = sw (fun y => dk[y]!) (m - i) (m + j - i) i from funext (q2.at (by omega)), show m + (j - i) = m + j - i by omega, rv_right _ _ _ _ _ _ (by omega) (by omega)]
          exact HI.out.2 x⟩
        have hsz' : d'.size = d.size := p2.1.trans hds
        clear S2 p2 q2 HI
        go_roundg (i + (j - i))
        case measure => omega
        case rel => exact ⟨i, j - i, d', rfl, by go_num, hi0, by omega, hi, by omega, by omega, hsz', S3, H3⟩
end Go.Proofs.Ytckldjiabalgbaa
