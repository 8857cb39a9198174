/- slices' swapRange and rotate at rows. -/
import Derived.Test.YtckldjiabalgbaaSGen
namespace Go.Proofs.Ytckldjiabalgbaa
open Go.Shelf Go.RowKit Go.Lib Go.Sort
set_option linter.unusedVariables false

variable {P : Program} {k : Nat} {α : Type} [Inhabited α] {enc : α → List Value}
/-- Two pieces of n places, exchanged. -/
structure SwpR (d dk : Array α) (a b n : Nat) : Prop where
  size : dk.size = d.size
  lo : ∀ i, i < n → dk[a + i]! = d[b + i]!
  hi : ∀ i, i < n → dk[b + i]! = d[a + i]!
  out : ∀ i, (i < a ∨ a + n ≤ i) → (i < b ∨ b + n ≤ i) → dk[i]! = d[i]!
theorem SwpR.start (d : Array α) (a b : Nat) : SwpR d d a b 0 := ⟨rfl, fun _ h => by omega, fun _ h => by omega, fun _ _ _ => rfl⟩
theorem SwpR.step {d dk : Array α} {a b n : Nat} (h : SwpR d dk a b n) (hab : a + n < b) (hb : b + n < d.size) : SwpR d (swp dk (a + n) (b + n)) a b (n + 1) := by
  have hs := h.size
  refine ⟨by rw [size_swp]; exact hs, fun i hi => ?_, fun i hi => ?_, fun i h1 h2 => ?_⟩
  · rcases (by omega : i = n ∨ i < n) with rfl | c
    · rw [swp_left _ _ _ (by omega) (by omega)]; exact h.out _ (.inr (by omega)) (.inr (by omega))
    · rw [swp_other _ _ _ _ (by omega) (by omega)]; exact h.lo i c
  · rcases (by omega : i = n ∨ i < n) with rfl | c
    · rw [swp_right _ _ _ (by omega)]; exact h.out _ (.inr (by omega)) (.inl (by omega))
    · rw [swp_other _ _ _ _ (by omega) (by omega)]; exact h.hi i c
  · rw [swp_other _ _ _ _ (by omega) (by omega)]; exact h.out i (by omega) (by omega)

set_option maxHeartbeats 4000000 in
set_option maxRecDepth 1000000 in
theorem swapRange_any (L : SL P k) {blk off cap a b n A B : Nat} {d0 d : Array α} {w0 w : World} {fv : Value}
    (R : RowK enc k w0 blk off d0) (hs : d0.size = d.size) (S : SWK enc k w0 blk off d w) (hab : a + n ≤ b) (hb : b + n ≤ d.size) (hsz : d.size < 4611686018427387904) (hA : A ≤ a) (hB : b + n ≤ B) (hBs : B ≤ d.size) :
    Calls P 36 #[.slice (some ⟨blk, off, none⟩) d.size cap, .int .i64 a, .int .i64 b, .int .i64 n, fv] w fun e w' =>
      e = .returned (.tuple #[]) ∧ ∃ d', SWK enc k w0 blk off d' w' ∧ PermIn A B d d' ∧ SwpR d d' a b n := by
  have mixed := L.mixed; have aE := L.aE; have zE := L.zE; have t0 := L.t0; have a0 := L.a0; have z0 := L.z0; have v0 := L.v0; have t3 := L.t3; have a3 := L.a3; have z3 := L.z3; have v3 := L.v3; have t4 := L.t4; have a4 := L.a4; have z4 := L.z4; have v4 := L.v4; have t84 := L.t84; have a84 := L.a84; have z84 := L.z84; have v84 := L.v84; have t22 := L.t22; have a22 := L.a22; have z22 := L.z22; have v22 := L.v22; have t63 := L.t63; have a63 := L.a63; have z63 := L.z63; have v63 := L.v63
  have u22 := run_underlying L.t22
  have S0 : Aside (SWK enc k w0 blk off d w) := S
  clear S
  go_enter L.f36, Try.ntmps36
  go_wp2
  go_loopg [10] n (fun kx s10 wr => ∃ (i : Nat) (dk : Array α), s10 = .int .i64 i ∧ i ≤ n ∧ n - i ≤ kx ∧ dk.size = d.size ∧ Aside (SWK enc k w0 blk off dk wr) ∧ Hid (PermIn A B d dk ∧ SwpR d dk a b i))
  case atStart => exact ⟨0, d, rfl, Nat.zero_le _, by omega, rfl, S0, permIn_refl _ _ _, SwpR.start _ _ _⟩
  case round =>
    clear S0
    obtain ⟨i, dk, rfl, hin, hkx, hds, S1, HI⟩ := hrel
    by_cases hlt : i < n
    · have hltz : (i : Int) < (n : Int) := by omega
      have ea44 : ((a : Int) + (i : Int)).toNat = a + i := by omega
      have pa44 : (0 : Int) ≤ (a : Int) + (i : Int) := by omega
      have ba44 : (a : Int) + (i : Int) < (d.size : Int) := by omega
      have ra44 : IntKind.i64.wrap ((a : Int) + (i : Int)) = (a : Int) + (i : Int) := by rw [IntKind.wrap_i64]; omega
      have ec44 : ((b : Int) + (i : Int)).toNat = b + i := by omega
      have pc44 : (0 : Int) ≤ (b : Int) + (i : Int) := by omega
      have bc44 : (b : Int) + (i : Int) < (d.size : Int) := by omega
      have rc44 : IntKind.i64.wrap ((b : Int) + (i : Int)) = (b : Int) + (i : Int) := by rw [IntKind.wrap_i64]; omega
      have S2 : Aside (SWK enc k w0 blk off (swp dk (a + i) (b + i)) ((wr.drew.setCells blk (off + (a + i) * k) (enc dk[b + i]!)).setCells blk (off + (b + i) * k) (enc dk[a + i]!))) := S1.out.swapped R (a + i) (b + i) (by omega) (by omega)
      have l44a := S1.out.ld1 R (by omega) P (a + i) (by omega)
      have l44b := S1.out.ld1 R (by omega) P (b + i) (by omega)
      have s44a := S1.out.st1 R (by omega) P (a + i) (by omega) dk[b + i]!
      have s44b := S1.out.st2 R (by omega) P (a + i) (b + i) (by omega) (by omega) dk[b + i]! dk[a + i]!
      have n44a : (enc dk[a + i]!).length = k := R.hk _
      have n44b : (enc dk[b + i]!).length = k := R.hk _
      generalize enc dk[a + i]! = cI44 at S2 l44a s44b n44a
      generalize enc dk[b + i]! = cJ44 at S2 l44b s44a s44b n44b
      clear S1
      go_wp2_with fail
      go_big_region_o
      clear l44a l44b s44a s44b
      generalize (wr.drew.setCells blk (off + (a + i) * k) cJ44).setCells blk (off + (b + i) * k) cI44 = w2 at S2 ⊢
      go_wp2
      go_roundg (n - (i + 1))
      case measure => omega
      case rel =>
        exact ⟨i + 1, swp dk (a + i) (b + i), by go_num, by omega, by omega, by rw [size_swp]; exact hds, S2, permIn_trans _ _ _ _ _ HI.out.1 (swp_permIn dk A B (a + i) (b + i) (by omega) (by omega) (by omega) (by omega) (by omega)), HI.out.2.step (by omega) (by omega)⟩
    · obtain rfl : i = n := by omega
      have hltz : ¬ (i : Int) < (i : Int) := by omega
      go_wp2
      go_end0
      exact ⟨rfl, dk, S1.out, HI.out⟩
end Go.Proofs.Ytckldjiabalgbaa
