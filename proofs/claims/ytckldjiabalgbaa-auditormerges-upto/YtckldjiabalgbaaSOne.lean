/- slices' symMerge at rows: where the first part has one element. -/
import Derived.Test.YtckldjiabalgbaaSRot
namespace Go.Proofs.Ytckldjiabalgbaa
open Go.Shelf Go.RowKit Go.Lib Go.Sort
set_option linter.unusedVariables false
variable {P : Program} {k : Nat} {α : Type} [Inhabited α] {enc : α → List Value}
set_option maxHeartbeats 8000000 in
set_option maxRecDepth 1000000 in
theorem symMerge_one (L : SL P k) {cf : α → α → Int} (hO : SWO (ltOf cf)) {g : Nat} {cb : Array Value} {blk off cap a m b : Nat} {d0 d : Array α} {w0 w : World}
    (eg : ∀ args w, (callFunc g args).run P w = .ok (.enter g args) w) (hcmp : CmpLays P g cb enc k cf blk off d0.size w0) (R : RowK enc k w0 blk off d0) (hs : d0.size = d.size) (S : SWK enc k w0 blk off d w) (ham : a < m) (hmb : m < b) (hb : b ≤ d.size) (hsz : d.size < 4611686018427387904) (h1 : SortedIn (ltOf cf) a m d) (h2 : SortedIn (ltOf cf) m b d) (hm : m = a + 1) :
    Calls P 32 #[.slice (some ⟨blk, off, none⟩) d.size cap, .int .i64 a, .int .i64 m, .int .i64 b, .func (.func g) #[] cb] w fun e w' =>
      e = .returned (.tuple #[]) ∧ ∃ d', SWK enc k w0 blk off d' w' ∧ Mrg (ltOf cf) d d' a b ∧ SortedIn (ltOf cf) a b d' := by
  have mixed := L.mixed; have aE := L.aE; have zE := L.zE; have t0 := L.t0; have a0 := L.a0; have z0 := L.z0; have v0 := L.v0; have t3 := L.t3; have a3 := L.a3; have z3 := L.z3; have v3 := L.v3; have t4 := L.t4; have a4 := L.a4; have z4 := L.z4; have v4 := L.v4; have t84 := L.t84; have a84 := L.a84; have z84 := L.z84; have v84 := L.v84; have t22 := L.t22; have a22 := L.a22; have z22 := L.z22; have v22 := L.v22; have t63 := L.t63; have a63 := L.a63; have z63 := L.z63; have v63 := L.v63
  have u22 := run_underlying L.t22
  have S0 : Aside (SWK enc k w0 blk off d w) := S
  have HC : Aside (CmpLays P g cb enc k cf blk off d0.size w0) := hcmp
  have H2 : Hid (SortedIn (ltOf cf) m b d) := h2
  have HO : Hid (SWO (ltOf cf)) := hO
  have em : ((m : Int) - (a : Int) == 1) = true := by simp; omega
  have HM : Hid (m = a + 1) := hm
  clear S hcmp h1 h2 hO hm
  go_enter L.f32, Try.ntmps32
  go_wp2
  go_loopg [10, 11] (b - m) (fun kx s10 s11 wr => ∃ (i j : Nat), s10 = .int .i64 i ∧ s11 = .int .i64 j ∧ m ≤ i ∧ i ≤ j ∧ j ≤ b ∧ j - i ≤ kx ∧ Aside (SWK enc k w0 blk off d wr) ∧ Hid ((∀ q, m ≤ q → q < i → ltOf cf d[q]! d[a]! = true) ∧ (∀ q, j ≤ q → q < b → ltOf cf d[q]! d[a]! = false)))
  case atStart => exact ⟨m, b, rfl, rfl, Nat.le_refl _, by omega, Nat.le_refl _, by omega, S0, fun q x y => by omega, fun q x y => by omega⟩
  case round =>
    clear S0
    obtain ⟨i, j, rfl, rfl, hmi, hij, hjb, hkx, S1, HI⟩ := hrel
    by_cases hlt : i < j
    · have hltz : (i : Int) < (j : Int) := by omega
      obtain ⟨h, eh⟩ : ∃ h : Nat, h = (i + j) / 2 := ⟨_, rfl⟩
      have ehz : ((i : Int) + (j : Int)) / 2 = (h : Int) := by omega
      have hh1 : i ≤ h := by omega
      have hh2 : h < j := by omega
      clear eh
      cases hlv : ltOf cf d[h]! d[a]! with
      | true =>
        have ea5 : ((h : Int)).toNat = h := by omega
        have pa5 : (0 : Int) ≤ (h : Int) := by omega
        have ba5 : (h : Int) < (d.size : Int) := by omega
        have ra5 : IntKind.i64.wrap ((h : Int)) = (h : Int) := by rw [IntKind.wrap_i64]; omega
        have ec5 : ((a : Int)).toNat = a := by omega
        have pc5 : (0 : Int) ≤ (a : Int) := by omega
        have bc5 : (a : Int) < (d.size : Int) := by omega
        have rc5 : IntKind.i64.wrap ((a : Int)) = (a : Int) := by rw [IntKind.wrap_i64]; omega
        obtain ⟨x5, hx5⟩ : ∃ x, x = d[h]! := ⟨_, rfl⟩
        obtain ⟨y5, hy5⟩ : ∃ x, x = d[a]! := ⟨_, rfl⟩
        have l5a := S1.out.ld R (by omega) P (h) (by omega)
        have l5b := S1.out.ld R (by omega) P (a) (by omega)
        rw [← hx5] at l5a
        rw [← hy5] at l5b
        have hc5 := S1.out.cmp HC.out (by omega) x5 y5
        have hv5 : cf x5 y5 < 0 := by rw [hx5, hy5]; exact of_decide_eq_true hlv
        have hd5 : decide (cf x5 y5 < 0) = true := decide_eq_true hv5
        clear hx5 hy5
        go_wp2_with fail
        go_quiet_grown (first | (go_at_fn g; refine Calls.grown_of (hc5 _ _)))
        have S2 : Aside (SWK enc k w0 blk off d (grow (wr.drewN nq) osq)) := S1.out.grown nq osq
        clear l5a l5b hc5 S1
        generalize grow (wr.drewN nq) osq = w2 at S2 ⊢
        clear nq osq
        go_wp2
        go_roundg (j - (h + 1))
        case measure => omega
        case rel => exact ⟨h + 1, j, by go_num, rfl, by omega, by omega, hjb, Nat.le_refl _, S2, fun q x y => up_sorted HO.out H2.out (by omega) hlv q x (by omega), HI.out.2⟩
      | false =>
        have ea5 : ((h : Int)).toNat = h := by omega
        have pa5 : (0 : Int) ≤ (h : Int) := by omega
        have ba5 : (h : Int) < (d.size : Int) := by omega
        have ra5 : IntKind.i64.wrap ((h : Int)) = (h : Int) := by rw [IntKind.wrap_i64]; omega
        have ec5 : ((a : Int)).toNat = a := by omega
        have pc5 : (0 : Int) ≤ (a : Int) := by omega
        have bc5 : (a : Int) < (d.size : Int) := by omega
        have rc5 : IntKind.i64.wrap ((a : Int)) = (a : Int) := by rw [IntKind.wrap_i64]; omega
        obtain ⟨x5, hx5⟩ : ∃ x, x = d[h]! := ⟨_, rfl⟩
        obtain ⟨y5, hy5⟩ : ∃ x, x = d[a]! := ⟨_, rfl⟩
        have l5a := S1.out.ld R (by omega) P (h) (by omega)
        have l5b := S1.out.ld R (by omega) P (a) (by omega)
        rw [← hx5] at l5a
        rw [← hy5] at l5b
        have hc5 := S1.out.cmp HC.out (by omega) x5 y5
        have hv5 : ¬ cf x5 y5 < 0 := by rw [hx5, hy5]; exact of_decide_eq_false hlv
        have hd5 : decide (cf x5 y5 < 0) = false := decide_eq_false hv5
        clear hx5 hy5
        go_wp2_with fail
        go_quiet_grown (first | (go_at_fn g; refine Calls.grown_of (hc5 _ _)))
        have S2 : Aside (SWK enc k w0 blk off d (grow (wr.drewN nq) osq)) := S1.out.grown nq osq
        clear l5a l5b hc5 S1
        generalize grow (wr.drewN nq) osq = w2 at S2 ⊢
        clear nq osq
        go_wp2
        go_roundg (h - i)
        case measure => omega
        case rel => exact ⟨i, h, rfl, rfl, hmi, hh1, by omega, Nat.le_refl _, S2, HI.out.1, fun q x y => up_sorted' HO.out H2.out (by omega) hlv q x y⟩
    · obtain rfl : i = j := by omega
      have hltz : ¬ (i : Int) < (i : Int) := by omega
      have HJ : Hid ((∀ q, m ≤ q → q < i → ltOf cf d[q]! d[a]! = true) ∧ (∀ q, i ≤ q → q < b → ltOf cf d[q]! d[a]! = false)) := HI.out
      clear HI hkx
      go_wp2
      go_loopg [13] (i - 1 - a) (fun kx s13 wr => ∃ (p : Nat) (dk : Array α), s13 = .int .i64 p ∧ a ≤ p ∧ p ≤ i - 1 ∧ i - 1 - p ≤ kx ∧ dk.size = d.size ∧ Aside (SWK enc k w0 blk off dk wr) ∧ Hid (Bub (ltOf cf) d dk a p b))
      case atStart => exact ⟨a, d, rfl, Nat.le_refl _, by have := HM.out; omega, by omega, rfl, S1, Bub.start _ _ _⟩
      case round =>
        clear S1
        obtain ⟨p, dk, rfl, hap, hpi, hkp, hds, S1, HB⟩ := hrel
        by_cases hp : p < i - 1
        · have hpz : (p : Int) < (i : Int) - 1 := by omega
          have ea11 : ((p : Int)).toNat = p := by omega
          have pa11 : (0 : Int) ≤ (p : Int) := by omega
          have ba11 : (p : Int) < (d.size : Int) := by omega
          have ra11 : IntKind.i64.wrap ((p : Int)) = (p : Int) := by rw [IntKind.wrap_i64]; omega
          have ec11 : ((p : Int) + 1).toNat = p + 1 := by omega
          have pc11 : (0 : Int) ≤ (p : Int) + 1 := by omega
          have bc11 : (p : Int) + 1 < (d.size : Int) := by omega
          have rc11 : IntKind.i64.wrap ((p : Int) + 1) = (p : Int) + 1 := by rw [IntKind.wrap_i64]; omega
          have S2 : Aside (SWK enc k w0 blk off (swp dk (p) (p + 1)) ((wr.drew.setCells blk (off + (p) * k) (enc dk[p + 1]!)).setCells blk (off + (p + 1) * k) (enc dk[p]!))) := S1.out.swapped R (p) (p + 1) (by omega) (by omega)
          have l11a := S1.out.ld1 R (by omega) P (p) (by omega)
          have l11b := S1.out.ld1 R (by omega) P (p + 1) (by omega)
          have s11a := S1.out.st1 R (by omega) P (p) (by omega) dk[p + 1]!
          have s11b := S1.out.st2 R (by omega) P (p) (p + 1) (by omega) (by omega) dk[p + 1]! dk[p]!
          have n11a : (enc dk[p]!).length = k := R.hk _
          have n11b : (enc dk[p + 1]!).length = k := R.hk _
          generalize enc dk[p]! = cI11 at S2 l11a s11b n11a
          generalize enc dk[p + 1]! = cJ11 at S2 l11b s11a s11b n11b
          clear S1
          go_wp2_with fail
          go_big_region_o
          clear l11a l11b s11a s11b
          generalize (wr.drew.setCells blk (off + (p) * k) cJ11).setCells blk (off + (p + 1) * k) cI11 = w2 at S2 ⊢
          go_wp2
          go_roundg (i - 1 - (p + 1))
          case measure => omega
          case rel => exact ⟨p + 1, swp dk p (p + 1), by go_num, by omega, by omega, by omega, by rw [size_swp]; exact hds, S2, HB.out.step HO.out hap (by omega) hb (HJ.out.1 _ (by have := HM.out; omega) (by omega))⟩
        · have hpe : Hid (p = i - 1) := (show p = i - 1 by have := HM.out; omega)
          have hpz : ¬ (p : Int) < (i : Int) - 1 := by have := HM.out; omega
          go_wp2
          (try simp only [Exit.inBlock, Exit.then]); refine bodyPost_ret (results_none rfl _ _ _) rfl ?_
          have hmm := HM.out
          exact ⟨rfl, dk, S1.out, HB.out.mg, HB.out.done HO.out hap (by have := hpe.out; omega) (HM.out ▸ H2.out) (fun q x y => HJ.out.1 q (by omega) (by have := hpe.out; omega)) (fun q x y => HJ.out.2 q (by have := hpe.out; omega) y)⟩
end Go.Proofs.Ytckldjiabalgbaa
