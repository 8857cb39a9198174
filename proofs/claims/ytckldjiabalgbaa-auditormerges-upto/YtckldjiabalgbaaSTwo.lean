/- slices' symMerge at rows: where the second part has one element. -/
import Derived.Test.YtckldjiabalgbaaSOne
namespace Go.Proofs.Ytckldjiabalgbaa
open Go.Shelf Go.RowKit Go.Lib Go.Sort
set_option linter.unusedVariables false
variable {P : Program} {k : Nat} {α : Type} [Inhabited α] {enc : α → List Value}
set_option maxHeartbeats 8000000 in
set_option maxRecDepth 1000000 in
theorem symMerge_two (L : SL P k) {cf : α → α → Int} (hO : SWO (ltOf cf)) {g : Nat} {cb : Array Value} {blk off cap a m b : Nat} {d0 d : Array α} {w0 w : World}
    (eg : ∀ args w, (callFunc g args).run P w = .ok (.enter g args) w) (hcmp : CmpLays P g cb enc k cf blk off d0.size w0) (R : RowK enc k w0 blk off d0) (hs : d0.size = d.size) (S : SWK enc k w0 blk off d w) (ham : a < m) (hmb : m < b) (hb : b ≤ d.size) (hsz : d.size < 4611686018427387904) (h1 : SortedIn (ltOf cf) a m d) (h2 : SortedIn (ltOf cf) m b d) (hm : m ≠ a + 1) (hb1 : b = m + 1) :
    Calls P 32 #[.slice (some ⟨blk, off, none⟩) d.size cap, .int .i64 a, .int .i64 m, .int .i64 b, .func (.func g) #[] cb] w fun e w' =>
      e = .returned (.tuple #[]) ∧ ∃ d', SWK enc k w0 blk off d' w' ∧ Mrg (ltOf cf) d d' a b ∧ SortedIn (ltOf cf) a b d' := by
  have mixed := L.mixed; have aE := L.aE; have zE := L.zE; have t0 := L.t0; have a0 := L.a0; have z0 := L.z0; have v0 := L.v0; have t3 := L.t3; have a3 := L.a3; have z3 := L.z3; have v3 := L.v3; have t4 := L.t4; have a4 := L.a4; have z4 := L.z4; have v4 := L.v4; have t84 := L.t84; have a84 := L.a84; have z84 := L.z84; have v84 := L.v84; have t22 := L.t22; have a22 := L.a22; have z22 := L.z22; have v22 := L.v22; have t63 := L.t63; have a63 := L.a63; have z63 := L.z63; have v63 := L.v63
  have u22 := run_underlying L.t22
  have S0 : Aside (SWK enc k w0 blk off d w) := S
  have HC : Aside (CmpLays P g cb enc k cf blk off d0.size w0) := hcmp
  have H1 : Hid (SortedIn (ltOf cf) a m d) := h1
  have HO : Hid (SWO (ltOf cf)) := hO
  have em : ((m : Int) - (a : Int) == 1) = false := by simp; omega
  have eb : ((b : Int) - (m : Int) == 1) = true := by simp; omega
  have HM : Hid (b = m + 1) := hb1
  clear S hcmp h1 h2 hO hm hb1
  go_enter L.f32, Try.ntmps32
  go_wp2
  go_loopg [14, 15] (m - a) (fun kx s14 s15 wr => ∃ (i j : Nat), s14 = .int .i64 i ∧ s15 = .int .i64 j ∧ a ≤ i ∧ i ≤ j ∧ j ≤ m ∧ j - i ≤ kx ∧ Aside (SWK enc k w0 blk off d wr) ∧ Hid ((∀ q, a ≤ q → q < i → ltOf cf d[m]! d[q]! = false) ∧ (∀ q, j ≤ q → q < m → ltOf cf d[m]! d[q]! = true)))
  case atStart => exact ⟨a, m, rfl, rfl, Nat.le_refl _, by omega, Nat.le_refl _, by omega, S0, fun q x y => by omega, fun q x y => by omega⟩
  case round =>
    clear S0
    obtain ⟨i, j, rfl, rfl, hai, hij, hjm, hkx, S1, HI⟩ := hrel
    by_cases hlt : i < j
    · have hltz : (i : Int) < (j : Int) := by omega
      obtain ⟨h, eh⟩ : ∃ h : Nat, h = (i + j) / 2 := ⟨_, rfl⟩
      have ehz : ((i : Int) + (j : Int)) / 2 = (h : Int) := by omega
      have hh1 : i ≤ h := by omega
      have hh2 : h < j := by omega
      clear eh
      cases hlv : ltOf cf d[m]! d[h]! with
      | true =>
        have ea17 : ((m : Int)).toNat = m := by omega
        have pa17 : (0 : Int) ≤ (m : Int) := by omega
        have ba17 : (m : Int) < (d.size : Int) := by omega
        have ra17 : IntKind.i64.wrap ((m : Int)) = (m : Int) := by rw [IntKind.wrap_i64]; omega
        have ec17 : ((h : Int)).toNat = h := by omega
        have pc17 : (0 : Int) ≤ (h : Int) := by omega
        have bc17 : (h : Int) < (d.size : Int) := by omega
        have rc17 : IntKind.i64.wrap ((h : Int)) = (h : Int) := by rw [IntKind.wrap_i64]; omega
        obtain ⟨x17, hx17⟩ : ∃ x, x = d[m]! := ⟨_, rfl⟩
        obtain ⟨y17, hy17⟩ : ∃ x, x = d[h]! := ⟨_, rfl⟩
        have l17a := S1.out.ld R (by omega) P (m) (by omega)
        have l17b := S1.out.ld R (by omega) P (h) (by omega)
        rw [← hx17] at l17a
        rw [← hy17] at l17b
        have hc17 := S1.out.cmp HC.out (by omega) x17 y17
        have hv17 : cf x17 y17 < 0 := by rw [hx17, hy17]; exact of_decide_eq_true hlv
        have hd17 : decide (cf x17 y17 < 0) = true := decide_eq_true hv17
        clear hx17 hy17
        go_wp2_with fail
        go_quiet_grown (first | (go_at_fn g; refine Calls.grown_of (hc17 _ _)))
        have S2 : Aside (SWK enc k w0 blk off d (grow (wr.drewN nq) osq)) := S1.out.grown nq osq
        clear l17a l17b hc17 S1
        generalize grow (wr.drewN nq) osq = w2 at S2 ⊢
        clear nq osq
        go_wp2
        go_roundg (h - i)
        case measure => omega
        case rel => exact ⟨i, h, rfl, rfl, hai, hh1, by omega, Nat.le_refl _, S2, HI.out.1, fun q x y => dn_sorted HO.out H1.out (by omega) hlv q x y⟩
      | false =>
        have ea17 : ((m : Int)).toNat = m := by omega
        have pa17 : (0 : Int) ≤ (m : Int) := by omega
        have ba17 : (m : Int) < (d.size : Int) := by omega
        have ra17 : IntKind.i64.wrap ((m : Int)) = (m : Int) := by rw [IntKind.wrap_i64]; omega
        have ec17 : ((h : Int)).toNat = h := by omega
        have pc17 : (0 : Int) ≤ (h : Int) := by omega
        have bc17 : (h : Int) < (d.size : Int) := by omega
        have rc17 : IntKind.i64.wrap ((h : Int)) = (h : Int) := by rw [IntKind.wrap_i64]; omega
        obtain ⟨x17, hx17⟩ : ∃ x, x = d[m]! := ⟨_, rfl⟩
        obtain ⟨y17, hy17⟩ : ∃ x, x = d[h]! := ⟨_, rfl⟩
        have l17a := S1.out.ld R (by omega) P (m) (by omega)
        have l17b := S1.out.ld R (by omega) P (h) (by omega)
        rw [← hx17] at l17a
        rw [← hy17] at l17b
        have hc17 := S1.out.cmp HC.out (by omega) x17 y17
        have hv17 : ¬ cf x17 y17 < 0 := by rw [hx17, hy17]; exact of_decide_eq_false hlv
        have hd17 : decide (cf x17 y17 < 0) = false := decide_eq_false hv17
        clear hx17 hy17
        go_wp2_with fail
        go_quiet_grown (first | (go_at_fn g; refine Calls.grown_of (hc17 _ _)))
        have S2 : Aside (SWK enc k w0 blk off d (grow (wr.drewN nq) osq)) := S1.out.grown nq osq
        clear l17a l17b hc17 S1
        generalize grow (wr.drewN nq) osq = w2 at S2 ⊢
        clear nq osq
        go_wp2
        go_roundg (j - (h + 1))
        case measure => omega
        case rel => exact ⟨h + 1, j, by go_num, rfl, by omega, by omega, hjm, Nat.le_refl _, S2, fun q x y => dn_sorted' HO.out H1.out (by omega) hlv q x (by omega), HI.out.2⟩
    · obtain rfl : i = j := by omega
      have hltz : ¬ (i : Int) < (i : Int) := by omega
      have HJ : Hid ((∀ q, a ≤ q → q < i → ltOf cf d[m]! d[q]! = false) ∧ (∀ q, i ≤ q → q < m → ltOf cf d[m]! d[q]! = true)) := HI.out
      clear HI hkx
      go_wp2
      go_loopg [17] (m - i) (fun kx s17 wr => ∃ (p : Nat) (dk : Array α), s17 = .int .i64 p ∧ i ≤ p ∧ p ≤ m ∧ p - i ≤ kx ∧ dk.size = d.size ∧ Aside (SWK enc k w0 blk off dk wr) ∧ Hid (Sink (ltOf cf) d dk a p m))
      case atStart => exact ⟨m, d, rfl, by omega, Nat.le_refl _, Nat.le_refl _, rfl, S1, Sink.start _ _ _⟩
      case round =>
        clear S1
        obtain ⟨p, dk, rfl, hip, hpm, hkp, hds, S1, HB⟩ := hrel
        by_cases hp : i < p
        · obtain ⟨p, rfl⟩ : ∃ q, p = q + 1 := ⟨p - 1, by omega⟩
          have hpz : (i : Int) < (p : Int) + 1 := by omega
          have ea23 : ((p : Int) + 1).toNat = p + 1 := by omega
          have pa23 : (0 : Int) ≤ (p : Int) + 1 := by omega
          have ba23 : (p : Int) + 1 < (d.size : Int) := by omega
          have ra23 : IntKind.i64.wrap ((p : Int) + 1) = (p : Int) + 1 := by rw [IntKind.wrap_i64]; omega
          have ec23 : ((p : Int)).toNat = p := by omega
          have pc23 : (0 : Int) ≤ (p : Int) := by omega
          have bc23 : (p : Int) < (d.size : Int) := by omega
          have rc23 : IntKind.i64.wrap ((p : Int)) = (p : Int) := by rw [IntKind.wrap_i64]; omega
          have S2 : Aside (SWK enc k w0 blk off (swp dk (p + 1) (p)) ((wr.drew.setCells blk (off + (p + 1) * k) (enc dk[p]!)).setCells blk (off + (p) * k) (enc dk[p + 1]!))) := S1.out.swapped R (p + 1) (p) (by omega) (by omega)
          have l23a := S1.out.ld1 R (by omega) P (p + 1) (by omega)
          have l23b := S1.out.ld1 R (by omega) P (p) (by omega)
          have s23a := S1.out.st1 R (by omega) P (p + 1) (by omega) dk[p]!
          have s23b := S1.out.st2 R (by omega) P (p + 1) (p) (by omega) (by omega) dk[p]! dk[p + 1]!
          have n23a : (enc dk[p + 1]!).length = k := R.hk _
          have n23b : (enc dk[p]!).length = k := R.hk _
          generalize enc dk[p + 1]! = cI23 at S2 l23a s23b n23a
          generalize enc dk[p]! = cJ23 at S2 l23b s23a s23b n23b
          clear S1
          go_wp2_with fail
          go_big_region_o
          clear l23a l23b s23a s23b
          generalize (wr.drew.setCells blk (off + (p + 1) * k) cJ23).setCells blk (off + (p) * k) cI23 = w2 at S2 ⊢
          go_wp2
          go_roundg (p - i)
          case measure => omega
          case rel => exact ⟨p, swp dk (p + 1) p, by go_num, by omega, by omega, by omega, by rw [size_swp]; exact hds, S2, HB.out.step HO.out (by omega) (by omega) (by omega) (HJ.out.2 _ (by omega) (by omega))⟩
        · have hpe : p = i := by omega
          have hpz : ¬ (i : Int) < (p : Int) := by omega
          go_wp2
          (try simp only [Exit.inBlock, Exit.then]); refine bodyPost_ret (results_none rfl _ _ _) rfl ?_
          have hbm := HM.out
          rw [hbm]
          exact ⟨rfl, dk, S1.out, HB.out.mg, HB.out.done HO.out (by omega) (by omega) H1.out (fun q x y => HJ.out.1 q x (by omega)) (fun q x y => HJ.out.2 q (by omega) y)⟩
end Go.Proofs.Ytckldjiabalgbaa
