/- The statement CodecErrors: the walk. -/
import Derived.Test.YtfdlgiomnmnhgabDoorCounts
import Derived.Test.YtfdlgiomnmnhgabDoorGetOp
namespace Go.Proofs.YtfdlgiomnmnhgabDoor
open Go.RowKit Cod
set_option linter.unusedVariables false

theorem rEnd_why {l : List (BitVec 8)} {at_ why : Nat} (h0 : rEnd l at_ why ≠ 0) (h1 : rEnd l at_ why ≠ 11) : rEnd l at_ why = why := by
  unfold rEnd at h0 h1 ⊢
  split
  · rfl
  · rename_i hw
    rw [if_neg hw] at h0 h1
    split at h0 <;> simp_all
set_option maxRecDepth 100000 in
set_option maxHeartbeats 3200000 in
theorem errors_walk (a : Option Addr) (len cap : Nat) (l : List (BitVec 8)) (ka : Option Addr) (kn kc : Nat) (zs : List Int) (w : World) (hT : Tabs w) (h : Seen w a len l) (hnil : a = none → cap = 0) (hm : len ≤ 140737488355328) (hz : IntsAt w ka kn zs) :
    Calls Tryd.prog 5 #[.slice a len cap, .slice ka kn kc] w fun e w' => e = .returned (.bool true) ∧ Below w.heap.size w w' := by
  have HC := newReader_any a len cap l w h hnil hm
  have HT : Hid (Tabs w) := hT
  have hll : Hid (len = l.length) := h.1
  have HM : Hid _ := hm
  obtain rfl : kn = zs.length := hz.1
  have hzl : zs.length ≤ 140737488355328 := hz.2.1
  have HZ : Hid (IntsAt w ka zs.length zs) := hz
  clear h hnil hm hT hz
  go_enter Tryd.func5, Tryd.ntmps5
  go_wp2_with fail
  refine HC.mono ?_
  rintro e w1 ⟨R, rfl, hR, r1, b1⟩
  have R1 : Hid (Rdr w1 R l 0 0) := r1
  have B1 : Hid (Below w.heap.size w w1) := b1
  have HR : Hid (w.heap.size ≤ R) := hR
  clear HC r1 b1 hR
  go_wp2
  go_loopw [6, 7, 8] (fun bad at_ i wr => ∃ (k y q p x : Nat), k ≤ zs.length ∧ k ≤ 60 ∧ bad = .int .i64 y ∧ at_ = .int .i64 q ∧ i = .int .i64 k ∧ Rdr wr R l p x ∧ q ≤ p ∧ y ≠ 11 ∧ (y ≠ 0 → x = y ∧ p = q) ∧ Below w.heap.size w wr)
    (fun _ _ i _ => 60 - (intOf i).toNat)
  case atStart => exact ⟨0, 0, 0, 0, 0, Nat.zero_le _, by omega, rfl, rfl, rfl, R1.out, Nat.le_refl _, by omega, fun h => absurd rfl h, B1.out⟩
  case round =>
    obtain ⟨k, y, q, p, x, hk, hk60, rfl, rfl, rfl, hrd, hqp, hy11, hyx, hbl⟩ := hrel
    have HB : Hid (Below w.heap.size w wr) := hbl
    have HRd : Hid (Rdr wr R l p x) := hrd
    have HYX : Hid _ := hyx
    have HQP : Hid _ := hqp
    have HY11 : Hid _ := hy11
    clear hbl hrd hyx hqp hy11
    by_cases hlt : k < zs.length ∧ k < 60
    · have hRR := HZ.out.below HB.out
      obtain ⟨b, off, rfl, hc⟩ : ∃ b off, ka = some ⟨b, off, none⟩ ∧ ∀ j (hj : j < zs.length), wr.cell? ⟨b, off + j, none⟩ = some (.int .i64 zs[j]) := by
        rcases hRR.2.2.2 with h3 | h3
        · omega
        · exact h3
      have c1 := hc k hlt.1
      have hi := hRR.2.2.1 zs[k] (List.getElem_mem hlt.1)
      have CQ : Hid (Calls Tryd.prog 13 #[.int .i64 zs[k], .int .i64 5] wr fun e w' => e = .returned (.int .i64 (zs[k] % 5)) ∧ w' = wr) := count_any zs[k] 5 wr hi.1 (by have := hi.2; omega) (by omega) (by omega)
      have hm5 : zs[k] % 5 = 0 ∨ zs[k] % 5 = 1 ∨ zs[k] % 5 = 2 ∨ zs[k] % 5 = 3 ∨ zs[k] % 5 = 4 := by omega
      have HLE : Hid (p ≤ l.length) := HRd.out.le.1
      obtain ⟨hlt1, hlt2⟩ := hlt
      have hl1 : (k : Int) < zs.length := by omega
      clear hRR hc hi
      generalize zs[k] = z at *
      rcases hm5 with e5 | e5 | e5 | e5 | e5
      · rw [e5] at CQ
        clear e5
        go_wp2_with fail
        refine CQ.out.mono ?_
        rintro e w0 ⟨rfl, rfl⟩
        go_wp2_with fail
        refine (rUint_any R l p x _ HRd.out).mono ?_
        have GO : Hid (Goes l p x (rU l p x).2.1 (rU l p x).2.2) := rU_goes l p x HLE.out
        generalize (rU l p x).2.1 = p2 at *
        generalize (rU l p x).2.2 = x2 at *
        rintro e w2 ⟨rfl, r2, g2⟩
        have R2 : Hid (Rdr w2 R l p2 x2) := r2
        have B2 : Hid (Below w.heap.size w w2) := below_grown HB.out g2 HB.out.size HR.out
        clear r2 g2 CQ c1
        go_wp2_with fail
        refine (rEnd_any R l p2 x2 w2 R2.out).mono ?_
        rintro e w3 ⟨rfl, n3, hw3⟩
        have R3 : Hid (Rdr w3 R l p2 x2) := by rw [hw3]; exact R2.out
        have B3 : Hid (Below w.heap.size w w3) := by rw [hw3]; exact below_drewN' B2.out n3
        clear hw3 R2 B2
        obtain ⟨e0, he0⟩ : ∃ e0, rEnd l p2 x2 = e0 := ⟨_, rfl⟩
        rw [he0]
        have HE : Hid (rEnd l p2 x2 = e0) := he0
        have hqp2 : ¬ ((p2 : Int) < q) := by have h1 := HQP.out; have h2 := GO.out.1; omega
        have hlen : ¬ ((len : Int) < p2) := by have h1 := hll.out; have h2 := GO.out.2.1; omega
        clear he0
        by_cases hy : y = 0
        · subst hy
          by_cases h0 : e0 = 0
          · subst h0
            go_wp2_with fail
            refine (rAt_any R l p2 x2 _ R3.out).mono ?_
            rintro e w4 ⟨rfl, rfl⟩
            go_wp2_with fail
            refine (rAt_any R l p2 x2 _ R3.out).mono ?_
            rintro e w4 ⟨rfl, rfl⟩
            go_wp2
            go_roundw
            case rel => exact ⟨k + 1, 0, q, p2, x2, by omega, by omega, rfl, rfl, by go_num, R3.out, Nat.le_trans HQP.out GO.out.1, by omega, fun h => absurd rfl h, B3.out⟩
            case measure => simp only [intOf]; omega
          · by_cases h11 : e0 = 11
            · subst h11
              go_wp2_with fail
              refine (rAt_any R l p2 x2 _ R3.out).mono ?_
              rintro e w4 ⟨rfl, rfl⟩
              go_wp2_with fail
              refine (rAt_any R l p2 x2 _ R3.out).mono ?_
              rintro e w4 ⟨rfl, rfl⟩
              go_wp2
              go_roundw
              case rel => exact ⟨k + 1, 0, q, p2, x2, by omega, by omega, rfl, rfl, by go_num, R3.out, Nat.le_trans HQP.out GO.out.1, by omega, fun h => absurd rfl h, B3.out⟩
              case measure => simp only [intOf]; omega
            · have HX : Hid (e0 = x2) := by
                have := rEnd_why (l := l) (at_ := p2) (why := x2) (by rw [HE.out]; exact h0) (by rw [HE.out]; exact h11)
                rw [HE.out] at this
                exact this
              have h0' : ((e0 : Int) != 0) = true := by rw [bne_iff_ne]; omega
              have h11' : ((e0 : Int) != 11) = true := by rw [bne_iff_ne]; omega
              go_wp2_with fail
              refine (rAt_any R l p2 x2 _ R3.out).mono ?_
              rintro e w4 ⟨rfl, rfl⟩
              go_wp2_with fail
              refine (rAt_any R l p2 x2 _ R3.out).mono ?_
              rintro e w4 ⟨rfl, rfl⟩
              go_wp2_with fail
              refine (rAt_any R l p2 x2 _ R3.out).mono ?_
              rintro e w4 ⟨rfl, rfl⟩
              go_wp2
              go_roundw
              case rel => exact ⟨k + 1, e0, p2, p2, x2, by omega, by omega, rfl, rfl, by go_num, R3.out, Nat.le_refl _, h11, fun _ => ⟨HX.out.symm, rfl⟩, B3.out⟩
              case measure => simp only [intOf]; omega
        · obtain ⟨rfl, rfl⟩ := HYX.out hy
          obtain ⟨rfl, rfl⟩ := GO.out.2.2 hy
          have hxe : rEnd l p2 x2 = x2 := by simp [rEnd, hy]
          obtain rfl : x2 = e0 := by rw [← hxe]; exact HE.out
          have hy' : ((x2 : Int) != 0) = true := by rw [bne_iff_ne]; omega
          have h11 : x2 ≠ 11 := HY11.out
          have h11' : ((x2 : Int) != 11) = true := by rw [bne_iff_ne]; omega
          clear hxe
          go_wp2_with fail
          refine (rAt_any R l p2 x2 _ R3.out).mono ?_
          rintro e w4 ⟨rfl, rfl⟩
          go_wp2_with fail
          refine (rAt_any R l p2 x2 _ R3.out).mono ?_
          rintro e w4 ⟨rfl, rfl⟩
          go_wp2_with fail
          refine (rAt_any R l p2 x2 _ R3.out).mono ?_
          rintro e w4 ⟨rfl, rfl⟩
          go_wp2_with fail
          refine (rAt_any R l p2 x2 _ R3.out).mono ?_
          rintro e w4 ⟨rfl, rfl⟩
          go_wp2
          go_roundw
          case rel => exact ⟨k + 1, x2, p2, p2, x2, by omega, by omega, rfl, rfl, by go_num, R3.out, Nat.le_refl _, h11, fun _ => ⟨rfl, rfl⟩, B3.out⟩
          case measure => simp only [intOf]; omega
      · rw [e5] at CQ
        clear e5
        go_wp2_with fail
        refine CQ.out.mono ?_
        rintro e w0 ⟨rfl, rfl⟩
        go_wp2_with fail
        refine (rBool_any R l p x _ HRd.out).mono ?_
        have GO : Hid (Goes l p x (rB l p x).2.1 (rB l p x).2.2) := rB_goes l p x HLE.out
        generalize (rB l p x).2.1 = p2 at *
        generalize (rB l p x).2.2 = x2 at *
        rintro e w2 ⟨rfl, r2, g2⟩
        have R2 : Hid (Rdr w2 R l p2 x2) := r2
        have B2 : Hid (Below w.heap.size w w2) := below_grown HB.out g2 HB.out.size HR.out
        clear r2 g2 CQ c1
        go_wp2_with fail
        refine (rEnd_any R l p2 x2 w2 R2.out).mono ?_
        rintro e w3 ⟨rfl, n3, hw3⟩
        have R3 : Hid (Rdr w3 R l p2 x2) := by rw [hw3]; exact R2.out
        have B3 : Hid (Below w.heap.size w w3) := by rw [hw3]; exact below_drewN' B2.out n3
        clear hw3 R2 B2
        obtain ⟨e0, he0⟩ : ∃ e0, rEnd l p2 x2 = e0 := ⟨_, rfl⟩
        rw [he0]
        have HE : Hid (rEnd l p2 x2 = e0) := he0
        have hqp2 : ¬ ((p2 : Int) < q) := by have h1 := HQP.out; have h2 := GO.out.1; omega
        have hlen : ¬ ((len : Int) < p2) := by have h1 := hll.out; have h2 := GO.out.2.1; omega
        clear he0
        by_cases hy : y = 0
        · subst hy
          by_cases h0 : e0 = 0
          · subst h0
            go_wp2_with fail
            refine (rAt_any R l p2 x2 _ R3.out).mono ?_
            rintro e w4 ⟨rfl, rfl⟩
            go_wp2_with fail
            refine (rAt_any R l p2 x2 _ R3.out).mono ?_
            rintro e w4 ⟨rfl, rfl⟩
            go_wp2
            go_roundw
            case rel => exact ⟨k + 1, 0, q, p2, x2, by omega, by omega, rfl, rfl, by go_num, R3.out, Nat.le_trans HQP.out GO.out.1, by omega, fun h => absurd rfl h, B3.out⟩
            case measure => simp only [intOf]; omega
          · by_cases h11 : e0 = 11
            · subst h11
              go_wp2_with fail
              refine (rAt_any R l p2 x2 _ R3.out).mono ?_
              rintro e w4 ⟨rfl, rfl⟩
              go_wp2_with fail
              refine (rAt_any R l p2 x2 _ R3.out).mono ?_
              rintro e w4 ⟨rfl, rfl⟩
              go_wp2
              go_roundw
              case rel => exact ⟨k + 1, 0, q, p2, x2, by omega, by omega, rfl, rfl, by go_num, R3.out, Nat.le_trans HQP.out GO.out.1, by omega, fun h => absurd rfl h, B3.out⟩
              case measure => simp only [intOf]; omega
            · have HX : Hid (e0 = x2) := by
                have := rEnd_why (l := l) (at_ := p2) (why := x2) (by rw [HE.out]; exact h0) (by rw [HE.out]; exact h11)
                rw [HE.out] at this
                exact this
              have h0' : ((e0 : Int) != 0) = true := by rw [bne_iff_ne]; omega
              have h11' : ((e0 : Int) != 11) = true := by rw [bne_iff_ne]; omega
              go_wp2_with fail
              refine (rAt_any R l p2 x2 _ R3.out).mono ?_
              rintro e w4 ⟨rfl, rfl⟩
              go_wp2_with fail
              refine (rAt_any R l p2 x2 _ R3.out).mono ?_
              rintro e w4 ⟨rfl, rfl⟩
              go_wp2_with fail
              refine (rAt_any R l p2 x2 _ R3.out).mono ?_
              rintro e w4 ⟨rfl, rfl⟩
              go_wp2
              go_roundw
              case rel => exact ⟨k + 1, e0, p2, p2, x2, by omega, by omega, rfl, rfl, by go_num, R3.out, Nat.le_refl _, h11, fun _ => ⟨HX.out.symm, rfl⟩, B3.out⟩
              case measure => simp only [intOf]; omega
        · obtain ⟨rfl, rfl⟩ := HYX.out hy
          obtain ⟨rfl, rfl⟩ := GO.out.2.2 hy
          have hxe : rEnd l p2 x2 = x2 := by simp [rEnd, hy]
          obtain rfl : x2 = e0 := by rw [← hxe]; exact HE.out
          have hy' : ((x2 : Int) != 0) = true := by rw [bne_iff_ne]; omega
          have h11 : x2 ≠ 11 := HY11.out
          have h11' : ((x2 : Int) != 11) = true := by rw [bne_iff_ne]; omega
          clear hxe
          go_wp2_with fail
          refine (rAt_any R l p2 x2 _ R3.out).mono ?_
          rintro e w4 ⟨rfl, rfl⟩
          go_wp2_with fail
          refine (rAt_any R l p2 x2 _ R3.out).mono ?_
          rintro e w4 ⟨rfl, rfl⟩
          go_wp2_with fail
          refine (rAt_any R l p2 x2 _ R3.out).mono ?_
          rintro e w4 ⟨rfl, rfl⟩
          go_wp2_with fail
          refine (rAt_any R l p2 x2 _ R3.out).mono ?_
          rintro e w4 ⟨rfl, rfl⟩
          go_wp2
          go_roundw
          case rel => exact ⟨k + 1, x2, p2, p2, x2, by omega, by omega, rfl, rfl, by go_num, R3.out, Nat.le_refl _, h11, fun _ => ⟨rfl, rfl⟩, B3.out⟩
          case measure => simp only [intOf]; omega
      · rw [e5] at CQ
        clear e5
        go_wp2_with fail
        refine CQ.out.mono ?_
        rintro e w0 ⟨rfl, rfl⟩
        go_wp2_with fail
        refine (rText_any R l p x _ HRd.out).mono ?_
        have GO : Hid (Goes l p x (rS l p x).2.1 (rS l p x).2.2) := rS_goes l p x HLE.out
        generalize (rS l p x).2.1 = p2 at *
        generalize (rS l p x).2.2 = x2 at *
        rintro e w2 ⟨rfl, r2, g2⟩
        have R2 : Hid (Rdr w2 R l p2 x2) := r2
        have B2 : Hid (Below w.heap.size w w2) := below_grown HB.out g2 HB.out.size HR.out
        clear r2 g2 CQ c1
        go_wp2_with fail
        refine (rEnd_any R l p2 x2 w2 R2.out).mono ?_
        rintro e w3 ⟨rfl, n3, hw3⟩
        have R3 : Hid (Rdr w3 R l p2 x2) := by rw [hw3]; exact R2.out
        have B3 : Hid (Below w.heap.size w w3) := by rw [hw3]; exact below_drewN' B2.out n3
        clear hw3 R2 B2
        obtain ⟨e0, he0⟩ : ∃ e0, rEnd l p2 x2 = e0 := ⟨_, rfl⟩
        rw [he0]
        have HE : Hid (rEnd l p2 x2 = e0) := he0
        have hqp2 : ¬ ((p2 : Int) < q) := by have h1 := HQP.out; have h2 := GO.out.1; omega
        have hlen : ¬ ((len : Int) < p2) := by have h1 := hll.out; have h2 := GO.out.2.1; omega
        clear he0
        by_cases hy : y = 0
        · subst hy
          by_cases h0 : e0 = 0
          · subst h0
            go_wp2_with fail
            refine (rAt_any R l p2 x2 _ R3.out).mono ?_
            rintro e w4 ⟨rfl, rfl⟩
            go_wp2_with fail
            refine (rAt_any R l p2 x2 _ R3.out).mono ?_
            rintro e w4 ⟨rfl, rfl⟩
            go_wp2
            go_roundw
            case rel => exact ⟨k + 1, 0, q, p2, x2, by omega, by omega, rfl, rfl, by go_num, R3.out, Nat.le_trans HQP.out GO.out.1, by omega, fun h => absurd rfl h, B3.out⟩
            case measure => simp only [intOf]; omega
          · by_cases h11 : e0 = 11
            · subst h11
              go_wp2_with fail
              refine (rAt_any R l p2 x2 _ R3.out).mono ?_
              rintro e w4 ⟨rfl, rfl⟩
              go_wp2_with fail
              refine (rAt_any R l p2 x2 _ R3.out).mono ?_
              rintro e w4 ⟨rfl, rfl⟩
              go_wp2
              go_roundw
              case rel => exact ⟨k + 1, 0, q, p2, x2, by omega, by omega, rfl, rfl, by go_num, R3.out, Nat.le_trans HQP.out GO.out.1, by omega, fun h => absurd rfl h, B3.out⟩
              case measure => simp only [intOf]; omega
            · have HX : Hid (e0 = x2) := by
                have := rEnd_why (l := l) (at_ := p2) (why := x2) (by rw [HE.out]; exact h0) (by rw [HE.out]; exact h11)
                rw [HE.out] at this
                exact this
              have h0' : ((e0 : Int) != 0) = true := by rw [bne_iff_ne]; omega
              have h11' : ((e0 : Int) != 11) = true := by rw [bne_iff_ne]; omega
              go_wp2_with fail
              refine (rAt_any R l p2 x2 _ R3.out).mono ?_
              rintro e w4 ⟨rfl, rfl⟩
              go_wp2_with fail
              refine (rAt_any R l p2 x2 _ R3.out).mono ?_
              rintro e w4 ⟨rfl, rfl⟩
              go_wp2_with fail
              refine (rAt_any R l p2 x2 _ R3.out).mono ?_
              rintro e w4 ⟨rfl, rfl⟩
              go_wp2
              go_roundw
              case rel => exact ⟨k + 1, e0, p2, p2, x2, by omega, by omega, rfl, rfl, by go_num, R3.out, Nat.le_refl _, h11, fun _ => ⟨HX.out.symm, rfl⟩, B3.out⟩
              case measure => simp only [intOf]; omega
        · obtain ⟨rfl, rfl⟩ := HYX.out hy
          obtain ⟨rfl, rfl⟩ := GO.out.2.2 hy
          have hxe : rEnd l p2 x2 = x2 := by simp [rEnd, hy]
          obtain rfl : x2 = e0 := by rw [← hxe]; exact HE.out
          have hy' : ((x2 : Int) != 0) = true := by rw [bne_iff_ne]; omega
          have h11 : x2 ≠ 11 := HY11.out
          have h11' : ((x2 : Int) != 11) = true := by rw [bne_iff_ne]; omega
          clear hxe
          go_wp2_with fail
          refine (rAt_any R l p2 x2 _ R3.out).mono ?_
          rintro e w4 ⟨rfl, rfl⟩
          go_wp2_with fail
          refine (rAt_any R l p2 x2 _ R3.out).mono ?_
          rintro e w4 ⟨rfl, rfl⟩
          go_wp2_with fail
          refine (rAt_any R l p2 x2 _ R3.out).mono ?_
          rintro e w4 ⟨rfl, rfl⟩
          go_wp2_with fail
          refine (rAt_any R l p2 x2 _ R3.out).mono ?_
          rintro e w4 ⟨rfl, rfl⟩
          go_wp2
          go_roundw
          case rel => exact ⟨k + 1, x2, p2, p2, x2, by omega, by omega, rfl, rfl, by go_num, R3.out, Nat.le_refl _, h11, fun _ => ⟨rfl, rfl⟩, B3.out⟩
          case measure => simp only [intOf]; omega
      · rw [e5] at CQ
        clear e5
        go_wp2_with fail
        refine CQ.out.mono ?_
        rintro e w0 ⟨rfl, rfl⟩
        go_wp2_with fail
        refine (rCount_any R l 3 (by omega) p x _ HRd.out).mono ?_
        have GO : Hid (Goes l p x (rC l 3 p x).2.1 (rC l 3 p x).2.2) := rC_goes l 3 p x HLE.out
        generalize (rC l 3 p x).2.1 = p2 at *
        generalize (rC l 3 p x).2.2 = x2 at *
        rintro e w2 ⟨rfl, r2, g2⟩
        have R2 : Hid (Rdr w2 R l p2 x2) := r2
        have B2 : Hid (Below w.heap.size w w2) := below_grown HB.out g2 HB.out.size HR.out
        clear r2 g2 CQ c1
        go_wp2_with fail
        refine (rEnd_any R l p2 x2 w2 R2.out).mono ?_
        rintro e w3 ⟨rfl, n3, hw3⟩
        have R3 : Hid (Rdr w3 R l p2 x2) := by rw [hw3]; exact R2.out
        have B3 : Hid (Below w.heap.size w w3) := by rw [hw3]; exact below_drewN' B2.out n3
        clear hw3 R2 B2
        obtain ⟨e0, he0⟩ : ∃ e0, rEnd l p2 x2 = e0 := ⟨_, rfl⟩
        rw [he0]
        have HE : Hid (rEnd l p2 x2 = e0) := he0
        have hqp2 : ¬ ((p2 : Int) < q) := by have h1 := HQP.out; have h2 := GO.out.1; omega
        have hlen : ¬ ((len : Int) < p2) := by have h1 := hll.out; have h2 := GO.out.2.1; omega
        clear he0
        by_cases hy : y = 0
        · subst hy
          by_cases h0 : e0 = 0
          · subst h0
            go_wp2_with fail
            refine (rAt_any R l p2 x2 _ R3.out).mono ?_
            rintro e w4 ⟨rfl, rfl⟩
            go_wp2_with fail
            refine (rAt_any R l p2 x2 _ R3.out).mono ?_
            rintro e w4 ⟨rfl, rfl⟩
            go_wp2
            go_roundw
            case rel => exact ⟨k + 1, 0, q, p2, x2, by omega, by omega, rfl, rfl, by go_num, R3.out, Nat.le_trans HQP.out GO.out.1, by omega, fun h => absurd rfl h, B3.out⟩
            case measure => simp only [intOf]; omega
          · by_cases h11 : e0 = 11
            · subst h11
              go_wp2_with fail
              refine (rAt_any R l p2 x2 _ R3.out).mono ?_
              rintro e w4 ⟨rfl, rfl⟩
              go_wp2_with fail
              refine (rAt_any R l p2 x2 _ R3.out).mono ?_
              rintro e w4 ⟨rfl, rfl⟩
              go_wp2
              go_roundw
              case rel => exact ⟨k + 1, 0, q, p2, x2, by omega, by omega, rfl, rfl, by go_num, R3.out, Nat.le_trans HQP.out GO.out.1, by omega, fun h => absurd rfl h, B3.out⟩
              case measure => simp only [intOf]; omega
            · have HX : Hid (e0 = x2) := by
                have := rEnd_why (l := l) (at_ := p2) (why := x2) (by rw [HE.out]; exact h0) (by rw [HE.out]; exact h11)
                rw [HE.out] at this
                exact this
              have h0' : ((e0 : Int) != 0) = true := by rw [bne_iff_ne]; omega
              have h11' : ((e0 : Int) != 11) = true := by rw [bne_iff_ne]; omega
              go_wp2_with fail
              refine (rAt_any R l p2 x2 _ R3.out).mono ?_
              rintro e w4 ⟨rfl, rfl⟩
              go_wp2_with fail
              refine (rAt_any R l p2 x2 _ R3.out).mono ?_
              rintro e w4 ⟨rfl, rfl⟩
              go_wp2_with fail
              refine (rAt_any R l p2 x2 _ R3.out).mono ?_
              rintro e w4 ⟨rfl, rfl⟩
              go_wp2
              go_roundw
              case rel => exact ⟨k + 1, e0, p2, p2, x2, by omega, by omega, rfl, rfl, by go_num, R3.out, Nat.le_refl _, h11, fun _ => ⟨HX.out.symm, rfl⟩, B3.out⟩
              case measure => simp only [intOf]; omega
        · obtain ⟨rfl, rfl⟩ := HYX.out hy
          obtain ⟨rfl, rfl⟩ := GO.out.2.2 hy
          have hxe : rEnd l p2 x2 = x2 := by simp [rEnd, hy]
          obtain rfl : x2 = e0 := by rw [← hxe]; exact HE.out
          have hy' : ((x2 : Int) != 0) = true := by rw [bne_iff_ne]; omega
          have h11 : x2 ≠ 11 := HY11.out
          have h11' : ((x2 : Int) != 11) = true := by rw [bne_iff_ne]; omega
          clear hxe
          go_wp2_with fail
          refine (rAt_any R l p2 x2 _ R3.out).mono ?_
          rintro e w4 ⟨rfl, rfl⟩
          go_wp2_with fail
          refine (rAt_any R l p2 x2 _ R3.out).mono ?_
          rintro e w4 ⟨rfl, rfl⟩
          go_wp2_with fail
          refine (rAt_any R l p2 x2 _ R3.out).mono ?_
          rintro e w4 ⟨rfl, rfl⟩
          go_wp2_with fail
          refine (rAt_any R l p2 x2 _ R3.out).mono ?_
          rintro e w4 ⟨rfl, rfl⟩
          go_wp2
          go_roundw
          case rel => exact ⟨k + 1, x2, p2, p2, x2, by omega, by omega, rfl, rfl, by go_num, R3.out, Nat.le_refl _, h11, fun _ => ⟨rfl, rfl⟩, B3.out⟩
          case measure => simp only [intOf]; omega
      · rw [e5] at CQ
        clear e5
        go_wp2_with fail
        refine CQ.out.mono ?_
        rintro e w0 ⟨rfl, rfl⟩
        go_wp2_with fail
        refine (getOp_any R l p x _ HRd.out).mono ?_
        have GO : Hid (Goes l p x (rOp7 l p x).2.1 (rOp7 l p x).2.2) := rOp_goes l p x HLE.out
        generalize (rOp7 l p x).2.1 = p2 at *
        generalize (rOp7 l p x).2.2 = x2 at *
        rintro e w2 ⟨rfl, r2, g2⟩
        have R2 : Hid (Rdr w2 R l p2 x2) := r2
        have B2 : Hid (Below w.heap.size w w2) := below_grown HB.out g2 HB.out.size HR.out
        clear r2 g2 CQ c1
        go_wp2_with fail
        refine (rEnd_any R l p2 x2 w2 R2.out).mono ?_
        rintro e w3 ⟨rfl, n3, hw3⟩
        have R3 : Hid (Rdr w3 R l p2 x2) := by rw [hw3]; exact R2.out
        have B3 : Hid (Below w.heap.size w w3) := by rw [hw3]; exact below_drewN' B2.out n3
        clear hw3 R2 B2
        obtain ⟨e0, he0⟩ : ∃ e0, rEnd l p2 x2 = e0 := ⟨_, rfl⟩
        rw [he0]
        have HE : Hid (rEnd l p2 x2 = e0) := he0
        have hqp2 : ¬ ((p2 : Int) < q) := by have h1 := HQP.out; have h2 := GO.out.1; omega
        have hlen : ¬ ((len : Int) < p2) := by have h1 := hll.out; have h2 := GO.out.2.1; omega
        clear he0
        by_cases hy : y = 0
        · subst hy
          by_cases h0 : e0 = 0
          · subst h0
            go_wp2_with fail
            refine (rAt_any R l p2 x2 _ R3.out).mono ?_
            rintro e w4 ⟨rfl, rfl⟩
            go_wp2_with fail
            refine (rAt_any R l p2 x2 _ R3.out).mono ?_
            rintro e w4 ⟨rfl, rfl⟩
            go_wp2
            go_roundw
            case rel => exact ⟨k + 1, 0, q, p2, x2, by omega, by omega, rfl, rfl, by go_num, R3.out, Nat.le_trans HQP.out GO.out.1, by omega, fun h => absurd rfl h, B3.out⟩
            case measure => simp only [intOf]; omega
          · by_cases h11 : e0 = 11
            · subst h11
              go_wp2_with fail
              refine (rAt_any R l p2 x2 _ R3.out).mono ?_
              rintro e w4 ⟨rfl, rfl⟩
              go_wp2_with fail
              refine (rAt_any R l p2 x2 _ R3.out).mono ?_
              rintro e w4 ⟨rfl, rfl⟩
              go_wp2
              go_roundw
              case rel => exact ⟨k + 1, 0, q, p2, x2, by omega, by omega, rfl, rfl, by go_num, R3.out, Nat.le_trans HQP.out GO.out.1, by omega, fun h => absurd rfl h, B3.out⟩
              case measure => simp only [intOf]; omega
            · have HX : Hid (e0 = x2) := by
                have := rEnd_why (l := l) (at_ := p2) (why := x2) (by rw [HE.out]; exact h0) (by rw [HE.out]; exact h11)
                rw [HE.out] at this
                exact this
              have h0' : ((e0 : Int) != 0) = true := by rw [bne_iff_ne]; omega
              have h11' : ((e0 : Int) != 11) = true := by rw [bne_iff_ne]; omega
              go_wp2_with fail
              refine (rAt_any R l p2 x2 _ R3.out).mono ?_
              rintro e w4 ⟨rfl, rfl⟩
              go_wp2_with fail
              refine (rAt_any R l p2 x2 _ R3.out).mono ?_
              rintro e w4 ⟨rfl, rfl⟩
              go_wp2_with fail
              refine (rAt_any R l p2 x2 _ R3.out).mono ?_
              rintro e w4 ⟨rfl, rfl⟩
              go_wp2
              go_roundw
              case rel => exact ⟨k + 1, e0, p2, p2, x2, by omega, by omega, rfl, rfl, by go_num, R3.out, Nat.le_refl _, h11, fun _ => ⟨HX.out.symm, rfl⟩, B3.out⟩
              case measure => simp only [intOf]; omega
        · obtain ⟨rfl, rfl⟩ := HYX.out hy
          obtain ⟨rfl, rfl⟩ := GO.out.2.2 hy
          have hxe : rEnd l p2 x2 = x2 := by simp [rEnd, hy]
          obtain rfl : x2 = e0 := by rw [← hxe]; exact HE.out
          have hy' : ((x2 : Int) != 0) = true := by rw [bne_iff_ne]; omega
          have h11 : x2 ≠ 11 := HY11.out
          have h11' : ((x2 : Int) != 11) = true := by rw [bne_iff_ne]; omega
          clear hxe
          go_wp2_with fail
          refine (rAt_any R l p2 x2 _ R3.out).mono ?_
          rintro e w4 ⟨rfl, rfl⟩
          go_wp2_with fail
          refine (rAt_any R l p2 x2 _ R3.out).mono ?_
          rintro e w4 ⟨rfl, rfl⟩
          go_wp2_with fail
          refine (rAt_any R l p2 x2 _ R3.out).mono ?_
          rintro e w4 ⟨rfl, rfl⟩
          go_wp2_with fail
          refine (rAt_any R l p2 x2 _ R3.out).mono ?_
          rintro e w4 ⟨rfl, rfl⟩
          go_wp2
          go_roundw
          case rel => exact ⟨k + 1, x2, p2, p2, x2, by omega, by omega, rfl, rfl, by go_num, R3.out, Nat.le_refl _, h11, fun _ => ⟨rfl, rfl⟩, B3.out⟩
          case measure => simp only [intOf]; omega
    · by_cases h1 : k < zs.length
      · have h2 : ¬ k < 60 := fun h2 => hlt ⟨h1, h2⟩
        clear hlt
        go_wp2_with fail
        refine (known_later HB.out HT.out).mono ?_
        rintro e w3 ⟨rfl, b3⟩
        go_wp2
        go_ret
        exact ⟨rfl, b3⟩
      · clear hlt
        go_wp2_with fail
        refine (known_later HB.out HT.out).mono ?_
        rintro e w3 ⟨rfl, b3⟩
        go_wp2
        go_ret
        exact ⟨rfl, b3⟩
end Go.Proofs.YtfdlgiomnmnhgabDoor
