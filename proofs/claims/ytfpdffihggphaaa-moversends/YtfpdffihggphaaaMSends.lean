/- MoverSends: the walk. -/
import Derived.Test.YtfpdffihggphaaaMSendQ
import Derived.Test.YtfpdffihggphaaaMKnown
import Derived.Test.YtfpdffihggphaaaMTruths
namespace Go.Proofs.Ytfpdffihggphaaa
open Go.RowKit Go.Shelf
attribute [local go_sem] Oper.semAt_some
set_option linter.unusedVariables false

set_option maxRecDepth 100000 in
set_option maxHeartbeats 8000000 in
theorem moverSends_any (a0 : Option Addr) (c0 : Nat) (l : List (BitVec 8)) (a1 : Option Addr) (n1 c1 : Nat) (T : Nat → Bool) (w : World) (hs : Seen w a0 l.length l) (hnil : a0 = none → c0 = 0) (hT : BoolsAt w a1 n1 T) :
    Calls Try.prog 5 #[.slice a0 l.length c0, .slice a1 n1 c1] w fun e w' => e = .returned (.bool true) ∧ Below w.heap.size w w' := by
  have HN := mnew_any w
  obtain ⟨ln, hln⟩ : ∃ ln, l.length = ln := ⟨_, rfl⟩
  have LN : Hid (l.length = ln) := hln
  have HS : Hid (Seen w a0 l.length l) := hs
  have HNil : Hid (a0 = none → c0 = 0) := hnil
  have HTT : Hid (BoolsAt w a1 n1 T) := hT
  rw [hln]
  clear hs hnil hT hln
  go_enter Try.func5, Try.ntmps5
  go_wp2_with fail
  refine HN.mono ?_
  clear HN
  rintro e w1 ⟨rfl, m1, b1⟩
  by_cases hbig : 20000 < ln
  · have HKn := knownM_any w1
    have B1 : Hid _ := b1
    clear m1 b1
    go_wp2_with fail
    refine HKn.mono ?_
    rintro e w2 ⟨rfl, b2⟩
    have B2 : Hid (Below w.heap.size w w2) := B1.out.trans (b2.mono B1.out.size)
    clear HKn b2 B1
    go_wp2
    go_ret
    exact ⟨rfl, B2.out⟩
  · have bA : Below w1.heap.size w1 (w1.alloc (.cells #[.int .i64 3, .int .i64 1, .int .i64 2, .int .i64 4, .int .i64 2, .int .i64 7] 47)) := (Below.refl _ w1).alloc (Nat.le_refl _) _
    have m2 := m1.below bA
    have b2 := b1.trans (bA.mono b1.size)
    have x2 := heap_alloc_new w1 (.cells #[.int .i64 3, .int .i64 1, .int .i64 2, .int .i64 4, .int .i64 2, .int .i64 7] 47)
    have HA := my_asks (x := XS) (Bx := w1.heap.size) m2 (Nat.le_refl _) b2 x2 (by rw [f1]; exact f2) (by simp)
    rw [f1] at HA
    have XX : Hid _ := x2
    have HBX : Hid (w.heap.size ≤ w1.heap.size) := b1.size
    have HBig : Hid (ln ≤ 20000) := by show _ ≤ _; omega
    clear bA m2 b2 x2 m1 b1
    go_wp2_with (first | (refine wpList_load_row rfl 47 (.tmp 6) rfl w1.heap.size rfl 47 _ (0, 0) _ XX.out Try.underlying47 rfl (by kernel_rfl) ?_))
    refine HA.mono ?_
    clear HA XX hbig
    generalize w1.heap.size = Bx at *
    rintro e w3 ⟨g, c, ua, uc, cur, rfl, hr, hg, _, _, m3, b3, x3, _, _, _⟩
    have k1 : w3.cell? ⟨g, 1, none⟩ = some (.int .i64 8) := hr 1 _ rfl
    have HR : Hid _ := hr
    have HGC : Hid _ := hg
    have M3 : Hid _ := m3
    have B3 : Hid _ := b3
    have X3 : Hid _ := x3
    clear hr hg m3 b3 x3
    go_wp2_with fail
    have hL := LN.out
    subst hL
    refine sends_r8 _ _ _ _ _ _ _ _ _ _ _ _ _ _ _ _ _ _ _ _ _ _ _ _ _ _ _ _ _ _ _ _ _ _ _ _ _ _ _ _ _ _ _ _ _ _ _ _ _ _ _ _ _ _ _ _ _ _ _ _ _ _ _ _ _ _ _ _ _ _ _ _ _ _ _ _ _ _ _ _ _ _ _ _ _ _ _ _ _ _ _ _ _ _ _ _ _ _ _ _ _ _ _ _ _ _ _ _ _ _ _ _ _ _ _ _ _ _ _ _ _ _ _ _ _ _ _ _ _ _ _ _ _ _ _ _ _ _ _ _ _ _ _ _ _ _ _ _ _ _ _ _ _ _ _ _ w3 w.heap.size w.heap.size Bx g c K0 XS _ ⟨1, 8, 3, 4, 0, false, ua, 0, uc⟩ cur a0 c0 l (HS.out.below B3.out) HNil.out (by have := HBig.out; omega) _ rfl (pAsk_c ⟨1, 8, 3, 4, 0, false, []⟩ ua uc (by simp)) M3.out (Bs.of B3.out.size) X3.out HGC.out HR.out _ (fun _ _ _ _ _ h => h) ?_
    rw [f3]
    rintro W4 v40 v41 v42 v43 v44 v45 v46 v47 m4 o4
    have x4 : W4.heap[Bx]? = some (.cells #[.int .i64 3, .int .i64 1, .int .i64 2, .int .i64 4, .int .i64 2, .int .i64 7] 47 (0, 0)) := (o4.block _ (Array.getElem?_eq_some_iff.1 X3.out).1 (fun e => by
      obtain ⟨ma, mc, mg, _⟩ := M3.out.ex
      have := X3.out
      rw [e, mg] at this
      injection this with this
      injection this with _ this
      exact absurd this (by decide))).trans X3.out
    have b4 : Below w.heap.size w W4 := B3.out.trans (o4.toBelow (Nat.le_refl _) B3.out.size)
    have H0 : Hid (SI w W4 w.heap.size Bx l 0 (.slice none 0 0)) := ⟨m4.sub (Nat.le_refl _) (fun g _ _ e => by cases e), World.ownsRow_nil _ _ _ _, x4, b4, Nat.zero_le _⟩
    clear x4 b4 m4 o4 HR HGC M3 B3 X3 k1
    go_wp2_with fail
    go_loopw [8, 9] (fun v8 v9 wr => ∃ (i k : Nat) (va : Option Addr) (vc : Nat), i ≤ 60 ∧ v9 = .int .i64 (i : Int) ∧ v8 = .slice va k vc ∧ Hid (SI w wr w.heap.size Bx l k (.slice va k vc))) (fun _ v9 _ => 60 - (intOf v9).toNat)
    case atStart => exact ⟨0, 0, none, 0, Nat.zero_le _, rfl, rfl, H0⟩
    case round =>
      obtain ⟨i, k, va, vc, hi, rfl, rfl, hSI⟩ := hrel
      clear H0
      by_cases hlt : i < 60
      · have HA := my_asks (w := w) (x := XS) (Bx := Bx) hSI.out.m (Nat.le_refl _) hSI.out.be hSI.out.x (by rw [f4]; exact f5 l k) (by dsimp only; rw [endS_len l k hSI.out.le]; have := endS_k l k; omega)
        rw [f4] at HA
        have XX : Hid _ := hSI.out.x
        have HLT : Hid (i < 60) := hlt
        go_wp2_with (first | (refine wpList_load_row rfl 47 (.tmp 6) rfl Bx rfl 47 _ (0, 0) _ XX.out Try.underlying47 rfl (by kernel_rfl) ?_))
        refine HA.mono ?_
        clear HA XX
        rintro e w5 ⟨g, c, ua, uc, cur, rfl, hr, hg, hse, hn, m5, b5, x5, o5, _, _⟩
        obtain ⟨n, LB, va', vc', w6, hrun, hk, hj⟩ := send_step hSI.out HBig.out hr hg hse hn m5 b5 x5 o5
        have HRun : Hid _ := hrun
        have HJ : Hid _ := hj
        have HK : Hid _ := hk
        have k0 := hk.k0
        have k1 := hk.k1
        have k15 := hk.k15
        have k17 := hk.k17
        have hn1 := hk.n1
        have hn2 := hk.n2
        have hwi := wrap_succ i hlt
        have hSI5 : Hid (SI w w5 w.heap.size Bx l k (.slice va k vc)) := hk.si
        clear hr hg hse hn m5 b5 x5 o5 hSI hrun hj hk
        by_cases hi1 : i < n1
        · rcases HTT.out with h0 | ⟨tb, toff, ta, htc⟩
          · exact absurd hi1 (by rw [h0]; exact Nat.not_lt_zero _)
          subst ta
          have tc := htc i hi1
          have tc5 : w5.cell? ⟨tb, toff + i, none⟩ = some (.bool (T i)) := (hSI5.out.be.cell (p := ⟨tb, toff + i, none⟩) (World.block_lt_of_cell? w _ tc)).trans tc
          clear tc htc
          obtain ⟨ti, hti⟩ : ∃ ti, T i = ti := ⟨_, rfl⟩
          rw [hti] at tc5
          cases ti with
          | true =>
            clear HRun HJ HK
            go_wp2
            go_roundw
            case rel => exact ⟨i + 1, k, va, vc, HLT.out, by first | rfl | rw [hwi], rfl, hSI5⟩
            case measure => first | exact meas_lt i HLT.out | exact meas_lt2 i HLT.out
          | false =>
            clear hSI5 HK
            go_wp2_with (at_builtin; refine wpList_append_known rfl (.tmp 102) (.tmp 107) 26 26 rfl _ _ rfl rfl _ _ HRun.out ?_)
            refine sends_r18 _ _ _ _ _ _ _ _ _ _ _ _ _ _ _ _ _ _ _ _ _ _ _ _ _ _ _ _ _ _ _ _ _ _ _ _ _ _ _ _ _ _ _ _ _ _ _ _ _ _ _ _ _ _ _ _ _ _ _ _ _ _ _ _ _ _ _ _ _ _ _ _ _ _ _ _ _ _ _ _ _ _ _ _ _ _ _ _ _ _ _ _ _ _ _ _ _ _ _ _ _ _ _ _ _ _ _ _ _ _ _ _ _ _ _ _ _ _ _ _ _ _ _ _ _ _ _ _ _ _ _ _ _ _ _ _ _ _ _ _ _ _ _ _ _ _ _ _ _ _ _ _ _ _ _ _ _ w6 ⟨w.heap.size, fun g => (Value.slice va' (k + n) vc').ownBlock ≠ some g⟩ w.heap.size Bx g c (KS l k) XS _ ⟨2, 9, 3, 4, k, LB, ua, n, uc⟩ cur R2 rfl HJ.out.ac HJ.out.m HJ.out.ok HJ.out.x HJ.out.gc HJ.out.r _ (fun _ _ _ _ _ h => h) ?_
            rw [HJ.out.told]
            rintro W7 Bc v109 v110 v111 v112 v113 v114 v115 v116 v117 v118 m7 o7 c7 l7
            obtain ⟨si7, q16⟩ := send_told HJ.out m7 o7
            have HSI7 : Hid (SI w W7 w.heap.size Bx l (k + n) (.slice va' (k + n) vc')) := si7
            have HLB : Hid (decide (k + n = l.length) = LB) := HJ.out.lb
            clear m7 o7 l7 si7 HJ HRun
            cases LB with
            | true =>
              obtain ⟨hEI, hEI2, s7⟩ := send_last HSI7.out HBig.out HLB.out
              have t1 := run_to_text W7 va' (k + n) vc' l s7
              have t2 := run_to_text W7 a0 l.length c0 l (HS.out.below HSI7.out.be)
              have t3 := text_self (textOf l)
              have c7' : W7.heap[Bc]? = some (.cells #[.int .i64 2, .int .i64 0, .int .i64 0, .int .i64 7, .int .i64 2] 60 (0, 0)) := c7
              have d0 : W7.cell? ⟨Bc, 0, none⟩ = some (.int .i64 2) := by simp only [World.cell?, c7']; rfl
              have d3 : W7.cell? ⟨Bc, 3, none⟩ = some (.int .i64 7) := by simp only [World.cell?, c7']; rfl
              have d4 : W7.cell? ⟨Bc, 4, none⟩ = some (.int .i64 2) := by simp only [World.cell?, c7']; rfl
              have HKn := knownM_any W7
              have HBE : Hid (Below w.heap.size w W7) := HSI7.out.be
              clear c7 c7' s7 HSI7
              go_wp2_with fail
              refine HKn.mono ?_
              rintro e W8 ⟨rfl, b8⟩
              have HB8 : Hid (Below w.heap.size w W8) := HBE.out.trans (b8.mono HBE.out.size)
              clear HKn b8 HBE
              go_wp2
              go_ret
              exact ⟨rfl, HB8.out⟩
            | false =>
              obtain ⟨hEI, hEI2⟩ := send_more HLB.out
              clear c7
              go_wp2
              go_roundw
              case rel => exact ⟨i + 1, k + n, va', vc', HLT.out, by first | rfl | rw [hwi], rfl, HSI7⟩
              case measure => first | exact meas_lt i HLT.out | exact meas_lt2 i HLT.out
        · have hi2 : ¬ ((i : Int) < (n1 : Int)) := fun h => hi1 (Int.ofNat_lt.1 h)
          clear hSI5 HK
          go_wp2_with (at_builtin; refine wpList_append_known rfl (.tmp 102) (.tmp 107) 26 26 rfl _ _ rfl rfl _ _ HRun.out ?_)
          refine sends_r18 _ _ _ _ _ _ _ _ _ _ _ _ _ _ _ _ _ _ _ _ _ _ _ _ _ _ _ _ _ _ _ _ _ _ _ _ _ _ _ _ _ _ _ _ _ _ _ _ _ _ _ _ _ _ _ _ _ _ _ _ _ _ _ _ _ _ _ _ _ _ _ _ _ _ _ _ _ _ _ _ _ _ _ _ _ _ _ _ _ _ _ _ _ _ _ _ _ _ _ _ _ _ _ _ _ _ _ _ _ _ _ _ _ _ _ _ _ _ _ _ _ _ _ _ _ _ _ _ _ _ _ _ _ _ _ _ _ _ _ _ _ _ _ _ _ _ _ _ _ _ _ _ _ _ _ _ _ w6 ⟨w.heap.size, fun g => (Value.slice va' (k + n) vc').ownBlock ≠ some g⟩ w.heap.size Bx g c (KS l k) XS _ ⟨2, 9, 3, 4, k, LB, ua, n, uc⟩ cur R2 rfl HJ.out.ac HJ.out.m HJ.out.ok HJ.out.x HJ.out.gc HJ.out.r _ (fun _ _ _ _ _ h => h) ?_
          rw [HJ.out.told]
          rintro W7 Bc v109 v110 v111 v112 v113 v114 v115 v116 v117 v118 m7 o7 c7 l7
          obtain ⟨si7, q16⟩ := send_told HJ.out m7 o7
          have HSI7 : Hid (SI w W7 w.heap.size Bx l (k + n) (.slice va' (k + n) vc')) := si7
          have HLB : Hid (decide (k + n = l.length) = LB) := HJ.out.lb
          clear m7 o7 l7 si7 HJ HRun
          cases LB with
          | true =>
            obtain ⟨hEI, hEI2, s7⟩ := send_last HSI7.out HBig.out HLB.out
            have t1 := run_to_text W7 va' (k + n) vc' l s7
            have t2 := run_to_text W7 a0 l.length c0 l (HS.out.below HSI7.out.be)
            have t3 := text_self (textOf l)
            have c7' : W7.heap[Bc]? = some (.cells #[.int .i64 2, .int .i64 0, .int .i64 0, .int .i64 7, .int .i64 2] 60 (0, 0)) := c7
            have d0 : W7.cell? ⟨Bc, 0, none⟩ = some (.int .i64 2) := by simp only [World.cell?, c7']; rfl
            have d3 : W7.cell? ⟨Bc, 3, none⟩ = some (.int .i64 7) := by simp only [World.cell?, c7']; rfl
            have d4 : W7.cell? ⟨Bc, 4, none⟩ = some (.int .i64 2) := by simp only [World.cell?, c7']; rfl
            have HKn := knownM_any W7
            have HBE : Hid (Below w.heap.size w W7) := HSI7.out.be
            clear c7 c7' s7 HSI7
            go_wp2_with fail
            refine HKn.mono ?_
            rintro e W8 ⟨rfl, b8⟩
            have HB8 : Hid (Below w.heap.size w W8) := HBE.out.trans (b8.mono HBE.out.size)
            clear HKn b8 HBE
            go_wp2
            go_ret
            exact ⟨rfl, HB8.out⟩
          | false =>
            obtain ⟨hEI, hEI2⟩ := send_more HLB.out
            clear c7
            go_wp2
            go_roundw
            case rel => exact ⟨i + 1, k + n, va', vc', HLT.out, by first | rfl | rw [hwi], rfl, HSI7⟩
            case measure => first | exact meas_lt i HLT.out | exact meas_lt2 i HLT.out
      · have HKn := knownM_any wr
        have HBE : Hid (Below w.heap.size w wr) := hSI.out.be
        clear hSI
        go_wp2_with fail
        refine HKn.mono ?_
        rintro e W8 ⟨rfl, b8⟩
        have HB8 : Hid (Below w.heap.size w W8) := HBE.out.trans (b8.mono HBE.out.size)
        clear HKn b8 HBE
        go_wp2
        go_ret
        exact ⟨rfl, HB8.out⟩
end Go.Proofs.Ytfpdffihggphaaa
