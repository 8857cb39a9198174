/- ChartAudits: the walk. Written by gen_au.py. -/
import Derived.Test.YtpdgmlljjjeifaaChAuP
import Derived.Test.YtpdgmlljjjeifaaChMovesW
import Derived.Test.YtpdgmlljjjeifaaChFrame
namespace Go.Proofs.Ytpdgmlljjjeifaa
open Go.RowKit
attribute [local go_sem] Oper.semAt_some
set_option linter.unusedVariables false
set_option maxRecDepth 100000 in
set_option maxHeartbeats 4000000 in
theorem chartAudits_no (n : Int) (h : ¬ (1 ≤ n ∧ n ≤ 3)) (v : Value) (w : World) : Calls Try.prog 8 #[.int .i64 n, v] w fun e w' => e = .returned (.bool true) ∧ Below w.heap.size w w' := by
  have HN := new_no n h w
  clear h
  go_enter Try.func8, Try.ntmps8
  go_wp2_with fail
  refine HN.mono ?_
  rintro e w1 ⟨rfl, rfl⟩
  go_wp2_with fail
  refine (knownC_any w1).mono ?_
  rintro e w2 ⟨rfl, b2⟩
  go_wp2
  go_ret
  exact ⟨rfl, b2⟩
set_option maxRecDepth 100000 in
set_option maxHeartbeats 8000000 in
theorem chartAudits_ok (n : Int) (h : 1 ≤ n ∧ n ≤ 3) (a : Option Addr) (len cap : Nat) (os : List CmdC) (w : World) (hC : CmdsC w a len os) (hlm : len ≤ maxLen) : Calls Try.prog 8 #[.int .i64 n, .slice a len cap] w fun e w' => e = .returned (.bool true) ∧ Below w.heap.size w w' := by
  have HN := my_new n h w w (Below.refl _ w)
  obtain ⟨R, eR⟩ : ∃ R, w.heap.size = R := ⟨_, rfl⟩
  rw [eR] at HN
  have f0 := fldR0
  have f1 := fldR1
  have HCC : Hid (CmdsC w a len os) := hC
  have HLM : Hid (len ≤ maxLen) := hlm
  clear eR h hC hlm
  go_enter Try.func8, Try.ntmps8
  go_wp2_with fail
  refine HN.mono ?_
  clear HN
  rintro e w1 ⟨rfl, h1, _⟩
  have H1 : Hid (∃ L, MyC w w1 R L 0) := ⟨_, h1⟩
  clear h1
  go_wp2_with fail
  go_loopw [7] (fun i wr => ∃ j : Nat, (j ≤ len ∧ j ≤ 60) ∧ i = .int .i64 (j : Int) ∧ Hid (∃ L, MyC w wr R L j)) (fun i _ => 61 - (intOf i).toNat)
  case atStart => exact ⟨0, ⟨by omega, by omega⟩, rfl, H1⟩
  case round =>
    obtain ⟨j, hj, rfl, HH⟩ := hrel
    clear H1
    by_cases hjl : j < len
    · by_cases hj60 : j < 60
      · have q0 : decide ((j : Int) < (len : Int)) = true := decide_eq_true (by omega)
        have q1 : decide ((j : Int) < 60) = true := decide_eq_true (by omega)
        obtain ⟨L, hm⟩ := HH.out
        have hjo : j < os.length := by have := HCC.out.1; omega
        obtain ⟨bb, off, ea, y0, y1, y2, y3, y4⟩ := HCC.out.at hm.b hjo
        generalize os[j]'hjo = o at y0 y1 y2 y3 y4
        obtain ⟨k, s, t, nn, p⟩ := o
        dsimp only at y0 y1 y2 y3 y4
        have H2 : Hid (MyC w wr R L j ∧ j < len ∧ j < 60) := ⟨hm, hjl, hj60⟩
        have hjl' : (j : Int) < (len : Int) := by omega
        subst ea
        clear hm HH hj hjo
        have HG := given_any k s t nn p wr
        go_wp2_with fail
        refine HG.mono ?_
        clear HG
        rintro e w2 ⟨rfl, b2⟩
        have HX := my_do (H2.out.1.below b2) (by omega) k s t nn p
        clear b2 y0 y1 y2 y3 y4 q0 q1
        go_wp2_with fail
        refine HX.mono ?_
        clear HX
        rintro e w3 ⟨rfl, h3, _⟩
        have H3 : Hid (∃ L, MyC w w3 R L (j + 1)) := ⟨_, h3⟩
        clear h3
        go_wp2
        go_roundw
        case rel => exact ⟨j + 1, ⟨by omega, by omega⟩, by go_num, H3⟩
        case measure => simp only [intOf]; omega
      · obtain rfl : j = 60 := by omega
        have q0 : decide ((60 : Int) < (len : Int)) = true := decide_eq_true (by omega)
        have q1 : (60 : Int) < (len : Int) := by omega
        have H4 : Hid (∃ L N, MyC w wr R L N ∧ N ≤ 60) := by obtain ⟨L, hm⟩ := HH.out; exact ⟨L, 60, hm, by omega⟩
        clear HH hj hjl hj60
        rw [show ((60 : Nat) : Int) = 60 from rfl]
        obtain ⟨L, N, hm, hN⟩ := H4.out
        by_cases hmay : may_ L = false
        · have HX := my_do hm (by omega) 3 0 0 0 0
          rw [no_begin hmay] at HX
          dsimp only [Rs.v] at HX
          clear hm hN H4 hmay
          go_wp2_with fail
          refine HX.mono ?_
          clear HX
          rintro e w3 ⟨rfl, h3, _⟩
          have H3 : Hid (Below w.heap.size w (w3.alloc (.cells #[.int .i64 50, .bool false, .int .i64 0] 35))) := (h3.alloc _).b
          have HK := knownC_any (w3.alloc (.cells #[.int .i64 50, .bool false, .int .i64 0] 35))
          clear h3
          go_wp2_with fail
          refine HK.mono ?_
          rintro e w4 ⟨rfl, b4⟩
          go_wp2
          go_ret
          exact ⟨rfl, H3.out.trans (b4.mono H3.out.size)⟩
        · have hb := AuL.begin hm.g.len hm.g.sh.1 (by simpa using hmay)
          have HB : Hid (AuL (doC L 3 0 0 0 0).2 (at_ L 33 + 1) 1) := hb.2
          have hbd := hm.g.bg
          have HX := my_do hm (by omega) 3 0 0 0 0
          rw [hb.1] at HX
          dsimp only [Rs.v] at HX
          obtain ⟨b, eb⟩ : ∃ b, at_ L 33 + 1 = b := ⟨_, rfl⟩
          rw [eb] at HX HB
          have HBD : Hid (1 ≤ b ∧ b ≤ 61) := ⟨by omega, by omega⟩
          have HNN : Hid (N ≤ 60) := hN
          clear hm hN H4 hmay hb hbd eb
          go_wp2_with fail
          refine HX.mono ?_
          clear HX
          rintro e w3 ⟨rfl, h3, _⟩
          have H3 : Hid (MyC w (w3.alloc (.cells #[.int .i64 0, .bool true, .int .i64 b] 35)) R (doC L 3 0 0 0 0).2 (N + 1) ∧ AuL (doC L 3 0 0 0 0).2 b 1) := ⟨h3.alloc _, HB.out⟩
          generalize (doC L 3 0 0 0 0).2 = L1 at *
          have HA := audit_any H3.out.1.c
          rw [H3.out.2.n (by omega), H3.out.2.ap] at HA
          clear h3 HB
          go_wp2_with fail
          refine HA.mono ?_
          clear HA
          rintro e w4 ⟨rfl, nq, rfl⟩
          have H4 : Hid (MyC w ((w3.alloc (.cells #[.int .i64 0, .bool true, .int .i64 b] 35)).drewN nq) R L1 (N + 1)) := H3.out.1.drewN nq
          have HX := my_do H4.out (by have := HNN.out; omega) 5 0 0 b 0
          rw [H3.out.2.thaw1] at HX
          dsimp only [Rs.v] at HX
          go_wp2_with fail
          refine HX.mono ?_
          clear HX H4
          rintro e w5 ⟨rfl, h5, _⟩
          have H5 : Hid (MyC w w5 R L1 (N + 1 + 1)) := h5
          clear h5
          have HX := my_do H5.out (by have := HNN.out; omega) 1 0 1 0 0
          rw [H3.out.2.mov (by omega)] at HX
          dsimp only [Rs.v] at HX
          go_wp2_with fail
          refine HX.mono ?_
          clear HX H5
          rintro e w6 ⟨rfl, h6, _⟩
          have H6 : Hid (MyC w w6 R L1 (N + 1 + 1 + 1)) := h6
          clear h6
          have HX := my_do H6.out (by have := HNN.out; omega) 4 0 0 b 0
          rw [H3.out.2.cut.1] at HX
          dsimp only [Rs.v] at HX
          have HC : Hid (AuL (doC L1 4 0 0 b 0).2 b 2) := H3.out.2.cut.2
          go_wp2_with fail
          refine HX.mono ?_
          clear HX H6 H3
          rintro e w7 ⟨rfl, h7, _⟩
          have H7 : Hid (MyC w w7 R (doC L1 4 0 0 b 0).2 (N + 1 + 1 + 1 + 1)) := h7
          clear h7
          generalize (doC L1 4 0 0 b 0).2 = L2 at *
          have HX := my_do H7.out (by have := HNN.out; omega) 4 0 0 b 0
          rw [HC.out.cut2] at HX
          dsimp only [Rs.v] at HX
          go_wp2_with fail
          refine HX.mono ?_
          clear HX H7
          rintro e w8 ⟨rfl, h8, _⟩
          have H8 : Hid (MyC w w8 R L2 (N + 1 + 1 + 1 + 1 + 1)) := h8
          clear h8
          have HX := my_do H8.out (by have := HNN.out; omega) 3 0 0 0 0
          rw [HC.out.aud (by omega)] at HX
          dsimp only [Rs.v] at HX
          go_wp2_with fail
          refine HX.mono ?_
          clear HX H8
          rintro e w9 ⟨rfl, h9, _⟩
          have H9 : Hid (MyC w w9 R L2 (N + 1 + 1 + 1 + 1 + 1 + 1)) := h9
          clear h9
          have HX := my_do H9.out (by have := HNN.out; omega) 5 0 0 b 0
          rw [HC.out.thaw.1] at HX
          dsimp only [Rs.v] at HX
          have HT : Hid (AuL (doC L2 5 0 0 b 0).2 b 0) := HC.out.thaw.2
          go_wp2_with fail
          refine HX.mono ?_
          clear HX H9 HC
          rintro e x1 ⟨rfl, h10, _⟩
          have H10 : Hid (MyC w x1 R (doC L2 5 0 0 b 0).2 (N + 1 + 1 + 1 + 1 + 1 + 1 + 1)) := h10
          clear h10
          generalize (doC L2 5 0 0 b 0).2 = L3 at *
          have HA := audit_any H10.out.c
          rw [HT.out.ap] at HA
          generalize at_ L3 40 = u40 at *
          go_wp2_with fail
          refine HA.mono ?_
          clear HA
          rintro e x2 ⟨rfl, nr, rfl⟩
          have H11 : Hid (MyC w (x1.drewN nr) R L3 (N + 1 + 1 + 1 + 1 + 1 + 1 + 1)) := H10.out.drewN nr
          have HX := my_do H11.out (by have := HNN.out; omega) 3 0 0 0 0
          rw [HT.out.last (by have := HBD.out; omega)] at HX
          dsimp only [Rs.v] at HX
          have qb : wrap64 (b + 1) = b + 1 := by have := HBD.out; unfold wrap64; omega
          obtain ⟨b1, e1⟩ : ∃ x, b + 1 = x := ⟨_, rfl⟩
          rw [e1] at HX
          have qb' : wrap64 (b + 1) = b1 := qb.trans e1
          clear qb e1
          go_wp2_with fail
          refine HX.mono ?_
          clear HX H11 H10
          rintro e x3 ⟨rfl, h12, _⟩
          have H12 : Hid (Below w.heap.size w (x3.alloc (.cells #[.int .i64 0, .bool true, .int .i64 b1] 35))) := (h12.alloc _).b
          have HK := knownC_any (x3.alloc (.cells #[.int .i64 0, .bool true, .int .i64 b1] 35))
          clear h12
          go_wp2_with fail
          refine HK.mono ?_
          rintro e x4 ⟨rfl, b4⟩
          go_wp2
          go_ret
          exact ⟨rfl, H12.out.trans (b4.mono H12.out.size)⟩
    · obtain rfl : j = len := by omega
      have H4 : Hid (∃ L N, MyC w wr R L N ∧ N ≤ 60) := by obtain ⟨L, hm⟩ := HH.out; exact ⟨L, j, hm, hj.2⟩
      clear HH hj hjl
      obtain ⟨L, N, hm, hN⟩ := H4.out
      by_cases hmay : may_ L = false
      · have HX := my_do hm (by omega) 3 0 0 0 0
        rw [no_begin hmay] at HX
        dsimp only [Rs.v] at HX
        clear hm hN H4 hmay
        go_wp2_with fail
        refine HX.mono ?_
        clear HX
        rintro e w3 ⟨rfl, h3, _⟩
        have H3 : Hid (Below w.heap.size w (w3.alloc (.cells #[.int .i64 50, .bool false, .int .i64 0] 35))) := (h3.alloc _).b
        have HK := knownC_any (w3.alloc (.cells #[.int .i64 50, .bool false, .int .i64 0] 35))
        clear h3
        go_wp2_with fail
        refine HK.mono ?_
        rintro e w4 ⟨rfl, b4⟩
        go_wp2
        go_ret
        exact ⟨rfl, H3.out.trans (b4.mono H3.out.size)⟩
      · have hb := AuL.begin hm.g.len hm.g.sh.1 (by simpa using hmay)
        have HB : Hid (AuL (doC L 3 0 0 0 0).2 (at_ L 33 + 1) 1) := hb.2
        have hbd := hm.g.bg
        have HX := my_do hm (by omega) 3 0 0 0 0
        rw [hb.1] at HX
        dsimp only [Rs.v] at HX
        obtain ⟨b, eb⟩ : ∃ b, at_ L 33 + 1 = b := ⟨_, rfl⟩
        rw [eb] at HX HB
        have HBD : Hid (1 ≤ b ∧ b ≤ 61) := ⟨by omega, by omega⟩
        have HNN : Hid (N ≤ 60) := hN
        clear hm hN H4 hmay hb hbd eb
        go_wp2_with fail
        refine HX.mono ?_
        clear HX
        rintro e w3 ⟨rfl, h3, _⟩
        have H3 : Hid (MyC w (w3.alloc (.cells #[.int .i64 0, .bool true, .int .i64 b] 35)) R (doC L 3 0 0 0 0).2 (N + 1) ∧ AuL (doC L 3 0 0 0 0).2 b 1) := ⟨h3.alloc _, HB.out⟩
        generalize (doC L 3 0 0 0 0).2 = L1 at *
        have HA := audit_any H3.out.1.c
        rw [H3.out.2.n (by omega), H3.out.2.ap] at HA
        clear h3 HB
        go_wp2_with fail
        refine HA.mono ?_
        clear HA
        rintro e w4 ⟨rfl, nq, rfl⟩
        have H4 : Hid (MyC w ((w3.alloc (.cells #[.int .i64 0, .bool true, .int .i64 b] 35)).drewN nq) R L1 (N + 1)) := H3.out.1.drewN nq
        have HX := my_do H4.out (by have := HNN.out; omega) 5 0 0 b 0
        rw [H3.out.2.thaw1] at HX
        dsimp only [Rs.v] at HX
        go_wp2_with fail
        refine HX.mono ?_
        clear HX H4
        rintro e w5 ⟨rfl, h5, _⟩
        have H5 : Hid (MyC w w5 R L1 (N + 1 + 1)) := h5
        clear h5
        have HX := my_do H5.out (by have := HNN.out; omega) 1 0 1 0 0
        rw [H3.out.2.mov (by omega)] at HX
        dsimp only [Rs.v] at HX
        go_wp2_with fail
        refine HX.mono ?_
        clear HX H5
        rintro e w6 ⟨rfl, h6, _⟩
        have H6 : Hid (MyC w w6 R L1 (N + 1 + 1 + 1)) := h6
        clear h6
        have HX := my_do H6.out (by have := HNN.out; omega) 4 0 0 b 0
        rw [H3.out.2.cut.1] at HX
        dsimp only [Rs.v] at HX
        have HC : Hid (AuL (doC L1 4 0 0 b 0).2 b 2) := H3.out.2.cut.2
        go_wp2_with fail
        refine HX.mono ?_
        clear HX H6 H3
        rintro e w7 ⟨rfl, h7, _⟩
        have H7 : Hid (MyC w w7 R (doC L1 4 0 0 b 0).2 (N + 1 + 1 + 1 + 1)) := h7
        clear h7
        generalize (doC L1 4 0 0 b 0).2 = L2 at *
        have HX := my_do H7.out (by have := HNN.out; omega) 4 0 0 b 0
        rw [HC.out.cut2] at HX
        dsimp only [Rs.v] at HX
        go_wp2_with fail
        refine HX.mono ?_
        clear HX H7
        rintro e w8 ⟨rfl, h8, _⟩
        have H8 : Hid (MyC w w8 R L2 (N + 1 + 1 + 1 + 1 + 1)) := h8
        clear h8
        have HX := my_do H8.out (by have := HNN.out; omega) 3 0 0 0 0
        rw [HC.out.aud (by omega)] at HX
        dsimp only [Rs.v] at HX
        go_wp2_with fail
        refine HX.mono ?_
        clear HX H8
        rintro e w9 ⟨rfl, h9, _⟩
        have H9 : Hid (MyC w w9 R L2 (N + 1 + 1 + 1 + 1 + 1 + 1)) := h9
        clear h9
        have HX := my_do H9.out (by have := HNN.out; omega) 5 0 0 b 0
        rw [HC.out.thaw.1] at HX
        dsimp only [Rs.v] at HX
        have HT : Hid (AuL (doC L2 5 0 0 b 0).2 b 0) := HC.out.thaw.2
        go_wp2_with fail
        refine HX.mono ?_
        clear HX H9 HC
        rintro e x1 ⟨rfl, h10, _⟩
        have H10 : Hid (MyC w x1 R (doC L2 5 0 0 b 0).2 (N + 1 + 1 + 1 + 1 + 1 + 1 + 1)) := h10
        clear h10
        generalize (doC L2 5 0 0 b 0).2 = L3 at *
        have HA := audit_any H10.out.c
        rw [HT.out.ap] at HA
        generalize at_ L3 40 = u40 at *
        go_wp2_with fail
        refine HA.mono ?_
        clear HA
        rintro e x2 ⟨rfl, nr, rfl⟩
        have H11 : Hid (MyC w (x1.drewN nr) R L3 (N + 1 + 1 + 1 + 1 + 1 + 1 + 1)) := H10.out.drewN nr
        have HX := my_do H11.out (by have := HNN.out; omega) 3 0 0 0 0
        rw [HT.out.last (by have := HBD.out; omega)] at HX
        dsimp only [Rs.v] at HX
        have qb : wrap64 (b + 1) = b + 1 := by have := HBD.out; unfold wrap64; omega
        obtain ⟨b1, e1⟩ : ∃ x, b + 1 = x := ⟨_, rfl⟩
        rw [e1] at HX
        have qb' : wrap64 (b + 1) = b1 := qb.trans e1
        clear qb e1
        go_wp2_with fail
        refine HX.mono ?_
        clear HX H11 H10
        rintro e x3 ⟨rfl, h12, _⟩
        have H12 : Hid (Below w.heap.size w (x3.alloc (.cells #[.int .i64 0, .bool true, .int .i64 b1] 35))) := (h12.alloc _).b
        have HK := knownC_any (x3.alloc (.cells #[.int .i64 0, .bool true, .int .i64 b1] 35))
        clear h12
        go_wp2_with fail
        refine HK.mono ?_
        rintro e x4 ⟨rfl, b4⟩
        go_wp2
        go_ret
        exact ⟨rfl, H12.out.trans (b4.mono H12.out.size)⟩
theorem chartAudits_any (n : Int) (a : Option Addr) (len cap : Nat) (os : List CmdC) (w : World) (hC : CmdsC w a len os) (hlm : len ≤ maxLen) : Calls Try.prog 8 #[.int .i64 n, .slice a len cap] w fun e w' => e = .returned (.bool true) ∧ Below w.heap.size w w' := by
  by_cases h : 1 ≤ n ∧ n ≤ 3
  · exact chartAudits_ok n h a len cap os w hC hlm
  · exact chartAudits_no n h _ w
end Go.Proofs.Ytpdgmlljjjeifaa
