/- ChartOwners: the walk. Written by gen_ow.py. -/
import Derived.Test.YtpdgmlljjjeifaaChOwP
import Derived.Test.YtpdgmlljjjeifaaChFrame
namespace Go.Proofs.Ytpdgmlljjjeifaa
open Go.RowKit
attribute [local go_sem] Oper.semAt_some
set_option linter.unusedVariables false
theorem MyC.other {w0 w : World} {R : Nat} {L : List Int} {N : Nat} (h : MyC w0 w R L N) {Q : Nat} (hQ : Q ≠ R) (hq : w0.heap.size ≤ Q) (k : Nat) (v : Value) : MyC w0 (w.setCell ⟨Q, k, none⟩ v) R L N :=
  ⟨h.c.other hQ k v, h.b.setCell hq v, h.g⟩
theorem Blk.setInt {w : World} {P t : Nat} {A : List Int} (h : Blk w P (ints A) t) (k : Nat) (v : Int) : Blk (w.setCell ⟨P, k, none⟩ (.int .i64 v)) P (ints (A.set k v)) t := by
  rw [← ints_set]; exact h.set k _
theorem Blk.cellInt {w : World} {P t : Nat} {A : List Int} (h : Blk w P (ints A) t) (k : Nat) (hk : k < A.length) : w.cell? ⟨P, k, none⟩ = some (.int .i64 (at_ A k)) := (h.cell k).trans (ints_get hk)
/-- What there is while owners and epochs are written down. -/
structure Ow (w w' : World) (R B E : Nat) (L : List Int) (N : Nat) (A C : List Int) : Prop where
  my : MyC w w' R L N
  ph : Ph3 L
  a : Blk w' B (ints A) 3
  e : Blk w' E (ints C) 2
  hb : w.heap.size ≤ B
  he : w.heap.size ≤ E
section
variable {w w1 w' : World} {R B E : Nat} {L : List Int} {N : Nat} {A C : List Int}
theorem Ow.nb (h : Ow w w1 R B E L N A C) : B ≠ R := h.my.c.ne h.a (by decide)
theorem Ow.ne (h : Ow w w1 R B E L N A C) : E ≠ R := h.my.c.ne h.e (by decide)
theorem Ow.nbe (h : Ow w w1 R B E L N A C) : B ≠ E := fun x => by
  have h1 := h.a
  unfold Blk at h1
  rw [x, h.e] at h1
  injection h1 with h1
  injection h1 with _ h2
  exact absurd h2 (by decide)
theorem Ow.below (h : Ow w w1 R B E L N A C) (b : Below w1.heap.size w1 w') : Ow w w' R B E L N A C := ⟨h.my.below b, h.ph, h.a.below b, h.e.below b, h.hb, h.he⟩
theorem Ow.alloc (h : Ow w w1 R B E L N A C) (o : Obj) : Ow w (w1.alloc o) R B E L N A C := h.below ((Below.refl _ w1).alloc (Nat.le_refl _) o)
theorem Ow.setA (h : Ow w w1 R B E L N A C) (k : Nat) (v : Int) : Ow w (w1.setCell ⟨B, k, none⟩ (.int .i64 v)) R B E L N (A.set k v) C := ⟨h.my.other h.nb h.hb _ _, h.ph, h.a.setInt k v, h.e.other h.nbe _ _, h.hb, h.he⟩
theorem Ow.setE (h : Ow w w1 R B E L N A C) (k : Nat) (v : Int) : Ow w (w1.setCell ⟨E, k, none⟩ (.int .i64 v)) R B E L N A (C.set k v) := ⟨h.my.other h.ne h.he _ _, h.ph, h.a.other (Ne.symm h.nbe) _ _, h.e.setInt k v, h.hb, h.he⟩
theorem Ow.did {L' : List Int} {M : Nat} (h : Ow w w1 R B E L N A C) (m : MyC w w' R L' M) (g : OnlyR w1 w' R) (p : Ph3 L') : Ow w w' R B E L' M A C := ⟨m, p, h.a.only g h.nb, h.e.only g h.ne, h.hb, h.he⟩
end
/-- An operation that is not wanted: the one that may come up. -/
theorem take_skip {P : Program} {ops : Array Oper} {Q : Exit → Act → World → Prop} {md : Region.Mode} {S : World → Prop} {i : Nat} {oi : Oper} {fuel : Nat} {listed : Array Bool} {a : Act} {w : World} (hi : ops[i]? = some oi) (hr : Region.ready md ops listed = [i]) (hw : Region.wanted oi (yielded ops a.tmps) = false)
    (hS : S w) (h : wpAnyH P md ops Q S fuel (listed.setIfInBounds i true) (a.put oi.dst undef) w) : wpAnyH P md ops Q S (fuel + 1) listed a w := by
  refine wpAnyH_all (rs := [i]) hr (by simp) (fun j hj => ?_)
  obtain rfl : j = i := by simpa using hj
  unfold wpOp
  simp only [hi, hw, Bool.false_eq_true, if_false]
  exact ⟨hS, h⟩
theorem mkO (w : World) : (Instr.makeSlice 39 (.int .i64 16) (.int .i64 16)).run Try.prog w = .ok (.slice (some ⟨w.heap.size, 0, none⟩) 16 16) (w.alloc (.cells #[.int .i64 0, .int .i64 0, .int .i64 0, .int .i64 0, .int .i64 0, .int .i64 0, .int .i64 0, .int .i64 0, .int .i64 0, .int .i64 0, .int .i64 0, .int .i64 0, .int .i64 0, .int .i64 0, .int .i64 0, .int .i64 0] 3)) := by kernel_rfl
theorem mkE (w : World) : (Instr.makeSlice 40 (.int .i64 16) (.int .i64 16)).run Try.prog w = .ok (.slice (some ⟨w.heap.size, 0, none⟩) 16 16) (w.alloc (.cells #[.int .i64 0, .int .i64 0, .int .i64 0, .int .i64 0, .int .i64 0, .int .i64 0, .int .i64 0, .int .i64 0, .int .i64 0, .int .i64 0, .int .i64 0, .int .i64 0, .int .i64 0, .int .i64 0, .int .i64 0, .int .i64 0] 2)) := by kernel_rfl
set_option maxRecDepth 100000 in
set_option maxHeartbeats 4000000 in
theorem chartOwners_no (n : Int) (h : ¬ (1 ≤ n ∧ n ≤ 3)) (v : Value) (w : World) : Calls Try.prog 5 #[.int .i64 n, v] w fun e w' => e = .returned (.bool true) ∧ Below w.heap.size w w' := by
  have HN := new_no n h w
  clear h
  go_enter Try.func5, Try.ntmps5
  go_wp2_with fail
  refine HN.mono ?_
  rintro e w1 ⟨rfl, rfl⟩
  go_wp2_with fail
  refine (knownC_any w1).mono ?_
  rintro e w2 ⟨rfl, b2⟩
  go_wp2
  go_ret
  exact ⟨rfl, b2⟩
set_option maxRecDepth 100000 in
set_option maxHeartbeats 8000000 in
theorem chartOwners_ok (n : Int) (h : 1 ≤ n ∧ n ≤ 3) (a : Option Addr) (len cap : Nat) (os : List CmdC) (w : World) (hC : CmdsC w a len os) (hlm : len ≤ maxLen) : Calls Try.prog 5 #[.int .i64 n, .slice a len cap] w fun e w' => e = .returned (.bool true) ∧ Below w.heap.size w w' := by
  have HN := my_new n h w w (Below.refl _ w)
  obtain ⟨R, eR⟩ : ∃ R, w.heap.size = R := ⟨_, rfl⟩
  rw [eR] at HN
  have f0 := fldR0
  have f1 := fldR1
  have f4 := fldM4
  have HCC : Hid (CmdsC w a len os) := hC
  have HLM : Hid (len ≤ maxLen) := hlm
  have HSH : Hid (at_ (newL n 16) 0 = n) := by show at_ (newL n 16) 0 = n; rw [newL_at n 16 0 (by omega), if_pos rfl]
  clear eR h hC hlm
  go_enter Try.func5, Try.ntmps5
  go_wp2_with fail
  refine HN.mono ?_
  clear HN
  rintro e w1 ⟨rfl, h1, _⟩
  have H1 : Hid (∃ L N, MyC w w1 R L N ∧ Ph3 L ∧ at_ L 0 = n ∧ N ≤ 2 * 0) := ⟨_, 0, h1, ph3_new n, HSH.out, by omega⟩
  clear h1 HSH
  go_wp2_with fail
  go_loopw [7] (fun i wr => ∃ j : Nat, (j ≤ len ∧ j ≤ 100) ∧ i = .int .i64 (j : Int) ∧ Hid (∃ L N, MyC w wr R L N ∧ Ph3 L ∧ at_ L 0 = n ∧ N ≤ 2 * j)) (fun i _ => 101 - (intOf i).toNat)
  case atStart => exact ⟨0, ⟨by omega, by omega⟩, rfl, H1⟩
  case round =>
    obtain ⟨j, hj, rfl, HH⟩ := hrel
    clear H1
    by_cases hjl : j < len
    · by_cases hj60 : j < 100
      · have q0 : decide ((j : Int) < (len : Int)) = true := decide_eq_true (by omega)
        have q1 : decide ((j : Int) < 100) = true := decide_eq_true (by omega)
        obtain ⟨L, N, hm, hp3, hsh, hN⟩ := HH.out
        have hjl' : (j : Int) < (len : Int) := by omega
        have o1 : Ow w ((wr.alloc (.cells (ints (fillO L 0)) 3)).alloc (.cells (ints (fillE L 0)) 2)) R wr.heap.size (wr.heap.size + 1) L N (fillO L 0) (fillE L 0) := ⟨(hm.alloc _).alloc _, hp3, (Blk.new wr _ _).alloc _, by have := Blk.new (wr.alloc (.cells (ints (fillO L 0)) 3)) (ints (fillE L 0)) 2; simpa using this, hm.b.size, by have := hm.b.size; omega⟩
        have el : ints (fillO L 0) = #[.int .i64 0, .int .i64 0, .int .i64 0, .int .i64 0, .int .i64 0, .int .i64 0, .int .i64 0, .int .i64 0, .int .i64 0, .int .i64 0, .int .i64 0, .int .i64 0, .int .i64 0, .int .i64 0, .int .i64 0, .int .i64 0] := by simp [fillO, ints, List.range, List.range.loop]
        have el2 : ints (fillE L 0) = #[.int .i64 0, .int .i64 0, .int .i64 0, .int .i64 0, .int .i64 0, .int .i64 0, .int .i64 0, .int .i64 0, .int .i64 0, .int .i64 0, .int .i64 0, .int .i64 0, .int .i64 0, .int .i64 0, .int .i64 0, .int .i64 0] := by simp [fillE, ints, List.range, List.range.loop]
        rw [el, el2] at o1
        obtain ⟨wB, eB⟩ : ∃ x, (wr.alloc (.cells #[.int .i64 0, .int .i64 0, .int .i64 0, .int .i64 0, .int .i64 0, .int .i64 0, .int .i64 0, .int .i64 0, .int .i64 0, .int .i64 0, .int .i64 0, .int .i64 0, .int .i64 0, .int .i64 0, .int .i64 0, .int .i64 0] 3)).alloc (.cells #[.int .i64 0, .int .i64 0, .int .i64 0, .int .i64 0, .int .i64 0, .int .i64 0, .int .i64 0, .int .i64 0, .int .i64 0, .int .i64 0, .int .i64 0, .int .i64 0, .int .i64 0, .int .i64 0, .int .i64 0, .int .i64 0] 2) = x := ⟨_, rfl⟩
        obtain ⟨B, eBB⟩ : ∃ x, wr.heap.size = x := ⟨_, rfl⟩
        rw [eB, eBB] at o1
        have EB : Hid _ := eB
        have EBB : Hid (wr.heap.size = B) := eBB
        have O1 : Hid (Ow w wB R B (B + 1) L N (fillO L 0) (fillE L 0)) := o1
        have HJ : Hid (j < len ∧ j < 100 ∧ at_ L 0 = n ∧ N ≤ 2 * j) := ⟨hjl, hj60, hsh, hN⟩
        have m1 := mkO
        have m2 := mkE
        clear hj HH hm hp3 hsh hN el el2 o1 eB eBB
        go_wp2_with fail
        rw [EB.out, EBB.out]
        clear EB EBB m1 m2
        go_loopw [10] (fun i wr => ∃ m : Nat, m ≤ 16 ∧ i = .int .i64 (m : Int) ∧ Hid (Ow w wr R B (B + 1) L N (fillO L m) (fillE L m))) (fun i _ => 16 - (intOf i).toNat)
        case atStart => exact ⟨0, by omega, rfl, O1⟩
        case round =>
          obtain ⟨m, hm, rfl, HO⟩ := hrel
          clear O1
          by_cases hm16 : m < 16
          · have HW := owner_any HO.out.my.c (m : Int)
            rw [own_at hm16] at HW
            clear hm
            go_wp2_with fail
            refine HW.mono ?_
            clear HW
            rintro e w2 ⟨rfl, b2⟩
            have O2 := HO.out.below b2
            have c1 := O2.a.cellInt m (by rw [fillO_len]; exact hm16)
            have z1 := O2.a.fz m
            have O3 := O2.setA m (at_ L (1 + m * 2))
            rw [fillO_set L m hm16] at O3
            have HE := epoch_any O3.my.c (m : Int)
            rw [epo_at hm16] at HE
            have OO3 : Hid (Ow w (w2.setCell ⟨B, m, none⟩ (.int .i64 (at_ L (1 + m * 2)))) R B (B + 1) L N (fillO L (m + 1)) (fillE L m)) := O3
            generalize at_ (fillO L m) m = x1 at *
            generalize at_ L (1 + m * 2) = v1 at *
            clear b2 HO O2 O3
            go_wp2_with fail
            refine HE.mono ?_
            clear HE
            rintro e w3 ⟨rfl, b3⟩
            have O4 := OO3.out.below b3
            have c2 := O4.e.cellInt m (by rw [fillE_len]; exact hm16)
            have z2 := O4.e.fz m
            have O5 := O4.setE m (at_ L (2 + m * 2))
            rw [fillE_set L m hm16] at O5
            have OO5 : Hid (Ow w (w3.setCell ⟨B + 1, m, none⟩ (.int .i64 (at_ L (2 + m * 2)))) R B (B + 1) L N (fillO L (m + 1)) (fillE L (m + 1))) := O5
            generalize at_ (fillE L m) m = x2 at *
            generalize at_ L (2 + m * 2) = v2 at *
            clear b3 O4 O5 OO3 c1 z1
            go_wp2
            go_roundw
            case rel => exact ⟨m + 1, by omega, by go_num, OO5⟩
            case measure => simp only [intOf]; omega
          · obtain rfl : m = 16 := by omega
            rw [show ((16 : Nat) : Int) = 16 from rfl]
            have hjo : j < os.length := by have := HCC.out.1; have := HJ.out; omega
            obtain ⟨bb, off, ea, y0, y1, y2, y3, y4⟩ := HCC.out.at HO.out.my.b hjo
            generalize os[j]'hjo = o at y0 y1 y2 y3 y4
            obtain ⟨k, s, t, nn, p⟩ := o
            dsimp only at y0 y1 y2 y3 y4
            subst ea
            clear hm hm16 hjo
            have HG := given_any k s t nn p wr
            go_wp2_with fail
            refine HG.mono ?_
            clear HG
            rintro e w2 ⟨rfl, b2⟩
            have O2 : Hid (Ow w (w2.alloc (.cells #[.int .i64 k, .int .i64 s, .int .i64 t, .int .i64 nn, .int .i64 p] 38)) R B (B + 1) L N (fillO L 16) (fillE L 16)) := (HO.out.below b2).alloc _
            have P2 : Hid (Blk (w2.alloc (.cells #[.int .i64 k, .int .i64 s, .int .i64 t, .int .i64 nn, .int .i64 p] 38)) w2.heap.size #[.int .i64 k, .int .i64 s, .int .i64 t, .int .i64 nn, .int .i64 p] 38) := Blk.new _ _ _
            have HX := my_do O2.out.my (by have := HJ.out; omega) k s t nn p
            have TT : Hid (Turn L (doC L k s t nn p).2 ∧ Ph3 (doC L k s t nn p).2) := turn_doC O2.out.my.g O2.out.ph k s t nn p
            have TW : Hid ((doC L k s t nn p).1.why = 0 → 2 ≤ k → k ≠ 3 → (doC (doC L k s t nn p).2 k s t nn p).1.why = 5) := twice_doC O2.out.my.g O2.out.ph k s t nn p
            obtain ⟨r, er⟩ : ∃ r, (doC L k s t nn p).1 = r := ⟨_, rfl⟩
            obtain ⟨L', eL⟩ : ∃ l, (doC L k s t nn p).2 = l := ⟨_, rfl⟩
            rw [er, eL] at HX TW
            rw [eL] at TT
            obtain ⟨why, wt, n2⟩ := r
            dsimp only [Rs.v] at HX TW
            clear b2 HO y0 y1 y2 y3 y4 er eL
            go_wp2_with fail
            refine HX.mono ?_
            clear HX
            rintro e w3 ⟨rfl, h3, g3⟩
            have o3 := (O2.out.did h3 g3 TT.out.2).alloc (.cells #[.int .i64 why, .bool wt, .int .i64 n2] 35)
            have p3 := (P2.out.only g3 (O2.out.my.c.ne P2.out (by decide))).alloc (.cells #[.int .i64 why, .bool wt, .int .i64 n2] 35)
            have r3 := Blk.new w3 #[.int .i64 why, .bool wt, .int .i64 n2] 35
            obtain ⟨wC, eC⟩ : ∃ x, w3.alloc (.cells #[.int .i64 why, .bool wt, .int .i64 n2] 35) = x := ⟨_, rfl⟩
            obtain ⟨X, eX⟩ : ∃ x, w2.heap.size = x := ⟨_, rfl⟩
            obtain ⟨Y, eY⟩ : ∃ x, w3.heap.size = x := ⟨_, rfl⟩
            rw [eC] at o3 p3 r3
            rw [eX] at p3
            rw [eY] at r3
            have O3 : Hid (Ow w wC R B (B + 1) L' (N + 1) (fillO L 16) (fillE L 16) ∧ Blk wC X #[.int .i64 k, .int .i64 s, .int .i64 t, .int .i64 nn, .int .i64 p] 38 ∧ Blk wC Y #[.int .i64 why, .bool wt, .int .i64 n2] 35) := ⟨o3, p3, r3⟩
            have EC : Hid _ := eC
            have EX : Hid (w2.heap.size = X) := eX
            have EY : Hid (w3.heap.size = Y) := eY
            clear o3 p3 r3 eC eX eY h3 g3 O2 P2
            go_wp2_with fail
            rw [EC.out, EX.out, EY.out]
            clear EC EX EY
            go_loopw [13] (fun i wr => ∃ m : Nat, m ≤ 16 ∧ i = .int .i64 (m : Int) ∧ Hid (Ow w wr R B (B + 1) L' (N + 1) (fillO L 16) (fillE L 16) ∧ Blk wr X #[.int .i64 k, .int .i64 s, .int .i64 t, .int .i64 nn, .int .i64 p] 38 ∧ Blk wr Y #[.int .i64 why, .bool wt, .int .i64 n2] 35)) (fun i _ => 16 - (intOf i).toNat)
            case atStart => exact ⟨0, by omega, rfl, O3⟩
            case round =>
              obtain ⟨m, hm, rfl, HO⟩ := hrel
              clear O3
              by_cases hm16 : m < 16
              · have HW := owner_any HO.out.1.my.c (m : Int)
                rw [own_at hm16] at HW
                have hv := HO.out.1.my.g.ow m hm16
                rw [TT.out.1.1, HJ.out.2.2.1] at hv
                have hep := HO.out.1.my.g.ep m hm16
                have heq := TT.out.1.2 m hm16
                have hN2 : N ≤ 200 := by have := HJ.out; omega
                clear hm
                go_wp2_with fail
                refine HW.mono ?_
                clear HW
                rintro e w4 ⟨rfl, b4⟩
                have O4 : Hid (Ow w w4 R B (B + 1) L' (N + 1) (fillO L 16) (fillE L 16) ∧ Blk w4 X #[.int .i64 k, .int .i64 s, .int .i64 t, .int .i64 nn, .int .i64 p] 38 ∧ Blk w4 Y #[.int .i64 why, .bool wt, .int .i64 n2] 35) := ⟨HO.out.1.below b4, HO.out.2.1.below b4, HO.out.2.2.below b4⟩
                have HE : Hid (∀ W, Below w4.heap.size w4 W → Calls Try.prog 22 #[.pointer (some ⟨R, 0, none⟩), .int .i64 (m : Int)] W fun e w' => e = .returned (.int .i64 (at_ L' (2 + m * 2))) ∧ Below w4.heap.size w4 w') := fun W hb => by
                  have := epoch_any (O4.out.1.my.c.below hb) (m : Int)
                  rw [epo_at hm16] at this
                  exact this.mono fun e w' ⟨he, hb'⟩ => ⟨he, hb.trans (hb'.mono hb.size)⟩
                have MK : Hid (∀ W, Below w4.heap.size w4 W → (Below w4.heap.size w4 W ∧ W.cell? ⟨B, m, none⟩ = some (.int .i64 (at_ L (1 + m * 2))) ∧ W.cell? ⟨B + 1, m, none⟩ = some (.int .i64 (at_ L (2 + m * 2))))) := fun W hb => by
                  refine ⟨hb, ?_, ?_⟩
                  · rw [(O4.out.1.a.below hb).cellInt m (by rw [fillO_len]; exact hm16), fillO_at L m hm16]
                  · rw [(O4.out.1.e.below hb).cellInt m (by rw [fillE_len]; exact hm16), fillE_at L m hm16]
                have bb0 := Below.refl w4.heap.size w4
                clear b4 HO
                generalize at_ L' (1 + m * 2) = v at *
                generalize at_ L' (2 + m * 2) = e2 at *
                generalize at_ L (1 + m * 2) = u at *
                generalize at_ L (2 + m * 2) = e1 at *
                have hv1 : decide (v < 1) = false := decide_eq_false (by omega)
                have hv2 : decide (n < v) = false := decide_eq_false (by omega)
                rcases heq with ⟨rfl, rfl⟩ | ⟨hne, h12⟩
                · have qw : wrap64 (e2 + 1) = e2 + 1 := by unfold wrap64; omega
                  obtain ⟨e3, ee3⟩ : ∃ x, e2 + 1 = x := ⟨_, rfl⟩
                  have qw' : wrap64 (e2 + 1) = e3 := qw.trans ee3
                  have qi : IntKind.i64.wrap (e2 + 1) = e3 := (IntWalk.i64_left _).trans qw'
                  have hn3 : ¬ e2 = e3 := by omega
                  have hn4 : (e2 == e3) = false := by simpa using hn3
                  have hvv : ((v : Int) != v) = false := by simp
                  have hvv2 : ((v : Int) == v) = true := by simp
                  have hee : ((e2 : Int) != e2) = false := by simp
                  clear qw ee3 hep hN2 hv
                  go_wp2_with fail
                  go_region_held3 (fun W => Below w4.heap.size w4 W ∧ W.cell? ⟨B, m, none⟩ = some (.int .i64 v) ∧ W.cell? ⟨B + 1, m, none⟩ = some (.int .i64 e2))
                    (first | assumption | exact MK.out _ (by assumption) | exact MK.out _ (Below.drew (by assumption)))
                    (first
                      | (go_at_call 22; refine (HE.out _ (by first | assumption | exact Below.drew (by assumption))).mono ?_; rintro e w5 ⟨rfl, b5⟩))
                  go_wp2
                  go_roundw
                  case rel => exact ⟨m + 1, by omega, by go_num, ⟨O4.out.1.below b5, O4.out.2.1.below b5, O4.out.2.2.below b5⟩⟩
                  case measure => simp only [intOf]; omega
                · have qw : wrap64 (e1 + 1) = e1 + 1 := by unfold wrap64; omega
                  have qi : IntKind.i64.wrap (e1 + 1) = e2 := ((IntWalk.i64_left _).trans qw).trans h12.symm
                  have hvv : ((v : Int) != u) = true := by simpa using hne
                  have hvv2 : ((v : Int) == u) = false := by simpa using hne
                  have hee : ((e2 : Int) == e2) = true := by simp
                  clear qw h12 hep hN2 hv
                  go_wp2_with fail
                  refine wp_region_held_drew (S := fun W => Below w4.heap.size w4 W ∧ W.cell? ⟨B, m, none⟩ = some (.int .i64 u) ∧ W.cell? ⟨B + 1, m, none⟩ = some (.int .i64 e1)) (by kernel_rfl) (MK.out _ bb0.drew) (fun hHeld => ?_)
                  refine take_run (i := 0) (oi := { dst := some 76, op := Go.Op.move (Go.Operand.tmp 14), type := 3, pos := "law.go:139", after := #[], guard := none }) (v := .int .i64 v) rfl (by kernel_rfl) (by kernel_rfl) (by kernel_rfl) (fun _ _ _ h => h) (by rfl) ?_ hHeld ?_
                  · (intro wq hSw; go_simp <;> with_reducible rfl)
                  try simp only [Act.put, List.setIfInBounds_toArray, List.set_cons_zero, List.set_cons_succ]
                  refine take_run (i := 1) (oi := { dst := some 77, op := Go.Op.binOp Go.BinOp.lss 3 (Go.Operand.tmp 76) (Go.Operand.const (Go.Value.int Go.IntKind.i64 1)) 3, type := 4, pos := "law.go:139", after := #[{ on := 0, ground := Go.Ground.data }], guard := none }) (v := .bool false) rfl (by kernel_rfl) (by kernel_rfl) (by kernel_rfl) (fun _ _ _ h => h) (by rfl) ?_ hHeld ?_
                  · (intro wq hSw; go_simp <;> with_reducible rfl)
                  try simp only [Act.put, List.setIfInBounds_toArray, List.set_cons_zero, List.set_cons_succ]
                  refine take_run (i := 2) (oi := { dst := some 78, op := Go.Op.move (Go.Operand.tmp 77), type := 4, pos := "law.go:139", after := #[{ on := 1, ground := Go.Ground.data }], guard := none }) (v := .bool false) rfl (by kernel_rfl) (by kernel_rfl) (by kernel_rfl) (fun _ _ _ h => h) (by rfl) ?_ hHeld ?_
                  · (intro wq hSw; go_simp <;> with_reducible rfl)
                  try simp only [Act.put, List.setIfInBounds_toArray, List.set_cons_zero, List.set_cons_succ]
                  refine take_run (i := 3) (oi := { dst := some 79, op := Go.Op.move (Go.Operand.tmp 14), type := 3, pos := "law.go:139", after := #[{ on := 2, ground := Go.Ground.guard }], guard := some (2, false) }) (v := .int .i64 v) rfl (by kernel_rfl) (by kernel_rfl) (by kernel_rfl) (fun _ _ _ h => h) (by rfl) ?_ hHeld ?_
                  · (intro wq hSw; go_simp <;> with_reducible rfl)
                  try simp only [Act.put, List.setIfInBounds_toArray, List.set_cons_zero, List.set_cons_succ]
                  refine take_run (i := 4) (oi := { dst := some 80, op := Go.Op.move (Go.Operand.tmp 0), type := 3, pos := "law.go:139", after := #[{ on := 2, ground := Go.Ground.guard }], guard := some (2, false) }) (v := .int .i64 n) rfl (by kernel_rfl) (by kernel_rfl) (by kernel_rfl) (fun _ _ _ h => h) (by rfl) ?_ hHeld ?_
                  · (intro wq hSw; go_simp <;> with_reducible rfl)
                  try simp only [Act.put, List.setIfInBounds_toArray, List.set_cons_zero, List.set_cons_succ]
                  refine take_run (i := 5) (oi := { dst := some 81, op := Go.Op.binOp Go.BinOp.gtr 3 (Go.Operand.tmp 79) (Go.Operand.tmp 80) 3, type := 4, pos := "law.go:139", after := #[{ on := 3, ground := Go.Ground.data }, { on := 4, ground := Go.Ground.data }, { on := 2, ground := Go.Ground.guard }], guard := some (2, false) }) (v := .bool false) rfl (by kernel_rfl) (by kernel_rfl) (by kernel_rfl) (fun _ _ _ h => h) (by rfl) ?_ hHeld ?_
                  · (intro wq hSw; go_simp <;> with_reducible rfl)
                  try simp only [Act.put, List.setIfInBounds_toArray, List.set_cons_zero, List.set_cons_succ]
                  refine take_run (i := 6) (oi := { dst := some 82, op := Go.Op.pick (Go.Operand.tmp 78) (Go.Operand.const (Go.Value.bool true)) (Go.Operand.tmp 81), type := 4, pos := "law.go:139", after := #[{ on := 2, ground := Go.Ground.data }, { on := 5, ground := Go.Ground.data }], guard := none }) (v := .bool false) rfl (by kernel_rfl) (by kernel_rfl) (by kernel_rfl) (fun _ _ _ h => h) (by rfl) ?_ hHeld ?_
                  · (intro wq hSw; go_simp <;> with_reducible rfl)
                  try simp only [Act.put, List.setIfInBounds_toArray, List.set_cons_zero, List.set_cons_succ]
                  refine take_run (i := 7) (oi := { dst := some 83, op := Go.Op.move (Go.Operand.tmp 82), type := 4, pos := "law.go:139", after := #[{ on := 6, ground := Go.Ground.data }, { on := 2, ground := Go.Ground.chain }], guard := none }) (v := .bool false) rfl (by kernel_rfl) (by kernel_rfl) (by kernel_rfl) (fun _ _ _ h => h) (by rfl) ?_ hHeld ?_
                  · (intro wq hSw; go_simp <;> with_reducible rfl)
                  try simp only [Act.put, List.setIfInBounds_toArray, List.set_cons_zero, List.set_cons_succ]
                  refine take_run (i := 8) (oi := { dst := some 84, op := Go.Op.move (Go.Operand.tmp 14), type := 3, pos := "law.go:139", after := #[{ on := 7, ground := Go.Ground.guard }], guard := some (7, false) }) (v := .int .i64 v) rfl (by kernel_rfl) (by kernel_rfl) (by kernel_rfl) (fun _ _ _ h => h) (by rfl) ?_ hHeld ?_
                  · (intro wq hSw; go_simp <;> with_reducible rfl)
                  try simp only [Act.put, List.setIfInBounds_toArray, List.set_cons_zero, List.set_cons_succ]
                  refine take_run (i := 9) (oi := { dst := some 85, op := Go.Op.move (Go.Operand.tmp 8), type := 39, pos := "law.go:139", after := #[{ on := 7, ground := Go.Ground.guard }], guard := some (7, false) }) (v := .slice (some ⟨B, 0, none⟩) 16 16) rfl (by kernel_rfl) (by kernel_rfl) (by kernel_rfl) (fun _ _ _ h => h) (by rfl) ?_ hHeld ?_
                  · (intro wq hSw; go_simp <;> with_reducible rfl)
                  try simp only [Act.put, List.setIfInBounds_toArray, List.set_cons_zero, List.set_cons_succ]
                  refine take_run (i := 10) (oi := { dst := some 86, op := Go.Op.move (Go.Operand.tmp 13), type := 3, pos := "law.go:139", after := #[{ on := 7, ground := Go.Ground.guard }], guard := some (7, false) }) (v := .int .i64 (m : Int)) rfl (by kernel_rfl) (by kernel_rfl) (by kernel_rfl) (fun _ _ _ h => h) (by rfl) ?_ hHeld ?_
                  · (intro wq hSw; go_simp <;> with_reducible rfl)
                  try simp only [Act.put, List.setIfInBounds_toArray, List.set_cons_zero, List.set_cons_succ]
                  refine take_run (i := 11) (oi := { dst := some 87, op := Go.Op.indexAddr 39 (Go.Operand.tmp 85) (Go.Operand.tmp 86), type := 0, pos := "law.go:139", after := #[{ on := 9, ground := Go.Ground.data }, { on := 10, ground := Go.Ground.data }, { on := 7, ground := Go.Ground.guard }], guard := some (7, false) }) (v := .pointer (some ⟨B, m, none⟩)) rfl (by kernel_rfl) (by kernel_rfl) (by kernel_rfl) (fun _ _ _ h => h) (by rfl) ?_ hHeld ?_
                  · (intro wq hSw; go_simp <;> with_reducible rfl)
                  try simp only [Act.put, List.setIfInBounds_toArray, List.set_cons_zero, List.set_cons_succ]
                  refine take_run (i := 12) (oi := { dst := some 88, op := Go.Op.load 3 (Go.Operand.tmp 87), type := 3, pos := "law.go:139", after := #[{ on := 11, ground := Go.Ground.data }, { on := 7, ground := Go.Ground.guard }], guard := some (7, false) }) (v := .int .i64 u) rfl (by kernel_rfl) (by kernel_rfl) (by kernel_rfl) (fun _ _ _ h => h) (by rfl) ?_ hHeld ?_
                  · (intro wq hSw; have cu := hSw.2.1; have ce := hSw.2.2; go_simp <;> with_reducible rfl)
                  try simp only [Act.put, List.setIfInBounds_toArray, List.set_cons_zero, List.set_cons_succ]
                  refine take_run (i := 13) (oi := { dst := some 89, op := Go.Op.binOp Go.BinOp.neq 3 (Go.Operand.tmp 84) (Go.Operand.tmp 88) 3, type := 4, pos := "law.go:139", after := #[{ on := 8, ground := Go.Ground.data }, { on := 12, ground := Go.Ground.data }, { on := 7, ground := Go.Ground.guard }], guard := some (7, false) }) (v := .bool true) rfl (by kernel_rfl) (by kernel_rfl) (by kernel_rfl) (fun _ _ _ h => h) (by rfl) ?_ hHeld ?_
                  · (intro wq hSw; go_simp <;> with_reducible rfl)
                  try simp only [Act.put, List.setIfInBounds_toArray, List.set_cons_zero, List.set_cons_succ]
                  refine take_run (i := 14) (oi := { dst := some 90, op := Go.Op.move (Go.Operand.tmp 5), type := 23, pos := "law.go:139", after := #[{ on := 7, ground := Go.Ground.guard }], guard := some (7, false) }) (v := .pointer (some ⟨R, 0, none⟩)) rfl (by kernel_rfl) (by kernel_rfl) (by kernel_rfl) (fun _ _ _ h => h) (by rfl) ?_ hHeld ?_
                  · (intro wq hSw; go_simp <;> with_reducible rfl)
                  try simp only [Act.put, List.setIfInBounds_toArray, List.set_cons_zero, List.set_cons_succ]
                  refine take_run (i := 15) (oi := { dst := some 91, op := Go.Op.move (Go.Operand.tmp 13), type := 3, pos := "law.go:139", after := #[{ on := 7, ground := Go.Ground.guard }], guard := some (7, false) }) (v := .int .i64 (m : Int)) rfl (by kernel_rfl) (by kernel_rfl) (by kernel_rfl) (fun _ _ _ h => h) (by rfl) ?_ hHeld ?_
                  · (intro wq hSw; go_simp <;> with_reducible rfl)
                  try simp only [Act.put, List.setIfInBounds_toArray, List.set_cons_zero, List.set_cons_succ]
                  refine take_run (i := 17) (oi := { dst := some 93, op := Go.Op.move (Go.Operand.tmp 9), type := 40, pos := "law.go:139", after := #[{ on := 7, ground := Go.Ground.guard }], guard := some (7, false) }) (v := .slice (some ⟨B + 1, 0, none⟩) 16 16) rfl (by kernel_rfl) (by kernel_rfl) (by kernel_rfl) (fun _ _ _ h => h) (by rfl) ?_ hHeld ?_
                  · (intro wq hSw; go_simp <;> with_reducible rfl)
                  try simp only [Act.put, List.setIfInBounds_toArray, List.set_cons_zero, List.set_cons_succ]
                  refine take_run (i := 18) (oi := { dst := some 94, op := Go.Op.move (Go.Operand.tmp 13), type := 3, pos := "law.go:139", after := #[{ on := 7, ground := Go.Ground.guard }], guard := some (7, false) }) (v := .int .i64 (m : Int)) rfl (by kernel_rfl) (by kernel_rfl) (by kernel_rfl) (fun _ _ _ h => h) (by rfl) ?_ hHeld ?_
                  · (intro wq hSw; go_simp <;> with_reducible rfl)
                  try simp only [Act.put, List.setIfInBounds_toArray, List.set_cons_zero, List.set_cons_succ]
                  refine take_run (i := 19) (oi := { dst := some 95, op := Go.Op.indexAddr 40 (Go.Operand.tmp 93) (Go.Operand.tmp 94), type := 0, pos := "law.go:139", after := #[{ on := 17, ground := Go.Ground.data }, { on := 18, ground := Go.Ground.data }, { on := 7, ground := Go.Ground.guard }], guard := some (7, false) }) (v := .pointer (some ⟨B + 1, m, none⟩)) rfl (by kernel_rfl) (by kernel_rfl) (by kernel_rfl) (fun _ _ _ h => h) (by rfl) ?_ hHeld ?_
                  · (intro wq hSw; go_simp <;> with_reducible rfl)
                  try simp only [Act.put, List.setIfInBounds_toArray, List.set_cons_zero, List.set_cons_succ]
                  refine take_run (i := 20) (oi := { dst := some 96, op := Go.Op.load 2 (Go.Operand.tmp 95), type := 2, pos := "law.go:139", after := #[{ on := 19, ground := Go.Ground.data }, { on := 7, ground := Go.Ground.guard }], guard := some (7, false) }) (v := .int .i64 e1) rfl (by kernel_rfl) (by kernel_rfl) (by kernel_rfl) (fun _ _ _ h => h) (by rfl) ?_ hHeld ?_
                  · (intro wq hSw; have cu := hSw.2.1; have ce := hSw.2.2; go_simp <;> with_reducible rfl)
                  try simp only [Act.put, List.setIfInBounds_toArray, List.set_cons_zero, List.set_cons_succ]
                  refine take_run (i := 21) (oi := { dst := some 97, op := Go.Op.binOp Go.BinOp.add 2 (Go.Operand.tmp 96) (Go.Operand.const (Go.Value.int Go.IntKind.i64 1)) 2, type := 2, pos := "law.go:139", after := #[{ on := 20, ground := Go.Ground.data }, { on := 7, ground := Go.Ground.guard }], guard := some (7, false) }) (v := .int .i64 e2) rfl (by kernel_rfl) (by kernel_rfl) (by kernel_rfl) (fun _ _ _ h => h) (by rfl) ?_ hHeld ?_
                  · (intro wq hSw; go_simp <;> with_reducible rfl)
                  try simp only [Act.put, List.setIfInBounds_toArray, List.set_cons_zero, List.set_cons_succ]
                  refine take_call (i := 16) (oi := { dst := some 92, op := Go.Op.call { callee := Go.Callee.value (Go.Operand.func 22), args := #[Go.Operand.tmp 90, Go.Operand.tmp 91], argTypes := #[23, 3] }, type := 2, pos := "law.go:139", after := #[{ on := 14, ground := Go.Ground.data }, { on := 15, ground := Go.Ground.data }, { on := 7, ground := Go.Ground.chain }, { on := 7, ground := Go.Ground.guard }], guard := some (7, false) }) rfl (by kernel_rfl) (by rfl) 22 _ (by go_simp <;> with_reducible rfl) ?_
                  refine (HE.out _ bb0.drew).mono ?_
                  rintro e w5 ⟨rfl, b5⟩
                  refine ⟨.int .i64 e2, rfl, MK.out _ b5, ?_⟩
                  try simp only [Act.put, List.setIfInBounds_toArray, List.set_cons_zero, List.set_cons_succ]
                  refine take_run (i := 22) (oi := { dst := some 98, op := Go.Op.binOp Go.BinOp.eql 2 (Go.Operand.tmp 92) (Go.Operand.tmp 97) 2, type := 4, pos := "law.go:139", after := #[{ on := 16, ground := Go.Ground.data }, { on := 21, ground := Go.Ground.data }, { on := 7, ground := Go.Ground.guard }], guard := some (7, false) }) (v := .bool true) rfl (by kernel_rfl) (by kernel_rfl) (by kernel_rfl) (fun _ _ _ h => h) (by rfl) ?_ (MK.out _ b5) ?_
                  · (intro wq hSw; go_simp <;> with_reducible rfl)
                  try simp only [Act.put, List.setIfInBounds_toArray, List.set_cons_zero, List.set_cons_succ]
                  refine take_run (i := 23) (oi := { dst := some 99, op := Go.Op.binOp Go.BinOp.neq 4 (Go.Operand.tmp 89) (Go.Operand.tmp 98) 4, type := 4, pos := "law.go:139", after := #[{ on := 13, ground := Go.Ground.data }, { on := 22, ground := Go.Ground.data }, { on := 7, ground := Go.Ground.guard }], guard := some (7, false) }) (v := .bool false) rfl (by kernel_rfl) (by kernel_rfl) (by kernel_rfl) (fun _ _ _ h => h) (by rfl) ?_ (MK.out _ b5) ?_
                  · (intro wq hSw; go_simp <;> with_reducible rfl)
                  try simp only [Act.put, List.setIfInBounds_toArray, List.set_cons_zero, List.set_cons_succ]
                  refine take_run (i := 24) (oi := { dst := some 100, op := Go.Op.pick (Go.Operand.tmp 83) (Go.Operand.const (Go.Value.bool true)) (Go.Operand.tmp 99), type := 4, pos := "law.go:139", after := #[{ on := 7, ground := Go.Ground.data }, { on := 23, ground := Go.Ground.data }], guard := none }) (v := .bool false) rfl (by kernel_rfl) (by kernel_rfl) (by kernel_rfl) (fun _ _ _ h => h) (by rfl) ?_ (MK.out _ b5) ?_
                  · (intro wq hSw; go_simp <;> with_reducible rfl)
                  try simp only [Act.put, List.setIfInBounds_toArray, List.set_cons_zero, List.set_cons_succ]
                  refine take_run (i := 25) (oi := { dst := some 101, op := Go.Op.move (Go.Operand.tmp 100), type := 4, pos := "law.go:139", after := #[{ on := 24, ground := Go.Ground.data }, { on := 16, ground := Go.Ground.chain }], guard := none }) (v := .bool false) rfl (by kernel_rfl) (by kernel_rfl) (by kernel_rfl) (fun _ _ _ h => h) (by rfl) ?_ (MK.out _ b5) ?_
                  · (intro wq hSw; go_simp <;> with_reducible rfl)
                  try simp only [Act.put, List.setIfInBounds_toArray, List.set_cons_zero, List.set_cons_succ]
                  refine take_run (i := 26) (oi := { dst := some 102, op := Go.Op.move (Go.Operand.tmp 14), type := 3, pos := "law.go:139", after := #[{ on := 25, ground := Go.Ground.guard }], guard := some (25, false) }) (v := .int .i64 v) rfl (by kernel_rfl) (by kernel_rfl) (by kernel_rfl) (fun _ _ _ h => h) (by rfl) ?_ (MK.out _ b5) ?_
                  · (intro wq hSw; go_simp <;> with_reducible rfl)
                  try simp only [Act.put, List.setIfInBounds_toArray, List.set_cons_zero, List.set_cons_succ]
                  refine take_run (i := 27) (oi := { dst := some 103, op := Go.Op.move (Go.Operand.tmp 8), type := 39, pos := "law.go:139", after := #[{ on := 25, ground := Go.Ground.guard }], guard := some (25, false) }) (v := .slice (some ⟨B, 0, none⟩) 16 16) rfl (by kernel_rfl) (by kernel_rfl) (by kernel_rfl) (fun _ _ _ h => h) (by rfl) ?_ (MK.out _ b5) ?_
                  · (intro wq hSw; go_simp <;> with_reducible rfl)
                  try simp only [Act.put, List.setIfInBounds_toArray, List.set_cons_zero, List.set_cons_succ]
                  refine take_run (i := 28) (oi := { dst := some 104, op := Go.Op.move (Go.Operand.tmp 13), type := 3, pos := "law.go:139", after := #[{ on := 25, ground := Go.Ground.guard }], guard := some (25, false) }) (v := .int .i64 (m : Int)) rfl (by kernel_rfl) (by kernel_rfl) (by kernel_rfl) (fun _ _ _ h => h) (by rfl) ?_ (MK.out _ b5) ?_
                  · (intro wq hSw; go_simp <;> with_reducible rfl)
                  try simp only [Act.put, List.setIfInBounds_toArray, List.set_cons_zero, List.set_cons_succ]
                  refine take_run (i := 29) (oi := { dst := some 105, op := Go.Op.indexAddr 39 (Go.Operand.tmp 103) (Go.Operand.tmp 104), type := 0, pos := "law.go:139", after := #[{ on := 27, ground := Go.Ground.data }, { on := 28, ground := Go.Ground.data }, { on := 25, ground := Go.Ground.guard }], guard := some (25, false) }) (v := .pointer (some ⟨B, m, none⟩)) rfl (by kernel_rfl) (by kernel_rfl) (by kernel_rfl) (fun _ _ _ h => h) (by rfl) ?_ (MK.out _ b5) ?_
                  · (intro wq hSw; go_simp <;> with_reducible rfl)
                  try simp only [Act.put, List.setIfInBounds_toArray, List.set_cons_zero, List.set_cons_succ]
                  refine take_run (i := 30) (oi := { dst := some 106, op := Go.Op.load 3 (Go.Operand.tmp 105), type := 3, pos := "law.go:139", after := #[{ on := 29, ground := Go.Ground.data }, { on := 25, ground := Go.Ground.guard }], guard := some (25, false) }) (v := .int .i64 u) rfl (by kernel_rfl) (by kernel_rfl) (by kernel_rfl) (fun _ _ _ h => h) (by rfl) ?_ (MK.out _ b5) ?_
                  · (intro wq hSw; have cu := hSw.2.1; have ce := hSw.2.2; go_simp <;> with_reducible rfl)
                  try simp only [Act.put, List.setIfInBounds_toArray, List.set_cons_zero, List.set_cons_succ]
                  refine take_run (i := 31) (oi := { dst := some 107, op := Go.Op.binOp Go.BinOp.eql 3 (Go.Operand.tmp 102) (Go.Operand.tmp 106) 3, type := 4, pos := "law.go:139", after := #[{ on := 26, ground := Go.Ground.data }, { on := 30, ground := Go.Ground.data }, { on := 25, ground := Go.Ground.guard }], guard := some (25, false) }) (v := .bool false) rfl (by kernel_rfl) (by kernel_rfl) (by kernel_rfl) (fun _ _ _ h => h) (by rfl) ?_ (MK.out _ b5) ?_
                  · (intro wq hSw; go_simp <;> with_reducible rfl)
                  try simp only [Act.put, List.setIfInBounds_toArray, List.set_cons_zero, List.set_cons_succ]
                  refine take_run (i := 32) (oi := { dst := some 108, op := Go.Op.move (Go.Operand.tmp 107), type := 4, pos := "law.go:139", after := #[{ on := 31, ground := Go.Ground.data }, { on := 25, ground := Go.Ground.chain }, { on := 25, ground := Go.Ground.guard }], guard := some (25, false) }) (v := .bool false) rfl (by kernel_rfl) (by kernel_rfl) (by kernel_rfl) (fun _ _ _ h => h) (by rfl) ?_ (MK.out _ b5) ?_
                  · (intro wq hSw; go_simp <;> with_reducible rfl)
                  try simp only [Act.put, List.setIfInBounds_toArray, List.set_cons_zero, List.set_cons_succ]
                  refine wpAnyH_take (i := 33) (oi := { dst := some 109, op := Go.Op.move (Go.Operand.tmp 5), type := 23, pos := "law.go:139", after := #[{ on := 32, ground := Go.Ground.guard }], guard := some (32, true) }) (v := undef) rfl (by kernel_rfl) (by kernel_rfl) (by kernel_rfl) (fun _ _ _ h => h) (.inr ⟨by rfl, rfl⟩) (MK.out _ b5) ?_
                  try simp only [Act.put, List.setIfInBounds_toArray, List.set_cons_zero, List.set_cons_succ]
                  refine wpAnyH_take (i := 34) (oi := { dst := some 110, op := Go.Op.move (Go.Operand.tmp 13), type := 3, pos := "law.go:139", after := #[{ on := 32, ground := Go.Ground.guard }], guard := some (32, true) }) (v := undef) rfl (by kernel_rfl) (by kernel_rfl) (by kernel_rfl) (fun _ _ _ h => h) (.inr ⟨by rfl, rfl⟩) (MK.out _ b5) ?_
                  try simp only [Act.put, List.setIfInBounds_toArray, List.set_cons_zero, List.set_cons_succ]
                  refine wpAnyH_take (i := 36) (oi := { dst := some 112, op := Go.Op.move (Go.Operand.tmp 9), type := 40, pos := "law.go:139", after := #[{ on := 32, ground := Go.Ground.guard }], guard := some (32, true) }) (v := undef) rfl (by kernel_rfl) (by kernel_rfl) (by kernel_rfl) (fun _ _ _ h => h) (.inr ⟨by rfl, rfl⟩) (MK.out _ b5) ?_
                  try simp only [Act.put, List.setIfInBounds_toArray, List.set_cons_zero, List.set_cons_succ]
                  refine wpAnyH_take (i := 37) (oi := { dst := some 113, op := Go.Op.move (Go.Operand.tmp 13), type := 3, pos := "law.go:139", after := #[{ on := 32, ground := Go.Ground.guard }], guard := some (32, true) }) (v := undef) rfl (by kernel_rfl) (by kernel_rfl) (by kernel_rfl) (fun _ _ _ h => h) (.inr ⟨by rfl, rfl⟩) (MK.out _ b5) ?_
                  try simp only [Act.put, List.setIfInBounds_toArray, List.set_cons_zero, List.set_cons_succ]
                  refine wpAnyH_take (i := 38) (oi := { dst := some 114, op := Go.Op.indexAddr 40 (Go.Operand.tmp 112) (Go.Operand.tmp 113), type := 0, pos := "law.go:139", after := #[{ on := 36, ground := Go.Ground.data }, { on := 37, ground := Go.Ground.data }, { on := 32, ground := Go.Ground.guard }], guard := some (32, true) }) (v := undef) rfl (by kernel_rfl) (by kernel_rfl) (by kernel_rfl) (fun _ _ _ h => h) (.inr ⟨by rfl, rfl⟩) (MK.out _ b5) ?_
                  try simp only [Act.put, List.setIfInBounds_toArray, List.set_cons_zero, List.set_cons_succ]
                  refine wpAnyH_take (i := 39) (oi := { dst := some 115, op := Go.Op.load 2 (Go.Operand.tmp 114), type := 2, pos := "law.go:139", after := #[{ on := 38, ground := Go.Ground.data }, { on := 32, ground := Go.Ground.guard }], guard := some (32, true) }) (v := undef) rfl (by kernel_rfl) (by kernel_rfl) (by kernel_rfl) (fun _ _ _ h => h) (.inr ⟨by rfl, rfl⟩) (MK.out _ b5) ?_
                  try simp only [Act.put, List.setIfInBounds_toArray, List.set_cons_zero, List.set_cons_succ]
                  refine take_skip (i := 35) (oi := { dst := some 111, op := Go.Op.call { callee := Go.Callee.value (Go.Operand.func 22), args := #[Go.Operand.tmp 109, Go.Operand.tmp 110], argTypes := #[23, 3] }, type := 2, pos := "law.go:139", after := #[{ on := 33, ground := Go.Ground.data }, { on := 34, ground := Go.Ground.data }, { on := 32, ground := Go.Ground.chain }, { on := 32, ground := Go.Ground.guard }], guard := some (32, true) }) rfl (by kernel_rfl) (by rfl) (MK.out _ b5) ?_
                  try simp only [Act.put, List.setIfInBounds_toArray, List.set_cons_zero, List.set_cons_succ]
                  refine wpAnyH_take (i := 40) (oi := { dst := some 116, op := Go.Op.binOp Go.BinOp.neq 2 (Go.Operand.tmp 111) (Go.Operand.tmp 115) 2, type := 4, pos := "law.go:139", after := #[{ on := 35, ground := Go.Ground.data }, { on := 39, ground := Go.Ground.data }, { on := 32, ground := Go.Ground.guard }], guard := some (32, true) }) (v := undef) rfl (by kernel_rfl) (by kernel_rfl) (by kernel_rfl) (fun _ _ _ h => h) (.inr ⟨by rfl, rfl⟩) (MK.out _ b5) ?_
                  try simp only [Act.put, List.setIfInBounds_toArray, List.set_cons_zero, List.set_cons_succ]
                  refine take_run (i := 41) (oi := { dst := some 117, op := Go.Op.pick (Go.Operand.tmp 108) (Go.Operand.tmp 116) (Go.Operand.const (Go.Value.bool false)), type := 4, pos := "law.go:139", after := #[{ on := 32, ground := Go.Ground.data }, { on := 40, ground := Go.Ground.data }, { on := 25, ground := Go.Ground.guard }], guard := some (25, false) }) (v := .bool false) rfl (by kernel_rfl) (by kernel_rfl) (by kernel_rfl) (fun _ _ _ h => h) (by rfl) ?_ (MK.out _ b5) ?_
                  · (intro wq hSw; go_simp <;> with_reducible rfl)
                  try simp only [Act.put, List.setIfInBounds_toArray, List.set_cons_zero, List.set_cons_succ]
                  refine take_run (i := 42) (oi := { dst := some 118, op := Go.Op.pick (Go.Operand.tmp 101) (Go.Operand.const (Go.Value.bool true)) (Go.Operand.tmp 117), type := 4, pos := "law.go:139", after := #[{ on := 25, ground := Go.Ground.data }, { on := 41, ground := Go.Ground.data }], guard := none }) (v := .bool false) rfl (by kernel_rfl) (by kernel_rfl) (by kernel_rfl) (fun _ _ _ h => h) (by rfl) ?_ (MK.out _ b5) ?_
                  · (intro wq hSw; go_simp <;> with_reducible rfl)
                  try simp only [Act.put, List.setIfInBounds_toArray, List.set_cons_zero, List.set_cons_succ]
                  refine wpAnyH_done (by kernel_rfl) ?_ _
                  go_wp2
                  go_roundw
                  case rel => exact ⟨m + 1, by omega, by go_num, ⟨O4.out.1.below b5, O4.out.2.1.below b5, O4.out.2.2.below b5⟩⟩
                  case measure => simp only [intOf]; omega
              · obtain rfl : m = 16 := by omega
                rw [show ((16 : Nat) : Int) = 16 from rfl]
                have HA := audit_any HO.out.1.my.c
                have hone := HO.out.1.my.g.one
                clear hm hm16
                generalize at_ L' 40 = c40 at HA
                by_cases h38 : at_ L' 38 = 0
                · generalize at_ L' 41 = c41 at HA
                  clear hone
                  by_cases hwhy : why = 0
                  · have hw1 : ((why : Int) == 0) = true := by simpa using hwhy
                    by_cases hk2 : 2 ≤ k
                    · have hk2' : decide (2 ≤ k) = true := decide_eq_true hk2
                      by_cases hk3 : k = 3
                      · have hk3' : ((k : Int) != 3) = false := by simpa using hk3
                        go_wp2_with fail
                        refine HA.mono ?_
                        clear HA
                        rintro e w5 ⟨rfl, nq, rfl⟩
                        have O5 : Hid (Ow w (wr.drewN nq) R B (B + 1) L' (N + 1) (fillO L 16) (fillE L 16)) := HO.out.1.below (below_drewN' (Below.refl _ wr) nq)
                        have P5 : Hid (Blk (wr.drewN nq) X #[.int .i64 k, .int .i64 s, .int .i64 t, .int .i64 nn, .int .i64 p] 38 ∧ Blk (wr.drewN nq) Y #[.int .i64 why, .bool wt, .int .i64 n2] 35) := HO.out.2
                        have HM := move_any O5.out.my.c
                        unfold moveV at HM
                        rw [h38] at HM
                        clear HO
                        generalize at_ L' 34 = c34 at HM
                        generalize at_ L' 35 = c35 at HM
                        generalize at_ L' 36 = c36 at HM
                        generalize at_ L' 37 = c37 at HM
                        generalize at_ L' 39 = c39 at HM
                        go_wp2_with fail
                        refine HM.mono ?_
                        clear HM
                        rintro e w6 ⟨rfl, b6⟩
                        have O6 : Hid (Ow w w6 R B (B + 1) L' (N + 1) (fillO L 16) (fillE L 16)) := O5.out.below b6
                        have v0 : w6.cell? ⟨Y, 0, none⟩ = some (.int .i64 why) := (P5.out.2.below b6).cell 0
                        have x0 : w6.cell? ⟨X, 0, none⟩ = some (.int .i64 k) := (P5.out.1.below b6).cell 0
                        have x1 : w6.cell? ⟨X, 1, none⟩ = some (.int .i64 s) := (P5.out.1.below b6).cell 1
                        have x2 : w6.cell? ⟨X, 2, none⟩ = some (.int .i64 t) := (P5.out.1.below b6).cell 2
                        have x3 : w6.cell? ⟨X, 3, none⟩ = some (.int .i64 nn) := (P5.out.1.below b6).cell 3
                        have x4 : w6.cell? ⟨X, 4, none⟩ = some (.int .i64 p) := (P5.out.1.below b6).cell 4
                        clear b6 O5 P5
                        have HF : Hid (∃ L N, MyC w w6 R L N ∧ Ph3 L ∧ at_ L 0 = n ∧ N ≤ 2 * (j + 1)) := ⟨L', N + 1, O6.out.my, O6.out.ph, TT.out.1.1.trans HJ.out.2.2.1, by have := HJ.out; omega⟩
                        have hj100 : j < 100 := HJ.out.2.1
                        clear O6 TT TW
                        go_wp2
                        go_roundw
                        case rel => exact ⟨j + 1, ⟨by have := HJ.out; omega, by omega⟩, by go_num, HF⟩
                        case measure => simp only [intOf]; omega
                      · have hk3' : ((k : Int) != 3) = true := by simpa using hk3
                        go_wp2_with fail
                        refine HA.mono ?_
                        clear HA
                        rintro e w5 ⟨rfl, nq, rfl⟩
                        have O5 : Hid (Ow w (wr.drewN nq) R B (B + 1) L' (N + 1) (fillO L 16) (fillE L 16)) := HO.out.1.below (below_drewN' (Below.refl _ wr) nq)
                        have P5 : Hid (Blk (wr.drewN nq) X #[.int .i64 k, .int .i64 s, .int .i64 t, .int .i64 nn, .int .i64 p] 38 ∧ Blk (wr.drewN nq) Y #[.int .i64 why, .bool wt, .int .i64 n2] 35) := HO.out.2
                        have HM := move_any O5.out.my.c
                        unfold moveV at HM
                        rw [h38] at HM
                        clear HO
                        generalize at_ L' 34 = c34 at HM
                        generalize at_ L' 35 = c35 at HM
                        generalize at_ L' 36 = c36 at HM
                        generalize at_ L' 37 = c37 at HM
                        generalize at_ L' 39 = c39 at HM
                        go_wp2_with fail
                        refine HM.mono ?_
                        clear HM
                        rintro e w6 ⟨rfl, b6⟩
                        have O6 : Hid (Ow w w6 R B (B + 1) L' (N + 1) (fillO L 16) (fillE L 16)) := O5.out.below b6
                        have v0 : w6.cell? ⟨Y, 0, none⟩ = some (.int .i64 why) := (P5.out.2.below b6).cell 0
                        have x0 : w6.cell? ⟨X, 0, none⟩ = some (.int .i64 k) := (P5.out.1.below b6).cell 0
                        have x1 : w6.cell? ⟨X, 1, none⟩ = some (.int .i64 s) := (P5.out.1.below b6).cell 1
                        have x2 : w6.cell? ⟨X, 2, none⟩ = some (.int .i64 t) := (P5.out.1.below b6).cell 2
                        have x3 : w6.cell? ⟨X, 3, none⟩ = some (.int .i64 nn) := (P5.out.1.below b6).cell 3
                        have x4 : w6.cell? ⟨X, 4, none⟩ = some (.int .i64 p) := (P5.out.1.below b6).cell 4
                        clear b6 O5 P5
                        have HX := my_do O6.out.my (by have := HJ.out; omega) k s t nn p
                        have TT2 := turn_doC O6.out.my.g O6.out.ph k s t nn p
                        have e5 := TW.out hwhy hk2 hk3
                        obtain ⟨r, er⟩ : ∃ r, (doC L' k s t nn p).1 = r := ⟨_, rfl⟩
                        rw [er] at HX e5
                        obtain ⟨why2, wt2, n3⟩ := r
                        dsimp only at e5
                        subst e5
                        dsimp only [Rs.v] at HX
                        have T2 : Hid (Turn L' (doC L' k s t nn p).2 ∧ Ph3 (doC L' k s t nn p).2) := TT2
                        clear TT2 er TW
                        go_wp2_with fail
                        refine HX.mono ?_
                        clear HX
                        rintro e w7 ⟨rfl, h7, _⟩
                        have HF : Hid (∃ L N, MyC w w7 R L N ∧ Ph3 L ∧ at_ L 0 = n ∧ N ≤ 2 * (j + 1)) := ⟨_, N + 1 + 1, h7, T2.out.2, T2.out.1.1.trans (TT.out.1.1.trans HJ.out.2.2.1), by have := HJ.out; omega⟩
                        have hj100 : j < 100 := HJ.out.2.1
                        clear h7 O6 TT T2 v0 x0 x1 x2 x3 x4
                        go_wp2
                        go_roundw
                        case rel => exact ⟨j + 1, ⟨by have := HJ.out; omega, by omega⟩, by go_num, HF⟩
                        case measure => simp only [intOf]; omega
                    · have hk2' : decide (2 ≤ k) = false := decide_eq_false hk2
                      go_wp2_with fail
                      refine HA.mono ?_
                      clear HA
                      rintro e w5 ⟨rfl, nq, rfl⟩
                      have O5 : Hid (Ow w (wr.drewN nq) R B (B + 1) L' (N + 1) (fillO L 16) (fillE L 16)) := HO.out.1.below (below_drewN' (Below.refl _ wr) nq)
                      have P5 : Hid (Blk (wr.drewN nq) X #[.int .i64 k, .int .i64 s, .int .i64 t, .int .i64 nn, .int .i64 p] 38 ∧ Blk (wr.drewN nq) Y #[.int .i64 why, .bool wt, .int .i64 n2] 35) := HO.out.2
                      have HM := move_any O5.out.my.c
                      unfold moveV at HM
                      rw [h38] at HM
                      clear HO
                      generalize at_ L' 34 = c34 at HM
                      generalize at_ L' 35 = c35 at HM
                      generalize at_ L' 36 = c36 at HM
                      generalize at_ L' 37 = c37 at HM
                      generalize at_ L' 39 = c39 at HM
                      go_wp2_with fail
                      refine HM.mono ?_
                      clear HM
                      rintro e w6 ⟨rfl, b6⟩
                      have O6 : Hid (Ow w w6 R B (B + 1) L' (N + 1) (fillO L 16) (fillE L 16)) := O5.out.below b6
                      have v0 : w6.cell? ⟨Y, 0, none⟩ = some (.int .i64 why) := (P5.out.2.below b6).cell 0
                      have x0 : w6.cell? ⟨X, 0, none⟩ = some (.int .i64 k) := (P5.out.1.below b6).cell 0
                      have x1 : w6.cell? ⟨X, 1, none⟩ = some (.int .i64 s) := (P5.out.1.below b6).cell 1
                      have x2 : w6.cell? ⟨X, 2, none⟩ = some (.int .i64 t) := (P5.out.1.below b6).cell 2
                      have x3 : w6.cell? ⟨X, 3, none⟩ = some (.int .i64 nn) := (P5.out.1.below b6).cell 3
                      have x4 : w6.cell? ⟨X, 4, none⟩ = some (.int .i64 p) := (P5.out.1.below b6).cell 4
                      clear b6 O5 P5
                      have HF : Hid (∃ L N, MyC w w6 R L N ∧ Ph3 L ∧ at_ L 0 = n ∧ N ≤ 2 * (j + 1)) := ⟨L', N + 1, O6.out.my, O6.out.ph, TT.out.1.1.trans HJ.out.2.2.1, by have := HJ.out; omega⟩
                      have hj100 : j < 100 := HJ.out.2.1
                      clear O6 TT TW
                      go_wp2
                      go_roundw
                      case rel => exact ⟨j + 1, ⟨by have := HJ.out; omega, by omega⟩, by go_num, HF⟩
                      case measure => simp only [intOf]; omega
                  · have hw1 : ((why : Int) == 0) = false := by simpa using hwhy
                    go_wp2_with fail
                    refine HA.mono ?_
                    clear HA
                    rintro e w5 ⟨rfl, nq, rfl⟩
                    have O5 : Hid (Ow w (wr.drewN nq) R B (B + 1) L' (N + 1) (fillO L 16) (fillE L 16)) := HO.out.1.below (below_drewN' (Below.refl _ wr) nq)
                    have P5 : Hid (Blk (wr.drewN nq) X #[.int .i64 k, .int .i64 s, .int .i64 t, .int .i64 nn, .int .i64 p] 38 ∧ Blk (wr.drewN nq) Y #[.int .i64 why, .bool wt, .int .i64 n2] 35) := HO.out.2
                    have HM := move_any O5.out.my.c
                    unfold moveV at HM
                    rw [h38] at HM
                    clear HO
                    generalize at_ L' 34 = c34 at HM
                    generalize at_ L' 35 = c35 at HM
                    generalize at_ L' 36 = c36 at HM
                    generalize at_ L' 37 = c37 at HM
                    generalize at_ L' 39 = c39 at HM
                    go_wp2_with fail
                    refine HM.mono ?_
                    clear HM
                    rintro e w6 ⟨rfl, b6⟩
                    have O6 : Hid (Ow w w6 R B (B + 1) L' (N + 1) (fillO L 16) (fillE L 16)) := O5.out.below b6
                    have v0 : w6.cell? ⟨Y, 0, none⟩ = some (.int .i64 why) := (P5.out.2.below b6).cell 0
                    have x0 : w6.cell? ⟨X, 0, none⟩ = some (.int .i64 k) := (P5.out.1.below b6).cell 0
                    have x1 : w6.cell? ⟨X, 1, none⟩ = some (.int .i64 s) := (P5.out.1.below b6).cell 1
                    have x2 : w6.cell? ⟨X, 2, none⟩ = some (.int .i64 t) := (P5.out.1.below b6).cell 2
                    have x3 : w6.cell? ⟨X, 3, none⟩ = some (.int .i64 nn) := (P5.out.1.below b6).cell 3
                    have x4 : w6.cell? ⟨X, 4, none⟩ = some (.int .i64 p) := (P5.out.1.below b6).cell 4
                    clear b6 O5 P5
                    have HF : Hid (∃ L N, MyC w w6 R L N ∧ Ph3 L ∧ at_ L 0 = n ∧ N ≤ 2 * (j + 1)) := ⟨L', N + 1, O6.out.my, O6.out.ph, TT.out.1.1.trans HJ.out.2.2.1, by have := HJ.out; omega⟩
                    have hj100 : j < 100 := HJ.out.2.1
                    clear O6 TT TW
                    go_wp2
                    go_roundw
                    case rel => exact ⟨j + 1, ⟨by have := HJ.out; omega, by omega⟩, by go_num, HF⟩
                    case measure => simp only [intOf]; omega
                · rw [show at_ L' 41 = 0 by omega] at HA
                  clear hone
                  obtain ⟨c38, ec38⟩ : ∃ x, at_ L' 38 = x := ⟨_, rfl⟩
                  rw [ec38] at h38
                  by_cases hwhy : why = 0
                  · have hw1 : ((why : Int) == 0) = true := by simpa using hwhy
                    by_cases hk2 : 2 ≤ k
                    · have hk2' : decide (2 ≤ k) = true := decide_eq_true hk2
                      by_cases hk3 : k = 3
                      · have hk3' : ((k : Int) != 3) = false := by simpa using hk3
                        go_wp2_with fail
                        refine HA.mono ?_
                        clear HA
                        rintro e w5 ⟨rfl, nq, rfl⟩
                        have O5 : Hid (Ow w (wr.drewN nq) R B (B + 1) L' (N + 1) (fillO L 16) (fillE L 16)) := HO.out.1.below (below_drewN' (Below.refl _ wr) nq)
                        have P5 : Hid (Blk (wr.drewN nq) X #[.int .i64 k, .int .i64 s, .int .i64 t, .int .i64 nn, .int .i64 p] 38 ∧ Blk (wr.drewN nq) Y #[.int .i64 why, .bool wt, .int .i64 n2] 35) := HO.out.2
                        have HM := move_any O5.out.my.c
                        unfold moveV at HM
                        rw [ec38] at HM
                        have hc : ((c38 : Int) != 0) = true := by simpa using h38
                        clear HO
                        generalize at_ L' 34 = c34 at HM
                        generalize at_ L' 35 = c35 at HM
                        generalize at_ L' 36 = c36 at HM
                        generalize at_ L' 37 = c37 at HM
                        generalize at_ L' 39 = c39 at HM
                        go_wp2_with fail
                        refine HM.mono ?_
                        clear HM
                        rintro e w6 ⟨rfl, b6⟩
                        have O6 : Hid (Ow w w6 R B (B + 1) L' (N + 1) (fillO L 16) (fillE L 16)) := O5.out.below b6
                        have v0 : w6.cell? ⟨Y, 0, none⟩ = some (.int .i64 why) := (P5.out.2.below b6).cell 0
                        have x0 : w6.cell? ⟨X, 0, none⟩ = some (.int .i64 k) := (P5.out.1.below b6).cell 0
                        have x1 : w6.cell? ⟨X, 1, none⟩ = some (.int .i64 s) := (P5.out.1.below b6).cell 1
                        have x2 : w6.cell? ⟨X, 2, none⟩ = some (.int .i64 t) := (P5.out.1.below b6).cell 2
                        have x3 : w6.cell? ⟨X, 3, none⟩ = some (.int .i64 nn) := (P5.out.1.below b6).cell 3
                        have x4 : w6.cell? ⟨X, 4, none⟩ = some (.int .i64 p) := (P5.out.1.below b6).cell 4
                        clear b6 O5 P5
                        have HF : Hid (∃ L N, MyC w w6 R L N ∧ Ph3 L ∧ at_ L 0 = n ∧ N ≤ 2 * (j + 1)) := ⟨L', N + 1, O6.out.my, O6.out.ph, TT.out.1.1.trans HJ.out.2.2.1, by have := HJ.out; omega⟩
                        have hj100 : j < 100 := HJ.out.2.1
                        clear O6 TT TW
                        go_wp2
                        go_roundw
                        case rel => exact ⟨j + 1, ⟨by have := HJ.out; omega, by omega⟩, by go_num, HF⟩
                        case measure => simp only [intOf]; omega
                      · have hk3' : ((k : Int) != 3) = true := by simpa using hk3
                        go_wp2_with fail
                        refine HA.mono ?_
                        clear HA
                        rintro e w5 ⟨rfl, nq, rfl⟩
                        have O5 : Hid (Ow w (wr.drewN nq) R B (B + 1) L' (N + 1) (fillO L 16) (fillE L 16)) := HO.out.1.below (below_drewN' (Below.refl _ wr) nq)
                        have P5 : Hid (Blk (wr.drewN nq) X #[.int .i64 k, .int .i64 s, .int .i64 t, .int .i64 nn, .int .i64 p] 38 ∧ Blk (wr.drewN nq) Y #[.int .i64 why, .bool wt, .int .i64 n2] 35) := HO.out.2
                        have HM := move_any O5.out.my.c
                        unfold moveV at HM
                        rw [ec38] at HM
                        have hc : ((c38 : Int) != 0) = true := by simpa using h38
                        clear HO
                        generalize at_ L' 34 = c34 at HM
                        generalize at_ L' 35 = c35 at HM
                        generalize at_ L' 36 = c36 at HM
                        generalize at_ L' 37 = c37 at HM
                        generalize at_ L' 39 = c39 at HM
                        go_wp2_with fail
                        refine HM.mono ?_
                        clear HM
                        rintro e w6 ⟨rfl, b6⟩
                        have O6 : Hid (Ow w w6 R B (B + 1) L' (N + 1) (fillO L 16) (fillE L 16)) := O5.out.below b6
                        have v0 : w6.cell? ⟨Y, 0, none⟩ = some (.int .i64 why) := (P5.out.2.below b6).cell 0
                        have x0 : w6.cell? ⟨X, 0, none⟩ = some (.int .i64 k) := (P5.out.1.below b6).cell 0
                        have x1 : w6.cell? ⟨X, 1, none⟩ = some (.int .i64 s) := (P5.out.1.below b6).cell 1
                        have x2 : w6.cell? ⟨X, 2, none⟩ = some (.int .i64 t) := (P5.out.1.below b6).cell 2
                        have x3 : w6.cell? ⟨X, 3, none⟩ = some (.int .i64 nn) := (P5.out.1.below b6).cell 3
                        have x4 : w6.cell? ⟨X, 4, none⟩ = some (.int .i64 p) := (P5.out.1.below b6).cell 4
                        clear b6 O5 P5
                        have HX := my_do O6.out.my (by have := HJ.out; omega) k s t nn p
                        have TT2 := turn_doC O6.out.my.g O6.out.ph k s t nn p
                        have e5 := TW.out hwhy hk2 hk3
                        obtain ⟨r, er⟩ : ∃ r, (doC L' k s t nn p).1 = r := ⟨_, rfl⟩
                        rw [er] at HX e5
                        obtain ⟨why2, wt2, n3⟩ := r
                        dsimp only at e5
                        subst e5
                        dsimp only [Rs.v] at HX
                        have T2 : Hid (Turn L' (doC L' k s t nn p).2 ∧ Ph3 (doC L' k s t nn p).2) := TT2
                        clear TT2 er TW
                        go_wp2_with fail
                        refine HX.mono ?_
                        clear HX
                        rintro e w7 ⟨rfl, h7, _⟩
                        have HF : Hid (∃ L N, MyC w w7 R L N ∧ Ph3 L ∧ at_ L 0 = n ∧ N ≤ 2 * (j + 1)) := ⟨_, N + 1 + 1, h7, T2.out.2, T2.out.1.1.trans (TT.out.1.1.trans HJ.out.2.2.1), by have := HJ.out; omega⟩
                        have hj100 : j < 100 := HJ.out.2.1
                        clear h7 O6 TT T2 v0 x0 x1 x2 x3 x4
                        go_wp2
                        go_roundw
                        case rel => exact ⟨j + 1, ⟨by have := HJ.out; omega, by omega⟩, by go_num, HF⟩
                        case measure => simp only [intOf]; omega
                    · have hk2' : decide (2 ≤ k) = false := decide_eq_false hk2
                      go_wp2_with fail
                      refine HA.mono ?_
                      clear HA
                      rintro e w5 ⟨rfl, nq, rfl⟩
                      have O5 : Hid (Ow w (wr.drewN nq) R B (B + 1) L' (N + 1) (fillO L 16) (fillE L 16)) := HO.out.1.below (below_drewN' (Below.refl _ wr) nq)
                      have P5 : Hid (Blk (wr.drewN nq) X #[.int .i64 k, .int .i64 s, .int .i64 t, .int .i64 nn, .int .i64 p] 38 ∧ Blk (wr.drewN nq) Y #[.int .i64 why, .bool wt, .int .i64 n2] 35) := HO.out.2
                      have HM := move_any O5.out.my.c
                      unfold moveV at HM
                      rw [ec38] at HM
                      have hc : ((c38 : Int) != 0) = true := by simpa using h38
                      clear HO
                      generalize at_ L' 34 = c34 at HM
                      generalize at_ L' 35 = c35 at HM
                      generalize at_ L' 36 = c36 at HM
                      generalize at_ L' 37 = c37 at HM
                      generalize at_ L' 39 = c39 at HM
                      go_wp2_with fail
                      refine HM.mono ?_
                      clear HM
                      rintro e w6 ⟨rfl, b6⟩
                      have O6 : Hid (Ow w w6 R B (B + 1) L' (N + 1) (fillO L 16) (fillE L 16)) := O5.out.below b6
                      have v0 : w6.cell? ⟨Y, 0, none⟩ = some (.int .i64 why) := (P5.out.2.below b6).cell 0
                      have x0 : w6.cell? ⟨X, 0, none⟩ = some (.int .i64 k) := (P5.out.1.below b6).cell 0
                      have x1 : w6.cell? ⟨X, 1, none⟩ = some (.int .i64 s) := (P5.out.1.below b6).cell 1
                      have x2 : w6.cell? ⟨X, 2, none⟩ = some (.int .i64 t) := (P5.out.1.below b6).cell 2
                      have x3 : w6.cell? ⟨X, 3, none⟩ = some (.int .i64 nn) := (P5.out.1.below b6).cell 3
                      have x4 : w6.cell? ⟨X, 4, none⟩ = some (.int .i64 p) := (P5.out.1.below b6).cell 4
                      clear b6 O5 P5
                      have HF : Hid (∃ L N, MyC w w6 R L N ∧ Ph3 L ∧ at_ L 0 = n ∧ N ≤ 2 * (j + 1)) := ⟨L', N + 1, O6.out.my, O6.out.ph, TT.out.1.1.trans HJ.out.2.2.1, by have := HJ.out; omega⟩
                      have hj100 : j < 100 := HJ.out.2.1
                      clear O6 TT TW
                      go_wp2
                      go_roundw
                      case rel => exact ⟨j + 1, ⟨by have := HJ.out; omega, by omega⟩, by go_num, HF⟩
                      case measure => simp only [intOf]; omega
                  · have hw1 : ((why : Int) == 0) = false := by simpa using hwhy
                    go_wp2_with fail
                    refine HA.mono ?_
                    clear HA
                    rintro e w5 ⟨rfl, nq, rfl⟩
                    have O5 : Hid (Ow w (wr.drewN nq) R B (B + 1) L' (N + 1) (fillO L 16) (fillE L 16)) := HO.out.1.below (below_drewN' (Below.refl _ wr) nq)
                    have P5 : Hid (Blk (wr.drewN nq) X #[.int .i64 k, .int .i64 s, .int .i64 t, .int .i64 nn, .int .i64 p] 38 ∧ Blk (wr.drewN nq) Y #[.int .i64 why, .bool wt, .int .i64 n2] 35) := HO.out.2
                    have HM := move_any O5.out.my.c
                    unfold moveV at HM
                    rw [ec38] at HM
                    have hc : ((c38 : Int) != 0) = true := by simpa using h38
                    clear HO
                    generalize at_ L' 34 = c34 at HM
                    generalize at_ L' 35 = c35 at HM
                    generalize at_ L' 36 = c36 at HM
                    generalize at_ L' 37 = c37 at HM
                    generalize at_ L' 39 = c39 at HM
                    go_wp2_with fail
                    refine HM.mono ?_
                    clear HM
                    rintro e w6 ⟨rfl, b6⟩
                    have O6 : Hid (Ow w w6 R B (B + 1) L' (N + 1) (fillO L 16) (fillE L 16)) := O5.out.below b6
                    have v0 : w6.cell? ⟨Y, 0, none⟩ = some (.int .i64 why) := (P5.out.2.below b6).cell 0
                    have x0 : w6.cell? ⟨X, 0, none⟩ = some (.int .i64 k) := (P5.out.1.below b6).cell 0
                    have x1 : w6.cell? ⟨X, 1, none⟩ = some (.int .i64 s) := (P5.out.1.below b6).cell 1
                    have x2 : w6.cell? ⟨X, 2, none⟩ = some (.int .i64 t) := (P5.out.1.below b6).cell 2
                    have x3 : w6.cell? ⟨X, 3, none⟩ = some (.int .i64 nn) := (P5.out.1.below b6).cell 3
                    have x4 : w6.cell? ⟨X, 4, none⟩ = some (.int .i64 p) := (P5.out.1.below b6).cell 4
                    clear b6 O5 P5
                    have HF : Hid (∃ L N, MyC w w6 R L N ∧ Ph3 L ∧ at_ L 0 = n ∧ N ≤ 2 * (j + 1)) := ⟨L', N + 1, O6.out.my, O6.out.ph, TT.out.1.1.trans HJ.out.2.2.1, by have := HJ.out; omega⟩
                    have hj100 : j < 100 := HJ.out.2.1
                    clear O6 TT TW
                    go_wp2
                    go_roundw
                    case rel => exact ⟨j + 1, ⟨by have := HJ.out; omega, by omega⟩, by go_num, HF⟩
                    case measure => simp only [intOf]; omega
      · obtain rfl : j = 100 := by omega
        rw [show ((100 : Nat) : Int) = 100 from rfl]
        have q0 : decide ((100 : Int) < (len : Int)) = true := decide_eq_true (by omega)
        have q1 : (100 : Int) < (len : Int) := by omega
        have H4 : Hid (Below w.heap.size w wr) := by obtain ⟨L, N, hm, _⟩ := HH.out; exact hm.b
        have HK := knownC_any wr
        clear HH hj
        go_wp2_with fail
        refine HK.mono ?_
        rintro e w2 ⟨rfl, b2⟩
        go_wp2
        go_ret
        exact ⟨rfl, H4.out.trans (b2.mono H4.out.size)⟩
    · obtain rfl : j = len := by omega
      have H4 : Hid (Below w.heap.size w wr) := by obtain ⟨L, N, hm, _⟩ := HH.out; exact hm.b
      have HK := knownC_any wr
      clear HH hj
      go_wp2_with fail
      refine HK.mono ?_
      rintro e w2 ⟨rfl, b2⟩
      go_wp2
      go_ret
      exact ⟨rfl, H4.out.trans (b2.mono H4.out.size)⟩
theorem chartOwners_any (n : Int) (a : Option Addr) (len cap : Nat) (os : List CmdC) (w : World) (hC : CmdsC w a len os) (hlm : len ≤ maxLen) : Calls Try.prog 5 #[.int .i64 n, .slice a len cap] w fun e w' => e = .returned (.bool true) ∧ Below w.heap.size w w' := by
  by_cases h : 1 ≤ n ∧ n ≤ 3
  · exact chartOwners_ok n h a len cap os w hC hlm
  · exact chartOwners_no n h _ w
end Go.Proofs.Ytpdgmlljjjeifaa
