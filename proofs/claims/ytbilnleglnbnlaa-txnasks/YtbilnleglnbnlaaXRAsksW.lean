/- The reference's Asks, walked. -/
import Derived.Test.YtbilnleglnbnlaaXRAsks
import Derived.Test.YtbilnleglnbnlaaXOut
namespace Go.Proofs.Ytbilnleglnbnlaa
open Go.RowKit
attribute [local go_sem] Oper.semAt_some
set_option linter.unusedVariables false

theorem RI.setRow {w0 w : World} {v : Value} {L : List AskV} (h : RI w0 w v L) {B : Nat} {cs : Array Value} {t : TypeId} (hB : w.heap[B]? = some (.cells cs t (0, 0))) (ht : t ≠ 30) (hb : w0.heap.size ≤ B) (cs' : Array Value) : RI w0 (w.setRow B cs') v L := by
  refine ⟨below_rowX h.b hb _, owns_kept h.row fun g e => setRow_other _ _ _ _ fun q => ?_⟩
  obtain ⟨_, _, cur, hc⟩ := row_kind h.row e
  rw [q, hB] at hc
  injection hc with hc
  injection hc with _ hc
  exact ht hc
theorem build_askR (g : Int) (c0 c1 c2 c3 c4 c5 c6 c7 c8 c9 c10 c11 c12 c13 c14 c15 c16 : Value) (X : World) : (Instr.build 30 #[(0, .int .i64 g), (1, .agg #[c0, c1, c2, c3, c4, c5, c6, c7, c8, c9, c10, c11, c12, c13, c14, c15, c16])]).run Try.prog X = .ok (.agg #[.int .i64 g, c0, c1, c2, c3, c4, c5, c6, c7, c8, c9, c10, c11, c12, c13, c14, c15, c16]) X := by kernel_rfl
theorem upto_small (me : Int) (g : Nat) : upto me (g + 1) = if ((g + 1 : Nat) : Int) = me then upto me g else upto me g ++ [((g + 1 : Nat) : Int)] := rfl
theorem exec_slice1 {a : Act} {o : Oper} {x : Operand} {c0 c1 c2 c3 c4 c5 c6 c7 c8 c9 c10 c11 c12 c13 c14 c15 c16 c17 : Value} (w : World) (ho : o.op = .buildSlice 43 1 #[(0, x)]) (hx : a.eval x = .agg #[c0, c1, c2, c3, c4, c5, c6, c7, c8, c9, c10, c11, c12, c13, c14, c15, c16, c17]) : (execOp a.eval o).run Try.prog w = .ok (.value (.slice (some ⟨w.heap.size, 0, none⟩) 1 1)) (w.alloc (.cells #[c0, c1, c2, c3, c4, c5, c6, c7, c8, c9, c10, c11, c12, c13, c14, c15, c16, c17] 30)) := by
  unfold execOp
  simp only [ho, List.map_toArray, List.map_cons, List.map_nil, hx]
  kernel_rfl
theorem wpList_valX {P : Program} {w w' : World} {ops : Array Oper} {rest : List Oper} {o : Oper} {a : Act} {Q : Exit → Act → World → Prop} (v : Value) (hgd : o.guard = none) (hx : (execOp a.eval o).run P w = .ok (.value v) w') (h : wpList P ops Q rest (a.put o.dst v) w') : wpList P ops Q (o :: rest) a w :=
  wpList_plain hgd fun K hK => by
    unfold Oper.wp
    rw [hx, Oper.upon_value]
    exact hK _ _ h
theorem want_false (id fr ky to : ByteArray) (n why g : Int) : AskV.cells (g, wantC ⟨id, fr, ky, to, n, false, why⟩) = .int .i64 g :: [.int .i64 2, .int .i64 0, .string ⟨#[]⟩, .string ⟨#[]⟩, .int .i64 0, .string ⟨#[]⟩, .int .i64 0, .int .i64 0, .string id, .string to, .int .i64 n, .int .i64 0, .int .i64 0, .int .i64 0, .int .i64 0, .bool false, .slice none 0 0] := rfl
theorem want_zero (id fr ky to : ByteArray) (n why g : Int) (h : why = 0) : AskV.cells (g, wantC ⟨id, fr, ky, to, n, true, why⟩) = .int .i64 g :: [.int .i64 4, .int .i64 0, .string ⟨#[]⟩, .string ⟨#[]⟩, .int .i64 0, .string ⟨#[]⟩, .int .i64 0, .int .i64 0, .string id, .string to, .int .i64 0, .int .i64 0, .int .i64 0, .int .i64 0, .int .i64 0, .bool false, .slice none 0 0] := by subst h; rfl
theorem want_some (id fr ky to : ByteArray) (n why g : Int) (h : why ≠ 0) : AskV.cells (g, wantC ⟨id, fr, ky, to, n, true, why⟩) = .int .i64 g :: [.int .i64 4, .int .i64 0, .string ⟨#[]⟩, .string ⟨#[]⟩, .int .i64 0, .string ⟨#[]⟩, .int .i64 0, .int .i64 0, .string id, .string to, .int .i64 0, .int .i64 50, .int .i64 0, .int .i64 0, .int .i64 0, .bool false, .slice none 0 0] := by
  simp [AskV.cells, wantC, lesser, h, CmdV.cells, CmdV.zero, noText]
set_option maxRecDepth 100000 in
set_option maxHeartbeats 4000000 in
theorem rasks_any (me sh : Int) (a : Option Addr) (len cap : Nat) (ts : List TxnD) (w : World) (h : RecsAt TxnD.cells 7 w a len ts) (hm : len ≤ 200) :
    Calls Try.prog 6 #[.int .i64 me, .int .i64 sh, .slice a len cap] w fun e w' => ∃ v, e = .returned v ∧ w'.ownsRow w.heap.size 30 18 v (asksL me sh ts).length (flat AskV.cells (asksL me sh ts)) ∧ Below w.heap.size w w' := by
  have HR : Hid (RecsAt TxnD.cells 7 w a len ts) := h
  have hlen : len = ts.length := h.1
  clear h
  by_cases h1 : sh < 1
  · have e0 : asksL me sh ts = [] := by
      have : othersL me sh = [] := by
        unfold othersL
        rw [if_neg (by omega), show sh.toNat = 0 by omega]
        rfl
      unfold asksL
      rw [this]
      simp
    rw [e0]
    clear HR hlen hm
    go_enter Try.func6, Try.ntmps6
    go_wp2
    go_ret
    exact ⟨_, rfl, World.ownsRow_nil _ _ _ _, Below.refl _ _⟩
  · by_cases h3 : 3 < sh
    · have e0 : asksL me sh ts = [] := by
        have : othersL me sh = [] := by
          unfold othersL
          rw [if_pos h3]
        unfold asksL
        rw [this]
        simp
      rw [e0]
      clear HR hlen hm
      go_enter Try.func6, Try.ntmps6
      go_wp2
      go_ret
      exact ⟨_, rfl, World.ownsRow_nil _ _ _ _, Below.refl _ _⟩
    · obtain ⟨S, rfl⟩ : ∃ S : Nat, sh = (S : Int) := ⟨sh.toNat, by omega⟩
      have hS1 : 1 ≤ S := by omega
      have hS3 : S ≤ 3 := by omega
      have OT : Hid (othersL me (S : Int) = upto me S) := by
        show othersL me (S : Int) = _
        unfold othersL
        rw [if_neg (by omega), Int.toNat_natCast]
      have HL : Hid (len = ts.length ∧ len ≤ 200) := ⟨hlen, hm⟩
      have hc1 : ¬ (S : Int) < 1 := by omega
      have hc3 : ¬ 3 < (S : Int) := by omega
      clear h1 h3 hlen hm
      go_enter Try.func6, Try.ntmps6
      go_wp2_with fail
      go_loopw [7, 8] (fun v y wr => ∃ i : Nat, i ≤ len ∧ y = .int .i64 i ∧ Hid (RI w wr v (asksL me S (ts.take i)))) (fun _ y _ => len - (intOf y).toNat)
      case atStart => exact ⟨0, Nat.zero_le _, rfl, Below.refl _ _, World.ownsRow_nil _ _ _ _⟩
      case round =>
        obtain ⟨i, hi, rfl, hI⟩ := hrel
        by_cases hin : i < len
        · have hil : i < ts.length := by have := HL.out.1; omega
          obtain ⟨b, off, rfl, hc⟩ := RecsAt.at HR.out hil
          have lgb : b < w.heap.size := World.block_lt_of_cell? w _ (hc 0 _ rfl)
          have TK : Hid (ts.take (i + 1) = ts.take i ++ [ts[i]]) := by
            exact List.take_succ_eq_append_getElem hil
          generalize ts[i] = T at hc TK
          obtain ⟨id, fr, ky, to, n, done, why⟩ := T
          have RG : Hid (wr.rangeAt b (off + i * 7) [.string id, .string fr, .string ky, .string to, .int .i64 n, .bool done, .int .i64 why]) := fun j v hv => (hI.out.b.cell (p := ⟨b, off + i * 7 + j, none⟩) lgb).trans (hc j v hv)
          have b9 : Below wr.heap.size wr (wr.alloc (.cells #[.string id, .string fr, .string ky, .string to, .int .i64 n, .bool done, .int .i64 why] 39)) := (Below.refl _ wr).alloc (Nat.le_refl _) _
          have q9 := heap_alloc_new wr (.cells #[.string id, .string fr, .string ky, .string to, .int .i64 n, .bool done, .int .i64 why] 39)
          obtain ⟨w9, e9⟩ : ∃ w9, wr.alloc (.cells #[.string id, .string fr, .string ky, .string to, .int .i64 n, .bool done, .int .i64 why] 39) = w9 := ⟨_, rfl⟩
          rw [e9] at b9 q9
          obtain ⟨B10, eB⟩ : ∃ B, w9.heap.size = B := ⟨_, rfl⟩
          have ri9 := hI.out.below b9
          have hBw : w.heap.size ≤ w9.heap.size := ri9.b.size
          have bV : Below w9.heap.size w9 (w9.alloc (.cells #[.int .i64 2, .int .i64 0, .string ⟨#[]⟩, .string ⟨#[]⟩, .int .i64 0, .string ⟨#[]⟩, .int .i64 0, .int .i64 0, .string id, .string to, .int .i64 n, .int .i64 0, .int .i64 0, .int .i64 0, .int .i64 0, .bool false, .slice none 0 0] 28)) := (Below.refl _ w9).alloc (Nat.le_refl _) _
          have qV := heap_alloc_new w9 (.cells #[.int .i64 2, .int .i64 0, .string ⟨#[]⟩, .string ⟨#[]⟩, .int .i64 0, .string ⟨#[]⟩, .int .i64 0, .int .i64 0, .string id, .string to, .int .i64 n, .int .i64 0, .int .i64 0, .int .i64 0, .int .i64 0, .bool false, .slice none 0 0] 28)
          obtain ⟨V, eV⟩ : ∃ V, w9.alloc (.cells #[.int .i64 2, .int .i64 0, .string ⟨#[]⟩, .string ⟨#[]⟩, .int .i64 0, .string ⟨#[]⟩, .int .i64 0, .int .i64 0, .string id, .string to, .int .i64 n, .int .i64 0, .int .i64 0, .int .i64 0, .int .i64 0, .bool false, .slice none 0 0] 28) = V := ⟨_, rfl⟩
          rw [eV] at bV qV
          have qV9 := (bV.block _ (Array.getElem?_eq_some_iff.1 q9).1).trans q9
          have riV := ri9.below bV
          have cd : ∀ o, (w9.alloc o).cell? ⟨wr.heap.size, 5, none⟩ = some (.bool done) := fun o => by simp [World.cell?, Below.heap_alloc _ _ _ (Array.getElem?_eq_some_iff.1 q9).1, q9]
          have ci : V.cell? ⟨wr.heap.size, 0, none⟩ = some (.string id) := by simp [World.cell?, qV9]
          have ct : V.cell? ⟨wr.heap.size, 3, none⟩ = some (.string to) := by simp [World.cell?, qV9]
          have cy : V.cell? ⟨wr.heap.size, 6, none⟩ = some (.int .i64 why) := by simp [World.cell?, qV9]
          have ci9 : w9.cell? ⟨wr.heap.size, 0, none⟩ = some (.string id) := by simp [World.cell?, q9]
          have ct9 : w9.cell? ⟨wr.heap.size, 3, none⟩ = some (.string to) := by simp [World.cell?, q9]
          have cn9 : w9.cell? ⟨wr.heap.size, 4, none⟩ = some (.int .i64 n) := by simp [World.cell?, q9]
          have hii : (i : Int) < (len : Int) := by omega
          have hi2 : i < 200 := by have := HL.out.2; omega
          have HI : Hid (i + 1 ≤ len) := hin
          have RIV0 : Hid (RI w V u7 (asksL me S (ts.take i))) := riV
          rw [eB] at qV hBw
          have EV : Hid (_ = V) := eV
          have QB0 : Hid (V.heap[B10]? = some (.cells #[.int .i64 2, .int .i64 0, .string ⟨#[]⟩, .string ⟨#[]⟩, .int .i64 0, .string ⟨#[]⟩, .int .i64 0, .int .i64 0, .string id, .string to, .int .i64 n, .int .i64 0, .int .i64 0, .int .i64 0, .int .i64 0, .bool false, .slice none 0 0] 28 (0, 0))) := qV
          have HB : Hid (w.heap.size ≤ B10) := hBw
          have NE9 : Hid (wr.heap.size ≠ B10) := by
            have := (Array.getElem?_eq_some_iff.1 q9).1
            show _ ≠ _
            omega
          have Q9V : Hid _ := qV9
          clear hI hil hc lgb b9 q9 ri9 hBw bV qV qV9 riV hin eV
          cases done with
          | false =>
            go_wp2_with (first
              | (refine wpList_load_mid rfl 39 (.tmp 26) rfl b (off + i * 7) rfl [.string id, .string fr, .string ky, .string to, .int .i64 n, .bool false, .int .i64 why] _ RG.out Try.underlying39 rfl (by kernel_rfl) ?_)
              | (refine wpList_buildTo rfl 28 _ rfl (some 34) rfl #[.int .i64 2, .int .i64 0, .string ⟨#[]⟩, .string ⟨#[]⟩, .int .i64 0, .string ⟨#[]⟩, .int .i64 0, .int .i64 0, .string id, .string to, .int .i64 n, .int .i64 0, .int .i64 0, .int .i64 0, .int .i64 0, .bool false, .slice none 0 0] (by kernel_rfl) ?_))
            rw [show _ = V from EV.out]
            have RIV : Hid _ := RIV0
            have QB : Hid (V.heap[B10]? = some (.cells #[.int .i64 2, .int .i64 0, .string ⟨#[]⟩, .string ⟨#[]⟩, .int .i64 0, .string ⟨#[]⟩, .int .i64 0, .int .i64 0, .string id, .string to, .int .i64 n, .int .i64 0, .int .i64 0, .int .i64 0, .int .i64 0, .bool false, .slice none 0 0] 28 (0, 0))) := QB0
            clear RIV0 QB0 HB NE9 Q9V cd ci ct cy ci9 ct9 cn9 RG
            clear e9 EV eB
            go_loopw [7, 11] (fun v y wr => ∃ g : Nat, g ≤ S ∧ y = .int .i64 ((g : Int) + 1) ∧ Hid (RI w wr v (asksL me S (ts.take i) ++ (upto me g).map (askOf ⟨id, fr, ky, to, n, false, why⟩))) ∧ Hid (wr.heap[B10]? = some (.cells #[.int .i64 2, .int .i64 0, .string ⟨#[]⟩, .string ⟨#[]⟩, .int .i64 0, .string ⟨#[]⟩, .int .i64 0, .int .i64 0, .string id, .string to, .int .i64 n, .int .i64 0, .int .i64 0, .int .i64 0, .int .i64 0, .bool false, .slice none 0 0] 28 (0, 0)))) (fun _ y _ => S + 1 - (intOf y).toNat)
            case atStart => exact ⟨0, Nat.zero_le _, rfl, by show RI _ _ _ _; simpa [upto] using RIV.out, QB⟩
            case round =>
              clear RIV QB
              obtain ⟨g, hg, rfl, hI, hQ⟩ := hrel
              by_cases hgS : g < S
              · have hle : (g : Int) + 1 ≤ (S : Int) := by omega
                have HG : Hid (g + 1 ≤ S) := hgS
                by_cases hme : (g : Int) + 1 = me
                · have hm1 : ((g : Int) + 1 != me) = false := by simp [hme]
                  have NX : Hid (RI w wr u7 (asksL me S (ts.take i) ++ (upto me (g + 1)).map (askOf ⟨id, fr, ky, to, n, false, why⟩))) := by
                    show RI _ _ _ _
                    rw [upto_small, if_pos (by omega)]
                    exact hI.out
                  clear hI hgS hg hme
                  go_wp2_with fail
                  go_roundw
                  case rel => exact ⟨g + 1, HG.out, by simp, NX, hQ⟩
                  case measure => have := HG.out; simp only [intOf]; omega
                · have hm1 : ((g : Int) + 1 != me) = true := by simpa using hme
                  have hlL : (asksL me S (ts.take i) ++ (upto me g).map (askOf ⟨id, fr, ky, to, n, false, why⟩)).length ≤ 4000 := by
                    have h1 := asksL_len me S (ts.take i)
                    have h2 := upto_len me g
                    have h3 : (ts.take i).length ≤ i := by simp; omega
                    have h4 := HL.out
                    rw [List.length_append, List.length_map]
                    omega
                  obtain ⟨v2, w2, hrun, hrow, hgr⟩ := run_append_askR wr w.heap.size u7 _ hI.out.row (((g : Int) + 1), wantC ⟨id, fr, ky, to, n, false, why⟩) (by rfl) hlL hI.out.b.size
                  rw [want_false] at hrun hgr
                  have bA : Below wr.heap.size wr (wr.alloc (.cells #[.int .i64 ((g : Int) + 1), .int .i64 2, .int .i64 0, .string ⟨#[]⟩, .string ⟨#[]⟩, .int .i64 0, .string ⟨#[]⟩, .int .i64 0, .int .i64 0, .string id, .string to, .int .i64 n, .int .i64 0, .int .i64 0, .int .i64 0, .int .i64 0, .bool false, .slice none 0 0] 30)) := (Below.refl _ wr).alloc (Nat.le_refl _) _
                  have hrA := owns_kept (w' := wr.alloc (.cells #[.int .i64 ((g : Int) + 1), .int .i64 2, .int .i64 0, .string ⟨#[]⟩, .string ⟨#[]⟩, .int .i64 0, .string ⟨#[]⟩, .int .i64 0, .int .i64 0, .string id, .string to, .int .i64 n, .int .i64 0, .int .i64 0, .int .i64 0, .int .i64 0, .bool false, .slice none 0 0] 30)) hI.out.row fun g e => bA.block g (row_kind hI.out.row e).2.1
                  have bb : Below w.heap.size w w2 := (hI.out.b.trans (bA.mono hI.out.b.size)).grown hgr (Nat.le_trans hI.out.b.size bA.size) (fun j e => (row_kind hI.out.row e).1)
                  have NX : Hid (RI w w2 v2 (asksL me S (ts.take i) ++ (upto me (g + 1)).map (askOf ⟨id, fr, ky, to, n, false, why⟩))) := by
                    show RI _ _ _ _
                    rw [upto_small, if_neg (by omega), List.map_append, ← List.append_assoc]
                    exact ⟨bb, hrow⟩
                  have NQ : Hid (w2.heap[B10]? = some (.cells #[.int .i64 2, .int .i64 0, .string ⟨#[]⟩, .string ⟨#[]⟩, .int .i64 0, .string ⟨#[]⟩, .int .i64 0, .int .i64 0, .string id, .string to, .int .i64 n, .int .i64 0, .int .i64 0, .int .i64 0, .int .i64 0, .bool false, .slice none 0 0] 28 (0, 0))) := grown_box hrA hgr ((bA.block _ (Array.getElem?_eq_some_iff.1 hQ.out).1).trans hQ.out) (by decide)
                  have HRUN : Hid _ := hrun
                  clear hI hgS hg hme hlL hrun hrow hgr bA hrA bb
                  go_wp2_with (first
                    | (refine wpList_load_row rfl 28 (.tmp 10) rfl B10 rfl 28 #[.int .i64 2, .int .i64 0, .string ⟨#[]⟩, .string ⟨#[]⟩, .int .i64 0, .string ⟨#[]⟩, .int .i64 0, .int .i64 0, .string id, .string to, .int .i64 n, .int .i64 0, .int .i64 0, .int .i64 0, .int .i64 0, .bool false, .slice none 0 0] (0, 0) _ hQ.out Try.underlying28 rfl (by kernel_rfl) ?_)
                    | (refine wpList_buildTo rfl 30 _ rfl (some 57) rfl #[.int .i64 ((g : Int) + 1), .int .i64 2, .int .i64 0, .string ⟨#[]⟩, .string ⟨#[]⟩, .int .i64 0, .string ⟨#[]⟩, .int .i64 0, .int .i64 0, .string id, .string to, .int .i64 n, .int .i64 0, .int .i64 0, .int .i64 0, .int .i64 0, .bool false, .slice none 0 0] (by kernel_rfl) ?_)
                    | (refine wpList_valX _ rfl (exec_slice1 (x := .tmp 57) _ rfl rfl) ?_)
                    | (refine wpList_append_known rfl (.tmp 54) (.tmp 58) 43 43 rfl _ _ rfl rfl _ _ HRUN.out ?_))
                  go_roundw
                  case rel => exact ⟨g + 1, HG.out, by simp, NX, NQ⟩
                  case measure => have := HG.out; simp only [intOf]; omega
              · obtain rfl : g = S := by omega
                have hng : ¬ (g : Int) + 1 ≤ (g : Int) := by omega
                have NX : Hid (RI w wr u7 (asksL me g (ts.take (i + 1)))) := by
                  show RI _ _ _ _
                  rw [TK.out, asksL_snoc, OT.out]
                  exact hI.out
                clear hI hQ hgS hg
                go_wp2_with fail
                go_roundw
                case rel => exact ⟨i + 1, HI.out, by go_num, NX⟩
                case measure => have := HI.out; simp only [intOf]; omega
          | true =>
            have HV : Hid ((w9.alloc (.cells #[.int .i64 2, .int .i64 0, .string ⟨#[]⟩, .string ⟨#[]⟩, .int .i64 0, .string ⟨#[]⟩, .int .i64 0, .int .i64 0, .string id, .string to, .int .i64 n, .int .i64 0, .int .i64 0, .int .i64 0, .int .i64 0, .bool false, .slice none 0 0] 28)).heap[B10]? = some (.cells #[.int .i64 2, .int .i64 0, .string ⟨#[]⟩, .string ⟨#[]⟩, .int .i64 0, .string ⟨#[]⟩, .int .i64 0, .int .i64 0, .string id, .string to, .int .i64 n, .int .i64 0, .int .i64 0, .int .i64 0, .int .i64 0, .bool false, .slice none 0 0] 28 (0, 0))) := by rw [EV.out]; exact QB0
            have ri2 := RIV0.out.setRow QB0.out (by decide) HB.out #[.int .i64 4, .int .i64 0, .string ⟨#[]⟩, .string ⟨#[]⟩, .int .i64 0, .string ⟨#[]⟩, .int .i64 0, .int .i64 0, .string id, .string to, .int .i64 0, .int .i64 0, .int .i64 0, .int .i64 0, .int .i64 0, .bool false, .slice none 0 0]
            have q2 := setRow_selfX (cs' := #[.int .i64 4, .int .i64 0, .string ⟨#[]⟩, .string ⟨#[]⟩, .int .i64 0, .string ⟨#[]⟩, .int .i64 0, .int .i64 0, .string id, .string to, .int .i64 0, .int .i64 0, .int .i64 0, .int .i64 0, .int .i64 0, .bool false, .slice none 0 0]) QB0.out
            have q92 := (setRow_other V B10 wr.heap.size #[.int .i64 4, .int .i64 0, .string ⟨#[]⟩, .string ⟨#[]⟩, .int .i64 0, .string ⟨#[]⟩, .int .i64 0, .int .i64 0, .string id, .string to, .int .i64 0, .int .i64 0, .int .i64 0, .int .i64 0, .int .i64 0, .bool false, .slice none 0 0] NE9.out).trans Q9V.out
            obtain ⟨V2, eV2⟩ : ∃ V2, V.setRow B10 #[.int .i64 4, .int .i64 0, .string ⟨#[]⟩, .string ⟨#[]⟩, .int .i64 0, .string ⟨#[]⟩, .int .i64 0, .int .i64 0, .string id, .string to, .int .i64 0, .int .i64 0, .int .i64 0, .int .i64 0, .int .i64 0, .bool false, .slice none 0 0] = V2 := ⟨_, rfl⟩
            rw [eV2] at ri2 q2 q92
            have EV2 : Hid ((w9.alloc (.cells #[.int .i64 2, .int .i64 0, .string ⟨#[]⟩, .string ⟨#[]⟩, .int .i64 0, .string ⟨#[]⟩, .int .i64 0, .int .i64 0, .string id, .string to, .int .i64 n, .int .i64 0, .int .i64 0, .int .i64 0, .int .i64 0, .bool false, .slice none 0 0] 28)).setRow B10 #[.int .i64 4, .int .i64 0, .string ⟨#[]⟩, .string ⟨#[]⟩, .int .i64 0, .string ⟨#[]⟩, .int .i64 0, .int .i64 0, .string id, .string to, .int .i64 0, .int .i64 0, .int .i64 0, .int .i64 0, .int .i64 0, .bool false, .slice none 0 0] = V2) := by rw [EV.out]; exact eV2
            have RI2 : Hid (RI w V2 u7 (asksL me S (ts.take i))) := ri2
            have Q2 : Hid (V2.heap[B10]? = some (.cells #[.int .i64 4, .int .i64 0, .string ⟨#[]⟩, .string ⟨#[]⟩, .int .i64 0, .string ⟨#[]⟩, .int .i64 0, .int .i64 0, .string id, .string to, .int .i64 0, .int .i64 0, .int .i64 0, .int .i64 0, .int .i64 0, .bool false, .slice none 0 0] 28 (0, 0))) := q2
            have cy2 : V2.cell? ⟨wr.heap.size, 6, none⟩ = some (.int .i64 why) := by simp [World.cell?, q92]
            have ciA : ∀ o, (w9.alloc o).cell? ⟨wr.heap.size, 0, none⟩ = some (.string id) := fun o => (World.cell?_alloc_some w9 _ o (by rw [ci9]; rfl)).trans ci9
            have ctA : ∀ o, (w9.alloc o).cell? ⟨wr.heap.size, 3, none⟩ = some (.string to) := fun o => (World.cell?_alloc_some w9 _ o (by rw [ct9]; rfl)).trans ct9
            clear ri2 q2 q92 eV2 RIV0 QB0 Q9V EV ci ct cy
            by_cases hy : why = 0
            · have hyn : (why != 0) = false := by simp [hy]
              have HY : Hid (why = 0) := hy
              clear hy
              go_wp2_with (first
                | (refine wpList_load_mid rfl 39 (.tmp 26) rfl b (off + i * 7) rfl [.string id, .string fr, .string ky, .string to, .int .i64 n, .bool true, .int .i64 why] _ RG.out Try.underlying39 rfl (by kernel_rfl) ?_)
                | (refine wpList_buildTo rfl 28 _ rfl (some 34) rfl #[.int .i64 2, .int .i64 0, .string ⟨#[]⟩, .string ⟨#[]⟩, .int .i64 0, .string ⟨#[]⟩, .int .i64 0, .int .i64 0, .string id, .string to, .int .i64 n, .int .i64 0, .int .i64 0, .int .i64 0, .int .i64 0, .bool false, .slice none 0 0] (by kernel_rfl) ?_)
                | (refine wpList_buildTo rfl 28 _ rfl (some 41) rfl #[.int .i64 4, .int .i64 0, .string ⟨#[]⟩, .string ⟨#[]⟩, .int .i64 0, .string ⟨#[]⟩, .int .i64 0, .int .i64 0, .string id, .string to, .int .i64 0, .int .i64 0, .int .i64 0, .int .i64 0, .int .i64 0, .bool false, .slice none 0 0] (by kernel_rfl) ?_)
                | (refine wpList_store_row rfl 28 (.tmp 10) (.tmp 41) rfl B10 #[.int .i64 4, .int .i64 0, .string ⟨#[]⟩, .string ⟨#[]⟩, .int .i64 0, .string ⟨#[]⟩, .int .i64 0, .int .i64 0, .string id, .string to, .int .i64 0, .int .i64 0, .int .i64 0, .int .i64 0, .int .i64 0, .bool false, .slice none 0 0] rfl rfl 28 _ HV.out (by kernel_rfl) rfl (by simp [Value.oneCell']) ?_; rw [EV2.out]))
              have RIV : Hid _ := RI2
              have QB : Hid (V2.heap[B10]? = some (.cells #[.int .i64 4, .int .i64 0, .string ⟨#[]⟩, .string ⟨#[]⟩, .int .i64 0, .string ⟨#[]⟩, .int .i64 0, .int .i64 0, .string id, .string to, .int .i64 0, .int .i64 0, .int .i64 0, .int .i64 0, .int .i64 0, .bool false, .slice none 0 0] 28 (0, 0))) := Q2
              clear RI2 Q2 HB NE9 cd cy2 ciA ctA ci9 ct9 cn9 RG HV EV2 e9 eB hyn
              go_loopw [7, 11] (fun v y wr => ∃ g : Nat, g ≤ S ∧ y = .int .i64 ((g : Int) + 1) ∧ Hid (RI w wr v (asksL me S (ts.take i) ++ (upto me g).map (askOf ⟨id, fr, ky, to, n, true, why⟩))) ∧ Hid (wr.heap[B10]? = some (.cells #[.int .i64 4, .int .i64 0, .string ⟨#[]⟩, .string ⟨#[]⟩, .int .i64 0, .string ⟨#[]⟩, .int .i64 0, .int .i64 0, .string id, .string to, .int .i64 0, .int .i64 0, .int .i64 0, .int .i64 0, .int .i64 0, .bool false, .slice none 0 0] 28 (0, 0)))) (fun _ y _ => S + 1 - (intOf y).toNat)
              case atStart => exact ⟨0, Nat.zero_le _, rfl, by show RI _ _ _ _; simpa [upto] using RIV.out, QB⟩
              case round =>
                clear RIV QB
                obtain ⟨g, hg, rfl, hI, hQ⟩ := hrel
                by_cases hgS : g < S
                · have hle : (g : Int) + 1 ≤ (S : Int) := by omega
                  have HG : Hid (g + 1 ≤ S) := hgS
                  by_cases hme : (g : Int) + 1 = me
                  · have hm1 : ((g : Int) + 1 != me) = false := by simp [hme]
                    have NX : Hid (RI w wr u7 (asksL me S (ts.take i) ++ (upto me (g + 1)).map (askOf ⟨id, fr, ky, to, n, true, why⟩))) := by
                      show RI _ _ _ _
                      rw [upto_small, if_pos (by omega)]
                      exact hI.out
                    clear hI hgS hg hme
                    go_wp2_with fail
                    go_roundw
                    case rel => exact ⟨g + 1, HG.out, by simp, NX, hQ⟩
                    case measure => have := HG.out; simp only [intOf]; omega
                  · have hm1 : ((g : Int) + 1 != me) = true := by simpa using hme
                    have hlL : (asksL me S (ts.take i) ++ (upto me g).map (askOf ⟨id, fr, ky, to, n, true, why⟩)).length ≤ 4000 := by
                      have h1 := asksL_len me S (ts.take i)
                      have h2 := upto_len me g
                      have h3 : (ts.take i).length ≤ i := by simp; omega
                      have h4 := HL.out
                      rw [List.length_append, List.length_map]
                      omega
                    obtain ⟨v2, w2, hrun, hrow, hgr⟩ := run_append_askR wr w.heap.size u7 _ hI.out.row (((g : Int) + 1), wantC ⟨id, fr, ky, to, n, true, why⟩) (by rfl) hlL hI.out.b.size
                    rw [want_zero _ _ _ _ _ _ _ HY.out] at hrun hgr
                    have bA : Below wr.heap.size wr (wr.alloc (.cells #[.int .i64 ((g : Int) + 1), .int .i64 4, .int .i64 0, .string ⟨#[]⟩, .string ⟨#[]⟩, .int .i64 0, .string ⟨#[]⟩, .int .i64 0, .int .i64 0, .string id, .string to, .int .i64 0, .int .i64 0, .int .i64 0, .int .i64 0, .int .i64 0, .bool false, .slice none 0 0] 30)) := (Below.refl _ wr).alloc (Nat.le_refl _) _
                    have hrA := owns_kept (w' := wr.alloc (.cells #[.int .i64 ((g : Int) + 1), .int .i64 4, .int .i64 0, .string ⟨#[]⟩, .string ⟨#[]⟩, .int .i64 0, .string ⟨#[]⟩, .int .i64 0, .int .i64 0, .string id, .string to, .int .i64 0, .int .i64 0, .int .i64 0, .int .i64 0, .int .i64 0, .bool false, .slice none 0 0] 30)) hI.out.row fun g e => bA.block g (row_kind hI.out.row e).2.1
                    have bb : Below w.heap.size w w2 := (hI.out.b.trans (bA.mono hI.out.b.size)).grown hgr (Nat.le_trans hI.out.b.size bA.size) (fun j e => (row_kind hI.out.row e).1)
                    have NX : Hid (RI w w2 v2 (asksL me S (ts.take i) ++ (upto me (g + 1)).map (askOf ⟨id, fr, ky, to, n, true, why⟩))) := by
                      show RI _ _ _ _
                      rw [upto_small, if_neg (by omega), List.map_append, ← List.append_assoc]
                      exact ⟨bb, hrow⟩
                    have NQ : Hid (w2.heap[B10]? = some (.cells #[.int .i64 4, .int .i64 0, .string ⟨#[]⟩, .string ⟨#[]⟩, .int .i64 0, .string ⟨#[]⟩, .int .i64 0, .int .i64 0, .string id, .string to, .int .i64 0, .int .i64 0, .int .i64 0, .int .i64 0, .int .i64 0, .bool false, .slice none 0 0] 28 (0, 0))) := grown_box hrA hgr ((bA.block _ (Array.getElem?_eq_some_iff.1 hQ.out).1).trans hQ.out) (by decide)
                    have HRUN : Hid _ := hrun
                    clear hI hgS hg hme hlL hrun hrow hgr bA hrA bb
                    go_wp2_with (first
                      | (refine wpList_load_row rfl 28 (.tmp 10) rfl B10 rfl 28 #[.int .i64 4, .int .i64 0, .string ⟨#[]⟩, .string ⟨#[]⟩, .int .i64 0, .string ⟨#[]⟩, .int .i64 0, .int .i64 0, .string id, .string to, .int .i64 0, .int .i64 0, .int .i64 0, .int .i64 0, .int .i64 0, .bool false, .slice none 0 0] (0, 0) _ hQ.out Try.underlying28 rfl (by kernel_rfl) ?_)
                      | (refine wpList_buildTo rfl 30 _ rfl (some 57) rfl #[.int .i64 ((g : Int) + 1), .int .i64 4, .int .i64 0, .string ⟨#[]⟩, .string ⟨#[]⟩, .int .i64 0, .string ⟨#[]⟩, .int .i64 0, .int .i64 0, .string id, .string to, .int .i64 0, .int .i64 0, .int .i64 0, .int .i64 0, .int .i64 0, .bool false, .slice none 0 0] (by kernel_rfl) ?_)
                      | (refine wpList_valX _ rfl (exec_slice1 (x := .tmp 57) _ rfl rfl) ?_)
                      | (refine wpList_append_known rfl (.tmp 54) (.tmp 58) 43 43 rfl _ _ rfl rfl _ _ HRUN.out ?_))
                    go_roundw
                    case rel => exact ⟨g + 1, HG.out, by simp, NX, NQ⟩
                    case measure => have := HG.out; simp only [intOf]; omega
                · obtain rfl : g = S := by omega
                  have hng : ¬ (g : Int) + 1 ≤ (g : Int) := by omega
                  have NX : Hid (RI w wr u7 (asksL me g (ts.take (i + 1)))) := by
                    show RI _ _ _ _
                    rw [TK.out, asksL_snoc, OT.out]
                    exact hI.out
                  clear hI hQ hgS hg
                  go_wp2_with fail
                  go_roundw
                  case rel => exact ⟨i + 1, HI.out, by go_num, NX⟩
                  case measure => have := HI.out; simp only [intOf]; omega
            · have hyn : (why != 0) = true := by simpa using hy
              have ri3 := RI2.out.set Q2.out (by decide) HB.out 11 (.int .i64 50)
              have q3 : (V2.setCell ⟨B10, 11, none⟩ (.int .i64 50)).heap[B10]? = some (.cells #[.int .i64 4, .int .i64 0, .string ⟨#[]⟩, .string ⟨#[]⟩, .int .i64 0, .string ⟨#[]⟩, .int .i64 0, .int .i64 0, .string id, .string to, .int .i64 0, .int .i64 50, .int .i64 0, .int .i64 0, .int .i64 0, .bool false, .slice none 0 0] 28 (0, 0)) := set_of3 Q2.out
              have c11 : V2.cell? ⟨B10, 11, none⟩ = some (.int .i64 0) := by simp [World.cell?, Q2.out]
              have z11 : V2.frozen? ⟨B10, 11, none⟩ = false := by simp [World.frozen?, Q2.out]
              have RIV : Hid _ := ri3
              have QB : Hid _ := q3
              have HY : Hid (why ≠ 0) := hy
              clear ri3 q3 RI2 Q2 hy
              go_wp2_with (first
                | (refine wpList_load_mid rfl 39 (.tmp 26) rfl b (off + i * 7) rfl [.string id, .string fr, .string ky, .string to, .int .i64 n, .bool true, .int .i64 why] _ RG.out Try.underlying39 rfl (by kernel_rfl) ?_)
                | (refine wpList_buildTo rfl 28 _ rfl (some 34) rfl #[.int .i64 2, .int .i64 0, .string ⟨#[]⟩, .string ⟨#[]⟩, .int .i64 0, .string ⟨#[]⟩, .int .i64 0, .int .i64 0, .string id, .string to, .int .i64 n, .int .i64 0, .int .i64 0, .int .i64 0, .int .i64 0, .bool false, .slice none 0 0] (by kernel_rfl) ?_)
                | (refine wpList_buildTo rfl 28 _ rfl (some 41) rfl #[.int .i64 4, .int .i64 0, .string ⟨#[]⟩, .string ⟨#[]⟩, .int .i64 0, .string ⟨#[]⟩, .int .i64 0, .int .i64 0, .string id, .string to, .int .i64 0, .int .i64 0, .int .i64 0, .int .i64 0, .int .i64 0, .bool false, .slice none 0 0] (by kernel_rfl) ?_)
                | (refine wpList_store_row rfl 28 (.tmp 10) (.tmp 41) rfl B10 #[.int .i64 4, .int .i64 0, .string ⟨#[]⟩, .string ⟨#[]⟩, .int .i64 0, .string ⟨#[]⟩, .int .i64 0, .int .i64 0, .string id, .string to, .int .i64 0, .int .i64 0, .int .i64 0, .int .i64 0, .int .i64 0, .bool false, .slice none 0 0] rfl rfl 28 _ HV.out (by kernel_rfl) rfl (by simp [Value.oneCell']) ?_; rw [EV2.out]))
              clear HB NE9 cd cy2 ciA ctA ci9 ct9 cn9 RG HV EV2 e9 eB c11 z11 hyn
              go_loopw [7, 11] (fun v y wr => ∃ g : Nat, g ≤ S ∧ y = .int .i64 ((g : Int) + 1) ∧ Hid (RI w wr v (asksL me S (ts.take i) ++ (upto me g).map (askOf ⟨id, fr, ky, to, n, true, why⟩))) ∧ Hid (wr.heap[B10]? = some (.cells #[.int .i64 4, .int .i64 0, .string ⟨#[]⟩, .string ⟨#[]⟩, .int .i64 0, .string ⟨#[]⟩, .int .i64 0, .int .i64 0, .string id, .string to, .int .i64 0, .int .i64 50, .int .i64 0, .int .i64 0, .int .i64 0, .bool false, .slice none 0 0] 28 (0, 0)))) (fun _ y _ => S + 1 - (intOf y).toNat)
              case atStart => exact ⟨0, Nat.zero_le _, rfl, by show RI _ _ _ _; simpa [upto] using RIV.out, QB⟩
              case round =>
                clear RIV QB
                obtain ⟨g, hg, rfl, hI, hQ⟩ := hrel
                by_cases hgS : g < S
                · have hle : (g : Int) + 1 ≤ (S : Int) := by omega
                  have HG : Hid (g + 1 ≤ S) := hgS
                  by_cases hme : (g : Int) + 1 = me
                  · have hm1 : ((g : Int) + 1 != me) = false := by simp [hme]
                    have NX : Hid (RI w wr u7 (asksL me S (ts.take i) ++ (upto me (g + 1)).map (askOf ⟨id, fr, ky, to, n, true, why⟩))) := by
                      show RI _ _ _ _
                      rw [upto_small, if_pos (by omega)]
                      exact hI.out
                    clear hI hgS hg hme
                    go_wp2_with fail
                    go_roundw
                    case rel => exact ⟨g + 1, HG.out, by simp, NX, hQ⟩
                    case measure => have := HG.out; simp only [intOf]; omega
                  · have hm1 : ((g : Int) + 1 != me) = true := by simpa using hme
                    have hlL : (asksL me S (ts.take i) ++ (upto me g).map (askOf ⟨id, fr, ky, to, n, true, why⟩)).length ≤ 4000 := by
                      have h1 := asksL_len me S (ts.take i)
                      have h2 := upto_len me g
                      have h3 : (ts.take i).length ≤ i := by simp; omega
                      have h4 := HL.out
                      rw [List.length_append, List.length_map]
                      omega
                    obtain ⟨v2, w2, hrun, hrow, hgr⟩ := run_append_askR wr w.heap.size u7 _ hI.out.row (((g : Int) + 1), wantC ⟨id, fr, ky, to, n, true, why⟩) (by rfl) hlL hI.out.b.size
                    rw [want_some _ _ _ _ _ _ _ HY.out] at hrun hgr
                    have bA : Below wr.heap.size wr (wr.alloc (.cells #[.int .i64 ((g : Int) + 1), .int .i64 4, .int .i64 0, .string ⟨#[]⟩, .string ⟨#[]⟩, .int .i64 0, .string ⟨#[]⟩, .int .i64 0, .int .i64 0, .string id, .string to, .int .i64 0, .int .i64 50, .int .i64 0, .int .i64 0, .int .i64 0, .bool false, .slice none 0 0] 30)) := (Below.refl _ wr).alloc (Nat.le_refl _) _
                    have hrA := owns_kept (w' := wr.alloc (.cells #[.int .i64 ((g : Int) + 1), .int .i64 4, .int .i64 0, .string ⟨#[]⟩, .string ⟨#[]⟩, .int .i64 0, .string ⟨#[]⟩, .int .i64 0, .int .i64 0, .string id, .string to, .int .i64 0, .int .i64 50, .int .i64 0, .int .i64 0, .int .i64 0, .bool false, .slice none 0 0] 30)) hI.out.row fun g e => bA.block g (row_kind hI.out.row e).2.1
                    have bb : Below w.heap.size w w2 := (hI.out.b.trans (bA.mono hI.out.b.size)).grown hgr (Nat.le_trans hI.out.b.size bA.size) (fun j e => (row_kind hI.out.row e).1)
                    have NX : Hid (RI w w2 v2 (asksL me S (ts.take i) ++ (upto me (g + 1)).map (askOf ⟨id, fr, ky, to, n, true, why⟩))) := by
                      show RI _ _ _ _
                      rw [upto_small, if_neg (by omega), List.map_append, ← List.append_assoc]
                      exact ⟨bb, hrow⟩
                    have NQ : Hid (w2.heap[B10]? = some (.cells #[.int .i64 4, .int .i64 0, .string ⟨#[]⟩, .string ⟨#[]⟩, .int .i64 0, .string ⟨#[]⟩, .int .i64 0, .int .i64 0, .string id, .string to, .int .i64 0, .int .i64 50, .int .i64 0, .int .i64 0, .int .i64 0, .bool false, .slice none 0 0] 28 (0, 0))) := grown_box hrA hgr ((bA.block _ (Array.getElem?_eq_some_iff.1 hQ.out).1).trans hQ.out) (by decide)
                    have HRUN : Hid _ := hrun
                    clear hI hgS hg hme hlL hrun hrow hgr bA hrA bb
                    go_wp2_with (first
                      | (refine wpList_load_row rfl 28 (.tmp 10) rfl B10 rfl 28 #[.int .i64 4, .int .i64 0, .string ⟨#[]⟩, .string ⟨#[]⟩, .int .i64 0, .string ⟨#[]⟩, .int .i64 0, .int .i64 0, .string id, .string to, .int .i64 0, .int .i64 50, .int .i64 0, .int .i64 0, .int .i64 0, .bool false, .slice none 0 0] (0, 0) _ hQ.out Try.underlying28 rfl (by kernel_rfl) ?_)
                      | (refine wpList_buildTo rfl 30 _ rfl (some 57) rfl #[.int .i64 ((g : Int) + 1), .int .i64 4, .int .i64 0, .string ⟨#[]⟩, .string ⟨#[]⟩, .int .i64 0, .string ⟨#[]⟩, .int .i64 0, .int .i64 0, .string id, .string to, .int .i64 0, .int .i64 50, .int .i64 0, .int .i64 0, .int .i64 0, .bool false, .slice none 0 0] (by kernel_rfl) ?_)
                      | (refine wpList_valX _ rfl (exec_slice1 (x := .tmp 57) _ rfl rfl) ?_)
                      | (refine wpList_append_known rfl (.tmp 54) (.tmp 58) 43 43 rfl _ _ rfl rfl _ _ HRUN.out ?_))
                    go_roundw
                    case rel => exact ⟨g + 1, HG.out, by simp, NX, NQ⟩
                    case measure => have := HG.out; simp only [intOf]; omega
                · obtain rfl : g = S := by omega
                  have hng : ¬ (g : Int) + 1 ≤ (g : Int) := by omega
                  have NX : Hid (RI w wr u7 (asksL me g (ts.take (i + 1)))) := by
                    show RI _ _ _ _
                    rw [TK.out, asksL_snoc, OT.out]
                    exact hI.out
                  clear hI hQ hgS hg
                  go_wp2_with fail
                  go_roundw
                  case rel => exact ⟨i + 1, HI.out, by go_num, NX⟩
                  case measure => have := HI.out; simp only [intOf]; omega
        · obtain rfl : i = len := by omega
          have hii : ¬ (i : Int) < (i : Int) := by omega
          have FIN : Hid (RI w wr u7 (asksL me S ts)) := by
            have e : ts.take i = ts := List.take_of_length_le (by have := HL.out.1; omega)
            rw [e] at hI
            exact hI
          clear hI hin
          go_wp2_with fail
          go_ret
          exact ⟨_, rfl, FIN.out.row, FIN.out.b⟩
end Go.Proofs.Ytbilnleglnbnlaa
