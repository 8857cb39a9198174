/- TxnAsks. -/
import Derived.Test.YtbilnleglnbnlaaXR18
import Derived.Test.YtbilnleglnbnlaaXAs
import Derived.Test.YtbilnleglnbnlaaXSc
import Derived.Test.YtbilnleglnbnlaaXAskW
import Derived.Test.YtbilnleglnbnlaaXKnown
namespace Go.Proofs.Ytbilnleglnbnlaa
open Go.RowKit
attribute [local go_sem] Oper.semAt_some
set_option linter.unusedVariables false

/-- One transfer more in the law's own list. -/
theorem ownX_more {w X : World} {a : Option Addr} {c : Nat} {l : List TxnD} (hb : Below w.heap.size w X) (h : X.ownsRow w.heap.size 40 7 (.slice a l.length c) l.length (flat TxnD.cells l)) (hl : l.length ≤ 200) (t : TxnD) :
    ∃ a' c' Z, (Builtin.append_ #[37, 37] 37 #[.slice a l.length c, .slice (some ⟨X.heap.size, 0, none⟩) 1 1]).run Try.prog (X.alloc (.cells t.cells.toArray 40)) = .ok (.slice a' (l.length + 1) c') Z ∧ Below w.heap.size w Z ∧ Z.ownsRow w.heap.size 40 7 (.slice a' (l ++ [t]).length c') (l ++ [t]).length (flat TxnD.cells (l ++ [t])) := by
  have bX : Below X.heap.size X (X.alloc (.cells t.cells.toArray 40)) := (Below.refl _ X).alloc (Nat.le_refl _) _
  have h1 := owns_kept h (fun g e => bX.block g (row_kind h e).2.1)
  obtain ⟨v', Z, hr, q1, q2⟩ := run_append_txns (X.alloc (.cells t.cells.toArray 40)) w.heap.size _ l h1 (some ⟨X.heap.size, 0, none⟩) 1 1 [t] ⟨rfl, .inr ⟨X.heap.size, 0, rfl, by simp, fun i hi j v hv => by
    obtain rfl : i = 0 := by simpa using hi
    rw [Nat.zero_mul, Nat.zero_add]
    try rw [Nat.zero_add]
    simp only [World.cell?, heap_alloc_new]
    simpa using hv⟩⟩ (fun e => by cases e) (by omega) (by have := hb.size; have := bX.size; omega)
  obtain ⟨a', c', e, _⟩ := row_form q1
  subst e
  have el : (l ++ [t]).length = l.length + 1 := by simp
  have bw : Below w.heap.size w (X.alloc (.cells t.cells.toArray 40)) := hb.trans (bX.mono hb.size)
  exact ⟨a', c', Z, hr, bw.grown q2 (Nat.le_trans hb.size bX.size) (fun j e => (row_kind h e).1), by rw [el]; exact q1⟩
theorem exec_slice7 {a : Act} {o : Oper} {x : Operand} {c0 c1 c2 c3 c4 c5 c6 : Value} (w : World) (ho : o.op = .buildSlice 37 1 #[(0, x)]) (hx : a.eval x = .agg #[c0, c1, c2, c3, c4, c5, c6]) : (execOp a.eval o).run Try.prog w = .ok (.value (.slice (some ⟨w.heap.size, 0, none⟩) 1 1)) (w.alloc (.cells #[c0, c1, c2, c3, c4, c5, c6] 40)) := by
  unfold execOp
  simp only [ho, List.map_toArray, List.map_cons, List.map_nil, hx]
  kernel_rfl
theorem asks_form (me sh : Int) (ts : List TxnD) : ∀ x ∈ asksL me sh ts, ∃ (fg fk fn fy : Int) (fi fm : ByteArray), AskV.cells x = [.int .i64 fg, .int .i64 fk, .int .i64 0, .string ⟨#[]⟩, .string ⟨#[]⟩, .int .i64 0, .string ⟨#[]⟩, .int .i64 0, .int .i64 0, .string fi, .string fm, .int .i64 fn, .int .i64 fy, .int .i64 0, .int .i64 0, .int .i64 0, .bool false, .slice none 0 0] := fun x hx => by
  unfold asksL at hx
  obtain ⟨t, _, hx⟩ := List.mem_flatMap.1 hx
  obtain ⟨g, _, rfl⟩ := List.mem_map.1 hx
  obtain ⟨id, fr, ky, to, n, done, why⟩ := t
  cases done with
  | false => exact ⟨g, 2, n, 0, id, to, want_false _ _ _ _ _ _ _⟩
  | true =>
    by_cases hy : why = 0
    · exact ⟨g, 4, 0, 0, id, to, want_zero _ _ _ _ _ _ _ hy⟩
    · exact ⟨g, 4, 0, 50, id, to, want_some _ _ _ _ _ _ _ hy⟩
set_option maxRecDepth 100000 in
set_option maxHeartbeats 8000000 in
theorem txnAsks_any (me sh : Int) (a : Option Addr) (len cap : Nat) (ts : List TxnD) (g k ok : Int) (of_ ot : ByteArray) (oa : Int) (oy : ByteArray) (os oh : Int) (id nm : ByteArray) (n why slot ep at_ : Int) (last : Bool) (da : Option Addr) (dc : Nat) (dl : List (BitVec 8)) (y : Int) (wt : Bool) (r1 r2 : Int) (qa : Option Addr) (qc : Nat) (rows : List (ByteArray × Int)) (ea : Option Addr) (ec : Nat) (el : List (BitVec 8)) (w : World)
    (h : RecsAt TxnD.cells 7 w a len ts) (hd : Seen w da dl.length dl) (hdn : da = none → dc = 0) (hdm : dl.length ≤ 140737488351232) (hr : RowsX w qa rows.length rows) (hq : qa = none → qc = 0) (hz : rows.length * 24 ≤ 140737488355328) (hs : Seen w ea el.length el) (he : ea = none → ec = 0) (hm : el.length ≤ 140737488351232) :
    Calls Try.prog 3 #[.int .i64 me, .int .i64 sh, .slice a len cap, .agg #[.int .i64 g, .int .i64 k, .int .i64 ok, .string of_, .string ot, .int .i64 oa, .string oy, .int .i64 os, .int .i64 oh, .string id, .string nm, .int .i64 n, .int .i64 why, .int .i64 slot, .int .i64 ep, .int .i64 at_, .bool last, .slice da dl.length dc], .agg #[.int .i64 y, .bool wt, .int .i64 r1, .int .i64 r2, .slice qa rows.length qc, .slice ea el.length ec]] w fun e w' => e = .returned (.bool true) ∧ Below w.heap.size w w' := by
  have bV : Below w.heap.size w ((w.alloc (.cells #[.int .i64 g, .int .i64 k, .int .i64 ok, .string of_, .string ot, .int .i64 oa, .string oy, .int .i64 os, .int .i64 oh, .string id, .string nm, .int .i64 n, .int .i64 why, .int .i64 slot, .int .i64 ep, .int .i64 at_, .bool last, .slice da dl.length dc] 30)).alloc (.cells #[.int .i64 y, .bool wt, .int .i64 r1, .int .i64 r2, .slice qa rows.length qc, .slice ea el.length ec] 35)) := ((Below.refl _ w).alloc (Nat.le_refl _) _).alloc (by simp) _
  have qA : ((w.alloc (.cells #[.int .i64 g, .int .i64 k, .int .i64 ok, .string of_, .string ot, .int .i64 oa, .string oy, .int .i64 os, .int .i64 oh, .string id, .string nm, .int .i64 n, .int .i64 why, .int .i64 slot, .int .i64 ep, .int .i64 at_, .bool last, .slice da dl.length dc] 30)).alloc (.cells #[.int .i64 y, .bool wt, .int .i64 r1, .int .i64 r2, .slice qa rows.length qc, .slice ea el.length ec] 35)).heap[w.heap.size]? = some (.cells #[.int .i64 g, .int .i64 k, .int .i64 ok, .string of_, .string ot, .int .i64 oa, .string oy, .int .i64 os, .int .i64 oh, .string id, .string nm, .int .i64 n, .int .i64 why, .int .i64 slot, .int .i64 ep, .int .i64 at_, .bool last, .slice da dl.length dc] 30 (0, 0)) := by rw [Below.heap_alloc _ _ _ (by simp), heap_alloc_new]
  have qR := heap_two w (.cells #[.int .i64 g, .int .i64 k, .int .i64 ok, .string of_, .string ot, .int .i64 oa, .string oy, .int .i64 os, .int .i64 oh, .string id, .string nm, .int .i64 n, .int .i64 why, .int .i64 slot, .int .i64 ep, .int .i64 at_, .bool last, .slice da dl.length dc] 30) (.cells #[.int .i64 y, .bool wt, .int .i64 r1, .int .i64 r2, .slice qa rows.length qc, .slice ea el.length ec] 35)
  obtain ⟨V, eV⟩ : ∃ V, ((w.alloc (.cells #[.int .i64 g, .int .i64 k, .int .i64 ok, .string of_, .string ot, .int .i64 oa, .string oy, .int .i64 os, .int .i64 oh, .string id, .string nm, .int .i64 n, .int .i64 why, .int .i64 slot, .int .i64 ep, .int .i64 at_, .bool last, .slice da dl.length dc] 30)).alloc (.cells #[.int .i64 y, .bool wt, .int .i64 r1, .int .i64 r2, .slice qa rows.length qc, .slice ea el.length ec] 35)) = V := ⟨_, rfl⟩
  rw [eV] at bV qA qR
  have HL : Hid (RecsAt TxnD.cells 7 V a len ts) := h.below bV
  have ELN : Hid (len = ts.length) := h.1
  have HD : Hid (Seen V da dl.length dl ∧ (da = none → dc = 0) ∧ dl.length ≤ 140737488351232) := ⟨hd.below bV, hdn, hdm⟩
  have HRR : Hid (RowsX V qa rows.length rows ∧ (qa = none → qc = 0) ∧ rows.length * 24 ≤ 140737488355328) := ⟨hr.below bV, hq, hz⟩
  have HE : Hid (Seen V ea el.length el ∧ (ea = none → ec = 0) ∧ el.length ≤ 140737488351232) := ⟨hs.below bV, he, hm⟩
  have BV : Hid (Below w.heap.size w V) := bV
  have QA : Hid (V.heap[w.heap.size]? = some (.cells #[.int .i64 g, .int .i64 k, .int .i64 ok, .string of_, .string ot, .int .i64 oa, .string oy, .int .i64 os, .int .i64 oh, .string id, .string nm, .int .i64 n, .int .i64 why, .int .i64 slot, .int .i64 ep, .int .i64 at_, .bool last, .slice da dl.length dc] 30 (0, 0))) := qA
  have QR : Hid (V.heap[w.heap.size + 1]? = some (.cells #[.int .i64 y, .bool wt, .int .i64 r1, .int .i64 r2, .slice qa rows.length qc, .slice ea el.length ec] 35 (0, 0))) := qR
  have EV : Hid (_ = V) := eV
  clear h hd hdn hdm hr hq hz hs he hm bV qA qR eV
  go_enter Try.func3, Try.ntmps3
  repeat
    (fail_if_success (guard_target =~ (Code.region 1 _ _).wp _ _ _ _)
     first | go_values | go_skip | go_guarded | go_step | go_upon | go_back)
  rw [show _ = V from EV.out]
  clear EV
  by_cases h200 : 200 < len
  · have h2 : (200 : Int) < (len : Int) := by omega
    have HK := knownX_any V
    clear h200
    go_wp2_with fail
    refine HK.mono ?_
    rintro e w1 ⟨rfl, b1⟩
    go_wp2
    go_ret
    exact ⟨rfl, BV.out.trans (b1.mono BV.out.size)⟩
  · have h2 : ¬ (200 : Int) < (len : Int) := by omega
    have H200 : Hid (len ≤ 200) := by show len ≤ 200; omega
    clear h200
    go_wp2_with fail
    go_loopw [11, 12] (fun v i wr => ∃ (k' : Nat) (va : Option Addr) (vc : Nat), k' ≤ len ∧ v = .slice va k' vc ∧ i = .int .i64 (k' : Int) ∧ Hid (Below V.heap.size V wr) ∧ Hid (wr.ownsRow V.heap.size 40 7 (.slice va (ts.take k').length vc) (ts.take k').length (flat TxnD.cells (ts.take k')))) (fun _ i _ => len - (intOf i).toNat)
    case atStart => exact ⟨0, none, 0, Nat.zero_le _, rfl, rfl, Below.refl _ _, World.ownsRow_nil _ _ _ _⟩
    case round =>
      obtain ⟨k', va, vc, hk, rfl, rfl, hb, ho⟩ := hrel
      by_cases hlt : k' < len
      · have hk2 : k' < ts.length := by rw [← ELN.out]; exact hlt
        obtain ⟨b, off, rfl, hc⟩ := (HL.out.at hk2)
        have hbk := World.block_lt_of_cell? V _ (hc 0 _ rfl)
        have HT : Hid (ts.take (k' + 1) = ts.take k' ++ [ts[k']'hk2]) := List.take_succ_eq_append_getElem hk2
        have HTL : Hid ((ts.take k').length = k') := by show _ = _; rw [List.length_take]; omega
        have t := ts[k']'hk2
        generalize ts[k']'hk2 = t at hc HT
        obtain ⟨tid, tfr, tky, tto, tn, td, tw⟩ := t
        have RG : Hid (wr.rangeAt b (off + k' * 7) [.string tid, .string tfr, .string tky, .string tto, .int .i64 tn, .bool td, .int .i64 tw]) := fun j v hv => (hb.out.cell (p := ⟨b, off + k' * 7 + j, none⟩) hbk).trans (hc j v hv)
        have b13 : Below wr.heap.size wr (wr.alloc (.cells #[.string tid, .string tfr, .string tky, .string tto, .int .i64 tn, .bool td, .int .i64 tw] 39)) := (Below.refl _ wr).alloc (Nat.le_refl _) _
        have q13 := heap_alloc_new wr (.cells #[.string tid, .string tfr, .string tky, .string tto, .int .i64 tn, .bool td, .int .i64 tw] 39)
        obtain ⟨w13, e13⟩ : ∃ w13, wr.alloc (.cells #[.string tid, .string tfr, .string tky, .string tto, .int .i64 tn, .bool td, .int .i64 tw] 39) = w13 := ⟨_, rfl⟩
        rw [e13] at b13 q13
        have bb := hb.out.trans (b13.mono hb.out.size)
        obtain ⟨a2, c2, Z, hrun, hbZ, hoZ⟩ := ownX_more (X := w13) bb (owns_kept ho.out fun g e => b13.block g (row_kind ho.out e).2.1) (by rw [HTL.out]; have := H200.out; omega) ⟨tid, tfr, tky, tto, tn, td, tw⟩
        rw [HTL.out] at hrun
        have HRun : Hid _ := hrun
        have HBZ : Hid (Below V.heap.size V Z) := hbZ
        have HOZ : Hid (Z.ownsRow V.heap.size 40 7 (.slice a2 (ts.take (k' + 1)).length c2) (ts.take (k' + 1)).length (flat TxnD.cells (ts.take (k' + 1)))) := by rw [HT.out]; exact hoZ
        have HK1 : Hid (k' + 1 ≤ len) := hlt
        have hki : (k' : Int) < (len : Int) := by omega
        have hk200 : k' < 200 := by have := H200.out; omega
        have c0 : w13.cell? ⟨wr.heap.size, 0, none⟩ = some (.string tid) := by simp [World.cell?, q13]
        have c1 : w13.cell? ⟨wr.heap.size, 1, none⟩ = some (.string tfr) := by simp [World.cell?, q13]
        have c2' : w13.cell? ⟨wr.heap.size, 2, none⟩ = some (.string tky) := by simp [World.cell?, q13]
        have c3 : w13.cell? ⟨wr.heap.size, 3, none⟩ = some (.string tto) := by simp [World.cell?, q13]
        have c4 : w13.cell? ⟨wr.heap.size, 4, none⟩ = some (.int .i64 tn) := by simp [World.cell?, q13]
        have c5 : w13.cell? ⟨wr.heap.size, 5, none⟩ = some (.bool td) := by simp [World.cell?, q13]
        have c6 : w13.cell? ⟨wr.heap.size, 6, none⟩ = some (.int .i64 tw) := by simp [World.cell?, q13]
        clear hc hrun hbZ hoZ hbk hk2 hb ho b13 q13 bb HT HTL hlt hk
        go_wp2_with (first
          | (refine wpList_load_mid rfl 39 (.tmp 33) rfl b (off + k' * 7) rfl [.string tid, .string tfr, .string tky, .string tto, .int .i64 tn, .bool td, .int .i64 tw] _ RG.out Try.underlying39 rfl (by kernel_rfl) ?_)
          | (refine wpList_buildTo rfl 40 _ rfl (some 50) rfl #[.string tid, .string tfr, .string tky, .string tto, .int .i64 tn, .bool td, .int .i64 tw] (by kernel_rfl) ?_)
          | (refine wpList_valX _ rfl (exec_slice7 (x := .tmp 50) _ rfl rfl) ?_)
          | (refine wpList_append_known rfl (.tmp 35) (.tmp 51) 37 37 rfl (.slice va k' vc) (.slice (some ⟨w13.heap.size, 0, none⟩) 1 1) rfl rfl (.slice a2 (k' + 1) c2) Z HRun.out ?_))
        go_roundw
        case rel => exact ⟨k' + 1, a2, c2, HK1.out, rfl, by go_num, HBZ, HOZ⟩
        case measure => have := HK1.out; simp only [intOf]; omega
      · obtain rfl : k' = len := by omega
        have hki : ¬ (k' : Int) < (k' : Int) := by omega
        have etk : ts.take k' = ts := List.take_of_length_le (by rw [← ELN.out]; exact Nat.le_refl _)
        rw [etk] at ho
        have hln := ELN.out
        obtain ⟨va', vc', ev, rec, hnil⟩ := recs_owned TxnD.cells7 ho.out rfl
        injection ev with ev1 _ ev2
        subst ev1 ev2
        rw [← hln] at rec
        have HAs := asks_any me sh va k' vc ts wr rec hnil (by have := H200.out; omega)
        have HBr : Hid (Below V.heap.size V wr) := hb
        clear etk ho hln rec hnil hb hk hlt
        go_wp2_with fail
        refine HAs.mono ?_
        rintro e w3 ⟨v3, rfl, own3, b3⟩
        obtain ⟨a3, c3, rfl, rec3, _⟩ := recs_owned askCells18 own3 rfl
        have BV3 : Hid (Below V.heap.size V w3) := HBr.out.trans (b3.mono HBr.out.size)
        have HRs := rasks_any me sh a k' cap ts w3 (HL.out.below BV3.out) H200.out
        have RC3 : Hid (RecsAt AskV.cells 18 w3 a3 (asksL me sh ts).length (asksL me sh ts)) := rec3
        clear HAs own3 b3 rec3 HBr hki
        go_wp2_with fail
        refine HRs.mono ?_
        rintro e w4 ⟨v4, rfl, own4, b4⟩
        obtain ⟨a4, c4, rfl, rec4, _⟩ := recs_owned askCells18 own4 rfl
        have BV4 : Hid (Below V.heap.size V w4) := BV3.out.trans (b4.mono BV3.out.size)
        have RC3' : Hid (RecsAt AskV.cells 18 w4 a3 (asksL me sh ts).length (asksL me sh ts)) := RC3.out.below b4
        have RC4 : Hid (RecsAt AskV.cells 18 w4 a4 (asksL me sh ts).length (asksL me sh ts)) := rec4
        have FRM : Hid (∀ x ∈ asksL me sh ts, ∃ (fg fk fn fy : Int) (fi fm : ByteArray), AskV.cells x = [.int .i64 fg, .int .i64 fk, .int .i64 0, .string ⟨#[]⟩, .string ⟨#[]⟩, .int .i64 0, .string ⟨#[]⟩, .int .i64 0, .int .i64 0, .string fi, .string fm, .int .i64 fn, .int .i64 fy, .int .i64 0, .int .i64 0, .int .i64 0, .bool false, .slice none 0 0]) := asks_form me sh ts
        have LLN : Hid ((asksL me sh ts).length ≤ 4000) := by
          have := asksL_len me sh ts
          have := H200.out
          have := ELN.out
          show _ ≤ _
          omega
        clear HRs own4 b4 rec4 RC3 BV3
        generalize asksL me sh ts = L at *
        obtain ⟨N, eN⟩ : ∃ N, L.length = N := ⟨_, rfl⟩
        have EN : Hid (L.length = N) := eN
        rw [eN] at RC3' RC4 LLN
        simp only [eN]
        clear eN
        go_wp2_with fail
        go_loopw [16] (fun i wr => ∃ j : Nat, j ≤ N ∧ i = .int .i64 (j : Int) ∧ Hid (Below w4.heap.size w4 wr)) (fun i _ => N - (intOf i).toNat)
        case atStart => exact ⟨0, Nat.zero_le _, rfl, Below.refl _ _⟩
        case round =>
          obtain ⟨j, hj, rfl, hBr⟩ := hrel
          by_cases hlt : j < N
          · have hjL : j < L.length := by rw [EN.out]; exact hlt
            obtain ⟨fg, fk, fn, fy, fi, fm, hx⟩ := FRM.out L[j] (List.getElem_mem hjL)
            obtain ⟨b3, o3, rfl, hc3⟩ := RC3'.out.at hjL
            obtain ⟨b4, o4, rfl, hc4⟩ := RC4.out.at hjL
            rw [hx] at hc3 hc4
            have l3 := World.block_lt_of_cell? w4 _ (hc3 0 _ rfl)
            have l4 := World.block_lt_of_cell? w4 _ (hc4 0 _ rfl)
            have R3 : Hid (∀ W, Below w4.heap.size w4 W → W.rangeAt b3 (o3 + j * 18) [.int .i64 fg, .int .i64 fk, .int .i64 0, .string ⟨#[]⟩, .string ⟨#[]⟩, .int .i64 0, .string ⟨#[]⟩, .int .i64 0, .int .i64 0, .string fi, .string fm, .int .i64 fn, .int .i64 fy, .int .i64 0, .int .i64 0, .int .i64 0, .bool false, .slice none 0 0]) := fun W hW q v hv => (hW.cell (p := ⟨b3, o3 + j * 18 + q, none⟩) l3).trans (hc3 q v hv)
            have R4 : Hid (∀ W, Below w4.heap.size w4 W → W.rangeAt b4 (o4 + j * 18) [.int .i64 fg, .int .i64 fk, .int .i64 0, .string ⟨#[]⟩, .string ⟨#[]⟩, .int .i64 0, .string ⟨#[]⟩, .int .i64 0, .int .i64 0, .string fi, .string fm, .int .i64 fn, .int .i64 fy, .int .i64 0, .int .i64 0, .int .i64 0, .bool false, .slice none 0 0]) := fun W hW q v hv => (hW.cell (p := ⟨b4, o4 + j * 18 + q, none⟩) l4).trans (hc4 q v hv)
            have HJ : Hid (j + 1 ≤ N) := hlt
            have HLT : Hid (j < N) := hlt
            have hji : (j : Int) < (N : Int) := by omega
            have hj4 : j < 4000 := by have := LLN.out; omega
            clear hj hlt hjL hx hc3 hc4 l3 l4
            go_wp2_with fail
            refine wp_region_calmX (S := fun W => Below w4.heap.size w4 W) (by kernel_rfl) hBr.out.drew (fun hHeld => ?_)
            refine take_run (i := 0) (oi := { dst := some 72, op := Go.Op.move (Go.Operand.tmp 14), type := 41, pos := "law.go:79", after := #[], guard := none }) (v := .slice (some ⟨b3, o3, none⟩) N c3) rfl (by kernel_rfl) (by kernel_rfl) (by kernel_rfl) (fun _ _ _ h => h) (by rfl) ?_ hHeld ?_
            · (intro wq hSw; go_simp <;> with_reducible rfl)
            try simp only [Act.put, List.setIfInBounds_toArray, List.set_cons_zero, List.set_cons_succ]
            refine take_run (i := 1) (oi := { dst := some 73, op := Go.Op.move (Go.Operand.tmp 16), type := 3, pos := "law.go:79", after := #[], guard := none }) (v := .int .i64 (j : Int)) rfl (by kernel_rfl) (by kernel_rfl) (by kernel_rfl) (fun _ _ _ h => h) (by rfl) ?_ hHeld ?_
            · (intro wq hSw; go_simp <;> with_reducible rfl)
            try simp only [Act.put, List.setIfInBounds_toArray, List.set_cons_zero, List.set_cons_succ]
            refine take_run (i := 2) (oi := { dst := some 74, op := Go.Op.indexAddr 41 (Go.Operand.tmp 72) (Go.Operand.tmp 73), type := 0, pos := "law.go:79", after := #[{ on := 0, ground := Go.Ground.data }, { on := 1, ground := Go.Ground.data }], guard := none }) (v := .pointer (some ⟨b3, o3 + j * 18, none⟩)) rfl (by kernel_rfl) (by kernel_rfl) (by kernel_rfl) (fun _ _ _ h => h) (by rfl) ?_ hHeld ?_
            · (intro wq hSw; have hlt2 := HLT.out; go_simp <;> first | with_reducible rfl | (simp [hlt2]; done))
            try simp only [Act.put, List.setIfInBounds_toArray, List.set_cons_zero, List.set_cons_succ]
            refine takeX_mid (i := 3) (oi := { dst := some 75, op := Go.Op.load 49 (Go.Operand.tmp 74), type := 49, pos := "law.go:79", after := #[{ on := 2, ground := Go.Ground.data }], guard := none }) rfl (by kernel_rfl) (by kernel_rfl) (by kernel_rfl) 49 (.tmp 74) b3 (o3 + j * 18) [.int .i64 fg, .int .i64 fk, .int .i64 0, .string ⟨#[]⟩, .string ⟨#[]⟩, .int .i64 0, .string ⟨#[]⟩, .int .i64 0, .int .i64 0, .string fi, .string fm, .int .i64 fn, .int .i64 fy, .int .i64 0, .int .i64 0, .int .i64 0, .bool false, .slice none 0 0] _ (fun _ _ _ h => h) (by rfl) rfl (by go_simp <;> with_reducible rfl) (fun W hW => R3.out W hW) Try.underlying49 rfl (by kernel_rfl) hHeld ?_
            try simp only [Act.put, List.setIfInBounds_toArray, List.set_cons_zero, List.set_cons_succ]
            refine take_run (i := 5) (oi := { dst := some 77, op := Go.Op.move (Go.Operand.tmp 15), type := 43, pos := "law.go:79", after := #[], guard := none }) (v := .slice (some ⟨b4, o4, none⟩) N c4) rfl (by kernel_rfl) (by kernel_rfl) (by kernel_rfl) (fun _ _ _ h => h) (by rfl) ?_ hHeld ?_
            · (intro wq hSw; go_simp <;> with_reducible rfl)
            try simp only [Act.put, List.setIfInBounds_toArray, List.set_cons_zero, List.set_cons_succ]
            refine take_run (i := 6) (oi := { dst := some 78, op := Go.Op.move (Go.Operand.tmp 16), type := 3, pos := "law.go:79", after := #[], guard := none }) (v := .int .i64 (j : Int)) rfl (by kernel_rfl) (by kernel_rfl) (by kernel_rfl) (fun _ _ _ h => h) (by rfl) ?_ hHeld ?_
            · (intro wq hSw; go_simp <;> with_reducible rfl)
            try simp only [Act.put, List.setIfInBounds_toArray, List.set_cons_zero, List.set_cons_succ]
            refine take_run (i := 7) (oi := { dst := some 79, op := Go.Op.indexAddr 43 (Go.Operand.tmp 77) (Go.Operand.tmp 78), type := 0, pos := "law.go:79", after := #[{ on := 5, ground := Go.Ground.data }, { on := 6, ground := Go.Ground.data }], guard := none }) (v := .pointer (some ⟨b4, o4 + j * 18, none⟩)) rfl (by kernel_rfl) (by kernel_rfl) (by kernel_rfl) (fun _ _ _ h => h) (by rfl) ?_ hHeld ?_
            · (intro wq hSw; have hlt2 := HLT.out; go_simp <;> first | with_reducible rfl | (simp [hlt2]; done))
            try simp only [Act.put, List.setIfInBounds_toArray, List.set_cons_zero, List.set_cons_succ]
            refine takeX_mid (i := 8) (oi := { dst := some 80, op := Go.Op.load 30 (Go.Operand.tmp 79), type := 30, pos := "law.go:79", after := #[{ on := 7, ground := Go.Ground.data }], guard := none }) rfl (by kernel_rfl) (by kernel_rfl) (by kernel_rfl) 30 (.tmp 79) b4 (o4 + j * 18) [.int .i64 fg, .int .i64 fk, .int .i64 0, .string ⟨#[]⟩, .string ⟨#[]⟩, .int .i64 0, .string ⟨#[]⟩, .int .i64 0, .int .i64 0, .string fi, .string fm, .int .i64 fn, .int .i64 fy, .int .i64 0, .int .i64 0, .int .i64 0, .bool false, .slice none 0 0] _ (fun _ _ _ h => h) (by rfl) rfl (by go_simp <;> with_reducible rfl) (fun W hW => R4.out W hW) Try.underlying30 rfl (by kernel_rfl) hHeld ?_
            try simp only [Act.put, List.setIfInBounds_toArray, List.set_cons_zero, List.set_cons_succ]
            refine take_call (i := 4) (oi := { dst := some 76, op := Go.Op.call { callee := Go.Callee.value (Go.Operand.func 8), args := #[Go.Operand.tmp 75], argTypes := #[49] }, type := 30, pos := "law.go:79", after := #[{ on := 3, ground := Go.Ground.data }], guard := none }) rfl (by kernel_rfl) (by rfl) 8 _ (by go_simp <;> with_reducible rfl) ?_
            refine (asX_any fg fk 0 ⟨#[]⟩ ⟨#[]⟩ 0 ⟨#[]⟩ 0 0 fi fm fn fy 0 0 0 false none 0 0 _).mono ?_
            rintro e x1 ⟨rfl, y1⟩
            have z1 : Below w4.heap.size w4 x1 := hHeld.trans (y1.mono hHeld.size)
            refine ⟨_, rfl, z1, ?_⟩
            try simp only [Act.put, List.setIfInBounds_toArray, List.set_cons_zero, List.set_cons_succ]
            refine take_call (i := 9) (oi := { dst := some 81, op := Go.Op.call { callee := Go.Callee.value (Go.Operand.func 7), args := #[Go.Operand.tmp 76, Go.Operand.tmp 80], argTypes := #[30, 30] }, type := 4, pos := "law.go:79", after := #[{ on := 4, ground := Go.Ground.data }, { on := 8, ground := Go.Ground.data }, { on := 4, ground := Go.Ground.chain }], guard := none }) rfl (by kernel_rfl) (by rfl) 7 _ (by go_simp <;> with_reducible rfl) ?_
            refine (same_x fg fk fn fy fi fm _).mono ?_
            rintro e x2 ⟨rfl, y2⟩
            have z2 : Below w4.heap.size w4 x2 := z1.trans (y2.mono z1.size)
            refine ⟨_, rfl, z2, ?_⟩
            try simp only [Act.put, List.setIfInBounds_toArray, List.set_cons_zero, List.set_cons_succ]
            refine take_run (i := 10) (oi := { dst := some 82, op := Go.Op.unOp Go.UnOp.not 4 (Go.Operand.tmp 81), type := 4, pos := "law.go:79", after := #[{ on := 9, ground := Go.Ground.data }], guard := none }) (v := .bool false) rfl (by kernel_rfl) (by kernel_rfl) (by kernel_rfl) (fun _ _ _ h => h) (by rfl) ?_ z2 ?_
            · (intro wq hSw; go_simp <;> with_reducible rfl)
            try simp only [Act.put, List.setIfInBounds_toArray, List.set_cons_zero, List.set_cons_succ]
            refine wpAnyH_done (by kernel_rfl) ?_ _
            have NX : Hid (Below w4.heap.size w4 x2) := z2
            clear hHeld y1 z1 y2 z2
            go_wp2
            go_roundw
            case rel => exact ⟨j + 1, HJ.out, by go_num, NX⟩
            case measure => have := HJ.out; simp only [intOf]; omega
          · obtain rfl : j = N := by omega
            have hji : ¬ (j : Int) < (j : Int) := by omega
            have BX : Hid (Below V.heap.size V wr) := BV4.out.trans (hBr.out.mono BV4.out.size)
            have GB : Hid (∀ W, Below V.heap.size V W → W.heap[w.heap.size]? = some (.cells #[.int .i64 g, .int .i64 k, .int .i64 ok, .string of_, .string ot, .int .i64 oa, .string oy, .int .i64 os, .int .i64 oh, .string id, .string nm, .int .i64 n, .int .i64 why, .int .i64 slot, .int .i64 ep, .int .i64 at_, .bool last, .slice da dl.length dc] 30 (0, 0)) ∧ W.heap[w.heap.size + 1]? = some (.cells #[.int .i64 y, .bool wt, .int .i64 r1, .int .i64 r2, .slice qa rows.length qc, .slice ea el.length ec] 35 (0, 0))) := fun W hW => ⟨(hW.block _ (Array.getElem?_eq_some_iff.1 QA.out).1).trans QA.out, (hW.block _ (Array.getElem?_eq_some_iff.1 QR.out).1).trans QR.out⟩
            obtain ⟨pk, pn, py, pi, pm, nb, hnf⟩ := next_form k ok of_ ot oa oy os oh id nm n why slot ep at_ last y
            have NF : Hid (∀ data, (nextC ⟨k, ok, of_, ot, oa, oy, os, oh, id, nm, n, why, slot, ep, at_, last, data⟩ y).1.cells = [.int .i64 pk, .int .i64 0, .string ⟨#[]⟩, .string ⟨#[]⟩, .int .i64 0, .string ⟨#[]⟩, .int .i64 0, .int .i64 0, .string pi, .string pm, .int .i64 pn, .int .i64 py, .int .i64 0, .int .i64 0, .int .i64 0, .bool false, .slice none 0 0] ∧ (nextC ⟨k, ok, of_, ot, oa, oy, os, oh, id, nm, n, why, slot, ep, at_, last, data⟩ y).2 = nb) := hnf
            have LV : Hid (∀ W, Below V.heap.size V W → V.heap.size ≤ W.heap.size) := fun W hW => hW.size
            clear hnf hBr hj hlt RC3' RC4 FRM LLN EN BV4 QA QR HL ELN H200
            go_wp2_with fail
            clear hji
            refine r18_any w V wr pk pn py pi pm nb g k ok of_ ot oa oy os oh id nm n why slot ep at_ last da dc dl y wt r1 r2 qa qc rows ea ec el _ _ _ _ _ _ _ _ _ _ _ _ _ _ _ _ _ _ _ _ _ _ _ _ _ _ _ _ _ _ _ _ _ _ _ _ _ _ _ _ _ _ _ _ _ _ _ _ _ _ _ _ _ _ _ _ _ _ _ _ _ _ _ _ _ _ _ _ _ _ _ _ _ _ _ _ _ _ _ _ _ _ _ _ _ _ _ _ _ _ _ _ _ _ _ _ _ _ _ _ _ _ _ _ _ _ _ _ _ _ _ BX.out GB.out NF.out HD.out HRR.out HE.out _ _ ?_
            intro va vc u4 u6 Bt Y by_ fy
            have QY : Hid (Y.heap[Bt]? = some (.cells #[.int .i64 pk, .int .i64 0, .string ⟨#[]⟩, .string ⟨#[]⟩, .int .i64 0, .string ⟨#[]⟩, .int .i64 0, .int .i64 0, .string pi, .string pm, .int .i64 pn, .int .i64 py, .int .i64 0, .int .i64 0, .int .i64 0, .bool false, .slice none 0 0] 47 (0, 0))) := fy
            have BY : Hid (Below V.heap.size V Y) := by_
            have gA := (GB.out Y BY.out).1
            have gR := (GB.out Y BY.out).2
            have HN := rnext_any g k ok of_ ot oa oy os oh id nm n why slot ep at_ last (.slice da dl.length dc) y wt r1 r2 (.slice qa rows.length qc) (.slice ea el.length ec) Y
            rw [(NF.out (.slice da dl.length dc)).1, (NF.out (.slice da dl.length dc)).2] at HN
            have GA : Hid _ := gA
            have GR : Hid _ := gR
            have BW : Hid (Below w.heap.size w Y) := BV.out.trans (BY.out.mono BV.out.size)
            clear gA gR NF GB fy by_
            go_wp2_with (first
              | (refine wpList_load_row rfl 30 (.tmp 8) rfl w.heap.size rfl 30 #[.int .i64 g, .int .i64 k, .int .i64 ok, .string of_, .string ot, .int .i64 oa, .string oy, .int .i64 os, .int .i64 oh, .string id, .string nm, .int .i64 n, .int .i64 why, .int .i64 slot, .int .i64 ep, .int .i64 at_, .bool last, .slice da dl.length dc] (0, 0) _ GA.out Try.underlying30 rfl (by kernel_rfl) ?_)
              | (refine wpList_load_row rfl 35 (.tmp 9) rfl (w.heap.size + 1) rfl 35 #[.int .i64 y, .bool wt, .int .i64 r1, .int .i64 r2, .slice qa rows.length qc, .slice ea el.length ec] (0, 0) _ GR.out Try.underlying35 rfl (by kernel_rfl) ?_))
            refine HN.mono ?_
            rintro e w5 ⟨rfl, b5⟩
            clear HN GA GR
            go_wp2_with fail
            have b6 : Below w5.heap.size w5 (w5.alloc (.cells #[.int .i64 pk, .int .i64 0, .string ⟨#[]⟩, .string ⟨#[]⟩, .int .i64 0, .string ⟨#[]⟩, .int .i64 0, .int .i64 0, .string pi, .string pm, .int .i64 pn, .int .i64 py, .int .i64 0, .int .i64 0, .int .i64 0, .bool false, .slice none 0 0] 28)) := (Below.refl _ w5).alloc (Nat.le_refl _) _
            have q19 := heap_alloc_new w5 (.cells #[.int .i64 pk, .int .i64 0, .string ⟨#[]⟩, .string ⟨#[]⟩, .int .i64 0, .string ⟨#[]⟩, .int .i64 0, .int .i64 0, .string pi, .string pm, .int .i64 pn, .int .i64 py, .int .i64 0, .int .i64 0, .int .i64 0, .bool false, .slice none 0 0] 28)
            generalize w5.alloc (.cells #[.int .i64 pk, .int .i64 0, .string ⟨#[]⟩, .string ⟨#[]⟩, .int .i64 0, .string ⟨#[]⟩, .int .i64 0, .int .i64 0, .string pi, .string pm, .int .i64 pn, .int .i64 py, .int .i64 0, .int .i64 0, .int .i64 0, .bool false, .slice none 0 0] 28) = W6 at *
            have Q17 : Hid (W6.heap[Bt]? = some (.cells #[.int .i64 pk, .int .i64 0, .string ⟨#[]⟩, .string ⟨#[]⟩, .int .i64 0, .string ⟨#[]⟩, .int .i64 0, .int .i64 0, .string pi, .string pm, .int .i64 pn, .int .i64 py, .int .i64 0, .int .i64 0, .int .i64 0, .bool false, .slice none 0 0] 47 (0, 0))) := by
              have e1 := (b5.block _ (Array.getElem?_eq_some_iff.1 QY.out).1).trans QY.out
              exact (b6.block _ (Array.getElem?_eq_some_iff.1 e1).1).trans e1
            have Q19 : Hid (W6.heap[w5.heap.size]? = some (.cells #[.int .i64 pk, .int .i64 0, .string ⟨#[]⟩, .string ⟨#[]⟩, .int .i64 0, .string ⟨#[]⟩, .int .i64 0, .int .i64 0, .string pi, .string pm, .int .i64 pn, .int .i64 py, .int .i64 0, .int .i64 0, .int .i64 0, .bool false, .slice none 0 0] 28 (0, 0))) := q19
            have BW6 : Hid (Below w.heap.size w W6) := by
              have e1 := BW.out.trans (b5.mono BW.out.size)
              exact e1.trans (b6.mono e1.size)
            clear b5 b6 q19 QY BY BW
            refine wp_region_calmX (S := fun W => Below W6.heap.size W6 W) (by kernel_rfl) (Below.refl _ W6).drew (fun hHeld => ?_)
            refine take_row (i := 0) (oi := { dst := some 101, op := Go.Op.load 47 (Go.Operand.tmp 17), type := 47, pos := "law.go:85", after := #[], guard := none }) rfl (by kernel_rfl) (by kernel_rfl) (by kernel_rfl) 47 (.tmp 17) Bt 47 #[.int .i64 pk, .int .i64 0, .string ⟨#[]⟩, .string ⟨#[]⟩, .int .i64 0, .string ⟨#[]⟩, .int .i64 0, .int .i64 0, .string pi, .string pm, .int .i64 pn, .int .i64 py, .int .i64 0, .int .i64 0, .int .i64 0, .bool false, .slice none 0 0] (0, 0) _ (fun _ _ _ h => h) (by rfl) rfl (by go_simp <;> with_reducible rfl) (fun W hW => (hW.block _ (Array.getElem?_eq_some_iff.1 Q17.out).1).trans Q17.out) Try.underlying47 rfl (by kernel_rfl) hHeld ?_
            try simp only [Act.put, List.setIfInBounds_toArray, List.set_cons_zero, List.set_cons_succ]
            refine take_row (i := 2) (oi := { dst := some 103, op := Go.Op.load 28 (Go.Operand.tmp 19), type := 28, pos := "law.go:85", after := #[], guard := none }) rfl (by kernel_rfl) (by kernel_rfl) (by kernel_rfl) 28 (.tmp 19) w5.heap.size 28 #[.int .i64 pk, .int .i64 0, .string ⟨#[]⟩, .string ⟨#[]⟩, .int .i64 0, .string ⟨#[]⟩, .int .i64 0, .int .i64 0, .string pi, .string pm, .int .i64 pn, .int .i64 py, .int .i64 0, .int .i64 0, .int .i64 0, .bool false, .slice none 0 0] (0, 0) _ (fun _ _ _ h => h) (by rfl) rfl (by go_simp <;> with_reducible rfl) (fun W hW => (hW.block _ (Array.getElem?_eq_some_iff.1 Q19.out).1).trans Q19.out) Try.underlying28 rfl (by kernel_rfl) hHeld ?_
            try simp only [Act.put, List.setIfInBounds_toArray, List.set_cons_zero, List.set_cons_succ]
            refine take_call (i := 1) (oi := { dst := some 102, op := Go.Op.call { callee := Go.Callee.value (Go.Operand.func 14), args := #[Go.Operand.tmp 101], argTypes := #[47] }, type := 28, pos := "law.go:85", after := #[{ on := 0, ground := Go.Ground.data }], guard := none }) rfl (by kernel_rfl) (by rfl) 14 _ (by go_simp <;> with_reducible rfl) ?_
            refine (takenX_any pk 0 ⟨#[]⟩ ⟨#[]⟩ 0 ⟨#[]⟩ 0 0 pi pm pn py 0 0 0 false none 0 0 _).mono ?_
            rintro e m1 ⟨rfl, n1⟩
            have s1 : Below W6.heap.size W6 m1 := hHeld.trans (n1.mono hHeld.size)
            refine ⟨_, rfl, s1, ?_⟩
            try simp only [Act.put, List.setIfInBounds_toArray, List.set_cons_zero, List.set_cons_succ]
            refine take_call (i := 3) (oi := { dst := some 104, op := Go.Op.call { callee := Go.Callee.value (Go.Operand.func 13), args := #[Go.Operand.tmp 102, Go.Operand.tmp 103], argTypes := #[28, 28] }, type := 4, pos := "law.go:85", after := #[{ on := 1, ground := Go.Ground.data }, { on := 2, ground := Go.Ground.data }, { on := 1, ground := Go.Ground.chain }], guard := none }) rfl (by kernel_rfl) (by rfl) 13 _ (by go_simp <;> with_reducible rfl) ?_
            refine (sameCmd_x pk pn py pi pm _).mono ?_
            rintro e m2 ⟨rfl, n2⟩
            have s2 : Below W6.heap.size W6 m2 := s1.trans (n2.mono s1.size)
            refine ⟨_, rfl, s2, ?_⟩
            try simp only [Act.put, List.setIfInBounds_toArray, List.set_cons_zero, List.set_cons_succ]
            refine take_run (i := 4) (oi := { dst := some 105, op := Go.Op.move (Go.Operand.tmp 104), type := 4, pos := "law.go:85", after := #[{ on := 3, ground := Go.Ground.data }, { on := 3, ground := Go.Ground.chain }], guard := none }) (v := .bool true) rfl (by kernel_rfl) (by kernel_rfl) (by kernel_rfl) (fun _ _ _ h => h) (by rfl) ?_ s2 ?_
            · (intro wq hSw; go_simp <;> with_reducible rfl)
            try simp only [Act.put, List.setIfInBounds_toArray, List.set_cons_zero, List.set_cons_succ]
            refine take_run (i := 5) (oi := { dst := some 106, op := Go.Op.move (Go.Operand.tmp 18), type := 4, pos := "law.go:85", after := #[{ on := 4, ground := Go.Ground.guard }], guard := some (4, true) }) (v := .bool nb) rfl (by kernel_rfl) (by kernel_rfl) (by kernel_rfl) (fun _ _ _ h => h) (by rfl) ?_ s2 ?_
            · (intro wq hSw; go_simp <;> with_reducible rfl)
            try simp only [Act.put, List.setIfInBounds_toArray, List.set_cons_zero, List.set_cons_succ]
            refine take_run (i := 6) (oi := { dst := some 107, op := Go.Op.move (Go.Operand.tmp 20), type := 4, pos := "law.go:85", after := #[{ on := 4, ground := Go.Ground.guard }], guard := some (4, true) }) (v := .bool nb) rfl (by kernel_rfl) (by kernel_rfl) (by kernel_rfl) (fun _ _ _ h => h) (by rfl) ?_ s2 ?_
            · (intro wq hSw; go_simp <;> with_reducible rfl)
            try simp only [Act.put, List.setIfInBounds_toArray, List.set_cons_zero, List.set_cons_succ]
            refine take_run (i := 7) (oi := { dst := some 108, op := Go.Op.binOp Go.BinOp.eql 4 (Go.Operand.tmp 106) (Go.Operand.tmp 107) 4, type := 4, pos := "law.go:85", after := #[{ on := 5, ground := Go.Ground.data }, { on := 6, ground := Go.Ground.data }, { on := 4, ground := Go.Ground.guard }], guard := some (4, true) }) (v := .bool true) rfl (by kernel_rfl) (by kernel_rfl) (by kernel_rfl) (fun _ _ _ h => h) (by rfl) ?_ s2 ?_
            · (intro wq hSw; cases nb <;> (go_simp <;> with_reducible rfl))
            try simp only [Act.put, List.setIfInBounds_toArray, List.set_cons_zero, List.set_cons_succ]
            refine take_run (i := 8) (oi := { dst := some 109, op := Go.Op.pick (Go.Operand.tmp 105) (Go.Operand.tmp 108) (Go.Operand.const (Go.Value.bool false)), type := 4, pos := "law.go:85", after := #[{ on := 4, ground := Go.Ground.data }, { on := 7, ground := Go.Ground.data }], guard := none }) (v := .bool true) rfl (by kernel_rfl) (by kernel_rfl) (by kernel_rfl) (fun _ _ _ h => h) (by rfl) ?_ s2 ?_
            · (intro wq hSw; go_simp <;> with_reducible rfl)
            try simp only [Act.put, List.setIfInBounds_toArray, List.set_cons_zero, List.set_cons_succ]
            refine take_run (i := 9) (oi := { dst := some 110, op := Go.Op.move (Go.Operand.tmp 109), type := 4, pos := "law.go:85", after := #[{ on := 8, ground := Go.Ground.data }, { on := 4, ground := Go.Ground.chain }], guard := none }) (v := .bool true) rfl (by kernel_rfl) (by kernel_rfl) (by kernel_rfl) (fun _ _ _ h => h) (by rfl) ?_ s2 ?_
            · (intro wq hSw; go_simp <;> with_reducible rfl)
            try simp only [Act.put, List.setIfInBounds_toArray, List.set_cons_zero, List.set_cons_succ]
            refine take_call (i := 10) (oi := { dst := some 111, op := Go.Op.call { callee := Go.Callee.value (Go.Operand.func 4), args := #[], argTypes := #[] }, type := 4, pos := "law.go:85", after := #[{ on := 9, ground := Go.Ground.chain }, { on := 9, ground := Go.Ground.guard }], guard := some (9, true) }) rfl (by kernel_rfl) (by rfl) 4 _ (by go_simp <;> with_reducible rfl) ?_
            refine (knownX_any _).mono ?_
            rintro e m3 ⟨rfl, n3⟩
            have s3 : Below W6.heap.size W6 m3 := s2.trans (n3.mono s2.size)
            refine ⟨_, rfl, s3, ?_⟩
            try simp only [Act.put, List.setIfInBounds_toArray, List.set_cons_zero, List.set_cons_succ]
            refine take_run (i := 11) (oi := { dst := some 112, op := Go.Op.pick (Go.Operand.tmp 110) (Go.Operand.tmp 111) (Go.Operand.const (Go.Value.bool false)), type := 4, pos := "law.go:85", after := #[{ on := 9, ground := Go.Ground.data }, { on := 10, ground := Go.Ground.data }], guard := none }) (v := .bool true) rfl (by kernel_rfl) (by kernel_rfl) (by kernel_rfl) (fun _ _ _ h => h) (by rfl) ?_ s3 ?_
            · (intro wq hSw; go_simp <;> with_reducible rfl)
            try simp only [Act.put, List.setIfInBounds_toArray, List.set_cons_zero, List.set_cons_succ]
            refine take_run (i := 12) (oi := { dst := some 10, op := Go.Op.assign (Go.Operand.tmp 112), type := 4, pos := "law.go:85", after := #[{ on := 11, ground := Go.Ground.data }, { on := 10, ground := Go.Ground.chain }, { on := 0, ground := Go.Ground.phase }, { on := 1, ground := Go.Ground.phase }, { on := 2, ground := Go.Ground.phase }, { on := 3, ground := Go.Ground.phase }, { on := 4, ground := Go.Ground.phase }, { on := 5, ground := Go.Ground.phase }, { on := 6, ground := Go.Ground.phase }, { on := 7, ground := Go.Ground.phase }, { on := 8, ground := Go.Ground.phase }, { on := 9, ground := Go.Ground.phase }, { on := 10, ground := Go.Ground.phase }, { on := 11, ground := Go.Ground.phase }], guard := none }) (v := .bool true) rfl (by kernel_rfl) (by kernel_rfl) (by kernel_rfl) (fun _ _ _ h => h) (by rfl) ?_ s3 ?_
            · (intro wq hSw; go_simp <;> with_reducible rfl)
            try simp only [Act.put, List.setIfInBounds_toArray, List.set_cons_zero, List.set_cons_succ]
            refine wpAnyH_done (by kernel_rfl) ?_ _
            have BF : Hid (Below w.heap.size w m3) := BW6.out.trans (s3.mono BW6.out.size)
            clear s1 s2 s3 n1 n2 n3 hHeld Q17 Q19 BW6
            go_wp2
            go_ret
            exact ⟨rfl, BF.out⟩
end Go.Proofs.Ytbilnleglnbnlaa
