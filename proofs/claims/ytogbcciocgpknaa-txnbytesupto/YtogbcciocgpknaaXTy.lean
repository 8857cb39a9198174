/- TxnBytes: the walk. Written by gen_xty.py. -/
import Derived.Test.YtogbcciocgpknaaTaU
import Derived.Test.YtogbcciocgpknaaTaY
import Derived.Test.YtogbcciocgpknaaTaW
import Derived.Test.YtogbcciocgpknaaTaZ
namespace Go.Proofs.Ytogbcciocgpknaa
open Go.RowKit Go.Shelf Cod
attribute [local go_sem] Oper.semAt_some
set_option linter.unusedVariables false
theorem owns_lessX {w : World} {base g n c : Nat} {l : List (BitVec 8)} {b : BitVec 8} (h : w.ownsRow base 5 1 (.slice (some ⟨g, 0, none⟩) (n + 1) c) (n + 1) (cellsOf (l ++ [b]))) (hl : l.length = n) : w.ownsRow base 5 1 (.slice (some ⟨g, 0, none⟩) n c) n (cellsOf l) := by
  rcases h.2 with ⟨e, _⟩ | ⟨g', c', cur, e, hb, hg, hnc, hcm, hcs, htake⟩
  · cases e
  · cases e
    refine ⟨by rw [cellsOf_length]; omega, .inr ⟨g, c, cur, rfl, hb, hg, by omega, hcm, hcs, ?_⟩⟩
    have h2 := congrArg (List.take n) htake
    rw [List.take_take, cellsOf_append] at h2
    have h3 : (cellsOf l).length = n := by rw [cellsOf_length]; exact hl
    rw [List.take_left' h3, Nat.min_eq_left (by omega)] at h2
    rw [Nat.mul_one]
    exact h2
set_option maxRecDepth 100000 in
set_option maxHeartbeats 16000000 in
theorem txnBytes_any (g : Int) (k ok : Int) (of_ ot : ByteArray) (oa : Int) (oy : ByteArray) (os oh : Int) (id nm : ByteArray) (n why slot ep at_ : Int) (last : Bool) (da : Option Addr) (dc : Nat) (dl : List (BitVec 8)) (y : Int) (wt : Bool) (r1 r2 : Int) (qa : Option Addr) (qc : Nat) (rows : List (ByteArray × Int)) (ea : Option Addr) (ec : Nat) (el : List (BitVec 8)) (ba : Option Addr) (bc : Nat) (bl : List (BitVec 8)) (w : World)
    (hd : Seen w da dl.length dl) (hdn : da = none → dc = 0) (hg : i64ok g) (hc : CmdV.In ⟨k, ok, of_, ot, oa, oy, os, oh, id, nm, n, why, slot, ep, at_, last, .slice da dl.length dc⟩) (hz : CmdV.sz ⟨k, ok, of_, ot, oa, oy, os, oh, id, nm, n, why, slot, ep, at_, last, .slice da dl.length dc⟩ dl ≤ 70000000000000)
    (hr : RowsAt w qa rows.length rows) (hq : qa = none → qc = 0) (hi1 : i64ok y) (hi2 : i64ok r1) (hi3 : i64ok r2) (hri : ∀ r ∈ rows, i64ok r.2) (hrz : rowsSize rows ≤ 70000000000000) (hrm : rows.length * 24 ≤ 140737488355328)
    (he : Seen w ea el.length el) (hen : ea = none → ec = 0) (hem : el.length ≤ 70000000000000)
    (hb : Seen w ba bl.length bl) (hbn : ba = none → bc = 0) (hbm : bl.length + 1 ≤ 140737488355328) :
    Calls Try.prog 3 #[.agg #[.int .i64 g, .int .i64 k, .int .i64 ok, .string of_, .string ot, .int .i64 oa, .string oy, .int .i64 os, .int .i64 oh, .string id, .string nm, .int .i64 n, .int .i64 why, .int .i64 slot, .int .i64 ep, .int .i64 at_, .bool last, .slice da dl.length dc], .agg #[.int .i64 y, .bool wt, .int .i64 r1, .int .i64 r2, .slice qa rows.length qc, .slice ea el.length ec], .slice ba bl.length bc] w fun e w' => e = .returned (.bool true) ∧ Below w.heap.size w w' := by
  have bV : Below w.heap.size w ((w.alloc (.cells #[.int .i64 g, .int .i64 k, .int .i64 ok, .string of_, .string ot, .int .i64 oa, .string oy, .int .i64 os, .int .i64 oh, .string id, .string nm, .int .i64 n, .int .i64 why, .int .i64 slot, .int .i64 ep, .int .i64 at_, .bool last, .slice da dl.length dc] 29)).alloc (.cells #[.int .i64 y, .bool wt, .int .i64 r1, .int .i64 r2, .slice qa rows.length qc, .slice ea el.length ec] 34)) := ((Below.refl _ w).alloc (Nat.le_refl _) _).alloc (by simp) _
  have qA : ((w.alloc (.cells #[.int .i64 g, .int .i64 k, .int .i64 ok, .string of_, .string ot, .int .i64 oa, .string oy, .int .i64 os, .int .i64 oh, .string id, .string nm, .int .i64 n, .int .i64 why, .int .i64 slot, .int .i64 ep, .int .i64 at_, .bool last, .slice da dl.length dc] 29)).alloc (.cells #[.int .i64 y, .bool wt, .int .i64 r1, .int .i64 r2, .slice qa rows.length qc, .slice ea el.length ec] 34)).heap[w.heap.size]? = some (.cells #[.int .i64 g, .int .i64 k, .int .i64 ok, .string of_, .string ot, .int .i64 oa, .string oy, .int .i64 os, .int .i64 oh, .string id, .string nm, .int .i64 n, .int .i64 why, .int .i64 slot, .int .i64 ep, .int .i64 at_, .bool last, .slice da dl.length dc] 29 (0, 0)) := by rw [Below.heap_alloc _ _ _ (by simp), heap_alloc_new]
  have qR := heap_two w (.cells #[.int .i64 g, .int .i64 k, .int .i64 ok, .string of_, .string ot, .int .i64 oa, .string oy, .int .i64 os, .int .i64 oh, .string id, .string nm, .int .i64 n, .int .i64 why, .int .i64 slot, .int .i64 ep, .int .i64 at_, .bool last, .slice da dl.length dc] 29) (.cells #[.int .i64 y, .bool wt, .int .i64 r1, .int .i64 r2, .slice qa rows.length qc, .slice ea el.length ec] 34)
  obtain ⟨V, eV⟩ : ∃ V, ((w.alloc (.cells #[.int .i64 g, .int .i64 k, .int .i64 ok, .string of_, .string ot, .int .i64 oa, .string oy, .int .i64 os, .int .i64 oh, .string id, .string nm, .int .i64 n, .int .i64 why, .int .i64 slot, .int .i64 ep, .int .i64 at_, .bool last, .slice da dl.length dc] 29)).alloc (.cells #[.int .i64 y, .bool wt, .int .i64 r1, .int .i64 r2, .slice qa rows.length qc, .slice ea el.length ec] 34)) = V := ⟨_, rfl⟩
  rw [eV] at bV qA qR
  have EV : Hid _ := eV
  have BV : Hid (Below w.heap.size w V) := bV
  have QA : Hid (V.heap[w.heap.size]? = some (.cells #[.int .i64 g, .int .i64 k, .int .i64 ok, .string of_, .string ot, .int .i64 oa, .string oy, .int .i64 os, .int .i64 oh, .string id, .string nm, .int .i64 n, .int .i64 why, .int .i64 slot, .int .i64 ep, .int .i64 at_, .bool last, .slice da dl.length dc] 29 (0, 0))) := qA
  have QR : Hid (V.heap[w.heap.size + 1]? = some (.cells #[.int .i64 y, .bool wt, .int .i64 r1, .int .i64 r2, .slice qa rows.length qc, .slice ea el.length ec] 34 (0, 0))) := qR
  obtain ⟨C, hC⟩ : ∃ C : CmdV, C = ⟨k, ok, of_, ot, oa, oy, os, oh, id, nm, n, why, slot, ep, at_, last, .slice da dl.length dc⟩ := ⟨_, rfl⟩
  have EC : Hid (C = ⟨k, ok, of_, ot, oa, oy, os, oh, id, nm, n, why, slot, ep, at_, last, .slice da dl.length dc⟩) := hC
  have HC : Hid (i64ok g ∧ C.In ∧ C.sz dl ≤ 70000000000000) := ⟨hg, by rw [hC]; exact hc, by rw [hC]; exact hz⟩
  have HD : Hid (Seen V da dl.length dl ∧ (da = none → dc = 0)) := ⟨hd.below bV, hdn⟩
  have HR : Hid (RowsAt V qa rows.length rows ∧ (qa = none → qc = 0) ∧ rowsSize rows ≤ 70000000000000 ∧ rows.length * 24 ≤ 140737488355328) := ⟨hr.below bV, hq, hrz, hrm⟩
  have HI : Hid (i64ok y ∧ i64ok r1 ∧ i64ok r2 ∧ (∀ r ∈ rows, i64ok r.2)) := ⟨hi1, hi2, hi3, hri⟩
  have HE : Hid (Seen V ea el.length el ∧ (ea = none → ec = 0) ∧ el.length ≤ 70000000000000) := ⟨he.below bV, hen, hem⟩
  have HB : Hid (Seen V ba bl.length bl ∧ (ba = none → bc = 0) ∧ bl.length + 1 ≤ 140737488355328) := ⟨hb.below bV, hbn, hbm⟩
  clear hd hdn hg hc hz hr hq hi1 hi2 hi3 hri hrz hrm he hen hem hb hbn hbm bV qA qR eV hC
  go_enter Try.func3, Try.ntmps3
  repeat
    (fail_if_success (guard_target =~ (Code.region 1 _ _).wp _ _ _ _)
     first | go_values | go_skip | go_guarded | go_step | go_upon | go_back | go_simp)
  rw [show _ = V from EV.out]
  clear EV
  refine tb_r1 V w.heap.size g k ok of_ ot oa oy os oh id nm n why slot ep at_ last da dc dl C EC.out _ _ _ _ _ _ _ _ _ _ _ _ _ _ _ _ _ _ _ _ _ _ _ _ _ _ _ _ _ _ _ _ _ _ _ _ _ _ _ _ _ _ _ _ _ _ _ _ _ _ _ _ _ _ _ _ _ _ _ _ _ _ _ _ _ _ _ _ _ _ _ _ _ _ _ _ _ _ _ _ _ _ _ _ _ _ _ _ _ _ _ _ _ _ _ _ _ _ _ _ _ _ _ _ _ _ _ _ _ _ _ _ _ _ _ _ _ _ _ _ _ _ _ _ _ _ _ _ _ _ _ _ _ _ _ _ _ _ _ _ _ _ _ _ _ _ _ _ _ _ _ _ _ _ _ _ _ _ _ _ _ _ _ _ _ _ _ _ _ _ _ _ _ _ _ _ _ _ _ _ _ _ _ _ _ _ _ _ _ _ _ _ _ _ _ _ QA.out HD.out.1 HD.out.2 HC.out.1 HC.out.2.1 HC.out.2.2 _ _ ?_
  intro u30 u31 u32 u33 u34 u35 u36 u37 u38 u39 xv Y1 gx b1
  have B1 : Hid (Below V.heap.size V Y1) := b1
  have GX : Hid (Got Y1 xv (askL g C dl)) := gx
  have QA1 : Hid (Y1.heap[w.heap.size]? = some (.cells #[.int .i64 g, .int .i64 k, .int .i64 ok, .string of_, .string ot, .int .i64 oa, .string oy, .int .i64 os, .int .i64 oh, .string id, .string nm, .int .i64 n, .int .i64 why, .int .i64 slot, .int .i64 ep, .int .i64 at_, .bool last, .slice da dl.length dc] 29 (0, 0))) := (b1.block _ (Array.getElem?_eq_some_iff.1 QA.out).1).trans QA.out
  clear gx b1
  go_wp2_with (refine wpList_load_row rfl 29 (.tmp 3) rfl w.heap.size rfl 29 _ (0, 0) _ QA1.out Try.underlying29 rfl (by kernel_rfl) ?_)
  have HX := rtBytes_any g k ok of_ ot oa oy os oh id nm n why slot ep at_ last da dc dl Y1 HC.out.1 (by have := HC.out.2.1; rw [EC.out] at this; exact this) ⟨da, dc, rfl, HD.out.1.below B1.out, HD.out.2⟩ (by have := HC.out.2.2; rw [EC.out] at this; exact this)
  unfold Asked at HX
  rw [← EC.out] at HX
  clear QA1
  refine HX.mono ?_
  clear HX
  rintro e Y2 ⟨yv, rfl, gy, b2⟩
  have B2 : Hid (Below V.heap.size V Y2) := B1.out.trans (b2.mono B1.out.size)
  have GX2 : Hid (Got Y2 xv (askL g C dl)) := GX.out.below b2
  have GY : Hid (Got Y2 yv (askL g C dl)) := gy
  have QR2 : Hid (Y2.heap[w.heap.size + 1]? = some (.cells #[.int .i64 y, .bool wt, .int .i64 r1, .int .i64 r2, .slice qa rows.length qc, .slice ea el.length ec] 34 (0, 0))) := (B2.out.block _ (Array.getElem?_eq_some_iff.1 QR.out).1).trans QR.out
  clear gy b2 B1 GX
  obtain ⟨aw, eaw⟩ : ∃ aw, askW g C dl = aw := ⟨_, rfl⟩
  have EAW : Hid (askW g C dl = aw) := eaw
  rw [eaw]
  clear eaw
  go_wp2_with (refine wpList_load_row rfl 34 (.tmp 4) rfl (w.heap.size + 1) rfl 34 _ (0, 0) _ QR2.out Try.underlying34 rfl (by kernel_rfl) ?_)
  refine (resultY_any y wt r1 r2 qa qc rows ea ec el Y2 (HR.out.1.below B2.out) HR.out.2.1 HR.out.2.2.2 (HE.out.1.below B2.out) HE.out.2.1 (by have := HE.out.2.2; omega)).mono ?_
  rintro e Y3 ⟨a4, c4, a6, c6, rfl, rr3, fd3, b3⟩
  have B3 : Hid (Below V.heap.size V Y3) := B2.out.trans (b3.mono B2.out.size)
  have GX3 : Hid (Got Y3 xv (askL g C dl)) := GX2.out.below b3
  have GY3 : Hid (Got Y3 yv (askL g C dl)) := GY.out.below b3
  have R3 : Hid (RowsAt Y3 a4 rows.length rows ∧ Got Y3 (.slice a6 el.length c6) el) := ⟨rr3, fd3.got⟩
  clear rr3 fd3 b3 GX2 GY QR2 B2
  go_wp2_with fail
  refine (tPut_any y wt r1 r2 a4 c4 rows a6 c6 el Y3 HI.out.1 HI.out.2.1 HI.out.2.2.1 HI.out.2.2.2 R3.out.1 R3.out.2 HR.out.2.2.1).mono ?_
  rintro e Y4 ⟨pv, rfl, gp, b4⟩
  have B4 : Hid (Below V.heap.size V Y4) := B3.out.trans (b4.mono B3.out.size)
  have GX4 : Hid (Got Y4 xv (askL g C dl)) := GX3.out.below b4
  have GY4 : Hid (Got Y4 yv (askL g C dl)) := GY3.out.below b4
  have GP4 : Hid (Got Y4 pv (resL y wt r1 r2 rows el)) := gp
  have QR4 : Hid (Y4.heap[w.heap.size + 1]? = some (.cells #[.int .i64 y, .bool wt, .int .i64 r1, .int .i64 r2, .slice qa rows.length qc, .slice ea el.length ec] 34 (0, 0))) := (B4.out.block _ (Array.getElem?_eq_some_iff.1 QR.out).1).trans QR.out
  clear gp b4 GX3 GY3 B3 R3
  obtain ⟨rw_, erw⟩ : ∃ rw_, resW y wt r1 r2 rows el = rw_ := ⟨_, rfl⟩
  have ERW : Hid (resW y wt r1 r2 rows el = rw_) := erw
  rw [erw]
  clear erw
  go_wp2_with (refine wpList_load_row rfl 34 (.tmp 4) rfl (w.heap.size + 1) rfl 34 _ (0, 0) _ QR4.out Try.underlying34 rfl (by kernel_rfl) ?_)
  have HX := rtPut_any y wt r1 r2 qa qc rows ea ec el Y4 HI.out.1 HI.out.2.1 HI.out.2.2.1 HI.out.2.2.2 (HR.out.1.below B4.out) ⟨ea, ec, rfl, HE.out.1.below B4.out, HE.out.2.1⟩ HR.out.2.2.1
  unfold Put at HX
  rw [ERW.out] at HX
  refine HX.mono ?_
  clear HX
  rintro e Y5 ⟨qv, rfl, gq, b5⟩
  have B5 : Hid (Below V.heap.size V Y5) := B4.out.trans (b5.mono B4.out.size)
  have gx5 := GX4.out.below b5
  have gy5 := GY4.out.below b5
  have gp5 := GP4.out.below b5
  have GX5 : Hid (Got Y5 xv (askL g C dl)) := gx5
  have GP5 : Hid (Got Y5 pv (resL y wt r1 r2 rows el)) := gp5
  obtain ⟨xl, exl⟩ : ∃ xl, askL g C dl = xl := ⟨_, rfl⟩
  obtain ⟨pl, epl⟩ : ∃ pl, resL y wt r1 r2 rows el = pl := ⟨_, rfl⟩
  rw [exl] at gx5 gy5
  rw [epl] at gp5 gq
  rw [exl] at GX5
  rw [epl] at GP5
  have EXL : Hid (askL g C dl = xl) := exl
  have EPL : Hid (resL y wt r1 r2 rows el = pl) := epl
  clear exl epl
  obtain ⟨xa, xc, rfl, sx, _⟩ := gx5
  obtain ⟨ya, yc, rfl, sy, _⟩ := gy5
  obtain ⟨pa, pc, rfl, sp, _⟩ := gp5
  obtain ⟨qva, qvc, rfl, sq, _⟩ := gq
  have t1 := run_to_text Y5 xa _ xc xl sx
  have t2 := run_to_text Y5 ya _ yc xl sy
  have t3 := run_to_text Y5 pa _ pc pl sp
  have t4 := run_to_text Y5 qva _ qvc pl sq
  have t5 := text_self (textOf xl)
  have t6 := text_self (textOf pl)
  have k1 : (aw != aw) = false := by simp
  have k2 : (rw_ != rw_) = false := by simp
  clear GX4 GY4 GP4 QR4 b5 sx sy sp sq B4
  obtain ⟨tx, etx⟩ : ∃ tx, textOf xl = tx := ⟨_, rfl⟩
  obtain ⟨tp, etp⟩ : ∃ tp, textOf pl = tp := ⟨_, rfl⟩
  rw [etx] at t1 t2 t5
  rw [etp] at t3 t4 t6
  clear etx etp
  go_wp2_with fail
  clear t1 t2 t3 t4 t5 t6 k1 k2
  refine (lent_any ba bl.length bc bl Y5 (HB.out.1.below B5.out) HB.out.2.1 HB.out.2.2).mono ?_
  rintro e Y6 ⟨og, oc, rfl, o6, b6⟩
  have B6 : Hid (Below Y5.heap.size Y5 Y6) := b6
  have O6 : Hid (Y6.ownsRow Y5.heap.size 5 1 (.slice (some ⟨og, 0, none⟩) (bl.length + 1) oc) (bl.length + 1) (cellsOf (bl ++ [167#8]))) := o6
  have GO6 : Hid (Got Y6 (.slice (some ⟨og, 0, none⟩) bl.length oc) bl) := got_owned (owns_lessX o6 rfl) (by have := HB.out.2.2; unfold maxLen; omega)
  clear b6 o6
  go_wp2_with fail
  refine (tParse_any GO6.out (by have := HB.out.2.2; omega)).mono ?_
  intro e Y7 hP
  obtain ⟨aa, ca, rfl, sn, b7⟩ := hP.same
  clear hP
  have hz7 := heap_alloc_new Y7 (.cells #[.int .i64 0, .int .i64 0, .int .i64 0, .string ⟨#[]⟩, .string ⟨#[]⟩, .int .i64 0, .string ⟨#[]⟩, .int .i64 0, .int .i64 0, .string ⟨#[]⟩, .string ⟨#[]⟩, .int .i64 0, .int .i64 0, .int .i64 0, .int .i64 0, .int .i64 0, .bool false, .slice none 0 0] 40)
  have HZ7 : Hid _ := hz7
  have q7 := setRow_selfX (cs' := #[.int .i64 (tpG bl), .int .i64 (tpQ bl).k, .int .i64 (tpQ bl).ok, .string (tpQ bl).of_, .string (tpQ bl).ot, .int .i64 (tpQ bl).oa, .string (tpQ bl).oy, .int .i64 (tpQ bl).os, .int .i64 (tpQ bl).oh, .string (tpQ bl).id, .string (tpQ bl).nm, .int .i64 (tpQ bl).n, .int .i64 (tpQ bl).why, .int .i64 (tpQ bl).slot, .int .i64 (tpQ bl).ep, .int .i64 (tpQ bl).at_, .bool (tpQ bl).last, .slice aa (tpD bl).length ca]) hz7
  have bb7 : Below Y7.heap.size Y7 ((Y7.alloc (.cells #[.int .i64 0, .int .i64 0, .int .i64 0, .string ⟨#[]⟩, .string ⟨#[]⟩, .int .i64 0, .string ⟨#[]⟩, .int .i64 0, .int .i64 0, .string ⟨#[]⟩, .string ⟨#[]⟩, .int .i64 0, .int .i64 0, .int .i64 0, .int .i64 0, .int .i64 0, .bool false, .slice none 0 0] 40)).setRow Y7.heap.size #[.int .i64 (tpG bl), .int .i64 (tpQ bl).k, .int .i64 (tpQ bl).ok, .string (tpQ bl).of_, .string (tpQ bl).ot, .int .i64 (tpQ bl).oa, .string (tpQ bl).oy, .int .i64 (tpQ bl).os, .int .i64 (tpQ bl).oh, .string (tpQ bl).id, .string (tpQ bl).nm, .int .i64 (tpQ bl).n, .int .i64 (tpQ bl).why, .int .i64 (tpQ bl).slot, .int .i64 (tpQ bl).ep, .int .i64 (tpQ bl).at_, .bool (tpQ bl).last, .slice aa (tpD bl).length ca]) := below_rowX ((Below.refl _ Y7).alloc (Nat.le_refl _) _) (Nat.le_refl _) _
  obtain ⟨Y8, e7⟩ : ∃ x, (Y7.alloc (.cells #[.int .i64 0, .int .i64 0, .int .i64 0, .string ⟨#[]⟩, .string ⟨#[]⟩, .int .i64 0, .string ⟨#[]⟩, .int .i64 0, .int .i64 0, .string ⟨#[]⟩, .string ⟨#[]⟩, .int .i64 0, .int .i64 0, .int .i64 0, .int .i64 0, .int .i64 0, .bool false, .slice none 0 0] 40)).setRow Y7.heap.size #[.int .i64 (tpG bl), .int .i64 (tpQ bl).k, .int .i64 (tpQ bl).ok, .string (tpQ bl).of_, .string (tpQ bl).ot, .int .i64 (tpQ bl).oa, .string (tpQ bl).oy, .int .i64 (tpQ bl).os, .int .i64 (tpQ bl).oh, .string (tpQ bl).id, .string (tpQ bl).nm, .int .i64 (tpQ bl).n, .int .i64 (tpQ bl).why, .int .i64 (tpQ bl).slot, .int .i64 (tpQ bl).ep, .int .i64 (tpQ bl).at_, .bool (tpQ bl).last, .slice aa (tpD bl).length ca] = x := ⟨_, rfl⟩
  rw [e7] at q7 bb7
  have E7 : Hid _ := e7
  clear hz7
  have B7 : Hid (Below Y5.heap.size Y5 Y8) := (B6.out.trans (b7.mono B6.out.size)).trans (bb7.mono (B6.out.trans (b7.mono B6.out.size)).size)
  have L7 : Hid (Below Y6.heap.size Y6 Y8) := b7.trans (bb7.mono b7.size)
  have QC : Hid (Y8.heap[Y7.heap.size]? = some (.cells #[.int .i64 (tpG bl), .int .i64 (tpQ bl).k, .int .i64 (tpQ bl).ok, .string (tpQ bl).of_, .string (tpQ bl).ot, .int .i64 (tpQ bl).oa, .string (tpQ bl).oy, .int .i64 (tpQ bl).os, .int .i64 (tpQ bl).oh, .string (tpQ bl).id, .string (tpQ bl).nm, .int .i64 (tpQ bl).n, .int .i64 (tpQ bl).why, .int .i64 (tpQ bl).slot, .int .i64 (tpQ bl).ep, .int .i64 (tpQ bl).at_, .bool (tpQ bl).last, .slice aa (tpD bl).length ca] 40 (0, 0))) := q7
  have SA : Hid (Seen Y8 aa (tpD bl).length (tpD bl)) := sn.below bb7
  clear sn q7 bb7 b7 e7
  go_wp2_with (refine wpList_store_row rfl 40 (.tmp 16) (.tmp 83) rfl Y7.heap.size #[.int .i64 (tpG bl), .int .i64 (tpQ bl).k, .int .i64 (tpQ bl).ok, .string (tpQ bl).of_, .string (tpQ bl).ot, .int .i64 (tpQ bl).oa, .string (tpQ bl).oy, .int .i64 (tpQ bl).os, .int .i64 (tpQ bl).oh, .string (tpQ bl).id, .string (tpQ bl).nm, .int .i64 (tpQ bl).n, .int .i64 (tpQ bl).why, .int .i64 (tpQ bl).slot, .int .i64 (tpQ bl).ep, .int .i64 (tpQ bl).at_, .bool (tpQ bl).last, .slice aa (tpD bl).length ca] rfl rfl 40 _ HZ7.out (by kernel_rfl) rfl (by simp [Value.oneCell']) ?_)
  rw [show _ = Y8 from E7.out]
  clear E7 HZ7
  refine (rtParse_any ⟨ba, bc, rfl, (HB.out.1.below B5.out).below B7.out, HB.out.2.1⟩ (by have := HB.out.2.2; omega)).mono ?_
  intro e Y9 hP
  obtain ⟨ab, cb, rfl, sn, b9⟩ := hP.same
  clear hP
  have hz9 := heap_alloc_new Y9 (.cells #[.int .i64 0, .int .i64 0, .int .i64 0, .string ⟨#[]⟩, .string ⟨#[]⟩, .int .i64 0, .string ⟨#[]⟩, .int .i64 0, .int .i64 0, .string ⟨#[]⟩, .string ⟨#[]⟩, .int .i64 0, .int .i64 0, .int .i64 0, .int .i64 0, .int .i64 0, .bool false, .slice none 0 0] 29)
  have HZ9 : Hid _ := hz9
  have q9 := setRow_selfX (cs' := #[.int .i64 (tpG bl), .int .i64 (tpQ bl).k, .int .i64 (tpQ bl).ok, .string (tpQ bl).of_, .string (tpQ bl).ot, .int .i64 (tpQ bl).oa, .string (tpQ bl).oy, .int .i64 (tpQ bl).os, .int .i64 (tpQ bl).oh, .string (tpQ bl).id, .string (tpQ bl).nm, .int .i64 (tpQ bl).n, .int .i64 (tpQ bl).why, .int .i64 (tpQ bl).slot, .int .i64 (tpQ bl).ep, .int .i64 (tpQ bl).at_, .bool (tpQ bl).last, .slice ab (tpD bl).length cb]) hz9
  have bb9 : Below Y9.heap.size Y9 ((Y9.alloc (.cells #[.int .i64 0, .int .i64 0, .int .i64 0, .string ⟨#[]⟩, .string ⟨#[]⟩, .int .i64 0, .string ⟨#[]⟩, .int .i64 0, .int .i64 0, .string ⟨#[]⟩, .string ⟨#[]⟩, .int .i64 0, .int .i64 0, .int .i64 0, .int .i64 0, .int .i64 0, .bool false, .slice none 0 0] 29)).setRow Y9.heap.size #[.int .i64 (tpG bl), .int .i64 (tpQ bl).k, .int .i64 (tpQ bl).ok, .string (tpQ bl).of_, .string (tpQ bl).ot, .int .i64 (tpQ bl).oa, .string (tpQ bl).oy, .int .i64 (tpQ bl).os, .int .i64 (tpQ bl).oh, .string (tpQ bl).id, .string (tpQ bl).nm, .int .i64 (tpQ bl).n, .int .i64 (tpQ bl).why, .int .i64 (tpQ bl).slot, .int .i64 (tpQ bl).ep, .int .i64 (tpQ bl).at_, .bool (tpQ bl).last, .slice ab (tpD bl).length cb]) := below_rowX ((Below.refl _ Y9).alloc (Nat.le_refl _) _) (Nat.le_refl _) _
  obtain ⟨Y10, e9⟩ : ∃ x, (Y9.alloc (.cells #[.int .i64 0, .int .i64 0, .int .i64 0, .string ⟨#[]⟩, .string ⟨#[]⟩, .int .i64 0, .string ⟨#[]⟩, .int .i64 0, .int .i64 0, .string ⟨#[]⟩, .string ⟨#[]⟩, .int .i64 0, .int .i64 0, .int .i64 0, .int .i64 0, .int .i64 0, .bool false, .slice none 0 0] 29)).setRow Y9.heap.size #[.int .i64 (tpG bl), .int .i64 (tpQ bl).k, .int .i64 (tpQ bl).ok, .string (tpQ bl).of_, .string (tpQ bl).ot, .int .i64 (tpQ bl).oa, .string (tpQ bl).oy, .int .i64 (tpQ bl).os, .int .i64 (tpQ bl).oh, .string (tpQ bl).id, .string (tpQ bl).nm, .int .i64 (tpQ bl).n, .int .i64 (tpQ bl).why, .int .i64 (tpQ bl).slot, .int .i64 (tpQ bl).ep, .int .i64 (tpQ bl).at_, .bool (tpQ bl).last, .slice ab (tpD bl).length cb] = x := ⟨_, rfl⟩
  rw [e9] at q9 bb9
  have E9 : Hid _ := e9
  clear hz9
  have B9 : Hid (Below Y5.heap.size Y5 Y10) := (B7.out.trans (b9.mono B7.out.size)).trans (bb9.mono (B7.out.trans (b9.mono B7.out.size)).size)
  have L9 : Hid (Below Y8.heap.size Y8 Y10) := b9.trans (bb9.mono b9.size)
  have QD : Hid (Y10.heap[Y9.heap.size]? = some (.cells #[.int .i64 (tpG bl), .int .i64 (tpQ bl).k, .int .i64 (tpQ bl).ok, .string (tpQ bl).of_, .string (tpQ bl).ot, .int .i64 (tpQ bl).oa, .string (tpQ bl).oy, .int .i64 (tpQ bl).os, .int .i64 (tpQ bl).oh, .string (tpQ bl).id, .string (tpQ bl).nm, .int .i64 (tpQ bl).n, .int .i64 (tpQ bl).why, .int .i64 (tpQ bl).slot, .int .i64 (tpQ bl).ep, .int .i64 (tpQ bl).at_, .bool (tpQ bl).last, .slice ab (tpD bl).length cb] 29 (0, 0))) := q9
  have SB : Hid (Seen Y10 ab (tpD bl).length (tpD bl)) := sn.below bb9
  clear sn q9 bb9 b9 e9
  go_wp2_with (refine wpList_store_row rfl 29 (.tmp 18) (.tmp 88) rfl Y9.heap.size #[.int .i64 (tpG bl), .int .i64 (tpQ bl).k, .int .i64 (tpQ bl).ok, .string (tpQ bl).of_, .string (tpQ bl).ot, .int .i64 (tpQ bl).oa, .string (tpQ bl).oy, .int .i64 (tpQ bl).os, .int .i64 (tpQ bl).oh, .string (tpQ bl).id, .string (tpQ bl).nm, .int .i64 (tpQ bl).n, .int .i64 (tpQ bl).why, .int .i64 (tpQ bl).slot, .int .i64 (tpQ bl).ep, .int .i64 (tpQ bl).at_, .bool (tpQ bl).last, .slice ab (tpD bl).length cb] rfl rfl 29 _ HZ9.out (by kernel_rfl) rfl (by simp [Value.oneCell']) ?_)
  rw [show _ = Y10 from E9.out]
  clear E9 HZ9
  refine (tGet_any ((GO6.out.below L7.out).below L9.out) (by have := HB.out.2.2; omega)).mono ?_
  rintro e Y11 ⟨qb, qd, eb, ed, rfl, fr, _, fd, _, b11⟩
  have hz11 := heap_alloc_new Y11 (.cells #[.int .i64 0, .bool false, .int .i64 0, .int .i64 0, .slice none 0 0, .slice none 0 0] 43)
  have HZ11 : Hid _ := hz11
  have q11 := setRow_selfX (cs' := #[.int .i64 (grY bl), .bool (grL bl), .int .i64 (grA bl), .int .i64 (grM bl), .slice qb (grR bl).length qd, .slice eb (grD bl).length ed]) hz11
  have bb11 : Below Y11.heap.size Y11 ((Y11.alloc (.cells #[.int .i64 0, .bool false, .int .i64 0, .int .i64 0, .slice none 0 0, .slice none 0 0] 43)).setRow Y11.heap.size #[.int .i64 (grY bl), .bool (grL bl), .int .i64 (grA bl), .int .i64 (grM bl), .slice qb (grR bl).length qd, .slice eb (grD bl).length ed]) := below_rowX ((Below.refl _ Y11).alloc (Nat.le_refl _) _) (Nat.le_refl _) _
  obtain ⟨Y12, e11⟩ : ∃ x, (Y11.alloc (.cells #[.int .i64 0, .bool false, .int .i64 0, .int .i64 0, .slice none 0 0, .slice none 0 0] 43)).setRow Y11.heap.size #[.int .i64 (grY bl), .bool (grL bl), .int .i64 (grA bl), .int .i64 (grM bl), .slice qb (grR bl).length qd, .slice eb (grD bl).length ed] = x := ⟨_, rfl⟩
  rw [e11] at q11 bb11
  have E11 : Hid _ := e11
  clear hz11
  have B11 : Hid (Below Y5.heap.size Y5 Y12) := (B9.out.trans (b11.mono B9.out.size)).trans (bb11.mono (B9.out.trans (b11.mono B9.out.size)).size)
  have L11 : Hid (Below Y10.heap.size Y10 Y12) := b11.trans (bb11.mono b11.size)
  have QS : Hid (Y12.heap[Y11.heap.size]? = some (.cells #[.int .i64 (grY bl), .bool (grL bl), .int .i64 (grA bl), .int .i64 (grM bl), .slice qb (grR bl).length qd, .slice eb (grD bl).length ed] 43 (0, 0))) := q11
  obtain ⟨_, _, eq, sn, _, _⟩ := fd
  cases eq
  have SS : Hid (Seen Y12 eb (grD bl).length (grD bl) ∧ RowsAt Y12 qb (grR bl).length (grR bl)) := ⟨sn.below bb11, fr.1.below bb11⟩
  clear sn fr q11 bb11 b11 e11
  go_wp2_with (refine wpList_store_row rfl 43 (.tmp 20) (.tmp 93) rfl Y11.heap.size #[.int .i64 (grY bl), .bool (grL bl), .int .i64 (grA bl), .int .i64 (grM bl), .slice qb (grR bl).length qd, .slice eb (grD bl).length ed] rfl rfl 43 _ HZ11.out (by kernel_rfl) rfl (by simp [Value.oneCell']) ?_)
  rw [show _ = Y12 from E11.out]
  clear E11 HZ11
  refine (rtGet_any ⟨ba, bc, rfl, (HB.out.1.below B5.out).below B11.out, HB.out.2.1⟩ (by have := HB.out.2.2; omega)).mono ?_
  rintro e Y13 ⟨qe, qf, ee, ef, rfl, fr, _, fd, _, b13⟩
  have hz13 := heap_alloc_new Y13 (.cells #[.int .i64 0, .bool false, .int .i64 0, .int .i64 0, .slice none 0 0, .slice none 0 0] 34)
  have HZ13 : Hid _ := hz13
  have q13 := setRow_selfX (cs' := #[.int .i64 (grY bl), .bool (grL bl), .int .i64 (grA bl), .int .i64 (grM bl), .slice qe (grR bl).length qf, .slice ee (grD bl).length ef]) hz13
  have bb13 : Below Y13.heap.size Y13 ((Y13.alloc (.cells #[.int .i64 0, .bool false, .int .i64 0, .int .i64 0, .slice none 0 0, .slice none 0 0] 34)).setRow Y13.heap.size #[.int .i64 (grY bl), .bool (grL bl), .int .i64 (grA bl), .int .i64 (grM bl), .slice qe (grR bl).length qf, .slice ee (grD bl).length ef]) := below_rowX ((Below.refl _ Y13).alloc (Nat.le_refl _) _) (Nat.le_refl _) _
  obtain ⟨Y14, e13⟩ : ∃ x, (Y13.alloc (.cells #[.int .i64 0, .bool false, .int .i64 0, .int .i64 0, .slice none 0 0, .slice none 0 0] 34)).setRow Y13.heap.size #[.int .i64 (grY bl), .bool (grL bl), .int .i64 (grA bl), .int .i64 (grM bl), .slice qe (grR bl).length qf, .slice ee (grD bl).length ef] = x := ⟨_, rfl⟩
  rw [e13] at q13 bb13
  have E13 : Hid _ := e13
  clear hz13
  have B13 : Hid (Below Y5.heap.size Y5 Y14) := (B11.out.trans (b13.mono B11.out.size)).trans (bb13.mono (B11.out.trans (b13.mono B11.out.size)).size)
  have L13 : Hid (Below Y12.heap.size Y12 Y14) := b13.trans (bb13.mono b13.size)
  have QT : Hid (Y14.heap[Y13.heap.size]? = some (.cells #[.int .i64 (grY bl), .bool (grL bl), .int .i64 (grA bl), .int .i64 (grM bl), .slice qe (grR bl).length qf, .slice ee (grD bl).length ef] 34 (0, 0))) := q13
  obtain ⟨_, _, eq, sn, _, _⟩ := fd
  cases eq
  have ST : Hid (Seen Y14 ee (grD bl).length (grD bl) ∧ RowsAt Y14 qe (grR bl).length (grR bl)) := ⟨sn.below bb13, fr.1.below bb13⟩
  clear sn fr q13 bb13 b13 e13
  repeat
    (fail_if_success (guard_target =~ (Code.region 12 _ _).wp _ _ _ _)
     first | (refine wpList_store_row rfl 34 (.tmp 22) (.tmp 98) rfl Y13.heap.size #[.int .i64 (grY bl), .bool (grL bl), .int .i64 (grA bl), .int .i64 (grM bl), .slice qe (grR bl).length qf, .slice ee (grD bl).length ef] rfl rfl 34 _ HZ13.out (by kernel_rfl) rfl (by simp [Value.oneCell']) ?_) | go_values | go_skip | go_guarded | go_step | go_upon | go_back | go_simp)
  rw [show _ = Y14 from E13.out]
  clear E13 HZ13
  have LA : Below Y8.heap.size Y8 Y14 := L9.out.trans ((L11.out.trans (L13.out.mono L11.out.size)).mono L9.out.size)
  have LB : Below Y10.heap.size Y10 Y14 := L11.out.trans (L13.out.mono L11.out.size)
  refine tb_r12 Y14 Y7.heap.size Y9.heap.size Y11.heap.size Y13.heap.size Y5.heap.size og oc (tpW bl) (grW bl : Nat) ba bc bl (tpG bl) (tpQ bl).k (tpQ bl).ok (tpQ bl).of_ (tpQ bl).ot (tpQ bl).oa (tpQ bl).oy (tpQ bl).os (tpQ bl).oh (tpQ bl).id (tpQ bl).nm (tpQ bl).n (tpQ bl).why (tpQ bl).slot (tpQ bl).ep (tpQ bl).at_ (tpQ bl).last aa ab ca cb (tpD bl) (grY bl) (grL bl) (grA bl) (grM bl) qb qd qe qf (grR bl) eb ed ee ef (grD bl) _ _ _ _ _ _ _ _ _ _ _ _ _ _ _ _ _ _ _ _ _ _ _ _ _ _ _ _ _ _ _ _ _ _ _ _ _ _ _ _ _ _ _ _ _ _ _ _ _ _ _ _ _ _ _ _ _ _ _ _ _ _ _ _ _ _ _ _ _ _ _ _ _ _ _ _ _ _ _ _ _ _ _ _ _ _ _ _ _ _ _ _ _ _ _ _ _ _ _ _ _ _ _ _ _ _ _ _ _ _ _ _ _ _ _ _ _ _ _ _ _ _ _ _ _ _ _ _ _ _ _ _ _ _ _ _ _ _ _ _ _ _ _ _ _ _ _ _ _ _ _ _ _ _ _ _ _ _ _ _ _ _ _ _ _ _ _ _ _ _ _ _ _ _ _ _ _ _ _ _ _ _ _ _ _ _ _ ((LA.block _ (Array.getElem?_eq_some_iff.1 QC.out).1).trans QC.out) ((LB.block _ (Array.getElem?_eq_some_iff.1 QD.out).1).trans QD.out) (SA.out.below LA) (SB.out.below LB) ((L13.out.block _ (Array.getElem?_eq_some_iff.1 QS.out).1).trans QS.out) QT.out (SS.out.2.below L13.out) ST.out.2 (SS.out.1.below L13.out) ST.out.1 (owns_belowX O6.out (L7.out.trans (LA.mono L7.out.size))) ((HB.out.1.below B5.out).below B13.out) HB.out.2.2 _ _ ?_
  intro u100 u101 u102 u103 u104 u105 u106 u107 u108 u109 u110 u111 u112 u113 u114 u115 u116 u117 u118 u119 u120 u121 u122 u123 u124 u125 u126 Y15 b15
  have O15 : Hid (Y15.ownsRow Y5.heap.size 5 1 (.slice (some ⟨og, 0, none⟩) bl.length oc) bl.length (cellsOf bl)) := owns_lessX (owns_belowX (owns_belowX O6.out (L7.out.trans (LA.mono L7.out.size))) b15) rfl
  have B15 : Hid (Below Y5.heap.size Y5 Y15) := B13.out.trans (b15.mono B13.out.size)
  clear LA LB QC QD QS QT SA SB SS ST L7 L9 L11 L13 B7 B9 B11 B13 b15 O6 GO6 B6
  have QA5 : Hid (Y5.heap[w.heap.size]? = some (.cells #[.int .i64 g, .int .i64 k, .int .i64 ok, .string of_, .string ot, .int .i64 oa, .string oy, .int .i64 os, .int .i64 oh, .string id, .string nm, .int .i64 n, .int .i64 why, .int .i64 slot, .int .i64 ep, .int .i64 at_, .bool last, .slice da dl.length dc] 29 (0, 0))) := (B5.out.block _ (Array.getElem?_eq_some_iff.1 QA.out).1).trans QA.out
  have QR5 : Hid (Y5.heap[w.heap.size + 1]? = some (.cells #[.int .i64 y, .bool wt, .int .i64 r1, .int .i64 r2, .slice qa rows.length qc, .slice ea el.length ec] 34 (0, 0))) := (B5.out.block _ (Array.getElem?_eq_some_iff.1 QR.out).1).trans QR.out
  have GXL : Hid (Got Y5 (.slice xa xl.length xc) (askL g C dl)) := by rw [EXL.out]; exact GX5.out
  have GPL : Hid (Got Y5 (.slice pa pl.length pc) (resL y wt r1 r2 rows el)) := by rw [EPL.out]; exact GP5.out
  clear GX5 GP5
  generalize tpW bl = i17 at *
  generalize ((grW bl : Nat) : Int) = i21 at *
  repeat
    (fail_if_success (guard_target =~ (Code.seq (Code.region 14 _ _) _).wp _ _ _ _)
     first | go_values | go_skip | go_guarded | go_step | go_upon | go_back | go_simp)
  rw [← EAW.out, ← ERW.out]
  refine tb_tail Y5 Y15 w.heap.size (w.heap.size + 1) og oc bl _ _ g k ok of_ ot oa oy os oh id nm n why slot ep at_ last da dc dl C EC.out y wt r1 r2 qa qc rows ea ec el _ _ _ _ _ _ _ _ _ _ _ _ _ _ _ _ _ _ _ _ _ _ _ _ _ _ _ _ _ _ _ _ _ _ _ _ _ _ _ _ _ _ _ _ _ _ _ _ _ _ _ _ _ _ _ _ _ _ _ _ _ _ _ _ _ _ _ _ _ _ _ _ _ _ _ _ _ _ _ _ _ _ _ _ _ _ _ _ _ _ _ _ _ _ _ _ _ _ _ _ _ _ _ _ _ _ _ _ _ _ _ _ _ _ _ _ _ _ _ _ _ _ _ _ _ _ _ _ _ _ _ _ _ _ _ _ _ _ _ _ _ _ _ _ _ _ _ _ _ _ _ _ _ _ _ _ _ _ _ _ _ _ _ _ _ _ _ _ _ _ _ _ _ _ _ _ _ _ _ _ _ _ _ _ _ _ _ _ _ _ QA5.out QR5.out (HD.out.1.below B5.out) HC.out.1 HC.out.2.1 (HR.out.1.below B5.out) HR.out.2.2.1 (HE.out.1.below B5.out) HE.out.2.2 HI.out.1 HI.out.2.1 HI.out.2.2.1 HI.out.2.2.2 GXL.out GPL.out O15.out HB.out.2.2 B15.out _ ?_
  intro u24 u25 u26 u27 u28 u29 u128 u129 u130 u131 u132 u133 u134 u135 u136 u137 u138 u139 u140 u141 u142 u143 u144 u145 u146 u147 u148 u149 u150 u151 u152 u153 u154 u155 u156 u157 u158 u159 u160 u161 u162 u163 u164 u165 u166 u167 u168 u169 u170 u171 u172 u173 u174 u175 u176 u177 u178 u179 u180 u181 u182 u183 u184 u185 u186 u187 u188 u189 u190 u191 u192 u193 u194 u195 u196 Y19 b19
  have B19 : Hid (Below w.heap.size w Y19) := BV.out.trans ((B5.out.trans (b19.mono B5.out.size)).mono BV.out.size)
  clear b19
  go_ret
  exact ⟨rfl, B19.out⟩
end Go.Proofs.Ytogbcciocgpknaa
