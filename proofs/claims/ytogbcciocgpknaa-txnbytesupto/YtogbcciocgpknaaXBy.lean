/- A command as bytes, the program's and the reference's. Written by gen_xby.py. -/
import Derived.Test.YtogbcciocgpknaaTaH
import Derived.Test.YtogbcciocgpknaaTaB
namespace Go.Proofs.Ytogbcciocgpknaa
open Go.RowKit Cod
attribute [local go_sem] Oper.semAt_some
set_option linter.unusedVariables false
def CmdV.op (c : CmdV) : OpD := ⟨c.ok, c.of_, c.ot, c.oa, c.oy, c.os, c.oh⟩
structure CmdV.In (c : CmdV) : Prop where
  k : i64ok c.k
  o : c.op.ok
  n : i64ok c.n
  why : i64ok c.why
  slot : i64ok c.slot
  ep : i64ok c.ep
  at_ : i64ok c.at_
/-- A command's bytes, part by part. -/
def cmdP (c : CmdV) (dl : List (BitVec 8)) : Nat → List (BitVec 8)
  | 0 => enc (zig c.k)
  | 1 => c.op.bytes
  | 2 => sz (bytesL c.id)
  | 3 => sz (bytesL c.nm)
  | 4 => enc (zig c.n)
  | 5 => enc (zig c.why)
  | 6 => enc (zig c.slot)
  | 7 => enc (zig c.ep)
  | 8 => enc (zig c.at_)
  | 9 => [bit8 c.last]
  | 10 => sz dl
  | _ => []
def cmdU (c : CmdV) (dl : List (BitVec 8)) : Nat → List (BitVec 8)
  | 0 => []
  | j + 1 => cmdU c dl j ++ cmdP c dl j
def CmdV.sz (c : CmdV) (dl : List (BitVec 8)) : Nat := c.op.size + c.id.size + c.nm.size + dl.length
theorem cmdU_le {c : CmdV} {dl : List (BitVec 8)} (h : c.In) (hz : c.sz dl ≤ 70000000000000) : ∀ j, j ≤ 11 → (cmdU c dl j).length ≤ (cmdU c dl 11).length ∧ (cmdU c dl 11).length ≤ c.sz dl + 200 := by
  have mono : ∀ j d, (cmdU c dl j).length ≤ (cmdU c dl (j + d)).length := fun j d => by
    induction d with
    | zero => exact Nat.le_refl _
    | succ d ih => rw [← Nat.add_assoc]; simp only [cmdU, List.length_append]; omega
  intro j hj
  refine ⟨by have := mono j (11 - j); rwa [Nat.add_sub_cancel' hj] at this, ?_⟩
  simp only [CmdV.sz] at hz ⊢
  have e0 := enc_zigX h.k
  have e1 := op_leX c.op h.o (by omega)
  have e2 := sz_le c.id (by omega)
  have e3 := sz_le c.nm (by omega)
  have e4 := enc_zigX h.n
  have e5 := enc_zigX h.why
  have e6 := enc_zigX h.slot
  have e7 := enc_zigX h.ep
  have e8 := enc_zigX h.at_
  have e9 := sz_length_le dl (by omega)
  simp only [cmdU, cmdP, List.length_append, List.length_nil, List.length_cons]
  omega
set_option maxRecDepth 100000 in
set_option maxHeartbeats 4000000 in
theorem sBytes_any (k ok : Int) (of_ ot : ByteArray) (oa : Int) (oy : ByteArray) (os oh : Int) (id nm : ByteArray) (n why slot ep at_ : Int) (last : Bool) (dv : Value) (dl : List (BitVec 8)) (w : World) (hc : CmdV.In ⟨k, ok, of_, ot, oa, oy, os, oh, id, nm, n, why, slot, ep, at_, last, dv⟩) (hd : Got w dv dl) (hz : CmdV.sz ⟨k, ok, of_, ot, oa, oy, os, oh, id, nm, n, why, slot, ep, at_, last, dv⟩ dl ≤ 70000000000000) :
    Calls Try.prog 24 #[.agg #[.int .i64 k, .int .i64 ok, .string of_, .string ot, .int .i64 oa, .string oy, .int .i64 os, .int .i64 oh, .string id, .string nm, .int .i64 n, .int .i64 why, .int .i64 slot, .int .i64 ep, .int .i64 at_, .bool last, dv]] w fun e w' => ∃ v, e = .returned v ∧ Got w' v (cmdU ⟨k, ok, of_, ot, oa, oy, os, oh, id, nm, n, why, slot, ep, at_, last, dv⟩ dl 11) ∧ Below w.heap.size w w' := by
  have b0 : Below w.heap.size w (w.alloc (.cells #[.int .i64 k, .int .i64 ok, .string of_, .string ot, .int .i64 oa, .string oy, .int .i64 os, .int .i64 oh, .string id, .string nm, .int .i64 n, .int .i64 why, .int .i64 slot, .int .i64 ep, .int .i64 at_, .bool last, dv] 37)) := (Below.refl _ w).alloc (Nat.le_refl _) _
  have p0 : (w.alloc (.cells #[.int .i64 k, .int .i64 ok, .string of_, .string ot, .int .i64 oa, .string oy, .int .i64 os, .int .i64 oh, .string id, .string nm, .int .i64 n, .int .i64 why, .int .i64 slot, .int .i64 ep, .int .i64 at_, .bool last, dv] 37)).heap[w.heap.size]? = some (.cells #[.int .i64 k, .int .i64 ok, .string of_, .string ot, .int .i64 oa, .string oy, .int .i64 os, .int .i64 oh, .string id, .string nm, .int .i64 n, .int .i64 why, .int .i64 slot, .int .i64 ep, .int .i64 at_, .bool last, dv] 37 (0, 0)) := heap_alloc_new w _
  obtain ⟨wA, eA⟩ : ∃ x, w.alloc (.cells #[.int .i64 k, .int .i64 ok, .string of_, .string ot, .int .i64 oa, .string oy, .int .i64 os, .int .i64 oh, .string id, .string nm, .int .i64 n, .int .i64 why, .int .i64 slot, .int .i64 ep, .int .i64 at_, .bool last, dv] 37) = x := ⟨_, rfl⟩
  obtain ⟨P, eP⟩ : ∃ x, w.heap.size = x := ⟨_, rfl⟩
  obtain ⟨c, eC⟩ : ∃ c : CmdV, ⟨k, ok, of_, ot, oa, oy, os, oh, id, nm, n, why, slot, ep, at_, last, dv⟩ = c := ⟨_, rfl⟩
  have kc : c.k = k := by rw [← eC]
  have oc : c.op = ⟨ok, of_, ot, oa, oy, os, oh⟩ := by rw [← eC]; rfl
  have ic : c.id = id := by rw [← eC]
  have mc : c.nm = nm := by rw [← eC]
  have nc : c.n = n := by rw [← eC]
  have wc : c.why = why := by rw [← eC]
  have sc : c.slot = slot := by rw [← eC]
  have ec : c.ep = ep := by rw [← eC]
  have ac : c.at_ = at_ := by rw [← eC]
  have lc : c.last = last := by rw [← eC]
  rw [eC] at hc hz ⊢
  have HD := hd.below b0
  rw [eA] at p0 b0 HD
  rw [eP] at p0
  have hp : P < wA.heap.size := (Array.getElem?_eq_some_iff.1 p0).1
  have EA : Hid _ := eA
  have EP : Hid (w.heap.size = P) := eP
  have HC : Hid (c.In) := hc
  have HL : Hid (∀ j, j ≤ 11 → (cmdU c dl j).length ≤ (cmdU c dl 11).length ∧ (cmdU c dl 11).length ≤ c.sz dl + 200) := cmdU_le hc hz
  have HZ : Hid (c.op.size + c.id.size + c.nm.size + dl.length ≤ 70000000000000) := hz
  have CE : Hid (c.k = k ∧ c.op = ⟨ok, of_, ot, oa, oy, os, oh⟩ ∧ c.id = id ∧ c.nm = nm ∧ c.n = n ∧ c.why = why ∧ c.slot = slot ∧ c.ep = ep ∧ c.at_ = at_ ∧ c.last = last) := ⟨kc, oc, ic, mc, nc, wc, sc, ec, ac, lc⟩
  have ST : ∀ w', Below wA.heap.size wA w' → w'.heap[P]? = some (.cells #[.int .i64 k, .int .i64 ok, .string of_, .string ot, .int .i64 oa, .string oy, .int .i64 os, .int .i64 oh, .string id, .string nm, .int .i64 n, .int .i64 why, .int .i64 slot, .int .i64 ep, .int .i64 at_, .bool last, dv] 37 (0, 0)) := fun w' b => (b.block P hp).trans p0
  have AT : Hid (∀ w', Below wA.heap.size wA w' → ∀ j v, (#[.int .i64 k, .int .i64 ok, .string of_, .string ot, .int .i64 oa, .string oy, .int .i64 os, .int .i64 oh, .string id, .string nm, .int .i64 n, .int .i64 why, .int .i64 slot, .int .i64 ep, .int .i64 at_, .bool last, dv] : Array Value)[j]? = some v → w'.cell? ⟨P, j, none⟩ = some v) := fun w' b j v hv => by
    simp only [World.cell?, ST w' b]
    exact hv
  have H0 : Hid (Below wA.heap.size wA wA ∧ Got wA (.slice none 0 0) (cmdU c dl 0)) := ⟨Below.refl _ _, got_nil wA⟩
  have B0 : Hid (Below w.heap.size w wA) := b0
  have DV : Hid (Got wA dv dl) := HD
  have y0 : wA.cell? ⟨P, 0, none⟩ = some (.int .i64 k) := AT.out wA (Below.refl _ _) 0 _ rfl
  clear eA eP eC p0 b0 hd HD hp hc hz ST kc oc ic mc nc wc sc ec ac lc
  go_enter Try.func24, Try.ntmps24
  go_wp2_with fail
  rw [EA.out, EP.out]
  have HX := int_got H0.out.2 c.k HC.out.k (by have h1 := (HL.out 0 (by omega)); have h2 := (HL.out 1 (by omega)); have hz := HZ.out; have hl := h1.2; simp only [CmdV.sz] at hl; omega)
  rw [CE.out.1] at HX
  have eq0 : cmdU c dl 0 ++ enc (zig k) = cmdU c dl 1 := by simp only [cmdU, cmdP, CE.out.1]
  rw [eq0] at HX
  clear eq0
  refine HX.mono ?_
  clear HX
  rintro e w1 ⟨v1, rfl, g1, b1⟩
  have H1 : Hid (Below wA.heap.size wA w1 ∧ Got w1 v1 (cmdU c dl 1)) := ⟨H0.out.1.trans (b1.mono H0.out.1.size), g1⟩
  have y1 : w1.rangeAt P 1 [.int .i64 ok, .string of_, .string ot, .int .i64 oa, .string oy, .int .i64 os, .int .i64 oh] := fun j v hv => by
    have := AT.out w1 H1.out.1 (1 + j) v
    match j, hv with
    | 0, hv => exact this hv
    | 1, hv => exact this hv
    | 2, hv => exact this hv
    | 3, hv => exact this hv
    | 4, hv => exact this hv
    | 5, hv => exact this hv
    | 6, hv => exact this hv
    | j + 7, hv => cases hv
  clear b1 g1 y0 H0
  go_wp2_with (first
    | (refine wpList_load_mid rfl 23 (.tmp 8) rfl P 1 rfl [.int .i64 ok, .string of_, .string ot, .int .i64 oa, .string oy, .int .i64 os, .int .i64 oh] _ y1 Try.underlying23 rfl (by kernel_rfl) ?_))
  have HX := putOp_got H1.out.2 c.op HC.out.o (by have h1 := (HL.out 1 (by omega)); have h2 := (HL.out 2 (by omega)); have hz := HZ.out; have hl := h1.2; simp only [CmdV.sz] at hl; omega)
  rw [CE.out.2.1] at HX
  have eq1 : cmdU c dl 1 ++ OpD.bytes ⟨ok, of_, ot, oa, oy, os, oh⟩ = cmdU c dl 2 := by simp only [cmdU, cmdP, CE.out.2.1]
  rw [eq1] at HX
  clear eq1
  refine HX.mono ?_
  clear HX
  rintro e w2 ⟨v2, rfl, g2, b2⟩
  have H2 : Hid (Below wA.heap.size wA w2 ∧ Got w2 v2 (cmdU c dl 2)) := ⟨H1.out.1.trans (b2.mono H1.out.1.size), g2⟩
  have y2 : w2.cell? ⟨P, 8, none⟩ = some (.string id) := AT.out w2 H2.out.1 8 _ rfl
  clear b2 g2 y1 H1
  go_wp2_with fail
  have HX := text_got H2.out.2 c.id (by have h1 := (HL.out 2 (by omega)); have h2 := (HL.out 3 (by omega)); have hz := HZ.out; have hl := h1.2; simp only [CmdV.sz] at hl; omega)
  rw [CE.out.2.2.1] at HX
  have eq2 : cmdU c dl 2 ++ sz (bytesL id) = cmdU c dl 3 := by simp only [cmdU, cmdP, CE.out.2.2.1]
  rw [eq2] at HX
  clear eq2
  refine HX.mono ?_
  clear HX
  rintro e w3 ⟨v3, rfl, g3, b3⟩
  have H3 : Hid (Below wA.heap.size wA w3 ∧ Got w3 v3 (cmdU c dl 3)) := ⟨H2.out.1.trans (b3.mono H2.out.1.size), g3⟩
  have y3 : w3.cell? ⟨P, 9, none⟩ = some (.string nm) := AT.out w3 H3.out.1 9 _ rfl
  clear b3 g3 y2 H2
  go_wp2_with fail
  have HX := text_got H3.out.2 c.nm (by have h1 := (HL.out 3 (by omega)); have h2 := (HL.out 4 (by omega)); have hz := HZ.out; have hl := h1.2; simp only [CmdV.sz] at hl; omega)
  rw [CE.out.2.2.2.1] at HX
  have eq3 : cmdU c dl 3 ++ sz (bytesL nm) = cmdU c dl 4 := by simp only [cmdU, cmdP, CE.out.2.2.2.1]
  rw [eq3] at HX
  clear eq3
  refine HX.mono ?_
  clear HX
  rintro e w4 ⟨v4, rfl, g4, b4⟩
  have H4 : Hid (Below wA.heap.size wA w4 ∧ Got w4 v4 (cmdU c dl 4)) := ⟨H3.out.1.trans (b4.mono H3.out.1.size), g4⟩
  have y4 : w4.cell? ⟨P, 10, none⟩ = some (.int .i64 n) := AT.out w4 H4.out.1 10 _ rfl
  clear b4 g4 y3 H3
  go_wp2_with fail
  have HX := int_got H4.out.2 c.n HC.out.n (by have h1 := (HL.out 4 (by omega)); have h2 := (HL.out 5 (by omega)); have hz := HZ.out; have hl := h1.2; simp only [CmdV.sz] at hl; omega)
  rw [CE.out.2.2.2.2.1] at HX
  have eq4 : cmdU c dl 4 ++ enc (zig n) = cmdU c dl 5 := by simp only [cmdU, cmdP, CE.out.2.2.2.2.1]
  rw [eq4] at HX
  clear eq4
  refine HX.mono ?_
  clear HX
  rintro e w5 ⟨v5, rfl, g5, b5⟩
  have H5 : Hid (Below wA.heap.size wA w5 ∧ Got w5 v5 (cmdU c dl 5)) := ⟨H4.out.1.trans (b5.mono H4.out.1.size), g5⟩
  have y5 : w5.cell? ⟨P, 11, none⟩ = some (.int .i64 why) := AT.out w5 H5.out.1 11 _ rfl
  clear b5 g5 y4 H4
  go_wp2_with fail
  have HX := int_got H5.out.2 c.why HC.out.why (by have h1 := (HL.out 5 (by omega)); have h2 := (HL.out 6 (by omega)); have hz := HZ.out; have hl := h1.2; simp only [CmdV.sz] at hl; omega)
  rw [CE.out.2.2.2.2.2.1] at HX
  have eq5 : cmdU c dl 5 ++ enc (zig why) = cmdU c dl 6 := by simp only [cmdU, cmdP, CE.out.2.2.2.2.2.1]
  rw [eq5] at HX
  clear eq5
  refine HX.mono ?_
  clear HX
  rintro e w6 ⟨v6, rfl, g6, b6⟩
  have H6 : Hid (Below wA.heap.size wA w6 ∧ Got w6 v6 (cmdU c dl 6)) := ⟨H5.out.1.trans (b6.mono H5.out.1.size), g6⟩
  have y6 : w6.cell? ⟨P, 12, none⟩ = some (.int .i64 slot) := AT.out w6 H6.out.1 12 _ rfl
  clear b6 g6 y5 H5
  go_wp2_with fail
  have HX := int_got H6.out.2 c.slot HC.out.slot (by have h1 := (HL.out 6 (by omega)); have h2 := (HL.out 7 (by omega)); have hz := HZ.out; have hl := h1.2; simp only [CmdV.sz] at hl; omega)
  rw [CE.out.2.2.2.2.2.2.1] at HX
  have eq6 : cmdU c dl 6 ++ enc (zig slot) = cmdU c dl 7 := by simp only [cmdU, cmdP, CE.out.2.2.2.2.2.2.1]
  rw [eq6] at HX
  clear eq6
  refine HX.mono ?_
  clear HX
  rintro e w7 ⟨v7, rfl, g7, b7⟩
  have H7 : Hid (Below wA.heap.size wA w7 ∧ Got w7 v7 (cmdU c dl 7)) := ⟨H6.out.1.trans (b7.mono H6.out.1.size), g7⟩
  have y7 : w7.cell? ⟨P, 13, none⟩ = some (.int .i64 ep) := AT.out w7 H7.out.1 13 _ rfl
  clear b7 g7 y6 H6
  go_wp2_with fail
  have HX := int_got H7.out.2 c.ep HC.out.ep (by have h1 := (HL.out 7 (by omega)); have h2 := (HL.out 8 (by omega)); have hz := HZ.out; have hl := h1.2; simp only [CmdV.sz] at hl; omega)
  rw [CE.out.2.2.2.2.2.2.2.1] at HX
  have eq7 : cmdU c dl 7 ++ enc (zig ep) = cmdU c dl 8 := by simp only [cmdU, cmdP, CE.out.2.2.2.2.2.2.2.1]
  rw [eq7] at HX
  clear eq7
  refine HX.mono ?_
  clear HX
  rintro e w8 ⟨v8, rfl, g8, b8⟩
  have H8 : Hid (Below wA.heap.size wA w8 ∧ Got w8 v8 (cmdU c dl 8)) := ⟨H7.out.1.trans (b8.mono H7.out.1.size), g8⟩
  have y8 : w8.cell? ⟨P, 14, none⟩ = some (.int .i64 at_) := AT.out w8 H8.out.1 14 _ rfl
  clear b8 g8 y7 H7
  go_wp2_with fail
  have HX := int_got H8.out.2 c.at_ HC.out.at_ (by have h1 := (HL.out 8 (by omega)); have h2 := (HL.out 9 (by omega)); have hz := HZ.out; have hl := h1.2; simp only [CmdV.sz] at hl; omega)
  rw [CE.out.2.2.2.2.2.2.2.2.1] at HX
  have eq8 : cmdU c dl 8 ++ enc (zig at_) = cmdU c dl 9 := by simp only [cmdU, cmdP, CE.out.2.2.2.2.2.2.2.2.1]
  rw [eq8] at HX
  clear eq8
  refine HX.mono ?_
  clear HX
  rintro e w9 ⟨v9, rfl, g9, b9⟩
  have H9 : Hid (Below wA.heap.size wA w9 ∧ Got w9 v9 (cmdU c dl 9)) := ⟨H8.out.1.trans (b9.mono H8.out.1.size), g9⟩
  have y9 : w9.cell? ⟨P, 15, none⟩ = some (.bool last) := AT.out w9 H9.out.1 15 _ rfl
  clear b9 g9 y8 H8
  go_wp2_with fail
  have HX := bool_got H9.out.2 c.last (by have h1 := (HL.out 9 (by omega)); have h2 := (HL.out 10 (by omega)); have hz := HZ.out; have hl := h1.2; simp only [CmdV.sz] at hl; omega)
  rw [CE.out.2.2.2.2.2.2.2.2.2] at HX
  have eq9 : cmdU c dl 9 ++ [bit8 last] = cmdU c dl 10 := by simp only [cmdU, cmdP, CE.out.2.2.2.2.2.2.2.2.2]
  rw [eq9] at HX
  clear eq9
  refine HX.mono ?_
  clear HX
  rintro e w10 ⟨v10, rfl, g10, b10⟩
  have H10 : Hid (Below wA.heap.size wA w10 ∧ Got w10 v10 (cmdU c dl 10)) := ⟨H9.out.1.trans (b10.mono H9.out.1.size), g10⟩
  have y10 : w10.cell? ⟨P, 16, none⟩ = some (dv) := AT.out w10 H10.out.1 16 _ rfl
  clear b10 g10 y9 H9
  go_wp2_with fail
  have HX := bytes_got H10.out.2 (DV.out.below H10.out.1) (by have h1 := (HL.out 10 (by omega)); have h2 := (HL.out 11 (by omega)); have hz := HZ.out; have hl := h1.2; simp only [CmdV.sz] at hl; omega)
  have eq10 : cmdU c dl 10 ++ sz dl = cmdU c dl 11 := rfl
  rw [eq10] at HX
  clear eq10
  refine HX.mono ?_
  clear HX
  rintro e w11 ⟨v11, rfl, g11, b11⟩
  have H11 : Hid (Got w11 v11 (cmdU c dl 11) ∧ Below w.heap.size w w11) := ⟨g11, B0.out.trans ((H10.out.1.trans (b11.mono H10.out.1.size)).mono B0.out.size)⟩
  clear b11 g11
  go_wp2
  go_ret
  exact ⟨_, rfl, H11.out.1, H11.out.2⟩
set_option maxRecDepth 100000 in
set_option maxHeartbeats 4000000 in
theorem rsBytes_any (k ok : Int) (of_ ot : ByteArray) (oa : Int) (oy : ByteArray) (os oh : Int) (id nm : ByteArray) (n why slot ep at_ : Int) (last : Bool) (dv : Value) (dl : List (BitVec 8)) (w : World) (hc : CmdV.In ⟨k, ok, of_, ot, oa, oy, os, oh, id, nm, n, why, slot, ep, at_, last, dv⟩) (hd : Got w dv dl) (hz : CmdV.sz ⟨k, ok, of_, ot, oa, oy, os, oh, id, nm, n, why, slot, ep, at_, last, dv⟩ dl ≤ 70000000000000) :
    Calls Try.prog 25 #[.agg #[.int .i64 k, .int .i64 ok, .string of_, .string ot, .int .i64 oa, .string oy, .int .i64 os, .int .i64 oh, .string id, .string nm, .int .i64 n, .int .i64 why, .int .i64 slot, .int .i64 ep, .int .i64 at_, .bool last, dv]] w fun e w' => ∃ v, e = .returned v ∧ Got w' v (cmdU ⟨k, ok, of_, ot, oa, oy, os, oh, id, nm, n, why, slot, ep, at_, last, dv⟩ dl 11) ∧ Below w.heap.size w w' := by
  have b0 : Below w.heap.size w (w.alloc (.cells #[.int .i64 k, .int .i64 ok, .string of_, .string ot, .int .i64 oa, .string oy, .int .i64 os, .int .i64 oh, .string id, .string nm, .int .i64 n, .int .i64 why, .int .i64 slot, .int .i64 ep, .int .i64 at_, .bool last, dv] 27)) := (Below.refl _ w).alloc (Nat.le_refl _) _
  have p0 : (w.alloc (.cells #[.int .i64 k, .int .i64 ok, .string of_, .string ot, .int .i64 oa, .string oy, .int .i64 os, .int .i64 oh, .string id, .string nm, .int .i64 n, .int .i64 why, .int .i64 slot, .int .i64 ep, .int .i64 at_, .bool last, dv] 27)).heap[w.heap.size]? = some (.cells #[.int .i64 k, .int .i64 ok, .string of_, .string ot, .int .i64 oa, .string oy, .int .i64 os, .int .i64 oh, .string id, .string nm, .int .i64 n, .int .i64 why, .int .i64 slot, .int .i64 ep, .int .i64 at_, .bool last, dv] 27 (0, 0)) := heap_alloc_new w _
  obtain ⟨wA, eA⟩ : ∃ x, w.alloc (.cells #[.int .i64 k, .int .i64 ok, .string of_, .string ot, .int .i64 oa, .string oy, .int .i64 os, .int .i64 oh, .string id, .string nm, .int .i64 n, .int .i64 why, .int .i64 slot, .int .i64 ep, .int .i64 at_, .bool last, dv] 27) = x := ⟨_, rfl⟩
  obtain ⟨P, eP⟩ : ∃ x, w.heap.size = x := ⟨_, rfl⟩
  obtain ⟨c, eC⟩ : ∃ c : CmdV, ⟨k, ok, of_, ot, oa, oy, os, oh, id, nm, n, why, slot, ep, at_, last, dv⟩ = c := ⟨_, rfl⟩
  have kc : c.k = k := by rw [← eC]
  have oc : c.op = ⟨ok, of_, ot, oa, oy, os, oh⟩ := by rw [← eC]; rfl
  have ic : c.id = id := by rw [← eC]
  have mc : c.nm = nm := by rw [← eC]
  have nc : c.n = n := by rw [← eC]
  have wc : c.why = why := by rw [← eC]
  have sc : c.slot = slot := by rw [← eC]
  have ec : c.ep = ep := by rw [← eC]
  have ac : c.at_ = at_ := by rw [← eC]
  have lc : c.last = last := by rw [← eC]
  rw [eC] at hc hz ⊢
  have HD := hd.below b0
  rw [eA] at p0 b0 HD
  rw [eP] at p0
  have hp : P < wA.heap.size := (Array.getElem?_eq_some_iff.1 p0).1
  have EA : Hid _ := eA
  have EP : Hid (w.heap.size = P) := eP
  have HC : Hid (c.In) := hc
  have HL : Hid (∀ j, j ≤ 11 → (cmdU c dl j).length ≤ (cmdU c dl 11).length ∧ (cmdU c dl 11).length ≤ c.sz dl + 200) := cmdU_le hc hz
  have HZ : Hid (c.op.size + c.id.size + c.nm.size + dl.length ≤ 70000000000000) := hz
  have CE : Hid (c.k = k ∧ c.op = ⟨ok, of_, ot, oa, oy, os, oh⟩ ∧ c.id = id ∧ c.nm = nm ∧ c.n = n ∧ c.why = why ∧ c.slot = slot ∧ c.ep = ep ∧ c.at_ = at_ ∧ c.last = last) := ⟨kc, oc, ic, mc, nc, wc, sc, ec, ac, lc⟩
  have ST : ∀ w', Below wA.heap.size wA w' → w'.heap[P]? = some (.cells #[.int .i64 k, .int .i64 ok, .string of_, .string ot, .int .i64 oa, .string oy, .int .i64 os, .int .i64 oh, .string id, .string nm, .int .i64 n, .int .i64 why, .int .i64 slot, .int .i64 ep, .int .i64 at_, .bool last, dv] 27 (0, 0)) := fun w' b => (b.block P hp).trans p0
  have AT : Hid (∀ w', Below wA.heap.size wA w' → ∀ j v, (#[.int .i64 k, .int .i64 ok, .string of_, .string ot, .int .i64 oa, .string oy, .int .i64 os, .int .i64 oh, .string id, .string nm, .int .i64 n, .int .i64 why, .int .i64 slot, .int .i64 ep, .int .i64 at_, .bool last, dv] : Array Value)[j]? = some v → w'.cell? ⟨P, j, none⟩ = some v) := fun w' b j v hv => by
    simp only [World.cell?, ST w' b]
    exact hv
  have H0 : Hid (Below wA.heap.size wA wA ∧ Got wA (.slice none 0 0) (cmdU c dl 0)) := ⟨Below.refl _ _, got_nil wA⟩
  have B0 : Hid (Below w.heap.size w wA) := b0
  have DV : Hid (Got wA dv dl) := HD
  have y0 : wA.cell? ⟨P, 0, none⟩ = some (.int .i64 k) := AT.out wA (Below.refl _ _) 0 _ rfl
  clear eA eP eC p0 b0 hd HD hp hc hz ST kc oc ic mc nc wc sc ec ac lc
  go_enter Try.func25, Try.ntmps25
  go_wp2_with fail
  rw [EA.out, EP.out]
  have HX := refInt_got H0.out.2 c.k HC.out.k (by have h1 := (HL.out 0 (by omega)); have h2 := (HL.out 1 (by omega)); have hz := HZ.out; have hl := h1.2; simp only [CmdV.sz] at hl; omega)
  rw [CE.out.1] at HX
  have eq0 : cmdU c dl 0 ++ enc (zig k) = cmdU c dl 1 := by simp only [cmdU, cmdP, CE.out.1]
  rw [eq0] at HX
  clear eq0
  refine HX.mono ?_
  clear HX
  rintro e w1 ⟨v1, rfl, g1, b1⟩
  have H1 : Hid (Below wA.heap.size wA w1 ∧ Got w1 v1 (cmdU c dl 1)) := ⟨H0.out.1.trans (b1.mono H0.out.1.size), g1⟩
  have y1 : w1.rangeAt P 1 [.int .i64 ok, .string of_, .string ot, .int .i64 oa, .string oy, .int .i64 os, .int .i64 oh] := fun j v hv => by
    have := AT.out w1 H1.out.1 (1 + j) v
    match j, hv with
    | 0, hv => exact this hv
    | 1, hv => exact this hv
    | 2, hv => exact this hv
    | 3, hv => exact this hv
    | 4, hv => exact this hv
    | 5, hv => exact this hv
    | 6, hv => exact this hv
    | j + 7, hv => cases hv
  clear b1 g1 y0 H0
  go_wp2_with (first
    | (refine wpList_load_mid rfl 23 (.tmp 8) rfl P 1 rfl [.int .i64 ok, .string of_, .string ot, .int .i64 oa, .string oy, .int .i64 os, .int .i64 oh] _ y1 Try.underlying23 rfl (by kernel_rfl) ?_))
  have HX := refPutOp_got H1.out.2 c.op HC.out.o (by have h1 := (HL.out 1 (by omega)); have h2 := (HL.out 2 (by omega)); have hz := HZ.out; have hl := h1.2; simp only [CmdV.sz] at hl; omega)
  rw [CE.out.2.1] at HX
  have eq1 : cmdU c dl 1 ++ OpD.bytes ⟨ok, of_, ot, oa, oy, os, oh⟩ = cmdU c dl 2 := by simp only [cmdU, cmdP, CE.out.2.1]
  rw [eq1] at HX
  clear eq1
  refine HX.mono ?_
  clear HX
  rintro e w2 ⟨v2, rfl, g2, b2⟩
  have H2 : Hid (Below wA.heap.size wA w2 ∧ Got w2 v2 (cmdU c dl 2)) := ⟨H1.out.1.trans (b2.mono H1.out.1.size), g2⟩
  have y2 : w2.cell? ⟨P, 8, none⟩ = some (.string id) := AT.out w2 H2.out.1 8 _ rfl
  clear b2 g2 y1 H1
  go_wp2_with fail
  have HX := refText_got H2.out.2 c.id (by have h1 := (HL.out 2 (by omega)); have h2 := (HL.out 3 (by omega)); have hz := HZ.out; have hl := h1.2; simp only [CmdV.sz] at hl; omega)
  rw [CE.out.2.2.1] at HX
  have eq2 : cmdU c dl 2 ++ sz (bytesL id) = cmdU c dl 3 := by simp only [cmdU, cmdP, CE.out.2.2.1]
  rw [eq2] at HX
  clear eq2
  refine HX.mono ?_
  clear HX
  rintro e w3 ⟨v3, rfl, g3, b3⟩
  have H3 : Hid (Below wA.heap.size wA w3 ∧ Got w3 v3 (cmdU c dl 3)) := ⟨H2.out.1.trans (b3.mono H2.out.1.size), g3⟩
  have y3 : w3.cell? ⟨P, 9, none⟩ = some (.string nm) := AT.out w3 H3.out.1 9 _ rfl
  clear b3 g3 y2 H2
  go_wp2_with fail
  have HX := refText_got H3.out.2 c.nm (by have h1 := (HL.out 3 (by omega)); have h2 := (HL.out 4 (by omega)); have hz := HZ.out; have hl := h1.2; simp only [CmdV.sz] at hl; omega)
  rw [CE.out.2.2.2.1] at HX
  have eq3 : cmdU c dl 3 ++ sz (bytesL nm) = cmdU c dl 4 := by simp only [cmdU, cmdP, CE.out.2.2.2.1]
  rw [eq3] at HX
  clear eq3
  refine HX.mono ?_
  clear HX
  rintro e w4 ⟨v4, rfl, g4, b4⟩
  have H4 : Hid (Below wA.heap.size wA w4 ∧ Got w4 v4 (cmdU c dl 4)) := ⟨H3.out.1.trans (b4.mono H3.out.1.size), g4⟩
  have y4 : w4.cell? ⟨P, 10, none⟩ = some (.int .i64 n) := AT.out w4 H4.out.1 10 _ rfl
  clear b4 g4 y3 H3
  go_wp2_with fail
  have HX := refInt_got H4.out.2 c.n HC.out.n (by have h1 := (HL.out 4 (by omega)); have h2 := (HL.out 5 (by omega)); have hz := HZ.out; have hl := h1.2; simp only [CmdV.sz] at hl; omega)
  rw [CE.out.2.2.2.2.1] at HX
  have eq4 : cmdU c dl 4 ++ enc (zig n) = cmdU c dl 5 := by simp only [cmdU, cmdP, CE.out.2.2.2.2.1]
  rw [eq4] at HX
  clear eq4
  refine HX.mono ?_
  clear HX
  rintro e w5 ⟨v5, rfl, g5, b5⟩
  have H5 : Hid (Below wA.heap.size wA w5 ∧ Got w5 v5 (cmdU c dl 5)) := ⟨H4.out.1.trans (b5.mono H4.out.1.size), g5⟩
  have y5 : w5.cell? ⟨P, 11, none⟩ = some (.int .i64 why) := AT.out w5 H5.out.1 11 _ rfl
  clear b5 g5 y4 H4
  go_wp2_with fail
  have HX := refInt_got H5.out.2 c.why HC.out.why (by have h1 := (HL.out 5 (by omega)); have h2 := (HL.out 6 (by omega)); have hz := HZ.out; have hl := h1.2; simp only [CmdV.sz] at hl; omega)
  rw [CE.out.2.2.2.2.2.1] at HX
  have eq5 : cmdU c dl 5 ++ enc (zig why) = cmdU c dl 6 := by simp only [cmdU, cmdP, CE.out.2.2.2.2.2.1]
  rw [eq5] at HX
  clear eq5
  refine HX.mono ?_
  clear HX
  rintro e w6 ⟨v6, rfl, g6, b6⟩
  have H6 : Hid (Below wA.heap.size wA w6 ∧ Got w6 v6 (cmdU c dl 6)) := ⟨H5.out.1.trans (b6.mono H5.out.1.size), g6⟩
  have y6 : w6.cell? ⟨P, 12, none⟩ = some (.int .i64 slot) := AT.out w6 H6.out.1 12 _ rfl
  clear b6 g6 y5 H5
  go_wp2_with fail
  have HX := refInt_got H6.out.2 c.slot HC.out.slot (by have h1 := (HL.out 6 (by omega)); have h2 := (HL.out 7 (by omega)); have hz := HZ.out; have hl := h1.2; simp only [CmdV.sz] at hl; omega)
  rw [CE.out.2.2.2.2.2.2.1] at HX
  have eq6 : cmdU c dl 6 ++ enc (zig slot) = cmdU c dl 7 := by simp only [cmdU, cmdP, CE.out.2.2.2.2.2.2.1]
  rw [eq6] at HX
  clear eq6
  refine HX.mono ?_
  clear HX
  rintro e w7 ⟨v7, rfl, g7, b7⟩
  have H7 : Hid (Below wA.heap.size wA w7 ∧ Got w7 v7 (cmdU c dl 7)) := ⟨H6.out.1.trans (b7.mono H6.out.1.size), g7⟩
  have y7 : w7.cell? ⟨P, 13, none⟩ = some (.int .i64 ep) := AT.out w7 H7.out.1 13 _ rfl
  clear b7 g7 y6 H6
  go_wp2_with fail
  have HX := refInt_got H7.out.2 c.ep HC.out.ep (by have h1 := (HL.out 7 (by omega)); have h2 := (HL.out 8 (by omega)); have hz := HZ.out; have hl := h1.2; simp only [CmdV.sz] at hl; omega)
  rw [CE.out.2.2.2.2.2.2.2.1] at HX
  have eq7 : cmdU c dl 7 ++ enc (zig ep) = cmdU c dl 8 := by simp only [cmdU, cmdP, CE.out.2.2.2.2.2.2.2.1]
  rw [eq7] at HX
  clear eq7
  refine HX.mono ?_
  clear HX
  rintro e w8 ⟨v8, rfl, g8, b8⟩
  have H8 : Hid (Below wA.heap.size wA w8 ∧ Got w8 v8 (cmdU c dl 8)) := ⟨H7.out.1.trans (b8.mono H7.out.1.size), g8⟩
  have y8 : w8.cell? ⟨P, 14, none⟩ = some (.int .i64 at_) := AT.out w8 H8.out.1 14 _ rfl
  clear b8 g8 y7 H7
  go_wp2_with fail
  have HX := refInt_got H8.out.2 c.at_ HC.out.at_ (by have h1 := (HL.out 8 (by omega)); have h2 := (HL.out 9 (by omega)); have hz := HZ.out; have hl := h1.2; simp only [CmdV.sz] at hl; omega)
  rw [CE.out.2.2.2.2.2.2.2.2.1] at HX
  have eq8 : cmdU c dl 8 ++ enc (zig at_) = cmdU c dl 9 := by simp only [cmdU, cmdP, CE.out.2.2.2.2.2.2.2.2.1]
  rw [eq8] at HX
  clear eq8
  refine HX.mono ?_
  clear HX
  rintro e w9 ⟨v9, rfl, g9, b9⟩
  have H9 : Hid (Below wA.heap.size wA w9 ∧ Got w9 v9 (cmdU c dl 9)) := ⟨H8.out.1.trans (b9.mono H8.out.1.size), g9⟩
  have y9 : w9.cell? ⟨P, 15, none⟩ = some (.bool last) := AT.out w9 H9.out.1 15 _ rfl
  clear b9 g9 y8 H8
  go_wp2_with fail
  have HX := refBool_got H9.out.2 c.last (by have h1 := (HL.out 9 (by omega)); have h2 := (HL.out 10 (by omega)); have hz := HZ.out; have hl := h1.2; simp only [CmdV.sz] at hl; omega)
  rw [CE.out.2.2.2.2.2.2.2.2.2] at HX
  have eq9 : cmdU c dl 9 ++ [bit8 last] = cmdU c dl 10 := by simp only [cmdU, cmdP, CE.out.2.2.2.2.2.2.2.2.2]
  rw [eq9] at HX
  clear eq9
  refine HX.mono ?_
  clear HX
  rintro e w10 ⟨v10, rfl, g10, b10⟩
  have H10 : Hid (Below wA.heap.size wA w10 ∧ Got w10 v10 (cmdU c dl 10)) := ⟨H9.out.1.trans (b10.mono H9.out.1.size), g10⟩
  have y10 : w10.cell? ⟨P, 16, none⟩ = some (dv) := AT.out w10 H10.out.1 16 _ rfl
  clear b10 g10 y9 H9
  go_wp2_with fail
  have HX := refBytes_got H10.out.2 (DV.out.below H10.out.1) (by have h1 := (HL.out 10 (by omega)); have h2 := (HL.out 11 (by omega)); have hz := HZ.out; have hl := h1.2; simp only [CmdV.sz] at hl; omega)
  have eq10 : cmdU c dl 10 ++ sz dl = cmdU c dl 11 := rfl
  rw [eq10] at HX
  clear eq10
  refine HX.mono ?_
  clear HX
  rintro e w11 ⟨v11, rfl, g11, b11⟩
  have H11 : Hid (Got w11 v11 (cmdU c dl 11) ∧ Below w.heap.size w w11) := ⟨g11, B0.out.trans ((H10.out.1.trans (b11.mono H10.out.1.size)).mono B0.out.size)⟩
  clear b11 g11
  go_wp2
  go_ret
  exact ⟨_, rfl, H11.out.1, H11.out.2⟩
end Go.Proofs.Ytogbcciocgpknaa
