/- An ask as bytes: the program. Written by gen_xtb.py. -/
import Derived.Test.YtogbcciocgpknaaXBy
import Derived.Deep.MidRow
import Derived.Test.YtogbcciocgpknaaXPa
namespace Go.Proofs.Ytogbcciocgpknaa
open Go.RowKit Cod
attribute [local go_sem] Oper.semAt_some
set_option linter.unusedVariables false
/-- An ask's bytes; whether they are too many; what is answered. -/
def askB (g : Int) (c : CmdV) (dl : List (BitVec 8)) : List (BitVec 8) := ([] ++ enc (zig g)) ++ sz (cmdU c dl 11)
def askW (g : Int) (c : CmdV) (dl : List (BitVec 8)) : Int := if 65536 < (askB g c dl).length then 3 else 0
def askL (g : Int) (c : CmdV) (dl : List (BitVec 8)) : List (BitVec 8) := if 65536 < (askB g c dl).length then [] else askB g c dl
def Asked (w w' : World) (g : Int) (c : CmdV) (dl : List (BitVec 8)) (e : Ending) : Prop := ∃ v, e = .returned (.tuple #[v, .int .i64 (askW g c dl)]) ∧ Got w' v (askL g c dl) ∧ Below w.heap.size w w'
theorem asked_no {w w' : World} {g : Int} {c : CmdV} {dl : List (BitVec 8)} (h : 65536 < (askB g c dl).length) (b : Below w.heap.size w w') : Asked w w' g c dl (.returned (.tuple #[.slice none 0 0, .int .i64 3])) := by
  refine ⟨.slice none 0 0, ?_, ?_, b⟩
  · unfold askW; rw [if_pos h]
  · unfold askL; rw [if_pos h]; exact got_nil w'
theorem asked_yes {w w' : World} {g : Int} {c : CmdV} {dl : List (BitVec 8)} {v : Value} (h : ¬ 65536 < (askB g c dl).length) (q : Got w' v (askB g c dl)) (b : Below w.heap.size w w') : Asked w w' g c dl (.returned (.tuple #[v, .int .i64 0])) := by
  refine ⟨v, ?_, ?_, b⟩
  · unfold askW; rw [if_neg h]
  · unfold askL; rw [if_neg h]; exact q
set_option maxRecDepth 100000 in
set_option maxHeartbeats 4000000 in
theorem tBytes_any (g k ok : Int) (of_ ot : ByteArray) (oa : Int) (oy : ByteArray) (os oh : Int) (id nm : ByteArray) (n why slot ep at_ : Int) (last : Bool) (dv : Value) (dl : List (BitVec 8)) (w : World) (hg : i64ok g) (hc : CmdV.In ⟨k, ok, of_, ot, oa, oy, os, oh, id, nm, n, why, slot, ep, at_, last, dv⟩) (hd : Got w dv dl) (hz : CmdV.sz ⟨k, ok, of_, ot, oa, oy, os, oh, id, nm, n, why, slot, ep, at_, last, dv⟩ dl ≤ 70000000000000) :
    Calls Try.prog 4 #[.agg #[.int .i64 g, .int .i64 k, .int .i64 ok, .string of_, .string ot, .int .i64 oa, .string oy, .int .i64 os, .int .i64 oh, .string id, .string nm, .int .i64 n, .int .i64 why, .int .i64 slot, .int .i64 ep, .int .i64 at_, .bool last, dv]] w fun e w' => Asked w w' g ⟨k, ok, of_, ot, oa, oy, os, oh, id, nm, n, why, slot, ep, at_, last, dv⟩ dl e := by
  have b0 : Below w.heap.size w (w.alloc (.cells #[.int .i64 g, .int .i64 k, .int .i64 ok, .string of_, .string ot, .int .i64 oa, .string oy, .int .i64 os, .int .i64 oh, .string id, .string nm, .int .i64 n, .int .i64 why, .int .i64 slot, .int .i64 ep, .int .i64 at_, .bool last, dv] 40)) := (Below.refl _ w).alloc (Nat.le_refl _) _
  have p0 : (w.alloc (.cells #[.int .i64 g, .int .i64 k, .int .i64 ok, .string of_, .string ot, .int .i64 oa, .string oy, .int .i64 os, .int .i64 oh, .string id, .string nm, .int .i64 n, .int .i64 why, .int .i64 slot, .int .i64 ep, .int .i64 at_, .bool last, dv] 40)).heap[w.heap.size]? = some (.cells #[.int .i64 g, .int .i64 k, .int .i64 ok, .string of_, .string ot, .int .i64 oa, .string oy, .int .i64 os, .int .i64 oh, .string id, .string nm, .int .i64 n, .int .i64 why, .int .i64 slot, .int .i64 ep, .int .i64 at_, .bool last, dv] 40 (0, 0)) := heap_alloc_new w _
  obtain ⟨wA, eA⟩ : ∃ x, w.alloc (.cells #[.int .i64 g, .int .i64 k, .int .i64 ok, .string of_, .string ot, .int .i64 oa, .string oy, .int .i64 os, .int .i64 oh, .string id, .string nm, .int .i64 n, .int .i64 why, .int .i64 slot, .int .i64 ep, .int .i64 at_, .bool last, dv] 40) = x := ⟨_, rfl⟩
  obtain ⟨P, eP⟩ : ∃ x, w.heap.size = x := ⟨_, rfl⟩
  have HL := (cmdU_le hc hz 11 (by omega)).2
  have HD := hd.below b0
  rw [eA] at p0 b0 HD
  rw [eP] at p0
  have hp : P < wA.heap.size := (Array.getElem?_eq_some_iff.1 p0).1
  have HI := int_got (got_nil wA) g hg (by simp)
  have HB0 := fun (w1 : World) (b : Below wA.heap.size wA w1) => sBytes_any k ok of_ ot oa oy os oh id nm n why slot ep at_ last dv dl w1 hc (HD.below b) hz
  obtain ⟨L, eL⟩ : ∃ L, cmdU ⟨k, ok, of_, ot, oa, oy, os, oh, id, nm, n, why, slot, ep, at_, last, dv⟩ dl 11 = L := ⟨_, rfl⟩
  obtain ⟨B, eB⟩ : ∃ B, askB g ⟨k, ok, of_, ot, oa, oy, os, oh, id, nm, n, why, slot, ep, at_, last, dv⟩ dl = B := ⟨_, rfl⟩
  have eBL : B = ([] ++ enc (zig g)) ++ sz L := by rw [← eB, ← eL]; rfl
  have HNO : ∀ w', 65536 < B.length → Below w.heap.size w w' → Asked w w' g ⟨k, ok, of_, ot, oa, oy, os, oh, id, nm, n, why, slot, ep, at_, last, dv⟩ dl (.returned (.tuple #[.slice none 0 0, .int .i64 3])) := fun w' h b => asked_no (by rw [eB]; exact h) b
  have HYES : ∀ w' v, ¬ 65536 < B.length → Got w' v B → Below w.heap.size w w' → Asked w w' g ⟨k, ok, of_, ot, oa, oy, os, oh, id, nm, n, why, slot, ep, at_, last, dv⟩ dl (.returned (.tuple #[v, .int .i64 0])) := fun w' v h q b => asked_yes (by rw [eB]; exact h) (by rw [eB]; exact q) b
  rw [eL] at HB0 HL
  have EA : Hid _ := eA
  have EP : Hid (w.heap.size = P) := eP
  have HLz : Hid (L.length ≤ 70000000000200) := Nat.le_trans HL (by omega)
  have HG : Hid ((enc (zig g)).length ≤ 10) := enc_zigX hg
  have EB : Hid (B = ([] ++ enc (zig g)) ++ sz L) := eBL
  have NO : Hid _ := HNO
  have YES : Hid _ := HYES
  have SB : Hid _ := HB0
  have BA : Hid (Below w.heap.size w wA) := b0
  have AT : Hid (∀ w', Below wA.heap.size wA w' → ∀ j v, (#[.int .i64 g, .int .i64 k, .int .i64 ok, .string of_, .string ot, .int .i64 oa, .string oy, .int .i64 os, .int .i64 oh, .string id, .string nm, .int .i64 n, .int .i64 why, .int .i64 slot, .int .i64 ep, .int .i64 at_, .bool last, dv] : Array Value)[j]? = some v → w'.cell? ⟨P, j, none⟩ = some v) := fun w' b j v hv => by
    have := (b.block P hp).trans p0
    simp only [World.cell?, this]
    exact hv
  have y0 : wA.cell? ⟨P, 0, none⟩ = some (.int .i64 g) := AT.out wA (Below.refl _ _) 0 _ rfl
  clear eA eP p0 b0 HD hp HB0 eL eB eBL HNO HYES HL hg hc hd hz
  go_enter Try.func4, Try.ntmps4
  go_wp2_with fail
  rw [EA.out, EP.out]
  refine HI.mono ?_
  clear HI y0
  rintro e w1 ⟨v1, rfl, g1, b1⟩
  have RG : w1.rangeAt P 1 [.int .i64 k, .int .i64 ok, .string of_, .string ot, .int .i64 oa, .string oy, .int .i64 os, .int .i64 oh, .string id, .string nm, .int .i64 n, .int .i64 why, .int .i64 slot, .int .i64 ep, .int .i64 at_, .bool last, dv] := fun j v hv => by
    have := AT.out w1 b1 (1 + j) v
    match j, hv with
    | 0, hv => exact this hv
    | 1, hv => exact this hv
    | 2, hv => exact this hv
    | 3, hv => exact this hv
    | 4, hv => exact this hv
    | 5, hv => exact this hv
    | 6, hv => exact this hv
    | 7, hv => exact this hv
    | 8, hv => exact this hv
    | 9, hv => exact this hv
    | 10, hv => exact this hv
    | 11, hv => exact this hv
    | 12, hv => exact this hv
    | 13, hv => exact this hv
    | 14, hv => exact this hv
    | 15, hv => exact this hv
    | 16, hv => exact this hv
    | j + 17, hv => cases hv
  have HX := SB.out w1 b1
  have G1 : Hid (Got w1 v1 ([] ++ enc (zig g)) ∧ Below wA.heap.size wA w1) := ⟨g1, b1⟩
  clear g1 b1
  go_wp2_with (first
    | (refine wpList_load_mid rfl 37 (.tmp 9) rfl P 1 rfl [.int .i64 k, .int .i64 ok, .string of_, .string ot, .int .i64 oa, .string oy, .int .i64 os, .int .i64 oh, .string id, .string nm, .int .i64 n, .int .i64 why, .int .i64 slot, .int .i64 ep, .int .i64 at_, .bool last, dv] _ RG Try.underlying37 rfl (by kernel_rfl) ?_))
  refine HX.mono ?_
  clear HX RG
  rintro e w2 ⟨v2, rfl, g2, b2⟩
  have HX := bytes_got (G1.out.1.below b2) g2 (by have h1 := HLz.out; have h2 := HG.out; simp only [List.length_append, List.length_nil]; omega)
  rw [← EB.out] at HX
  have B2 : Hid (Below wA.heap.size wA w2) := G1.out.2.trans (b2.mono G1.out.2.size)
  clear G1 g2 b2
  go_wp2_with fail
  refine HX.mono ?_
  clear HX
  rintro e w3 ⟨v3, rfl, g3, b3⟩
  have B3 : Hid (Below w.heap.size w w3) := BA.out.trans ((B2.out.trans (b3.mono B2.out.size)).mono BA.out.size)
  have G3 : Hid (Got w3 v3 B) := g3
  obtain ⟨a3, c3, rfl, _⟩ := g3
  clear B2 b3
  by_cases hb : 65536 < B.length
  · have HB : Hid (65536 < B.length) := hb
    have q0 : (65536 : Int) < (B.length : Int) := by omega
    have q1 : decide ((65536 : Int) < (B.length : Int)) = true := decide_eq_true q0
    clear hb
    go_wp2
    go_ret2
    exact NO.out w3 HB.out B3.out
  · have HB : Hid (¬ 65536 < B.length) := hb
    have q0 : ¬ (65536 : Int) < (B.length : Int) := by omega
    have q1 : decide ((65536 : Int) < (B.length : Int)) = false := decide_eq_false q0
    clear hb
    go_wp2
    go_ret2
    exact YES.out w3 _ HB.out G3.out B3.out
end Go.Proofs.Ytogbcciocgpknaa

namespace Go.Proofs.Ytogbcciocgpknaa
open Go.RowKit Cod
set_option linter.unusedVariables false
/-- What a Parse of a command answers, opened. -/
theorem Parsed.open {w w' : World} {l : List (BitVec 8)} {e : Ending} (h : Parsed w w' l e) : ∃ (k ok : Int) (of_ ot : ByteArray) (oa : Int) (oy : ByteArray) (os oh : Int) (id nm : ByteArray) (n why slot ep at_ : Int) (last : Bool) (da : Option Addr) (dn dc : Nat),
    e = .returned (.tuple #[.agg #[.int .i64 k, .int .i64 ok, .string of_, .string ot, .int .i64 oa, .string oy, .int .i64 os, .int .i64 oh, .string id, .string nm, .int .i64 n, .int .i64 why, .int .i64 slot, .int .i64 ep, .int .i64 at_, .bool last, .slice da dn dc], .int .i64 (psW l : Nat)]) ∧ ((⟨k, ok, of_, ot, oa, oy, os, oh, id, nm, n, why, slot, ep, at_, last, .slice da dn dc⟩ : CmdV) = psC l (.slice da dn dc)) ∧ Far w' w.heap.size (.slice da dn dc) (psD l) ∧ (psD l).length ≤ 65536 ∧ Below w.heap.size w w' := by
  obtain ⟨dv, rfl, g, hl, b⟩ := h
  have key : (psC l dv).data = dv ∧ Far w' w.heap.size dv (psD l) ∨ (psC l dv).data = .slice none 0 0 ∧ psD l = [] := by
    by_cases h0 : psW l = 0
    · left; rw [psC_yes h0]; exact ⟨rfl, g⟩
    · right; rw [psC_no h0, psD_no h0]; exact ⟨rfl, rfl⟩
  have kk : Far w' w.heap.size (psC l dv).data (psD l) := by
    rcases key with ⟨e1, e2⟩ | ⟨e1, e2⟩
    · rw [e1]; exact e2
    · rw [e1, e2]; exact far_nil w' _
  have kc : psC l dv = psC l (psC l dv).data := by
    by_cases h0 : psW l = 0
    · rw [psC_yes h0, psC_yes h0]; rfl
    · rw [psC_no h0, psC_no h0]
  generalize psC l dv = C at *
  obtain ⟨k, ok, of_, ot, oa, oy, os, oh, id, nm, n, why, slot, ep, at_, last, d⟩ := C
  have kk2 := kk
  obtain ⟨da, dc, rfl, _⟩ := kk2
  exact ⟨k, ok, of_, ot, oa, oy, os, oh, _, nm, n, why, slot, ep, at_, last, da, _, dc, rfl, kc, kk, hl, b⟩
def tpX (l : List (BitVec 8)) := rS l (pX1 l).1 (pX1 l).2
def tpB (l : List (BitVec 8)) : List (BitVec 8) := (tpX l).1
def tpE (l : List (BitVec 8)) : Nat := rEnd l (tpX l).2.1 (tpX l).2.2
theorem tpB_is (l : List (BitVec 8)) : (tpX l).1 = tpB l := by unfold tpB; rfl
theorem tpX_is (l : List (BitVec 8)) : rS l (pX1 l).1 (pX1 l).2 = tpX l := by unfold tpX; rfl
theorem tpE_is (l : List (BitVec 8)) : rEnd l (tpX l).2.1 (tpX l).2.2 = tpE l := by unfold tpE; rfl
/-- Its error; its group; its command; the command's bytes. -/
def tpW (l : List (BitVec 8)) : Int := if 65536 < l.length then 3 else if tpE l ≠ 0 then (tpE l : Int) else if psW (tpB l) ≠ 0 then (psW (tpB l) : Int) else if pcI0 l < 0 ∨ 3 < pcI0 l then 1 else 0
def tpG (l : List (BitVec 8)) : Int := if tpW l = 0 then pcI0 l else 0
def tpC (l : List (BitVec 8)) (d : Value) : CmdV := if tpW l = 0 then psC (tpB l) d else CmdV.zero
def tpD (l : List (BitVec 8)) : List (BitVec 8) := if tpW l = 0 then psD (tpB l) else []
/-- What a Parse of an ask answers. -/
def TParsed (w w' : World) (l : List (BitVec 8)) (e : Ending) : Prop := ∃ (k ok : Int) (of_ ot : ByteArray) (oa : Int) (oy : ByteArray) (os oh : Int) (id nm : ByteArray) (n why slot ep at_ : Int) (last : Bool) (da : Option Addr) (dn dc : Nat),
    e = .returned (.tuple #[.agg #[.int .i64 (tpG l), .int .i64 k, .int .i64 ok, .string of_, .string ot, .int .i64 oa, .string oy, .int .i64 os, .int .i64 oh, .string id, .string nm, .int .i64 n, .int .i64 why, .int .i64 slot, .int .i64 ep, .int .i64 at_, .bool last, .slice da dn dc], .int .i64 (tpW l)]) ∧ ((⟨k, ok, of_, ot, oa, oy, os, oh, id, nm, n, why, slot, ep, at_, last, .slice da dn dc⟩ : CmdV) = tpC l (.slice da dn dc)) ∧ Got w' (.slice da dn dc) (tpD l) ∧ (tpD l).length ≤ 65536 ∧ Below w.heap.size w w'
theorem tparsed_no {w w' : World} {l : List (BitVec 8)} (m : Int) (h : tpW l ≠ 0) (hm : m = tpW l) (b : Below w.heap.size w w') : TParsed w w' l (.returned (.tuple #[.agg #[.int .i64 0, .int .i64 0, .int .i64 0, .string ⟨#[]⟩, .string ⟨#[]⟩, .int .i64 0, .string ⟨#[]⟩, .int .i64 0, .int .i64 0, .string ⟨#[]⟩, .string ⟨#[]⟩, .int .i64 0, .int .i64 0, .int .i64 0, .int .i64 0, .int .i64 0, .bool false, .slice none 0 0], .int .i64 m])) := by
  refine ⟨0, 0, ⟨#[]⟩, ⟨#[]⟩, 0, ⟨#[]⟩, 0, 0, ⟨#[]⟩, ⟨#[]⟩, 0, 0, 0, 0, 0, false, none, 0, 0, ?_, ?_, ?_, ?_, b⟩
  · unfold tpG; rw [if_neg h, hm]
  · unfold tpC; rw [if_neg h]; rfl
  · unfold tpD; rw [if_neg h]; exact got_nil w'
  · unfold tpD; rw [if_neg h]; simp
theorem tparsed_yes {w w' : World} {l : List (BitVec 8)} (k ok : Int) (of_ ot : ByteArray) (oa : Int) (oy : ByteArray) (os oh : Int) (id nm : ByteArray) (n why slot ep at_ : Int) (last : Bool) (da : Option Addr) (dn dc : Nat) (h : tpW l = 0) (hc : ((⟨k, ok, of_, ot, oa, oy, os, oh, id, nm, n, why, slot, ep, at_, last, .slice da dn dc⟩ : CmdV) = psC (tpB l) (.slice da dn dc))) (g : Got w' (.slice da dn dc) (psD (tpB l))) (hl : (psD (tpB l)).length ≤ 65536) (b : Below w.heap.size w w') : TParsed w w' l (.returned (.tuple #[.agg #[.int .i64 (pcI0 l), .int .i64 k, .int .i64 ok, .string of_, .string ot, .int .i64 oa, .string oy, .int .i64 os, .int .i64 oh, .string id, .string nm, .int .i64 n, .int .i64 why, .int .i64 slot, .int .i64 ep, .int .i64 at_, .bool last, .slice da dn dc], .int .i64 0])) := by
  refine ⟨k, ok, of_, ot, oa, oy, os, oh, id, nm, n, why, slot, ep, at_, last, da, dn, dc, ?_, ?_, ?_, ?_, b⟩
  · unfold tpG; rw [if_pos h, h]
  · unfold tpC; rw [if_pos h]; exact hc
  · unfold tpD; rw [if_pos h]; exact g
  · unfold tpD; rw [if_pos h]; exact hl
end Go.Proofs.Ytogbcciocgpknaa

namespace Go.Proofs.Ytogbcciocgpknaa
open Go.RowKit Cod
attribute [local go_sem] Oper.semAt_some
set_option linter.unusedVariables false
theorem owns_belowX {w w' : World} {base n size : Nat} {e : TypeId} {v : Value} {xs : List Value} (h : w.ownsRow base e size v n xs) (hb : Below w.heap.size w w') : w'.ownsRow base e size v n xs :=
  owns_kept h (fun g hg => hb.block g (h.lt g hg).2)
theorem sz_geX (p : List (BitVec 8)) : p.length ≤ (sz p).length := by
  unfold sz
  simp
/-- A field that is too long makes an ask that is too long. -/
theorem ask_long {g : Int} {c : CmdV} {dl : List (BitVec 8)} (h : 65536 < dl.length ∨ 65536 < c.id.size ∨ 65536 < c.nm.size ∨ 65536 < c.of_.size ∨ 65536 < c.ot.size ∨ 65536 < c.oy.size) : 65536 < (askB g c dl).length := by
  have e0 := sz_geX (cmdU c dl 11)
  have e1 := sz_geX dl
  have e2 := sz_geX (bytesL c.id)
  have e3 := sz_geX (bytesL c.nm)
  have e4 := sz_geX (bytesL c.of_)
  have e5 := sz_geX (bytesL c.ot)
  have e6 := sz_geX (bytesL c.oy)
  rw [bytesL_length] at e2 e3 e4 e5 e6
  have e7 : (cmdU c dl 11).length ≥ (sz dl).length + (sz (bytesL c.id)).length + (sz (bytesL c.nm)).length + (sz (bytesL c.of_)).length + (sz (bytesL c.ot)).length + (sz (bytesL c.oy)).length := by
    simp only [cmdU, cmdP, OpD.bytes, CmdV.op, List.length_append, List.length_nil, List.length_cons]
    omega
  simp only [askB, List.length_append]
  omega
set_option maxRecDepth 100000 in
set_option maxHeartbeats 4000000 in
theorem rtBytes_any (g k ok : Int) (of_ ot : ByteArray) (oa : Int) (oy : ByteArray) (os oh : Int) (id nm : ByteArray) (n why slot ep at_ : Int) (last : Bool) (da : Option Addr) (dc : Nat) (dl : List (BitVec 8)) (w : World) (hg : i64ok g) (hc : CmdV.In ⟨k, ok, of_, ot, oa, oy, os, oh, id, nm, n, why, slot, ep, at_, last, .slice da dl.length dc⟩) (hd : Got w (.slice da dl.length dc) dl) (hz : CmdV.sz ⟨k, ok, of_, ot, oa, oy, os, oh, id, nm, n, why, slot, ep, at_, last, .slice da dl.length dc⟩ dl ≤ 70000000000000) :
    Calls Try.prog 6 #[.agg #[.int .i64 g, .int .i64 k, .int .i64 ok, .string of_, .string ot, .int .i64 oa, .string oy, .int .i64 os, .int .i64 oh, .string id, .string nm, .int .i64 n, .int .i64 why, .int .i64 slot, .int .i64 ep, .int .i64 at_, .bool last, .slice da dl.length dc]] w fun e w' => Asked w w' g ⟨k, ok, of_, ot, oa, oy, os, oh, id, nm, n, why, slot, ep, at_, last, .slice da dl.length dc⟩ dl e := by
  have b0 : Below w.heap.size w (w.alloc (.cells #[.int .i64 g, .int .i64 k, .int .i64 ok, .string of_, .string ot, .int .i64 oa, .string oy, .int .i64 os, .int .i64 oh, .string id, .string nm, .int .i64 n, .int .i64 why, .int .i64 slot, .int .i64 ep, .int .i64 at_, .bool last, .slice da dl.length dc] 29)) := (Below.refl _ w).alloc (Nat.le_refl _) _
  have p0 : (w.alloc (.cells #[.int .i64 g, .int .i64 k, .int .i64 ok, .string of_, .string ot, .int .i64 oa, .string oy, .int .i64 os, .int .i64 oh, .string id, .string nm, .int .i64 n, .int .i64 why, .int .i64 slot, .int .i64 ep, .int .i64 at_, .bool last, .slice da dl.length dc] 29)).heap[w.heap.size]? = some (.cells #[.int .i64 g, .int .i64 k, .int .i64 ok, .string of_, .string ot, .int .i64 oa, .string oy, .int .i64 os, .int .i64 oh, .string id, .string nm, .int .i64 n, .int .i64 why, .int .i64 slot, .int .i64 ep, .int .i64 at_, .bool last, .slice da dl.length dc] 29 (0, 0)) := heap_alloc_new w _
  obtain ⟨wA, eA⟩ : ∃ x, w.alloc (.cells #[.int .i64 g, .int .i64 k, .int .i64 ok, .string of_, .string ot, .int .i64 oa, .string oy, .int .i64 os, .int .i64 oh, .string id, .string nm, .int .i64 n, .int .i64 why, .int .i64 slot, .int .i64 ep, .int .i64 at_, .bool last, .slice da dl.length dc] 29) = x := ⟨_, rfl⟩
  obtain ⟨P, eP⟩ : ∃ x, w.heap.size = x := ⟨_, rfl⟩
  have HL := (cmdU_le hc hz 11 (by omega)).2
  have HD := hd.below b0
  rw [eA] at p0 b0 HD
  rw [eP] at p0
  have hp : P < wA.heap.size := (Array.getElem?_eq_some_iff.1 p0).1
  have HB0 := fun (_ : Unit) => rsBytes_any k ok of_ ot oa oy os oh id nm n why slot ep at_ last (.slice da dl.length dc) dl wA hc HD hz
  have LONG : Hid (65536 < dl.length ∨ 65536 < id.size ∨ 65536 < nm.size ∨ 65536 < of_.size ∨ 65536 < ot.size ∨ 65536 < oy.size → ∀ w', Below w.heap.size w w' → Asked w w' g ⟨k, ok, of_, ot, oa, oy, os, oh, id, nm, n, why, slot, ep, at_, last, .slice da dl.length dc⟩ dl (.returned (.tuple #[.slice none 0 0, .int .i64 3]))) := fun h w' b => asked_no (ask_long h) b
  obtain ⟨L, eL⟩ : ∃ L, cmdU ⟨k, ok, of_, ot, oa, oy, os, oh, id, nm, n, why, slot, ep, at_, last, .slice da dl.length dc⟩ dl 11 = L := ⟨_, rfl⟩
  obtain ⟨B, eB⟩ : ∃ B, askB g ⟨k, ok, of_, ot, oa, oy, os, oh, id, nm, n, why, slot, ep, at_, last, .slice da dl.length dc⟩ dl = B := ⟨_, rfl⟩
  have eBL : B = ([] ++ enc (zig g)) ++ sz L := by rw [← eB, ← eL]; rfl
  have HNO : ∀ w', 65536 < B.length → Below w.heap.size w w' → Asked w w' g ⟨k, ok, of_, ot, oa, oy, os, oh, id, nm, n, why, slot, ep, at_, last, .slice da dl.length dc⟩ dl (.returned (.tuple #[.slice none 0 0, .int .i64 3])) := fun w' h b => asked_no (by rw [eB]; exact h) b
  have HYES : ∀ w' v, ¬ 65536 < B.length → Got w' v B → Below w.heap.size w w' → Asked w w' g ⟨k, ok, of_, ot, oa, oy, os, oh, id, nm, n, why, slot, ep, at_, last, .slice da dl.length dc⟩ dl (.returned (.tuple #[v, .int .i64 0])) := fun w' v h q b => asked_yes (by rw [eB]; exact h) (by rw [eB]; exact q) b
  rw [eL] at HB0 HL
  have EA : Hid _ := eA
  have EP : Hid (w.heap.size = P) := eP
  have HLz : Hid (L.length ≤ 70000000000200) := Nat.le_trans HL (by omega)
  have HG : Hid (i64ok g) := hg
  have EB : Hid (B = ([] ++ enc (zig g)) ++ sz L) := eBL
  have NO : Hid _ := HNO
  have YES : Hid _ := HYES
  have SB : Hid _ := HB0
  have BA : Hid (Below w.heap.size w wA) := b0
  have AT : Hid (∀ w', Below wA.heap.size wA w' → ∀ j v, (#[.int .i64 g, .int .i64 k, .int .i64 ok, .string of_, .string ot, .int .i64 oa, .string oy, .int .i64 os, .int .i64 oh, .string id, .string nm, .int .i64 n, .int .i64 why, .int .i64 slot, .int .i64 ep, .int .i64 at_, .bool last, .slice da dl.length dc] : Array Value)[j]? = some v → w'.cell? ⟨P, j, none⟩ = some v) := fun w' b j v hv => by
    have := (b.block P hp).trans p0
    simp only [World.cell?, this]
    exact hv
  have y17 : wA.cell? ⟨P, 17, none⟩ = some (.slice da dl.length dc) := AT.out wA (Below.refl _ _) 17 _ rfl
  have y9 : wA.cell? ⟨P, 9, none⟩ = some (.string id) := AT.out wA (Below.refl _ _) 9 _ rfl
  have y10 : wA.cell? ⟨P, 10, none⟩ = some (.string nm) := AT.out wA (Below.refl _ _) 10 _ rfl
  have y3 : wA.cell? ⟨P, 3, none⟩ = some (.string of_) := AT.out wA (Below.refl _ _) 3 _ rfl
  have y4 : wA.cell? ⟨P, 4, none⟩ = some (.string ot) := AT.out wA (Below.refl _ _) 4 _ rfl
  have y6 : wA.cell? ⟨P, 6, none⟩ = some (.string oy) := AT.out wA (Below.refl _ _) 6 _ rfl
  have RG : Hid (wA.rangeAt P 1 [.int .i64 k, .int .i64 ok, .string of_, .string ot, .int .i64 oa, .string oy, .int .i64 os, .int .i64 oh, .string id, .string nm, .int .i64 n, .int .i64 why, .int .i64 slot, .int .i64 ep, .int .i64 at_, .bool last, .slice da dl.length dc]) := fun j v hv => by
    have := AT.out wA (Below.refl _ _) (1 + j) v
    match j, hv with
    | 0, hv => exact this hv
    | 1, hv => exact this hv
    | 2, hv => exact this hv
    | 3, hv => exact this hv
    | 4, hv => exact this hv
    | 5, hv => exact this hv
    | 6, hv => exact this hv
    | 7, hv => exact this hv
    | 8, hv => exact this hv
    | 9, hv => exact this hv
    | 10, hv => exact this hv
    | 11, hv => exact this hv
    | 12, hv => exact this hv
    | 13, hv => exact this hv
    | 14, hv => exact this hv
    | 15, hv => exact this hv
    | 16, hv => exact this hv
    | j + 17, hv => cases hv
  clear eA eP p0 b0 HD hp HB0 eL eB eBL HNO HYES HL hg hc hd hz
  go_enter Try.func6, Try.ntmps6
  by_cases h0 : 65536 < dl.length
  · have LH : Hid (65536 < dl.length) := h0
    have q0 : (65536 : Int) < (dl.length : Int) := by omega
    have r0 : decide ((65536 : Int) < (dl.length : Int)) = true := decide_eq_true q0
    clear h0
    go_wp2_with (rw [EA.out, EP.out])
    go_ret2
    exact LONG.out ((.inl LH.out)) wA BA.out
  have q0 : ¬ (65536 : Int) < (dl.length : Int) := by omega
  have r0 : decide ((65536 : Int) < (dl.length : Int)) = false := decide_eq_false q0
  clear h0
  by_cases h1 : 65536 < id.size
  · have LH : Hid (65536 < id.size) := h1
    have q1 : (65536 : Int) < (id.size : Int) := by omega
    have r1 : decide ((65536 : Int) < (id.size : Int)) = true := decide_eq_true q1
    clear h1
    go_wp2_with (rw [EA.out, EP.out])
    go_ret2
    exact LONG.out ((.inr (.inl LH.out))) wA BA.out
  have q1 : ¬ (65536 : Int) < (id.size : Int) := by omega
  have r1 : decide ((65536 : Int) < (id.size : Int)) = false := decide_eq_false q1
  clear h1
  by_cases h2 : 65536 < nm.size
  · have LH : Hid (65536 < nm.size) := h2
    have q2 : (65536 : Int) < (nm.size : Int) := by omega
    have r2 : decide ((65536 : Int) < (nm.size : Int)) = true := decide_eq_true q2
    clear h2
    go_wp2_with (rw [EA.out, EP.out])
    go_ret2
    exact LONG.out ((.inr (.inr (.inl LH.out)))) wA BA.out
  have q2 : ¬ (65536 : Int) < (nm.size : Int) := by omega
  have r2 : decide ((65536 : Int) < (nm.size : Int)) = false := decide_eq_false q2
  clear h2
  by_cases h3 : 65536 < of_.size
  · have LH : Hid (65536 < of_.size) := h3
    have q3 : (65536 : Int) < (of_.size : Int) := by omega
    have r3 : decide ((65536 : Int) < (of_.size : Int)) = true := decide_eq_true q3
    clear h3
    go_wp2_with (rw [EA.out, EP.out])
    go_ret2
    exact LONG.out ((.inr (.inr (.inr (.inl LH.out))))) wA BA.out
  have q3 : ¬ (65536 : Int) < (of_.size : Int) := by omega
  have r3 : decide ((65536 : Int) < (of_.size : Int)) = false := decide_eq_false q3
  clear h3
  by_cases h4 : 65536 < ot.size
  · have LH : Hid (65536 < ot.size) := h4
    have q4 : (65536 : Int) < (ot.size : Int) := by omega
    have r4 : decide ((65536 : Int) < (ot.size : Int)) = true := decide_eq_true q4
    clear h4
    go_wp2_with (rw [EA.out, EP.out])
    go_ret2
    exact LONG.out ((.inr (.inr (.inr (.inr (.inl LH.out)))))) wA BA.out
  have q4 : ¬ (65536 : Int) < (ot.size : Int) := by omega
  have r4 : decide ((65536 : Int) < (ot.size : Int)) = false := decide_eq_false q4
  clear h4
  by_cases h5 : 65536 < oy.size
  · have LH : Hid (65536 < oy.size) := h5
    have q5 : (65536 : Int) < (oy.size : Int) := by omega
    have r5 : decide ((65536 : Int) < (oy.size : Int)) = true := decide_eq_true q5
    clear h5
    go_wp2_with (rw [EA.out, EP.out])
    go_ret2
    exact LONG.out ((.inr (.inr (.inr (.inr (.inr LH.out)))))) wA BA.out
  have q5 : ¬ (65536 : Int) < (oy.size : Int) := by omega
  have r5 : decide ((65536 : Int) < (oy.size : Int)) = false := decide_eq_false q5
  clear h5
  have RX := RG.out
  go_wp2_with (first
    | (rw [EA.out, EP.out])
    | (refine wpList_load_mid rfl 27 (.tmp 49) rfl P 1 rfl [.int .i64 k, .int .i64 ok, .string of_, .string ot, .int .i64 oa, .string oy, .int .i64 os, .int .i64 oh, .string id, .string nm, .int .i64 n, .int .i64 why, .int .i64 slot, .int .i64 ep, .int .i64 at_, .bool last, .slice da dl.length dc] _ RX Try.underlying27 rfl (by kernel_rfl) ?_))
  have HX := SB.out ()
  refine HX.mono ?_
  clear HX
  rintro e w1 ⟨v1, rfl, g1, b1⟩
  have y0 : w1.cell? ⟨P, 0, none⟩ = some (.int .i64 g) := AT.out w1 b1 0 _ rfl
  have HX := refInt_any none 0 0 [] g HG.out w1 ⟨rfl, by simp, .inl rfl⟩ (fun _ => rfl) (by omega)
  have G1 : Hid (Got w1 v1 L ∧ Below w.heap.size w w1) := ⟨g1, BA.out.trans (b1.mono BA.out.size)⟩
  clear RX y17 y9 y10 y3 y4 y6 g1 b1 SB
  go_wp2_with fail
  refine HX.mono ?_
  clear HX y0
  rintro e w2 ⟨v2, rfl, o2, b2⟩
  have HX := refBytes_got (got_nil w2) (G1.out.1.below b2) (by have := HLz.out; simp only [List.length_nil]; omega)
  have O2 : Hid (w2.ownsRow w1.heap.size 5 1 v2 (0 + (enc (zig g)).length) (cellsOf ([] ++ enc (zig g))) ∧ w1.heap.size ≤ w2.heap.size) := ⟨o2, b2.size⟩
  have B2 : Hid (Below w.heap.size w w2) := G1.out.2.trans (b2.mono G1.out.2.size)
  have S1 : Hid (w.heap.size ≤ w1.heap.size) := G1.out.2.size
  clear o2 b2 G1
  go_wp2_with fail
  refine HX.mono ?_
  clear HX
  rintro e w3 ⟨v3, rfl, g3, b3⟩
  obtain ⟨pa, pc, rfl, p2, p3⟩ := g3
  have ez := enc_zigX HG.out
  have el := sz_length_le L (by have := HLz.out; omega)
  have o3 := owns_belowX O2.out.1 b3
  obtain ⟨v4, w4, hr4, o4, g4⟩ := run_append_bytes 25 w3 w1.heap.size v2 _ _ o3 pa _ pc _ p2 p3 (by have := HLz.out; simp only [List.nil_append]; omega) (Nat.le_trans O2.out.2 b3.size)
  have b3' : Below w.heap.size w w3 := B2.out.trans (b3.mono B2.out.size)
  have B4 : Hid (Below w.heap.size w w4) := b3'.trans ((Below.refl _ w3).grown g4 b3'.size (fun k e => Nat.le_trans S1.out (o3.lt _ e).1))
  have G4 : Hid (Got w4 v4 B) := by
    rw [EB.out]
    rw [List.nil_append] at o4
    exact got_owned o4 (by have := HLz.out; unfold maxLen; omega)
  have HR : Hid _ := hr4
  clear p2 p3 el ez o3 hr4 o4 g4 b3' b3 O2 B2
  have g4 := G4.out
  obtain ⟨a4, c4, rfl, _⟩ := g4
  by_cases hb : 65536 < B.length
  · have HB : Hid (65536 < B.length) := hb
    have q7 : (65536 : Int) < (B.length : Int) := by omega
    have r7 : decide ((65536 : Int) < (B.length : Int)) = true := decide_eq_true q7
    clear hb
    go_wp2_with (at_builtin; refine wpList_append_known rfl (.tmp 55) (.tmp 57) 25 25 rfl _ _ rfl rfl _ _ HR.out ?_)
    go_ret2
    exact NO.out w4 HB.out B4.out
  · have HB : Hid (¬ 65536 < B.length) := hb
    have q7 : ¬ (65536 : Int) < (B.length : Int) := by omega
    have r7 : decide ((65536 : Int) < (B.length : Int)) = false := decide_eq_false q7
    clear hb
    go_wp2_with (at_builtin; refine wpList_append_known rfl (.tmp 55) (.tmp 57) 25 25 rfl _ _ rfl rfl _ _ HR.out ?_)
    go_ret2
    exact YES.out w4 _ HB.out G4.out B4.out
end Go.Proofs.Ytogbcciocgpknaa
