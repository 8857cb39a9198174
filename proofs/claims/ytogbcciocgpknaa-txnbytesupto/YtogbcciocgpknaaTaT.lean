/- There and back, plainly: what was written is read. -/
import Derived.Test.YtogbcciocgpknaaTaS
import Derived.Test.YtogbcciocgpknaaXGa
import Derived.Test.YtogbcciocgpknaaXPt
import Derived.Test.YtogbcciocgpknaaTaK
import Derived.Test.YtogbcciocgpknaaTaF
import Derived.Test.YtogbcciocgpknaaTaG
import Derived.Laws.OwnMore
namespace Go.Proofs.Ytogbcciocgpknaa
open Go.RowKit Cod
set_option linter.unusedVariables false
/-- A Reader that came so far without an error, and what is left. -/
structure AtX (l : List (BitVec 8)) (p : Nat × Nat) (r : List (BitVec 8)) : Prop where
  le : p.1 ≤ l.length
  dr : l.drop p.1 = r
  ok : p.2 = 0
theorem AtX.start (l : List (BitVec 8)) : AtX l (0, 0) l := ⟨Nat.zero_le _, rfl, rfl⟩
theorem AtX.num {l r : List (BitVec 8)} {p : Nat × Nat} {n : Nat} (h : AtX l p (enc n ++ r)) (hn : n < 18446744073709551616) : (rU l p.1 p.2).1 = n ∧ AtX l (rU l p.1 p.2).2 r := by
  have e := rU_back h.dr hn
  have a := drop_len h.le h.dr
  rw [h.ok, e]
  exact ⟨rfl, by show p.1 + (enc n).length ≤ l.length; omega, drop_next h.dr, rfl⟩
theorem AtX.int {l r : List (BitVec 8)} {p : Nat × Nat} {n : Int} (h : AtX l p (enc (zig n) ++ r)) (hn : i64ok n) : zag (rU l p.1 p.2).1 = n ∧ AtX l (rU l p.1 p.2).2 r := by
  obtain ⟨e, k⟩ := h.num (zig_lt n hn)
  exact ⟨by rw [e]; exact zag_zig n, k⟩
theorem AtX.bool {l r : List (BitVec 8)} {p : Nat × Nat} {b : Bool} (h : AtX l p ([bit8 b] ++ r)) : (rB l p.1 p.2).1 = b ∧ AtX l (rB l p.1 p.2).2 r := by
  have d : l.drop p.1 = bit8 b :: r := h.dr
  have e := rB_back b h.le d
  have a := drop_len h.le h.dr
  have q := drop_next h.dr
  simp only [List.length_cons, List.length_nil] at a q
  rw [h.ok, e]
  exact ⟨rfl, by show p.1 + 1 ≤ l.length; omega, q, rfl⟩
theorem AtX.bytes {l r s : List (BitVec 8)} {p : Nat × Nat} (h : AtX l p (sz s ++ r)) (hs : s.length ≤ 65536) : (rS l p.1 p.2).1 = s ∧ AtX l (rS l p.1 p.2).2 r := by
  have e := rS_back h.le h.dr hs
  have a := drop_len h.le h.dr
  rw [h.ok, e]
  exact ⟨rfl, by show p.1 + (sz s).length ≤ l.length; omega, drop_next h.dr, rfl⟩
theorem AtX.text {l r : List (BitVec 8)} {s : ByteArray} {p : Nat × Nat} (h : AtX l p (sz (bytesL s) ++ r)) (hs : s.size ≤ 65536) : textOf (rS l p.1 p.2).1 = s ∧ AtX l (rS l p.1 p.2).2 r := by
  obtain ⟨e, k⟩ := h.bytes (by rw [bytesL_length]; exact hs)
  exact ⟨by rw [e]; exact textOf_bytesL s, k⟩
theorem AtX.op {l r : List (BitVec 8)} {o : OpD} {p : Nat × Nat} (h : AtX l p (o.bytes ++ r)) (ho : o.ok) (h1 : o.src.size ≤ 65536) (h2 : o.dst.size ≤ 65536) (h3 : o.key.size ≤ 65536) : rOpV l p.1 p.2 = o ∧ AtX l (rOp7 l p.1 p.2).2 r := by
  obtain ⟨e1, e2, e3, e4⟩ := rOp_back ho h.le h.dr h1 h2 h3
  have a := drop_len h.le h.dr
  rw [h.ok]
  exact ⟨e1, by rw [e2]; omega, by rw [e2]; exact e4, e3⟩
theorem AtX.reply {l r : List (BitVec 8)} {w a : Int} {rows : List (ByteArray × Int)} {p : Nat × Nat} (h : AtX l p ((enc (zig w) ++ enc (zig a) ++ enc rows.length ++ rowsB rows) ++ r)) (hw : i64ok w) (ha : i64ok a) (hn : rows.length ≤ 600) (hr : ∀ x ∈ rows, i64ok x.2 ∧ x.1.size ≤ 65536) :
    zag (rRe1 l p.1 p.2).1 = w ∧ zag (rRe2 l p.1 p.2).1 = a ∧ (rRe4 l p.1 p.2).1 = rows ∧ AtX l (rRe4 l p.1 p.2).2 r := by
  simp only [List.append_assoc] at h
  obtain ⟨e1, k1⟩ := h.int hw
  obtain ⟨e2, k2⟩ := k1.int ha
  have hge := rowsB_ge rows
  have e3 := rC_back (n := rows.length) (most := 600) k2.le k2.dr (by omega) (by omega) (by simp only [List.length_append]; omega)
  have a3 := drop_len k2.le k2.dr
  have d3 := drop_next k2.dr
  have f3 : rRe3 l p.1 p.2 = (rows.length, (rU l (rU l p.1 p.2).2.1 (rU l p.1 p.2).2.2).2.1 + (enc rows.length).length, 0) := by
    unfold rRe3 rRe2 rRe1
    rw [k2.ok]
    exact e3
  have e4 := rRows_back (rows := rows) (r := r) (by omega) d3 hr rows.length (Nat.le_refl _)
  have f4 : rRe4 l p.1 p.2 = (rows, (rU l (rU l p.1 p.2).2.1 (rU l p.1 p.2).2.2).2.1 + (enc rows.length).length + (rowsB rows).length, 0) := by
    unfold rRe4
    rw [f3]
    simp only
    rw [e4, List.take_length]
  refine ⟨e1, e2, by rw [f4], by rw [f4]; show (rU l (rU l p.1 p.2).2.1 (rU l p.1 p.2).2.2).2.1 + (enc rows.length).length + (rowsB rows).length ≤ l.length; simp only [List.length_append] at a3; omega, by rw [f4]; exact drop_next d3, by rw [f4]⟩
theorem AtX.done {l : List (BitVec 8)} {p : Nat × Nat} (h : AtX l p []) : rEnd l p.1 p.2 = 0 := by
  have : l.length ≤ p.1 := by
    have := congrArg List.length h.dr
    simp only [List.length_drop, List.length_nil] at this
    omega
  unfold rEnd
  rw [h.ok, if_neg (by simp), if_neg (by omega)]
/-- A command there and back. -/
theorem cmd_back {c : CmdV} {dl : List (BitVec 8)} (h : c.In) (hl : (cmdU c dl 11).length ≤ 65536) (h1 : dl.length ≤ 65536) (h2 : c.id.size ≤ 65536) (h3 : c.nm.size ≤ 65536) (h4 : c.of_.size ≤ 65536) (h5 : c.ot.size ≤ 65536) (h6 : c.oy.size ≤ 65536) (d : Value) :
    psW (cmdU c dl 11) = 0 ∧ psC (cmdU c dl 11) d = { c with data := d } ∧ psD (cmdU c dl 11) = dl := by
  obtain ⟨L, eL⟩ : ∃ L, cmdU c dl 11 = L := ⟨_, rfl⟩
  have s : AtX L (pX0 L) (enc (zig c.k) ++ (c.op.bytes ++ (sz (bytesL c.id) ++ (sz (bytesL c.nm) ++ (enc (zig c.n) ++ (enc (zig c.why) ++ (enc (zig c.slot) ++ (enc (zig c.ep) ++ (enc (zig c.at_) ++ ([bit8 c.last] ++ (sz dl ++ []))))))))))) := by
    have := AtX.start L
    have e : L = (enc (zig c.k) ++ (c.op.bytes ++ (sz (bytesL c.id) ++ (sz (bytesL c.nm) ++ (enc (zig c.n) ++ (enc (zig c.why) ++ (enc (zig c.slot) ++ (enc (zig c.ep) ++ (enc (zig c.at_) ++ ([bit8 c.last] ++ (sz dl ++ []))))))))))) := by
      rw [← eL]
      simp only [cmdU, cmdP, List.nil_append, List.append_assoc, List.append_nil]
    exact ⟨Nat.zero_le _, e, rfl⟩
  rw [eL] at hl ⊢
  obtain ⟨e0', s1'⟩ := s.int h.k
  have e0 : pcI0 L = c.k := e0'
  have s1 : AtX L (pX1 L) _ := s1'
  clear e0' s1'
  obtain ⟨e1', s2'⟩ := s1.op h.o h4 h5 h6
  have e1 : pcO L = c.op := e1'
  have s2 : AtX L (pX2 L) _ := s2'
  clear e1' s2'
  obtain ⟨e2', s3'⟩ := s2.text h2
  have e2 : pcT2 L = c.id := e2'
  have s3 : AtX L (pX3 L) _ := s3'
  clear e2' s3'
  obtain ⟨e3', s4'⟩ := s3.text h3
  have e3 : pcT3 L = c.nm := e3'
  have s4 : AtX L (pX4 L) _ := s4'
  clear e3' s4'
  obtain ⟨e4', s5'⟩ := s4.int h.n
  have e4 : pcI4 L = c.n := e4'
  have s5 : AtX L (pX5 L) _ := s5'
  clear e4' s5'
  obtain ⟨e5', s6'⟩ := s5.int h.why
  have e5 : pcI5 L = c.why := e5'
  have s6 : AtX L (pX6 L) _ := s6'
  clear e5' s6'
  obtain ⟨e6', s7'⟩ := s6.int h.slot
  have e6 : pcI6 L = c.slot := e6'
  have s7 : AtX L (pX7 L) _ := s7'
  clear e6' s7'
  obtain ⟨e7', s8'⟩ := s7.int h.ep
  have e7 : pcI7 L = c.ep := e7'
  have s8 : AtX L (pX8 L) _ := s8'
  clear e7' s8'
  obtain ⟨e8', s9'⟩ := s8.int h.at_
  have e8 : pcI8 L = c.at_ := e8'
  have s9 : AtX L (pX9 L) _ := s9'
  clear e8' s9'
  obtain ⟨e9', s10'⟩ := s9.bool
  have e9 : pcL L = c.last := e9'
  have s10 : AtX L (pX10 L) _ := s10'
  clear e9' s10'
  obtain ⟨e10', s11'⟩ := s10.bytes h1
  have e10 : pcD L = dl := e10'
  have s11 : AtX L (pX11 L) _ := s11'
  clear e10' s11'
  have e11 : pcE L = 0 := s11.done
  have f : psW L = 0 := by unfold psW; rw [if_neg (by omega)]; exact e11
  refine ⟨f, ?_, by rw [psD_yes f]; exact e10⟩
  rw [psC_yes f]
  unfold pcC
  rw [e0, e1, e2, e3, e4, e5, e6, e7, e8, e9]
  rfl
/-- An ask there and back. -/
theorem ask_back {g : Int} {c : CmdV} {dl : List (BitVec 8)} (hg : i64ok g) (h : c.In) (hw : askW g c dl = 0) (h0 : 0 ≤ g) (h3 : g ≤ 3) (d : Value) :
    tpW (askL g c dl) = 0 ∧ tpG (askL g c dl) = g ∧ tpC (askL g c dl) d = { c with data := d } ∧ tpD (askL g c dl) = dl := by
  have hl : ¬ 65536 < (askB g c dl).length := fun h => by unfold askW at hw; rw [if_pos h] at hw; exact absurd hw (by decide)
  have eL : askL g c dl = askB g c dl := by unfold askL; rw [if_neg hl]
  have hlong : ¬ (65536 < dl.length ∨ 65536 < c.id.size ∨ 65536 < c.nm.size ∨ 65536 < c.of_.size ∨ 65536 < c.ot.size ∨ 65536 < c.oy.size) := fun h => hl (ask_long h)
  have hP : (cmdU c dl 11).length ≤ 65536 := by
    have := sz_geX (cmdU c dl 11)
    unfold askB at hl
    simp only [List.length_append] at hl
    omega
  obtain ⟨b1, b2, b3⟩ := cmd_back h hP (by omega) (by omega) (by omega) (by omega) (by omega) (by omega) d
  rw [eL]
  obtain ⟨L, e⟩ : ∃ L, askB g c dl = L := ⟨_, rfl⟩
  have s : AtX L (pX0 L) (enc (zig g) ++ (sz (cmdU c dl 11) ++ [])) := by
    have e2 : L = enc (zig g) ++ (sz (cmdU c dl 11) ++ []) := by
      rw [← e]
      simp only [askB, List.nil_append, List.append_nil]
    exact ⟨Nat.zero_le _, e2, rfl⟩
  rw [e] at hl ⊢
  obtain ⟨e0', s1'⟩ := s.int hg
  have g0 : pcI0 L = g := e0'
  have s1 : AtX L (pX1 L) _ := s1'
  obtain ⟨e1', s2'⟩ := s1.bytes hP
  have gB : tpB L = cmdU c dl 11 := e1'
  have s2 : AtX L (tpX L).2 _ := s2'
  have gE : tpE L = 0 := s2.done
  clear e0' s1' e1' s2'
  have f : tpW L = 0 := by
    unfold tpW
    rw [if_neg hl, if_neg (by rw [gE]; simp), gB, if_neg (by rw [b1]; simp), g0, if_neg (by omega)]
  refine ⟨f, ?_, ?_, ?_⟩
  · unfold tpG; rw [if_pos f]; exact g0
  · unfold tpC; rw [if_pos f, gB]; exact b2
  · unfold tpD; rw [if_pos f, gB]; exact b3
/-- A result there and back. -/
theorem res_back {y : Int} {wt : Bool} {rw_ rm : Int} {rows : List (ByteArray × Int)} {el : List (BitVec 8)} (h1 : i64ok y) (h2 : i64ok rw_) (h3 : i64ok rm) (hr : ∀ r ∈ rows, i64ok r.2) (hn : ∀ r ∈ rows, r.1.size ≤ 65536) (hw : resW y wt rw_ rm rows el = 0) :
    grW (resL y wt rw_ rm rows el) = 0 ∧ grY (resL y wt rw_ rm rows el) = y ∧ grL (resL y wt rw_ rm rows el) = wt ∧ grA (resL y wt rw_ rm rows el) = rw_ ∧ grM (resL y wt rw_ rm rows el) = rm ∧ grR (resL y wt rw_ rm rows el) = rows ∧ grD (resL y wt rw_ rm rows el) = el := by
  have hx : ¬ resX y wt rw_ rm rows el := fun h => by unfold resW at hw; rw [if_pos h] at hw; exact absurd hw (by decide)
  have eL : resL y wt rw_ rm rows el = resB y wt rw_ rm rows el := by unfold resL; rw [if_neg hx]
  unfold resX at hx
  rw [eL]
  obtain ⟨L, e⟩ : ∃ L, resB y wt rw_ rm rows el = L := ⟨_, rfl⟩
  have s : AtX L (pX0 L) (enc (zig y) ++ ([bit8 wt] ++ ((enc (zig rw_) ++ enc (zig rm) ++ enc rows.length ++ rowsB rows) ++ (sz el ++ [])))) := by
    have e2 : L = enc (zig y) ++ ([bit8 wt] ++ ((enc (zig rw_) ++ enc (zig rm) ++ enc rows.length ++ rowsB rows) ++ (sz el ++ []))) := by
      rw [← e]
      simp only [resB, resH, List.nil_append, List.append_nil, List.append_assoc]
    exact ⟨Nat.zero_le _, e2, rfl⟩
  rw [e] at hx ⊢
  obtain ⟨e0', s1'⟩ := s.int h1
  have e0 : pcI0 L = y := e0'
  have s1 : AtX L (pX1 L) _ := s1'
  obtain ⟨e1', s2'⟩ := s1.bool
  have e1 : gcL L = wt := e1'
  have s2 : AtX L (gX2 L) _ := s2'
  obtain ⟨e2', e3', e4', s3'⟩ := s2.reply h2 h3 (by omega) (fun x hxm => ⟨hr x hxm, hn x hxm⟩)
  have e2 : gcY L = rw_ := e2'
  have e3 : gcM L = rm := e3'
  have e4 : gcR L = rows := e4'
  have s3 : AtX L (gX3 L) _ := s3'
  obtain ⟨e5', s4'⟩ := s3.bytes (by omega)
  have e5 : gcD L = el := e5'
  have s4 : AtX L (gX4 L) _ := s4'
  have e6 : gcE L = 0 := s4.done
  clear e0' s1' e1' s2' e2' e3' e4' s3' e5' s4'
  have f : grW L = 0 := by unfold grW; rw [if_neg (by omega)]; exact e6
  unfold grY grL grA grM grR grD
  simp only [if_pos f]
  exact ⟨f, e0, e1, e2, e3, e4, e5⟩
end Go.Proofs.Ytogbcciocgpknaa

namespace Go.Proofs.Ytogbcciocgpknaa
open Go.RowKit Cod
set_option linter.unusedVariables false

/-- What stands ahead of a message's entries. -/
structure HeadD where
  kind : Int
  group : Int
  src : Int
  dst : Int
  term : Int
  index : Int
  logTerm : Int
  commit : Int
  ok : Bool
structure HeadD.fine (h : HeadD) : Prop where
  kind : i64ok h.kind
  group : i64ok h.group
  src : i64ok h.src
  dst : i64ok h.dst
  term : i64ok h.term
  index : i64ok h.index
  logTerm : i64ok h.logTerm
  commit : i64ok h.commit
def HeadD.bytes (h : HeadD) : List (BitVec 8) := enc (zig h.kind) ++ enc (zig h.group) ++ enc (zig h.src) ++ enc (zig h.dst) ++ enc (zig h.term) ++ enc (zig h.index) ++ enc (zig h.logTerm) ++ enc (zig h.commit) ++ [bit8 h.ok]
/-- A message as a value: its head, its entries, its data. -/
def HeadD.val (h : HeadD) (ev dv : Value) : Value := .agg #[.int .i64 h.kind, .int .i64 h.group, .int .i64 h.src, .int .i64 h.dst, .int .i64 h.term, .int .i64 h.index, .int .i64 h.logTerm, .int .i64 h.commit, .bool h.ok, ev, dv]
theorem HeadD.len (h : HeadD) (hf : h.fine) : h.bytes.length ≤ 81 := by
  have e0 := enc_ten (zig_lt h.kind hf.kind)
  have e1 := enc_ten (zig_lt h.group hf.group)
  have e2 := enc_ten (zig_lt h.src hf.src)
  have e3 := enc_ten (zig_lt h.dst hf.dst)
  have e4 := enc_ten (zig_lt h.term hf.term)
  have e5 := enc_ten (zig_lt h.index hf.index)
  have e6 := enc_ten (zig_lt h.logTerm hf.logTerm)
  have e7 := enc_ten (zig_lt h.commit hf.commit)
  simp only [HeadD.bytes, List.length_append, List.length_cons, List.length_nil]
  omega
end Go.Proofs.Ytogbcciocgpknaa

namespace Go.Proofs.Ytogbcciocgpknaa
open Go.RowKit Cod
set_option linter.unusedVariables false

/-- Bytes in memory, as a value. -/
def BytesV (w : World) (v : Value) (p : List (BitVec 8)) : Prop := ∃ a c, v = .slice a p.length c ∧ Seen w a p.length p ∧ (a = none → c = 0)
/-- Entries of a message in memory. -/
def EntsAt (w : World) (a : Option Addr) (n : Nat) (ents : List (Int × List (BitVec 8))) : Prop :=
  n = ents.length ∧ (n = 0 ∨ ∃ b off, a = some ⟨b, off, none⟩ ∧ ∀ j (hj : j < ents.length), w.cell? ⟨b, off + j * 2, none⟩ = some (.int .i64 ents[j].1) ∧ ∃ v, w.cell? ⟨b, off + j * 2 + 1, none⟩ = some v ∧ BytesV w v ents[j].2)
theorem BytesV.below {w w' : World} {v : Value} {p : List (BitVec 8)} (h : BytesV w v p) (hb : Below w.heap.size w w') : BytesV w' v p := by
  obtain ⟨a, c, h1, h2, h3⟩ := h
  exact ⟨a, c, h1, h2.below hb, h3⟩
theorem EntsAt.below {w w' : World} {a : Option Addr} {n : Nat} {ents : List (Int × List (BitVec 8))} (h : EntsAt w a n ents) (hb : Below w.heap.size w w') : EntsAt w' a n ents := by
  obtain ⟨h1, h3⟩ := h
  refine ⟨h1, ?_⟩
  rcases h3 with h3 | ⟨b, off, ha, hc⟩
  · exact .inl h3
  · refine .inr ⟨b, off, ha, fun j hj => ?_⟩
    obtain ⟨c1, v, c2, c3⟩ := hc j hj
    rw [hb.cell (p := ⟨b, off + j * 2, none⟩) (World.block_lt_of_cell? w _ c1), hb.cell (p := ⟨b, off + j * 2 + 1, none⟩) (World.block_lt_of_cell? w _ c2)]
    exact ⟨c1, v, c2, c3.below hb⟩
theorem EntsAt.at {w : World} {a : Option Addr} {n : Nat} {ents : List (Int × List (BitVec 8))} (h : EntsAt w a n ents) {k : Nat} (hk : k < ents.length) :
    ∃ b off v, a = some ⟨b, off, none⟩ ∧ w.cell? ⟨b, off + k * 2, none⟩ = some (.int .i64 ents[k].1) ∧ w.cell? ⟨b, off + k * 2 + 1, none⟩ = some v ∧ BytesV w v ents[k].2 := by
  rcases h.2 with h3 | ⟨b, off, ha, hc⟩
  · have := h.1; omega
  · obtain ⟨c1, v, c2, c3⟩ := hc k hk
    exact ⟨b, off, v, ha, c1, c2, c3⟩
def entB (e : Int × List (BitVec 8)) : List (BitVec 8) := enc (zig e.1) ++ sz e.2
def entsB (ents : List (Int × List (BitVec 8))) : List (BitVec 8) := (ents.map entB).flatten
theorem entsB_take {ents : List (Int × List (BitVec 8))} {k : Nat} (hk : k < ents.length) : entsB (ents.take (k + 1)) = entsB (ents.take k) ++ entB ents[k] := by
  rw [List.take_add_one, List.getElem?_eq_getElem hk]
  simp only [entsB, List.map_append, List.flatten_append, Option.toList_some, List.map_cons, List.map_nil, List.flatten_cons, List.flatten_nil, List.append_nil]
theorem entsB_split (ents : List (Int × List (BitVec 8))) (k : Nat) : entsB ents = entsB (ents.take k) ++ entsB (ents.drop k) := by
  conv => lhs; rw [← List.take_append_drop k ents]
  simp only [entsB, List.map_append, List.flatten_append]
/-- A message's bytes. -/
def msgB (h : HeadD) (ents : List (Int × List (BitVec 8))) (data : List (BitVec 8)) : List (BitVec 8) := h.bytes ++ enc ents.length ++ entsB ents ++ sz data
/-- Whether a message can be written. -/
def msgFits (h : HeadD) (ents : List (Int × List (BitVec 8))) (data : List (BitVec 8)) : Prop :=
  ents.length ≤ 4096 ∧ data.length ≤ 65536 ∧ (∀ e ∈ ents, e.2.length ≤ 65536) ∧ (msgB h ents data).length ≤ 1048576
/-- What Msg answers. -/
def MsgTold (w0 w : World) (h : HeadD) (ents : List (Int × List (BitVec 8))) (data : List (BitVec 8)) (e : Ending) : Prop :=
  (msgFits h ents data ∧ ∃ v, e = .returned (.tuple #[v, .int .i64 0]) ∧ w.ownsRow w0.heap.size 5 1 v (msgB h ents data).length (cellsOf (msgB h ents data))) ∨ (¬ msgFits h ents data ∧ e = .returned (.tuple #[.slice none 0 0, .int .i64 3]))
theorem owned_form {w : World} {base n : Nat} {v : Value} {xs : List Value} (h : w.ownsRow base 5 1 v n xs) : ∃ a c, v = .slice a n c ∧ (a = none → c = 0) := by
  rcases h.2 with ⟨rfl, rfl⟩ | ⟨g, c, cur, rfl, _⟩
  · exact ⟨none, 0, rfl, fun _ => rfl⟩
  · exact ⟨_, c, rfl, fun e => by cases e⟩
end Go.Proofs.Ytogbcciocgpknaa

namespace Go.Proofs.Ytogbcciocgpknaa
open Go.RowKit Cod
set_option linter.unusedVariables false

theorem cellsOf_set (l : List (BitVec 8)) (j : Nat) (c : BitVec 8) : (cellsOf l).set j (.int .u8 (V c)) = cellsOf (l.set j c) := by simp [cellsOf, List.map_set]
set_option maxRecDepth 100000 in
set_option maxHeartbeats 800000 in
theorem lent_any (a : Option Addr) (len cap : Nat) (l : List (BitVec 8)) (w : World) (h : Seen w a len l) (hnil : a = none → cap = 0) (hm : len + 1 ≤ 140737488355328) :
    Calls Try.prog 10 #[.slice a len cap] w fun e w' => ∃ g c, e = .returned (.slice (some ⟨g, 0, none⟩) len c) ∧ w'.ownsRow w.heap.size 5 1 (.slice (some ⟨g, 0, none⟩) (len + 1) c) (len + 1) (cellsOf (l ++ [167#8])) ∧ Below w.heap.size w w' := by
  obtain ⟨v1, w1, hr1, o1, g1⟩ := run_append_bytes 25 w w.heap.size (.slice none 0 0) 0 [] (World.ownsRow_nil _ _ _ _) a len cap l h hnil (by omega) (Nat.le_refl _)
  rw [List.nil_append, Nat.zero_add] at o1
  have b1 : Below w.heap.size w w1 := (Below.refl _ w).grown g1 (Nat.le_refl _) (fun k e => by cases e)
  obtain ⟨v2, w2, hr2, o2, b2, _⟩ := append_one w1 w.heap.size v1 len l o1 167#8 (by omega) b1.size
  rw [show V 167#8 = 167 from rfl] at hr2
  obtain ⟨g, c, rfl, hg1, hg2⟩ := o2.form (by omega)
  have hcap : len + 1 ≤ c := by
    rcases o2.2 with ⟨e, _⟩ | ⟨g', c', cur, e, _, _, hnc, _⟩
    · cases e
    · cases e
      exact hnc
  have HR1 : Hid _ := hr1
  have HR2 : Hid _ := hr2
  have O2 : Hid (w2.ownsRow w.heap.size 5 1 (.slice (some ⟨g, 0, none⟩) (len + 1) c) (len + 1) (cellsOf (l ++ [167#8]))) := o2
  have B2 : Hid (Below w.heap.size w w2) := b1.trans b2
  have hlc : len ≤ c := by omega
  clear h hnil hm hr1 hr2 o1 g1 b1 o2 b2 hg1 hg2 hcap
  go_enter Try.func10, Try.ntmps10
  go_wp2_with (first
    | (at_builtin; refine wpList_append_known rfl (.tmp 4) (.tmp 5) 25 25 rfl _ _ rfl rfl _ _ HR1.out ?_)
    | (at_builtin; refine wpList_append_known rfl (.tmp 7) (.tmp 8) 25 25 rfl _ _ rfl rfl _ _ HR2.out ?_))
  go_ret
  exact ⟨g, c, rfl, O2.out, B2.out⟩
set_option maxRecDepth 100000 in
set_option maxHeartbeats 800000 in
theorem kept_any (g c len : Nat) (l : List (BitVec 8)) (b : Option Addr) (cap : Nat) (w : World) (base : Nat) (ho : w.ownsRow base 5 1 (.slice (some ⟨g, 0, none⟩) (len + 1) c) (len + 1) (cellsOf (l ++ [167#8]))) (hb : Seen w b len l) (hm : len + 1 ≤ 140737488355328) :
    Calls Try.prog 19 #[.slice (some ⟨g, 0, none⟩) len c, .slice b len cap] w fun e w' => e = .returned (.bool true) ∧ w' = w := by
  obtain rfl : len = l.length := hb.1
  obtain ⟨a', c', e', s', _, hcap⟩ := owned_seen ho (by unfold maxLen; omega)
  cases e'
  have s1 : Seen w (some ⟨g, 0, none⟩) l.length l := by
    have := s'.take l.length (by simp)
    rwa [List.take_left] at this
  have t1 : (convert 25 9 (.slice (some ⟨g, 0, none⟩) l.length c)).run Try.prog w = .ok (.string (textOf l)) w := run_to_text w _ _ c l s1
  have t2 : (convert 25 9 (.slice b l.length cap)).run Try.prog w = .ok (.string (textOf l)) w := run_to_text w b _ cap l hb
  have hs : ((textOf l).toList == (textOf l).toList) = true := by simp
  have hcell : w.cell? ⟨g, l.length, none⟩ = some (.int .u8 167) := by
    have := ho.cellAt l.length (by omega)
    rw [this]
    simp [cellsOf]
    rfl
  generalize textOf l = tl at *
  have hlen : l.length ≤ 140737488355327 := by omega
  have hlc : l.length + 1 ≤ c := hcap
  generalize l.length = n at *
  clear ho hb hm s' s1 hcap
  go_enter Try.func19, Try.ntmps19
  go_wp2
  go_ret
  exact ⟨rfl, rfl⟩
set_option maxRecDepth 100000 in
set_option maxHeartbeats 1600000 in
theorem spoil_any (base : Nat) (v : Value) (n : Nat) (l : List (BitVec 8)) (w : World) (ho : w.ownsRow base 5 1 v n (cellsOf l)) (hbase : base ≤ w.heap.size) (hm : n + 1 ≤ 140737488355328) :
    Calls Try.prog 20 #[v] w fun e w' => (∃ u, e = .returned u) ∧ Below base w w' := by
  obtain ⟨va, vc, rfl, hvn⟩ := owned_form ho
  have HO : Hid (w.ownsRow base 5 1 (.slice va n vc) n (cellsOf l)) := ho
  have HBs : Hid _ := hbase
  have HM : Hid _ := hm
  have HL : Hid (l.length = n) := by have := ho.1; rw [cellsOf_length] at this; show _ = _; omega
  clear ho hbase hm hvn
  go_enter Try.func20, Try.ntmps20
  go_wp2
  go_loopw [2] (fun i wr => ∃ (k : Nat) (l' : List (BitVec 8)), k ≤ n ∧ i = .int .i64 k ∧ l'.length = n ∧ wr.ownsRow base 5 1 (.slice va n vc) n (cellsOf l') ∧ Below base w wr) (fun i _ => n - (intOf i).toNat)
  case atStart => exact ⟨0, l, Nat.zero_le _, rfl, HL.out, HO.out, Below.refl _ _⟩
  case round =>
    obtain ⟨k, l', hk, rfl, hl', ho, hb⟩ := hrel
    by_cases hlt : k < n
    · obtain ⟨g, c, e, hg1, hg2⟩ := ho.form (by omega)
      cases e
      have hcell : wr.cell? ⟨g, k, none⟩ = (cellsOf l')[k]? := ho.cellAt k (by omega)
      have hc2 : wr.cell? ⟨g, k, none⟩ = some (.int .u8 (V (l'.getD k 0#8))) := by rw [hcell]; simp [cellsOf, hl', hlt]
      have hfr := ho.frozenAt k
      have hst := (ho.stored k (.int .u8 (V 90#8))).1
      rw [cellsOf_set, show V 90#8 = 90 from rfl] at hst
      have HS : Hid _ := hst
      have HB : Hid (Below base w (wr.setCell ⟨g, k, none⟩ (.int .u8 90))) := hb.setCell (by show base ≤ g; exact hg1) _
      have HLS : Hid ((l'.set k 90#8).length = n) := by show _ = _; simpa using hl'
      have hm' := HM.out
      have hlt' : (k : Int) < n := by omega
      clear ho hb hcell hst hl'
      go_wp2
      go_roundw
      case rel => exact ⟨k + 1, l'.set k 90#8, by omega, by go_num, HLS.out, HS.out, HB.out⟩
      case measure => simp only [intOf]; omega
    · obtain rfl : k = n := by omega
      obtain ⟨v2, w2, hr2, o2, b2, _⟩ := append_one wr base (.slice va k vc) k l' ho 91#8 HM.out (Nat.le_trans HBs.out hb.size)
      rw [show V 91#8 = 91 from rfl] at hr2
      obtain ⟨g, c, rfl, hg1, hg2⟩ := o2.form (by omega)
      have hc2 : w2.cell? ⟨g, k, none⟩ = some (.int .u8 91) := by
        rw [o2.cellAt k (by omega)]
        simp [cellsOf, hl']
        rfl
      have hfr := o2.frozenAt k
      have HR : Hid _ := hr2
      have HB : Hid (Below base w (w2.setCell ⟨g, k, none⟩ (.int .u8 92))) := (hb.trans b2).setCell (by show base ≤ g; exact hg1) _
      have hm' := HM.out
      have hw : IntKind.i64.wrap ((k : Int) + 1 - 1) = k := by rw [IntKind.wrap_i64]; omega
      clear hr2 o2 b2 ho hb hl'
      go_wp2_with (at_builtin; refine wpList_append_known rfl (.tmp 12) (.tmp 13) 25 25 rfl _ _ rfl rfl _ _ HR.out ?_)
      exact bodyPost_end (results_none rfl _ _ _) rfl ⟨⟨_, rfl⟩, HB.out⟩
end Go.Proofs.Ytogbcciocgpknaa
