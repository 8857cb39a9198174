/- What was written is read as it was: the plain functions. -/
import Derived.Test.YtaakdnbaljoehaaGoes
import Derived.Test.YtaakdnbaljoehaaPutReply
namespace Go.Proofs.Ytaakdnbaljoehaa
open Go.RowKit Cod
set_option linter.unusedVariables false

theorem drop_next {l x r : List (BitVec 8)} {at_ : Nat} (h : l.drop at_ = x ++ r) : l.drop (at_ + x.length) = r := by
  rw [← List.drop_drop, h, List.drop_left]
theorem drop_len {l x r : List (BitVec 8)} {at_ : Nat} (hat : at_ ≤ l.length) (h : l.drop at_ = x ++ r) : at_ + x.length + r.length = l.length := by
  have := congrArg List.length h
  simp at this
  omega
theorem rU_back {l r : List (BitVec 8)} {at_ n : Nat} (h : l.drop at_ = enc n ++ r) (hn : n < 18446744073709551616) : rU l at_ 0 = (n, at_ + (enc n).length, 0) := by
  simp [rU, h, num_enc0 hn]
theorem rC_back {l r : List (BitVec 8)} {at_ n : Nat} {most : Int} (hat : at_ ≤ l.length) (h : l.drop at_ = enc n ++ r) (hn : n < 18446744073709551616) (hm : (n : Int) ≤ most) (hr : n ≤ r.length) : rC l most at_ 0 = (n, at_ + (enc n).length, 0) := by
  have e := rU_back h hn
  have hl := drop_len hat h
  simp only [rC, e]
  rw [if_neg (by simp), if_neg (by omega), if_neg (by omega)]
theorem rS_back {l r s : List (BitVec 8)} {at_ : Nat} (hat : at_ ≤ l.length) (h : l.drop at_ = sz s ++ r) (hs : s.length ≤ 65536) : rS l at_ 0 = (s, at_ + (sz s).length, 0) := by
  have h1 : l.drop at_ = enc s.length ++ (s ++ r) := by rw [h, sz, List.append_assoc]
  have e := rC_back (most := 65536) hat h1 (by omega) (by omega) (by simp)
  simp only [rS, e]
  rw [if_neg (by simp), drop_next h1, List.take_left]
  simp [sz, Nat.add_assoc]
theorem rB_back {l r : List (BitVec 8)} {at_ : Nat} (b : Bool) (hat : at_ ≤ l.length) (h : l.drop at_ = bit8 b :: r) : rB l at_ 0 = (b, at_ + 1, 0) := by
  have hl := drop_len (x := [bit8 b]) (r := r) hat h
  have hg : l.getD at_ 0#8 = bit8 b := by
    have := congrArg (fun t => t[0]?) h
    simp at this
    rw [List.getD_eq_getElem?_getD, this]
    rfl
  simp at hl
  unfold rB
  rw [if_neg (by simp), if_neg (by omega), hg]
  cases b <;> simp [bit8]
theorem rOp_back {l r : List (BitVec 8)} {at_ : Nat} {o : OpD} (ho : o.ok) (hat : at_ ≤ l.length) (h : l.drop at_ = o.bytes ++ r) (h1 : o.src.size ≤ 65536) (h2 : o.dst.size ≤ 65536) (h3 : o.key.size ≤ 65536) :
    rOpV l at_ 0 = o ∧ (rOp7 l at_ 0).2.1 = at_ + o.bytes.length ∧ (rOp7 l at_ 0).2.2 = 0 ∧ l.drop (at_ + o.bytes.length) = r := by
  obtain ⟨kind, src, dst, amount, key, slot, shard⟩ := o
  obtain ⟨i1, i2, i3, i4⟩ := ho
  simp only at h1 h2 h3 i1 i2 i3 i4
  have hfin := drop_next h
  have s1 := h
  simp only [OpD.bytes, List.append_assoc] at s1
  have a1 := drop_len hat s1
  have e1 : rOp1 l at_ 0 = _ := rU_back s1 (zig_lt kind i1)
  have s2 := drop_next s1
  have a1' : at_ + (enc (zig kind)).length ≤ l.length := by omega
  have e2 : rOp2 l at_ 0 = (bytesL src, at_ + (enc (zig kind)).length + (sz (bytesL src)).length, 0) := by rw [rOp2, e1]; exact rS_back a1' s2 (by rw [bytesL_length]; exact h1)
  have s3 := drop_next s2
  have a2 := drop_len (by omega) s2
  have e3 : rOp3 l at_ 0 = (bytesL dst, at_ + (enc (zig kind)).length + (sz (bytesL src)).length + (sz (bytesL dst)).length, 0) := by rw [rOp3, e2]; exact rS_back (by simp only; omega) s3 (by rw [bytesL_length]; exact h2)
  have s4 := drop_next s3
  have a3 := drop_len (by omega) s3
  have e4 : rOp4 l at_ 0 = (zig amount, at_ + (enc (zig kind)).length + (sz (bytesL src)).length + (sz (bytesL dst)).length + (enc (zig amount)).length, 0) := by rw [rOp4, e3]; exact rU_back s4 (zig_lt amount i2)
  have s5 := drop_next s4
  have a4 := drop_len (by omega) s4
  have e5 : rOp5 l at_ 0 = (bytesL key, at_ + (enc (zig kind)).length + (sz (bytesL src)).length + (sz (bytesL dst)).length + (enc (zig amount)).length + (sz (bytesL key)).length, 0) := by rw [rOp5, e4]; exact rS_back (by simp only; omega) s5 (by rw [bytesL_length]; exact h3)
  have s6 := drop_next s5
  have a5 := drop_len (by omega) s5
  have e6 : rOp6 l at_ 0 = (zig slot, at_ + (enc (zig kind)).length + (sz (bytesL src)).length + (sz (bytesL dst)).length + (enc (zig amount)).length + (sz (bytesL key)).length + (enc (zig slot)).length, 0) := by rw [rOp6, e5]; exact rU_back s6 (zig_lt slot i3)
  have s7 := drop_next s6
  have a6 := drop_len (by omega) s6
  have e7 : rOp7 l at_ 0 = (zig shard, at_ + (enc (zig kind)).length + (sz (bytesL src)).length + (sz (bytesL dst)).length + (enc (zig amount)).length + (sz (bytesL key)).length + (enc (zig slot)).length + (enc (zig shard)).length, 0) := by rw [rOp7, e6]; exact rU_back s7 (zig_lt shard i4)
  refine ⟨?_, ?_, ?_, hfin⟩
  · simp only [rOpV, e1, e2, e3, e4, e5, e6, e7, zag_zig, textOf_bytesL]
  · rw [e7]
    simp only [OpD.bytes, List.length_append, Nat.add_assoc]
  · rw [e7]
/-- Reading a row, and rows. -/
def rRow (l : List (BitVec 8)) (at_ why : Nat) : (ByteArray × Int) × Nat × Nat :=
  ((textOf (rS l at_ why).1, zag (rU l (rS l at_ why).2.1 (rS l at_ why).2.2).1), (rU l (rS l at_ why).2.1 (rS l at_ why).2.2).2)
def rRows (l : List (BitVec 8)) (at_ why : Nat) : Nat → List (ByteArray × Int) × Nat × Nat
  | 0 => ([], at_, why)
  | k + 1 => ((rRows l at_ why k).1 ++ [(rRow l (rRows l at_ why k).2.1 (rRows l at_ why k).2.2).1], (rRow l (rRows l at_ why k).2.1 (rRows l at_ why k).2.2).2)
theorem rRow_goes (l : List (BitVec 8)) (at_ why : Nat) (h : at_ ≤ l.length) : Goes l at_ why (rRow l at_ why).2.1 (rRow l at_ why).2.2 :=
  (rS_goes l at_ why h).trans (rU_goes l _ _ (rS_goes l at_ why h).2.1)
theorem rRows_goes (l : List (BitVec 8)) (at_ why : Nat) (h : at_ ≤ l.length) : ∀ k, Goes l at_ why (rRows l at_ why k).2.1 (rRows l at_ why k).2.2
  | 0 => ⟨Nat.le_refl _, h, fun _ => ⟨rfl, rfl⟩⟩
  | k + 1 => (rRows_goes l at_ why h k).trans (rRow_goes l _ _ (rRows_goes l at_ why h k).2.1)
theorem rRows_length (l : List (BitVec 8)) (at_ why : Nat) : ∀ k, (rRows l at_ why k).1.length = k
  | 0 => rfl
  | k + 1 => by simp [rRows, rRows_length l at_ why k]
theorem rRow_back {l r : List (BitVec 8)} {at_ : Nat} {x : ByteArray × Int} (hat : at_ ≤ l.length) (h : l.drop at_ = rowB x ++ r) (hx : i64ok x.2) (hs : x.1.size ≤ 65536) : rRow l at_ 0 = (x, at_ + (rowB x).length, 0) := by
  have s1 : l.drop at_ = sz (bytesL x.1) ++ (enc (zig x.2) ++ r) := by rw [h, rowB, List.append_assoc]
  have e1 := rS_back hat s1 (by rw [bytesL_length]; exact hs)
  have s2 := drop_next s1
  have e2 := rU_back s2 (zig_lt x.2 hx)
  simp only [rRow, e1, e2, zag_zig, textOf_bytesL]
  simp [rowB, Nat.add_assoc]
theorem rRows_back {l r : List (BitVec 8)} {at_ : Nat} {rows : List (ByteArray × Int)} (hat : at_ ≤ l.length) (h : l.drop at_ = rowsB rows ++ r) (hx : ∀ x ∈ rows, i64ok x.2 ∧ x.1.size ≤ 65536) :
    ∀ k, k ≤ rows.length → rRows l at_ 0 k = (rows.take k, at_ + (rowsB (rows.take k)).length, 0)
  | 0, _ => by simp [rRows, rowsB]
  | k + 1, hk => by
    have ih := rRows_back hat h hx k (by omega)
    have hkl : k < rows.length := by omega
    have hsp : rowsB rows = rowsB (rows.take k) ++ (rowB rows[k] ++ rowsB (rows.drop (k + 1))) := by
      conv => lhs; rw [← List.take_append_drop k rows, List.drop_eq_getElem_cons hkl]
      simp only [rowsB, List.map_append, List.map_cons, List.flatten_append, List.flatten_cons]
    have s1 : l.drop at_ = rowsB (rows.take k) ++ (rowB rows[k] ++ (rowsB (rows.drop (k + 1)) ++ r)) := by rw [h, hsp]; simp
    have a1 := drop_len hat s1
    have hm := hx rows[k] (List.getElem_mem hkl)
    have e := rRow_back (by omega) (drop_next s1) hm.1 hm.2
    simp only [rRows, ih, e]
    rw [rowsB_take hkl, List.take_add_one, List.getElem?_eq_getElem hkl]
    simp [Nat.add_assoc]
theorem rowsB_ge : ∀ (rows : List (ByteArray × Int)), rows.length ≤ (rowsB rows).length
  | [] => by simp
  | r :: rest => by
    have ih := rowsB_ge rest
    have h1 := enc_pos (zig r.2)
    simp only [rowsB, List.map_cons, List.flatten_cons, List.length_append, List.length_cons, rowB] at ih ⊢
    omega
/-- Reading an answer. -/
def rRe1 (l : List (BitVec 8)) (at_ why : Nat) := rU l at_ why
def rRe2 (l : List (BitVec 8)) (at_ why : Nat) := rU l (rRe1 l at_ why).2.1 (rRe1 l at_ why).2.2
def rRe3 (l : List (BitVec 8)) (at_ why : Nat) := rC l 600 (rRe2 l at_ why).2.1 (rRe2 l at_ why).2.2
def rRe4 (l : List (BitVec 8)) (at_ why : Nat) := rRows l (rRe3 l at_ why).2.1 (rRe3 l at_ why).2.2 (rRe3 l at_ why).1
end Go.Proofs.Ytaakdnbaljoehaa
