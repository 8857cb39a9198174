/- A message that was written is read as it was: the plain functions. -/
import Derived.Test.YtfdlgiomnmnhgaaDoorUncut
namespace Go.Proofs.YtfdlgiomnmnhgaaDoor
open Go.RowKit Cod
set_option linter.unusedVariables false

theorem rEn_back {l r : List (BitVec 8)} {at_ : Nat} {e : Int × List (BitVec 8)} (hat : at_ ≤ l.length) (h : l.drop at_ = entB e ++ r) (hx : i64ok e.1) (hs : e.2.length ≤ 65536) : zag (rEn1 l at_ 0).1 = e.1 ∧ rEn2 l at_ 0 = (e.2, at_ + (entB e).length, 0) := by
  have s1 : l.drop at_ = enc (zig e.1) ++ (sz e.2 ++ r) := by rw [h, entB, List.append_assoc]
  have e1 : rEn1 l at_ 0 = (zig e.1, at_ + (enc (zig e.1)).length, 0) := by rw [rEn1]; exact rU_back s1 (zig_lt e.1 hx)
  have s2 := drop_next s1
  have a1 := drop_len hat s1
  have e2 : rEn2 l at_ 0 = (e.2, at_ + (enc (zig e.1)).length + (sz e.2).length, 0) := by rw [rEn2, e1]; exact rS_back (by simp only; omega) s2 hs
  refine ⟨by rw [e1]; exact zag_zig _, ?_⟩
  rw [e2]
  simp [entB, Nat.add_assoc]
theorem rEnts_back {l r : List (BitVec 8)} {at_ : Nat} {E : List (Int × List (BitVec 8))} (hat : at_ ≤ l.length) (h : l.drop at_ = entsB E ++ r) (hx : ∀ e ∈ E, i64ok e.1 ∧ e.2.length ≤ 65536) :
    ∀ k, k ≤ E.length → rEnts l at_ 0 k = (E.take k, at_ + (entsB (E.take k)).length, 0)
  | 0, _ => by simp [rEnts, entsB]
  | k + 1, hk => by
    have ih := rEnts_back hat h hx k (by omega)
    have hkl : k < E.length := by omega
    have hsp : entsB E = entsB (E.take k) ++ (entB E[k] ++ entsB (E.drop (k + 1))) := by
      conv => lhs; rw [← List.take_append_drop k E, List.drop_eq_getElem_cons hkl]
      simp only [entsB, List.map_append, List.map_cons, List.flatten_append, List.flatten_cons]
    have s1 : l.drop at_ = entsB (E.take k) ++ (entB E[k] ++ (entsB (E.drop (k + 1)) ++ r)) := by rw [h, hsp]; simp
    have a1 := drop_len hat s1
    have hm := hx E[k] (List.getElem_mem hkl)
    obtain ⟨e1, e2⟩ := rEn_back (by omega) (drop_next s1) hm.1 hm.2
    simp only [rEnts, ih]
    rw [e1, e2, entsB_take hkl]
    have ht : E.take k ++ [(E[k].1, E[k].2)] = E.take (k + 1) := by
      show E.take k ++ [E[k]] = _
      simp
    rw [ht]
    simp [Nat.add_assoc]
theorem entsB_ge : ∀ (E : List (Int × List (BitVec 8))), E.length ≤ (entsB E).length
  | [] => by simp
  | e :: rest => by
    have ih := entsB_ge rest
    have h1 := enc_pos (zig e.1)
    simp only [entsB, List.map_cons, List.flatten_cons, List.length_append, List.length_cons, entB] at ih ⊢
    omega
theorem rHd_back {l r : List (BitVec 8)} {h : HeadD} (hf : h.fine) (e : l = h.bytes ++ r) : rHdV l 0 0 = h ∧ (rHd9 l 0 0).2.1 = h.bytes.length ∧ (rHd9 l 0 0).2.2 = 0 := by
  obtain ⟨k1, k2, k3, k4, k5, k6, k7, k8, ko⟩ := h
  obtain ⟨i1, i2, i3, i4, i5, i6, i7, i8⟩ := hf
  simp only at i1 i2 i3 i4 i5 i6 i7 i8
  have s1 : l.drop 0 = enc (zig k1) ++ (enc (zig k2) ++ (enc (zig k3) ++ (enc (zig k4) ++ (enc (zig k5) ++ (enc (zig k6) ++ (enc (zig k7) ++ (enc (zig k8) ++ (bit8 ko :: r)))))))) := by
    rw [e]; simp [HeadD.bytes]
  have e1 : rHd1 l 0 0 = _ := rU_back s1 (zig_lt k1 i1)
  have s2 := drop_next s1
  have e2 : rHd2 l 0 0 = (zig k2, 0 + (enc (zig k1)).length + (enc (zig k2)).length, 0) := by rw [rHd2, e1]; exact rU_back s2 (zig_lt k2 i2)
  have s3 := drop_next s2
  have e3 : rHd3 l 0 0 = (zig k3, 0 + (enc (zig k1)).length + (enc (zig k2)).length + (enc (zig k3)).length, 0) := by rw [rHd3, e2]; exact rU_back s3 (zig_lt k3 i3)
  have s4 := drop_next s3
  have e4 : rHd4 l 0 0 = (zig k4, 0 + (enc (zig k1)).length + (enc (zig k2)).length + (enc (zig k3)).length + (enc (zig k4)).length, 0) := by rw [rHd4, e3]; exact rU_back s4 (zig_lt k4 i4)
  have s5 := drop_next s4
  have e5 : rHd5 l 0 0 = (zig k5, 0 + (enc (zig k1)).length + (enc (zig k2)).length + (enc (zig k3)).length + (enc (zig k4)).length + (enc (zig k5)).length, 0) := by rw [rHd5, e4]; exact rU_back s5 (zig_lt k5 i5)
  have s6 := drop_next s5
  have e6 : rHd6 l 0 0 = (zig k6, 0 + (enc (zig k1)).length + (enc (zig k2)).length + (enc (zig k3)).length + (enc (zig k4)).length + (enc (zig k5)).length + (enc (zig k6)).length, 0) := by rw [rHd6, e5]; exact rU_back s6 (zig_lt k6 i6)
  have s7 := drop_next s6
  have e7 : rHd7 l 0 0 = (zig k7, 0 + (enc (zig k1)).length + (enc (zig k2)).length + (enc (zig k3)).length + (enc (zig k4)).length + (enc (zig k5)).length + (enc (zig k6)).length + (enc (zig k7)).length, 0) := by rw [rHd7, e6]; exact rU_back s7 (zig_lt k7 i7)
  have s8 := drop_next s7
  have e8 : rHd8 l 0 0 = (zig k8, 0 + (enc (zig k1)).length + (enc (zig k2)).length + (enc (zig k3)).length + (enc (zig k4)).length + (enc (zig k5)).length + (enc (zig k6)).length + (enc (zig k7)).length + (enc (zig k8)).length, 0) := by rw [rHd8, e7]; exact rU_back s8 (zig_lt k8 i8)
  have s9 := drop_next s8
  have hl : l.length = (HeadD.bytes ⟨k1, k2, k3, k4, k5, k6, k7, k8, ko⟩).length + r.length := by rw [e, List.length_append]
  simp only [HeadD.bytes, List.length_append, List.length_cons, List.length_nil] at hl
  have e9 : rHd9 l 0 0 = (ko, 0 + (enc (zig k1)).length + (enc (zig k2)).length + (enc (zig k3)).length + (enc (zig k4)).length + (enc (zig k5)).length + (enc (zig k6)).length + (enc (zig k7)).length + (enc (zig k8)).length + 1, 0) := by rw [rHd9, e8]; exact rB_back ko (by simp only; omega) s9
  refine ⟨?_, ?_, ?_⟩
  · simp only [rHdV, e1, e2, e3, e4, e5, e6, e7, e8, e9, zag_zig]
  · rw [e9]
    simp only [HeadD.bytes, List.length_append, List.length_cons, List.length_nil]
    omega
  · rw [e9]
theorem un_back {h : HeadD} {E : List (Int × List (BitVec 8))} {D : List (BitVec 8)} (hf : h.fine) (hE : ∀ e ∈ E, i64ok e.1) (fit : msgFits h E D) :
    rHdV (msgB h E D) 0 0 = h ∧ unN (msgB h E D) = (E.length, h.bytes.length + (enc E.length).length, 0) ∧ (unE (msgB h E D)).1 = E ∧ (unD (msgB h E D)).1 = D ∧ unEnd (msgB h E D) = 0 := by
  obtain ⟨u1, u2, u3, u4⟩ := fit
  obtain ⟨B, hB⟩ : ∃ B, msgB h E D = B := ⟨_, rfl⟩
  rw [hB]
  have s0 : B = h.bytes ++ (enc E.length ++ (entsB E ++ (sz D ++ []))) := by rw [← hB]; simp [msgB]
  obtain ⟨q1, q2, q3⟩ := rHd_back hf s0
  have s1 : B.drop h.bytes.length = enc E.length ++ (entsB E ++ (sz D ++ [])) := by rw [s0, List.drop_left]
  have hl0 : B.length = h.bytes.length + (enc E.length ++ (entsB E ++ (sz D ++ []))).length := by conv => lhs; rw [s0, List.length_append]
  have hge := entsB_ge E
  have n1 : unN B = (E.length, h.bytes.length + (enc E.length).length, 0) := by
    rw [unN, q2, q3]
    exact rC_back (by omega) s1 (by omega) (by omega) (by simp; omega)
  have s2 := drop_next s1
  simp only [List.length_append, List.length_nil] at hl0
  have n2 : unE B = (E, h.bytes.length + (enc E.length).length + (entsB E).length, 0) := by
    rw [unE, n1]
    have := rEnts_back (by omega) s2 (fun e he => ⟨hE e he, u3 e he⟩) E.length (Nat.le_refl _)
    rw [List.take_length] at this
    exact this
  have s3 := drop_next s2
  have n3 : unD B = (D, h.bytes.length + (enc E.length).length + (entsB E).length + (sz D).length, 0) := by
    rw [unD, n2]
    exact rS_back (by simp only; omega) s3 u2
  refine ⟨q1, n1, by rw [n2], by rw [n3], ?_⟩
  rw [unEnd, n3]
  simp only [rEnd]
  rw [if_neg (by simp), if_neg (by omega)]
end Go.Proofs.YtfdlgiomnmnhgaaDoor
