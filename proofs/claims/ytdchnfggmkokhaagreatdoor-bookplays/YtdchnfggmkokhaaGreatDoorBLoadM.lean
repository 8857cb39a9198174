/- Package book: what is read of bytes, plainly. -/
import Derived.Test.YtdchnfggmkokhaaGreatDoorBLoad
import Derived.Test.YtdchnfggmkokhaaGreatDoorGN
namespace Go.Proofs.YtdchnfggmkokhaaGreatDoor
open Go.RowKit Cod
set_option linter.unusedVariables false

/-- The accounts that are read, and where the Reader stands behind them. -/
def ak (l : List (BitVec 8)) (a y : Nat) : Nat → List Acc × Nat × Nat
  | 0 => ([], a, y)
  | k + 1 => ((ak l a y k).1 ++ [(rdA l (ak l a y k).2.1 (ak l a y k).2.2).1], (rdA l (ak l a y k).2.1 (ak l a y k).2.2).2.1, (rdA l (ak l a y k).2.1 (ak l a y k).2.2).2.2)
theorem rdK_ak (l : List (BitVec 8)) (a y : Nat) : ∀ k, rdK l a y k = ((ak l a y k).2.1, (ak l a y k).2.2, (ak l a y k).1.foldl putAcc [])
  | 0 => rfl
  | k + 1 => by
    have ih := rdK_ak l a y k
    simp only [rdK, ih, ak, List.foldl_append, List.foldl_cons, List.foldl_nil]
theorem ak_len (l : List (BitVec 8)) (a y : Nat) : ∀ k, (ak l a y k).1.length = k
  | 0 => rfl
  | k + 1 => by simp only [ak, List.length_append, List.length_cons, List.length_nil, ak_len l a y k]
theorem rdA_goes (l : List (BitVec 8)) (a y : Nat) (h : a ≤ l.length) : Goes l a y (rdA l a y).2.1 (rdA l a y).2.2 := by
  have h1 := rS_goes l a y h
  have h2 := rU_goes l (rS l a y).2.1 (rS l a y).2.2 h1.2.1
  have h3 := rS_goes l (rU l (rS l a y).2.1 (rS l a y).2.2).2.1 (rU l (rS l a y).2.1 (rS l a y).2.2).2.2 h2.2.1
  have h4 := (h1.trans h2).trans h3
  simp only [rdA]
  exact h4
theorem ak_succ (l : List (BitVec 8)) (a y k : Nat) : ak l a y (k + 1) = ((ak l a y k).1 ++ [(rdA l (ak l a y k).2.1 (ak l a y k).2.2).1], (rdA l (ak l a y k).2.1 (ak l a y k).2.2).2) := by rw [ak]
theorem ak_goes (l : List (BitVec 8)) (a y : Nat) (h : a ≤ l.length) (k : Nat) : Goes l a y (ak l a y k).2.1 (ak l a y k).2.2 := by
  induction k with
  | zero => rw [ak]; exact ⟨Nat.le_refl _, h, fun _ => ⟨rfl, rfl⟩⟩
  | succ k ih =>
    rw [ak_succ]
    exact ih.trans (rdA_goes l _ _ ih.2.1)
theorem ak_stuck (l : List (BitVec 8)) (a y k : Nat) (ha : a ≤ l.length) (h : (ak l a y k).2.2 ≠ 0) (m : Nat) : (ak l a y (k + m)).2 = (ak l a y k).2 := by
  induction m with
  | zero => rfl
  | succ m ih =>
    have g := rdA_goes l (ak l a y (k + m)).2.1 (ak l a y (k + m)).2.2 (ak_goes l a y ha (k + m)).2.1
    have e := g.2.2 (by rw [ih]; exact h)
    rw [show k + (m + 1) = k + m + 1 from rfl, ak_succ]
    rw [← ih]
    exact Prod.ext e.1 e.2
theorem ak_first (l : List (BitVec 8)) (a y n : Nat) (ha : a ≤ l.length) (h : (ak l a y n).2.2 = 0) (k : Nat) (hk : k ≤ n) : (ak l a y k).2.2 = 0 := by
  by_cases h0 : (ak l a y k).2.2 = 0
  · exact h0
  · have := ak_stuck l a y k ha h0 (n - k)
    rw [show k + (n - k) = n by omega] at this
    rw [this] at h
    exact absurd h h0
theorem rdA_short (l : List (BitVec 8)) (a y : Nat) : (rdA l a y).1.by_.size ≤ 65536 ∧ (rdA l a y).1.nm.size ≤ 65536 ∧ i64ok (rdA l a y).1.amt := by
  refine ⟨?_, ?_, zag_ok (rU_lt _ _ _)⟩
  · show (textOf _).size ≤ _
    rw [textOf_len]
    exact rS_short _ _ _
  · show (textOf _).size ≤ _
    rw [textOf_len]
    exact rS_short _ _ _
/-- An account stands behind the last one. -/
def Behind (A : List Acc) (s : ByteArray) : Prop := A = [] ∨ ∃ q, A.getLast? = some q ∧ Ahead q.nm s
theorem behind_all {A : List Acc} (hA : Sorted A) {s : ByteArray} (h : Behind A s) : ∀ p ∈ A, Ahead p.nm s := by
  intro p hp
  rcases h with rfl | ⟨q, hq, hs⟩
  · cases hp
  · obtain ⟨B, rfl⟩ : ∃ B, A = B ++ [q] := by
      rw [List.getLast?_eq_some_iff] at hq
      exact hq
    rcases List.mem_append.1 hp with h1 | h1
    · have := (List.pairwise_append.1 hA).2.2 p h1 q (by simp)
      exact ahead_trans this hs
    · obtain rfl : p = q := by simpa using h1
      exact hs
theorem fit_snoc {A : List Acc} {p : Acc} (h : Fit (A ++ [p])) : Fit A ∧ Behind A p.nm ∧ nameOk p.nm = true ∧ 0 ≤ p.amt ∧ A.length < 200 := by
  refine ⟨⟨(List.pairwise_append.1 h.srt).1, by have := h.len; simp at this; omega, fun a ha => h.amt a (by simp [ha]), fun a ha => h.nm a (by simp [ha]), fun a ha => h.by_ a (by simp [ha])⟩, ?_, h.nm p (by simp), (h.amt p (by simp)).1, by have := h.len; simp at this; omega⟩
  cases hq : A.getLast? with
  | none => exact .inl (List.getLast?_eq_none_iff.1 hq)
  | some q => exact .inr ⟨q, hq, (List.pairwise_append.1 h.srt).2.2 q (List.mem_of_getLast? hq) p (by simp)⟩
theorem snoc_fit {A : List Acc} {p : Acc} (h : Fit A) (hb : Behind A p.nm) (hn : nameOk p.nm = true) (h0 : 0 ≤ p.amt) (h1 : i64ok p.amt) (hl : A.length < 200) (hy : p.by_.size ≤ 65536) : Fit (A ++ [p]) := by
  have hall := behind_all h.srt hb
  refine ⟨List.pairwise_append.2 ⟨h.srt, List.pairwise_singleton _ _, fun a ha b hb' => by
    have e : b = p := by simpa using hb'
    rw [e]
    exact hall a ha⟩, by simp; omega, ?_, ?_, ?_⟩
  all_goals
    intro a ha
    rcases List.mem_append.1 ha with h2 | h2
  · exact h.amt a h2
  · obtain rfl : a = p := by simpa using h2
    exact ⟨h0, by have := h1.2; omega⟩
  · exact h.nm a h2
  · obtain rfl : a = p := by simpa using h2
    exact hn
  · exact h.by_ a h2
  · obtain rfl : a = p := by simpa using h2
    exact hy
theorem behind_none {A : List Acc} (hA : Sorted A) {s : ByteArray} (h : Behind A s) : hasN A s = false ∧ under A s = A.length := by
  have hall := behind_all hA h
  constructor
  · cases hh : hasN A s with
    | false => rfl
    | true =>
      obtain ⟨p, hp, e⟩ := (hasN_mem A s).1 hh
      have := hall p hp
      rw [e] at this
      exact absurd this (ahead_irrefl s)
  · unfold under
    rw [List.countP_eq_length]
    intro p hp
    simpa using hall p hp
theorem putP_snoc {A : List Acc} {p : Acc} (h : Fit A) (hb : Behind A p.nm) (hn : nameOk p.nm = true) (h0 : 0 ≤ p.amt) (hl : A.length < 200) : putP A p.nm p.amt = (0, A ++ [⟨p.nm, p.amt, ⟨#[]⟩⟩]) := by
  obtain ⟨h1, h2⟩ := behind_none h.srt hb
  unfold putP
  rw [if_neg (by rw [hn]; decide), if_neg (by omega), if_neg (by rw [h1]; decide), if_neg (by omega)]
  unfold ins
  rw [h2, List.take_length, List.drop_length]
theorem holdP_snoc {A : List Acc} {p : Acc} (h : Fit A) (hb : Behind A p.nm) (hy0 : p.by_.size ≠ 0) (hy : p.by_.size ≤ 65536) : onP (A ++ [⟨p.nm, p.amt, ⟨#[]⟩⟩]) p.nm (holdP p.by_) = (0, A ++ [p]) := by
  obtain ⟨h1, h2⟩ := behind_none h.srt hb
  have hg : getA (A ++ [⟨p.nm, p.amt, ⟨#[]⟩⟩]) p.nm = some ⟨p.nm, p.amt, ⟨#[]⟩⟩ := by
    unfold getA
    rw [List.find?_append]
    have : List.find? (fun q => decide (q.nm = p.nm)) A = none := (getA_none A p.nm).2 h1
    rw [this]
    simp
  have hu : under (A ++ [(⟨p.nm, p.amt, ⟨#[]⟩⟩ : Acc)]) p.nm = A.length := by
    unfold under at h2 ⊢
    rw [List.countP_append, h2]
    simp [ahead_irrefl]
  unfold onP
  rw [hg]
  have hh : holdP p.by_ ⟨p.nm, p.amt, ⟨#[]⟩⟩ = (0, p) := by
    unfold holdP
    rw [if_neg (by omega), if_neg (fun q => q.1 rfl)]
  simp only [hh, if_true]
  unfold upd
  rw [hu]
  simp
theorem putAcc_snoc {A : List Acc} {p : Acc} (h : Fit (A ++ [p])) : putAcc A p = A ++ [p] := by
  obtain ⟨hA, hb, hn, h0, hl⟩ := fit_snoc h
  have hy := h.by_ p (by simp)
  unfold putAcc
  rw [putP_snoc hA hb hn h0 hl]
  by_cases hz : p.by_.size = 0
  · rw [if_neg (fun q => q.2 hz)]
    have he0 : p.by_ = ByteArray.empty := by simpa using hz
    have he : p.by_ = ⟨#[]⟩ := he0
    rw [show (⟨p.nm, p.amt, ⟨#[]⟩⟩ : Acc) = p from by rw [← he]]
  · rw [if_pos ⟨rfl, hz⟩, holdP_snoc hA hb hz hy]
theorem fold_fit : ∀ (A : List Acc) (B : List Acc), Fit (B ++ A) → A.foldl putAcc B = B ++ A
  | [], B, _ => by simp
  | p :: A, B, h => by
    have h1 : Fit (B ++ [p]) := ⟨by
        have := h.srt
        rw [show B ++ p :: A = (B ++ [p]) ++ A by simp] at this
        exact (List.pairwise_append.1 this).1, by have := h.len; simp at this ⊢; omega, fun a ha => h.amt a (by simp at ha ⊢; rcases ha with ha | ha <;> simp [ha]), fun a ha => h.nm a (by simp at ha ⊢; rcases ha with ha | ha <;> simp [ha]), fun a ha => h.by_ a (by simp at ha ⊢; rcases ha with ha | ha <;> simp [ha])⟩
    rw [List.foldl_cons, putAcc_snoc h1]
    have := fold_fit A (B ++ [p]) (by simpa using h)
    simpa using this
theorem rdA_fore (l : List (BitVec 8)) (a y : Nat) (ha : a ≤ l.length) : Fore l a y (rdA l a y).2.1 (rdA l a y).2.2 (accB (rdA l a y).1) := by
  have g1 := rS_goes l a y ha
  have g2 := rU_goes l (rS l a y).2.1 (rS l a y).2.2 g1.2.1
  have f1 := rS_fore l a y ha
  have f2 := rU_fore' l (rS l a y).2.1 (rS l a y).2.2
  have f3 := rS_fore l (rU l (rS l a y).2.1 (rS l a y).2.2).2.1 (rU l (rS l a y).2.1 (rS l a y).2.2).2.2 g2.2.1
  have f4 := (f1.trans f2).trans f3
  simp only [rdA, accB, bytesL_textOf]
  exact f4
theorem ak_fore (l : List (BitVec 8)) (a y : Nat) (ha : a ≤ l.length) (k : Nat) : Fore l a y (ak l a y k).2.1 (ak l a y k).2.2 (accsB (ak l a y k).1) := by
  induction k with
  | zero => rw [ak]; exact fun e => ⟨e, rfl⟩
  | succ k ih =>
    rw [ak_succ, accsB_snoc]
    exact ih.trans (rdA_fore l _ _ (ak_goes l a y ha k).2.1)
theorem accsB_append (A B : List Acc) : accsB (A ++ B) = accsB A ++ accsB B := by simp [accsB]
theorem accsB_cons (p : Acc) (A : List Acc) : accsB (p :: A) = accB p ++ accsB A := by simp [accsB]
theorem rdA_back {l r : List (BitVec 8)} {a : Nat} {p : Acc} (ha : a ≤ l.length) (h : l.drop a = accB p ++ r) (hn : p.nm.size ≤ 65536) (hy : p.by_.size ≤ 65536) (hi : i64ok p.amt) : rdA l a 0 = (p, a + (accB p).length, 0) := by
  have h1 : l.drop a = sz (bytesL p.nm) ++ (enc (zig p.amt) ++ (sz (bytesL p.by_) ++ r)) := by rw [h]; simp [accB]
  have e1 := rS_back ha h1 (by rw [bytesL_length]; exact hn)
  have l1 : a + (sz (bytesL p.nm)).length ≤ l.length := by
    have := congrArg List.length h1
    simp only [List.length_drop, List.length_append] at this
    omega
  have h2 : l.drop (a + (sz (bytesL p.nm)).length) = enc (zig p.amt) ++ (sz (bytesL p.by_) ++ r) := by rw [← List.drop_drop, h1, List.drop_left]
  have e2 := rU_back h2 (zig_lt p.amt hi)
  have h3 : l.drop (a + (sz (bytesL p.nm)).length + (enc (zig p.amt)).length) = sz (bytesL p.by_) ++ r := by rw [← List.drop_drop, h2, List.drop_left]
  have l2 : a + (sz (bytesL p.nm)).length + (enc (zig p.amt)).length ≤ l.length := by
    have := congrArg List.length h2
    simp only [List.length_drop, List.length_append] at this
    omega
  have e3 := rS_back l2 h3 (by rw [bytesL_length]; exact hy)
  simp only [rdA, e1, e2, e3, zag_zig, textOf_bytesL, accB, List.length_append]
  refine Prod.ext rfl (Prod.ext ?_ rfl)
  simp only
  omega
theorem ak_back {l r : List (BitVec 8)} {a : Nat} (L : List Acc) (ha : a ≤ l.length) (h : l.drop a = accsB L ++ r) (hL : ∀ p ∈ L, p.nm.size ≤ 65536 ∧ p.by_.size ≤ 65536 ∧ i64ok p.amt) (k : Nat) (hk : k ≤ L.length) : ak l a 0 k = (L.take k, a + (accsB (L.take k)).length, 0) := by
  induction k with
  | zero => simp [ak, accsB]
  | succ k ih =>
    have ih := ih (by omega)
    have hlt : k < L.length := by omega
    have hd : l.drop (a + (accsB (L.take k)).length) = accB L[k] ++ (accsB (L.drop (k + 1)) ++ r) := by
      rw [← List.drop_drop, h]
      have : accsB L = accsB (L.take k) ++ (accB L[k] ++ accsB (L.drop (k + 1))) := by
        rw [← accsB_cons, ← List.drop_eq_getElem_cons hlt, ← accsB_append, List.take_append_drop]
      rw [this, List.append_assoc, List.drop_left, List.append_assoc]
    have hle : a + (accsB (L.take k)).length ≤ l.length := by
      have h1 := congrArg List.length h
      have h2 : accsB L = accsB (L.take k) ++ accsB (L.drop k) := by
        rw [← accsB_append, List.take_append_drop]
      rw [h2] at h1
      simp only [List.length_drop, List.length_append] at h1
      omega
    have hp := hL L[k] (List.getElem_mem hlt)
    have e := rdA_back hle hd hp.1 hp.2.1 hp.2.2
    rw [ak_succ, ih]
    simp only
    rw [e, List.take_succ_eq_append_getElem hlt, accsB_snoc, List.length_append, ← Nat.add_assoc]
theorem accsB_more (L : List Acc) : L.length ≤ (accsB L).length := by
  induction L with
  | nil => simp
  | cons p L ih =>
    have h1 := enc_pos (zig p.amt)
    have : (accsB (p :: L)).length = (accB p).length + (accsB L).length := by simp [accsB]
    rw [this, List.length_cons]
    simp only [accB, List.length_append]
    omega
/-- Where bytes end well: a book's bytes, if and only if what was read can be a book. -/
theorem ld_match {l : List (BitVec 8)} {n a y : Nat} (hn : ldN l = (n, a, y)) (hE : ldEnd l = 0) (hL : Fit (ldL l)) : (bookB (ldL l) = l ↔ Fit (ak l a y n).1) ∧ (Fit (ak l a y n).1 → ldL l = (ak l a y n).1) := by
  have hg := rC_goes l 200 0 0 (Nat.zero_le _)
  have hrc : rC l 200 0 0 = (n, a, y) := hn
  rw [hrc] at hg
  have ha : a ≤ l.length := hg.2.1
  have eL : ldL l = (ak l a y n).1.foldl putAcc [] := by simp only [ldL, hn, rdK_ak]
  have eE : ldEnd l = rEnd l (ak l a y n).2.1 (ak l a y n).2.2 := by simp only [ldEnd, hn, rdK_ak]
  have hag := ak_goes l a y ha n
  rw [eE] at hE
  have hyf : (ak l a y n).2.2 = 0 := by
    unfold rEnd at hE
    split at hE
    · exact hE
    · rename_i h; exact Decidable.not_not.1 h
  have haf : (ak l a y n).2.1 = l.length := by
    unfold rEnd at hE
    rw [if_neg (fun h => h hyf)] at hE
    have := hag.2.1
    split at hE
    · cases hE
    · omega
  have hy : y = 0 := ak_first l a y n ha hyf 0 (Nat.zero_le _)
  subst hy
  have f1 := rC_fore l 200 0 0
  rw [hrc] at f1
  have f1 := (f1 rfl).2
  have f2 := (ak_fore l a 0 ha n hyf).2
  rw [haf, List.drop_length, List.append_nil] at f2
  rw [List.drop_zero] at f1
  have hl : l = bookB (ak l a 0 n).1 := by
    unfold bookB
    rw [ak_len, ← f2]
    exact f1
  refine ⟨⟨fun h => ?_, fun h => ?_⟩, fun h => ?_⟩
  · have hb : l.drop 0 = enc (ldL l).length ++ accsB (ldL l) := by rw [List.drop_zero]; exact h.symm
    have r1 := rC_back (most := 200) (Nat.zero_le _) hb (by have := hL.len; omega) (by have := hL.len; omega) (accsB_more _)
    rw [hrc] at r1
    simp only [Prod.mk.injEq, Nat.zero_add, and_true] at r1
    obtain ⟨r1, r2⟩ := r1
    have hd : l.drop a = accsB (ldL l) ++ [] := by
      have hb2 := congrArg (List.drop (enc (ldL l).length).length) h.symm
      rw [List.append_nil, r2, hb2]
      unfold bookB
      rw [List.drop_left]
    have hk := ak_back (ldL l) ha hd (fun p hp => ⟨by have := (hL.acc hp).1; omega, (hL.acc hp).2.1, ⟨by have := (hL.acc hp).2.2.1.1; omega, by have := (hL.acc hp).2.2.1.2; omega⟩⟩) n (by omega)
    rw [hk, r1, List.take_length]
    exact hL
  · rw [eL, fold_fit _ [] (by simpa using h), List.nil_append]
    exact hl.symm
  · rw [eL, fold_fit _ [] (by simpa using h), List.nil_append]
end Go.Proofs.YtdchnfggmkokhaaGreatDoor
