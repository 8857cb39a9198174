/- Bytes that are the same come of what is the same: the plain functions. -/
import Derived.Test.YtaakdnbaljoehaaMsg
import Derived.Test.YtaakdnbaljoehaaText
namespace Go.Proofs.Ytaakdnbaljoehaa
open Go.RowKit Cod
set_option linter.unusedVariables false

theorem enc_pre {a b : Nat} {r s : List (BitVec 8)} (ha : a < 18446744073709551616) (hb : b < 18446744073709551616) (h : enc a ++ r = enc b ++ s) : a = b ∧ r = s := by
  have h1 := num_enc0 ha r
  rw [h, num_enc0 hb s] at h1
  have h2 : b = a := congrArg (fun t => t.1) h1
  subst h2
  exact ⟨rfl, List.append_cancel_left h⟩
theorem zig_pre {a b : Int} {r s : List (BitVec 8)} (ha : i64ok a) (hb : i64ok b) (h : enc (zig a) ++ r = enc (zig b) ++ s) : a = b ∧ r = s := by
  obtain ⟨h1, h2⟩ := enc_pre (zig_lt a ha) (zig_lt b hb) h
  exact ⟨zig_inj h1, h2⟩
theorem sz_pre {p q r s : List (BitVec 8)} (hp : p.length < 18446744073709551616) (hq : q.length < 18446744073709551616) (h : sz p ++ r = sz q ++ s) : p = q ∧ r = s := by
  rw [sz, sz, List.append_assoc, List.append_assoc] at h
  obtain ⟨h1, h2⟩ := enc_pre hp hq h
  obtain ⟨h3, h4⟩ := List.append_inj h2 h1
  exact ⟨h3, h4⟩
theorem bytesL_inj {s t : ByteArray} (h : bytesL s = bytesL t) : s = t := by rw [← textOf_bytesL s, h, textOf_bytesL]
theorem text_pre {p q : ByteArray} {r s : List (BitVec 8)} (hp : p.size < 18446744073709551616) (hq : q.size < 18446744073709551616) (h : sz (bytesL p) ++ r = sz (bytesL q) ++ s) : p = q ∧ r = s := by
  obtain ⟨h1, h2⟩ := sz_pre (by rw [bytesL_length]; exact hp) (by rw [bytesL_length]; exact hq) h
  exact ⟨bytesL_inj h1, h2⟩
theorem op_inj {o p : OpD} (ho : o.ok) (hp : p.ok) (so : o.size < 18446744073709551616) (sp : p.size < 18446744073709551616) (h : o.bytes = p.bytes) : o = p := by
  obtain ⟨k1, s1, d1, a1, y1, t1, z1⟩ := o
  obtain ⟨k2, s2, d2, a2, y2, t2, z2⟩ := p
  obtain ⟨i1, i2, i3, i4⟩ := ho
  obtain ⟨j1, j2, j3, j4⟩ := hp
  simp only [OpD.size] at so sp
  simp only at i1 i2 i3 i4 j1 j2 j3 j4
  simp only [OpD.bytes, List.append_assoc] at h
  obtain ⟨rfl, q1⟩ := zig_pre i1 j1 h
  obtain ⟨rfl, q2⟩ := text_pre (by omega) (by omega) q1
  obtain ⟨rfl, q3⟩ := text_pre (by omega) (by omega) q2
  obtain ⟨rfl, q4⟩ := zig_pre i2 j2 q3
  obtain ⟨rfl, q5⟩ := text_pre (by omega) (by omega) q4
  obtain ⟨rfl, q6⟩ := zig_pre i3 j3 q5
  obtain ⟨rfl, q7⟩ := zig_pre (r := []) (s := []) i4 j4 (by rw [List.append_nil, List.append_nil]; exact q6)
  rfl
theorem rows_inj : ∀ (A B : List (ByteArray × Int)), A.length = B.length → (∀ r ∈ A, i64ok r.2 ∧ r.1.size < 18446744073709551616) → (∀ r ∈ B, i64ok r.2 ∧ r.1.size < 18446744073709551616) → rowsB A = rowsB B → A = B
  | [], [], _, _, _, _ => rfl
  | x :: A, y :: B, hl, hA, hB, h => by
    obtain ⟨xs, xn⟩ := x
    obtain ⟨ys, yn⟩ := y
    have hx := hA (xs, xn) List.mem_cons_self
    have hy := hB (ys, yn) List.mem_cons_self
    simp only [rowsB, List.map_cons, List.flatten_cons, rowB, List.append_assoc] at h
    obtain ⟨rfl, q1⟩ := text_pre hx.2 hy.2 h
    obtain ⟨rfl, q2⟩ := zig_pre hx.1 hy.1 q1
    rw [rows_inj A B (by simpa using hl) (fun r hr => hA r (List.mem_cons_of_mem _ hr)) (fun r hr => hB r (List.mem_cons_of_mem _ hr)) q2]
def replyB (why amount : Int) (rows : List (ByteArray × Int)) : List (BitVec 8) := enc (zig why) ++ enc (zig amount) ++ enc rows.length ++ rowsB rows
theorem reply_inj {w a w' a' : Int} {A B : List (ByteArray × Int)} (h1 : i64ok w) (h2 : i64ok a) (h3 : i64ok w') (h4 : i64ok a') (lA : A.length < 18446744073709551616) (lB : B.length < 18446744073709551616) (hA : ∀ r ∈ A, i64ok r.2 ∧ r.1.size < 18446744073709551616) (hB : ∀ r ∈ B, i64ok r.2 ∧ r.1.size < 18446744073709551616) (h : replyB w a A = replyB w' a' B) : w = w' ∧ a = a' ∧ A = B := by
  simp only [replyB, List.append_assoc] at h
  obtain ⟨e1, q1⟩ := zig_pre h1 h3 h
  obtain ⟨e2, q2⟩ := zig_pre h2 h4 q1
  obtain ⟨e3, q3⟩ := enc_pre lA lB q2
  exact ⟨e1, e2, rows_inj A B e3 hA hB q3⟩
theorem head_pre {h k : HeadD} {r s : List (BitVec 8)} (hf : h.fine) (kf : k.fine) (e : h.bytes ++ r = k.bytes ++ s) : h = k ∧ r = s := by
  obtain ⟨a1, a2, a3, a4, a5, a6, a7, a8, ao⟩ := h
  obtain ⟨b1, b2, b3, b4, b5, b6, b7, b8, bo⟩ := k
  obtain ⟨i1, i2, i3, i4, i5, i6, i7, i8⟩ := hf
  obtain ⟨j1, j2, j3, j4, j5, j6, j7, j8⟩ := kf
  simp only [HeadD.bytes, List.append_assoc] at e
  simp only at i1 i2 i3 i4 i5 i6 i7 i8 j1 j2 j3 j4 j5 j6 j7 j8
  obtain ⟨rfl, q1⟩ := zig_pre i1 j1 e
  obtain ⟨rfl, q2⟩ := zig_pre i2 j2 q1
  obtain ⟨rfl, q3⟩ := zig_pre i3 j3 q2
  obtain ⟨rfl, q4⟩ := zig_pre i4 j4 q3
  obtain ⟨rfl, q5⟩ := zig_pre i5 j5 q4
  obtain ⟨rfl, q6⟩ := zig_pre i6 j6 q5
  obtain ⟨rfl, q7⟩ := zig_pre i7 j7 q6
  obtain ⟨rfl, q8⟩ := zig_pre i8 j8 q7
  simp only [List.cons_append, List.nil_append, List.cons.injEq] at q8
  obtain ⟨e1, rfl⟩ := q8
  have : ao = bo := by cases ao <;> cases bo <;> simp [bit8] at e1 ⊢
  subst this
  exact ⟨rfl, rfl⟩
theorem ents_pre : ∀ (A B : List (Int × List (BitVec 8))) (r s : List (BitVec 8)), A.length = B.length → (∀ e ∈ A, i64ok e.1 ∧ e.2.length < 18446744073709551616) → (∀ e ∈ B, i64ok e.1 ∧ e.2.length < 18446744073709551616) → entsB A ++ r = entsB B ++ s → A = B ∧ r = s
  | [], [], _, _, _, _, _, h => ⟨rfl, by simpa [entsB] using h⟩
  | x :: A, y :: B, r, s, hl, hA, hB, h => by
    obtain ⟨xn, xp⟩ := x
    obtain ⟨yn, yp⟩ := y
    have hx := hA (xn, xp) List.mem_cons_self
    have hy := hB (yn, yp) List.mem_cons_self
    simp only [entsB, List.map_cons, List.flatten_cons, entB, List.append_assoc] at h
    obtain ⟨rfl, q1⟩ := zig_pre hx.1 hy.1 h
    obtain ⟨rfl, q2⟩ := sz_pre hx.2 hy.2 q1
    obtain ⟨rfl, q3⟩ := ents_pre A B r s (by simpa using hl) (fun e he => hA e (List.mem_cons_of_mem _ he)) (fun e he => hB e (List.mem_cons_of_mem _ he)) q2
    exact ⟨rfl, q3⟩
theorem msg_inj {h k : HeadD} {A B : List (Int × List (BitVec 8))} {p q : List (BitVec 8)} (hf : h.fine) (kf : k.fine) (hA : ∀ e ∈ A, i64ok e.1) (hB : ∀ e ∈ B, i64ok e.1) (fA : msgFits h A p) (fB : msgFits k B q) (e : msgB h A p = msgB k B q) : h = k ∧ A = B ∧ p = q := by
  obtain ⟨u1, u2, u3, u4⟩ := fA
  obtain ⟨v1, v2, v3, v4⟩ := fB
  simp only [msgB, List.append_assoc] at e
  obtain ⟨rfl, q1⟩ := head_pre hf kf e
  obtain ⟨e1, q2⟩ := enc_pre (by omega) (by omega) q1
  obtain ⟨rfl, q3⟩ := ents_pre A B _ _ e1 (fun x hx => ⟨hA x hx, by have := u3 x hx; omega⟩) (fun x hx => ⟨hB x hx, by have := v3 x hx; omega⟩) q2
  obtain ⟨rfl, _⟩ := sz_pre (p := p) (q := q) (r := []) (s := []) (by omega) (by omega) (by rw [List.append_nil, List.append_nil]; exact q3)
  exact ⟨rfl, rfl, rfl⟩
end Go.Proofs.Ytaakdnbaljoehaa
