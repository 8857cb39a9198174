/- What the second form's bound gives: how long two slices of bytes are at most. -/
import Derived.Test.YtpnnbkhlbohfbaaDoorRows
namespace Go.Proofs.YtpnnbkhlbohfbaaDoor

theorem bulk_pos {H : Type} (d : DataW H) : 1 ≤ Rows.uptoBulk d := by
  cases d with
  | lit l => cases l <;> simp [Rows.uptoBulk]
  | _ => simp [Rows.uptoBulk]
theorem bulkAll_len {H : Type} (l : List (DataW H)) : l.length ≤ Rows.uptoBulkAll l := by
  induction l with
  | nil => simp [Rows.uptoBulkAll]
  | cons d l ih =>
    have := bulk_pos d
    simp only [Rows.uptoBulkAll, List.length_cons]
    omega
theorem cap_bulk {H : Type} {d : DataW H} {cap : Nat} (h : cap = 0 ∨ ∃ es sp, d = .slice es sp ∧ es.length + sp.length = cap) : cap ≤ Rows.uptoBulk d := by
  rcases h with h | ⟨es, sp, rfl, h⟩
  · omega
  · have h1 := bulkAll_len es
    have h2 := bulkAll_len sp
    simp only [Rows.uptoBulk]
    omega
theorem two_le {H : Type} {d0 d1 : DataW H} {c0 c1 l0 l1 : Nat} (hk : Rows.uptoSmall H ([d0, d1] ++ []) = true) (h0 : c0 = 0 ∨ ∃ es sp, d0 = .slice es sp ∧ es.length + sp.length = c0) (h1 : c1 = 0 ∨ ∃ es sp, d1 = .slice es sp ∧ es.length + sp.length = c1)
    (k0 : l0 ≤ c0) (k1 : l1 ≤ c1) : l0 + l1 ≤ 1099511627776 := by
  have h := of_decide_eq_true hk
  simp only [List.append_nil, Rows.uptoBulkAll] at h
  have b0 := cap_bulk h0
  have b1 := cap_bulk h1
  omega
end Go.Proofs.YtpnnbkhlbohfbaaDoor
