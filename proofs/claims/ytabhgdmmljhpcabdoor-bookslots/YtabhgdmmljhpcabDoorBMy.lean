/- Package book: a law's own book; what must come of fixed calls. -/
import Derived.Test.YtabhgdmmljhpcabDoorBBytes
namespace Go.Proofs.YtabhgdmmljhpcabDoor
open Go.RowKit Cod
attribute [local go_sem] Oper.semAt_some
set_option linter.unusedVariables false

/-- A law's own book, made behind w0. -/
def MyB (w0 w : World) (N : Nat) (L : List Acc) : Prop := ∃ sv, BookIn w w0.heap.size N sv L ∧ Below w0.heap.size w0 w
section
variable {w0 w : World} {N : Nat} {L : List Acc}
theorem MyB.bel (h : MyB w0 w N L) : Below w0.heap.size w0 w := by obtain ⟨_, _, b⟩ := h; exact b
theorem MyB.fit (h : MyB w0 w N L) : Fit L := by obtain ⟨_, h, _⟩ := h; exact h.fit
theorem MyB.below {w' : World} (h : MyB w0 w N L) (b : Below w.heap.size w w') : MyB w0 w' N L := by
  obtain ⟨sv, h1, h2⟩ := h
  exact ⟨sv, h1.below b, h2.trans (b.mono h2.size)⟩
theorem MyB.told {w' : World} {sv : Value} {L' : List Acc} (h : BookIn w w0.heap.size N sv L) (b : Below w0.heap.size w0 w) (t : BTold w w' w0.heap.size N sv L') : MyB w0 w' N L' := by
  obtain ⟨sv', h1, h2, _⟩ := t
  exact ⟨sv', h1, b.trans (h.chg_below h2)⟩
theorem my_new (b : Below w0.heap.size w0 w) : Calls Tryd.prog 4 #[] w fun e w' => ∃ N, e = .returned (.pointer (some ⟨N, 0, none⟩)) ∧ MyB w0 w' N [] := by
  refine (new_any w).mono ?_
  rintro e w' ⟨rfl, b1, h1⟩
  exact ⟨_, rfl, _, h1.base_le b.size, b.trans (b1.mono b.size)⟩
theorem my_open (h : MyB w0 w N L) (t : ByteArray) (hs : t.size ≤ maxLen) : Calls Tryd.prog 5 #[.pointer (some ⟨N, 0, none⟩), .string t] w fun e w' => e = .returned (.int .i64 (putP L t 0).1) ∧ MyB w0 w' N (putP L t 0).2 := by
  obtain ⟨sv, h1, b⟩ := h
  exact (open_any h1 t hs).mono (by rintro e w' ⟨rfl, q⟩; exact ⟨rfl, MyB.told h1 b q⟩)
theorem my_put (h : MyB w0 w N L) (t : ByteArray) (n : Int) (hn : -9223372036854775808 ≤ n ∧ n ≤ 9223372036854775807) (hs : t.size ≤ maxLen) : Calls Tryd.prog 11 #[.pointer (some ⟨N, 0, none⟩), .agg #[.string t, .int .i64 n]] w fun e w' => e = .returned (.int .i64 (putP L t n).1) ∧ MyB w0 w' N (putP L t n).2 := by
  obtain ⟨sv, h1, b⟩ := h
  exact (put_any h1 t n hn hs).mono (by rintro e w' ⟨rfl, q⟩; exact ⟨rfl, MyB.told h1 b q⟩)
theorem my_add (h : MyB w0 w N L) (t : ByteArray) (n : Int) (hn : -9223372036854775808 ≤ n ∧ n ≤ 9223372036854775807) : Calls Tryd.prog 18 #[.pointer (some ⟨N, 0, none⟩), .string t, .int .i64 n] w fun e w' => e = .returned (.int .i64 (onP L t (addP n)).1) ∧ MyB w0 w' N (onP L t (addP n)).2 := by
  obtain ⟨sv, h1, b⟩ := h
  exact (add_any h1 t n hn).mono (by rintro e w' ⟨rfl, q⟩; exact ⟨rfl, MyB.told h1 b q⟩)
theorem my_take (h : MyB w0 w N L) (t : ByteArray) (n : Int) (hn : -9223372036854775808 ≤ n ∧ n ≤ 9223372036854775807) : Calls Tryd.prog 19 #[.pointer (some ⟨N, 0, none⟩), .string t, .int .i64 n] w fun e w' => e = .returned (.int .i64 (onP L t (takeP n)).1) ∧ MyB w0 w' N (onP L t (takeP n)).2 := by
  obtain ⟨sv, h1, b⟩ := h
  exact (take_any h1 t n hn).mono (by rintro e w' ⟨rfl, q⟩; exact ⟨rfl, MyB.told h1 b q⟩)
theorem my_hold (h : MyB w0 w N L) (t s : ByteArray) : Calls Tryd.prog 20 #[.pointer (some ⟨N, 0, none⟩), .string t, .string s] w fun e w' => e = .returned (.int .i64 (onP L t (holdP s)).1) ∧ MyB w0 w' N (onP L t (holdP s)).2 := by
  obtain ⟨sv, h1, b⟩ := h
  exact (hold_any h1 t s).mono (by rintro e w' ⟨rfl, q⟩; exact ⟨rfl, MyB.told h1 b q⟩)
theorem my_bytes (h : MyB w0 w N L) : Calls Tryd.prog 21 #[.pointer (some ⟨N, 0, none⟩)] w fun e w' => ∃ a c, e = .returned (.slice a (bookB L).length c) ∧ Seen w' a (bookB L).length (bookB L) ∧ MyB w0 w' N L := by
  obtain ⟨sv, h1, b⟩ := h
  refine (bytes_any h1).mono ?_
  rintro e w' ⟨a, c, rfl, o, b1⟩
  have hl : (bookB L).length ≤ maxLen := by
    have := h1.fit.bytes L.length
    rw [List.take_length] at this
    have h10 := enc_ten (n := L.length) (by have := h1.fit.len; omega)
    unfold maxLen bookB
    rw [List.length_append]
    omega
  obtain ⟨a', c', e', q, _⟩ := owned_seen o hl
  cases e'
  exact ⟨a, c, rfl, q, sv, h1.below b1, b.trans (b1.mono b.size)⟩
end
def sAnn : ByteArray := ⟨#[97, 110, 110]⟩
def sX : ByteArray := ⟨#[120]⟩
theorem kn1 : putP [] ⟨#[97, 110, 110]⟩ 0 = (0, [⟨⟨#[97, 110, 110]⟩, 0, ⟨#[]⟩⟩]) := by rfl
theorem kn2 : onP [⟨⟨#[97, 110, 110]⟩, 0, ⟨#[]⟩⟩] ⟨#[97, 110, 110]⟩ (addP 5) = (0, [⟨⟨#[97, 110, 110]⟩, 5, ⟨#[]⟩⟩]) := by rfl
theorem kn3 : onP [⟨⟨#[97, 110, 110]⟩, 5, ⟨#[]⟩⟩] ⟨#[97, 110, 110]⟩ (takeP 6) = (42, [⟨⟨#[97, 110, 110]⟩, 5, ⟨#[]⟩⟩]) := by rfl
theorem kn4 : onP [⟨⟨#[97, 110, 110]⟩, 5, ⟨#[]⟩⟩] ⟨#[97, 110, 110]⟩ (holdP ⟨#[120]⟩) = (0, [⟨⟨#[97, 110, 110]⟩, 5, ⟨#[120]⟩⟩]) := by rfl
theorem kn5 : onP [⟨⟨#[97, 110, 110]⟩, 5, ⟨#[120]⟩⟩] ⟨#[97, 110, 110]⟩ (holdP ⟨#[121]⟩) = (5, [⟨⟨#[97, 110, 110]⟩, 5, ⟨#[120]⟩⟩]) := by rfl
theorem kn6 : bookB [⟨⟨#[97, 110, 110]⟩, 5, ⟨#[120]⟩⟩] = [1#8, 3#8, 97#8, 110#8, 110#8, 10#8, 1#8, 120#8] := by
  unfold bookB accsB
  simp only [List.flatMap_cons, List.flatMap_nil, accB, sz, bytesL, List.length_cons, List.length_nil]
  rw [enc_low (by decide), enc_low (by decide), enc_low (by decide), enc_low (by decide)]
  rfl
set_option maxRecDepth 100000 in
set_option maxHeartbeats 1000000 in
theorem knownB_any (w : World) : Calls Tryd.prog 10 #[] w fun e w' => e = .returned (.bool true) ∧ Below w.heap.size w w' := by
  go_enter Tryd.func10, Tryd.ntmps10
  go_wp2_with fail
  refine (my_new (Below.refl _ w)).mono ?_
  rintro e w1 ⟨N, rfl, h1⟩
  go_wp2_with fail
  have HC := my_open h1 ⟨#[97, 110, 110]⟩ (by simp [ByteArray.size, maxLen])
  rw [kn1] at HC
  clear h1
  refine HC.mono ?_
  clear HC
  rintro e w2 ⟨rfl, h2⟩
  go_wp2_with fail
  have HC := my_add h2 ⟨#[97, 110, 110]⟩ 5 (by omega)
  rw [kn2] at HC
  clear h2
  refine HC.mono ?_
  clear HC
  rintro e w3 ⟨rfl, h3⟩
  go_wp2_with fail
  have HC := my_take h3 ⟨#[97, 110, 110]⟩ 6 (by omega)
  rw [kn3] at HC
  clear h3
  refine HC.mono ?_
  clear HC
  rintro e w4 ⟨rfl, h4⟩
  go_wp2_with fail
  have HC := my_hold h4 ⟨#[97, 110, 110]⟩ ⟨#[120]⟩
  rw [kn4] at HC
  clear h4
  refine HC.mono ?_
  clear HC
  rintro e w5 ⟨rfl, h5⟩
  go_wp2_with fail
  have HC := my_hold h5 ⟨#[97, 110, 110]⟩ ⟨#[121]⟩
  rw [kn5] at HC
  clear h5
  refine HC.mono ?_
  clear HC
  rintro e w6 ⟨rfl, h6⟩
  have HC := my_bytes h6
  rw [kn6] at HC
  clear h6
  go_wp2_with fail
  refine HC.mono ?_
  clear HC
  rintro e w7 ⟨a7, c7, rfl, q7, h7⟩
  have HS : Hid _ := run_to_text w7 a7 _ c7 _ q7
  have H7 : Hid (MyB w w7 N [⟨⟨#[97, 110, 110]⟩, 5, ⟨#[120]⟩⟩]) := h7
  clear q7 h7
  have hs : (convert 46 9 (.slice a7 8 c7)).run Tryd.prog w7 = .ok (.string ⟨#[1, 3, 97, 110, 110, 10, 1, 120]⟩) w7 := HS.out
  clear HS
  go_wp2
  go_ret
  exact ⟨rfl, H7.out.bel⟩
end Go.Proofs.YtabhgdmmljhpcabDoor
