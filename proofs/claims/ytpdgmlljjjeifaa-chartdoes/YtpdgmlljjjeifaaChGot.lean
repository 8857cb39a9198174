/- Bytes that are answered; a number written behind them. Written by gen_cc.py. -/
import Derived.Test.YtpdgmlljjjeifaaChLaw
import Derived.Test.YtpdgmlljjjeifaaWriters
import Derived.Test.YtpdgmlljjjeifaaRefW
namespace Go.Proofs.Ytpdgmlljjjeifaa
open Go.RowKit Cod
set_option linter.unusedVariables false
theorem below_drew_trans {w w' : World} (h : Below w.drew.heap.size w.drew w') : Below w.heap.size w w' := (Below.refl w.heap.size w).drew.trans h
theorem OnlyR.of_grown {w w' : World} {R : Nat} (g : w.grownBy w' (some R)) : OnlyR w w' R := ⟨g.os, g.tape, g.output, g.size, fun k hk hn => g.block k hk (fun e => hn (Option.some.inj e))⟩
/-- Bytes that were answered. -/
def Got (w : World) (v : Value) (l : List (BitVec 8)) : Prop := ∃ a c, v = .slice a l.length c ∧ Seen w a l.length l ∧ (a = none → c = 0)
theorem Got.below {w w' : World} {v : Value} {l : List (BitVec 8)} (h : Got w v l) (b : Below w.heap.size w w') : Got w' v l := by
  obtain ⟨a, c, h1, h2, h3⟩ := h
  exact ⟨a, c, h1, h2.below b, h3⟩
theorem got_nil (w : World) : Got w (.slice none 0 0) [] := ⟨none, 0, rfl, ⟨rfl, by simp, .inl rfl⟩, fun _ => rfl⟩
theorem got_owned {w : World} {base n : Nat} {v : Value} {l : List (BitVec 8)} (h : w.ownsRow base 5 1 v n (cellsOf l)) (hm : n ≤ maxLen) : Got w v l := by
  have hl : n = l.length := by have := h.1; rw [cellsOf_length] at this; omega
  subst hl
  obtain ⟨a, c, h1, h2, h3, _⟩ := owned_seen h hm
  exact ⟨a, c, h1, h2, h3⟩
def i64in (n : Int) : Prop := -9223372036854775808 ≤ n ∧ n < 9223372036854775808
theorem enc_zig {n : Int} (h : i64in n) : (enc (zig n)).length ≤ 10 := enc_ten (zig_lt n h)
theorem int_got {w : World} {v : Value} {l : List (BitVec 8)} (h : Got w v l) (n : Int) (hn : i64in n) (hm : l.length ≤ 1000000) :
    Calls Try.prog 34 #[v, .int .i64 n] w fun e w' => ∃ v', e = .returned v' ∧ Got w' v' (l ++ enc (zig n)) ∧ Below w.heap.size w w' := by
  obtain ⟨a, c, rfl, h2, h3⟩ := h
  refine (int_any a l.length c l n hn w h2 h3 (by omega)).mono fun e w' ⟨v', he, o, b⟩ => ⟨v', he, got_owned o ?_, b⟩
  have := enc_zig hn
  unfold maxLen
  omega
theorem refInt_got {w : World} {v : Value} {l : List (BitVec 8)} (h : Got w v l) (n : Int) (hn : i64in n) (hm : l.length ≤ 1000000) :
    Calls Try.prog 41 #[v, .int .i64 n] w fun e w' => ∃ v', e = .returned v' ∧ Got w' v' (l ++ enc (zig n)) ∧ Below w.heap.size w w' := by
  obtain ⟨a, c, rfl, h2, h3⟩ := h
  refine (refInt_any a l.length c l n hn w h2 h3 (by omega)).mono fun e w' ⟨v', he, o, b⟩ => ⟨v', he, got_owned o ?_, b⟩
  have := enc_zig hn
  unfold maxLen
  omega
end Go.Proofs.Ytpdgmlljjjeifaa
