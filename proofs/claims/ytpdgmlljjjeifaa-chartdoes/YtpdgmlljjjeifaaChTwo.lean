/- Package chart: the program's chart and the reference's beside each other. -/
import Derived.Test.YtpdgmlljjjeifaaChRefW
import Derived.Test.YtpdgmlljjjeifaaChCopy
namespace Go.Proofs.Ytpdgmlljjjeifaa
open Go.RowKit Cod
set_option linter.unusedVariables false
section
variable {L : List Int} {N : Nat}
theorem AllIn.set (h : AllIn L) (k : Nat) {v : Int} (hv : i64in v) : AllIn (L.set k v) := fun j => by
  by_cases e : k = j
  · subst e
    by_cases hk : k < L.length
    · rw [at_set_self hk]; exact hv
    · have : at_ (L.set k v) k = at_ L k := by simp [at_, hk]
      rw [this]; exact h k
  · rw [at_set_ne e]; exact h j
theorem AllIn.doC (h : AllIn L) (g : Good L N) (hN : N ≤ 1000) {k s t n p : Int} (hs : i64in s) (ht : i64in t) (hn : i64in n) : AllIn (doC L k s t n p).2 := by
  have z : ∀ c : Int, 0 ≤ c → c ≤ 4 → i64in c := fun c a b => ⟨by omega, by omega⟩
  have hb : i64in (at_ L 33 + 1) := by have := g.bg; exact ⟨by omega, by omega⟩
  have ho : ∀ s, i64in (own_ L s) := fun s => by
    unfold own_
    split
    · exact h _
    · exact z 0 (by omega) (by omega)
  have he : ∀ s, i64in (epo_ L s + 1) := fun s => by
    have := (g.fine (by omega)).ep s
    exact ⟨by omega, by omega⟩
  unfold Go.Proofs.Ytpdgmlljjjeifaa.doC
  split
  · unfold mvC
    split
    · exact h
    split
    · exact h
    split
    · exact h
    exact ((((((h.set 33 hb).set 34 hs).set 35 (ho s)).set 36 ht).set 37 (he s)).set 38 (z 1 (by omega) (by omega))).set 39 hb
  split
  · unfold stC
    split
    · exact h
    show AllIn (if at_ L 38 = 1 then _ else _)
    split
    · exact h.set 38 (z 2 (by omega) (by omega))
    split
    · exact ((h.set _ (h 36)).set _ (h 37)).set 38 (z 3 (by omega) (by omega))
    split
    · have q := z 0 (by omega) (by omega)
      exact (((((h.set 34 q).set 35 q).set 36 q).set 37 q).set 38 q).set 39 q
    · exact h
  split
  · unfold auC
    split
    · exact h
    exact ((h.set 33 hb).set 40 hb).set 41 (z 1 (by omega) (by omega))
  split
  · unfold cuC
    split
    · exact (h.set 40 hn).set 41 (z 2 (by omega) (by omega))
    · exact h
  split
  · unfold thC
    split
    · exact (h.set 40 (z 0 (by omega) (by omega))).set 41 (z 0 (by omega) (by omega))
    · exact h
  · exact h
theorem allIn_new (n : Int) (h : 1 ≤ n ∧ n ≤ 3) : AllIn (newL n 16) := fun k => by
  rw [newL_at n 16 k (by omega)]
  split
  · exact ⟨by omega, by omega⟩
  split
  · have h1 := Int.emod_nonneg ((k / 2 : Nat) : Int) (show n ≠ 0 by omega)
    have h2 := Int.emod_lt_of_pos ((k / 2 : Nat) : Int) (show 0 < n by omega)
    exact ⟨by omega, by omega⟩
  · exact ⟨by omega, by omega⟩
end
/-- Both charts, alike. -/
structure Two (w0 w : World) (R Q O E cO cE : Nat) (L : List Int) (N : Nat) : Prop where
  my : MyC w0 w R L N
  rc : RC w w0.heap.size Q O E cO cE L
  ph : Ph3 L
  ai : AllIn L
section
variable {w0 w w' : World} {R Q O E cO cE : Nat} {L : List Int} {N : Nat}
theorem Two.below (h : Two w0 w R Q O E cO cE L N) (b : Below w.heap.size w w') : Two w0 w' R Q O E cO cE L N := ⟨h.my.below b, h.rc.below b, h.ph, h.ai⟩
theorem Two.drewN (h : Two w0 w R Q O E cO cE L N) (n : Nat) : Two w0 (w.drewN n) R Q O E cO cE L N := h.below (below_drewN' (Below.refl _ w) n)
theorem Two.nQR (h : Two w0 w R Q O E cO cE L N) : Q ≠ R := h.my.c.ne h.rc.q (by decide)
theorem Two.nOR (h : Two w0 w R Q O E cO cE L N) : O ≠ R := by obtain ⟨_, h1, _⟩ := h.rc.o; exact h.my.c.ne h1 (by decide)
theorem Two.nER (h : Two w0 w R Q O E cO cE L N) : E ≠ R := by obtain ⟨_, h1, _⟩ := h.rc.e; exact h.my.c.ne h1 (by decide)
end
end Go.Proofs.Ytpdgmlljjjeifaa
