/- Package rlog: keep. -/
import Derived.Test.YthnocbflnakdmaaLDel
import Derived.Deep.RegionLaw
import Derived.BigRegion
namespace Go.Proofs.Ythnocbflnakdmaa
open Go.RowKit
attribute [local go_sem] Oper.semAt_some
set_option linter.unusedVariables false

section
variable {w : World} {base N : Nat} {B T : Int} {sv : Value} {L : List EntV}
theorem LogIn.drewN (h : LogIn w base N B T sv L) (q : Nat) : LogIn (w.drewN q) base N B T sv L := h.below (below_drewN' (Below.refl _ _) q)
theorem LogIn.drew (h : LogIn w base N B T sv L) : LogIn w.drew base N B T sv L := h.below (Below.refl _ _).drew
theorem LogIn.notRow (h : LogIn w base N B T sv L) : some N ≠ sv.ownBlock := fun e => by
  obtain ⟨_, _, cur, e2⟩ := row_kind h.row e.symm
  rw [h.hN] at e2
  injection e2 with e2
  injection e2 with _ e3
  exact absurd e3 (by decide)
theorem LogIn.grown_c2 {w2 : World} (h : LogIn w base N B T sv L) (g : w.grownBy w2 sv.ownBlock) : w2.cell? ⟨N, 2, none⟩ = some sv ∧ w2.frozen? ⟨N, 2, none⟩ = false := by
  have e := g.block N h.ltN h.notRow
  rw [World.cell?_of_block (w := w) (a := ⟨N, 2, none⟩) e, World.frozen?_of_block (w := w) (a := ⟨N, 2, none⟩) e]
  exact ⟨h.c2, h.fz 2⟩
theorem grown_drew {w2 : World} {r : Option Nat} (g : w.drew.grownBy w2 r) : w.grownBy w2 r := ⟨g.os, g.tape, g.output, g.size, g.block⟩
theorem take_mem {e : EntV} {i : Nat} (h : e ∈ L.take i) : e ∈ L := List.mem_of_mem_take h
set_option maxRecDepth 100000 in
set_option maxHeartbeats 1600000 in
theorem keep_any (h : LogIn w base N B T sv L) (i : Nat) (hi : i ≤ L.length) : Calls Try.prog 70 #[.pointer (some ⟨N, 0, none⟩), .int .i64 (i : Int)] w fun e w' => e = .returned (.tuple #[]) ∧
    ∃ sv', LogIn w' base N B T sv' (L.take i) ∧ Chg w w' N sv.ownBlock ∧ sv'.ownBlock = sv.ownBlock := by
  have c2 := h.c2
  have fz := h.fz 2
  obtain ⟨a, c, e, _⟩ := h.sv_form
  subst e
  have HD : Hid (Calls Try.prog 81 #[.slice a L.length c, .int .i64 (i : Int), .int .i64 (L.length : Int)] w.drew _) := delete_any (h.drew.row) rfl hi (by have := h.len; omega)
  have H : Hid (LogIn w base N B T (.slice a L.length c) L) := h
  have HI : Hid (i ≤ L.length) := hi
  have hN := h.ltN
  clear h hi
  go_enter Try.func70, Try.ntmps70
  go_wp2
  go_region_law (go_simp; go_at_call 81; refine HD.out.mono ?_; rintro e w2 ⟨rfl, o2, gd⟩; have g2 := grown_drew gd; obtain ⟨x1, x2⟩ := H.out.grown_c2 g2)
  all_goals
    have h1 := H.out
    have hl : (L.take i).length = i := by rw [List.length_take]; exact Nat.min_eq_left HI.out
    obtain ⟨z1, z2⟩ := h1.turn (sv' := .slice a i c) (L' := L.take i) g2 (by rw [hl]; exact o2) (fun e he => (h1.dat e (take_mem he)).keep fun g hg => h1.bytes ⟨g2.os, g2.tape, g2.output, g2.size, fun k hk _ hn => g2.block k hk hn⟩ g hg) (by rw [hl]; exact Nat.le_trans HI.out h1.len) (fun e he => h1.bE e (take_mem he)) (fun k e => .inl (by cases a <;> simp_all [Value.ownBlock]))
    go_end0
    exact ⟨rfl, _, z1, z2, by cases a <;> simp [Value.ownBlock]⟩
end
end Go.Proofs.Ythnocbflnakdmaa
