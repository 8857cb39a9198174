/- Clone and Copy of a book; the reference's Bytes. -/
import Derived.Test.YtdchnfggmkokhaaGreatDoorGC
import Derived.Test.YtdchnfggmkokhaaGreatDoorGA
namespace Go.Proofs.YtdchnfggmkokhaaGreatDoor
open Go.RowKit
attribute [local go_sem] Oper.semAt_some
set_option linter.unusedVariables false
section
variable {w : World} {base N : Nat} {sv : Value} {L : List Acc}
theorem owns_emptyA (w : World) (base : Nat) (hb : base ≤ w.heap.size) : (w.alloc (.cells #[] 52)).ownsRow base 52 3 (.slice (some ⟨w.heap.size, 0, none⟩) 0 0) 0 (cells3 []) :=
  ⟨rfl, .inr ⟨w.heap.size, 0, #[], rfl, hb, heap_alloc_new w _, Nat.le_refl _, by unfold maxLen; omega, rfl, rfl⟩⟩
theorem row_news {v : Value} (h : w.ownsRow base 52 3 v L.length (cells3 L)) {g c : Nat} (e : v = .slice (some ⟨g, 0, none⟩) L.length c) : ∀ j u, (cells3 L)[j]? = some u → w.cell? ((⟨g, 0, none⟩ : Addr).add j) = some u := by
  intro j u hj
  rcases h.2 with ⟨rfl, _⟩ | ⟨g2, c2, cur, e2, hb, hg, hnc, hcm, hcs, hx⟩
  · cases e
  · subst e
    injection e2 with e3 e4 e5
    injection e3 with e6
    injection e6 with e7
    subst e7
    rw [Addr.add_lit, Nat.zero_add]
    have hj' : j < L.length * 3 := by have := (List.getElem?_eq_some_iff.1 hj).1; rwa [cells3_length] at this
    rw [← hx, List.getElem?_take, if_pos (by omega)] at hj
    simp only [World.cell?, hg]
    simpa using hj
set_option maxRecDepth 100000 in
set_option maxHeartbeats 4000000 in
theorem cloneA_any (h : w.ownsRow base 52 3 sv L.length (cells3 L)) (hl : L.length ≤ 200) :
    Calls Tryz.prog 50 #[sv] w fun e w' => ∃ v, e = .returned v ∧ w'.ownsRow w.heap.size 52 3 v L.length (cells3 L) ∧ Below w.heap.size w w' := by
  have qT : ∀ (w : World) (a : Option Addr) (n c n' c' : Nat), (binOp .eql 43 (.slice a n c) (.slice none n' c')).run Tryz.prog w = .ok (.bool a.isNone) w := fun w a n c n' c' => Lib.run_eql_slice_nil w _ _ a n c n' c' Tryz.underlying43
  obtain ⟨a, c, e, hnil, hnc, _, hx⟩ := row_form h
  cases a with
  | none =>
    obtain rfl := hnil rfl
    have h0 : L.length = 0 := by omega
    obtain rfl : L = [] := List.eq_nil_of_length_eq_zero h0
    subst e
    clear h hl hnil hnc hx h0
    go_enter Tryz.func50, Tryz.ntmps50
    go_wp2
    go_ret
    exact ⟨_, rfl, World.ownsRow_nil _ _ _ _, Below.refl _ _⟩
  | some x =>
    obtain ⟨g, rfl⟩ : ∃ g, x = ⟨g, 0, none⟩ := ⟨x.block, (hx x rfl).1⟩
    obtain ⟨i0, hi, hz0, hz1, hz2⟩ := info_parts info_acc
    have hb : Below w.heap.size w (w.alloc (.cells #[] 52)) := (Below.refl _ w).alloc (Nat.le_refl _) _
    have h2 : (w.alloc (.cells #[] 52)).ownsRow base 52 3 sv L.length (cells3 L) := owns_kept h (fun g e => hb.block g (row_kind h e).2.1)
    have hn := row_news h2 e
    obtain ⟨v', w', hr, h1, hg, _, h5⟩ := run_append_own_at (P := Tryz.prog) (w.alloc (.cells #[] 52)) w.heap.size 43 43 52 i0 (.agg #[.string ⟨#[]⟩, .int .i64 0, .string ⟨#[]⟩]) 3 40 Tryz.underlying43 hi hz0 hz1 hz2 rfl (by omega) _ 0 (cells3 []) (owns_emptyA w w.heap.size (Nat.le_refl _)) ⟨g, 0, none⟩ L.length c (cells3 L) (by rw [cells3_length]) hn (one3 L) (by unfold maxLen; omega) (by omega) (by simp)
    rw [Nat.zero_add, show cells3 [] ++ cells3 L = cells3 L from rfl] at h1
    have HR : Hid _ := hr
    have HB : Hid (Below w.heap.size w w') := ((Below.refl _ w).alloc (Nat.le_refl _) _).grown hg (by simp) (fun k e => by cases e; exact Nat.le_refl _)
    have HO : Hid _ := h1
    subst e
    obtain ⟨n, en⟩ : ∃ n, L.length = n := ⟨_, rfl⟩
    rw [en] at HR HO ⊢
    clear h h2 hn hnil hx hr h5 hg h1 hnc en hl
    go_enter Tryz.func50, Tryz.ntmps50
    go_wp2_with (at_builtin; refine wpList_append_known rfl (.tmp 5) (.tmp 6) 43 43 rfl _ _ rfl rfl _ _ HR.out ?_)
    go_ret
    exact ⟨_, rfl, HO.out, HB.out⟩
/-- Copy answers another book, of the same accounts, in new memory. -/
theorem copy_any (h : BookIn w base N sv L) : Calls Tryz.prog 12 #[.pointer (some ⟨N, 0, none⟩)] w fun e w' => ∃ N' sv', e = .returned (.pointer (some ⟨N', 0, none⟩)) ∧ Below w.heap.size w w' ∧ BookIn w' w.heap.size N' sv' L := by
  have hl := h.fit.len
  have HC := cloneA_any h.row hl
  have k0 := h.c0
  have HF : Hid (Fit L) := h.fit
  clear h hl
  go_enter Tryz.func12, Tryz.ntmps12
  go_wp2_with fail
  refine HC.mono ?_
  clear HC
  rintro e w2 ⟨v, rfl, o2, b2⟩
  obtain ⟨a2, c2, e2, _⟩ := row_form o2
  subst e2
  have O2 : Hid _ := o2
  have B2 : Hid _ := b2
  clear o2 b2 k0
  obtain ⟨n, en⟩ : ∃ n, L.length = n := ⟨_, rfl⟩
  have EN : Hid (L.length = n) := en
  rw [en] at O2 ⊢
  clear en
  go_wp2
  go_ret
  have b3 : Below w2.heap.size w2 (w2.alloc (.cells #[.slice a2 n c2] 45)) := (Below.refl _ w2).alloc (Nat.le_refl _) _
  exact ⟨w2.heap.size, .slice a2 n c2, rfl, B2.out.trans (b3.mono B2.out.size), ⟨heap_alloc_new w2 _, by rw [EN.out]; exact owns_kept O2.out (fun g e => b3.block g (row_kind O2.out e).2.1), B2.out.size, HF.out⟩⟩
end
end Go.Proofs.YtdchnfggmkokhaaGreatDoor
