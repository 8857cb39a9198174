/- Package book: Put, Open. -/
import Derived.Test.YtabhgdmmljhpcabDoorBInsert
namespace Go.Proofs.YtabhgdmmljhpcabDoor
open Go.RowKit
attribute [local go_sem] Oper.semAt_some
set_option linter.unusedVariables false

/-- An account is put. -/
def putP (L : List Acc) (t : ByteArray) (n : Int) : Int × List Acc := if nameOk t = false then (46, L) else if n < 0 then (47, L) else if hasN L t = true then (41, L) else if 200 ≤ L.length then (4, L) else (0, ins L ⟨t, n, ⟨#[]⟩⟩)
section
variable {w : World} {base N : Nat} {sv : Value} {L : List Acc}
theorem BookIn.grown {w3 : World} {sv3 : Value} {L' : List Acc} (h : BookIn w base N sv L) (t : InsTold w w3 base sv sv3 L.length L') (hl : L'.length = L.length + 1) (hf : Fit L') : w3.cell? ⟨N, 0, none⟩ = some sv ∧ w3.frozen? ⟨N, 0, none⟩ = false ∧ BTold w (w3.setCell ⟨N, 0, none⟩ sv3) base N sv L' := by
  obtain ⟨t1, t2, t3⟩ := t
  have hN : w3.heap[N]? = some (.cells #[sv] 38 (0, 0)) := (t2.block N h.ltN (fun e => h.ne e.symm rfl)).trans h.hN
  have e := setCell_eq_setRow w3 N 0 _ _ _ sv3 hN
  have hne : ∀ g, sv3.ownBlock = some g → g ≠ N := fun g e q => by
    obtain ⟨_, _, cur, h3⟩ := row_kind t1 e
    rw [q, hN] at h3
    injection h3 with h3
    injection h3 with _ h3
    exact absurd h3 (by decide)
  refine ⟨by simp [World.cell?, hN], by simp [World.frozen?, hN], sv3, ⟨?_, ?_, h.bN, hf⟩, ⟨?_, ?_, ?_, ?_, fun k hk h1 h2 => ?_⟩, t3⟩
  · rw [e]
    exact setRow_heap _ _ _ _ _ _ hN
  · rw [hl, e]
    exact owns_kept t1 (fun g q => setRow_other _ _ _ _ (hne g q))
  · rw [e]; exact t2.os
  · rw [e]; exact t2.tape
  · rw [e]; exact t2.output
  · rw [e]; simpa using t2.size
  · rw [e, setRow_other _ _ _ _ h1]
    exact t2.block k hk (fun q => h2 q)
theorem BTold.drew {w' : World} {L' : List Acc} (h : BTold w w' base N sv L') : BTold w w'.drew base N sv L' := by
  obtain ⟨sv', h1, h2, h3⟩ := h
  exact ⟨sv', h1.drew, h2.drew, h3⟩
set_option maxRecDepth 100000 in
set_option maxHeartbeats 2000000 in
theorem put_any (h : BookIn w base N sv L) (t : ByteArray) (n : Int) (hn : -9223372036854775808 ≤ n ∧ n ≤ 9223372036854775807) (hs : t.size ≤ maxLen) :
    Calls Tryd.prog 11 #[.pointer (some ⟨N, 0, none⟩), .agg #[.string t, .int .i64 n]] w fun e w' => e = .returned (.int .i64 (putP L t n).1) ∧ BTold w w' base N sv (putP L t n).2 := by
  have B0 : Hid (Below w.heap.size w (w.alloc (.cells #[.string t, .int .i64 n] 31))) := (Below.refl _ w).alloc (Nat.le_refl _) _
  have HN := fun W => name_any t W hs
  have H : Hid (BookIn w base N sv L) := h
  unfold putP
  by_cases h1 : nameOk t = false
  · rw [if_pos h1]
    rw [h1] at HN
    clear h
    go_enter Tryd.func11, Tryd.ntmps11
    go_wp2_with (go_at_call 22; refine (HN _).mono ?_; rintro e w' ⟨rfl, rfl⟩)
    go_ret
    exact ⟨rfl, BTold.same H.out B0.out⟩
  rw [if_neg h1]
  have h1' : nameOk t = true := by simpa using h1
  have HK : Hid (nameOk t = true) := h1'
  rw [h1'] at HN
  clear h1 h1'
  by_cases h2 : n < 0
  · rw [if_pos h2]
    clear h
    go_enter Tryd.func11, Tryd.ntmps11
    go_wp2_with (go_at_call 22; refine (HN _).mono ?_; rintro e w' ⟨rfl, rfl⟩)
    go_ret
    exact ⟨rfl, BTold.same H.out B0.out⟩
  rw [if_neg h2]
  have HP := place_any (h.below B0.out) t
  have hu := under_le L t
  have hl := h.fit.len
  have HU : Hid (under L t ≤ L.length) := hu
  have HLL : Hid (L.length ≤ 200) := hl
  cases h3 : hasN L t with
  | true =>
    rw [if_pos rfl]
    rw [h3] at HP
    generalize under L t = c at *
    clear h h3
    go_enter Tryd.func11, Tryd.ntmps11
    go_wp2_with (first
      | (go_at_call 22; refine (HN _).mono ?_; rintro e w' ⟨rfl, rfl⟩)
      | (go_at_call 23; refine HP.mono ?_; rintro e w1 ⟨rfl, b1⟩))
    go_ret
    exact ⟨rfl, BTold.same H.out (B0.out.trans (b1.mono B0.out.size))⟩
  | false =>
    rw [if_neg (by simp)]
    rw [h3] at HP
    have H3 : Hid (hasN L t = false) := h3
    obtain ⟨a, cp, esv, _⟩ := h.sv_form
    have ES : Hid (sv = .slice a L.length cp) := esv
    by_cases h4 : 200 ≤ L.length
    · rw [if_pos h4]
      have h4' : (200 : Int) ≤ (L.length : Int) := by omega
      generalize under L t = c at *
      have HC : Hid (∀ W, Below w.heap.size w W → W.cell? ⟨N, 0, none⟩ = some (.slice a L.length cp)) := fun W hb => by rw [← ES.out]; exact (H.out.below hb).c0
      clear h h3 esv h4
      go_enter Tryd.func11, Tryd.ntmps11
      go_wp2_with (first
        | (go_at_call 22; refine (HN _).mono ?_; rintro e w' ⟨rfl, rfl⟩)
        | (go_at_call 23; refine HP.mono ?_; rintro e w1 ⟨rfl, b1⟩; have k0 := HC.out w1 (B0.out.trans (b1.mono B0.out.size))))
      go_ret
      exact ⟨rfl, BTold.same H.out (B0.out.trans (b1.mono B0.out.size))⟩
    · rw [if_neg h4]
      have h4' : ¬ (200 : Int) ≤ (L.length : Int) := by omega
      have HF : Hid (Fit (ins L ⟨t, n, ⟨#[]⟩⟩)) := h.fit.ins ⟨t, n, ⟨#[]⟩⟩ H3.out (by omega) ⟨by simp only; omega, by simp only; omega⟩ HK.out (by simp [ByteArray.size])
      have HC : Hid (∀ W, Below w.heap.size w W → W.cell? ⟨N, 0, none⟩ = some (.slice a L.length cp) ∧ W.frozen? ⟨N, 0, none⟩ = false) := fun W hb => ⟨by rw [← ES.out]; exact (H.out.below hb).c0, (H.out.below hb).fz 0⟩
      have HL4 : Hid (L.length < 200) := by show L.length < 200; omega
      clear h h3 esv h4
      go_enter Tryd.func11, Tryd.ntmps11
      go_wp2_with (first
        | (go_at_call 22; refine (HN _).mono ?_; rintro e w' ⟨rfl, rfl⟩)
        | (go_at_call 23; refine HP.mono ?_; rintro e w1 ⟨rfl, b1⟩; obtain ⟨k0, f0⟩ := HC.out w1 (B0.out.trans (b1.mono B0.out.size)); have r0 := (b1.cell (p := ⟨w.heap.size, 0, none⟩) (by simp)).trans (World.cell?_alloc_mark w #[.string t, .int .i64 n] 31 (0, 0) 0); have r1 := (b1.cell (p := ⟨w.heap.size, 1, none⟩) (by simp)).trans (World.cell?_alloc_mark w #[.string t, .int .i64 n] 31 (0, 0) 1)))
      have B1 : Hid (Below w.heap.size w w1) := B0.out.trans (b1.mono B0.out.size)
      obtain ⟨o, eo⟩ : ∃ o : Obj, o = .cells #[.string t, .int .i64 n, .string ⟨#[]⟩] 42 (0, 0) := ⟨_, rfl⟩
      have b2 : Below w1.heap.size w1 (w1.drew.alloc o) := ((Below.refl _ w1).drew).alloc (Nat.le_refl _) _
      have HB2 : Hid (BookIn (w1.drew.alloc o) base N sv L) := (H.out.below B1.out).below b2
      have B2 : Hid (Below w.heap.size w (w1.drew.alloc o)) := B1.out.trans (b2.mono B1.out.size)
      have HI := insert_any ⟨t, n, ⟨#[]⟩⟩ HB2.out.row HL4.out (under L t) HU.out w1.heap.size (by rw [eo]; exact heap_alloc_new w1.drew _) (fun e => by
        have := (row_kind (H.out.below B1.out).row e).2.1
        omega) HB2.out.size
      rw [show L.take (under L t) ++ (⟨t, n, ⟨#[]⟩⟩ : Acc) :: L.drop (under L t) = ins L ⟨t, n, ⟨#[]⟩⟩ from rfl] at HI
      rw [ES.out] at HI
      have kA : ∀ o', (w1.alloc o').cell? ⟨N, 0, none⟩ = some (.slice a L.length cp) := fun o' => by
        rw [((Below.refl w1.heap.size w1).alloc (Nat.le_refl _) o').cell (p := ⟨N, 0, none⟩) (World.block_lt_of_cell? w1 _ k0)]; exact k0
      have rA : ∀ o', (w1.alloc o').cell? ⟨w.heap.size, 0, none⟩ = some (.string t) := fun o' => by
        rw [((Below.refl w1.heap.size w1).alloc (Nat.le_refl _) o').cell (p := ⟨w.heap.size, 0, none⟩) (World.block_lt_of_cell? w1 _ r0)]; exact r0
      have rB : ∀ o', (w1.alloc o').cell? ⟨w.heap.size, 1, none⟩ = some (.int .i64 n) := fun o' => by
        rw [((Below.refl w1.heap.size w1).alloc (Nat.le_refl _) o').cell (p := ⟨w.heap.size, 1, none⟩) (World.block_lt_of_cell? w1 _ r1)]; exact r1
      clear b1 b2 HP HN hu hl
      rw [eo] at HI HB2 B2
      clear eo o
      go_region_law (go_simp; go_at_call 24; refine HI.mono ?_; rintro e w3 ⟨sv3, rfl, t3⟩; rw [← ES.out] at t3; obtain ⟨a3, c3, e3, _⟩ := row_form t3.1; subst e3; obtain ⟨z0, z1, z2⟩ := HB2.out.grown t3 (ins_length _ _) HF.out)
      all_goals
        go_wp2
        go_ret
        first
        | exact ⟨rfl, z2.after B2.out⟩
        | exact ⟨rfl, (z2.after B2.out).drew⟩
set_option maxRecDepth 100000 in
theorem open_any (h : BookIn w base N sv L) (t : ByteArray) (hs : t.size ≤ maxLen) :
    Calls Tryd.prog 5 #[.pointer (some ⟨N, 0, none⟩), .string t] w fun e w' => e = .returned (.int .i64 (putP L t 0).1) ∧ BTold w w' base N sv (putP L t 0).2 := by
  have HP := put_any h t 0 (by omega) hs
  clear h
  go_enter Tryd.func5, Tryd.ntmps5
  go_wp2_with fail
  refine HP.mono ?_
  rintro e w1 ⟨rfl, ht⟩
  have HT : Hid (BTold w w1 base N sv (putP L t 0).2) := ht
  clear ht HP
  go_wp2
  go_ret
  exact ⟨rfl, HT.out⟩
end
end Go.Proofs.YtabhgdmmljhpcabDoor
