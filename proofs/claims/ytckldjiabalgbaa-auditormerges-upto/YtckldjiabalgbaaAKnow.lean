/- Package auditor: know. -/
import Derived.Test.YtckldjiabalgbaaAMem
import Derived.Lib.SliceRun
namespace Go.Proofs.Ytckldjiabalgbaa
open Go.RowKit Go.Lib
attribute [local go_sem] Oper.semAt_some
set_option linter.unusedVariables false

theorem set_ofA {W : World} {K i : Nat} {cs : Array Value} {v : Value} {t : TypeId} (h : W.heap[K]? = some (.cells cs t (0, 0))) : (W.setCell ⟨K, i, none⟩ v).heap[K]? = some (.cells (cs.setIfInBounds i v) t (0, 0)) := by
  show (W.heap.modify K _)[K]? = _
  simp [Array.getElem?_modify, h]
/-- What stays where cells of one block are set. -/
structure OnlyG (G : Nat) (w w' : World) : Prop where
  block : ∀ K, K ≠ G → w'.heap[K]? = w.heap[K]?
  size : w'.heap.size = w.heap.size
  os : w'.os = w.os
  tape : w'.tape = w.tape
  output : w'.output = w.output
theorem OnlyG.refl (G : Nat) (w : World) : OnlyG G w w := ⟨fun _ _ => rfl, rfl, rfl, rfl, rfl⟩
theorem OnlyG.set {G : Nat} {w w' : World} (h : OnlyG G w w') (i : Nat) (v : Value) : OnlyG G w (w'.setCell ⟨G, i, none⟩ v) :=
  ⟨fun K hK => (Below.heap_setCell _ _ _ _ hK).trans (h.block K hK), by simpa using h.size, h.os, h.tape, h.output⟩
def knowD (D : AuD) (n ph : Int) : AuD :=
  if n ≠ D.n then ⟨D.sh, n, ph, false, false, false, .slice none 0 0, .slice none 0 0, .slice none 0 0, false⟩
  else if ph ≠ D.ph then ⟨D.sh, n, ph, false, false, false, D.v0, D.v1, D.v2, D.wh && decide (ph ≠ 1)⟩ else D
theorem zeroB (w : World) : (zeroValue 4).run Try.prog w = .ok (.bool false) w := by kernel_rfl
theorem zeroR (w : World) : (zeroValue 22).run Try.prog w = .ok (.slice none 0 0) w := by kernel_rfl
/-- clear of who has answered. -/
theorem clear_a {w : World} {G : Nat} {c0 c1 c2 c3 c4 c5 c6 c7 c8 c9 : Value} (h : w.heap[G]? = some (.cells #[c0, c1, c2, c3, c4, c5, c6, c7, c8, c9] 71 (0, 0))) : ∃ w', (Builtin.clear_ #[75] 0 #[.slice (some ⟨G, 3, none⟩) 3 3]).run Try.prog w = .ok (.tuple #[]) w' ∧ w'.heap[G]? = some (.cells #[c0, c1, c2, .bool false, .bool false, .bool false, c6, c7, c8, c9] 71 (0, 0)) ∧ OnlyG G w w' := by
  refine ⟨_, run_clear_slice w 75 4 0 (.bool false) Try.underlying75 zeroB rfl rfl G 3 3 3 (by omega) (fun j hj => ?_) (fun j hj => ?_), ?_, ?_⟩
  · simp only [World.cell?, h]
    match j, hj with
    | 0, _ => rfl
    | 1, _ => rfl
    | 2, _ => rfl
  · simp only [World.frozen?, h]
    match j, hj with
    | 0, _ => rfl
    | 1, _ => rfl
    | 2, _ => rfl
  · show (((w.setCell ⟨G, 3, none⟩ (.bool false)).setCell ⟨G, 4, none⟩ (.bool false)).setCell ⟨G, 5, none⟩ (.bool false)).heap[G]? = _
    exact set_ofA (set_ofA (set_ofA h))
  · exact (((OnlyG.refl G w).set 3 _).set 4 _).set 5 _
/-- clear of what was told. -/
theorem clear_v {w : World} {G : Nat} {c0 c1 c2 c3 c4 c5 c6 c7 c8 c9 : Value} (h : w.heap[G]? = some (.cells #[c0, c1, c2, c3, c4, c5, c6, c7, c8, c9] 71 (0, 0))) : ∃ w', (Builtin.clear_ #[26] 0 #[.slice (some ⟨G, 6, none⟩) 3 3]).run Try.prog w = .ok (.tuple #[]) w' ∧ w'.heap[G]? = some (.cells #[c0, c1, c2, c3, c4, c5, .slice none 0 0, .slice none 0 0, .slice none 0 0, c9] 71 (0, 0)) ∧ OnlyG G w w' := by
  refine ⟨_, run_clear_slice w 26 22 0 (.slice none 0 0) Try.underlying26 zeroR rfl rfl G 6 3 3 (by omega) (fun j hj => ?_) (fun j hj => ?_), ?_, ?_⟩
  · simp only [World.cell?, h]
    match j, hj with
    | 0, _ => rfl
    | 1, _ => rfl
    | 2, _ => rfl
  · simp only [World.frozen?, h]
    match j, hj with
    | 0, _ => rfl
    | 1, _ => rfl
    | 2, _ => rfl
  · show (((w.setCell ⟨G, 6, none⟩ (.slice none 0 0)).setCell ⟨G, 7, none⟩ (.slice none 0 0)).setCell ⟨G, 8, none⟩ (.slice none 0 0)).heap[G]? = _
    exact set_ofA (set_ofA (set_ofA h))
  · exact (((OnlyG.refl G w).set 6 _).set 7 _).set 8 _
theorem OnlyG.trans {G : Nat} {a b c : World} (h : OnlyG G a b) (k : OnlyG G b c) : OnlyG G a c := ⟨fun K hK => (k.block K hK).trans (h.block K hK), k.size.trans h.size, k.os.trans h.os, k.tape.trans h.tape, k.output.trans h.output⟩
set_option maxRecDepth 100000 in
theorem know_phase {w : World} {G : Nat} {D : AuD} (h : AuIn w G D) (ph' : Int) (hp : ph' ≠ D.ph) : Calls Try.prog 19 #[.pointer (some ⟨G, 0, none⟩), .int .i64 D.n, .int .i64 ph'] w fun e w' => e = .returned (.tuple #[]) ∧ AuIn w' G ⟨D.sh, D.n, ph', false, false, false, D.v0, D.v1, D.v2, D.wh && decide (ph' ≠ 1)⟩ ∧ OnlyG G w w' := by
  obtain ⟨sh, n, ph, a0, a1, a2, v0, v1, v2, wh⟩ := D
  simp only [AuIn] at h hp ⊢
  have hm : (ph' != ph) = true := by simpa using hp
  have c1 : w.cell? ⟨G, 1, none⟩ = some (.int .i64 n) := by simp [World.cell?, h]
  have c2 : w.cell? ⟨G, 2, none⟩ = some (.int .i64 ph) := by simp [World.cell?, h]
  obtain ⟨W, hclr, Wh, wo⟩ := clear_a h
  have Wc9 : W.cell? ⟨G, 9, none⟩ = some (.bool wh) := by simp [World.cell?, Wh]
  have Wz9 : W.frozen? ⟨G, 9, none⟩ = false := by simp [World.frozen?, Wh]
  have Wc1 : W.cell? ⟨G, 1, none⟩ = some (.int .i64 n) := by simp [World.cell?, Wh]
  have Wz1 : W.frozen? ⟨G, 1, none⟩ = false := by simp [World.frozen?, Wh]
  have Wc2 : W.cell? ⟨G, 2, none⟩ = some (.int .i64 ph) := by simp [World.cell?, Wh]
  have Wz2 : W.frozen? ⟨G, 2, none⟩ = false := by simp [World.frozen?, Wh]
  have X : Hid (∀ b : Bool, (((W.setCell ⟨G, 9, none⟩ (.bool b)).setCell ⟨G, 1, none⟩ (.int .i64 n)).setCell ⟨G, 2, none⟩ (.int .i64 ph')).heap[G]? = some (.cells #[.int .i64 sh, .int .i64 n, .int .i64 ph', .bool false, .bool false, .bool false, v0, v1, v2, .bool b] 71 (0, 0)) ∧ OnlyG G w (((W.setCell ⟨G, 9, none⟩ (.bool b)).setCell ⟨G, 1, none⟩ (.int .i64 n)).setCell ⟨G, 2, none⟩ (.int .i64 ph'))) := fun b => ⟨set_ofA (set_ofA (set_ofA Wh)), ((wo.set 9 _).set 1 _).set 2 _⟩
  clear h hp Wh wo
  cases wh with
  | false =>
    go_enter Try.func19, Try.ntmps19
    go_wp2
    exact bodyPost_end (results_none rfl _ _ _) rfl ⟨rfl, (X.out false).1, (X.out false).2⟩
  | true =>
    by_cases h1 : ph' = 1
    · have m1 : (ph' != 1) = false := by simp [h1]
      have e : (true && decide (ph' ≠ 1)) = false := by simp [h1]
      rw [e]
      clear h1 e
      go_enter Try.func19, Try.ntmps19
      go_wp2
      exact bodyPost_end (results_none rfl _ _ _) rfl ⟨rfl, (X.out false).1, (X.out false).2⟩
    · have m1 : (ph' != 1) = true := by simpa using h1
      have e : (true && decide (ph' ≠ 1)) = true := by simp [h1]
      rw [e]
      clear h1 e
      go_enter Try.func19, Try.ntmps19
      go_wp2
      exact bodyPost_end (results_none rfl _ _ _) rfl ⟨rfl, (X.out true).1, (X.out true).2⟩
set_option maxRecDepth 100000 in
theorem know_num {w : World} {G : Nat} {D : AuD} (h : AuIn w G D) (n' ph' : Int) (hp : n' ≠ D.n) : Calls Try.prog 19 #[.pointer (some ⟨G, 0, none⟩), .int .i64 n', .int .i64 ph'] w fun e w' => e = .returned (.tuple #[]) ∧ AuIn w' G ⟨D.sh, n', ph', false, false, false, .slice none 0 0, .slice none 0 0, .slice none 0 0, false⟩ ∧ OnlyG G w w' := by
  obtain ⟨sh, n, ph, a0, a1, a2, v0, v1, v2, wh⟩ := D
  simp only [AuIn] at h hp ⊢
  have hm : (n' != n) = true := by simpa using hp
  have c1 : w.cell? ⟨G, 1, none⟩ = some (.int .i64 n) := by simp [World.cell?, h]
  obtain ⟨U, hclu, Uh, uo⟩ := clear_v h
  have Uc9 : U.cell? ⟨G, 9, none⟩ = some (.bool wh) := by simp [World.cell?, Uh]
  have Uz9 : U.frozen? ⟨G, 9, none⟩ = false := by simp [World.frozen?, Uh]
  have h2 : (U.setCell ⟨G, 9, none⟩ (.bool false)).heap[G]? = some (.cells #[.int .i64 sh, .int .i64 n, .int .i64 ph, .bool a0, .bool a1, .bool a2, .slice none 0 0, .slice none 0 0, .slice none 0 0, .bool false] 71 (0, 0)) := set_ofA Uh
  obtain ⟨W, hclr, Wh, wo⟩ := clear_a h2
  have Wc9 : W.cell? ⟨G, 9, none⟩ = some (.bool false) := by simp [World.cell?, Wh]
  have Wz9 : W.frozen? ⟨G, 9, none⟩ = false := by simp [World.frozen?, Wh]
  have Wc1 : W.cell? ⟨G, 1, none⟩ = some (.int .i64 n) := by simp [World.cell?, Wh]
  have Wz1 : W.frozen? ⟨G, 1, none⟩ = false := by simp [World.frozen?, Wh]
  have Wc2 : W.cell? ⟨G, 2, none⟩ = some (.int .i64 ph) := by simp [World.cell?, Wh]
  have Wz2 : W.frozen? ⟨G, 2, none⟩ = false := by simp [World.frozen?, Wh]
  have X : Hid (((((W.setCell ⟨G, 9, none⟩ (.bool false)).setCell ⟨G, 1, none⟩ (.int .i64 n')).setCell ⟨G, 2, none⟩ (.int .i64 ph')).heap[G]? = some (.cells #[.int .i64 sh, .int .i64 n', .int .i64 ph', .bool false, .bool false, .bool false, .slice none 0 0, .slice none 0 0, .slice none 0 0, .bool false] 71 (0, 0))) ∧ OnlyG G w (((W.setCell ⟨G, 9, none⟩ (.bool false)).setCell ⟨G, 1, none⟩ (.int .i64 n')).setCell ⟨G, 2, none⟩ (.int .i64 ph'))) := ⟨set_ofA (set_ofA (set_ofA Wh)), (((uo.set 9 _).trans wo).set 9 _ |>.set 1 _).set 2 _⟩
  clear h hp Wh wo h2 Uh uo
  go_enter Try.func19, Try.ntmps19
  go_wp2
  exact bodyPost_end (results_none rfl _ _ _) rfl ⟨rfl, X.out.1, X.out.2⟩
set_option maxRecDepth 100000 in
theorem know_same {w : World} {G : Nat} {D : AuD} (h : AuIn w G D) : Calls Try.prog 19 #[.pointer (some ⟨G, 0, none⟩), .int .i64 D.n, .int .i64 D.ph] w fun e w' => e = .returned (.tuple #[]) ∧ AuIn w' G D ∧ OnlyG G w w' := by
  obtain ⟨sh, n, ph, a0, a1, a2, v0, v1, v2, wh⟩ := D
  simp only [AuIn] at h ⊢
  have c1 : w.cell? ⟨G, 1, none⟩ = some (.int .i64 n) := by simp [World.cell?, h]
  have c2 : w.cell? ⟨G, 2, none⟩ = some (.int .i64 ph) := by simp [World.cell?, h]
  have z1 : w.frozen? ⟨G, 1, none⟩ = false := by simp [World.frozen?, h]
  have z2 : w.frozen? ⟨G, 2, none⟩ = false := by simp [World.frozen?, h]
  have X : Hid (((w.setCell ⟨G, 1, none⟩ (.int .i64 n)).setCell ⟨G, 2, none⟩ (.int .i64 ph)).heap[G]? = some (.cells #[.int .i64 sh, .int .i64 n, .int .i64 ph, .bool a0, .bool a1, .bool a2, v0, v1, v2, .bool wh] 71 (0, 0)) ∧ OnlyG G w ((w.setCell ⟨G, 1, none⟩ (.int .i64 n)).setCell ⟨G, 2, none⟩ (.int .i64 ph))) := ⟨set_ofA (set_ofA h), ((OnlyG.refl G w).set 1 _).set 2 _⟩
  clear h
  go_enter Try.func19, Try.ntmps19
  go_wp2
  exact bodyPost_end (results_none rfl _ _ _) rfl ⟨rfl, X.out.1, X.out.2⟩
/-- know, whatever it is asked. -/
theorem know_any {w : World} {G : Nat} {D : AuD} (h : AuIn w G D) (n' ph' : Int) : Calls Try.prog 19 #[.pointer (some ⟨G, 0, none⟩), .int .i64 n', .int .i64 ph'] w fun e w' => e = .returned (.tuple #[]) ∧ AuIn w' G (knowD D n' ph') ∧ OnlyG G w w' := by
  unfold knowD
  by_cases hn : n' = D.n
  · subst hn
    by_cases hp : ph' = D.ph
    · subst hp
      simpa using know_same h
    · simpa [hp] using know_phase h ph' hp
  · simpa [hn] using know_num h n' ph' hn
end Go.Proofs.Ytckldjiabalgbaa
