/- Package mover: duties. -/
import Derived.Test.YtcmhkeaimgppgaaGaD
import Derived.Test.YtcmhkeaimgppgaaGaE
namespace Go.Proofs.Ytcmhkeaimgppgaa
open Go.RowKit Go.Shelf
attribute [local go_sem] Oper.semAt_some
set_option linter.unusedVariables false

/-- The kinds of commands whose answers count, each with its group. -/
def dutiesL (x : MvD) : List (Int × Int) := if x.ph = 1 then [(8, x.fr)] else if x.ph = 2 then [(8, x.fr), (9, x.to)] else if x.ph = 3 then [(10, x.fr)] else []
abbrev encD (y : Int × Int) : Array Value := #[.int .i64 y.1, .int .i64 y.2]
/-- What a round keeps: every box of a move. -/
def KeepV (A B : World) : Prop := ∀ (k : Nat) (cs : Array Value) (z : Nat × Nat), A.heap[k]? = some (.cells cs 47 z) → B.heap[k]? = some (.cells cs 47 z)
theorem KeepV.tr {A B C : World} (h : KeepV A B) (k : KeepV B C) : KeepV A C := fun g cs z q => k g cs z (h g cs z q)
theorem KeepV.bk (W : World) (l : Nat) (o o' : Obj) (h1 : W.heap[l]? = some o) (h2 : o.isCells = false) : KeepV W (W.putObj l o') := fun g cs z q => by
  have hne : g ≠ l := fun e2 => by rw [e2, h1] at q; cases q; simp [Obj.isCells] at h2
  rw [World.putObj_heap_other hne]
  exact q
theorem KeepV.of_below {A B : World} (b : Below A.heap.size A B) : KeepV A B := fun g cs z q => (b.block g (Array.getElem?_eq_some_iff.1 q).1).trans q
def RD (x : MvD) (pre : List (Int × Int)) (y : Int × Int) (_ : World) : Prop := ∃ rest, dutiesL x = pre ++ y :: rest
theorem duties_any (x : MvD) (w : World) : Calls Try.prog 25 #[.agg #[.int .i64 x.slot, .int .i64 x.fr, .int .i64 x.to, .int .i64 x.ep, .int .i64 x.ph, .int .i64 x.n]] w fun e w' => e = .returned (.func (.func 32) #[] #[.pointer (some ⟨w.heap.size, 0, none⟩)]) ∧ w'.heap[w.heap.size]? = some (.cells #[.int .i64 x.slot, .int .i64 x.fr, .int .i64 x.to, .int .i64 x.ep, .int .i64 x.ph, .int .i64 x.n] 47 (0, 0)) ∧ Below w.heap.size w w' := by
  obtain ⟨sl, fr, to, ep, ph, n⟩ := x
  go_enter Try.func25, Try.ntmps25
  go_wp2
  go_ret
  exact ⟨rfl, heap_alloc_new w _, (Below.refl _ w).alloc (Nat.le_refl _) _⟩
set_option maxRecDepth 100000 in
set_option maxHeartbeats 1600000 in
theorem duties1_in (n L Bx : Nat) (x : MvD) (J Jx : List (Int × Int) → World → Prop) (W : World)
    (hY : ∀ pre y W1, J pre W1 → RD x pre y W1 → YieldAt Fence.wide (n - 1) Try.prog L (encD y) W1 fun e W' => KeepsFrom W.heap.size W1 W' ∧
      ((e = .returned (.bool true) ∧ J (pre ++ [y]) W' ∧ KeepV W1 W') ∨ (e = .returned (.bool false) ∧ Jx (pre ++ [y]) W')))
    (hx : W.heap[Bx]? = some (.cells #[.int .i64 x.slot, .int .i64 x.fr, .int .i64 x.to, .int .i64 x.ep, .int .i64 x.ph, .int .i64 x.n] 47 (0, 0))) (h0 : J [] W) :
    CallsIn Fence.wide n Try.prog 32 #[.func (.yield L) #[] #[], .pointer (some ⟨Bx, 0, none⟩)] W fun e W' => (∃ v, e = .returned v) ∧
      ((∃ xs, xs = dutiesL x ∧ J xs W') ∨ (∃ pre, True ∧ Jx pre W')) := by
  obtain ⟨sl, fr, to, ep, ph, m⟩ := x
  dsimp only at *
  have x1 : W.cell? ⟨Bx, 1, none⟩ = some (.int .i64 fr) := by simp only [World.cell?, hx]; rfl
  have x2 : W.cell? ⟨Bx, 2, none⟩ = some (.int .i64 to) := by simp only [World.cell?, hx]; rfl
  have x4 : W.cell? ⟨Bx, 4, none⟩ = some (.int .i64 ph) := by simp only [World.cell?, hx]; rfl
  have HX : Hid (W.heap[Bx]? = some (.cells #[.int .i64 sl, .int .i64 fr, .int .i64 to, .int .i64 ep, .int .i64 ph, .int .i64 m] 47 (0, 0))) := hx
  have H0 : Hid (J [] W) := h0
  have HY : Hid (∀ pre y W1, J pre W1 → RD ⟨sl, fr, to, ep, ph, m⟩ pre y W1 → YieldAt Fence.wide (n - 1) Try.prog L (encD y) W1 fun e W' => KeepsFrom W.heap.size W1 W' ∧
      ((e = .returned (.bool true) ∧ J (pre ++ [y]) W' ∧ KeepV W1 W') ∨ (e = .returned (.bool false) ∧ Jx (pre ++ [y]) W'))) := hY
  clear hY hx h0
  by_cases h1 : ph = 1
  · subst h1
    obtain ⟨fn, tmps, assign, body, hyy, hR⟩ := HY.out [] (8, fr) W H0.out ⟨[], rfl⟩
    dsimp only [encD] at hyy
    refine callsIn_of_wp Try.func32 rfl trivial ?_ rfl
    simp only [Try.ntmps32, List.size_toArray, List.length_cons, List.length_nil, Nat.reduceAdd, Nat.reduceSub, Array.replicate_succ, Array.replicate_zero, List.push_toArray, List.append_toArray, List.nil_append, List.cons_append]
    gi_wp2
    refine ⟨wide_room _, hR.mono ?_⟩
    rintro e W3 ⟨hkf, (⟨rfl, hJ3, hk3⟩ | ⟨rfl, hJx3⟩)⟩
    · have HJ3 : Hid _ := hJ3
      clear hJ3
      gi_wp2
      go_end0
      exact ⟨⟨_, rfl⟩, .inl ⟨_, rfl, HJ3.out⟩⟩
    · have HJ3 : Hid _ := hJx3
      clear hJx3
      gi_wp2
      go_end0
      exact ⟨⟨_, rfl⟩, .inr ⟨_, trivial, HJ3.out⟩⟩
  · by_cases h2 : ph = 2
    · subst h2
      obtain ⟨fn, tmps, assign, body, hyy, hR⟩ := HY.out [] (8, fr) W H0.out ⟨[(9, to)], rfl⟩
      dsimp only [encD] at hyy
      refine callsIn_of_wp Try.func32 rfl trivial ?_ rfl
      simp only [Try.ntmps32, List.size_toArray, List.length_cons, List.length_nil, Nat.reduceAdd, Nat.reduceSub, Array.replicate_succ, Array.replicate_zero, List.push_toArray, List.append_toArray, List.nil_append, List.cons_append]
      gi_wp2
      refine ⟨wide_room _, hR.mono ?_⟩
      rintro e W3 ⟨hkf, (⟨rfl, hJ3, hk3⟩ | ⟨rfl, hJx3⟩)⟩
      · obtain ⟨fn', tmps', assign', body', hyy', hR'⟩ := HY.out [(8, fr)] (9, to) W3 hJ3 ⟨[], rfl⟩
        dsimp only [encD] at hyy'
        have hx3 := hk3 _ _ _ HX.out
        have y2 : W3.cell? ⟨Bx, 2, none⟩ = some (.int .i64 to) := by simp only [World.cell?, hx3]; rfl
        clear hJ3 hk3 hkf hR hyy x1 x2 x4 hx3
        gi_wp2
        refine ⟨wide_room _, hR'.mono ?_⟩
        rintro e W4 ⟨hkf, (⟨rfl, hJ3, hk3⟩ | ⟨rfl, hJx3⟩)⟩
        · have HJ3 : Hid _ := hJ3
          clear hJ3
          gi_wp2
          go_end0
          exact ⟨⟨_, rfl⟩, .inl ⟨_, rfl, HJ3.out⟩⟩
        · have HJ3 : Hid _ := hJx3
          clear hJx3
          gi_wp2
          go_end0
          exact ⟨⟨_, rfl⟩, .inr ⟨_, trivial, HJ3.out⟩⟩
      · have HJ3 : Hid _ := hJx3
        clear hJx3
        gi_wp2
        go_end0
        exact ⟨⟨_, rfl⟩, .inr ⟨_, trivial, HJ3.out⟩⟩
    · by_cases h3 : ph = 3
      · subst h3
        obtain ⟨fn, tmps, assign, body, hyy, hR⟩ := HY.out [] (10, fr) W H0.out ⟨[], rfl⟩
        dsimp only [encD] at hyy
        refine callsIn_of_wp Try.func32 rfl trivial ?_ rfl
        simp only [Try.ntmps32, List.size_toArray, List.length_cons, List.length_nil, Nat.reduceAdd, Nat.reduceSub, Array.replicate_succ, Array.replicate_zero, List.push_toArray, List.append_toArray, List.nil_append, List.cons_append]
        gi_wp2
        refine ⟨wide_room _, hR.mono ?_⟩
        rintro e W3 ⟨hkf, (⟨rfl, hJ3, hk3⟩ | ⟨rfl, hJx3⟩)⟩
        · have HJ3 : Hid _ := hJ3
          clear hJ3
          gi_wp2
          go_end0
          exact ⟨⟨_, rfl⟩, .inl ⟨_, rfl, HJ3.out⟩⟩
        · have HJ3 : Hid _ := hJx3
          clear hJx3
          gi_wp2
          go_end0
          exact ⟨⟨_, rfl⟩, .inr ⟨_, trivial, HJ3.out⟩⟩
      · have d1 : (ph == 1) = false := by simpa using h1
        have d2 : (ph == 2) = false := by simpa using h2
        have d3 : (ph == 3) = false := by simpa using h3
        have HE : Hid (([] : List (Int × Int)) = dutiesL ⟨sl, fr, to, ep, ph, m⟩) := by show _ = _; unfold dutiesL; rw [if_neg h1, if_neg h2, if_neg h3]
        clear h1 h2 h3
        refine callsIn_of_wp Try.func32 rfl trivial ?_ rfl
        simp only [Try.ntmps32, List.size_toArray, List.length_cons, List.length_nil, Nat.reduceAdd, Nat.reduceSub, Array.replicate_succ, Array.replicate_zero, List.push_toArray, List.append_toArray, List.nil_append, List.cons_append]
        gi_wp2
        go_end0
        exact ⟨⟨_, rfl⟩, .inl ⟨_, HE.out, H0.out⟩⟩
theorem duties1_seq (n Bx : Nat) (x : MvD) (w : World) (hx : w.heap[Bx]? = some (.cells #[.int .i64 x.slot, .int .i64 x.fr, .int .i64 x.to, .int .i64 x.ep, .int .i64 x.ph, .int .i64 x.n] 47 (0, 0))) :
    SeqV n Try.prog 32 #[.pointer (some ⟨Bx, 0, none⟩)] encD KeepV (RD x) (fun xs => xs = dutiesL x) (fun _ => True) w := fun L J Jx W hW hJ hJx pJ pJx hY h0 =>
  duties1_in n L Bx x J Jx W hY ((hW.block _ (Array.getElem?_eq_some_iff.1 hx).1).trans hx) h0
end Go.Proofs.Ytcmhkeaimgppgaa
