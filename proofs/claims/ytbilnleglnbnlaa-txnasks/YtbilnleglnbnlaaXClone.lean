/- Package txn: slices.Clone of transfers; appends of transfers. -/
import Derived.Test.YtbilnleglnbnlaaXMem
import Derived.Laws.AppendOwnNone
namespace Go.Proofs.Ytbilnleglnbnlaa
open Go.RowKit
attribute [local go_sem] Oper.semAt_some
set_option linter.unusedVariables false

theorem info_txn : (Try.prog.info? 40).map (fun i => (i.zero, i.size, i.bytes)) = some (some (.agg #[.string ⟨#[]⟩, .string ⟨#[]⟩, .string ⟨#[]⟩, .string ⟨#[]⟩, .int .i64 0, .bool false, .int .i64 0]), 7, 88) := by kernel_rfl
theorem one_txn (l : List TxnD) : ∀ u ∈ flat TxnD.cells l, u.oneCell' = true := fun u hu => by
  obtain ⟨p, hp, hu⟩ := List.mem_flatMap.1 hu
  simp only [TxnD.cells, List.mem_cons, List.not_mem_nil, or_false] at hu
  rcases hu with rfl | rfl | rfl | rfl | rfl | rfl | rfl <;> rfl
/-- append(v, l...) of transfers. -/
theorem run_append_txns (w : World) (base : Nat) (v : Value) (l : List TxnD) (hown : w.ownsRow base 40 7 v l.length (flat TxnD.cells l)) (aa : Option Addr) (la ca : Nat) (A : List TxnD) (hA : RecsAt TxnD.cells 7 w aa la A) (hnil : aa = none → ca = 0)
    (hb : l.length + la ≤ 1000) (hbase : base ≤ w.heap.size) :
    ∃ v' w', (Builtin.append_ #[37, 37] 37 #[v, .slice aa la ca]).run Try.prog w = .ok v' w' ∧ w'.ownsRow base 40 7 v' (l.length + la) (flat TxnD.cells (l ++ A)) ∧ w.grownBy w' v.ownBlock := by
  obtain ⟨i0, hi, hz0, hz1, hz2⟩ := info_parts info_txn
  cases aa with
  | none =>
    obtain ⟨h1, h3⟩ := hA
    have hla : la = 0 := by
      rcases h3 with h3 | ⟨b, off, h, _⟩
      · exact h3
      · cases h
    subst hla
    have hAn : A = [] := List.eq_nil_of_length_eq_zero h1.symm
    subst hAn
    rw [hnil rfl]
    have hr := run_append_owned_none (P := Try.prog) (w := w) base 37 37 40 i0 7 Try.underlying37 hi v l.length _ hown
    refine ⟨v, w, hr, by simpa using hown, ⟨rfl, rfl, rfl, Nat.le_refl _, fun _ _ _ => rfl⟩⟩
  | some x =>
    obtain ⟨v', w', hr, h1, h2, _⟩ := run_append_own (P := Try.prog) w base 37 37 40 i0 _ 7 88 Try.underlying37 hi hz0 hz1 hz2 rfl (by omega) v l.length (flat TxnD.cells l) hown x la ca (flat TxnD.cells A) (by rw [flat_length TxnD.cells7, hA.1]) (fun j u hj => by
      have hlen := (List.getElem?_eq_some_iff.1 hj).1
      rw [flat_length TxnD.cells7] at hlen
      have hi : j / 7 < A.length := by omega
      obtain ⟨b, off, e, hc⟩ := hA.at hi
      cases e
      have q := flat_at (enc := TxnD.cells) TxnD.cells7 A (j / 7) hi (j % 7) (by omega)
      rw [show j / 7 * 7 + j % 7 = j by omega, hj] at q
      have := hc (j % 7) u q.symm
      rw [Addr.add_lit]
      rw [show off + j / 7 * 7 + j % 7 = off + j by omega] at this
      exact this) (one_txn A) (by unfold maxLen; omega) (by omega) hbase
    exact ⟨v', w', hr, by rw [flat_append]; exact h1, h2⟩
theorem txns_empty (w : World) (base : Nat) (hb : base ≤ w.heap.size) : (w.alloc (.cells #[] 40)).ownsRow base 40 7 (.slice (some ⟨w.heap.size, 0, none⟩) 0 0) ([] : List TxnD).length (flat TxnD.cells []) :=
  ⟨rfl, .inr ⟨w.heap.size, 0, #[], rfl, hb, heap_alloc_new w _, Nat.le_refl _, by unfold maxLen; omega, rfl, rfl⟩⟩
set_option maxHeartbeats 400000 in
theorem cloneT_any (a : Option Addr) (len cap : Nat) (l : List TxnD) (w : World) (h : RecsAt TxnD.cells 7 w a len l) (hnil : a = none → cap = 0) (hm : len ≤ 1000) :
    Calls Try.prog 17 #[.slice a len cap] w fun e w' => ∃ v, e = .returned v ∧ w'.ownsRow w.heap.size 40 7 v len (flat TxnD.cells l) ∧ Below w.heap.size w w' := by
  have qT : ∀ (w : World) (a : Option Addr) (n c n' c' : Nat), (binOp .eql 37 (.slice a n c) (.slice none n' c')).run Try.prog w = .ok (.bool a.isNone) w := fun w a n c n' c' => Lib.run_eql_slice_nil w _ _ a n c n' c' Try.underlying37
  cases a with
  | none =>
    obtain ⟨h1, h3⟩ := h
    have h0 : len = 0 := by
      rcases h3 with h3 | ⟨b, off, h, _⟩
      · exact h3
      · cases h
    subst h0
    obtain rfl : l = [] := List.eq_nil_of_length_eq_zero h1.symm
    obtain rfl := hnil rfl
    clear h1 h3 hnil hm
    go_enter Try.func17, Try.ntmps17
    go_wp2
    go_ret
    exact ⟨_, rfl, World.ownsRow_nil _ _ _ _, Below.refl _ _⟩
  | some x =>
    have hs := h.below ((Below.refl _ w).alloc (Nat.le_refl _) (.cells #[] 40))
    obtain ⟨v', w', hr, hown, hgrow⟩ := run_append_txns (w.alloc (.cells #[] 40)) w.heap.size _ [] (txns_empty w w.heap.size (Nat.le_refl _)) (some x) len cap l hs (fun e => by cases e) (by simpa using hm) (by simp)
    rw [List.nil_append, List.length_nil, Nat.zero_add] at hown
    have HR : Hid _ := hr
    have HB : Hid (Below w.heap.size w w') := ((Below.refl _ w).alloc (Nat.le_refl _) _).grown hgrow (by simp) (fun k e => by cases e; exact Nat.le_refl _)
    have HO : Hid _ := hown
    clear h hs hnil hm hr hgrow hown
    go_enter Try.func17, Try.ntmps17
    go_wp2_with (at_builtin; refine wpList_append_known rfl (.tmp 5) (.tmp 6) 37 37 rfl _ _ rfl rfl _ _ HR.out ?_)
    go_ret
    exact ⟨_, rfl, HO.out, HB.out⟩
set_option maxHeartbeats 400000 in
theorem others_any (me sh : Int) (w : World) : Calls Try.prog 19 #[.int .i64 me, .int .i64 sh] w fun e w' => e = .returned (.func (.func 21) #[] #[.pointer (some ⟨w.heap.size + 1, 0, none⟩), .pointer (some ⟨w.heap.size, 0, none⟩)]) ∧ w' = (w.alloc (.cells #[.int .i64 me] 3)).alloc (.cells #[.int .i64 sh] 3) := by
  go_enter Try.func19, Try.ntmps19
  go_wp2
  go_ret
  exact ⟨rfl, rfl⟩
end Go.Proofs.Ytbilnleglnbnlaa
