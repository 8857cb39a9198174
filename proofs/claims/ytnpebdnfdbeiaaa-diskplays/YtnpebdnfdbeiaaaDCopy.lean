/- What Copy does. -/
import Derived.Test.YtnpebdnfdbeiaaaDReach
import Derived.Test.YtnpebdnfdbeiaaaDLoad
import Derived.Maps.AppendAt
namespace Go.Proofs.Ytnpebdnfdbeiaaa
open Go.RowKit
set_option linter.unusedVariables false

theorem wcells_length : ∀ (ws : List (Nat × List (BitVec 8))), (∀ x ∈ ws, x.2.length = 256) → (wcells ws).length = ws.length * 257
  | [], _ => rfl
  | x :: ws, h => by
    have h1 : (wcell x).length = 257 := wcell_length (i := x.1) (h x List.mem_cons_self)
    have h2 := wcells_length ws (fun y hy => h y (List.mem_cons_of_mem _ hy))
    show (wcell x ++ wcells ws).length = _
    rw [List.length_append, h1, h2, List.length_cons]
    omega
theorem wcells_one (ws : List (Nat × List (BitVec 8))) : ∀ u ∈ wcells ws, u.oneCell' = true := by
  intro u hu
  obtain ⟨x, _, hx⟩ := List.mem_flatMap.1 hu
  exact wcell_one (i := x.1) (p := x.2) u hx
theorem owns_emptyW (w : World) : (w.alloc (.cells #[] 65)).ownsRow w.heap.size 65 257 (.slice (some ⟨w.heap.size, 0, none⟩) 0 0) 0 [] :=
  ⟨rfl, .inr ⟨w.heap.size, 0, #[], rfl, Nat.le_refl _, heap_alloc_new w _, Nat.le_refl _, by unfold maxLen; omega, rfl, rfl⟩⟩
set_option maxHeartbeats 800000 in
theorem clonew_any (v : Value) (ws : List (Nat × List (BitVec 8))) (w : World) (h : w.ownsRow 0 65 257 v ws.length (wcells ws)) (hall : ∀ x ∈ ws, x.2.length = 256) (hk : ws.length ≤ 1000000) :
    Calls Try.prog 34 #[v] w fun e w' => ∃ v', e = .returned v' ∧ w'.ownsRow w.heap.size 65 257 v' ws.length (wcells ws) ∧ Below w.heap.size w w' := by
  have qT : ∀ (w : World) (a : Option Addr) (n c n' c' : Nat), (binOp .eql 52 (.slice a n c) (.slice none n' c')).run Try.prog w = .ok (.bool a.isNone) w := fun w a n c n' c' => Lib.run_eql_slice_nil w _ _ a n c n' c' Try.underlying52
  rcases h.2 with ⟨rfl, h0⟩ | ⟨g, c, cur, rfl, hb, hg, hr⟩
  · obtain rfl : ws = [] := List.eq_nil_of_length_eq_zero h0
    clear h h0 hall hk
    go_enter Try.func34, Try.ntmps34
    go_wp2
    go_ret
    exact ⟨_, rfl, World.ownsRow_nil _ _ _ _, Below.refl _ _⟩
  · obtain ⟨i0, hi0, hz0, hz1, hz2⟩ := info_parts infoW
    have hA := (Below.refl w.heap.size w).alloc (Nat.le_refl _) (.cells #[] 65)
    have hnews : ∀ j u, (wcells ws)[j]? = some u → (w.alloc (.cells #[] 65)).cell? ((⟨g, 0, none⟩ : Addr).add j) = some u := fun j u hj => by
      have hlt : j < (wcells ws).length := (List.getElem?_eq_some_iff.1 hj).1
      rw [wcells_length ws hall] at hlt
      have hc := h.cellAt j hlt
      rw [hj] at hc
      rw [Addr.add_lit, Nat.zero_add, hA.cell (p := ⟨g, j, none⟩) (World.block_lt_of_cell? w _ hc)]
      exact hc
    obtain ⟨v', w', hr, o1, g1, _, _⟩ := run_append_own_at (P := Try.prog) (w.alloc (.cells #[] 65)) w.heap.size 52 52 65 i0 (.agg (wz 0)) 257 264 Try.underlying52 hi0 hz0 hz1 hz2 (wz_size 0) (by omega) _ 0 [] (owns_emptyW w)
      ⟨g, 0, none⟩ ws.length c (wcells ws) (wcells_length ws hall) hnews (wcells_one ws) (by unfold maxLen; omega) (by omega) (by simp)
    rw [List.nil_append, Nat.zero_add] at o1
    have HR : Hid _ := hr
    have HB : Hid (Below w.heap.size w w') := hA.grown g1 (by simp) (fun k e => by cases e; exact Nat.le_refl _)
    have HO : Hid _ := o1
    clear h hall hk hb hg hr hnews o1 g1 hA hi0 hz0 hz1 hz2
    go_enter Try.func34, Try.ntmps34
    go_wp2_with (at_builtin; refine wpList_append_known rfl (.tmp 5) (.tmp 6) 52 52 rfl _ _ rfl rfl _ _ HR.out ?_)
    go_ret
    exact ⟨_, rfl, HO.out, HB.out⟩
/-- A box that is being filled. -/
structure Box (w x : World) (m : DM) (n : Nat) (s : DS) (cs : Array Value) : Prop where
  b : Below w.heap.size w x
  d : Dsk x m n s
  c : x.heap[w.heap.size]? = some (.cells cs 54 (0, 0))
theorem Box.below {w x x' : World} {m : DM} {n : Nat} {s : DS} {cs : Array Value} (h : Box w x m n s cs) (b : Below x.heap.size x x') : Box w x' m n s cs :=
  ⟨h.b.trans (b.mono h.b.size), h.d.below b, by rw [b.block _ (Array.getElem?_eq_some_iff.1 h.c).1]; exact h.c⟩
theorem Box.put {w x : World} {m : DM} {n : Nat} {s : DS} {cs : Array Value} (h : Box w x m n s cs) (low : ∀ k, m.own k → k < w.heap.size) (i : Nat) (v : Value) : Box w (x.setCell ⟨w.heap.size, i, none⟩ v) m n s (cs.setIfInBounds i v) :=
  ⟨h.b.setCell (Nat.le_refl _) v, h.d.same fun g hg => Below.heap_setCell _ _ _ g (fun e => by have := low g hg; have e' : g = w.heap.size := e; omega), block_put h.c i v⟩
theorem Box.seen {w x : World} {m : DM} {n : Nat} {s : DS} {c0 c1 c2 c3 c4 c5 : Value} (h : Box w x m n s #[c0, c1, c2, c3, c4, c5]) : x.cell? ⟨w.heap.size, 0, none⟩ = some c0 ∧ x.cell? ⟨w.heap.size, 1, none⟩ = some c1 ∧ x.cell? ⟨w.heap.size, 2, none⟩ = some c2 ∧ ∀ i, x.frozen? ⟨w.heap.size, i, none⟩ = false := by
  simp [World.cell?, World.frozen?, h.c]
theorem own_lift {x x' : World} {t : TypeId} {base base' n size : Nat} {v : Value} {xs : List Value} (h : x.ownsRow base t size v n xs) (hb : base' ≤ base) (k : ∀ g, v.ownBlock = some g → x'.heap[g]? = x.heap[g]?) : x'.ownsRow base' t size v n xs := by
  refine owns_same ⟨h.1, h.2.imp id ?_⟩ k
  rintro ⟨g, cap, cur, e1, e2, e3⟩
  exact ⟨g, cap, cur, e1, Nat.le_trans hb e2, e3⟩
theorem copied {w x2 x4 x6 : World} {o : Obj} {n g1 k1 g2 k2 : Nat} {s : DS} {u1 u2 v3 : Value} (ok : s.ok n) (o1 : x2.ownsRow (w.alloc o).heap.size 5 1 (.slice (some ⟨g1, 0, none⟩) (256 * n) k1) (256 * n) (cellsOf s.img)) (z1 : (w.alloc o).heap.size ≤ g1 ∧ g1 < x2.heap.size)
    (o2 : x4.ownsRow (x2.setCell ⟨w.heap.size, 0, none⟩ u1).heap.size 5 1 (.slice (some ⟨g2, 0, none⟩) (256 * n) k2) (256 * n) (cellsOf s.now)) (z2 : (x2.setCell ⟨w.heap.size, 0, none⟩ u1).heap.size ≤ g2 ∧ g2 < x4.heap.size) (b2 : Below (x2.setCell ⟨w.heap.size, 0, none⟩ u1).heap.size (x2.setCell ⟨w.heap.size, 0, none⟩ u1) x4)
    (o3 : x6.ownsRow (x4.setCell ⟨w.heap.size, 1, none⟩ u2).heap.size 65 257 v3 s.ws.length (wcells s.ws)) (b3 : Below (x4.setCell ⟨w.heap.size, 1, none⟩ u2).heap.size (x4.setCell ⟨w.heap.size, 1, none⟩ u2) x6) :
    Below w.heap.size w (x6.setCell ⟨w.heap.size, 2, none⟩ v3) → (x6.setCell ⟨w.heap.size, 2, none⟩ v3).heap[w.heap.size]? = some (.cells #[.slice (some ⟨g1, 0, none⟩) (256 * n) k1, .slice (some ⟨g2, 0, none⟩) (256 * n) k2, v3, .bool s.fa, .bool s.de, .bool s.fu] 54 (0, 0)) →
    Dsk (x6.setCell ⟨w.heap.size, 2, none⟩ v3) ⟨w.heap.size, g1, g2, k1, k2, v3⟩ n s ∧ ∀ k, (⟨w.heap.size, g1, g2, k1, k2, v3⟩ : DM).own k → w.heap.size ≤ k := by
  intro bb hc
  have sA : (w.alloc o).heap.size = w.heap.size + 1 := by simp
  have s2 : (x2.setCell ⟨w.heap.size, 0, none⟩ u1).heap.size = x2.heap.size := by simp [World.setCell]
  have s4 : (x4.setCell ⟨w.heap.size, 1, none⟩ u2).heap.size = x4.heap.size := by simp [World.setCell]
  have q2 := b2.size
  have q4 := b3.size
  have put : ∀ (x : World) (i : Nat) (v : Value) (g : Nat), g ≠ w.heap.size → (x.setCell ⟨w.heap.size, i, none⟩ v).heap[g]? = x.heap[g]? := fun x i v g hg => Below.heap_setCell _ _ _ g hg
  refine ⟨⟨ok, hc, ?_, ?_, ?_, ?_⟩, ?_⟩
  · refine own_lift o1 (Nat.zero_le _) (fun g e => ?_)
    obtain rfl : g1 = g := by simpa [Value.ownBlock] using e
    rw [put _ _ _ _ (by omega), b3.block _ (by omega), put _ _ _ _ (by omega), b2.block _ (by omega), put _ _ _ _ (by omega)]
  · refine own_lift o2 (Nat.zero_le _) (fun g e => ?_)
    obtain rfl : g2 = g := by simpa [Value.ownBlock] using e
    rw [put _ _ _ _ (by omega), b3.block _ (by omega), put _ _ _ _ (by omega)]
  · refine own_lift o3 (Nat.zero_le _) (fun g e => ?_)
    rcases o3.2 with ⟨e1, _⟩ | ⟨g', c, cur, e1, hb, _⟩
    · rw [e1] at e; cases e
    · rw [e1] at e
      obtain rfl : g' = g := by simpa [Value.ownBlock] using e
      rw [put _ _ _ _ (by omega)]
  · show g1 ≠ g2
    omega
  · rintro k (e | e | e | e)
    · have e' : k = w.heap.size := e; omega
    · have e' : k = g1 := e; omega
    · have e' : k = g2 := e; omega
    · have e' : v3.ownBlock = some k := e
      rcases o3.2 with ⟨e1, _⟩ | ⟨g', c, cur, e1, hb, _⟩
      · rw [e1] at e'; cases e'
      · rw [e1] at e'
        obtain rfl : g' = k := by simpa [Value.ownBlock] using e'
        omega
set_option maxRecDepth 100000 in
set_option maxHeartbeats 1600000 in
theorem copy_any (m : DM) (n : Nat) (s : DS) (w : World) (h : Dsk w m n s) :
    Calls Try.prog 15 #[.pointer (some ⟨m.D, 0, none⟩)] w fun e w' => ∃ m' : DM, e = .returned (.pointer (some ⟨m'.D, 0, none⟩)) ∧ Dsk w' m' n s ∧ Below w.heap.size w w' ∧ ∀ k, m'.own k → w.heap.size ≤ k := by
  obtain ⟨aw, cw, hwv, _⟩ := h.wform
  obtain ⟨c0, c1, c2, c3, c4, c5, _⟩ := h.cells
  rw [hwv] at c2
  have LOW : Hid (∀ k, m.own k → k < w.heap.size) := fun k hk => h.lt hk
  have X1 : Box w (w.alloc (.cells #[.slice (some ⟨m.gi, 0, none⟩) (256 * n) m.ci, .slice (some ⟨m.gn, 0, none⟩) (256 * n) m.cn, .slice aw s.ws.length cw, .bool s.fa, .bool s.de, .bool s.fu] 54)) m n s _ := ⟨(Below.refl _ w).alloc (Nat.le_refl _) _, h.below ((Below.refl _ w).alloc (Nat.le_refl _) _), heap_alloc_new w _⟩
  have B1 : Hid _ := X1
  obtain ⟨d0, d1, d2, _⟩ := X1.d.cells
  have HC1 := clone_any (some ⟨m.gi, 0, none⟩) (256 * n) m.ci s.img _ X1.d.seen_all.1 (fun e => by cases e) (by have := h.ok.n2; omega)
  have HOK : Hid (s.ok n) := h.ok
  have HWV : Hid (m.wv = .slice aw s.ws.length cw) := hwv
  clear h hwv X1 d1 d2
  go_enter Try.func15, Try.ntmps15
  go_wp2_with fail
  refine HC1.mono ?_
  rintro e x2 ⟨v1, rfl, o1, b1⟩
  obtain ⟨g1, k1, rfl, z1⟩ := owns_form o1 (by have := HOK.out.n1; omega)
  have B2 : Hid _ := B1.out.below b1
  obtain ⟨e0, e1, e2, ef⟩ := B2.out.seen
  have f0 := ef 0
  have B3 : Hid _ := B2.out.put LOW.out 0 (.slice (some ⟨g1, 0, none⟩) (256 * n) k1)
  obtain ⟨_, d1, _⟩ := B3.out.d.cells
  have HC2 := clone_any (some ⟨m.gn, 0, none⟩) (256 * n) m.cn s.now _ B3.out.d.seen_all.2 (fun e => by cases e) (by have := HOK.out.n2; omega)
  have O1 : Hid _ := o1
  have Z1 : Hid (_ ≤ g1 ∧ g1 < x2.heap.size) := z1
  clear o1 z1 b1 ef e1 e2 d0 HC1 c0 c1 c2 c3 c4 c5
  go_wp2_with fail
  refine HC2.mono ?_
  rintro e x4 ⟨v2, rfl, o2, b2⟩
  obtain ⟨g2, k2, rfl, z2⟩ := owns_form o2 (by have := HOK.out.n1; omega)
  have B4 : Hid _ := B3.out.below b2
  obtain ⟨e0', e1', e2', ef⟩ := B4.out.seen
  have f1 := ef 1
  have B5 : Hid _ := B4.out.put LOW.out 1 (.slice (some ⟨g2, 0, none⟩) (256 * n) k2)
  obtain ⟨_, _, d2, _⟩ := B5.out.d.cells
  rw [HWV.out] at d2
  have HC3 := clonew_any m.wv s.ws _ B5.out.d.hw (fun x hx => (HOK.out.lw x hx).2) HOK.out.lk
  rw [HWV.out] at HC3
  have O2 : Hid _ := o2
  have Z2 : Hid (_ ≤ g2 ∧ g2 < x4.heap.size) := z2
  have BB2 : Hid _ := b2
  clear o2 z2 b2 ef e0 e0' e2' d1 f0 HC2
  go_wp2_with fail
  refine HC3.mono ?_
  rintro e x6 ⟨v3, rfl, o3, b3⟩
  have B6 : Hid _ := B5.out.below b3
  obtain ⟨_, _, e2, ef⟩ := B6.out.seen
  have f2 := ef 2
  have fin := copied HOK.out O1.out Z1.out O2.out Z2.out BB2.out o3 b3
  have B7 : Hid _ := B6.out.put LOW.out 2 v3
  obtain ⟨a3, l3, q3, rfl⟩ : ∃ a l c, v3 = .slice a l c := by
    rcases o3.2 with ⟨e, _⟩ | ⟨g, c, cur, e, _⟩
    · exact ⟨_, _, _, e⟩
    · exact ⟨_, _, _, e⟩
  have FIN : Hid _ := fin
  clear ef fin o3 b3 e1' f1 d2 HC3
  go_wp2
  go_ret
  obtain ⟨p1, p2⟩ := FIN.out B7.out.b B7.out.c
  exact ⟨⟨w.heap.size, g1, g2, k1, k2, .slice a3 l3 q3⟩, rfl, p1, B7.out.b, p2⟩
end Go.Proofs.Ytnpebdnfdbeiaaa
