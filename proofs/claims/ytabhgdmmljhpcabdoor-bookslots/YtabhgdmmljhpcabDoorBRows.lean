/- Package book: Rows. -/
import Derived.Test.YtabhgdmmljhpcabDoorBMy
namespace Go.Proofs.YtabhgdmmljhpcabDoor
open Go.RowKit Cod
attribute [local go_sem] Oper.semAt_some
set_option linter.unusedVariables false

/-- A row: a name and an amount. -/
abbrev RowB := ByteArray × Int
def cells2 (l : List RowB) : List Value := l.flatMap fun r => [.string r.1, .int .i64 r.2]
theorem cells2_append (a b : List RowB) : cells2 (a ++ b) = cells2 a ++ cells2 b := by simp [cells2]
theorem cells2_length (l : List RowB) : (cells2 l).length = l.length * 2 := by
  induction l with
  | nil => rfl
  | cons r l ih => simp [cells2] at ih ⊢; omega
theorem cells2_at : ∀ (l : List RowB) (i : Nat) (hi : i < l.length), (cells2 l)[i * 2]? = some (.string l[i].1) ∧ (cells2 l)[i * 2 + 1]? = some (.int .i64 l[i].2)
  | r :: l, 0, _ => by simp [cells2]
  | r :: l, i + 1, hi => by
    have ih := cells2_at l i (by simpa using hi)
    have e1 : (i + 1) * 2 = i * 2 + 1 + 1 := by omega
    simp only [cells2, List.flatMap_cons, List.cons_append, List.nil_append, e1, List.getElem?_cons_succ, List.getElem_cons_succ] at ih ⊢
    exact ih
theorem one2 (l : List RowB) : ∀ u ∈ cells2 l, u.oneCell' = true := fun u hu => by
  obtain ⟨p, hp, hu⟩ := List.mem_flatMap.1 hu
  simp only [List.mem_cons, List.not_mem_nil, or_false] at hu
  rcases hu with rfl | rfl <;> rfl
/-- An account is told of. -/
def inSlot (slot : Int) (p : Acc) : Bool := decide (slot = -1) || decide (slot = slotOf p.nm)
/-- The accounts of a slot. -/
def rowsOf (slot : Int) (L : List Acc) : List RowB := (L.filter (inSlot slot)).map fun p => (p.nm, p.amt)
theorem rowsOf_snoc (slot : Int) (L : List Acc) (p : Acc) : rowsOf slot (L ++ [p]) = if inSlot slot p = true then rowsOf slot L ++ [(p.nm, p.amt)] else rowsOf slot L := by
  unfold rowsOf
  rw [List.filter_append]
  by_cases h : inSlot slot p = true
  · rw [if_pos h]; simp [h]
  · rw [if_neg h]; simp [h]
theorem rowsOf_len (slot : Int) (L : List Acc) : (rowsOf slot L).length ≤ L.length := by
  unfold rowsOf
  rw [List.length_map]
  exact List.length_filter_le _ _
theorem info_row : (Tryd.prog.info? 31).map (fun i => (i.zero, i.size, i.bytes)) = some (some (.agg #[.string ⟨#[]⟩, .int .i64 0]), 2, 24) := by kernel_rfl
theorem row_boxR {w : World} {b n g : Nat} {v : Value} {xs : List Value} {cs : Array Value} {t : TypeId} (ht : t ≠ 31) (h : w.ownsRow b 31 2 v n xs) (e : v.ownBlock = some g) (hb : w.heap[g]? = some (.cells cs t (0, 0))) : False := by
  obtain ⟨_, _, cur, h3⟩ := row_kind h e
  rw [hb] at h3
  injection h3 with h3
  injection h3 with _ h3
  exact ht h3
/-- What lies in memory while Rows goes through the accounts. -/
structure RowsI (w : World) (S : Nat) (slot : Int) (W : World) (l : List RowB) (a : Option Addr) (c : Nat) : Prop where
  bel : Below S w W
  bx : W.heap[S]? = some (.cells #[.int .i64 slot] 3 (0, 0))
  rv : W.heap[S + 1]? = some (.cells #[.slice a l.length c] 27 (0, 0))
  row : W.ownsRow S 31 2 (.slice a l.length c) l.length (cells2 l)
theorem RowsI.below {w W W' : World} {S : Nat} {slot : Int} {l : List RowB} {a : Option Addr} {c : Nat} (h : RowsI w S slot W l a c) (b : Below W.heap.size W W') : RowsI w S slot W' l a c :=
  ⟨h.bel.trans (b.mono (Nat.le_of_lt (Array.getElem?_eq_some_iff.1 h.bx).1)), (b.block _ (Array.getElem?_eq_some_iff.1 h.bx).1).trans h.bx, (b.block _ (Array.getElem?_eq_some_iff.1 h.rv).1).trans h.rv, owns_kept h.row (fun g e => b.block g (row_kind h.row e).2.1)⟩
/-- One row more. -/
theorem RowsI.more {w W : World} {S : Nat} {slot : Int} {l : List RowB} {a : Option Addr} {c : Nat} (h : RowsI w S slot W l a c) (hl : l.length ≤ 1000) (r : RowB) (hS : S ≤ w.heap.size) :
    ∃ a' c' W', (Builtin.append_ #[27, 27] 27 #[.slice a l.length c, .slice (some ⟨W.heap.size, 0, none⟩) 1 1]).run Tryd.prog (W.alloc (.cells #[.string r.1, .int .i64 r.2] 31)) = .ok (.slice a' (l.length + 1) c') W' ∧ W'.cell? ⟨S + 1, 0, none⟩ = some (.slice a l.length c) ∧ W'.frozen? ⟨S + 1, 0, none⟩ = false ∧ RowsI w S slot (W'.setCell ⟨S + 1, 0, none⟩ (.slice a' (l.length + 1) c')) (l ++ [r]) a' c' := by
  have h1 : RowsI w S slot (W.alloc (.cells #[.string r.1, .int .i64 r.2] 31)) l a c := h.below ((Below.refl _ W).alloc (Nat.le_refl _) _)
  have hnew := heap_alloc_new W (.cells #[.string r.1, .int .i64 r.2] 31)
  generalize W.alloc (.cells #[.string r.1, .int .i64 r.2] 31) = W1 at h1 hnew ⊢
  obtain ⟨i0, hi, hz0, hz1, hz2⟩ := info_parts info_row
  obtain ⟨v', W', hr, q1, q2, _, _⟩ := run_append_own_at (P := Tryd.prog) W1 S 27 27 31 i0 (.agg #[.string ⟨#[]⟩, .int .i64 0]) 2 24 Tryd.underlying27 hi hz0 hz1 hz2 rfl (by omega) (.slice a l.length c) l.length (cells2 l) h1.row ⟨W.heap.size, 0, none⟩ 1 1 (cells2 [r]) rfl (fun j v hj => by
    rw [Addr.add_lit, Nat.zero_add]
    simp only [World.cell?, hnew]
    simpa [cells2] using hj) (one2 [r]) (by unfold maxLen; omega) (by omega) (by have := (Array.getElem?_eq_some_iff.1 h1.bx).1; omega)
  obtain ⟨a', c', e', _⟩ := row_form q1
  subst e'
  have hb : ∀ k, k < W1.heap.size → (Value.slice a l.length c).ownBlock ≠ some k → W'.heap[k]? = W1.heap[k]? := fun k hk hn => q2.block k hk (fun e => hn e.symm)
  have k1 : W'.heap[S + 1]? = some (.cells #[.slice a l.length c] 27 (0, 0)) := (hb _ (Array.getElem?_eq_some_iff.1 h1.rv).1 (fun e => row_boxR (by decide) h1.row e h1.rv)).trans h1.rv
  have k0 : W'.heap[S]? = some (.cells #[.int .i64 slot] 3 (0, 0)) := (hb _ (Array.getElem?_eq_some_iff.1 h1.bx).1 (fun e => row_boxR (by decide) h1.row e h1.bx)).trans h1.bx
  refine ⟨a', c', W', hr, by simp [World.cell?, k1], by simp [World.frozen?, k1], ?_⟩
  have el : (l ++ [r]).length = l.length + 1 := by simp
  have e := setCell_eq_setRow W' (S + 1) 0 _ _ _ (.slice a' (l.length + 1) c') k1
  refine ⟨?_, ?_, ?_, ?_⟩
  · exact Below.setCell (h1.bel.grown q2 (Nat.le_of_lt (Array.getElem?_eq_some_iff.1 h1.bx).1) (fun k e => (row_kind h1.row e).1)) (Nat.le_succ S) _
  · rw [e, setRow_other _ _ _ _ (by omega)]
    exact k0
  · rw [el]
    exact set_of3 k1
  · rw [el, e, cells2_append]
    exact owns_kept q1 (fun g q => setRow_other _ _ _ _ (fun z => by subst z; exact row_boxR (by decide) q1 q k1))
set_option maxRecDepth 100000 in
set_option maxHeartbeats 2000000 in
theorem rows1_any {w0 : World} {S : Nat} {slot : Int} {w : World} {l : List RowB} {a : Option Addr} {c : Nat} (h : RowsI w0 S slot w l a c) (hS : S ≤ w0.heap.size) (hT : Tabs w) (p : Acc) (hn : p.nm.size ≤ 24) (hl : l.length ≤ 1000) :
    Calls Tryd.prog 13 #[.agg #[.string p.nm, .int .i64 p.amt, .string p.by_], .pointer (some ⟨S, 0, none⟩), .pointer (some ⟨S + 1, 0, none⟩)] w fun e w' => e = .returned (.tuple #[]) ∧ ∃ a' c', RowsI w0 S slot w' (if inSlot slot p = true then l ++ [(p.nm, p.amt)] else l) a' c' := by
  obtain ⟨nm, amt, by_⟩ := p
  simp only at hn ⊢
  obtain ⟨w1, ew1⟩ : ∃ w1, w1 = w.alloc (.cells #[.string nm, .int .i64 amt, .string by_] 42) := ⟨_, rfl⟩
  have b1 : Below w.heap.size w w1 := by rw [ew1]; exact (Below.refl _ w).alloc (Nat.le_refl _) _
  have h1 := h.below b1
  have H1 : Hid (RowsI w0 S slot w1 l a c) := h1
  have k0 : w1.cell? ⟨S, 0, none⟩ = some (.int .i64 slot) := by simp [World.cell?, h1.bx]
  have r0 : w1.cell? ⟨w.heap.size, 0, none⟩ = some (.string nm) := by rw [ew1, World.cell?_alloc_mark]; rfl
  have r1 : w1.cell? ⟨w.heap.size, 1, none⟩ = some (.int .i64 amt) := by rw [ew1, World.cell?_alloc_mark]; rfl
  have r2 : w1.cell? ⟨w.heap.size, 2, none⟩ = some (.string by_) := by rw [ew1, World.cell?_alloc_mark]; rfl
  have hz : w.heap.size < w1.heap.size := by rw [ew1]; simp
  have HC := accSlot_any nm by_ amt w1.drew ((hT.below b1 hT.size).below (Below.refl _ _).drew (hT.below b1 hT.size).size) (by unfold maxLen; omega)
  -- the tail: one row more
  have TAIL : ∀ W, Below w1.heap.size w1 W → ∃ a' c' W', W.cell? ⟨S + 1, 0, none⟩ = some (.slice a l.length c) ∧ W.cell? ⟨w.heap.size, 0, none⟩ = some (.string nm) ∧ W.cell? ⟨w.heap.size, 1, none⟩ = some (.int .i64 amt) ∧ (Builtin.append_ #[27, 27] 27 #[.slice a l.length c, .slice (some ⟨W.heap.size, 0, none⟩) 1 1]).run Tryd.prog (W.alloc (.cells #[.string nm, .int .i64 amt] 31)) = .ok (.slice a' (l.length + 1) c') W' ∧ W'.cell? ⟨S + 1, 0, none⟩ = some (.slice a l.length c) ∧ W'.frozen? ⟨S + 1, 0, none⟩ = false ∧ RowsI w0 S slot (W'.setCell ⟨S + 1, 0, none⟩ (.slice a' (l.length + 1) c')) (l ++ [(nm, amt)]) a' c' := fun W b => by
    have hW := H1.out.below b
    obtain ⟨a', c', W', q1, q2, q3, q4⟩ := hW.more hl (nm, amt) hS
    exact ⟨a', c', W', by simp [World.cell?, hW.rv], (b.cell (p := ⟨w.heap.size, 0, none⟩) hz).trans r0, (b.cell (p := ⟨w.heap.size, 1, none⟩) hz).trans r1, q1, q2, q3, q4⟩
  have HTL : Hid _ := TAIL
  clear TAIL h h1 hT b1 hn
  by_cases e1 : slot = -1
  · subst e1
    rw [if_pos (by simp [inSlot])]
    go_enter Tryd.func13, Tryd.ntmps13
    go_wp2
    rw [← ew1]
    clear ew1
    go_quiet (fail)
    obtain ⟨a', c', W', q0, q1, q2, q3, q4, q5, q6⟩ := HTL.out (w1.drewN nq) (below_drewN' (Below.refl _ w1) nq)
    have Q3 : Hid _ := q3
    have Q6 : Hid (RowsI w0 S (-1) (W'.setCell ⟨S + 1, 0, none⟩ (.slice a' (l.length + 1) c')) (l ++ [(nm, amt)]) a' c') := q6
    generalize w1.drewN nq = W at *
    clear q3 q6 HTL HC r0 r1 r2
    go_wp2_with (at_builtin; refine wpList_append_known rfl _ _ 27 27 rfl _ _ rfl rfl _ _ Q3.out ?_)
    exact bodyPost_end (results_none rfl _ _ _) rfl ⟨rfl, a', c', Q6.out⟩
  · have e1b : (slot == -1) = false := by simpa using e1
    obtain ⟨s, es⟩ : ∃ s, slotOf nm = s := ⟨_, rfl⟩
    have hin : inSlot slot ⟨nm, amt, by_⟩ = decide (slot = s) := by simp [inSlot, e1, es]
    rw [hin]
    rw [es] at HC
    by_cases e2 : slot = s
    · subst e2
      rw [if_pos (by simp)]
      clear hin es
      go_enter Tryd.func13, Tryd.ntmps13
      go_wp2
      rw [← ew1]
      clear ew1
      go_region_law (go_simp; go_at_call 14; refine HC.mono ?_; rintro e w2 ⟨rfl, b2⟩; have b2' : Below w1.heap.size w1 w2 := ⟨b2.os, b2.tape, b2.output, b2.size, b2.block⟩; have k2 : w2.cell? ⟨S, 0, none⟩ = some (.int .i64 slot) := (b2'.cell (p := ⟨S, 0, none⟩) (World.block_lt_of_cell? w1 _ k0)).trans k0)
      all_goals
        obtain ⟨a', c', W', q0, q1, q2, q3, q4, q5, q6⟩ := HTL.out w2 b2'
        have Q3 : Hid _ := q3
        have Q6 : Hid (RowsI w0 S slot (W'.setCell ⟨S + 1, 0, none⟩ (.slice a' (l.length + 1) c')) (l ++ [(nm, amt)]) a' c') := q6
        clear q3 q6 HTL HC r0 r1 r2 b2 b2'
        go_wp2_with (at_builtin; refine wpList_append_known rfl _ _ 27 27 rfl _ _ rfl rfl _ _ Q3.out ?_)
        exact bodyPost_end (results_none rfl _ _ _) rfl ⟨rfl, a', c', Q6.out⟩
    · rw [if_neg (by simpa using e2)]
      have e2b : (slot == s) = false := by simpa using e2
      clear hin es HTL
      go_enter Tryd.func13, Tryd.ntmps13
      go_wp2
      rw [← ew1]
      clear ew1
      go_region_law (go_simp; go_at_call 14; refine HC.mono ?_; rintro e w2 ⟨rfl, b2⟩; have b2' : Below w1.heap.size w1 w2 := ⟨b2.os, b2.tape, b2.output, b2.size, b2.block⟩; have k2 : w2.cell? ⟨S, 0, none⟩ = some (.int .i64 slot) := (b2'.cell (p := ⟨S, 0, none⟩) (World.block_lt_of_cell? w1 _ k0)).trans k0)
      all_goals
        have Q6 := H1.out.below b2'
        clear HC r0 r1 r2 b2 b2'
        go_wp2
        exact bodyPost_end (results_none rfl _ _ _) rfl ⟨rfl, a, c, Q6⟩
set_option maxRecDepth 100000 in
theorem rows_any {w : World} {base N : Nat} {sv : Value} {L : List Acc} (h : BookIn w base N sv L) (hT : Tabs w) (slot : Int) : Calls Tryd.prog 6 #[.pointer (some ⟨N, 0, none⟩), .int .i64 slot] w fun e w' => ∃ a c, e = .returned (.slice a (rowsOf slot L).length c) ∧ w'.ownsRow w.heap.size 31 2 (.slice a (rowsOf slot L).length c) (rowsOf slot L).length (cells2 (rowsOf slot L)) ∧ Below w.heap.size w w' := by
  obtain ⟨w1, ew1⟩ : ∃ w1, w1 = (w.alloc (.cells #[.int .i64 slot] 3)).alloc (.cells #[.slice none 0 0] 27) := ⟨_, rfl⟩
  have b1 : Below w.heap.size w w1 := by rw [ew1]; exact ((Below.refl _ w).alloc (Nat.le_refl _) _).alloc (by simp) _
  have hl := h.fit.len
  have hR : RowsI w w.heap.size slot w1 (rowsOf slot (L.take 0)) none 0 := by
    refine ⟨b1, ?_, ?_, World.ownsRow_nil _ _ _ _⟩
    · rw [ew1, Below.heap_alloc _ _ _ (by simp)]
      exact heap_alloc_new w _
    · rw [ew1]
      have := heap_alloc_new (w.alloc (.cells #[.int .i64 slot] 3)) (.cells #[.slice none 0 0] 27)
      simpa [rowsOf] using this
  have HE := each_two (h.below b1) 13 (.pointer (some ⟨w.heap.size, 0, none⟩)) (.pointer (some ⟨w.heap.size + 1, 0, none⟩)) (fun args w => by kernel_rfl)
    (fun k W => ∃ a c, RowsI w w.heap.size slot W (rowsOf slot (L.take k)) a c)
    ⟨none, 0, hR⟩
    (fun k W hI => by
      obtain ⟨a, c, hI⟩ := hI
      exact ⟨(hI.bel.block N h.ltN).trans (b1.block N h.ltN).symm, fun g e => by
        have := (row_kind h.row e).2.1
        exact (hI.bel.block g this).trans (b1.block g this).symm⟩)
    (fun k hk W hI => by
      obtain ⟨a, c, hI⟩ := hI
      have bA : Below W.heap.size W (W.alloc (.cells #[.string L[k].nm, .int .i64 L[k].amt, .string L[k].by_] 42)) := (Below.refl _ W).alloc (Nat.le_refl _) _
      have hTW : Tabs W := hT.below hI.bel hT.size
      have hle := rowsOf_len slot (L.take k)
      rw [List.length_take] at hle
      refine (rows1_any (hI.below bA) (Nat.le_refl _) (hTW.below bA hTW.size) L[k] (h.fit.acc (List.getElem_mem hk)).1 (by omega)).mono ?_
      rintro e W' ⟨rfl, a', c', q⟩
      refine ⟨rfl, a', c', ?_⟩
      rw [List.take_succ_eq_append_getElem hk, rowsOf_snoc]
      exact q)
  rw [List.take_length] at HE
  rw [ew1] at HE
  clear h hl hR b1 ew1 hT
  go_enter Tryd.func6, Tryd.ntmps6
  go_wp2_with fail
  refine HE.mono ?_
  rintro e w2 ⟨rfl, a2, c2, h2⟩
  have k2 : w2.cell? ⟨w.heap.size + 1, 0, none⟩ = some (.slice a2 (rowsOf slot L).length c2) := by simp [World.cell?, h2.rv]
  have H2 : Hid (RowsI w w.heap.size slot w2 (rowsOf slot L) a2 c2) := h2
  clear HE h2
  go_wp2
  go_ret
  exact ⟨a2, c2, rfl, H2.out.row, H2.out.bel⟩
end Go.Proofs.YtabhgdmmljhpcabDoor
