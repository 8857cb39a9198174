/- The law's given: a letter as the program has it, its lists in memory of their own. -/
import Derived.Test.YtaakdnbaljoehaaKAllA
import Derived.Test.YtaakdnbaljoehaaGetReply
namespace Go.Proofs.Ytaakdnbaljoehaa
open Go.RowKit Cod
attribute [local go_sem] Oper.semAt_some
set_option linter.unusedVariables false

theorem infoRow : (Try.prog.info? 59).map (fun i => (i.zero, i.size, i.bytes)) = some (some (.agg #[.string ⟨#[]⟩, .int .i64 0]), 2, 24) := by kernel_rfl
theorem rowCells_length (A : List (ByteArray × Int)) : (rowCells A).length = A.length * 2 := by
  induction A with
  | nil => rfl
  | cons r rest ih => simp only [rowCells, List.flatMap_cons, List.length_append, List.length_cons, List.length_nil] at ih ⊢; omega
theorem rowCells_one (A : List (ByteArray × Int)) : ∀ u ∈ rowCells A, u.oneCell' = true := by
  intro u hu
  simp only [rowCells, List.mem_flatMap, List.mem_cons, List.not_mem_nil, or_false] at hu
  obtain ⟨r, _, rfl | rfl⟩ := hu <;> rfl
theorem rows_news {w : World} {aa : Option Addr} {la : Nat} {A : List (ByteArray × Int)} (hA : RowsAt w aa la A) (x : Addr) (hx : aa = some x) : ∀ j u, (rowCells A)[j]? = some u → w.cell? (x.add j) = some u := by
  obtain ⟨h1, h2, h3⟩ := hA
  intro j u hj
  have hj' : j < A.length * 2 := by have := (List.getElem?_eq_some_iff.1 hj).1; rwa [rowCells_length] at this
  rcases h3 with h3 | ⟨b, off, rfl, hc⟩
  · omega
  · cases hx
    rw [Addr.add_lit]
    obtain ⟨c1, c2⟩ := hc (j / 2) (by omega)
    obtain ⟨e1, e2⟩ := rowCells_get A (j / 2) (by omega)
    rcases (by omega : j = j / 2 * 2 ∨ j = j / 2 * 2 + 1) with e | e
    · rw [e] at hj ⊢
      rw [e1] at hj
      cases hj
      exact c1
    · rw [e] at hj ⊢
      rw [e2] at hj
      cases hj
      exact c2
/-- append(nil, rows...) -/
theorem run_append_rows (w : World) (aa : Option Addr) (la ca : Nat) (A : List (ByteArray × Int)) (hA : RowsAt w aa la A) (hnil : aa = none → ca = 0) (hb : la * 24 ≤ 140737488355328) :
    ∃ v' w', (Builtin.append_ #[26, 26] 26 #[.slice none 0 0, .slice aa la ca]).run Try.prog w = .ok v' w' ∧ w'.ownsRow w.heap.size 59 2 v' la (rowCells A) ∧ Below w.heap.size w w' := by
  obtain ⟨i0, hi, hz0, hz1, hz2⟩ := info_parts infoRow
  have h0 : w.ownsRow w.heap.size 59 2 (.slice none 0 0) 0 [] := World.ownsRow_nil _ _ _ _
  cases aa with
  | none =>
    have hla : la = 0 := by
      rcases hA.2.2 with h3 | ⟨b, off, h, _⟩
      · exact h3
      · cases h
    subst hla
    have hAn : A = [] := List.eq_nil_of_length_eq_zero hA.1.symm
    subst hAn
    rw [hnil rfl]
    have hr := run_append_owned_none (P := Try.prog) (w := w) w.heap.size 26 26 59 i0 2 Try.underlying26 hi _ 0 _ h0
    exact ⟨_, w, hr, h0, Below.refl _ _⟩
  | some x =>
    obtain ⟨v', w', hr, h1, h2, _⟩ := run_append_own (P := Try.prog) w w.heap.size 26 26 59 i0 _ 2 24 Try.underlying26 hi hz0 hz1 hz2 rfl (by omega) (.slice none 0 0) 0 [] h0 x la ca (rowCells A) (by rw [rowCells_length, hA.1]) (rows_news hA x rfl) (rowCells_one A) (by unfold maxLen; omega) (by omega) (Nat.le_refl _)
    refine ⟨v', w', hr, by simpa using h1, (Below.refl _ w).grown h2 (Nat.le_refl _) (fun k e => by cases e)⟩
theorem ownsK {w w' : World} {base : Nat} {v : Value} {n : Nat} {xs : List Value} {t : TypeId} {s : Nat} (h : w.ownsRow base t s v n xs) (k : ∀ g, v.ownBlock = some g → w'.heap[g]? = w.heap[g]?) : w'.ownsRow base t s v n xs := by
  refine ⟨h.1, h.2.imp id ?_⟩
  rintro ⟨g, cap, cur, rfl, hb, hg, hr⟩
  exact ⟨g, cap, cur, rfl, hb, (k g rfl).trans hg, hr⟩
theorem ownsB {w w' : World} {base : Nat} {v : Value} {n : Nat} {xs : List Value} {t : TypeId} {s : Nat} (h : w.ownsRow base t s v n xs) (b : Below w.heap.size w w') : w'.ownsRow base t s v n xs :=
  ownsK h fun g hg => b.block g (h.lt _ hg).2
/-- A letter whose lists lie in memory of their own. -/
structure LetOwn (w : World) (base : Nat) (d : LetD) (ra : Option Addr) (rc : Nat) (ba : Option Addr) (bc : Nat) : Prop where
  rows : w.ownsRow base 59 2 (.slice ra d.rows.length rc) d.rows.length (rowCells d.rows)
  body : w.ownsRow base 5 1 (.slice ba d.body.length bc) d.body.length (cellsOf d.body)
theorem LetOwn.at_ {w : World} {base : Nat} {d : LetD} {ra : Option Addr} {rc : Nat} {ba : Option Addr} {bc : Nat} (h : LetOwn w base d ra rc ba bc) (hr : d.rows.length ≤ 140737488355328) (hb : d.body.length ≤ maxLen) : LetAt w d ra rc ba bc := by
  obtain ⟨a, c, e, hs, hn, _⟩ := owned_seen h.body hb
  injection e with e1 e2 e3
  subst e1
  subst e3
  exact ⟨rows_owned h.rows rfl hr, hs, hn⟩
set_option maxRecDepth 100000 in
set_option maxHeartbeats 1600000 in
theorem given_any (d : LetD) (ra : Option Addr) (rc : Nat) (ba : Option Addr) (bc : Nat) (w : World) (h : LetAt w d ra rc ba bc) (hrn : ra = none → rc = 0) (hr : d.rows.length * 24 ≤ 140737488355328) (hb : d.body.length ≤ 140737488355328) :
    Calls Try.prog 16 #[.agg (d.v ra rc ba bc).cells] w fun e w' => ∃ ra' rc' ba' bc', e = .returned (.agg (d.v ra' rc' ba' bc').cells) ∧ LetOwn w' w.heap.size d ra' rc' ba' bc' ∧ Below w.heap.size w w' := by
  obtain ⟨kind, n, group, ⟨ok, os, od, oa, oy, ol, oh⟩, why, amount, rows, body⟩ := d
  simp only at hr hb
  show Calls Try.prog 16 #[.agg #[.int .i64 kind, .int .i64 n, .int .i64 group, .int .i64 ok, .string os, .string od, .int .i64 oa, .string oy, .int .i64 ol, .int .i64 oh, .int .i64 why, .int .i64 amount, .slice ra rows.length rc, .slice ba body.length bc]] w _
  generalize hw3 : ((w.alloc (.cells #[.int .i64 kind, .int .i64 n, .int .i64 group, .int .i64 ok, .string os, .string od, .int .i64 oa, .string oy, .int .i64 ol, .int .i64 oh, .int .i64 why, .int .i64 amount, .slice ra rows.length rc, .slice ba body.length bc] 43)).alloc (.cells #[.int .i64 0, .int .i64 0, .int .i64 0, .int .i64 0, .string ⟨#[]⟩, .string ⟨#[]⟩, .int .i64 0, .string ⟨#[]⟩, .int .i64 0, .int .i64 0, .int .i64 0, .int .i64 0, .slice none 0 0, .slice none 0 0] 46)).alloc (.cells #[.int .i64 kind, .int .i64 n, .int .i64 group, .int .i64 ok, .string os, .string od, .int .i64 oa, .string oy, .int .i64 ol, .int .i64 oh, .int .i64 why, .int .i64 amount, .slice none 0 0, .slice none 0 0] 46) = w3
  have b3 : Below w.heap.size w w3 := by rw [← hw3]; exact (below_two w _ _).alloc (by simp; omega) _
  have g0 : w3.heap[w.heap.size]? = some (.cells #[.int .i64 kind, .int .i64 n, .int .i64 group, .int .i64 ok, .string os, .string od, .int .i64 oa, .string oy, .int .i64 ol, .int .i64 oh, .int .i64 why, .int .i64 amount, .slice ra rows.length rc, .slice ba body.length bc] 43 (0, 0)) := by
    rw [← hw3]
    exact ((((Below.refl _ (w.alloc (.cells #[.int .i64 kind, .int .i64 n, .int .i64 group, .int .i64 ok, .string os, .string od, .int .i64 oa, .string oy, .int .i64 ol, .int .i64 oh, .int .i64 why, .int .i64 amount, .slice ra rows.length rc, .slice ba body.length bc] 43))).alloc (Nat.le_refl _) (.cells #[.int .i64 0, .int .i64 0, .int .i64 0, .int .i64 0, .string ⟨#[]⟩, .string ⟨#[]⟩, .int .i64 0, .string ⟨#[]⟩, .int .i64 0, .int .i64 0, .int .i64 0, .int .i64 0, .slice none 0 0, .slice none 0 0] 46)).alloc (by simp) _).block w.heap.size (by simp)).trans (heap_alloc_new w _)
  have g1 : w3.heap[w.heap.size + 1]? = some (.cells #[.int .i64 0, .int .i64 0, .int .i64 0, .int .i64 0, .string ⟨#[]⟩, .string ⟨#[]⟩, .int .i64 0, .string ⟨#[]⟩, .int .i64 0, .int .i64 0, .int .i64 0, .int .i64 0, .slice none 0 0, .slice none 0 0] 46 (0, 0)) := by
    rw [← hw3]
    exact (((Below.refl _ ((w.alloc (.cells #[.int .i64 kind, .int .i64 n, .int .i64 group, .int .i64 ok, .string os, .string od, .int .i64 oa, .string oy, .int .i64 ol, .int .i64 oh, .int .i64 why, .int .i64 amount, .slice ra rows.length rc, .slice ba body.length bc] 43)).alloc (.cells #[.int .i64 0, .int .i64 0, .int .i64 0, .int .i64 0, .string ⟨#[]⟩, .string ⟨#[]⟩, .int .i64 0, .string ⟨#[]⟩, .int .i64 0, .int .i64 0, .int .i64 0, .int .i64 0, .slice none 0 0, .slice none 0 0] 46))).alloc (Nat.le_refl _) _).block (w.heap.size + 1) (by simp)).trans (heapTwo w _ _)
  have g2 : w3.heap[w.heap.size + 1 + 1]? = some (.cells #[.int .i64 kind, .int .i64 n, .int .i64 group, .int .i64 ok, .string os, .string od, .int .i64 oa, .string oy, .int .i64 ol, .int .i64 oh, .int .i64 why, .int .i64 amount, .slice none 0 0, .slice none 0 0] 46 (0, 0)) := by
    have := heap_alloc_new ((w.alloc (.cells #[.int .i64 kind, .int .i64 n, .int .i64 group, .int .i64 ok, .string os, .string od, .int .i64 oa, .string oy, .int .i64 ol, .int .i64 oh, .int .i64 why, .int .i64 amount, .slice ra rows.length rc, .slice ba body.length bc] 43)).alloc (.cells #[.int .i64 0, .int .i64 0, .int .i64 0, .int .i64 0, .string ⟨#[]⟩, .string ⟨#[]⟩, .int .i64 0, .string ⟨#[]⟩, .int .i64 0, .int .i64 0, .int .i64 0, .int .i64 0, .slice none 0 0, .slice none 0 0] 46)) (.cells #[.int .i64 kind, .int .i64 n, .int .i64 group, .int .i64 ok, .string os, .string od, .int .i64 oa, .string oy, .int .i64 ol, .int .i64 oh, .int .i64 why, .int .i64 amount, .slice none 0 0, .slice none 0 0] 46)
    rw [hw3] at this
    simpa using this
  obtain ⟨v1, wA, r1, o1, bA⟩ := run_append_rows w3 ra rows.length rc rows (h.rows.below b3) hrn (by omega)
  have gA0 := (bA.block _ (Array.getElem?_eq_some_iff.1 g0).1).trans g0
  have gA1 := (bA.block _ (Array.getElem?_eq_some_iff.1 g1).1).trans g1
  have gA2 := (bA.block _ (Array.getElem?_eq_some_iff.1 g2).1).trans g2
  have cA12 : wA.cell? ⟨w.heap.size + 1 + 1, 12, none⟩ = some (.slice none 0 0) := by simp [World.cell?, gA2]
  have cA13 : wA.cell? ⟨w.heap.size + 1 + 1, 13, none⟩ = some (.slice none 0 0) := by simp [World.cell?, gA2]
  have cA0 : wA.cell? ⟨w.heap.size, 13, none⟩ = some (.slice ba body.length bc) := by simp [World.cell?, gA0]
  have fA : wA.frozen? ⟨w.heap.size + 1 + 1, 12, none⟩ = false := frozen_of_row _ _ _ _ _ gA2
  obtain ⟨ra', rc', rfl, _, _⟩ := row_form' o1
  have oR : ∀ {g : Nat}, (Value.slice ra' rows.length rc').ownBlock = some g → w.heap.size + 1 + 1 < g := fun {g} hg => by
    have h1 := (o1.lt _ hg).1
    have h2 := (Array.getElem?_eq_some_iff.1 g2).1
    omega
  have gB2 := heap_setCell_same wA (w.heap.size + 1 + 1) 12 _ 46 (.slice ra' rows.length rc') gA2
  have gB0 := (heap_setCell_other wA ⟨w.heap.size + 1 + 1, 12, none⟩ w.heap.size (.slice ra' rows.length rc') (by simp; omega)).trans gA0
  have gB1 := (heap_setCell_other wA ⟨w.heap.size + 1 + 1, 12, none⟩ (w.heap.size + 1) (.slice ra' rows.length rc') (by simp)).trans gA1
  have bB : Below w.heap.size w (wA.setCell ⟨w.heap.size + 1 + 1, 12, none⟩ (.slice ra' rows.length rc')) := (b3.trans (bA.mono b3.size)).setCell (by simp; omega) _
  have oB : (wA.setCell ⟨w.heap.size + 1 + 1, 12, none⟩ (.slice ra' rows.length rc')).ownsRow w.heap.size 59 2 (.slice ra' rows.length rc') rows.length (rowCells rows) :=
    owns_mono' (ownsK o1 (fun g hg => heap_setCell_other _ _ _ _ (by have := (o1.lt _ hg).1; have := (Array.getElem?_eq_some_iff.1 g2).1; simp; omega))) b3.size
  have cB13 : (wA.setCell ⟨w.heap.size + 1 + 1, 12, none⟩ (.slice ra' rows.length rc')).cell? ⟨w.heap.size + 1 + 1, 13, none⟩ = some (.slice none 0 0) := by simp [World.cell?, gB2]
  have cB0 : (wA.setCell ⟨w.heap.size + 1 + 1, 12, none⟩ (.slice ra' rows.length rc')).cell? ⟨w.heap.size, 13, none⟩ = some (.slice ba body.length bc) := by simp [World.cell?, gB0]
  generalize hwB : wA.setCell ⟨w.heap.size + 1 + 1, 12, none⟩ (.slice ra' rows.length rc') = wB at *
  obtain ⟨v2, wC, r2, o2, gr2⟩ := run_append_bytes 41 wB wB.heap.size (.slice none 0 0) 0 [] (owns_none _ _) ba body.length bc body (h.body.below bB) h.nil (by omega) (Nat.le_refl _)
  rw [Nat.zero_add, List.nil_append] at o2
  have bC : Below wB.heap.size wB wC := (Below.refl _ wB).grown gr2 (Nat.le_refl _) (fun k e => by cases e)
  obtain ⟨ba', bc', rfl, _, _⟩ := row_form' o2
  have gC1 := (bC.block _ (Array.getElem?_eq_some_iff.1 gB1).1).trans gB1
  have gC2 := (bC.block _ (Array.getElem?_eq_some_iff.1 gB2).1).trans gB2
  have lB2 := (Array.getElem?_eq_some_iff.1 gB2).1
  have cC13 : wC.cell? ⟨w.heap.size + 1 + 1, 13, none⟩ = some (.slice none 0 0) := by simp [World.cell?, gC2]
  have fC : wC.frozen? ⟨w.heap.size + 1 + 1, 13, none⟩ = false := frozen_of_row _ _ _ _ _ gC2
  have oC := ownsB oB bC
  have gD2 := heap_setCell_same wC (w.heap.size + 1 + 1) 13 _ 46 (.slice ba' body.length bc') gC2
  have gD1 := (heap_setCell_other wC ⟨w.heap.size + 1 + 1, 13, none⟩ (w.heap.size + 1) (.slice ba' body.length bc') (by simp)).trans gC1
  have bD : Below w.heap.size w (wC.setCell ⟨w.heap.size + 1 + 1, 13, none⟩ (.slice ba' body.length bc')) := (bB.trans (bC.mono bB.size)).setCell (by simp; omega) _
  have oD : (wC.setCell ⟨w.heap.size + 1 + 1, 13, none⟩ (.slice ba' body.length bc')).ownsRow w.heap.size 59 2 (.slice ra' rows.length rc') rows.length (rowCells rows) := ownsK oC (fun g hg => heap_setCell_other _ _ _ _ (by
    have h2 := oR hg
    simp; omega))
  have oE : (wC.setCell ⟨w.heap.size + 1 + 1, 13, none⟩ (.slice ba' body.length bc')).ownsRow w.heap.size 5 1 (.slice ba' body.length bc') body.length (cellsOf body) := owns_mono' (ownsK o2 (fun g hg => heap_setCell_other _ _ _ _ (by have := (o2.lt _ hg).1; simp; omega))) bB.size
  have hSZ : (Try.prog.info? 46).map (·.size) = some 14 := by kernel_rfl
  generalize hwD : wC.setCell ⟨w.heap.size + 1 + 1, 13, none⟩ (.slice ba' body.length bc') = wD at *
  have gD2' : wD.heap[w.heap.size + 1 + 1]? = some (.cells #[.int .i64 kind, .int .i64 n, .int .i64 group, .int .i64 ok, .string os, .string od, .int .i64 oa, .string oy, .int .i64 ol, .int .i64 oh, .int .i64 why, .int .i64 amount, .slice ra' rows.length rc', .slice ba' body.length bc'] 46 (0, 0)) := gD2
  have bE : Below w.heap.size w (wD.setRow (w.heap.size + 1) #[.int .i64 kind, .int .i64 n, .int .i64 group, .int .i64 ok, .string os, .string od, .int .i64 oa, .string oy, .int .i64 ol, .int .i64 oh, .int .i64 why, .int .i64 amount, .slice ra' rows.length rc', .slice ba' body.length bc']) := ⟨bD.os, bD.tape, bD.output, by simpa [World.setRow] using bD.size, fun k hk => (setRow_other _ _ _ _ (by omega)).trans (bD.block k hk)⟩
  have oF : (wD.setRow (w.heap.size + 1) #[.int .i64 kind, .int .i64 n, .int .i64 group, .int .i64 ok, .string os, .string od, .int .i64 oa, .string oy, .int .i64 ol, .int .i64 oh, .int .i64 why, .int .i64 amount, .slice ra' rows.length rc', .slice ba' body.length bc']).ownsRow w.heap.size 59 2 (.slice ra' rows.length rc') rows.length (rowCells rows) := ownsK oD (fun g hg => setRow_other _ _ _ _ (by have := oR hg; omega))
  have oG : (wD.setRow (w.heap.size + 1) #[.int .i64 kind, .int .i64 n, .int .i64 group, .int .i64 ok, .string os, .string od, .int .i64 oa, .string oy, .int .i64 ol, .int .i64 oh, .int .i64 why, .int .i64 amount, .slice ra' rows.length rc', .slice ba' body.length bc']).ownsRow w.heap.size 5 1 (.slice ba' body.length bc') body.length (cellsOf body) := ownsK oE (fun g hg => setRow_other _ _ _ _ (by have := (o2.lt _ hg).1; omega))
  have gE := setRow_heap wD (w.heap.size + 1) _ #[.int .i64 kind, .int .i64 n, .int .i64 group, .int .i64 ok, .string os, .string od, .int .i64 oa, .string oy, .int .i64 ol, .int .i64 oh, .int .i64 why, .int .i64 amount, .slice ra' rows.length rc', .slice ba' body.length bc'] _ _ gD1
  have HE : Hid _ := gE
  have HW3 : Hid (_ = w3) := hw3
  have HWB : Hid (_ = wB) := hwB
  have HWD : Hid (_ = wD) := hwD
  have R1 : Hid _ := r1
  have R2 : Hid _ := r2
  have G1 : Hid _ := gD1
  have G2 : Hid _ := gD2'
  have c12 : w3.cell? ⟨w.heap.size + 1 + 1, 12, none⟩ = some (.slice none 0 0) := by simp [World.cell?, g2]
  have c0 : w3.cell? ⟨w.heap.size, 12, none⟩ = some (.slice ra rows.length rc) := by simp [World.cell?, g0]
  have E1 : Hid (LetOwn (wD.setRow (w.heap.size + 1) #[.int .i64 kind, .int .i64 n, .int .i64 group, .int .i64 ok, .string os, .string od, .int .i64 oa, .string oy, .int .i64 ol, .int .i64 oh, .int .i64 why, .int .i64 amount, .slice ra' rows.length rc', .slice ba' body.length bc']) w.heap.size ⟨kind, n, group, ⟨ok, os, od, oa, oy, ol, oh⟩, why, amount, rows, body⟩ ra' rc' ba' bc') := ⟨oF, oG⟩
  have BE : Hid _ := bE
  clear hw3 hwB hwD r1 r2 gD1 gD2 gD2' gE b3 g0 g1 g2 o1 bA gA0 gA1 gA2 gB0 gB1 gB2 gC1 gC2 bB bC bD bE oB oC oD oE oF oG o2 gr2 h hrn hr hb lB2 hSZ oR
  go_enter Try.func16, Try.ntmps16
  go_wp2_with (first
    | (at_builtin; first
      | (rw [HW3.out]; refine wpList_append_known rfl (.tmp 22) (.tmp 25) 26 26 rfl _ _ rfl rfl _ _ R1.out ?_)
      | (rw [HWB.out]; refine wpList_append_known rfl (.tmp 30) (.tmp 32) 41 41 rfl _ _ rfl rfl _ _ R2.out ?_))
    | (rw [HWD.out]; refine wpList_load_row rfl 46 (.tmp 3) rfl (w.heap.size + 1 + 1) rfl 46 #[.int .i64 kind, .int .i64 n, .int .i64 group, .int .i64 ok, .string os, .string od, .int .i64 oa, .string oy, .int .i64 ol, .int .i64 oh, .int .i64 why, .int .i64 amount, .slice ra' rows.length rc', .slice ba' body.length bc'] (0, 0) _ G2.out Try.underlying46 rfl (by kernel_rfl) ?_)
    | (refine wpList_store_row rfl 46 (.tmp 2) (.tmp 35) rfl (w.heap.size + 1) #[.int .i64 kind, .int .i64 n, .int .i64 group, .int .i64 ok, .string os, .string od, .int .i64 oa, .string oy, .int .i64 ol, .int .i64 oh, .int .i64 why, .int .i64 amount, .slice ra' rows.length rc', .slice ba' body.length bc'] rfl rfl 46 _ G1.out (by kernel_rfl) rfl (by simp [Value.oneCell']) ?_))
  exact bodyPost_ret (results_cell_row rfl _ _ (w.heap.size + 1) 46 _ (0, 0) _ rfl HE.out Try.underlying46 rfl (by kernel_rfl)) rfl ⟨ra', rc', ba', bc', rfl, E1.out, BE.out⟩
end Go.Proofs.Ytaakdnbaljoehaa
