/- The reference's desk in memory; Begin. -/
import Derived.Test.YtaakdnbaljoehaaKAllF
namespace Go.Proofs.Ytaakdnbaljoehaa
open Go.RowKit Cod
attribute [local go_sem] Oper.semAt_some
set_option linter.unusedVariables false

def CallV.rcells (c : CallV) : List Value := [.int .i64 c.op.kind, .string c.op.src, .string c.op.dst, .int .i64 c.op.amount, .string c.op.key, .int .i64 c.op.slot, .int .i64 c.op.shard, .int .i64 c.why, .int .i64 c.amount, .slice c.ra c.rows.length c.rc, .bool c.heard]
theorem CallV.rcells11 (c : CallV) : c.rcells.length = 11 := rfl
/-- A desk lies in memory. -/
structure RDeskIn (w : World) (base P : Nat) (L : List CallV) : Prop where
  ex : ∃ v, w.heap[P]? = some (.cells #[v] 55 (0, 0)) ∧ w.ownsRow base 85 11 v L.length (flat CallV.rcells L)
  rows : ∀ c ∈ L, w.ownsRow base 59 2 (.slice c.ra c.rows.length c.rc) c.rows.length (rowCells c.rows)
  pb : base ≤ P
  few : L.length ≤ 2000
theorem RDeskIn.keep {ts : List TypeId} {w w' : World} {base P : Nat} {L : List CallV} (h : RDeskIn w base P L) (k : OnlyT ts w w') (h1 : 55 ∉ ts) (h2 : 85 ∉ ts) (h3 : 59 ∉ ts) : RDeskIn w' base P L := by
  obtain ⟨v, hv, ho⟩ := h.ex
  exact ⟨⟨v, k _ _ _ _ hv h1, ownsT ho k h2⟩, fun c hc => ownsT (h.rows c hc) k h3, h.pb, h.few⟩
theorem RDeskIn.below {w w' : World} {base P : Nat} {L : List CallV} (h : RDeskIn w base P L) (b : Below w.heap.size w w') : RDeskIn w' base P L := h.keep (ts := []) (OnlyT.below b) (by simp) (by simp) (by simp)
theorem RDeskIn.lt {w : World} {base P : Nat} {L : List CallV} (h : RDeskIn w base P L) : P < w.heap.size := by
  obtain ⟨v, hv, _⟩ := h.ex
  exact (Array.getElem?_eq_some_iff.1 hv).1
theorem infoRCall : (Try.prog.info? 85).map (fun i => (i.zero, i.size, i.bytes)) = some (some (.agg #[.int .i64 0, .string ⟨#[]⟩, .string ⟨#[]⟩, .int .i64 0, .string ⟨#[]⟩, .int .i64 0, .int .i64 0, .int .i64 0, .int .i64 0, .slice none 0 0, .bool false]), 11, 128) := by kernel_rfl
theorem one_rcall (c : CallV) : ∀ u ∈ c.rcells, u.oneCell' = true := fun u hu => by
  simp only [CallV.rcells, List.mem_cons, List.not_mem_nil, or_false] at hu
  rcases hu with rfl | rfl | rfl | rfl | rfl | rfl | rfl | rfl | rfl | rfl | rfl <;> rfl
/-- append(v, c) -/
theorem run_append_rcall (w : World) (base : Nat) (v : Value) (L : List CallV) (hown : w.ownsRow base 85 11 v L.length (flat CallV.rcells L)) (c : CallV) (hb : L.length ≤ 2000) (hbase : base ≤ w.heap.size) :
    ∃ v' w', (Builtin.append_ #[53, 53] 53 #[v, .slice (some ⟨w.heap.size, 0, none⟩) 1 1]).run Try.prog (w.alloc (.cells c.rcells.toArray 85)) = .ok v' w' ∧ w'.ownsRow base 85 11 v' (L ++ [c]).length (flat CallV.rcells (L ++ [c])) ∧ (w.alloc (.cells c.rcells.toArray 85)).grownBy w' v.ownBlock := by
  obtain ⟨i0, hi, hz0, hz1, hz2⟩ := info_parts infoRCall
  obtain ⟨v', w', hr, h1, h2, _⟩ := run_append_own (P := Try.prog) (w.alloc (.cells c.rcells.toArray 85)) base 53 53 85 i0 _ 11 128 Try.underlying53 hi hz0 hz1 hz2 rfl (by omega) v L.length _ (hown.alloc _) ⟨w.heap.size, 0, none⟩ 1 1 c.rcells (by simp [CallV.rcells11]) (fun j u hj => by
    rw [Addr.add_lit, Nat.zero_add, World.cell?_alloc_mark]
    simpa using hj) (one_rcall c) (by unfold maxLen; omega) (by omega) (by simp; omega)
  exact ⟨v', w', hr, by rw [List.length_append, flat_append]; simpa [flat] using h1, h2⟩
/-- What stays where a row of calls grows and the desk's cell is set. -/
theorem rdesk_grow {w w1 w' : World} {base P : Nat} {L L' : List CallV} {v v' : Value} (h : RDeskIn w base P L) (hv : w.heap[P]? = some (.cells #[v] 55 (0, 0))) (ho : w.ownsRow base 85 11 v L.length (flat CallV.rcells L)) (b1 : Below w.heap.size w w1) (g : w1.grownBy w' v.ownBlock) (o' : w'.ownsRow base 85 11 v' L'.length (flat CallV.rcells L')) (hL : ∀ c ∈ L', c ∈ L ∨ c.rows = [] ∧ c.ra = none ∧ c.rc = 0) (few : L'.length ≤ 2000) :
    RDeskIn (w'.setCell ⟨P, 0, none⟩ v') base P L' ∧ OnlyT [55, 85] w (w'.setCell ⟨P, 0, none⟩ v') ∧ Below base w (w'.setCell ⟨P, 0, none⟩ v') ∧ (w'.heap[P]? = some (.cells #[v] 55 (0, 0))) := by
  have hP := h.lt
  have ne : v.ownBlock ≠ some P := fun e => by
    obtain ⟨_, _, cur, hc⟩ := row_kind ho e
    rw [hv] at hc
    injection hc with hc
    injection hc with _ hc
    exact absurd hc (by decide)
  have keep : ∀ (K : Nat) (c : Array Value) (t : TypeId) (fr : Nat × Nat), w.heap[K]? = some (.cells c t fr) → t ≠ 85 → w'.heap[K]? = some (.cells c t fr) := fun K c t fr hK ht => by
    have lt := (Array.getElem?_eq_some_iff.1 hK).1
    rw [g.block K (Nat.lt_of_lt_of_le lt b1.size) (fun e => by
      obtain ⟨_, _, cur, hc⟩ := row_kind ho e.symm
      rw [hK] at hc
      injection hc with hc
      injection hc with _ hc
      exact ht hc), b1.block K lt]
    exact hK
  have hvP := keep P _ _ _ hv (by decide)
  have on : OnlyT [55, 85] w (w'.setCell ⟨P, 0, none⟩ v') := fun K c t fr hK ht => by
    simp only [List.mem_cons, List.not_mem_nil, or_false, not_or] at ht
    rw [Below.heap_setCell _ _ _ _ (fun e => by
      rw [show K = P from e, hv] at hK
      injection hK with hK
      injection hK with _ hK
      exact ht.1 hK.symm)]
    exact keep K c t fr hK ht.2
  have hbase : base ≤ w.heap.size := Nat.le_trans h.pb (Nat.le_of_lt hP)
  have bb : Below base w w' := (b1.mono hbase).grown g (Nat.le_trans hbase b1.size) (fun k e => (ho.lt _ e).1)
  refine ⟨⟨⟨v', set_block hvP 0 v', ownsK o' fun gg hg => Below.heap_setCell _ _ _ _ (fun e => by
      obtain ⟨_, _, cur, hc⟩ := row_kind o' hg
      rw [show gg = P from e, hvP] at hc
      injection hc with hc
      injection hc with _ hc
      exact absurd hc (by decide))⟩, fun c hc => ?_, h.pb, few⟩, on, bb.setCell h.pb v', hvP⟩
  rcases hL c hc with hc | ⟨h1, h2, h3⟩
  · exact ownsT (h.rows c hc) on (by decide)
  · rw [h1, h2, h3]; exact ⟨rfl, .inl ⟨rfl, rfl⟩⟩
set_option maxRecDepth 100000 in
set_option maxHeartbeats 4000000 in
theorem rdesk_begin {w : World} {base P : Nat} {L : List CallV} (h : RDeskIn w base P L) (o : OpD) : Calls Try.prog 20 #[.pointer (some ⟨P, 0, none⟩), o.val] w fun e w' => e = .returned (.int .i64 (beginL L o).1) ∧ RDeskIn w' base P (beginL L o).2 ∧ OnlyT [55, 85] w w' ∧ Below base w w' := by
  obtain ⟨v, hv, ho⟩ := h.ex
  obtain ⟨a, c, rfl, _, _⟩ := row_form' ho
  have hP := h.lt
  have hbase : base ≤ w.heap.size := Nat.le_trans h.pb (Nat.le_of_lt hP)
  obtain ⟨kind, src, dst, amount, key, slot, shard⟩ := o
  show Calls Try.prog 20 #[.pointer (some ⟨P, 0, none⟩), .agg #[.int .i64 kind, .string src, .string dst, .int .i64 amount, .string key, .int .i64 slot, .int .i64 shard]] w _
  have b1 : Below w.heap.size w (w.alloc (.cells #[.int .i64 kind, .string src, .string dst, .int .i64 amount, .string key, .int .i64 slot, .int .i64 shard] 23)) := (Below.refl _ w).alloc (Nat.le_refl _) _
  have c0 : (w.alloc (.cells #[.int .i64 kind, .string src, .string dst, .int .i64 amount, .string key, .int .i64 slot, .int .i64 shard] 23)).cell? ⟨P, 0, none⟩ = some (.slice a L.length c) := by
    rw [b1.cell (p := ⟨P, 0, none⟩) hP]; simp [World.cell?, hv]
  by_cases hf : 2000 ≤ L.length
  · have hf' : (2000 : Int) ≤ (L.length : Int) := by omega
    have HR : Hid (beginL L ⟨kind, src, dst, amount, key, slot, shard⟩ = (-1, L)) := if_pos hf
    have H1 : Hid _ := h.below b1
    have H2 : Hid (OnlyT [55, 85] w _) := OnlyT.below b1
    have H3 : Hid (Below base w _) := b1.mono hbase
    clear hv ho h b1 hf hP hbase
    go_enter Try.func20, Try.ntmps20
    go_wp2
    go_ret
    exact ⟨by rw [HR.out]; rfl, by rw [HR.out]; exact H1.out, H2.out, H3.out⟩
  have hf' : ¬ (2000 : Int) ≤ (L.length : Int) := by omega
  have HR : Hid (beginL L ⟨kind, src, dst, amount, key, slot, shard⟩ = ((L.length : Int), L ++ [callOf ⟨kind, src, dst, amount, key, slot, shard⟩])) := if_neg hf
  have HF : Hid (L.length < 2000) := by show _ < _; omega
  have g1 : (w.alloc (.cells #[.int .i64 kind, .string src, .string dst, .int .i64 amount, .string key, .int .i64 slot, .int .i64 shard] 23)).heap[w.heap.size]? = some (.cells #[.int .i64 kind, .string src, .string dst, .int .i64 amount, .string key, .int .i64 slot, .int .i64 shard] 23 (0, 0)) := heap_alloc_new w _
  obtain ⟨w1, e1⟩ : ∃ w1, w.alloc (.cells #[.int .i64 kind, .string src, .string dst, .int .i64 amount, .string key, .int .i64 slot, .int .i64 shard] 23) = w1 := ⟨_, rfl⟩
  rw [e1] at b1 g1
  have d1 := h.below b1
  have hv1 : w1.heap[P]? = some (.cells #[.slice a L.length c] 55 (0, 0)) := (b1.block P hP).trans hv
  have ho1 := ownsB ho b1
  have hb1 : base ≤ w1.heap.size := Nat.le_trans hbase b1.size
  obtain ⟨v2, w2, r2, o2, gr2⟩ := run_append_rcall w1.drew base (.slice a L.length c) L ho1 (callOf ⟨kind, src, dst, amount, key, slot, shard⟩) (by have := HF.out; omega) hb1
  have b1d : Below w1.drew.heap.size w1.drew (w1.drew.alloc (.cells (callOf ⟨kind, src, dst, amount, key, slot, shard⟩).rcells.toArray 85)) := (Below.refl _ w1.drew).alloc (Nat.le_refl _) _
  have d1d : RDeskIn w1.drew base P L := ⟨⟨_, hv1, ho1⟩, d1.rows, d1.pb, d1.few⟩
  obtain ⟨z1, z2, z3, z4⟩ := rdesk_grow d1d hv1 ho1 b1d gr2 o2 (fun x hx => by
    rcases List.mem_append.1 hx with hx | hx
    · exact .inl hx
    · rw [List.mem_singleton] at hx; subst hx; exact .inr ⟨rfl, rfl, rfl⟩) (by rw [List.length_append]; have := HF.out; simp; omega)
  obtain ⟨a2, c2, rfl, _, _⟩ := row_form' o2
  have Z1 : Hid (RDeskIn (w2.setCell ⟨P, 0, none⟩ (.slice a2 (L ++ [callOf ⟨kind, src, dst, amount, key, slot, shard⟩]).length c2)) base P (L ++ [callOf ⟨kind, src, dst, amount, key, slot, shard⟩])) := z1
  have Z2 : Hid (OnlyT [55, 85] w (w2.setCell ⟨P, 0, none⟩ (.slice a2 (L ++ [callOf ⟨kind, src, dst, amount, key, slot, shard⟩]).length c2))) := (OnlyT.below b1).trans z2
  have Z3 : Hid (Below base w (w2.setCell ⟨P, 0, none⟩ (.slice a2 (L ++ [callOf ⟨kind, src, dst, amount, key, slot, shard⟩]).length c2))) := (b1.mono hbase).trans (((Below.refl base w1).drew).trans z3)
  have Z4 : Hid (w2.heap[P]? = some (.cells #[.slice a L.length c] 55 (0, 0))) := z4
  have R2 : Hid ((Builtin.append_ #[53, 53] 53 #[.slice a L.length c, .slice (some ⟨w1.drew.heap.size, 0, none⟩) 1 1]).run Try.prog (w1.drew.alloc (.cells #[.int .i64 kind, .string src, .string dst, .int .i64 amount, .string key, .int .i64 slot, .int .i64 shard, .int .i64 0, .int .i64 0, .slice none 0 0, .bool false] 85)) = .ok (.slice a2 (L ++ [callOf ⟨kind, src, dst, amount, key, slot, shard⟩]).length c2) w2) := r2
  have BK : Hid (∀ W : World, W.heap[w.heap.size]? = w1.heap[w.heap.size]? → W.heap[w.heap.size]? = some (.cells #[.int .i64 kind, .string src, .string dst, .int .i64 amount, .string key, .int .i64 slot, .int .i64 shard] 23 (0, 0))) := fun W hW => hW.trans g1
  have lB : w.heap.size < w1.heap.size := (Array.getElem?_eq_some_iff.1 g1).1
  have SA : Hid ((w1.drew.alloc (.cells #[.int .i64 kind, .string src, .string dst, .int .i64 amount, .string key, .int .i64 slot, .int .i64 shard, .int .i64 0, .int .i64 0, .slice none 0 0, .bool false] 85)).heap[w.heap.size]? = w1.heap[w.heap.size]?) := b1d.block _ lB
  have SW : Hid (w2.heap[w.heap.size]? = w1.heap[w.heap.size]?) := by
    show _ = _
    rw [gr2.block w.heap.size (Nat.lt_of_lt_of_le lB b1d.size) (fun e => by
      obtain ⟨_, _, cur, hc⟩ := row_kind ho1 e.symm
      rw [g1] at hc
      injection hc with hc
      injection hc with _ hc
      exact absurd hc (by decide))]
    exact SA.out
  have nP : Hid (w.heap.size ≠ P) := by show _ ≠ _; omega
  have K1 : Hid (w1.drew.cell? ⟨P, 0, none⟩ = some (.slice a L.length c)) := by show _ = _; show w1.cell? ⟨P, 0, none⟩ = _; simp [World.cell?, hv1]
  have K2 : Hid ((w1.alloc (.cells #[.int .i64 kind, .string src, .string dst, .int .i64 amount, .string key, .int .i64 slot, .int .i64 shard, .int .i64 0, .int .i64 0, .slice none 0 0, .bool false] 85)).cell? ⟨P, 0, none⟩ = some (.slice a L.length c)) := by
    show _ = _
    rw [((Below.refl _ w1).alloc (Nat.le_refl _) _).cell (p := ⟨P, 0, none⟩) (Array.getElem?_eq_some_iff.1 hv1).1]
    exact K1.out
  have K3 : Hid (w2.cell? ⟨P, 0, none⟩ = some (.slice a L.length c) ∧ w2.frozen? ⟨P, 0, none⟩ = false) := by constructor <;> simp [World.cell?, World.frozen?, Z4.out]
  have E1 : Hid (_ = w1) := e1
  have LL : Hid ((L ++ [callOf ⟨kind, src, dst, amount, key, slot, shard⟩]).length = L.length + 1) := by show _ = _; simp
  obtain ⟨NL, eNL⟩ : ∃ NL, (L ++ [callOf ⟨kind, src, dst, amount, key, slot, shard⟩]).length = NL := ⟨_, rfl⟩
  rw [eNL] at R2 LL
  have ENL : Hid (_ = NL) := eNL
  have CF : Hid ((w2.setCell ⟨P, 0, none⟩ (.slice a2 NL c2)).cell? ⟨P, 0, none⟩ = some (.slice a2 NL c2)) := World.cell?_setCell_same' _ _ _ (by rw [K3.out.1]; rfl)
  clear hv ho h b1 hf hP hbase g1 e1 d1 hv1 ho1 hb1 r2 o2 gr2 b1d d1d z1 z2 z3 z4 lB eNL
  go_enter Try.func20, Try.ntmps20
  go_wp2_with fail
  rw [E1.out]
  clear c0
  refine wp_region_held_drew (S := fun W => W.heap[w.heap.size]? = w1.heap[w.heap.size]?) (by kernel_rfl) rfl (fun hHeld => ?_)
  refine take_run (i := 0) (oi := { dst := some 11, op := Go.Op.move (Go.Operand.tmp 0), type := 52, pos := "ref.go:145", after := #[], guard := none }) (v := .pointer (some ⟨P, 0, none⟩)) rfl (by kernel_rfl) (by kernel_rfl) (by kernel_rfl) (fun _ _ _ h => h) (by rfl) ?_ hHeld ?_
  · (intro wq hSw; go_simp <;> with_reducible rfl)
  try simp only [Act.put, List.setIfInBounds_toArray, List.set_cons_zero, List.set_cons_succ]
  refine take_run (i := 1) (oi := { dst := some 12, op := Go.Op.move (Go.Operand.tmp 0), type := 52, pos := "ref.go:145", after := #[], guard := none }) (v := .pointer (some ⟨P, 0, none⟩)) rfl (by kernel_rfl) (by kernel_rfl) (by kernel_rfl) (fun _ _ _ h => h) (by rfl) ?_ hHeld ?_
  · (intro wq hSw; go_simp <;> with_reducible rfl)
  try simp only [Act.put, List.setIfInBounds_toArray, List.set_cons_zero, List.set_cons_succ]
  refine take_run (i := 2) (oi := { dst := some 13, op := Go.Op.nilCheck (Go.Operand.tmp 12), type := 0, pos := "ref.go:145", after := #[{ on := 1, ground := Go.Ground.data }], guard := none }) (v := .pointer (some ⟨P, 0, none⟩)) rfl (by kernel_rfl) (by kernel_rfl) (by kernel_rfl) (fun _ _ _ h => h) (by rfl) ?_ hHeld ?_
  · (intro wq hSw; go_simp <;> with_reducible rfl)
  try simp only [Act.put, List.setIfInBounds_toArray, List.set_cons_zero, List.set_cons_succ]
  refine take_run (i := 3) (oi := { dst := some 14, op := Go.Op.fieldAddr 55 (Go.Operand.tmp 13) 0, type := 0, pos := "ref.go:145", after := #[{ on := 2, ground := Go.Ground.data }], guard := none }) (v := .pointer (some ⟨P, 0, none⟩)) rfl (by kernel_rfl) (by kernel_rfl) (by kernel_rfl) (fun _ _ _ h => h) (by rfl) ?_ hHeld ?_
  · (intro wq hSw; go_simp <;> with_reducible rfl)
  try simp only [Act.put, List.setIfInBounds_toArray, List.set_cons_zero, List.set_cons_succ]
  refine take_row (i := 5) (oi := { dst := some 16, op := Go.Op.load 23 (Go.Operand.tmp 3), type := 23, pos := "ref.go:145", after := #[], guard := none }) rfl (by kernel_rfl) (by kernel_rfl) (by kernel_rfl) 23 (.tmp 3) w.heap.size 23 #[.int .i64 kind, .string src, .string dst, .int .i64 amount, .string key, .int .i64 slot, .int .i64 shard] (0, 0) _ (fun _ _ _ h => h) (by rfl) rfl (by go_simp <;> with_reducible rfl) (fun W hW => BK.out W hW) Try.underlying23 rfl (by kernel_rfl) hHeld ?_
  try simp only [Act.put, List.setIfInBounds_toArray, List.set_cons_zero, List.set_cons_succ]
  refine take_run (i := 6) (oi := { dst := some 17, op := Go.Op.build 85 #[(0, Go.Operand.tmp 16)], type := 85, pos := "ref.go:145", after := #[{ on := 5, ground := Go.Ground.data }], guard := none }) (v := .agg #[.int .i64 kind, .string src, .string dst, .int .i64 amount, .string key, .int .i64 slot, .int .i64 shard, .int .i64 0, .int .i64 0, .slice none 0 0, .bool false]) rfl (by kernel_rfl) (by kernel_rfl) (by kernel_rfl) (fun _ _ _ h => h) (by rfl) ?_ hHeld ?_
  · (intro wq hSw; go_simp <;> with_reducible rfl)
  try simp only [Act.put, List.setIfInBounds_toArray, List.set_cons_zero, List.set_cons_succ]
  refine take_twoK (i := 4) (j := 7) (oi := { dst := some 15, op := Go.Op.load 53 (Go.Operand.tmp 14), type := 53, pos := "ref.go:145", after := #[{ on := 3, ground := Go.Ground.data }], guard := none }) (oj := { dst := some 18, op := Go.Op.buildSlice 53 1 #[(0, Go.Operand.tmp 17)], type := 53, pos := "ref.go:145", after := #[{ on := 6, ground := Go.Ground.data }], guard := none }) (.slice a L.length c) (.slice (some ⟨w1.drew.heap.size, 0, none⟩) 1 1) (w1 := w1.drew) (w2 := w1.drew.alloc (.cells #[.int .i64 kind, .string src, .string dst, .int .i64 amount, .string key, .int .i64 slot, .int .i64 shard, .int .i64 0, .int .i64 0, .slice none 0 0, .bool false] 85)) rfl rfl (by kernel_rfl) (by rfl) (by rfl) (by have hk := K1.out; go_simp <;> with_reducible rfl) hHeld (by go_simp <;> with_reducible rfl) SA.out ?_ ?_
  · try simp only [Act.put, List.setIfInBounds_toArray, List.set_cons_zero, List.set_cons_succ]
    refine take_val (i := 7) (oi := { dst := some 18, op := Go.Op.buildSlice 53 1 #[(0, Go.Operand.tmp 17)], type := 53, pos := "ref.go:145", after := #[{ on := 6, ground := Go.Ground.data }], guard := none }) (w' := w1.drew.alloc (.cells #[.int .i64 kind, .string src, .string dst, .int .i64 amount, .string key, .int .i64 slot, .int .i64 shard, .int .i64 0, .int .i64 0, .slice none 0 0, .bool false] 85)) (.slice (some ⟨w1.drew.heap.size, 0, none⟩) 1 1) rfl (by kernel_rfl) (by rfl) (by go_simp <;> with_reducible rfl) SA.out ?_
    try simp only [Act.put, List.setIfInBounds_toArray, List.set_cons_zero, List.set_cons_succ]
    refine take_val (i := 8) (oi := { dst := some 19, op := Go.Op.call { callee := Go.Callee.builtin Go.Builtin.append, args := #[Go.Operand.tmp 15, Go.Operand.tmp 18], argTypes := #[53, 53] }, type := 53, pos := "ref.go:145", after := #[{ on := 4, ground := Go.Ground.data }, { on := 7, ground := Go.Ground.data }], guard := none }) (w' := w2) (.slice a2 NL c2) rfl (by kernel_rfl) (by rfl) (exec_appendK rfl (by go_simp <;> with_reducible rfl) (by go_simp <;> with_reducible rfl) R2.out) SW.out ?_
    try simp only [Act.put, List.setIfInBounds_toArray, List.set_cons_zero, List.set_cons_succ]
    refine take_run (i := 9) (oi := { dst := some 20, op := Go.Op.nilCheck (Go.Operand.tmp 11), type := 0, pos := "ref.go:145", after := #[{ on := 0, ground := Go.Ground.data }, { on := 0, ground := Go.Ground.phase }, { on := 1, ground := Go.Ground.phase }, { on := 2, ground := Go.Ground.phase }, { on := 3, ground := Go.Ground.phase }, { on := 4, ground := Go.Ground.phase }, { on := 5, ground := Go.Ground.phase }, { on := 6, ground := Go.Ground.phase }, { on := 7, ground := Go.Ground.phase }, { on := 8, ground := Go.Ground.phase }], guard := none }) (v := .pointer (some ⟨P, 0, none⟩)) rfl (by kernel_rfl) (by kernel_rfl) (by kernel_rfl) (fun _ _ _ h => h) (by rfl) ?_ SW.out ?_
    · (intro wq hSw; go_simp <;> with_reducible rfl)
    try simp only [Act.put, List.setIfInBounds_toArray, List.set_cons_zero, List.set_cons_succ]
    refine take_run (i := 10) (oi := { dst := some 21, op := Go.Op.fieldAddr 55 (Go.Operand.tmp 20) 0, type := 0, pos := "ref.go:145", after := #[{ on := 9, ground := Go.Ground.data }, { on := 0, ground := Go.Ground.phase }, { on := 1, ground := Go.Ground.phase }, { on := 2, ground := Go.Ground.phase }, { on := 3, ground := Go.Ground.phase }, { on := 4, ground := Go.Ground.phase }, { on := 5, ground := Go.Ground.phase }, { on := 6, ground := Go.Ground.phase }, { on := 7, ground := Go.Ground.phase }, { on := 8, ground := Go.Ground.phase }], guard := none }) (v := .pointer (some ⟨P, 0, none⟩)) rfl (by kernel_rfl) (by kernel_rfl) (by kernel_rfl) (fun _ _ _ h => h) (by rfl) ?_ SW.out ?_
    · (intro wq hSw; go_simp <;> with_reducible rfl)
    try simp only [Act.put, List.setIfInBounds_toArray, List.set_cons_zero, List.set_cons_succ]
    refine take_eff (i := 11) (oi := { dst := none, op := Go.Op.store 53 (Go.Operand.tmp 21) (Go.Operand.tmp 19), type := 0, pos := "ref.go:145", after := #[{ on := 10, ground := Go.Ground.data }, { on := 8, ground := Go.Ground.data }, { on := 8, ground := Go.Ground.chain }, { on := 0, ground := Go.Ground.phase }, { on := 1, ground := Go.Ground.phase }, { on := 2, ground := Go.Ground.phase }, { on := 3, ground := Go.Ground.phase }, { on := 4, ground := Go.Ground.phase }, { on := 5, ground := Go.Ground.phase }, { on := 6, ground := Go.Ground.phase }, { on := 7, ground := Go.Ground.phase }, { on := 8, ground := Go.Ground.phase }], guard := none }) (w' := w2.setCell ⟨P, 0, none⟩ (.slice a2 NL c2)) rfl (by kernel_rfl) (by rfl) (by obtain ⟨hk, hz⟩ := K3.out; go_simp <;> with_reducible rfl) ((Below.heap_setCell _ _ _ _ nP.out).trans SW.out) ?_
    try simp only [Act.put]
    refine wpAnyH_done (by kernel_rfl) ?_ _
    have cf := CF.out
    have hn : (NL : Int) - 1 = (L.length : Int) := by have := LL.out; omega
    have hnw : NL < 3000 := by have := LL.out; have := HF.out; omega
    clear hHeld
    go_wp2
    go_ret
    exact ⟨by rw [HR.out]; first | rfl | (simp only; congr 2), by rw [HR.out, ← ENL.out]; exact Z1.out, by rw [← ENL.out]; exact Z2.out, by rw [← ENL.out]; exact Z3.out⟩
  · try simp only [Act.put, List.setIfInBounds_toArray, List.set_cons_zero, List.set_cons_succ]
    refine take_val (i := 4) (oi := { dst := some 15, op := Go.Op.load 53 (Go.Operand.tmp 14), type := 53, pos := "ref.go:145", after := #[{ on := 3, ground := Go.Ground.data }], guard := none }) (w' := w1.drew.alloc (.cells #[.int .i64 kind, .string src, .string dst, .int .i64 amount, .string key, .int .i64 slot, .int .i64 shard, .int .i64 0, .int .i64 0, .slice none 0 0, .bool false] 85)) (.slice a L.length c) rfl (by kernel_rfl) (by rfl) (by have hk := K2.out; go_simp <;> with_reducible rfl) SA.out ?_
    try simp only [Act.put, List.setIfInBounds_toArray, List.set_cons_zero, List.set_cons_succ]
    refine take_val (i := 8) (oi := { dst := some 19, op := Go.Op.call { callee := Go.Callee.builtin Go.Builtin.append, args := #[Go.Operand.tmp 15, Go.Operand.tmp 18], argTypes := #[53, 53] }, type := 53, pos := "ref.go:145", after := #[{ on := 4, ground := Go.Ground.data }, { on := 7, ground := Go.Ground.data }], guard := none }) (w' := w2) (.slice a2 NL c2) rfl (by kernel_rfl) (by rfl) (exec_appendK rfl (by go_simp <;> with_reducible rfl) (by go_simp <;> with_reducible rfl) R2.out) SW.out ?_
    try simp only [Act.put, List.setIfInBounds_toArray, List.set_cons_zero, List.set_cons_succ]
    refine take_run (i := 9) (oi := { dst := some 20, op := Go.Op.nilCheck (Go.Operand.tmp 11), type := 0, pos := "ref.go:145", after := #[{ on := 0, ground := Go.Ground.data }, { on := 0, ground := Go.Ground.phase }, { on := 1, ground := Go.Ground.phase }, { on := 2, ground := Go.Ground.phase }, { on := 3, ground := Go.Ground.phase }, { on := 4, ground := Go.Ground.phase }, { on := 5, ground := Go.Ground.phase }, { on := 6, ground := Go.Ground.phase }, { on := 7, ground := Go.Ground.phase }, { on := 8, ground := Go.Ground.phase }], guard := none }) (v := .pointer (some ⟨P, 0, none⟩)) rfl (by kernel_rfl) (by kernel_rfl) (by kernel_rfl) (fun _ _ _ h => h) (by rfl) ?_ SW.out ?_
    · (intro wq hSw; go_simp <;> with_reducible rfl)
    try simp only [Act.put, List.setIfInBounds_toArray, List.set_cons_zero, List.set_cons_succ]
    refine take_run (i := 10) (oi := { dst := some 21, op := Go.Op.fieldAddr 55 (Go.Operand.tmp 20) 0, type := 0, pos := "ref.go:145", after := #[{ on := 9, ground := Go.Ground.data }, { on := 0, ground := Go.Ground.phase }, { on := 1, ground := Go.Ground.phase }, { on := 2, ground := Go.Ground.phase }, { on := 3, ground := Go.Ground.phase }, { on := 4, ground := Go.Ground.phase }, { on := 5, ground := Go.Ground.phase }, { on := 6, ground := Go.Ground.phase }, { on := 7, ground := Go.Ground.phase }, { on := 8, ground := Go.Ground.phase }], guard := none }) (v := .pointer (some ⟨P, 0, none⟩)) rfl (by kernel_rfl) (by kernel_rfl) (by kernel_rfl) (fun _ _ _ h => h) (by rfl) ?_ SW.out ?_
    · (intro wq hSw; go_simp <;> with_reducible rfl)
    try simp only [Act.put, List.setIfInBounds_toArray, List.set_cons_zero, List.set_cons_succ]
    refine take_eff (i := 11) (oi := { dst := none, op := Go.Op.store 53 (Go.Operand.tmp 21) (Go.Operand.tmp 19), type := 0, pos := "ref.go:145", after := #[{ on := 10, ground := Go.Ground.data }, { on := 8, ground := Go.Ground.data }, { on := 8, ground := Go.Ground.chain }, { on := 0, ground := Go.Ground.phase }, { on := 1, ground := Go.Ground.phase }, { on := 2, ground := Go.Ground.phase }, { on := 3, ground := Go.Ground.phase }, { on := 4, ground := Go.Ground.phase }, { on := 5, ground := Go.Ground.phase }, { on := 6, ground := Go.Ground.phase }, { on := 7, ground := Go.Ground.phase }, { on := 8, ground := Go.Ground.phase }], guard := none }) (w' := w2.setCell ⟨P, 0, none⟩ (.slice a2 NL c2)) rfl (by kernel_rfl) (by rfl) (by obtain ⟨hk, hz⟩ := K3.out; go_simp <;> with_reducible rfl) ((Below.heap_setCell _ _ _ _ nP.out).trans SW.out) ?_
    try simp only [Act.put]
    refine wpAnyH_done (by kernel_rfl) ?_ _
    have cf := CF.out
    have hn : (NL : Int) - 1 = (L.length : Int) := by have := LL.out; omega
    have hnw : NL < 3000 := by have := LL.out; have := HF.out; omega
    clear hHeld
    go_wp2
    go_ret
    exact ⟨by rw [HR.out]; first | rfl | (simp only; congr 2), by rw [HR.out, ← ENL.out]; exact Z1.out, by rw [← ENL.out]; exact Z2.out, by rw [← ENL.out]; exact Z3.out⟩
end Go.Proofs.Ytaakdnbaljoehaa

namespace Go.Proofs.Ytaakdnbaljoehaa
open Go.RowKit Cod
attribute [local go_sem] Oper.semAt_some
set_option linter.unusedVariables false

theorem flat_rhear (ry rm : Int) (rows : List (ByteArray × Int)) (ra : Option Addr) (rc : Nat) (u : Value) : ∀ (L : List CallV) (k : Nat) (hk : k < L.length), flat CallV.rcells (L.set k (L[k].hear ry rm rows ra rc)) = (((((flat CallV.rcells L).set (k * 11 + 10) (.bool true)).set (k * 11 + 7) (.int .i64 ry)).set (k * 11 + 7 + 1) (.int .i64 rm)).set (k * 11 + 7 + 1 + 1) u).set (k * 11 + 9) (.slice ra rows.length rc)
  | x :: r, 0, _ => rfl
  | x :: r, k + 1, hk => by
    have ih := flat_rhear ry rm rows ra rc u r k (by simpa using hk)
    have e : ∀ (l : List CallV), flat CallV.rcells (x :: l) = x.rcells ++ flat CallV.rcells l := fun l => rfl
    have st : ∀ (F : List Value) (j : Nat) (v : Value), (x.rcells ++ F).set (j + 11) v = x.rcells ++ F.set j v := fun F j v => by
      rw [List.set_append_right _ _ (by rw [CallV.rcells11]; omega), CallV.rcells11, Nat.add_sub_cancel]
    simp only [List.set_cons_succ, List.getElem_cons_succ]
    rw [e, ih, e]
    rw [show (k + 1) * 11 + 10 = k * 11 + 10 + 11 by omega, st, show (k + 1) * 11 + 7 = k * 11 + 7 + 11 by omega, st, show k * 11 + 7 + 11 + 1 = k * 11 + 7 + 1 + 11 by omega, st, show k * 11 + 7 + 1 + 11 + 1 = k * 11 + 7 + 1 + 1 + 11 by omega, st, show (k + 1) * 11 + 9 = k * 11 + 9 + 11 by omega, st]
theorem range_rcall {w : World} {base g cap : Nat} {L : List CallV} (h : w.ownsRow base 85 11 (.slice (some ⟨g, 0, none⟩) L.length cap) L.length (flat CallV.rcells L)) {k : Nat} (hk : k < L.length) : w.rangeAt g (k * 11) L[k].rcells := fun j v hv => by
  have hj : j < 11 := by have := (List.getElem?_eq_some_iff.1 hv).1; rwa [CallV.rcells11] at this
  have q := flat_at (enc := CallV.rcells) CallV.rcells11 L k hk j hj
  rw [h.cellAt (k * 11 + j) (by omega), q]
  exact hv
theorem rdesk_row {w : World} {base P : Nat} {L : List CallV} (h : RDeskIn w base P L) {k : Nat} (hk : k < L.length) : ∃ g cap, w.heap[P]? = some (.cells #[.slice (some ⟨g, 0, none⟩) L.length cap] 55 (0, 0)) ∧ w.ownsRow base 85 11 (.slice (some ⟨g, 0, none⟩) L.length cap) L.length (flat CallV.rcells L) := by
  obtain ⟨v, hv, ho⟩ := h.ex
  rcases ho.2 with ⟨e1, e2⟩ | ⟨g, cap, cur, rfl, _⟩
  · omega
  · exact ⟨g, cap, hv, ho⟩
set_option maxRecDepth 100000 in
set_option maxHeartbeats 1600000 in
theorem rdesk_hearNo {w : World} {base P : Nat} {L : List CallV} (h : RDeskIn w base P L) (n : Int) (ry rm : Int) (qv : Value) (hn : hearOk L n = false) : Calls Try.prog 21 #[.pointer (some ⟨P, 0, none⟩), .int .i64 n, .agg #[.int .i64 ry, .int .i64 rm, qv]] w fun e w' => e = .returned (.bool false) ∧ Below w.heap.size w w' := by
  have b1 : Below w.heap.size w (w.alloc (.cells #[.int .i64 ry, .int .i64 rm, qv] 28)) := (Below.refl _ w).alloc (Nat.le_refl _) _
  have d1 := h.below b1
  have B1 : Hid _ := b1
  by_cases n0 : n < 0
  · clear hn h b1 d1
    go_enter Try.func21, Try.ntmps21
    go_wp2
    go_ret
    exact ⟨rfl, B1.out⟩
  obtain ⟨v, hv, ho⟩ := d1.ex
  obtain ⟨a, c, rfl, _, _⟩ := row_form' ho
  have c0 : (w.alloc (.cells #[.int .i64 ry, .int .i64 rm, qv] 28)).cell? ⟨P, 0, none⟩ = some (.slice a L.length c) := by simp [World.cell?, hv]
  by_cases nl : (L.length : Int) ≤ n
  · have n0' : ¬ n < 0 := n0
    clear hn h b1 d1 hv ho
    go_enter Try.func21, Try.ntmps21
    go_wp2
    go_ret
    exact ⟨rfl, B1.out⟩
  obtain ⟨k, rfl⟩ : ∃ k : Nat, n = (k : Int) := ⟨n.toNat, by omega⟩
  have hk : k < L.length := by omega
  have hh : hasN L (k : Int) = true := by unfold hasN; rw [decide_eq_true (by omega), decide_eq_true (by omega)]; rfl
  have hd : L[k].heard = true := by
    unfold hearOk at hn
    rw [hh] at hn
    simpa [hk] using hn
  clear hv ho c0
  obtain ⟨g, cap, hv, ho⟩ := rdesk_row d1 hk
  have hr := range_rcall ho hk
  have c0 : (w.alloc (.cells #[.int .i64 ry, .int .i64 rm, qv] 28)).cell? ⟨P, 0, none⟩ = some (.slice (some ⟨g, 0, none⟩) L.length cap) := by simp [World.cell?, hv]
  have c7 : (w.alloc (.cells #[.int .i64 ry, .int .i64 rm, qv] 28)).cell? ⟨g, k * 11 + 10, none⟩ = some (.bool true) := by
    rw [← hd]
    exact hr 10 _ rfl
  have nl' : ¬ (L.length : Int) ≤ (k : Int) := by omega
  have n0' : ¬ (k : Int) < 0 := by omega
  have hkl : (k : Int) < (L.length : Int) := by omega
  clear hn hh h b1 d1 hd hv ho hr hk n0 nl
  go_enter Try.func21, Try.ntmps21
  go_wp2
  go_ret
  exact ⟨rfl, B1.out⟩
set_option maxRecDepth 100000 in
set_option maxHeartbeats 4000000 in
theorem rdesk_hear {w : World} {base P : Nat} {L : List CallV} (h : RDeskIn w base P L) {k : Nat} (hk : k < L.length) (hh : L[k].heard = false) (ry rm : Int) (qa : Option Addr) (qc : Nat) (rows : List (ByteArray × Int)) (hq : RowsAt w qa rows.length rows) (hqn : qa = none → qc = 0) (hsz : rows.length * 24 ≤ 140737488355328) (hqg : ∀ x, qa = some x → rows ≠ [] → x.block < base) :
    Calls Try.prog 21 #[.pointer (some ⟨P, 0, none⟩), .int .i64 (k : Int), .agg #[.int .i64 ry, .int .i64 rm, .slice qa rows.length qc]] w fun e w' => ∃ a5 c5, e = .returned (.bool true) ∧ RDeskIn w' base P (L.set k (L[k].hear ry rm rows a5 c5)) ∧ OnlyT [85] w w' ∧ Below base w w' ∧ ∀ x, a5 = some x → w.heap.size ≤ x.block := by
  have b1 : Below w.heap.size w (w.alloc (.cells #[.int .i64 ry, .int .i64 rm, .slice qa rows.length qc] 28)) := (Below.refl _ w).alloc (Nat.le_refl _) _
  have gb : (w.alloc (.cells #[.int .i64 ry, .int .i64 rm, .slice qa rows.length qc] 28)).heap[w.heap.size]? = some (.cells #[.int .i64 ry, .int .i64 rm, .slice qa rows.length qc] 28 (0, 0)) := heap_alloc_new w _
  obtain ⟨w1, e1⟩ : ∃ w1, w.alloc (.cells #[.int .i64 ry, .int .i64 rm, .slice qa rows.length qc] 28) = w1 := ⟨_, rfl⟩
  rw [e1] at b1 gb
  have d1 := h.below b1
  obtain ⟨g, cap, hv, ho⟩ := rdesk_row d1 hk
  have hr := range_rcall ho hk
  have c0 : w1.cell? ⟨P, 0, none⟩ = some (.slice (some ⟨g, 0, none⟩) L.length cap) := by simp [World.cell?, hv]
  have c7 : w1.cell? ⟨g, k * 11 + 10, none⟩ = some (.bool false) := by rw [← hh]; exact hr 10 _ rfl
  have z7 : w1.frozen? ⟨g, k * 11 + 10, none⟩ = false := ho.frozenAt _
  have hkl : (k : Int) < (L.length : Int) := by omega
  have nl' : ¬ (L.length : Int) ≤ (k : Int) := by omega
  have n0' : ¬ (k : Int) < 0 := by omega
  have hP := h.lt
  have hbase : base ≤ w.heap.size := Nat.le_trans h.pb (Nat.le_of_lt hP)
  have hg1 : base ≤ g ∧ g < w1.heap.size := ho.lt g rfl
  obtain ⟨_, _, cur, hgc⟩ := row_kind ho (g := g) rfl
  have nP : g ≠ P := fun e => by rw [e, hv] at hgc; injection hgc with hgc; injection hgc with _ hgc; exact absurd hgc (by decide)
  have nB : g ≠ w.heap.size := fun e => by rw [e, gb] at hgc; injection hgc with hgc; injection hgc with _ hgc; exact absurd hgc (by decide)
  have lP : P < w1.heap.size := (Array.getElem?_eq_some_iff.1 hv).1
  have lB : w.heap.size < w1.heap.size := (Array.getElem?_eq_some_iff.1 gb).1
  -- the worlds
  have sA := (ho.stored (k * 11 + 10) (.bool true)).1
  obtain ⟨wA, eA⟩ : ∃ wA, w1.setCell ⟨g, k * 11 + 10, none⟩ (.bool true) = wA := ⟨_, rfl⟩
  have othA : ∀ K, K ≠ g → wA.heap[K]? = w1.heap[K]? := fun K hK => by rw [← eA]; exact Below.heap_setCell _ _ _ _ hK
  have bA : Below base w wA := by rw [← eA]; exact ((b1.mono hbase).setCell hg1.1 _)
  have szA : wA.heap.size = w1.heap.size := by rw [← eA]; simp
  rw [eA] at sA
  have s2 := ((World.ownsRow.stored (w := wA.drew) sA (k * 11 + 7) (.int .i64 ry)).1)
  have s3 := (s2.stored (k * 11 + 7 + 1) (.int .i64 rm)).1
  have s4 := (s3.stored (k * 11 + 7 + 1 + 1) (.slice qa rows.length qc)).1
  have thA : wA.drew.there g (k * 11 + 7) 3 := fun j hj => by
    have q := World.ownsRow.cellAt (w := wA.drew) sA (k * 11 + 7 + j) (by omega)
    have q2 : (k * 11 + 7 + j) < ((flat CallV.rcells L).set (k * 11 + 10) (.bool true)).length := by rw [List.length_set, flat_length CallV.rcells11]; omega
    exact ⟨by rw [q, List.getElem?_eq_getElem q2]; rfl, World.ownsRow.frozenAt (w := wA.drew) sA _⟩
  obtain ⟨wB, eB⟩ : ∃ wB, wA.drew.setCells g (k * 11 + 7) [.int .i64 ry, .int .i64 rm, .slice qa rows.length qc] = wB := ⟨_, rfl⟩
  have sB : wB.ownsRow base 85 11 (.slice (some ⟨g, 0, none⟩) L.length cap) L.length (((((flat CallV.rcells L).set (k * 11 + 10) (.bool true)).set (k * 11 + 7) (.int .i64 ry)).set (k * 11 + 7 + 1) (.int .i64 rm)).set (k * 11 + 7 + 1 + 1) (.slice qa rows.length qc)) := by rw [← eB]; exact s4
  have othB : ∀ K, K ≠ g → wB.heap[K]? = w1.heap[K]? := fun K hK => by
    rw [← eB]
    show (((wA.drew.setCell ⟨g, k * 11 + 7, none⟩ (.int .i64 ry)).setCell ⟨g, k * 11 + 7 + 1, none⟩ (.int .i64 rm)).setCell ⟨g, k * 11 + 7 + 1 + 1, none⟩ (.slice qa rows.length qc)).heap[K]? = _
    rw [Below.heap_setCell _ _ _ _ hK, Below.heap_setCell _ _ _ _ hK, Below.heap_setCell _ _ _ _ hK]
    exact othA K hK
  have bB : Below base w wB := by
    rw [← eB]
    show Below base w (((wA.drew.setCell ⟨g, k * 11 + 7, none⟩ (.int .i64 ry)).setCell ⟨g, k * 11 + 7 + 1, none⟩ (.int .i64 rm)).setCell ⟨g, k * 11 + 7 + 1 + 1, none⟩ (.slice qa rows.length qc))
    exact ((bA.drew.setCell hg1.1 _).setCell hg1.1 _).setCell hg1.1 _
  have szB : wB.heap.size = w1.heap.size := by
    rw [← eB]
    show (((wA.drew.setCell ⟨g, k * 11 + 7, none⟩ (.int .i64 ry)).setCell ⟨g, k * 11 + 7 + 1, none⟩ (.int .i64 rm)).setCell ⟨g, k * 11 + 7 + 1 + 1, none⟩ (.slice qa rows.length qc)).heap.size = _
    simp
    exact szA
  have hqB : RowsAt wB.drew qa rows.length rows := by
    refine ⟨hq.1, hq.2.1, hq.2.2.imp id ?_⟩
    rintro ⟨b, off, rfl, hc⟩
    refine ⟨b, off, rfl, fun j hj => ?_⟩
    obtain ⟨c1, c2⟩ := hc j hj
    have lb := World.block_lt_of_cell? w _ c1
    have nb : b ≠ g := fun e => by
      have h2 : b < base := hqg ⟨b, off, none⟩ rfl (fun e0 => by rw [e0] at hj; simp at hj)
      have := hg1.1
      omega
    have e : wB.drew.heap[b]? = w.heap[b]? := (othB b nb).trans (b1.block b lb)
    simp only [World.cell?] at c1 c2 ⊢
    rw [e]
    exact ⟨c1, c2⟩
  obtain ⟨v5, wC, rC, oC, bC⟩ := run_append_rows wB.drew qa rows.length qc rows hqB hqn hsz
  obtain ⟨a5, c5, rfl, _, _⟩ := row_form' oC
  have LO : Hid (∀ x, a5 = some x → w.heap.size ≤ x.block) := fun x e => Nat.le_trans (Nat.le_trans b1.size (Nat.le_of_eq szB.symm)) (row_kind oC (g := x.block) (by rw [e]; rfl)).1
  have bC' : Below wB.heap.size wB wC := ((Below.refl _ wB).drew).trans bC
  have sC := ownsB sB bC'
  have s5 := (sC.stored (k * 11 + 9) (.slice a5 rows.length c5)).1
  rw [← flat_rhear ry rm rows a5 c5 (.slice qa rows.length qc) L k hk] at s5
  have q9 : (k * 11 + 9) < (((((flat CallV.rcells L).set (k * 11 + 10) (.bool true)).set (k * 11 + 7) (.int .i64 ry)).set (k * 11 + 7 + 1) (.int .i64 rm)).set (k * 11 + 7 + 1 + 1) (.slice qa rows.length qc)).length := by simp only [List.length_set]; rw [flat_length CallV.rcells11]; omega
  have KC : Hid ((wC.cell? ⟨g, k * 11 + 9, none⟩).isSome = true ∧ wC.frozen? ⟨g, k * 11 + 9, none⟩ = false) := ⟨by rw [sC.cellAt (k * 11 + 9) (by omega), List.getElem?_eq_getElem q9]; rfl, sC.frozenAt _⟩
  have oth : ∀ K, K ≠ g → K < w1.heap.size → (wC.setCell ⟨g, k * 11 + 9, none⟩ (.slice a5 rows.length c5)).heap[K]? = w1.heap[K]? := fun K hK lt => by
    rw [Below.heap_setCell _ _ _ _ hK, bC'.block K (by omega)]
    exact othB K hK
  have on : OnlyT [85] w (wC.setCell ⟨g, k * 11 + 9, none⟩ (.slice a5 rows.length c5)) := fun K c t fr hK ht => by
    have lt := (Array.getElem?_eq_some_iff.1 hK).1
    have hK1 := (b1.block K lt).trans hK
    rw [oth K (fun e => by
      rw [e, hgc] at hK1
      injection hK1 with hK1
      injection hK1 with _ hK1
      exact ht (by rw [← hK1]; simp)) (Nat.lt_of_lt_of_le lt b1.size)]
    exact hK1
  have FIN : Hid (RDeskIn (wC.setCell ⟨g, k * 11 + 9, none⟩ (.slice a5 rows.length c5)) base P (L.set k (L[k].hear ry rm rows a5 c5))) := by
    refine ⟨⟨_, (oth P (Ne.symm nP) lP).trans hv, ?_⟩, fun c hc => ?_, h.pb, by rw [List.length_set]; exact h.few⟩
    · rw [List.length_set]; exact s5
    · rcases List.mem_or_eq_of_mem_set hc with hc | rfl
      · exact ownsT (h.rows c hc) on (by decide)
      · exact owns_mono' (ownsK oC fun gg hg => Below.heap_setCell _ _ _ _ (by have := (oC.lt _ hg).1; show gg ≠ g; have hs : wB.drew.heap.size = wB.heap.size := rfl; omega)) (by have hs : wB.drew.heap.size = wB.heap.size := rfl; have := b1.size; show base ≤ wB.drew.heap.size; omega)
  have ON : Hid (OnlyT [85] w (wC.setCell ⟨g, k * 11 + 9, none⟩ (.slice a5 rows.length c5))) := on
  have BL : Hid (Below base w (wC.setCell ⟨g, k * 11 + 9, none⟩ (.slice a5 rows.length c5))) := (bB.trans (bC'.mono (by have := b1.size; omega))).setCell hg1.1 _
  have KP : Hid (∀ W : World, W.heap[P]? = w1.heap[P]? → W.cell? ⟨P, 0, none⟩ = some (.slice (some ⟨g, 0, none⟩) L.length cap)) := fun W e => by simp [World.cell?, e, hv]
  have KB : Hid (∀ W : World, W.heap[w.heap.size]? = w1.heap[w.heap.size]? → W.heap[w.heap.size]? = some (.cells #[.int .i64 ry, .int .i64 rm, .slice qa rows.length qc] 28 (0, 0))) := fun W e => e.trans gb
  have K2 : Hid (∀ W : World, W.heap[w.heap.size]? = w1.heap[w.heap.size]? → W.cell? ⟨w.heap.size, 2, none⟩ = some (.slice qa rows.length qc)) := fun W e => by simp [World.cell?, e, gb]
  have SA : Hid (wA.heap[P]? = w1.heap[P]? ∧ wA.heap[w.heap.size]? = w1.heap[w.heap.size]?) := ⟨othA P (Ne.symm nP), othA _ (Ne.symm nB)⟩
  have SB : Hid (wB.heap[P]? = w1.heap[P]? ∧ wB.heap[w.heap.size]? = w1.heap[w.heap.size]?) := ⟨othB P (Ne.symm nP), othB _ (Ne.symm nB)⟩
  have SC : Hid (wC.heap[P]? = w1.heap[P]? ∧ wC.heap[w.heap.size]? = w1.heap[w.heap.size]?) := ⟨(bC'.block P (by omega)).trans SB.out.1, (bC'.block _ (by omega)).trans SB.out.2⟩
  have SD : Hid ((wC.setCell ⟨g, k * 11 + 9, none⟩ (.slice a5 rows.length c5)).heap[P]? = w1.heap[P]? ∧ (wC.setCell ⟨g, k * 11 + 9, none⟩ (.slice a5 rows.length c5)).heap[w.heap.size]? = w1.heap[w.heap.size]?) := ⟨oth P (Ne.symm nP) lP, oth _ (Ne.symm nB) lB⟩
  have E1 : Hid (_ = w1) := e1
  have EA : Hid ((w.alloc (.cells #[.int .i64 ry, .int .i64 rm, .slice qa rows.length qc] 28)).setCell ⟨g, k * 11 + 10, none⟩ (.bool true) = wA) := by show _ = _; rw [e1]; exact eA
  rw [← e1] at c0 c7 z7
  have EB : Hid (wA.drew.setCells g (k * 11 + 7) [.int .i64 ry, .int .i64 rm, .slice qa rows.length qc] = wB) := eB
  have TH : Hid (wA.drew.there g (k * 11 + 7) 3) := thA
  have RC : Hid _ := rC
  clear h b1 gb e1 d1 hv ho hr hh hP hbase hq hqn hsz hqg hg1 hgc nP nB lP lB sA eA othA bA szA s2 s3 s4 thA eB sB othB bB szB hqB rC oC bC bC' sC s5 q9 oth on
  go_enter Try.func21, Try.ntmps21
  go_wp2_with fail
  rw [EA.out]
  clear c0 c7 z7
  refine wp_region_held_drew (S := fun W => W.heap[P]? = w1.heap[P]? ∧ W.heap[w.heap.size]? = w1.heap[w.heap.size]?) (by kernel_rfl) SA.out (fun hHeld => ?_)
  refine take_run (i := 0) (oi := { dst := some 36, op := Go.Op.move (Go.Operand.tmp 0), type := 52, pos := "ref.go:156", after := #[], guard := none }) (v := .pointer (some ⟨P, 0, none⟩)) rfl (by kernel_rfl) (by kernel_rfl) (by kernel_rfl) (fun _ _ _ h => h) (by rfl) ?_ hHeld ?_
  · (intro wq hSw; go_simp <;> with_reducible rfl)
  try simp only [Act.put, List.setIfInBounds_toArray, List.set_cons_zero, List.set_cons_succ]
  refine take_run (i := 1) (oi := { dst := some 37, op := Go.Op.nilCheck (Go.Operand.tmp 36), type := 0, pos := "ref.go:156", after := #[{ on := 0, ground := Go.Ground.data }], guard := none }) (v := .pointer (some ⟨P, 0, none⟩)) rfl (by kernel_rfl) (by kernel_rfl) (by kernel_rfl) (fun _ _ _ h => h) (by rfl) ?_ hHeld ?_
  · (intro wq hSw; go_simp <;> with_reducible rfl)
  try simp only [Act.put, List.setIfInBounds_toArray, List.set_cons_zero, List.set_cons_succ]
  refine take_run (i := 2) (oi := { dst := some 38, op := Go.Op.fieldAddr 55 (Go.Operand.tmp 37) 0, type := 0, pos := "ref.go:156", after := #[{ on := 1, ground := Go.Ground.data }], guard := none }) (v := .pointer (some ⟨P, 0, none⟩)) rfl (by kernel_rfl) (by kernel_rfl) (by kernel_rfl) (fun _ _ _ h => h) (by rfl) ?_ hHeld ?_
  · (intro wq hSw; go_simp <;> with_reducible rfl)
  try simp only [Act.put, List.setIfInBounds_toArray, List.set_cons_zero, List.set_cons_succ]
  refine take_run (i := 3) (oi := { dst := some 39, op := Go.Op.load 53 (Go.Operand.tmp 38), type := 53, pos := "ref.go:156", after := #[{ on := 2, ground := Go.Ground.data }], guard := none }) (v := .slice (some ⟨g, 0, none⟩) L.length cap) rfl (by kernel_rfl) (by kernel_rfl) (by kernel_rfl) (fun _ _ _ h => h) (by rfl) ?_ hHeld ?_
  · (intro wq hSw; have hk := KP.out wq hSw.1; go_simp <;> with_reducible rfl)
  try simp only [Act.put, List.setIfInBounds_toArray, List.set_cons_zero, List.set_cons_succ]
  refine take_run (i := 4) (oi := { dst := some 40, op := Go.Op.move (Go.Operand.tmp 1), type := 3, pos := "ref.go:156", after := #[], guard := none }) (v := .int .i64 (k : Int)) rfl (by kernel_rfl) (by kernel_rfl) (by kernel_rfl) (fun _ _ _ h => h) (by rfl) ?_ hHeld ?_
  · (intro wq hSw; go_simp <;> with_reducible rfl)
  try simp only [Act.put, List.setIfInBounds_toArray, List.set_cons_zero, List.set_cons_succ]
  refine take_row (i := 5) (oi := { dst := some 41, op := Go.Op.load 28 (Go.Operand.tmp 5), type := 28, pos := "ref.go:156", after := #[], guard := none }) rfl (by kernel_rfl) (by kernel_rfl) (by kernel_rfl) 28 (.tmp 5) w.heap.size 28 #[.int .i64 ry, .int .i64 rm, .slice qa rows.length qc] (0, 0) _ (fun _ _ _ h => h) (by rfl) rfl (by go_simp <;> with_reducible rfl) (fun W hW => KB.out W hW.2) Try.underlying28 rfl (by kernel_rfl) hHeld ?_
  try simp only [Act.put, List.setIfInBounds_toArray, List.set_cons_zero, List.set_cons_succ]
  refine take_run (i := 6) (oi := { dst := some 42, op := Go.Op.indexAddr 53 (Go.Operand.tmp 39) (Go.Operand.tmp 40), type := 0, pos := "ref.go:156", after := #[{ on := 3, ground := Go.Ground.data }, { on := 4, ground := Go.Ground.data }, { on := 0, ground := Go.Ground.phase }, { on := 1, ground := Go.Ground.phase }, { on := 2, ground := Go.Ground.phase }, { on := 3, ground := Go.Ground.phase }, { on := 4, ground := Go.Ground.phase }, { on := 5, ground := Go.Ground.phase }], guard := none }) (v := .pointer (some ⟨g, k * 11, none⟩)) rfl (by kernel_rfl) (by kernel_rfl) (by kernel_rfl) (fun _ _ _ h => h) (by rfl) ?_ hHeld ?_
  · (intro wq hSw; go_simp <;> with_reducible rfl)
  try simp only [Act.put, List.setIfInBounds_toArray, List.set_cons_zero, List.set_cons_succ]
  refine take_run (i := 7) (oi := { dst := some 43, op := Go.Op.fieldAddr 85 (Go.Operand.tmp 42) 1, type := 0, pos := "ref.go:156", after := #[{ on := 6, ground := Go.Ground.data }, { on := 0, ground := Go.Ground.phase }, { on := 1, ground := Go.Ground.phase }, { on := 2, ground := Go.Ground.phase }, { on := 3, ground := Go.Ground.phase }, { on := 4, ground := Go.Ground.phase }, { on := 5, ground := Go.Ground.phase }], guard := none }) (v := .pointer (some ⟨g, k * 11 + 7, none⟩)) rfl (by kernel_rfl) (by kernel_rfl) (by kernel_rfl) (fun _ _ _ h => h) (by rfl) ?_ hHeld ?_
  · (intro wq hSw; go_simp <;> with_reducible rfl)
  try simp only [Act.put, List.setIfInBounds_toArray, List.set_cons_zero, List.set_cons_succ]
  refine take_eff (i := 8) (oi := { dst := none, op := Go.Op.store 28 (Go.Operand.tmp 43) (Go.Operand.tmp 41), type := 0, pos := "ref.go:156", after := #[{ on := 7, ground := Go.Ground.data }, { on := 5, ground := Go.Ground.data }, { on := 0, ground := Go.Ground.phase }, { on := 1, ground := Go.Ground.phase }, { on := 2, ground := Go.Ground.phase }, { on := 3, ground := Go.Ground.phase }, { on := 4, ground := Go.Ground.phase }, { on := 5, ground := Go.Ground.phase }], guard := none }) (w' := wB) rfl (by kernel_rfl) (by rfl) (by
    rw [← EB.out]
    exact exec_storeMid (ty := 28) (x := .tmp 43) (y := .tmp 41) (b := g) (o' := k * 11 + 7) (cells := #[.int .i64 ry, .int .i64 rm, .slice qa rows.length qc]) rfl (by go_simp <;> with_reducible rfl) (by go_simp <;> with_reducible rfl) TH.out (by kernel_rfl) (by simp [Value.oneCell'])) SB.out ?_
  try simp only [Act.put]
  refine wpAnyH_done (by kernel_rfl) ?_ _
  clear hHeld EB TH SA
  go_wp2_with fail
  refine wp_region_held_drew (S := fun W => W.heap[P]? = w1.heap[P]? ∧ W.heap[w.heap.size]? = w1.heap[w.heap.size]?) (by kernel_rfl) SB.out (fun hHeld => ?_)
  refine take_run (i := 0) (oi := { dst := some 44, op := Go.Op.move (Go.Operand.tmp 0), type := 52, pos := "ref.go:157", after := #[], guard := none }) (v := .pointer (some ⟨P, 0, none⟩)) rfl (by kernel_rfl) (by kernel_rfl) (by kernel_rfl) (fun _ _ _ h => h) (by rfl) ?_ hHeld ?_
  · (intro wq hSw; go_simp <;> with_reducible rfl)
  try simp only [Act.put, List.setIfInBounds_toArray, List.set_cons_zero, List.set_cons_succ]
  refine take_run (i := 1) (oi := { dst := some 45, op := Go.Op.nilCheck (Go.Operand.tmp 44), type := 0, pos := "ref.go:157", after := #[{ on := 0, ground := Go.Ground.data }], guard := none }) (v := .pointer (some ⟨P, 0, none⟩)) rfl (by kernel_rfl) (by kernel_rfl) (by kernel_rfl) (fun _ _ _ h => h) (by rfl) ?_ hHeld ?_
  · (intro wq hSw; go_simp <;> with_reducible rfl)
  try simp only [Act.put, List.setIfInBounds_toArray, List.set_cons_zero, List.set_cons_succ]
  refine take_run (i := 2) (oi := { dst := some 46, op := Go.Op.fieldAddr 55 (Go.Operand.tmp 45) 0, type := 0, pos := "ref.go:157", after := #[{ on := 1, ground := Go.Ground.data }], guard := none }) (v := .pointer (some ⟨P, 0, none⟩)) rfl (by kernel_rfl) (by kernel_rfl) (by kernel_rfl) (fun _ _ _ h => h) (by rfl) ?_ hHeld ?_
  · (intro wq hSw; go_simp <;> with_reducible rfl)
  try simp only [Act.put, List.setIfInBounds_toArray, List.set_cons_zero, List.set_cons_succ]
  refine take_run (i := 3) (oi := { dst := some 47, op := Go.Op.load 53 (Go.Operand.tmp 46), type := 53, pos := "ref.go:157", after := #[{ on := 2, ground := Go.Ground.data }], guard := none }) (v := .slice (some ⟨g, 0, none⟩) L.length cap) rfl (by kernel_rfl) (by kernel_rfl) (by kernel_rfl) (fun _ _ _ h => h) (by rfl) ?_ hHeld ?_
  · (intro wq hSw; have hk := KP.out wq hSw.1; go_simp <;> with_reducible rfl)
  try simp only [Act.put, List.setIfInBounds_toArray, List.set_cons_zero, List.set_cons_succ]
  refine take_run (i := 4) (oi := { dst := some 48, op := Go.Op.move (Go.Operand.tmp 1), type := 3, pos := "ref.go:157", after := #[], guard := none }) (v := .int .i64 (k : Int)) rfl (by kernel_rfl) (by kernel_rfl) (by kernel_rfl) (fun _ _ _ h => h) (by rfl) ?_ hHeld ?_
  · (intro wq hSw; go_simp <;> with_reducible rfl)
  try simp only [Act.put, List.setIfInBounds_toArray, List.set_cons_zero, List.set_cons_succ]
  refine take_run (i := 5) (oi := { dst := some 49, op := Go.Op.move (Go.Operand.tmp 7), type := 26, pos := "ref.go:157", after := #[], guard := none }) (v := .slice none 0 0) rfl (by kernel_rfl) (by kernel_rfl) (by kernel_rfl) (fun _ _ _ h => h) (by rfl) ?_ hHeld ?_
  · (intro wq hSw; go_simp <;> with_reducible rfl)
  try simp only [Act.put, List.setIfInBounds_toArray, List.set_cons_zero, List.set_cons_succ]
  refine take_run (i := 6) (oi := { dst := some 50, op := Go.Op.fieldAddr 28 (Go.Operand.tmp 5) 2, type := 0, pos := "ref.go:157", after := #[], guard := none }) (v := .pointer (some ⟨w.heap.size, 2, none⟩)) rfl (by kernel_rfl) (by kernel_rfl) (by kernel_rfl) (fun _ _ _ h => h) (by rfl) ?_ hHeld ?_
  · (intro wq hSw; go_simp <;> with_reducible rfl)
  try simp only [Act.put, List.setIfInBounds_toArray, List.set_cons_zero, List.set_cons_succ]
  refine take_run (i := 7) (oi := { dst := some 51, op := Go.Op.load 26 (Go.Operand.tmp 50), type := 26, pos := "ref.go:157", after := #[{ on := 6, ground := Go.Ground.data }], guard := none }) (v := .slice qa rows.length qc) rfl (by kernel_rfl) (by kernel_rfl) (by kernel_rfl) (fun _ _ _ h => h) (by rfl) ?_ hHeld ?_
  · (intro wq hSw; have hk := K2.out wq hSw.2; go_simp <;> with_reducible rfl)
  try simp only [Act.put, List.setIfInBounds_toArray, List.set_cons_zero, List.set_cons_succ]
  refine take_val (i := 8) (oi := { dst := some 52, op := Go.Op.call { callee := Go.Callee.builtin Go.Builtin.append, args := #[Go.Operand.tmp 49, Go.Operand.tmp 51], argTypes := #[26, 26] }, type := 26, pos := "ref.go:157", after := #[{ on := 5, ground := Go.Ground.data }, { on := 7, ground := Go.Ground.data }], guard := none }) (w' := wC) (.slice a5 rows.length c5) rfl (by kernel_rfl) (by rfl) (exec_appendK rfl (by go_simp <;> with_reducible rfl) (by go_simp <;> with_reducible rfl) RC.out) SC.out ?_
  try simp only [Act.put, List.setIfInBounds_toArray, List.set_cons_zero, List.set_cons_succ]
  refine take_run (i := 9) (oi := { dst := some 53, op := Go.Op.indexAddr 53 (Go.Operand.tmp 47) (Go.Operand.tmp 48), type := 0, pos := "ref.go:157", after := #[{ on := 3, ground := Go.Ground.data }, { on := 4, ground := Go.Ground.data }, { on := 0, ground := Go.Ground.phase }, { on := 1, ground := Go.Ground.phase }, { on := 2, ground := Go.Ground.phase }, { on := 3, ground := Go.Ground.phase }, { on := 4, ground := Go.Ground.phase }, { on := 5, ground := Go.Ground.phase }, { on := 6, ground := Go.Ground.phase }, { on := 7, ground := Go.Ground.phase }, { on := 8, ground := Go.Ground.phase }], guard := none }) (v := .pointer (some ⟨g, k * 11, none⟩)) rfl (by kernel_rfl) (by kernel_rfl) (by kernel_rfl) (fun _ _ _ h => h) (by rfl) ?_ SC.out ?_
  · (intro wq hSw; go_simp <;> with_reducible rfl)
  try simp only [Act.put, List.setIfInBounds_toArray, List.set_cons_zero, List.set_cons_succ]
  refine take_run (i := 10) (oi := { dst := some 54, op := Go.Op.fieldAddr 85 (Go.Operand.tmp 53) 1, type := 0, pos := "ref.go:157", after := #[{ on := 9, ground := Go.Ground.data }, { on := 0, ground := Go.Ground.phase }, { on := 1, ground := Go.Ground.phase }, { on := 2, ground := Go.Ground.phase }, { on := 3, ground := Go.Ground.phase }, { on := 4, ground := Go.Ground.phase }, { on := 5, ground := Go.Ground.phase }, { on := 6, ground := Go.Ground.phase }, { on := 7, ground := Go.Ground.phase }, { on := 8, ground := Go.Ground.phase }], guard := none }) (v := .pointer (some ⟨g, k * 11 + 7, none⟩)) rfl (by kernel_rfl) (by kernel_rfl) (by kernel_rfl) (fun _ _ _ h => h) (by rfl) ?_ SC.out ?_
  · (intro wq hSw; go_simp <;> with_reducible rfl)
  try simp only [Act.put, List.setIfInBounds_toArray, List.set_cons_zero, List.set_cons_succ]
  refine take_run (i := 11) (oi := { dst := some 55, op := Go.Op.fieldAddr 28 (Go.Operand.tmp 54) 2, type := 0, pos := "ref.go:157", after := #[{ on := 10, ground := Go.Ground.data }, { on := 0, ground := Go.Ground.phase }, { on := 1, ground := Go.Ground.phase }, { on := 2, ground := Go.Ground.phase }, { on := 3, ground := Go.Ground.phase }, { on := 4, ground := Go.Ground.phase }, { on := 5, ground := Go.Ground.phase }, { on := 6, ground := Go.Ground.phase }, { on := 7, ground := Go.Ground.phase }, { on := 8, ground := Go.Ground.phase }], guard := none }) (v := .pointer (some ⟨g, k * 11 + 9, none⟩)) rfl (by kernel_rfl) (by kernel_rfl) (by kernel_rfl) (fun _ _ _ h => h) (by rfl) ?_ SC.out ?_
  · (intro wq hSw; go_simp <;> with_reducible rfl)
  try simp only [Act.put, List.setIfInBounds_toArray, List.set_cons_zero, List.set_cons_succ]
  obtain ⟨cv, hcv⟩ := Option.isSome_iff_exists.1 KC.out.1
  have hcz := KC.out.2
  refine take_eff (i := 12) (oi := { dst := none, op := Go.Op.store 26 (Go.Operand.tmp 55) (Go.Operand.tmp 52), type := 0, pos := "ref.go:157", after := #[{ on := 11, ground := Go.Ground.data }, { on := 8, ground := Go.Ground.data }, { on := 8, ground := Go.Ground.chain }, { on := 0, ground := Go.Ground.phase }, { on := 1, ground := Go.Ground.phase }, { on := 2, ground := Go.Ground.phase }, { on := 3, ground := Go.Ground.phase }, { on := 4, ground := Go.Ground.phase }, { on := 5, ground := Go.Ground.phase }, { on := 6, ground := Go.Ground.phase }, { on := 7, ground := Go.Ground.phase }, { on := 8, ground := Go.Ground.phase }], guard := none }) (w' := wC.setCell ⟨g, k * 11 + 9, none⟩ (.slice a5 rows.length c5)) rfl (by kernel_rfl) (by rfl) (by go_simp <;> with_reducible rfl) SD.out ?_
  try simp only [Act.put]
  refine wpAnyH_done (by kernel_rfl) ?_ _
  clear hHeld hcv hcz
  go_wp2
  go_ret
  exact ⟨a5, c5, rfl, FIN.out, ON.out, BL.out, LO.out⟩
end Go.Proofs.Ytaakdnbaljoehaa
