/- The reference's disk: New and Load. -/
import Derived.Test.YtnpebdnfdbeiaaaRDsk
import Derived.Test.YtnpebdnfdbeiaaaRanges
namespace Go.Proofs.Ytnpebdnfdbeiaaa
open Go.RowKit
set_option linter.unusedVariables false

/-- Some first sectors of a disk that is being made. -/
structure RPart (w0 w : World) (R : Nat) (sv : Value) (gs : List Nat) (f : Nat → List (BitVec 8)) : Prop where
  hd : w.heap[R]? = some (.cells #[sv, .slice none 0 0, .bool false, .bool false, .bool false] 39 (0, 0))
  hs : w.ownsRow w0.heap.size 22 1 sv gs.length (gs.map sl)
  cs : ∀ i (h : i < gs.length), Con w gs[i] (f i)
  fr : w0.heap.size ≤ R ∧ ∀ g ∈ gs, w0.heap.size ≤ g
  b : Below w0.heap.size w0 w
theorem RPart.below {w0 w w' : World} {R : Nat} {sv : Value} {gs : List Nat} {f : Nat → List (BitVec 8)} (h : RPart w0 w R sv gs f) (b : Below w.heap.size w w') : RPart w0 w' R sv gs f :=
  ⟨by rw [b.block _ (Array.getElem?_eq_some_iff.1 h.hd).1]; exact h.hd, owns_same h.hs (fun k e => b.block k (h.hs.lt k e).2), fun i hi => (h.cs i hi).below b, h.fr, h.b.trans (b.mono h.b.size)⟩
theorem RPart.cell {w0 w : World} {R : Nat} {sv : Value} {gs : List Nat} {f : Nat → List (BitVec 8)} (h : RPart w0 w R sv gs f) : w.cell? ⟨R, 0, none⟩ = some sv ∧ ∀ i, w.frozen? ⟨R, i, none⟩ = false := by simp [World.cell?, World.frozen?, h.hd]
theorem owns_base {w : World} {base z n : Nat} {t : TypeId} {v : Value} {xs : List Value} (h : w.ownsRow base t z v n xs) : w.ownsRow 0 t z v n xs := ⟨h.1, h.2.imp id (fun ⟨g, c, cur, e, _, r⟩ => ⟨g, c, cur, e, Nat.zero_le _, r⟩)⟩
theorem loadD_ok {l : List (BitVec 8)} {n : Nat} (h1 : 1 ≤ n) (h2 : n ≤ 4096) (h3 : l.length = 256 * n) : (loadD l).ok n := ⟨h1, h2, h3, h3, (fun x hx => nomatch hx), by simp [loadD]⟩
theorem seen_mid {w : World} {ga off n k : Nat} {l : List (BitVec 8)} (h : Seen w (some ⟨ga, off, none⟩) (256 * n) l) (hl : l.length = 256 * n) (hk : k < n) : Seen w (some ⟨ga, off + k * 256, none⟩) 256 (sec l k) := by
  refine ⟨(sec_length (by omega)).symm, by rw [sec_length (by omega)]; unfold maxLen; omega, .inr ⟨ga, off + k * 256, rfl, fun j hj => ?_⟩⟩
  rw [sec_length (by omega)] at hj
  rcases h.2.2 with e | ⟨b, o, e, hc⟩
  · omega
  · cases e
    have := hc (256 * k + j) (by omega)
    rw [show off + (256 * k + j) = off + k * 256 + j by omega] at this
    rw [this]
    have e2 : (sec l k).getD j 0#8 = l.getD (256 * k + j) 0#8 := by rw [List.getD_eq_getElem?_getD, List.getD_eq_getElem?_getD, sec_at, if_pos hj]
    rw [e2]
theorem infoB : (Try.prog.info? 22).map (fun i => (i.zero, i.size, i.bytes)) = some (some (.slice none 0 0), 1, 24) := by kernel_rfl
theorem RPart.grow {w0 w : World} {R : Nat} {sv : Value} {gs : List Nat} {f : Nat → List (BitVec 8)} (h : RPart w0 w R sv gs f) {g : Nat} {l : List (BitVec 8)} (hg : Con w g l) (he : l = f gs.length) (hb : w0.heap.size ≤ g) (hk : gs.length ≤ 100000) :
    ∃ G c w3, (Builtin.append_ #[36, 36] 36 #[sv, .slice (some ⟨w.heap.size, 0, none⟩) 1 1]).run Try.prog (w.alloc (.cells #[.slice (some ⟨g, 0, none⟩) 256 256] 22)) = .ok (.slice (some ⟨G, 0, none⟩) (gs.length + 1) c) w3 ∧
      w3.cell? ⟨R, 0, none⟩ = some sv ∧ w3.frozen? ⟨R, 0, none⟩ = false ∧ RPart w0 (w3.setCell ⟨R, 0, none⟩ (.slice (some ⟨G, 0, none⟩) (gs.length + 1) c)) R (.slice (some ⟨G, 0, none⟩) (gs.length + 1) c) (gs ++ [g]) f := by
  have bA := (Below.refl w.heap.size w).alloc (Nat.le_refl _) (.cells #[.slice (some ⟨g, 0, none⟩) 256 256] 22)
  have h1 := h.below bA
  obtain ⟨i0, hi, hz0, hz1, hz2⟩ := info_parts infoB
  obtain ⟨G, c, w3, hr, o3, gr, hat, hlt⟩ := run_append_lies (P := Try.prog) (w.alloc (.cells #[.slice (some ⟨g, 0, none⟩) 256 256] 22)) 36 36 w0.heap.size 22 i0 _ 1 24 Try.underlying36 hi hz0 hz1 hz2 rfl (by omega) sv gs.length (gs.map sl) h1.hs
    ⟨w.heap.size, 0, none⟩ 1 1 [sl g] (by rfl) (World.news_of_block (cs := #[.slice (some ⟨g, 0, none⟩) 256 256]) (t := 22) (fr := (0, 0)) (heap_alloc_new w _)) (by simp [Value.oneCell']) (by omega) (by unfold maxLen; omega) (by omega) h1.b.size _ rfl
  have nR : ∀ k, sv.ownBlock = some k → k ≠ R := fun k e x => by
    obtain ⟨cur, hk⟩ := owns_block h1.hs e
    rw [x, h1.hd] at hk
    cases hk
  have zR : R < (w.alloc (.cells #[.slice (some ⟨g, 0, none⟩) 256 256] 22)).heap.size := (Array.getElem?_eq_some_iff.1 h1.hd).1
  have kR : w3.heap[R]? = _ := (gr.block R zR (fun e => nR R e.symm rfl)).trans h1.hd
  have kc : ∀ (j : Nat) (l : List (BitVec 8)), Con (w.alloc (.cells #[.slice (some ⟨g, 0, none⟩) 256 256] 22)) j l → Con (w3.setCell ⟨R, 0, none⟩ (.slice (some ⟨G, 0, none⟩) (gs.length + 1) c)) j l := fun j l hj => by
    have h2 : j ≠ R := fun x => by
      obtain ⟨cur, hk⟩ := owns_block hj rfl
      rw [x, h1.hd] at hk
      cases hk
    refine hj.same ?_
    rw [Below.heap_setCell _ _ _ j (fun e => h2 (by simpa using e))]
    exact gr.block j hj.lt (fun e => owns_ne h1.hs hj (by decide) e.symm rfl)
  have nG : G ≠ R := fun x => by
    rcases hat with e | e
    · exact nR G e x
    · omega
  refine ⟨G, c, w3, hr, by simp [World.cell?, kR], by simp [World.frozen?, kR], ⟨?_, ?_, fun i hi => ?_, ⟨h.fr.1, fun x hx => ?_⟩, ?_⟩⟩
  · have := block_put kR 0 (.slice (some ⟨G, 0, none⟩) (gs.length + 1) c)
    simpa using this
  · rw [List.map_append, List.length_append]
    refine owns_same o3 (fun k e => Below.heap_setCell _ _ _ k (fun e2 => ?_))
    obtain rfl : G = k := by simpa [Value.ownBlock] using e
    exact nG (by simpa using e2)
  · by_cases x : i < gs.length
    · rw [List.getElem_append_left x]
      exact kc _ _ (h1.cs i x)
    · obtain rfl : i = gs.length := by simp at hi; omega
      rw [List.getElem_append_right (Nat.le_refl _)]
      simp only [Nat.sub_self, List.getElem_cons_zero]
      rw [← he]
      exact kc _ _ (hg.below bA)
  · rcases List.mem_append.1 hx with hx | hx
    · exact h.fr.2 x hx
    · rw [List.mem_singleton.1 hx]; exact hb
  · exact (h1.b.grown gr h1.b.size (fun k e => (h1.hs.lt k e).1)).setCell (p := ⟨R, 0, none⟩) h.fr.1 _

set_option maxRecDepth 100000 in
set_option maxHeartbeats 3200000 in
theorem refLoad_any (a : Option Addr) (n cap : Nat) (l : List (BitVec 8)) (w : World) (h1 : 1 ≤ n) (h2 : n ≤ 4096) (hs : Seen w a (256 * n) l) (hcap : 256 * n ≤ cap) (hcm : cap ≤ maxLen) :
    Calls Try.prog 8 #[.slice a (256 * n) cap] w fun e w' => ∃ m : RM, e = .returned (.tuple #[.pointer (some ⟨m.R, 0, none⟩), .int .i64 0]) ∧ RDsk w' m n (loadD l) ∧ Below w.heap.size w w' ∧ ∀ k, m.all k → w.heap.size ≤ k := by
  have hl : l.length = 256 * n := hs.1.symm
  obtain ⟨ga, off, rfl, hcell⟩ : ∃ ga off, a = some ⟨ga, off, none⟩ ∧ ∀ j, j < l.length → w.cell? ⟨ga, off + j, none⟩ = some (.int .u8 (V (l.getD j 0#8))) := by
    rcases hs.2.2 with e | e
    · omega
    · exact e
  have hwr : wrap64 (n : Int) = n := by unfold wrap64; omega
  have hq : Int.tdiv (256 * (n : Int)) 256 = n := by rw [Int.mul_comm]; exact Int.mul_tdiv_cancel _ (by decide)
  have hr : Int.tmod (256 * (n : Int)) 256 = 0 := by rw [Int.mul_comm]; exact Int.mul_tmod_left _ _
  have g1 : ¬ (n : Int) < 1 := by omega
  have g2 : ¬ (4096 : Int) < (n : Int) := by omega
  have HS : Hid (Seen w (some ⟨ga, off, none⟩) (256 * n) l) := hs
  have H12 : Hid (1 ≤ n ∧ n ≤ 4096 ∧ l.length = 256 * n ∧ 256 * n ≤ cap) := ⟨h1, h2, hl, hcap⟩
  have hcb : (cap : Int) ≤ 9223372036854775807 := by unfold maxLen at hcm; omega
  clear h1 h2 hs hl hcap hcell hcm
  go_enter Try.func8, Try.ntmps8
  go_wp2_with fail
  try rw [hwr]
  have P0 : Hid (RPart w (w.alloc (.cells #[.slice none 0 0, .slice none 0 0, .bool false, .bool false, .bool false] 39)) w.heap.size (.slice none 0 0) [] (fun i => sec l i)) := ⟨heap_alloc_new w _, World.ownsRow_nil _ _ _ _, (fun i hi => nomatch hi), ⟨Nat.le_refl _, (fun g hg => nomatch hg)⟩, (Below.refl _ w).alloc (Nat.le_refl _) _⟩
  have hsz : (w.alloc (.cells #[.slice none 0 0, .slice none 0 0, .bool false, .bool false, .bool false] 39)).heap.size = w.heap.size + 1 := by simp
  go_loopw [6] (fun i wr => ∃ (k : Nat) (gs : List Nat) (sv : Value) (va : Option Addr) (vc : Nat), sv = .slice va gs.length vc ∧ i = .int .i64 k ∧ k = gs.length ∧ Hid (k ≤ n) ∧ Hid (RPart w wr w.heap.size sv gs (fun i => sec l i))) (fun i _ => n - (intOf i).toNat)
  case atStart => exact ⟨0, [], _, none, 0, rfl, rfl, rfl, Nat.zero_le _, P0.out⟩
  case round =>
    clear P0
    obtain ⟨k, gs, sv, va, vc, rfl, rfl, rfl, hk, HP⟩ := hrel
    by_cases hlt : gs.length < n
    · have h1 : (gs.length : Int) < (n : Int) := by omega
      have HLT : Hid (gs.length < n) := hlt
      have h2 : (gs.length : Int) < 4096 := by have := H12.out.2.1; omega
      have WK : Hid ((gs.length : Int) + 1 = ((gs.length + 1 : Nat) : Int)) := by show (gs.length : Int) + 1 = ((gs.length + 1 : Nat) : Int); omega
      have HLN : Hid (∀ g, (gs ++ [g]).length = gs.length + 1) := fun g => by simp
      have e256 : (sec l gs.length).length = 256 := sec_length (by have := H12.out.2.2.1; omega)
      have HF : Hid (Calls Try.prog 19 #[.slice (some ⟨ga, off + gs.length * 256, none⟩) 256 (cap - gs.length * 256)] wr.drew _) := full_ref _ _ _ (sec l gs.length) wr.drew ((seen_mid (HS.out.below HP.out.b) H12.out.2.2.1 hlt).below (Below.refl _ wr).drew)
      have GROW : Hid (∀ x1 g, Below wr.drew.heap.size wr.drew x1 → wr.drew.heap.size ≤ g → Con x1 g (pad ((sec l gs.length).take 256)) → _) := fun x1 g bx h0 h1 => RPart.grow (HP.out.below ((Below.refl wr.heap.size wr).drew.trans bx)) h1 (pad_full e256) (Nat.le_trans HP.out.b.size h0) (by have := H12.out.2.1; omega)
      have c0 := (HP.out.below (Below.refl wr.heap.size wr).drew).cell.1
      have CB : Hid (∀ x1, Below wr.drew.heap.size wr.drew x1 → x1.cell? ⟨w.heap.size, 0, none⟩ = some (.slice va gs.length vc) ∧ ∀ o, (x1.alloc o).cell? ⟨w.heap.size, 0, none⟩ = some (.slice va gs.length vc)) := fun x1 bx => ⟨(HP.out.below ((Below.refl wr.heap.size wr).drew.trans bx)).cell.1, fun o => ((HP.out.below ((Below.refl wr.heap.size wr).drew.trans bx)).below ((Below.refl x1.heap.size x1).alloc (Nat.le_refl _) o)).cell.1⟩
      have hs1 : (gs.length : Int) * 256 ≤ ((gs.length : Int) + 1) * 256 := by omega
      have hs2 : ((gs.length : Int) + 1) * 256 ≤ (cap : Int) := by have := H12.out.2.2.2; omega
      have hs3 : ¬ (cap - gs.length * 256 = 0) := by have := H12.out.2.2.2; omega
      have hs4 : ¬ (cap = gs.length * 256) := by have := H12.out.2.2.2; omega
      have t1 : ((gs.length : Int) * 256).toNat = gs.length * 256 := by omega
      have t2 : (((gs.length : Int) + 1) * 256).toNat = (gs.length + 1) * 256 := by omega
      have t3 : (gs.length + 1) * 256 - gs.length * 256 = 256 := by omega
      have wr1 : IntKind.i64.wrap ((gs.length : Int) * 256) = (gs.length : Int) * 256 := by rw [IntKind.wrap_i64]; omega
      have wr2 : IntKind.i64.wrap ((gs.length : Int) + 1) = (gs.length : Int) + 1 := by rw [IntKind.wrap_i64]; omega
      have wr3 : IntKind.i64.wrap (((gs.length : Int) + 1) * 256) = ((gs.length : Int) + 1) * 256 := by rw [IntKind.wrap_i64]; omega
      have p1 : (0 : Int) ≤ (gs.length : Int) * 256 := by omega
      have p2 : (0 : Int) ≤ ((gs.length : Int) + 1) * 256 := by omega
      have p3 : (gs.length : Int) ≤ (gs.length : Int) + 1 := by omega
      clear hlt hk HS e256
      go_wp2_with fail
      refine (wpIn_wide (n := 1)).1 ?_
      refine wpIn_region_any (by kernel_rfl) ?_
      change wpAnyIn _ _ _ _ _ _ _ _ _ (World.drew _)
      refine any_take 0 (oi := { dst := some 29, op := Go.Op.move (Go.Operand.tmp 5), type := 28, pos := "ref.go:53", after := #[], guard := none }) (.pointer (some ⟨w.heap.size, 0, none⟩)) rfl (by kernel_rfl) (by kernel_rfl) (by kernel_rfl) (fun _ _ _ h => h) (by rfl) (by intro wq; go_simp <;> with_reducible rfl) (fun _ => rfl) ?_
      simp only [Act.put, List.setIfInBounds_toArray, List.set_cons_zero, List.set_cons_succ]
      refine any_take 1 (oi := { dst := some 30, op := Go.Op.move (Go.Operand.tmp 5), type := 28, pos := "ref.go:53", after := #[], guard := none }) (.pointer (some ⟨w.heap.size, 0, none⟩)) rfl (by kernel_rfl) (by kernel_rfl) (by kernel_rfl) (fun _ _ _ h => h) (by rfl) (by intro wq; go_simp <;> with_reducible rfl) (fun _ => rfl) ?_
      simp only [Act.put, List.setIfInBounds_toArray, List.set_cons_zero, List.set_cons_succ]
      refine any_take 2 (oi := { dst := some 31, op := Go.Op.nilCheck (Go.Operand.tmp 30), type := 0, pos := "ref.go:53", after := #[{ on := 1, ground := Go.Ground.data }], guard := none }) (.pointer (some ⟨w.heap.size, 0, none⟩)) rfl (by kernel_rfl) (by kernel_rfl) (by kernel_rfl) (fun _ _ _ h => h) (by rfl) (by intro wq; go_simp <;> with_reducible rfl) (fun _ => rfl) ?_
      simp only [Act.put, List.setIfInBounds_toArray, List.set_cons_zero, List.set_cons_succ]
      refine any_take 3 (oi := { dst := some 32, op := Go.Op.fieldAddr 39 (Go.Operand.tmp 31) 0, type := 0, pos := "ref.go:53", after := #[{ on := 2, ground := Go.Ground.data }], guard := none }) (.pointer (some ⟨w.heap.size, 0, none⟩)) rfl (by kernel_rfl) (by kernel_rfl) (by kernel_rfl) (fun _ _ _ h => h) (by rfl) (by intro wq; go_simp <;> with_reducible rfl) (fun _ => rfl) ?_
      simp only [Act.put, List.setIfInBounds_toArray, List.set_cons_zero, List.set_cons_succ]
      refine any_take 5 (oi := { dst := some 34, op := Go.Op.move (Go.Operand.tmp 0), type := 22, pos := "ref.go:53", after := #[], guard := none }) (.slice (some ⟨ga, off, none⟩) (256 * n) cap) rfl (by kernel_rfl) (by kernel_rfl) (by kernel_rfl) (fun _ _ _ h => h) (by rfl) (by intro wq; go_simp <;> with_reducible rfl) (fun _ => rfl) ?_
      simp only [Act.put, List.setIfInBounds_toArray, List.set_cons_zero, List.set_cons_succ]
      refine any_take 6 (oi := { dst := some 35, op := Go.Op.move (Go.Operand.tmp 6), type := 3, pos := "ref.go:53", after := #[], guard := none }) (.int .i64 (gs.length : Int)) rfl (by kernel_rfl) (by kernel_rfl) (by kernel_rfl) (fun _ _ _ h => h) (by rfl) (by intro wq; go_simp <;> with_reducible rfl) (fun _ => rfl) ?_
      simp only [Act.put, List.setIfInBounds_toArray, List.set_cons_zero, List.set_cons_succ]
      refine any_take 7 (oi := { dst := some 36, op := Go.Op.binOp Go.BinOp.mul 3 (Go.Operand.tmp 35) (Go.Operand.const (Go.Value.int Go.IntKind.i64 256)) 3, type := 3, pos := "ref.go:53", after := #[{ on := 6, ground := Go.Ground.data }], guard := none }) (.int .i64 ((gs.length : Int) * 256)) rfl (by kernel_rfl) (by kernel_rfl) (by kernel_rfl) (fun _ _ _ h => h) (by rfl) (by intro wq; go_simp <;> with_reducible rfl) (fun _ => rfl) ?_
      simp only [Act.put, List.setIfInBounds_toArray, List.set_cons_zero, List.set_cons_succ]
      refine any_take 8 (oi := { dst := some 37, op := Go.Op.move (Go.Operand.tmp 6), type := 3, pos := "ref.go:53", after := #[], guard := none }) (.int .i64 (gs.length : Int)) rfl (by kernel_rfl) (by kernel_rfl) (by kernel_rfl) (fun _ _ _ h => h) (by rfl) (by intro wq; go_simp <;> with_reducible rfl) (fun _ => rfl) ?_
      simp only [Act.put, List.setIfInBounds_toArray, List.set_cons_zero, List.set_cons_succ]
      refine any_take 9 (oi := { dst := some 38, op := Go.Op.binOp Go.BinOp.add 3 (Go.Operand.tmp 37) (Go.Operand.const (Go.Value.int Go.IntKind.i64 1)) 3, type := 3, pos := "ref.go:53", after := #[{ on := 8, ground := Go.Ground.data }], guard := none }) (.int .i64 ((gs.length : Int) + 1)) rfl (by kernel_rfl) (by kernel_rfl) (by kernel_rfl) (fun _ _ _ h => h) (by rfl) (by intro wq; go_simp <;> with_reducible rfl) (fun _ => rfl) ?_
      simp only [Act.put, List.setIfInBounds_toArray, List.set_cons_zero, List.set_cons_succ]
      refine any_take 10 (oi := { dst := some 39, op := Go.Op.binOp Go.BinOp.mul 3 (Go.Operand.tmp 38) (Go.Operand.const (Go.Value.int Go.IntKind.i64 256)) 3, type := 3, pos := "ref.go:53", after := #[{ on := 9, ground := Go.Ground.data }], guard := none }) (.int .i64 (((gs.length : Int) + 1) * 256)) rfl (by kernel_rfl) (by kernel_rfl) (by kernel_rfl) (fun _ _ _ h => h) (by rfl) (by intro wq; go_simp <;> with_reducible rfl) (fun _ => rfl) ?_
      simp only [Act.put, List.setIfInBounds_toArray, List.set_cons_zero, List.set_cons_succ]
      refine any_take 11 (oi := { dst := some 40, op := Go.Op.slice 22 (Go.Operand.tmp 34) (some (Go.Operand.tmp 36)) (some (Go.Operand.tmp 39)) none, type := 22, pos := "ref.go:53", after := #[{ on := 5, ground := Go.Ground.data }, { on := 7, ground := Go.Ground.data }, { on := 10, ground := Go.Ground.data }], guard := none }) (.slice (some ⟨ga, off + gs.length * 256, none⟩) 256 (cap - gs.length * 256)) rfl (by kernel_rfl) (by kernel_rfl) (by kernel_rfl) (fun _ _ _ h => h) (by rfl) (by intro wq; go_simp <;> with_reducible rfl) (fun _ => rfl) ?_
      simp only [Act.put, List.setIfInBounds_toArray, List.set_cons_zero, List.set_cons_succ]
      refine any_two 4 12 (by kernel_rfl) ?_ ?_
      · -- load, call
        refine op_value (.slice va gs.length vc) (i := 4) (oi := { dst := some 33, op := Go.Op.load 36 (Go.Operand.tmp 32), type := 36, pos := "ref.go:53", after := #[{ on := 3, ground := Go.Ground.data }], guard := none }) rfl (by rfl) (by go_simp <;> with_reducible rfl) ?_
        simp only [Act.put, List.setIfInBounds_toArray, List.set_cons_zero, List.set_cons_succ]
        refine any_one 12 (by kernel_rfl) ?_
        refine op_call (i := 12) (oi := { dst := some 41, op := Go.Op.call { callee := Go.Callee.value (Go.Operand.func 19), args := #[Go.Operand.tmp 40], argTypes := #[22] }, type := 22, pos := "ref.go:53", after := #[{ on := 11, ground := Go.Ground.data }], guard := none }) 19 _ rfl (by rfl) (by go_simp <;> with_reducible rfl) ?_
        refine (HF.out).mono ?_
        rintro e x1 ⟨g, rfl, hg0, hg1, bx⟩
        refine ⟨_, rfl, ?_⟩
        simp only [Act.put, List.setIfInBounds_toArray, List.set_cons_zero, List.set_cons_succ]
        obtain ⟨G, c, x3, hr, k0, k1, pp⟩ := GROW.out x1 g bx hg0 hg1
        have c1 := (CB.out x1 bx).1
        have cA := (CB.out x1 bx).2 (.cells #[.slice (some ⟨g, 0, none⟩) 256 256] 22)
        have HR : Hid _ := hr
        have PP : Hid _ := pp
        clear hr pp bx hg0 hg1
        refine any_one 13 (by kernel_rfl) ?_
        refine op_value (.slice (some ⟨x1.heap.size, 0, none⟩) 1 1) (i := 13) (oi := { dst := some 42, op := Go.Op.buildSlice 36 1 #[(0, Go.Operand.tmp 41)], type := 36, pos := "ref.go:53", after := #[{ on := 12, ground := Go.Ground.data }], guard := none }) rfl (by rfl) (by go_simp <;> with_reducible rfl) ?_
        simp only [Act.put, List.setIfInBounds_toArray, List.set_cons_zero, List.set_cons_succ]
        refine any_one 14 (by kernel_rfl) ?_
        refine op_value (.slice (some ⟨G, 0, none⟩) (gs.length + 1) c) (i := 14) (oi := { dst := some 43, op := Go.Op.call { callee := Go.Callee.builtin Go.Builtin.append, args := #[Go.Operand.tmp 33, Go.Operand.tmp 42], argTypes := #[36, 36] }, type := 36, pos := "ref.go:53", after := #[{ on := 4, ground := Go.Ground.data }, { on := 13, ground := Go.Ground.data }, { on := 12, ground := Go.Ground.chain }], guard := none }) rfl (by rfl) (exec_appendW (t := 36) rfl rfl rfl HR.out) ?_
        simp only [Act.put, List.setIfInBounds_toArray, List.set_cons_zero, List.set_cons_succ]
        refine any_one 15 (by kernel_rfl) ?_
        refine op_value (.pointer (some ⟨w.heap.size, 0, none⟩)) (i := 15) (oi := { dst := some 44, op := Go.Op.nilCheck (Go.Operand.tmp 29), type := 0, pos := "ref.go:53", after := #[{ on := 0, ground := Go.Ground.data }, { on := 0, ground := Go.Ground.phase }, { on := 1, ground := Go.Ground.phase }, { on := 2, ground := Go.Ground.phase }, { on := 3, ground := Go.Ground.phase }, { on := 4, ground := Go.Ground.phase }, { on := 5, ground := Go.Ground.phase }, { on := 6, ground := Go.Ground.phase }, { on := 7, ground := Go.Ground.phase }, { on := 8, ground := Go.Ground.phase }, { on := 9, ground := Go.Ground.phase }, { on := 10, ground := Go.Ground.phase }, { on := 11, ground := Go.Ground.phase }, { on := 12, ground := Go.Ground.phase }, { on := 13, ground := Go.Ground.phase }, { on := 14, ground := Go.Ground.phase }], guard := none }) rfl (by rfl) (by go_simp <;> with_reducible rfl) ?_
        simp only [Act.put, List.setIfInBounds_toArray, List.set_cons_zero, List.set_cons_succ]
        refine any_one 16 (by kernel_rfl) ?_
        refine op_value (.pointer (some ⟨w.heap.size, 0, none⟩)) (i := 16) (oi := { dst := some 45, op := Go.Op.fieldAddr 39 (Go.Operand.tmp 44) 0, type := 0, pos := "ref.go:53", after := #[{ on := 15, ground := Go.Ground.data }, { on := 0, ground := Go.Ground.phase }, { on := 1, ground := Go.Ground.phase }, { on := 2, ground := Go.Ground.phase }, { on := 3, ground := Go.Ground.phase }, { on := 4, ground := Go.Ground.phase }, { on := 5, ground := Go.Ground.phase }, { on := 6, ground := Go.Ground.phase }, { on := 7, ground := Go.Ground.phase }, { on := 8, ground := Go.Ground.phase }, { on := 9, ground := Go.Ground.phase }, { on := 10, ground := Go.Ground.phase }, { on := 11, ground := Go.Ground.phase }, { on := 12, ground := Go.Ground.phase }, { on := 13, ground := Go.Ground.phase }, { on := 14, ground := Go.Ground.phase }], guard := none }) rfl (by rfl) (by go_simp <;> with_reducible rfl) ?_
        simp only [Act.put, List.setIfInBounds_toArray, List.set_cons_zero, List.set_cons_succ]
        refine any_one 17 (by kernel_rfl) ?_
        refine op_effect (i := 17) (oi := { dst := none, op := Go.Op.store 36 (Go.Operand.tmp 45) (Go.Operand.tmp 43), type := 0, pos := "ref.go:53", after := #[{ on := 16, ground := Go.Ground.data }, { on := 14, ground := Go.Ground.data }, { on := 14, ground := Go.Ground.chain }, { on := 0, ground := Go.Ground.phase }, { on := 1, ground := Go.Ground.phase }, { on := 2, ground := Go.Ground.phase }, { on := 3, ground := Go.Ground.phase }, { on := 4, ground := Go.Ground.phase }, { on := 5, ground := Go.Ground.phase }, { on := 6, ground := Go.Ground.phase }, { on := 7, ground := Go.Ground.phase }, { on := 8, ground := Go.Ground.phase }, { on := 9, ground := Go.Ground.phase }, { on := 10, ground := Go.Ground.phase }, { on := 11, ground := Go.Ground.phase }, { on := 12, ground := Go.Ground.phase }, { on := 13, ground := Go.Ground.phase }, { on := 14, ground := Go.Ground.phase }], guard := none }) rfl (by rfl) (by go_simp <;> with_reducible rfl) ?_
        simp only [Act.put]
        refine wpAnyIn_done (by kernel_rfl) ?_ _
        go_wp2
        rw [WK.out]
        go_roundw
        case rel => exact ⟨gs.length + 1, gs ++ [g], _, some ⟨G, 0, none⟩, c, by rw [HLN.out g], rfl, (HLN.out g).symm, HLT.out, PP.out⟩
        case measure => exact less_by HLT.out
      · -- call
        refine op_call (i := 12) (oi := { dst := some 41, op := Go.Op.call { callee := Go.Callee.value (Go.Operand.func 19), args := #[Go.Operand.tmp 40], argTypes := #[22] }, type := 22, pos := "ref.go:53", after := #[{ on := 11, ground := Go.Ground.data }], guard := none }) 19 _ rfl (by rfl) (by go_simp <;> with_reducible rfl) ?_
        refine (HF.out).mono ?_
        rintro e x1 ⟨g, rfl, hg0, hg1, bx⟩
        refine ⟨_, rfl, ?_⟩
        simp only [Act.put, List.setIfInBounds_toArray, List.set_cons_zero, List.set_cons_succ]
        obtain ⟨G, c, x3, hr, k0, k1, pp⟩ := GROW.out x1 g bx hg0 hg1
        have c1 := (CB.out x1 bx).1
        have cA := (CB.out x1 bx).2 (.cells #[.slice (some ⟨g, 0, none⟩) 256 256] 22)
        have HR : Hid _ := hr
        have PP : Hid _ := pp
        clear hr pp bx hg0 hg1
        refine any_two 4 13 (by kernel_rfl) ?_ ?_
        · -- load
          refine op_value (.slice va gs.length vc) (i := 4) (oi := { dst := some 33, op := Go.Op.load 36 (Go.Operand.tmp 32), type := 36, pos := "ref.go:53", after := #[{ on := 3, ground := Go.Ground.data }], guard := none }) rfl (by rfl) (by go_simp <;> with_reducible rfl) ?_
          simp only [Act.put, List.setIfInBounds_toArray, List.set_cons_zero, List.set_cons_succ]
          refine any_one 13 (by kernel_rfl) ?_
          refine op_value (.slice (some ⟨x1.heap.size, 0, none⟩) 1 1) (i := 13) (oi := { dst := some 42, op := Go.Op.buildSlice 36 1 #[(0, Go.Operand.tmp 41)], type := 36, pos := "ref.go:53", after := #[{ on := 12, ground := Go.Ground.data }], guard := none }) rfl (by rfl) (by go_simp <;> with_reducible rfl) ?_
          simp only [Act.put, List.setIfInBounds_toArray, List.set_cons_zero, List.set_cons_succ]
          refine any_one 14 (by kernel_rfl) ?_
          refine op_value (.slice (some ⟨G, 0, none⟩) (gs.length + 1) c) (i := 14) (oi := { dst := some 43, op := Go.Op.call { callee := Go.Callee.builtin Go.Builtin.append, args := #[Go.Operand.tmp 33, Go.Operand.tmp 42], argTypes := #[36, 36] }, type := 36, pos := "ref.go:53", after := #[{ on := 4, ground := Go.Ground.data }, { on := 13, ground := Go.Ground.data }, { on := 12, ground := Go.Ground.chain }], guard := none }) rfl (by rfl) (exec_appendW (t := 36) rfl rfl rfl HR.out) ?_
          simp only [Act.put, List.setIfInBounds_toArray, List.set_cons_zero, List.set_cons_succ]
          refine any_one 15 (by kernel_rfl) ?_
          refine op_value (.pointer (some ⟨w.heap.size, 0, none⟩)) (i := 15) (oi := { dst := some 44, op := Go.Op.nilCheck (Go.Operand.tmp 29), type := 0, pos := "ref.go:53", after := #[{ on := 0, ground := Go.Ground.data }, { on := 0, ground := Go.Ground.phase }, { on := 1, ground := Go.Ground.phase }, { on := 2, ground := Go.Ground.phase }, { on := 3, ground := Go.Ground.phase }, { on := 4, ground := Go.Ground.phase }, { on := 5, ground := Go.Ground.phase }, { on := 6, ground := Go.Ground.phase }, { on := 7, ground := Go.Ground.phase }, { on := 8, ground := Go.Ground.phase }, { on := 9, ground := Go.Ground.phase }, { on := 10, ground := Go.Ground.phase }, { on := 11, ground := Go.Ground.phase }, { on := 12, ground := Go.Ground.phase }, { on := 13, ground := Go.Ground.phase }, { on := 14, ground := Go.Ground.phase }], guard := none }) rfl (by rfl) (by go_simp <;> with_reducible rfl) ?_
          simp only [Act.put, List.setIfInBounds_toArray, List.set_cons_zero, List.set_cons_succ]
          refine any_one 16 (by kernel_rfl) ?_
          refine op_value (.pointer (some ⟨w.heap.size, 0, none⟩)) (i := 16) (oi := { dst := some 45, op := Go.Op.fieldAddr 39 (Go.Operand.tmp 44) 0, type := 0, pos := "ref.go:53", after := #[{ on := 15, ground := Go.Ground.data }, { on := 0, ground := Go.Ground.phase }, { on := 1, ground := Go.Ground.phase }, { on := 2, ground := Go.Ground.phase }, { on := 3, ground := Go.Ground.phase }, { on := 4, ground := Go.Ground.phase }, { on := 5, ground := Go.Ground.phase }, { on := 6, ground := Go.Ground.phase }, { on := 7, ground := Go.Ground.phase }, { on := 8, ground := Go.Ground.phase }, { on := 9, ground := Go.Ground.phase }, { on := 10, ground := Go.Ground.phase }, { on := 11, ground := Go.Ground.phase }, { on := 12, ground := Go.Ground.phase }, { on := 13, ground := Go.Ground.phase }, { on := 14, ground := Go.Ground.phase }], guard := none }) rfl (by rfl) (by go_simp <;> with_reducible rfl) ?_
          simp only [Act.put, List.setIfInBounds_toArray, List.set_cons_zero, List.set_cons_succ]
          refine any_one 17 (by kernel_rfl) ?_
          refine op_effect (i := 17) (oi := { dst := none, op := Go.Op.store 36 (Go.Operand.tmp 45) (Go.Operand.tmp 43), type := 0, pos := "ref.go:53", after := #[{ on := 16, ground := Go.Ground.data }, { on := 14, ground := Go.Ground.data }, { on := 14, ground := Go.Ground.chain }, { on := 0, ground := Go.Ground.phase }, { on := 1, ground := Go.Ground.phase }, { on := 2, ground := Go.Ground.phase }, { on := 3, ground := Go.Ground.phase }, { on := 4, ground := Go.Ground.phase }, { on := 5, ground := Go.Ground.phase }, { on := 6, ground := Go.Ground.phase }, { on := 7, ground := Go.Ground.phase }, { on := 8, ground := Go.Ground.phase }, { on := 9, ground := Go.Ground.phase }, { on := 10, ground := Go.Ground.phase }, { on := 11, ground := Go.Ground.phase }, { on := 12, ground := Go.Ground.phase }, { on := 13, ground := Go.Ground.phase }, { on := 14, ground := Go.Ground.phase }], guard := none }) rfl (by rfl) (by go_simp <;> with_reducible rfl) ?_
          simp only [Act.put]
          refine wpAnyIn_done (by kernel_rfl) ?_ _
          go_wp2
          rw [WK.out]
          go_roundw
          case rel => exact ⟨gs.length + 1, gs ++ [g], _, some ⟨G, 0, none⟩, c, by rw [HLN.out g], rfl, (HLN.out g).symm, HLT.out, PP.out⟩
          case measure => exact less_by HLT.out
        · -- row, load
          refine op_value (.slice (some ⟨x1.heap.size, 0, none⟩) 1 1) (i := 13) (oi := { dst := some 42, op := Go.Op.buildSlice 36 1 #[(0, Go.Operand.tmp 41)], type := 36, pos := "ref.go:53", after := #[{ on := 12, ground := Go.Ground.data }], guard := none }) rfl (by rfl) (by go_simp <;> with_reducible rfl) ?_
          simp only [Act.put, List.setIfInBounds_toArray, List.set_cons_zero, List.set_cons_succ]
          refine any_one 4 (by kernel_rfl) ?_
          refine op_value (.slice va gs.length vc) (i := 4) (oi := { dst := some 33, op := Go.Op.load 36 (Go.Operand.tmp 32), type := 36, pos := "ref.go:53", after := #[{ on := 3, ground := Go.Ground.data }], guard := none }) rfl (by rfl) (by go_simp <;> with_reducible rfl) ?_
          simp only [Act.put, List.setIfInBounds_toArray, List.set_cons_zero, List.set_cons_succ]
          refine any_one 14 (by kernel_rfl) ?_
          refine op_value (.slice (some ⟨G, 0, none⟩) (gs.length + 1) c) (i := 14) (oi := { dst := some 43, op := Go.Op.call { callee := Go.Callee.builtin Go.Builtin.append, args := #[Go.Operand.tmp 33, Go.Operand.tmp 42], argTypes := #[36, 36] }, type := 36, pos := "ref.go:53", after := #[{ on := 4, ground := Go.Ground.data }, { on := 13, ground := Go.Ground.data }, { on := 12, ground := Go.Ground.chain }], guard := none }) rfl (by rfl) (exec_appendW (t := 36) rfl rfl rfl HR.out) ?_
          simp only [Act.put, List.setIfInBounds_toArray, List.set_cons_zero, List.set_cons_succ]
          refine any_one 15 (by kernel_rfl) ?_
          refine op_value (.pointer (some ⟨w.heap.size, 0, none⟩)) (i := 15) (oi := { dst := some 44, op := Go.Op.nilCheck (Go.Operand.tmp 29), type := 0, pos := "ref.go:53", after := #[{ on := 0, ground := Go.Ground.data }, { on := 0, ground := Go.Ground.phase }, { on := 1, ground := Go.Ground.phase }, { on := 2, ground := Go.Ground.phase }, { on := 3, ground := Go.Ground.phase }, { on := 4, ground := Go.Ground.phase }, { on := 5, ground := Go.Ground.phase }, { on := 6, ground := Go.Ground.phase }, { on := 7, ground := Go.Ground.phase }, { on := 8, ground := Go.Ground.phase }, { on := 9, ground := Go.Ground.phase }, { on := 10, ground := Go.Ground.phase }, { on := 11, ground := Go.Ground.phase }, { on := 12, ground := Go.Ground.phase }, { on := 13, ground := Go.Ground.phase }, { on := 14, ground := Go.Ground.phase }], guard := none }) rfl (by rfl) (by go_simp <;> with_reducible rfl) ?_
          simp only [Act.put, List.setIfInBounds_toArray, List.set_cons_zero, List.set_cons_succ]
          refine any_one 16 (by kernel_rfl) ?_
          refine op_value (.pointer (some ⟨w.heap.size, 0, none⟩)) (i := 16) (oi := { dst := some 45, op := Go.Op.fieldAddr 39 (Go.Operand.tmp 44) 0, type := 0, pos := "ref.go:53", after := #[{ on := 15, ground := Go.Ground.data }, { on := 0, ground := Go.Ground.phase }, { on := 1, ground := Go.Ground.phase }, { on := 2, ground := Go.Ground.phase }, { on := 3, ground := Go.Ground.phase }, { on := 4, ground := Go.Ground.phase }, { on := 5, ground := Go.Ground.phase }, { on := 6, ground := Go.Ground.phase }, { on := 7, ground := Go.Ground.phase }, { on := 8, ground := Go.Ground.phase }, { on := 9, ground := Go.Ground.phase }, { on := 10, ground := Go.Ground.phase }, { on := 11, ground := Go.Ground.phase }, { on := 12, ground := Go.Ground.phase }, { on := 13, ground := Go.Ground.phase }, { on := 14, ground := Go.Ground.phase }], guard := none }) rfl (by rfl) (by go_simp <;> with_reducible rfl) ?_
          simp only [Act.put, List.setIfInBounds_toArray, List.set_cons_zero, List.set_cons_succ]
          refine any_one 17 (by kernel_rfl) ?_
          refine op_effect (i := 17) (oi := { dst := none, op := Go.Op.store 36 (Go.Operand.tmp 45) (Go.Operand.tmp 43), type := 0, pos := "ref.go:53", after := #[{ on := 16, ground := Go.Ground.data }, { on := 14, ground := Go.Ground.data }, { on := 14, ground := Go.Ground.chain }, { on := 0, ground := Go.Ground.phase }, { on := 1, ground := Go.Ground.phase }, { on := 2, ground := Go.Ground.phase }, { on := 3, ground := Go.Ground.phase }, { on := 4, ground := Go.Ground.phase }, { on := 5, ground := Go.Ground.phase }, { on := 6, ground := Go.Ground.phase }, { on := 7, ground := Go.Ground.phase }, { on := 8, ground := Go.Ground.phase }, { on := 9, ground := Go.Ground.phase }, { on := 10, ground := Go.Ground.phase }, { on := 11, ground := Go.Ground.phase }, { on := 12, ground := Go.Ground.phase }, { on := 13, ground := Go.Ground.phase }, { on := 14, ground := Go.Ground.phase }], guard := none }) rfl (by rfl) (by go_simp <;> with_reducible rfl) ?_
          simp only [Act.put]
          refine wpAnyIn_done (by kernel_rfl) ?_ _
          go_wp2
          rw [WK.out]
          go_roundw
          case rel => exact ⟨gs.length + 1, gs ++ [g], _, some ⟨G, 0, none⟩, c, by rw [HLN.out g], rfl, (HLN.out g).symm, HLT.out, PP.out⟩
          case measure => exact less_by HLT.out
    · obtain hk2 : gs.length = n := by have := hk.out; omega
      have h1 : ¬ (gs.length : Int) < (n : Int) := by omega
      have FIN : Hid (RDsk wr ⟨w.heap.size, .slice va gs.length vc, .slice none 0 0, gs, []⟩ n (loadD l) ∧ Below w.heap.size w wr ∧ ∀ k, (⟨w.heap.size, .slice va gs.length vc, .slice none 0 0, gs, []⟩ : RM).all k → w.heap.size ≤ k) := by
        refine ⟨⟨loadD_ok H12.out.1 H12.out.2.1 H12.out.2.2.1, HP.out.hd, by rw [← hk2]; exact owns_base HP.out.hs, World.ownsRow_nil _ _ _ _, rfl, fun i hi => HP.out.cs i hi, (fun i h h' => nomatch h)⟩, HP.out.b, fun k hk => ?_⟩
        rcases hk with (e | e | e) | e | e
        · rw [e]; exact Nat.le_refl _
        · exact (HP.out.hs.lt k e).1
        · cases e
        · exact HP.out.fr.2 k e
        · cases e
      clear hlt hk hk2
      go_wp2
      go_ret2
      exact ⟨_, rfl, FIN.out⟩
end Go.Proofs.Ytnpebdnfdbeiaaa
