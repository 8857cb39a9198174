/- ClientLetters. -/
import Derived.Test.YtmcippolnekogaaKAllD
import Derived.Test.YtmcippolnekogaaKAllB
import Derived.Test.YtmcippolnekogaaKRUnp
import Derived.Test.YtmcippolnekogaaRefSp
namespace Go.Proofs.Ytmcippolnekogaa
open Go.RowKit Cod
attribute [local go_sem] Oper.semAt_some
set_option linter.unusedVariables false

/-- A box with fourteen cells. -/
structure Box (w : World) (B : Nat) (t : TypeId) (C : List Value) : Prop where
  at_ : w.heap[B]? = some (.cells C.toArray t (0, 0))
theorem Box.below {w w' : World} {B : Nat} {t : TypeId} {C : List Value} (h : Box w B t C) (b : Below w.heap.size w w') : Box w' B t C := ⟨(b.block _ (Array.getElem?_eq_some_iff.1 h.at_).1).trans h.at_⟩
theorem Box.lt {w : World} {B : Nat} {t : TypeId} {C : List Value} (h : Box w B t C) : B < w.heap.size := (Array.getElem?_eq_some_iff.1 h.at_).1
theorem box_new (w : World) (Z : Array Value) (t : TypeId) (C : List Value) : Below w.heap.size w ((w.alloc (.cells Z t)).setRow w.heap.size C.toArray) ∧ Box ((w.alloc (.cells Z t)).setRow w.heap.size C.toArray) w.heap.size t C := by
  have b5 : Below w.heap.size w (w.alloc (.cells Z t)) := (Below.refl _ w).alloc (Nat.le_refl _) _
  exact ⟨⟨b5.os, b5.tape, b5.output, by simp, fun k hk => (setRow_other _ _ _ _ (by omega)).trans (b5.block k hk)⟩, ⟨setRow_heap _ _ _ _ _ _ (heap_alloc_new w _)⟩⟩
theorem size14 {t : TypeId} {C : List Value} (e : (Try.prog.info? t).map (·.size) = some 14) (h : C.length = 14) : (Try.prog.info? t).map (·.size) = some C.toArray.size := by rw [e, List.size_toArray, h]
theorem op_range {w : World} {B : Nat} {t : TypeId} {C : List Value} {x : LetV} (h : Box w B t C) (e : x.cells = C.toArray) : w.rangeAt B 3 [.int .i64 x.op.kind, .string x.op.src, .string x.op.dst, .int .i64 x.op.amount, .string x.op.key, .int .i64 x.op.slot, .int .i64 x.op.shard] := fun j v hv => by
  have hj : j < 7 := (List.getElem?_eq_some_iff.1 hv).1
  simp only [World.cell?, h.at_, ← e, LetV.cells]
  match j, hj with
  | 0, _ => simpa using hv
  | 1, _ => simpa using hv
  | 2, _ => simpa using hv
  | 3, _ => simpa using hv
  | 4, _ => simpa using hv
  | 5, _ => simpa using hv
  | 6, _ => simpa using hv
/-- The first of some bytes that are owned. -/
theorem own_less {w : World} {base g c n : Nat} {l : List (BitVec 8)} {x : BitVec 8} (h : w.ownsRow base 5 1 (.slice (some ⟨g, 0, none⟩) (n + 1) c) (n + 1) (cellsOf (l ++ [x]))) (hl : l.length = n) : w.ownsRow base 5 1 (.slice (some ⟨g, 0, none⟩) n c) n (cellsOf l) := by
  rcases h.2 with ⟨e, _⟩ | ⟨g', c', cur, e, hb, hg, hnc, hcm, hcs, ht⟩
  · cases e
  · injection e with e1 _ e3
    injection e1 with e1
    injection e1 with e1
    subst e1
    subst e3
    refine ⟨by rw [cellsOf_length, hl, Nat.mul_one], .inr ⟨g, c, cur, rfl, hb, hg, by omega, hcm, hcs, ?_⟩⟩
    have := congrArg (List.take (n * 1)) ht
    rw [List.take_take, Nat.min_eq_left (by omega), cellsOf_append, List.take_append_of_le_length (by rw [cellsOf_length, hl, Nat.mul_one]; exact Nat.le_refl _), show List.take (n * 1) (cellsOf l) = cellsOf l from List.take_of_length_le (by rw [cellsOf_length, hl]; omega)] at this
    exact this
theorem LetOwn.below {w w' : World} {base : Nat} {d : LetD} {ra : Option Addr} {rc : Nat} {ba : Option Addr} {bc : Nat} (h : LetOwn w base d ra rc ba bc) (b : Below w.heap.size w w') : LetOwn w' base d ra rc ba bc := ⟨ownsB h.rows b, ownsB h.body b⟩
theorem LetOwn.grown {w w' : World} {base g : Nat} {d : LetD} {ra : Option Addr} {rc : Nat} {ba : Option Addr} {bc : Nat} (h : LetOwn w base d ra rc ba bc) (b : w.grownBy w' (some g)) (hg : g < base) : LetOwn w' base d ra rc ba bc := ⟨owns_far h.rows b hg, owns_far h.body b hg⟩
theorem unp_at {w : World} {base : Nat} {l : List (BitVec 8)} {ra : Option Addr} {rc : Nat} {ba : Option Addr} {bc : Nat} (h : LetOwn w base (unpackD l).1 ra rc ba bc) (hl : (unpackD l).1.rows.length ≤ 600 ∧ (unpackD l).1.body.length ≤ 65536) : LetAt w (unpackD l).1 ra rc ba bc := h.at_ (by omega) (by unfold maxLen; omega)
theorem unp_short (l : List (BitVec 8)) : (unpackD l).1.rows.length ≤ 600 ∧ (unpackD l).1.body.length ≤ 65536 := by
  by_cases h : (unpackD l).2 = 0
  · obtain ⟨_, hp, hj⟩ := unpack_fore h
    obtain ⟨h1, h5, hf, _, _⟩ := pack_zero (d := (unpackD l).1) (by rw [hp])
    generalize (unpackD l).1 = d at *
    obtain ⟨kind, n, group, op, why, amount, rows, body⟩ := d
    simp only at h1 h5 ⊢
    rcases kinds h1 h5 with rfl | rfl | rfl | rfl | rfl
    · have e : rows = [] := (congrArg LetD.rows hj).symm
      exact ⟨by rw [e]; simp, by simpa [LetD.fits] using hf⟩
    · have e : rows = [] := (congrArg LetD.rows hj).symm
      have e2 : body = [] := (congrArg LetD.body hj).symm
      exact ⟨by rw [e]; simp, by rw [e2]; simp⟩
    · have e2 : body = [] := (congrArg LetD.body hj).symm
      have hf' : (decide (rows.length ≤ 600) && shortL (rows.map (·.1))) = true := hf
      rw [Bool.and_eq_true] at hf'
      exact ⟨by simpa using hf'.1, by rw [e2]; simp⟩
    · have e : rows = [] := (congrArg LetD.rows hj).symm
      exact ⟨by rw [e]; simp, by simpa [LetD.fits] using hf⟩
    · have e : rows = [] := (congrArg LetD.rows hj).symm
      exact ⟨by rw [e]; simp, by simpa [LetD.fits] using hf⟩
  · have hz : (unpackD l).1 = LetD.zero := by
      unfold unpackD at h ⊢
      split
      · rfl
      · split
        · rfl
        · split
          · rfl
          · split
            · rfl
            · next h0 h1 h2 h3 => rw [if_neg h0, if_neg h1, if_neg h2, if_neg h3] at h; exact absurd rfl h
    rw [hz]
    exact ⟨by simp [LetD.zero], by simp [LetD.zero]⟩
set_option maxRecDepth 100000 in
set_option maxHeartbeats 16000000 in
theorem clientLetters_any {w : World} {d : LetD} {ra : Option Addr} {rc : Nat} {ba : Option Addr} {bc : Nat} (h : LetIn w d ra rc ba bc) {xa : Option Addr} {xc : Nat} {l : List (BitVec 8)} (hx : Seen w xa l.length l) (hxn : xa = none → xc = 0) (hxl : l.length ≤ 140737488351232) :
    Calls Try.prog 3 #[.agg (d.v ra rc ba bc).cells, .slice xa l.length xc] w fun e w' => e = .returned (.bool true) ∧ Below w.heap.size w w' := by
  obtain ⟨C, eC, lC, _, _⟩ := v_cells (d.v ra rc ba bc)
  have EC : Hid ((d.v ra rc ba bc).cells = C.toArray) := eC
  have i46 : (Try.prog.info? 31).map (·.size) = some 14 := by kernel_rfl
  have i43 : (Try.prog.info? 30).map (·.size) = some 14 := by kernel_rfl
  have ZC : Hid ((Try.prog.info? 30).map (·.size) = some C.toArray.size) := size14 i43 lC
  rw [eC]
  generalize hw1 : w.alloc (.cells C.toArray 30) = w1
  have b1 : Below w.heap.size w w1 := by rw [← hw1]; exact (Below.refl _ w).alloc (Nat.le_refl _) _
  have x1 : Box w1 w.heap.size 30 C := ⟨by rw [← hw1]; exact heap_alloc_new w _⟩
  have X1 : Hid (Box w1 w.heap.size 30 C) := x1
  have B1 : Hid (Below w.heap.size w w1) := b1
  have HW : Hid (_ = w1) := hw1
  have HI : Hid (LetIn w d ra rc ba bc) := h
  have HX : Hid (Seen w xa l.length l) := hx
  have HN : Hid (xa = none → xc = 0) := hxn
  have HXL : Hid (l.length ≤ 140737488351232) := hxl
  have I46 : Hid _ := i46
  have I43 : Hid _ := i43
  have C1 := given_any d ra rc ba bc w1 (h.at_.below b1) h.nil h.rows h.body
  rw [eC] at C1
  clear eC lC hw1 b1 x1 h hx hxn hxl i46 i43
  go_enter Try.func3, Try.ntmps3
  go_wp2_with (rw [HW.out]; refine wpList_load_row rfl 30 (.tmp 2) rfl w.heap.size rfl 30 C.toArray (0, 0) _ X1.out.at_ Try.underlying30 rfl ZC.out ?_)
  refine C1.mono ?_
  rintro e w2 ⟨ra2, rc2, ba2, bc2, rfl, o2, b2⟩
  obtain ⟨D, eD, lD, _, aD⟩ := v_cells (d.v ra2 rc2 ba2 bc2)
  rw [eD]
  have ED : Hid ((d.v ra2 rc2 ba2 bc2).cells = D.toArray) := eD
  have ZD : Hid ((Try.prog.info? 31).map (·.size) = some D.toArray.size) := size14 I46.out lD
  have AD : Hid _ := aD
  have SD : Hid ((#[.int .i64 0, .int .i64 0, .int .i64 0, .int .i64 0, .string ⟨#[]⟩, .string ⟨#[]⟩, .int .i64 0, .string ⟨#[]⟩, .int .i64 0, .int .i64 0, .int .i64 0, .int .i64 0, .slice none 0 0, .slice none 0 0] : Array Value).size = D.toArray.size) := by show (14 : Nat) = _; rw [List.size_toArray, lD]
  obtain ⟨b3, x3⟩ := box_new w2 #[.int .i64 0, .int .i64 0, .int .i64 0, .int .i64 0, .string ⟨#[]⟩, .string ⟨#[]⟩, .int .i64 0, .string ⟨#[]⟩, .int .i64 0, .int .i64 0, .int .i64 0, .int .i64 0, .slice none 0 0, .slice none 0 0] 31 D
  have XZ : Hid _ := heap_alloc_new w2 (.cells #[.int .i64 0, .int .i64 0, .int .i64 0, .int .i64 0, .string ⟨#[]⟩, .string ⟨#[]⟩, .int .i64 0, .string ⟨#[]⟩, .int .i64 0, .int .i64 0, .int .i64 0, .int .i64 0, .slice none 0 0, .slice none 0 0] 31)
  obtain ⟨w3, e3⟩ : ∃ w3, (w2.alloc (.cells #[.int .i64 0, .int .i64 0, .int .i64 0, .int .i64 0, .string ⟨#[]⟩, .string ⟨#[]⟩, .int .i64 0, .string ⟨#[]⟩, .int .i64 0, .int .i64 0, .int .i64 0, .int .i64 0, .slice none 0 0, .slice none 0 0] 31)).setRow w2.heap.size D.toArray = w3 := ⟨_, rfl⟩
  rw [e3] at b3 x3
  have E3 : Hid (_ = w3) := e3
  have O3 : Hid (LetOwn w3 w1.heap.size d ra2 rc2 ba2 bc2) := o2.below b3
  have B3 : Hid (Below w1.heap.size w1 w3) := b2.trans (b3.mono b2.size)
  have X3 : Hid (Box w3 w2.heap.size 31 D) := x3
  have LA3 : Hid (LetAt w3 d ra2 rc2 ba2 bc2) := O3.out.at_ (by have := HI.out.rows; omega) (by have := HI.out.body; unfold maxLen; omega)
  have C2 := pack_any HI.out.ok LA3.out
  rw [eD] at C2
  clear C1 o2 b2 eD lD aD b3 x3 e3 HW
  go_wp2_with (first
    | (refine wpList_store_row rfl 31 (.tmp 5) (.tmp 20) rfl w2.heap.size D.toArray rfl rfl 31 _ XZ.out ZD.out SD.out AD.out ?_; rw [E3.out])
    | (refine wpList_load_row rfl 31 (.tmp 5) rfl w2.heap.size rfl 31 D.toArray (0, 0) _ X3.out.at_ Try.underlying31 rfl ZD.out ?_))
  refine C2.mono ?_
  rintro e w4 ⟨v4, rfl, o4, b4⟩
  obtain ⟨a4, c4, rfl, _, _⟩ := row_form' o4
  have O4 : Hid (w4.ownsRow w3.heap.size 5 1 (.slice a4 d.pack.1.length c4) d.pack.1.length (cellsOf d.pack.1)) := o4
  have B4 : Hid (Below w3.heap.size w3 w4) := b4
  have C3 := refPack_any HI.out.ok (HI.out.at_.below (B1.out.trans ((B3.out.trans (b4.mono B3.out.size)).mono B1.out.size)))
  rw [EC.out] at C3
  have G4 : Hid (w4.heap[w.heap.size]? = some (.cells C.toArray 30 (0, 0))) := ((X1.out.below B3.out).below b4).at_
  clear C2 o4 b4 XZ E3
  go_wp2_with (refine wpList_load_row rfl 30 (.tmp 2) rfl w.heap.size rfl 30 C.toArray (0, 0) _ G4.out Try.underlying30 rfl ZC.out ?_)
  refine C3.mono ?_
  rintro e w5 ⟨v5, rfl, o5, b5⟩
  obtain ⟨a5, c5, rfl, _, _⟩ := row_form' o5
  have hpl : d.pack.1.length ≤ 1048576 := by
    rcases pack_why d with z | z | z
    · have := pack_zero z; rw [this.2.2.2.1]; exact this.2.2.2.2
    · unfold LetD.pack at z ⊢; repeat' split
      all_goals simp_all
    · unfold LetD.pack at z ⊢; repeat' split
      all_goals simp_all
  have O5 : Hid (w5.ownsRow w3.heap.size 5 1 (.slice a4 d.pack.1.length c4) d.pack.1.length (cellsOf d.pack.1)) := ownsB O4.out b5
  have S5 : Hid (Seen w5 a4 d.pack.1.length d.pack.1 ∧ Seen w5 a5 d.pack.1.length d.pack.1 ∧ (a4 = none → c4 = 0)) := by
    obtain ⟨a, c, ee, s1, n1, _⟩ := owned_seen O5.out (by unfold maxLen; omega)
    injection ee with ea _ ec
    subst ea
    subst ec
    obtain ⟨a, c, ee, s2, _, _⟩ := owned_seen o5 (by unfold maxLen; omega)
    injection ee with ea _ ec
    subst ea
    subst ec
    exact ⟨s1, s2, n1⟩
  have B5 : Hid (Below w3.heap.size w3 w5) := B4.out.trans (b5.mono B4.out.size)
  have X5 : Hid (Box w5 w.heap.size 30 C ∧ Box w5 w2.heap.size 31 D) := ⟨(X1.out.below B3.out).below B5.out, X3.out.below B5.out⟩
  have BW5 : Hid (Below w.heap.size w w5) := B1.out.trans ((B3.out.trans (B5.out.mono B3.out.size)).mono B1.out.size)
  have CV1 : Hid (∀ W, Below w5.heap.size w5 W → (convert 28 9 (.slice a4 d.pack.1.length c4)).run Try.prog W = .ok (.string (textOf d.pack.1)) W) := fun W hW => run_to_text W a4 _ c4 _ (S5.out.1.below hW)
  have CV2 : Hid (∀ W, Below w5.heap.size w5 W → (convert 28 9 (.slice a5 d.pack.1.length c5)).run Try.prog W = .ok (.string (textOf d.pack.1)) W) := fun W hW => run_to_text W a5 _ c5 _ (S5.out.2.1.below hW)
  have TS : Hid (((textOf d.pack.1).toList != (textOf d.pack.1).toList) = false) := by show _ = _; simp
  have WS : Hid ((d.pack.2 != d.pack.2) = false) := by show _ = _; simp
  have HD5 : Hid (∀ W, Below w5.heap.size w5 W → W.heap[w2.heap.size]? = some (.cells D.toArray 31 (0, 0))) := fun W hW => (X5.out.2.below hW).at_
  have HC5 : Hid (∀ W, Below w5.heap.size w5 W → W.heap[w.heap.size]? = some (.cells C.toArray 30 (0, 0))) := fun W hW => (X5.out.1.below hW).at_
  have HO5 : Hid (∀ W, Below w5.heap.size w5 W → W.rangeAt w.heap.size 3 [.int .i64 d.op.kind, .string d.op.src, .string d.op.dst, .int .i64 d.op.amount, .string d.op.key, .int .i64 d.op.slot, .int .i64 d.op.shard]) := fun W hW => op_range (x := d.v ra rc ba bc) (X5.out.1.below hW) EC.out
  have CT : Hid (∀ W : World, Calls Try.prog 11 #[.agg D.toArray] W fun e w' => e = .returned (.agg D.toArray) ∧ Below W.heap.size W w') := fun W => by
    have := taken_any (d.v ra2 rc2 ba2 bc2) W
    rw [ED.out] at this
    exact this
  have CS : Hid (∀ W : World, Below w5.heap.size w5 W → Calls Try.prog 10 #[.agg D.toArray, .agg C.toArray] W fun e w' => e = .returned (.bool true) ∧ Below W.heap.size W w') := fun W hW => by
    have := refSame_any (((LA3.out.below B5.out).below hW)) (HI.out.at_.below (BW5.out.trans (hW.mono BW5.out.size)))
    rw [ED.out, EC.out, decide_eq_true rfl] at this
    exact this
  have CG : Hid (∀ W : World, Calls Try.prog 12 #[.agg #[.int .i64 d.op.kind, .string d.op.src, .string d.op.dst, .int .i64 d.op.amount, .string d.op.key, .int .i64 d.op.slot, .int .i64 d.op.shard]] W fun e w' => e = .returned (.int .i64 (groupK d.op.kind)) ∧ Below W.heap.size W w') := fun W => opGroup_any d.op W
  have CH : Hid (∀ W : World, Calls Try.prog 13 #[.agg #[.int .i64 d.op.kind, .string d.op.src, .string d.op.dst, .int .i64 d.op.amount, .string d.op.key, .int .i64 d.op.slot, .int .i64 d.op.shard]] W fun e w' => e = .returned (.int .i64 (groupK d.op.kind)) ∧ Below W.heap.size W w') := fun W => lawGroup_any d.op W
  have HPL : Hid (d.pack.1.length ≤ 1048576) := hpl
  clear C3 o5 b5 O4 hpl X3 G4 B4
  go_wp2_with fail
  refine wp_region_held_drew (S := fun W => Below w5.heap.size w5 W) (by kernel_rfl) (Below.refl _ w5).drew (fun hHeld => ?_)
  refine take_run (i := 0) (oi := { dst := some 31, op := Go.Op.move (Go.Operand.tmp 6), type := 28, pos := "law.go:35", after := #[], guard := none }) (v := .slice a4 d.pack.1.length c4) rfl (by kernel_rfl) (by kernel_rfl) (by kernel_rfl) (fun _ _ _ h => h) (by rfl) ?_ hHeld ?_
  · (intro wq hSw; go_simp <;> with_reducible rfl)
  try simp only [Act.put, List.setIfInBounds_toArray, List.set_cons_zero, List.set_cons_succ]
  refine take_text (i := 1) (oi := { dst := some 32, op := Go.Op.convert 28 9 (Go.Operand.tmp 31), type := 9, pos := "law.go:35", after := #[{ on := 0, ground := Go.Ground.data }], guard := none }) rfl (by kernel_rfl) (by kernel_rfl) (by kernel_rfl) 28 9 (.tmp 31) _ (.string (textOf d.pack.1)) (fun _ _ _ h => h) (by rfl) rfl (by go_simp <;> with_reducible rfl) (fun W hW => CV1.out W hW) hHeld ?_
  try simp only [Act.put, List.setIfInBounds_toArray, List.set_cons_zero, List.set_cons_succ]
  refine take_run (i := 2) (oi := { dst := some 33, op := Go.Op.move (Go.Operand.tmp 8), type := 28, pos := "law.go:35", after := #[], guard := none }) (v := .slice a5 d.pack.1.length c5) rfl (by kernel_rfl) (by kernel_rfl) (by kernel_rfl) (fun _ _ _ h => h) (by rfl) ?_ hHeld ?_
  · (intro wq hSw; go_simp <;> with_reducible rfl)
  try simp only [Act.put, List.setIfInBounds_toArray, List.set_cons_zero, List.set_cons_succ]
  refine take_text (i := 3) (oi := { dst := some 34, op := Go.Op.convert 28 9 (Go.Operand.tmp 33), type := 9, pos := "law.go:35", after := #[{ on := 2, ground := Go.Ground.data }], guard := none }) rfl (by kernel_rfl) (by kernel_rfl) (by kernel_rfl) 28 9 (.tmp 33) _ (.string (textOf d.pack.1)) (fun _ _ _ h => h) (by rfl) rfl (by go_simp <;> with_reducible rfl) (fun W hW => CV2.out W hW) hHeld ?_
  try simp only [Act.put, List.setIfInBounds_toArray, List.set_cons_zero, List.set_cons_succ]
  refine take_run (i := 4) (oi := { dst := some 35, op := Go.Op.binOp Go.BinOp.neq 9 (Go.Operand.tmp 32) (Go.Operand.tmp 34) 9, type := 4, pos := "law.go:35", after := #[{ on := 1, ground := Go.Ground.data }, { on := 3, ground := Go.Ground.data }], guard := none }) (v := .bool false) rfl (by kernel_rfl) (by kernel_rfl) (by kernel_rfl) (fun _ _ _ h => h) (by rfl) ?_ hHeld ?_
  · (intro wq hSw; have ht := TS.out; go_simp <;> with_reducible rfl)
  try simp only [Act.put, List.setIfInBounds_toArray, List.set_cons_zero, List.set_cons_succ]
  refine take_run (i := 5) (oi := { dst := some 36, op := Go.Op.move (Go.Operand.tmp 35), type := 4, pos := "law.go:35", after := #[{ on := 4, ground := Go.Ground.data }], guard := none }) (v := .bool false) rfl (by kernel_rfl) (by kernel_rfl) (by kernel_rfl) (fun _ _ _ h => h) (by rfl) ?_ hHeld ?_
  · (intro wq hSw; go_simp <;> with_reducible rfl)
  try simp only [Act.put, List.setIfInBounds_toArray, List.set_cons_zero, List.set_cons_succ]
  refine take_run (i := 6) (oi := { dst := some 37, op := Go.Op.move (Go.Operand.tmp 7), type := 24, pos := "law.go:35", after := #[{ on := 5, ground := Go.Ground.guard }], guard := some (5, false) }) (v := .int .i64 d.pack.2) rfl (by kernel_rfl) (by kernel_rfl) (by kernel_rfl) (fun _ _ _ h => h) (by rfl) ?_ hHeld ?_
  · (intro wq hSw; go_simp <;> with_reducible rfl)
  try simp only [Act.put, List.setIfInBounds_toArray, List.set_cons_zero, List.set_cons_succ]
  refine take_run (i := 7) (oi := { dst := some 38, op := Go.Op.move (Go.Operand.tmp 9), type := 24, pos := "law.go:35", after := #[{ on := 5, ground := Go.Ground.guard }], guard := some (5, false) }) (v := .int .i64 d.pack.2) rfl (by kernel_rfl) (by kernel_rfl) (by kernel_rfl) (fun _ _ _ h => h) (by rfl) ?_ hHeld ?_
  · (intro wq hSw; go_simp <;> with_reducible rfl)
  try simp only [Act.put, List.setIfInBounds_toArray, List.set_cons_zero, List.set_cons_succ]
  refine take_run (i := 8) (oi := { dst := some 39, op := Go.Op.binOp Go.BinOp.neq 24 (Go.Operand.tmp 37) (Go.Operand.tmp 38) 24, type := 4, pos := "law.go:35", after := #[{ on := 6, ground := Go.Ground.data }, { on := 7, ground := Go.Ground.data }, { on := 5, ground := Go.Ground.guard }], guard := some (5, false) }) (v := .bool false) rfl (by kernel_rfl) (by kernel_rfl) (by kernel_rfl) (fun _ _ _ h => h) (by rfl) ?_ hHeld ?_
  · (intro wq hSw; have ht := WS.out; go_simp <;> with_reducible rfl)
  try simp only [Act.put, List.setIfInBounds_toArray, List.set_cons_zero, List.set_cons_succ]
  refine take_run (i := 9) (oi := { dst := some 40, op := Go.Op.pick (Go.Operand.tmp 36) (Go.Operand.const (Go.Value.bool true)) (Go.Operand.tmp 39), type := 4, pos := "law.go:35", after := #[{ on := 5, ground := Go.Ground.data }, { on := 8, ground := Go.Ground.data }], guard := none }) (v := .bool false) rfl (by kernel_rfl) (by kernel_rfl) (by kernel_rfl) (fun _ _ _ h => h) (by rfl) ?_ hHeld ?_
  · (intro wq hSw; go_simp <;> with_reducible rfl)
  try simp only [Act.put, List.setIfInBounds_toArray, List.set_cons_zero, List.set_cons_succ]
  refine take_run (i := 10) (oi := { dst := some 41, op := Go.Op.move (Go.Operand.tmp 40), type := 4, pos := "law.go:35", after := #[{ on := 9, ground := Go.Ground.data }, { on := 5, ground := Go.Ground.chain }], guard := none }) (v := .bool false) rfl (by kernel_rfl) (by kernel_rfl) (by kernel_rfl) (fun _ _ _ h => h) (by rfl) ?_ hHeld ?_
  · (intro wq hSw; go_simp <;> with_reducible rfl)
  try simp only [Act.put, List.setIfInBounds_toArray, List.set_cons_zero, List.set_cons_succ]
  refine take_row (i := 11) (oi := { dst := some 42, op := Go.Op.load 31 (Go.Operand.tmp 5), type := 31, pos := "law.go:35", after := #[{ on := 10, ground := Go.Ground.guard }], guard := some (10, false) }) rfl (by kernel_rfl) (by kernel_rfl) (by kernel_rfl) 31 (.tmp 5) w2.heap.size 31 D.toArray (0, 0) _ (fun _ _ _ h => h) (by rfl) rfl (by go_simp <;> with_reducible rfl) (fun W hW => HD5.out W hW) Try.underlying31 rfl ZD.out hHeld ?_
  try simp only [Act.put, List.setIfInBounds_toArray, List.set_cons_zero, List.set_cons_succ]
  refine take_row (i := 13) (oi := { dst := some 44, op := Go.Op.load 30 (Go.Operand.tmp 2), type := 30, pos := "law.go:35", after := #[{ on := 10, ground := Go.Ground.guard }], guard := some (10, false) }) rfl (by kernel_rfl) (by kernel_rfl) (by kernel_rfl) 30 (.tmp 2) w.heap.size 30 C.toArray (0, 0) _ (fun _ _ _ h => h) (by rfl) rfl (by go_simp <;> with_reducible rfl) (fun W hW => HC5.out W hW) Try.underlying30 rfl ZC.out hHeld ?_
  try simp only [Act.put, List.setIfInBounds_toArray, List.set_cons_zero, List.set_cons_succ]
  refine take_call (i := 12) (oi := { dst := some 43, op := Go.Op.call { callee := Go.Callee.value (Go.Operand.func 11), args := #[Go.Operand.tmp 42], argTypes := #[31] }, type := 30, pos := "law.go:35", after := #[{ on := 11, ground := Go.Ground.data }, { on := 10, ground := Go.Ground.chain }, { on := 10, ground := Go.Ground.guard }], guard := some (10, false) }) rfl (by kernel_rfl) (by rfl) 11 _ (by go_simp <;> with_reducible rfl) ?_
  refine Calls.mono (CT.out _) ?_
  rintro e x1 ⟨rfl, y1⟩
  have z1 : Below w5.heap.size w5 x1 := hHeld.trans (y1.mono hHeld.size)
  refine ⟨_, rfl, z1, ?_⟩
  try simp only [Act.put, List.setIfInBounds_toArray, List.set_cons_zero, List.set_cons_succ]
  clear y1
  refine take_call (i := 14) (oi := { dst := some 45, op := Go.Op.call { callee := Go.Callee.value (Go.Operand.func 10), args := #[Go.Operand.tmp 43, Go.Operand.tmp 44], argTypes := #[30, 30] }, type := 4, pos := "law.go:35", after := #[{ on := 12, ground := Go.Ground.data }, { on := 13, ground := Go.Ground.data }, { on := 12, ground := Go.Ground.chain }, { on := 10, ground := Go.Ground.guard }], guard := some (10, false) }) rfl (by kernel_rfl) (by rfl) 10 _ (by go_simp <;> with_reducible rfl) ?_
  refine Calls.mono (CS.out _ z1) ?_
  rintro e x2 ⟨rfl, y2⟩
  have z2 : Below w5.heap.size w5 x2 := z1.trans (y2.mono z1.size)
  refine ⟨_, rfl, z2, ?_⟩
  try simp only [Act.put, List.setIfInBounds_toArray, List.set_cons_zero, List.set_cons_succ]
  clear y2
  refine take_run (i := 15) (oi := { dst := some 46, op := Go.Op.unOp Go.UnOp.not 4 (Go.Operand.tmp 45), type := 4, pos := "law.go:35", after := #[{ on := 14, ground := Go.Ground.data }, { on := 10, ground := Go.Ground.guard }], guard := some (10, false) }) (v := .bool false) rfl (by kernel_rfl) (by kernel_rfl) (by kernel_rfl) (fun _ _ _ h => h) (by rfl) ?_ z2 ?_
  · (intro wq hSw; go_simp <;> with_reducible rfl)
  try simp only [Act.put, List.setIfInBounds_toArray, List.set_cons_zero, List.set_cons_succ]
  refine take_run (i := 16) (oi := { dst := some 47, op := Go.Op.pick (Go.Operand.tmp 41) (Go.Operand.const (Go.Value.bool true)) (Go.Operand.tmp 46), type := 4, pos := "law.go:35", after := #[{ on := 10, ground := Go.Ground.data }, { on := 15, ground := Go.Ground.data }], guard := none }) (v := .bool false) rfl (by kernel_rfl) (by kernel_rfl) (by kernel_rfl) (fun _ _ _ h => h) (by rfl) ?_ z2 ?_
  · (intro wq hSw; go_simp <;> with_reducible rfl)
  try simp only [Act.put, List.setIfInBounds_toArray, List.set_cons_zero, List.set_cons_succ]
  refine take_run (i := 17) (oi := { dst := some 48, op := Go.Op.move (Go.Operand.tmp 47), type := 4, pos := "law.go:35", after := #[{ on := 16, ground := Go.Ground.data }, { on := 14, ground := Go.Ground.chain }], guard := none }) (v := .bool false) rfl (by kernel_rfl) (by kernel_rfl) (by kernel_rfl) (fun _ _ _ h => h) (by rfl) ?_ z2 ?_
  · (intro wq hSw; go_simp <;> with_reducible rfl)
  try simp only [Act.put, List.setIfInBounds_toArray, List.set_cons_zero, List.set_cons_succ]
  refine take_run (i := 18) (oi := { dst := some 49, op := Go.Op.fieldAddr 30 (Go.Operand.tmp 2) 3, type := 0, pos := "law.go:35", after := #[{ on := 17, ground := Go.Ground.guard }], guard := some (17, false) }) (v := .pointer (some ⟨w.heap.size, 3, none⟩)) rfl (by kernel_rfl) (by kernel_rfl) (by kernel_rfl) (fun _ _ _ h => h) (by rfl) ?_ z2 ?_
  · (intro wq hSw; go_simp <;> with_reducible rfl)
  try simp only [Act.put, List.setIfInBounds_toArray, List.set_cons_zero, List.set_cons_succ]
  refine take_mid (i := 19) (oi := { dst := some 50, op := Go.Op.load 23 (Go.Operand.tmp 49), type := 23, pos := "law.go:35", after := #[{ on := 18, ground := Go.Ground.data }, { on := 17, ground := Go.Ground.guard }], guard := some (17, false) }) rfl (by kernel_rfl) (by kernel_rfl) (by kernel_rfl) 23 (.tmp 49) w.heap.size 3 [.int .i64 d.op.kind, .string d.op.src, .string d.op.dst, .int .i64 d.op.amount, .string d.op.key, .int .i64 d.op.slot, .int .i64 d.op.shard] _ (fun _ _ _ h => h) (by rfl) rfl (by go_simp <;> with_reducible rfl) (fun W hW => HO5.out W hW) Try.underlying23 rfl (by kernel_rfl) z2 ?_
  try simp only [Act.put, List.setIfInBounds_toArray, List.set_cons_zero, List.set_cons_succ]
  refine take_run (i := 21) (oi := { dst := some 52, op := Go.Op.fieldAddr 30 (Go.Operand.tmp 2) 3, type := 0, pos := "law.go:35", after := #[{ on := 17, ground := Go.Ground.guard }], guard := some (17, false) }) (v := .pointer (some ⟨w.heap.size, 3, none⟩)) rfl (by kernel_rfl) (by kernel_rfl) (by kernel_rfl) (fun _ _ _ h => h) (by rfl) ?_ z2 ?_
  · (intro wq hSw; go_simp <;> with_reducible rfl)
  try simp only [Act.put, List.setIfInBounds_toArray, List.set_cons_zero, List.set_cons_succ]
  refine take_mid (i := 22) (oi := { dst := some 53, op := Go.Op.load 23 (Go.Operand.tmp 52), type := 23, pos := "law.go:35", after := #[{ on := 21, ground := Go.Ground.data }, { on := 17, ground := Go.Ground.guard }], guard := some (17, false) }) rfl (by kernel_rfl) (by kernel_rfl) (by kernel_rfl) 23 (.tmp 52) w.heap.size 3 [.int .i64 d.op.kind, .string d.op.src, .string d.op.dst, .int .i64 d.op.amount, .string d.op.key, .int .i64 d.op.slot, .int .i64 d.op.shard] _ (fun _ _ _ h => h) (by rfl) rfl (by go_simp <;> with_reducible rfl) (fun W hW => HO5.out W hW) Try.underlying23 rfl (by kernel_rfl) z2 ?_
  try simp only [Act.put, List.setIfInBounds_toArray, List.set_cons_zero, List.set_cons_succ]
  refine take_call (i := 20) (oi := { dst := some 51, op := Go.Op.call { callee := Go.Callee.value (Go.Operand.func 12), args := #[Go.Operand.tmp 50], argTypes := #[23] }, type := 3, pos := "law.go:35", after := #[{ on := 19, ground := Go.Ground.data }, { on := 17, ground := Go.Ground.chain }, { on := 17, ground := Go.Ground.guard }], guard := some (17, false) }) rfl (by kernel_rfl) (by rfl) 12 _ (by go_simp <;> with_reducible rfl) ?_
  refine Calls.mono (CG.out _) ?_
  rintro e x3 ⟨rfl, y3⟩
  have z3 : Below w5.heap.size w5 x3 := z2.trans (y3.mono z2.size)
  refine ⟨_, rfl, z3, ?_⟩
  try simp only [Act.put, List.setIfInBounds_toArray, List.set_cons_zero, List.set_cons_succ]
  clear y3
  refine take_call (i := 23) (oi := { dst := some 54, op := Go.Op.call { callee := Go.Callee.value (Go.Operand.func 13), args := #[Go.Operand.tmp 53], argTypes := #[23] }, type := 3, pos := "law.go:35", after := #[{ on := 22, ground := Go.Ground.data }, { on := 20, ground := Go.Ground.chain }, { on := 17, ground := Go.Ground.guard }], guard := some (17, false) }) rfl (by kernel_rfl) (by rfl) 13 _ (by go_simp <;> with_reducible rfl) ?_
  refine Calls.mono (CH.out _) ?_
  rintro e x4 ⟨rfl, y4⟩
  have z4 : Below w5.heap.size w5 x4 := z3.trans (y4.mono z3.size)
  refine ⟨_, rfl, z4, ?_⟩
  try simp only [Act.put, List.setIfInBounds_toArray, List.set_cons_zero, List.set_cons_succ]
  clear y4
  refine take_run (i := 24) (oi := { dst := some 55, op := Go.Op.binOp Go.BinOp.neq 3 (Go.Operand.tmp 51) (Go.Operand.tmp 54) 3, type := 4, pos := "law.go:35", after := #[{ on := 20, ground := Go.Ground.data }, { on := 23, ground := Go.Ground.data }, { on := 17, ground := Go.Ground.guard }], guard := some (17, false) }) (v := .bool false) rfl (by kernel_rfl) (by kernel_rfl) (by kernel_rfl) (fun _ _ _ h => h) (by rfl) ?_ z4 ?_
  · (intro wq hSw; go_simp <;> with_reducible rfl)
  try simp only [Act.put, List.setIfInBounds_toArray, List.set_cons_zero, List.set_cons_succ]
  refine take_run (i := 25) (oi := { dst := some 56, op := Go.Op.pick (Go.Operand.tmp 48) (Go.Operand.const (Go.Value.bool true)) (Go.Operand.tmp 55), type := 4, pos := "law.go:35", after := #[{ on := 17, ground := Go.Ground.data }, { on := 24, ground := Go.Ground.data }], guard := none }) (v := .bool false) rfl (by kernel_rfl) (by kernel_rfl) (by kernel_rfl) (fun _ _ _ h => h) (by rfl) ?_ z4 ?_
  · (intro wq hSw; go_simp <;> with_reducible rfl)
  try simp only [Act.put, List.setIfInBounds_toArray, List.set_cons_zero, List.set_cons_succ]
  refine wpAnyH_done (by kernel_rfl) ?_ _
  have B6 : Hid (Below w5.heap.size w5 x4) := z4
  clear z1 z2 z3 z4 hHeld CV1 CV2 TS WS HD5 HC5 HO5 CG CH CT CS
  generalize x4 = w6 at *
  have BW6 : Hid (Below w.heap.size w w6) := BW5.out.trans (B6.out.mono BW5.out.size)
  have C6 := lent_any xa l.length xc l w6 (HX.out.below BW6.out) HN.out (by have := HXL.out; omega)
  go_wp2_with fail
  refine C6.mono ?_
  rintro e w7 ⟨g7, c7, rfl, o7, b7⟩
  have O7 : Hid (w7.ownsRow w6.heap.size 5 1 (.slice (some ⟨g7, 0, none⟩) (l.length + 1) c7) (l.length + 1) (cellsOf (l ++ [167#8]))) := o7
  have L7 : Hid (w6.heap.size ≤ g7 ∧ g7 < w7.heap.size) := o7.lt g7 rfl
  have B7 : Hid (Below w6.heap.size w6 w7) := b7
  have BW7 : Hid (Below w.heap.size w w7) := BW6.out.trans (b7.mono BW6.out.size)
  have sl := seen_owned (own_less o7 rfl) rfl (by have := HXL.out; unfold maxLen; omega)
  have C7 := unpack_any (some ⟨g7, 0, none⟩) c7 l w7 sl (fun e => by cases e) (by have := HXL.out; omega)
  clear C6 o7 b7 sl
  go_wp2_with fail
  refine C7.mono ?_
  rintro e w8 ⟨ra8, rc8, ba8, bc8, rfl, o8, b8⟩
  obtain ⟨Y, eY, lY, _, aY⟩ := v_cells ((unpackD l).1.v ra8 rc8 ba8 bc8)
  rw [eY]
  have EY : Hid (_ = Y.toArray) := eY
  have ZY : Hid ((Try.prog.info? 31).map (·.size) = some Y.toArray.size) := size14 I46.out lY
  have AY : Hid _ := aY
  have SY : Hid ((#[.int .i64 0, .int .i64 0, .int .i64 0, .int .i64 0, .string ⟨#[]⟩, .string ⟨#[]⟩, .int .i64 0, .string ⟨#[]⟩, .int .i64 0, .int .i64 0, .int .i64 0, .int .i64 0, .slice none 0 0, .slice none 0 0] : Array Value).size = Y.toArray.size) := by show (14 : Nat) = _; rw [List.size_toArray, lY]
  obtain ⟨b9, x9⟩ := box_new w8 #[.int .i64 0, .int .i64 0, .int .i64 0, .int .i64 0, .string ⟨#[]⟩, .string ⟨#[]⟩, .int .i64 0, .string ⟨#[]⟩, .int .i64 0, .int .i64 0, .int .i64 0, .int .i64 0, .slice none 0 0, .slice none 0 0] 31 Y
  have XZ : Hid _ := heap_alloc_new w8 (.cells #[.int .i64 0, .int .i64 0, .int .i64 0, .int .i64 0, .string ⟨#[]⟩, .string ⟨#[]⟩, .int .i64 0, .string ⟨#[]⟩, .int .i64 0, .int .i64 0, .int .i64 0, .int .i64 0, .slice none 0 0, .slice none 0 0] 31)
  obtain ⟨w9, e9⟩ : ∃ w9, (w8.alloc (.cells #[.int .i64 0, .int .i64 0, .int .i64 0, .int .i64 0, .string ⟨#[]⟩, .string ⟨#[]⟩, .int .i64 0, .string ⟨#[]⟩, .int .i64 0, .int .i64 0, .int .i64 0, .int .i64 0, .slice none 0 0, .slice none 0 0] 31)).setRow w8.heap.size Y.toArray = w9 := ⟨_, rfl⟩
  rw [e9] at b9 x9
  have E9 : Hid (_ = w9) := e9
  have B9 : Hid (Below w7.heap.size w7 w9) := b8.trans (b9.mono b8.size)
  have X9 : Hid (Box w9 w8.heap.size 31 Y) := x9
  have O9 : Hid (LetOwn w9 w7.heap.size (unpackD l).1 ra8 rc8 ba8 bc8) := o8.below b9
  have L8 : Hid (w7.heap.size ≤ w8.heap.size ∧ w8.heap.size ≤ w9.heap.size) := ⟨b8.size, b9.size⟩
  have BW9 : Hid (Below w.heap.size w w9) := BW7.out.trans (B9.out.mono BW7.out.size)
  have C9 := refUnpack_any xa xc l w9 (HX.out.below BW9.out) HN.out
  clear C7 o8 b8 eY lY aY b9 x9 e9
  go_wp2_with (refine wpList_store_row rfl 31 (.tmp 11) (.tmp 62) rfl w8.heap.size Y.toArray rfl rfl 31 _ XZ.out ZY.out SY.out AY.out ?_; rw [E9.out])
  refine C9.mono ?_
  rintro e wa ⟨raa, rca, baa, bca, rfl, oa_, ba_⟩
  obtain ⟨Z, eZ, lZ, _, aZ⟩ := v_cells ((unpackD l).1.v raa rca baa bca)
  rw [eZ]
  have EZ : Hid (_ = Z.toArray) := eZ
  have ZZ : Hid ((Try.prog.info? 30).map (·.size) = some Z.toArray.size) := size14 I43.out lZ
  have AZ : Hid _ := aZ
  have SZ : Hid ((#[.int .i64 0, .int .i64 0, .int .i64 0, .int .i64 0, .string ⟨#[]⟩, .string ⟨#[]⟩, .int .i64 0, .string ⟨#[]⟩, .int .i64 0, .int .i64 0, .int .i64 0, .int .i64 0, .slice none 0 0, .slice none 0 0] : Array Value).size = Z.toArray.size) := by show (14 : Nat) = _; rw [List.size_toArray, lZ]
  obtain ⟨bb, xb⟩ := box_new wa #[.int .i64 0, .int .i64 0, .int .i64 0, .int .i64 0, .string ⟨#[]⟩, .string ⟨#[]⟩, .int .i64 0, .string ⟨#[]⟩, .int .i64 0, .int .i64 0, .int .i64 0, .int .i64 0, .slice none 0 0, .slice none 0 0] 30 Z
  have XZ2 : Hid _ := heap_alloc_new wa (.cells #[.int .i64 0, .int .i64 0, .int .i64 0, .int .i64 0, .string ⟨#[]⟩, .string ⟨#[]⟩, .int .i64 0, .string ⟨#[]⟩, .int .i64 0, .int .i64 0, .int .i64 0, .int .i64 0, .slice none 0 0, .slice none 0 0] 30)
  obtain ⟨wb, eb⟩ : ∃ wb, (wa.alloc (.cells #[.int .i64 0, .int .i64 0, .int .i64 0, .int .i64 0, .string ⟨#[]⟩, .string ⟨#[]⟩, .int .i64 0, .string ⟨#[]⟩, .int .i64 0, .int .i64 0, .int .i64 0, .int .i64 0, .slice none 0 0, .slice none 0 0] 30)).setRow wa.heap.size Z.toArray = wb := ⟨_, rfl⟩
  rw [eb] at bb xb
  have Eb : Hid (_ = wb) := eb
  have Bb : Hid (Below w9.heap.size w9 wb) := ba_.trans (bb.mono ba_.size)
  have Xb : Hid (Box wb wa.heap.size 30 Z) := xb
  have La : Hid (w9.heap.size ≤ wa.heap.size) := ba_.size
  have Ob : Hid (LetOwn wb w9.heap.size (unpackD l).1 raa rca baa bca) := oa_.below bb
  have BWb : Hid (Below w.heap.size w wb) := BW9.out.trans (Bb.out.mono BW9.out.size)
  have Yb : Hid (LetOwn wb w7.heap.size (unpackD l).1 ra8 rc8 ba8 bc8) := O9.out.below Bb.out
  have XY : Hid (Box wb w8.heap.size 31 Y) := X9.out.below Bb.out
  have B7b : Hid (Below w7.heap.size w7 wb) := B9.out.trans (Bb.out.mono B9.out.size)
  have O7b : Hid (wb.ownsRow w6.heap.size 5 1 (.slice (some ⟨g7, 0, none⟩) (l.length + 1) c7) (l.length + 1) (cellsOf (l ++ [167#8]))) := ownsB O7.out B7b.out
  have CT : Hid (∀ W : World, Calls Try.prog 11 #[.agg Y.toArray] W fun e w' => e = .returned (.agg Y.toArray) ∧ Below W.heap.size W w') := fun W => by
    have := taken_any ((unpackD l).1.v ra8 rc8 ba8 bc8) W
    rw [EY.out] at this
    exact this
  have CS : Hid (∀ W : World, LetOwn W w7.heap.size (unpackD l).1 ra8 rc8 ba8 bc8 → LetOwn W w9.heap.size (unpackD l).1 raa rca baa bca → Calls Try.prog 10 #[.agg Y.toArray, .agg Z.toArray] W fun e w' => e = .returned (.bool true) ∧ Below W.heap.size W w') := fun W h1 h2 => by
    have := refSame_any (unp_at h1 (unp_short l)) (unp_at h2 (unp_short l))
    rw [EY.out, EZ.out, decide_eq_true rfl] at this
    exact this
  have CSb : Hid (∀ W : World, Below wb.heap.size wb W → Calls Try.prog 10 #[.agg Y.toArray, .agg Z.toArray] W fun e w' => e = .returned (.bool true) ∧ Below W.heap.size W w') := fun W hW => CS.out W (Yb.out.below hW) (Ob.out.below hW)
  have CK : Hid (∀ W : World, Below wb.heap.size wb W → Calls Try.prog 17 #[.slice (some ⟨g7, 0, none⟩) l.length c7, .slice xa l.length xc] W fun e w' => e = .returned (.bool true) ∧ w' = W) := fun W hW => kept_any g7 c7 l.length l xa xc W w6.heap.size (ownsB O7b.out hW) ((HX.out.below BWb.out).below hW) (by have := HXL.out; omega)
  have HYb : Hid (∀ W, Below wb.heap.size wb W → W.heap[w8.heap.size]? = some (.cells Y.toArray 31 (0, 0))) := fun W hW => (XY.out.below hW).at_
  have HZb : Hid (∀ W, Below wb.heap.size wb W → W.heap[wa.heap.size]? = some (.cells Z.toArray 30 (0, 0))) := fun W hW => (Xb.out.below hW).at_
  obtain ⟨uy, euy⟩ : ∃ uy : Int, (((unpackD l).2 : Nat) : Int) = uy := ⟨_, rfl⟩
  have EUY : Hid ((((unpackD l).2 : Nat) : Int) = uy) := euy
  have WS : Hid ((uy != uy) = false) := by show _ = _; simp
  rw [euy]
  clear C9 oa_ ba_ eZ lZ aZ bb xb eb euy X9 O9
  go_wp2_with (refine wpList_store_row rfl 30 (.tmp 13) (.tmp 67) rfl wa.heap.size Z.toArray rfl rfl 30 _ XZ2.out ZZ.out SZ.out AZ.out ?_; rw [Eb.out])
  refine wp_region_held_drew (S := fun W => Below wb.heap.size wb W) (by kernel_rfl) (Below.refl _ wb).drew (fun hHeld => ?_)
  refine take_row (i := 0) (oi := { dst := some 69, op := Go.Op.load 31 (Go.Operand.tmp 11), type := 31, pos := "law.go:41", after := #[], guard := none }) rfl (by kernel_rfl) (by kernel_rfl) (by kernel_rfl) 31 (.tmp 11) w8.heap.size 31 Y.toArray (0, 0) _ (fun _ _ _ h => h) (by rfl) rfl (by go_simp <;> with_reducible rfl) (fun W hW => HYb.out W hW) Try.underlying31 rfl ZY.out hHeld ?_
  try simp only [Act.put, List.setIfInBounds_toArray, List.set_cons_zero, List.set_cons_succ]
  refine take_row (i := 2) (oi := { dst := some 71, op := Go.Op.load 30 (Go.Operand.tmp 13), type := 30, pos := "law.go:41", after := #[], guard := none }) rfl (by kernel_rfl) (by kernel_rfl) (by kernel_rfl) 30 (.tmp 13) wa.heap.size 30 Z.toArray (0, 0) _ (fun _ _ _ h => h) (by rfl) rfl (by go_simp <;> with_reducible rfl) (fun W hW => HZb.out W hW) Try.underlying30 rfl ZZ.out hHeld ?_
  try simp only [Act.put, List.setIfInBounds_toArray, List.set_cons_zero, List.set_cons_succ]
  refine take_call (i := 1) (oi := { dst := some 70, op := Go.Op.call { callee := Go.Callee.value (Go.Operand.func 11), args := #[Go.Operand.tmp 69], argTypes := #[31] }, type := 30, pos := "law.go:41", after := #[{ on := 0, ground := Go.Ground.data }], guard := none }) rfl (by kernel_rfl) (by rfl) 11 _ (by go_simp <;> with_reducible rfl) ?_
  refine Calls.mono (CT.out _) ?_
  rintro e x5 ⟨rfl, y5⟩
  have z5 : Below wb.heap.size wb x5 := hHeld.trans (y5.mono hHeld.size)
  refine ⟨_, rfl, z5, ?_⟩
  try simp only [Act.put, List.setIfInBounds_toArray, List.set_cons_zero, List.set_cons_succ]
  clear y5
  refine take_call (i := 3) (oi := { dst := some 72, op := Go.Op.call { callee := Go.Callee.value (Go.Operand.func 10), args := #[Go.Operand.tmp 70, Go.Operand.tmp 71], argTypes := #[30, 30] }, type := 4, pos := "law.go:41", after := #[{ on := 1, ground := Go.Ground.data }, { on := 2, ground := Go.Ground.data }, { on := 1, ground := Go.Ground.chain }], guard := none }) rfl (by kernel_rfl) (by rfl) 10 _ (by go_simp <;> with_reducible rfl) ?_
  refine Calls.mono (CSb.out _ z5) ?_
  rintro e x6 ⟨rfl, y6⟩
  have z6 : Below wb.heap.size wb x6 := z5.trans (y6.mono z5.size)
  refine ⟨_, rfl, z6, ?_⟩
  try simp only [Act.put, List.setIfInBounds_toArray, List.set_cons_zero, List.set_cons_succ]
  clear y6
  refine take_run (i := 4) (oi := { dst := some 73, op := Go.Op.unOp Go.UnOp.not 4 (Go.Operand.tmp 72), type := 4, pos := "law.go:41", after := #[{ on := 3, ground := Go.Ground.data }], guard := none }) (v := .bool false) rfl (by kernel_rfl) (by kernel_rfl) (by kernel_rfl) (fun _ _ _ h => h) (by rfl) ?_ z6 ?_
  · (intro wq hSw; go_simp <;> with_reducible rfl)
  try simp only [Act.put, List.setIfInBounds_toArray, List.set_cons_zero, List.set_cons_succ]
  refine take_run (i := 5) (oi := { dst := some 74, op := Go.Op.move (Go.Operand.tmp 73), type := 4, pos := "law.go:41", after := #[{ on := 4, ground := Go.Ground.data }, { on := 3, ground := Go.Ground.chain }], guard := none }) (v := .bool false) rfl (by kernel_rfl) (by kernel_rfl) (by kernel_rfl) (fun _ _ _ h => h) (by rfl) ?_ z6 ?_
  · (intro wq hSw; go_simp <;> with_reducible rfl)
  try simp only [Act.put, List.setIfInBounds_toArray, List.set_cons_zero, List.set_cons_succ]
  refine take_run (i := 6) (oi := { dst := some 75, op := Go.Op.move (Go.Operand.tmp 12), type := 24, pos := "law.go:41", after := #[{ on := 5, ground := Go.Ground.guard }], guard := some (5, false) }) (v := .int .i64 uy) rfl (by kernel_rfl) (by kernel_rfl) (by kernel_rfl) (fun _ _ _ h => h) (by rfl) ?_ z6 ?_
  · (intro wq hSw; go_simp <;> with_reducible rfl)
  try simp only [Act.put, List.setIfInBounds_toArray, List.set_cons_zero, List.set_cons_succ]
  refine take_run (i := 7) (oi := { dst := some 76, op := Go.Op.move (Go.Operand.tmp 14), type := 24, pos := "law.go:41", after := #[{ on := 5, ground := Go.Ground.guard }], guard := some (5, false) }) (v := .int .i64 uy) rfl (by kernel_rfl) (by kernel_rfl) (by kernel_rfl) (fun _ _ _ h => h) (by rfl) ?_ z6 ?_
  · (intro wq hSw; go_simp <;> with_reducible rfl)
  try simp only [Act.put, List.setIfInBounds_toArray, List.set_cons_zero, List.set_cons_succ]
  refine take_run (i := 8) (oi := { dst := some 77, op := Go.Op.binOp Go.BinOp.neq 24 (Go.Operand.tmp 75) (Go.Operand.tmp 76) 24, type := 4, pos := "law.go:41", after := #[{ on := 6, ground := Go.Ground.data }, { on := 7, ground := Go.Ground.data }, { on := 5, ground := Go.Ground.guard }], guard := some (5, false) }) (v := .bool false) rfl (by kernel_rfl) (by kernel_rfl) (by kernel_rfl) (fun _ _ _ h => h) (by rfl) ?_ z6 ?_
  · (intro wq hSw; have ht := WS.out; go_simp <;> with_reducible rfl)
  try simp only [Act.put, List.setIfInBounds_toArray, List.set_cons_zero, List.set_cons_succ]
  refine take_run (i := 9) (oi := { dst := some 78, op := Go.Op.pick (Go.Operand.tmp 74) (Go.Operand.const (Go.Value.bool true)) (Go.Operand.tmp 77), type := 4, pos := "law.go:41", after := #[{ on := 5, ground := Go.Ground.data }, { on := 8, ground := Go.Ground.data }], guard := none }) (v := .bool false) rfl (by kernel_rfl) (by kernel_rfl) (by kernel_rfl) (fun _ _ _ h => h) (by rfl) ?_ z6 ?_
  · (intro wq hSw; go_simp <;> with_reducible rfl)
  try simp only [Act.put, List.setIfInBounds_toArray, List.set_cons_zero, List.set_cons_succ]
  refine take_run (i := 10) (oi := { dst := some 79, op := Go.Op.move (Go.Operand.tmp 78), type := 4, pos := "law.go:41", after := #[{ on := 9, ground := Go.Ground.data }, { on := 5, ground := Go.Ground.chain }], guard := none }) (v := .bool false) rfl (by kernel_rfl) (by kernel_rfl) (by kernel_rfl) (fun _ _ _ h => h) (by rfl) ?_ z6 ?_
  · (intro wq hSw; go_simp <;> with_reducible rfl)
  try simp only [Act.put, List.setIfInBounds_toArray, List.set_cons_zero, List.set_cons_succ]
  refine take_run (i := 11) (oi := { dst := some 80, op := Go.Op.move (Go.Operand.tmp 10), type := 28, pos := "law.go:41", after := #[{ on := 10, ground := Go.Ground.guard }], guard := some (10, false) }) (v := .slice (some ⟨g7, 0, none⟩) l.length c7) rfl (by kernel_rfl) (by kernel_rfl) (by kernel_rfl) (fun _ _ _ h => h) (by rfl) ?_ z6 ?_
  · (intro wq hSw; go_simp <;> with_reducible rfl)
  try simp only [Act.put, List.setIfInBounds_toArray, List.set_cons_zero, List.set_cons_succ]
  refine take_run (i := 12) (oi := { dst := some 81, op := Go.Op.move (Go.Operand.tmp 1), type := 28, pos := "law.go:41", after := #[{ on := 10, ground := Go.Ground.guard }], guard := some (10, false) }) (v := .slice xa l.length xc) rfl (by kernel_rfl) (by kernel_rfl) (by kernel_rfl) (fun _ _ _ h => h) (by rfl) ?_ z6 ?_
  · (intro wq hSw; go_simp <;> with_reducible rfl)
  try simp only [Act.put, List.setIfInBounds_toArray, List.set_cons_zero, List.set_cons_succ]
  refine take_call (i := 13) (oi := { dst := some 82, op := Go.Op.call { callee := Go.Callee.value (Go.Operand.func 17), args := #[Go.Operand.tmp 80, Go.Operand.tmp 81], argTypes := #[28, 28] }, type := 4, pos := "law.go:41", after := #[{ on := 11, ground := Go.Ground.data }, { on := 12, ground := Go.Ground.data }, { on := 10, ground := Go.Ground.chain }, { on := 10, ground := Go.Ground.guard }], guard := some (10, false) }) rfl (by kernel_rfl) (by rfl) 17 _ (by go_simp <;> with_reducible rfl) ?_
  refine Calls.mono (CK.out _ z6) ?_
  rintro e x7 ⟨rfl, hx7⟩
  subst x7
  refine ⟨_, rfl, z6, ?_⟩
  try simp only [Act.put, List.setIfInBounds_toArray, List.set_cons_zero, List.set_cons_succ]
  refine take_run (i := 14) (oi := { dst := some 83, op := Go.Op.unOp Go.UnOp.not 4 (Go.Operand.tmp 82), type := 4, pos := "law.go:41", after := #[{ on := 13, ground := Go.Ground.data }, { on := 10, ground := Go.Ground.guard }], guard := some (10, false) }) (v := .bool false) rfl (by kernel_rfl) (by kernel_rfl) (by kernel_rfl) (fun _ _ _ h => h) (by rfl) ?_ z6 ?_
  · (intro wq hSw; go_simp <;> with_reducible rfl)
  try simp only [Act.put, List.setIfInBounds_toArray, List.set_cons_zero, List.set_cons_succ]
  refine take_run (i := 15) (oi := { dst := some 84, op := Go.Op.pick (Go.Operand.tmp 79) (Go.Operand.const (Go.Value.bool true)) (Go.Operand.tmp 83), type := 4, pos := "law.go:41", after := #[{ on := 10, ground := Go.Ground.data }, { on := 14, ground := Go.Ground.data }], guard := none }) (v := .bool false) rfl (by kernel_rfl) (by kernel_rfl) (by kernel_rfl) (fun _ _ _ h => h) (by rfl) ?_ z6 ?_
  · (intro wq hSw; go_simp <;> with_reducible rfl)
  try simp only [Act.put, List.setIfInBounds_toArray, List.set_cons_zero, List.set_cons_succ]
  refine wpAnyH_done (by kernel_rfl) ?_ _
  have Bc : Hid (Below wb.heap.size wb x6) := z6
  clear z5 z6 hHeld CSb CK HYb HZb WS XZ XZ2 Eb E9
  generalize x6 = wc at *
  have O7c := own_less (ownsB O7b.out Bc.out) rfl
  have C11 := spoil_row w6.heap.size _ l.length l wc O7c (by have h1 := (Below.size B7.out); have h2 := Below.size B7b.out; have h3 := Below.size Bc.out; omega) (by have := HXL.out; omega)
  clear O7c
  go_wp2_with fail
  refine C11.mono ?_
  rintro e wd ⟨⟨ud, rfl⟩, gd⟩
  have gd' : wc.grownBy wd (some g7) := gd
  have hg7 := L7.out
  have szs : w6.heap.size ≤ w7.heap.size ∧ w7.heap.size ≤ w8.heap.size ∧ w8.heap.size ≤ w9.heap.size ∧ w9.heap.size ≤ wa.heap.size ∧ w5.heap.size ≤ w6.heap.size := ⟨Below.size B7.out, L8.out.1, L8.out.2, La.out, Below.size B6.out⟩
  have Yd : Hid (LetOwn wd w7.heap.size (unpackD l).1 ra8 rc8 ba8 bc8) := (Yb.out.below Bc.out).grown gd' hg7.2
  have Od : Hid (LetOwn wd w9.heap.size (unpackD l).1 raa rca baa bca) := (Ob.out.below Bc.out).grown gd' (by omega)
  have bx : ∀ {B : Nat} {t : TypeId} {K : List Value}, Box wc B t K → B ≠ g7 → Box wd B t K := fun hb hn => ⟨(gd'.block _ hb.lt (by intro e; cases e; exact hn rfl)).trans hb.at_⟩
  have lC5 := X5.out.1.lt
  have lD5 := X5.out.2.lt
  have XYd : Hid (Box wd w8.heap.size 31 Y) := bx (XY.out.below Bc.out) (by omega)
  have XZd : Hid (Box wd wa.heap.size 30 Z) := bx (Xb.out.below Bc.out) (by omega)
  have B5c : Below w5.heap.size w5 wc := B6.out.trans ((B7.out.trans ((B7b.out.trans (Bc.out.mono B7b.out.size)).mono B7.out.size)).mono B6.out.size)
  have B5d : Hid (Below w5.heap.size w5 wd) := B5c.grown gd' B5c.size (fun j e => by cases e; omega)
  have BWd : Hid (Below w.heap.size w wd) := BW5.out.trans (B5d.out.mono BW5.out.size)
  have HYd : Hid (∀ W, Below wd.heap.size wd W → W.heap[w8.heap.size]? = some (.cells Y.toArray 31 (0, 0))) := fun W hW => (XYd.out.below hW).at_
  have HZd : Hid (∀ W, Below wd.heap.size wd W → W.heap[wa.heap.size]? = some (.cells Z.toArray 30 (0, 0))) := fun W hW => (XZd.out.below hW).at_
  have CSd : Hid (∀ W : World, Below wd.heap.size wd W → Calls Try.prog 10 #[.agg Y.toArray, .agg Z.toArray] W fun e w' => e = .returned (.bool true) ∧ Below W.heap.size W w') := fun W hW => CS.out W (Yd.out.below hW) (Od.out.below hW)
  clear C11 gd gd' hg7 szs bx lC5 lD5 B5c Yb Ob XY Xb O7 O7b B7 B7b B9 Bb Bc
  go_wp2_with fail
  refine wp_region_held_drew (S := fun W => Below wd.heap.size wd W) (by kernel_rfl) (Below.refl _ wd).drew (fun hHeld => ?_)
  refine take_row (i := 0) (oi := { dst := some 87, op := Go.Op.load 31 (Go.Operand.tmp 11), type := 31, pos := "law.go:45", after := #[], guard := none }) rfl (by kernel_rfl) (by kernel_rfl) (by kernel_rfl) 31 (.tmp 11) w8.heap.size 31 Y.toArray (0, 0) _ (fun _ _ _ h => h) (by rfl) rfl (by go_simp <;> with_reducible rfl) (fun W hW => HYd.out W hW) Try.underlying31 rfl ZY.out hHeld ?_
  try simp only [Act.put, List.setIfInBounds_toArray, List.set_cons_zero, List.set_cons_succ]
  refine take_row (i := 2) (oi := { dst := some 89, op := Go.Op.load 30 (Go.Operand.tmp 13), type := 30, pos := "law.go:45", after := #[], guard := none }) rfl (by kernel_rfl) (by kernel_rfl) (by kernel_rfl) 30 (.tmp 13) wa.heap.size 30 Z.toArray (0, 0) _ (fun _ _ _ h => h) (by rfl) rfl (by go_simp <;> with_reducible rfl) (fun W hW => HZd.out W hW) Try.underlying30 rfl ZZ.out hHeld ?_
  try simp only [Act.put, List.setIfInBounds_toArray, List.set_cons_zero, List.set_cons_succ]
  refine take_call (i := 1) (oi := { dst := some 88, op := Go.Op.call { callee := Go.Callee.value (Go.Operand.func 11), args := #[Go.Operand.tmp 87], argTypes := #[31] }, type := 30, pos := "law.go:45", after := #[{ on := 0, ground := Go.Ground.data }], guard := none }) rfl (by kernel_rfl) (by rfl) 11 _ (by go_simp <;> with_reducible rfl) ?_
  refine Calls.mono (CT.out _) ?_
  rintro e x8 ⟨rfl, y8⟩
  have z8 : Below wd.heap.size wd x8 := hHeld.trans (y8.mono hHeld.size)
  refine ⟨_, rfl, z8, ?_⟩
  try simp only [Act.put, List.setIfInBounds_toArray, List.set_cons_zero, List.set_cons_succ]
  clear y8
  refine take_call (i := 3) (oi := { dst := some 90, op := Go.Op.call { callee := Go.Callee.value (Go.Operand.func 10), args := #[Go.Operand.tmp 88, Go.Operand.tmp 89], argTypes := #[30, 30] }, type := 4, pos := "law.go:45", after := #[{ on := 1, ground := Go.Ground.data }, { on := 2, ground := Go.Ground.data }, { on := 1, ground := Go.Ground.chain }], guard := none }) rfl (by kernel_rfl) (by rfl) 10 _ (by go_simp <;> with_reducible rfl) ?_
  refine Calls.mono (CSd.out _ z8) ?_
  rintro e x9 ⟨rfl, y9⟩
  have z9 : Below wd.heap.size wd x9 := z8.trans (y9.mono z8.size)
  refine ⟨_, rfl, z9, ?_⟩
  try simp only [Act.put, List.setIfInBounds_toArray, List.set_cons_zero, List.set_cons_succ]
  clear y9
  refine take_run (i := 4) (oi := { dst := some 91, op := Go.Op.unOp Go.UnOp.not 4 (Go.Operand.tmp 90), type := 4, pos := "law.go:45", after := #[{ on := 3, ground := Go.Ground.data }], guard := none }) (v := .bool false) rfl (by kernel_rfl) (by kernel_rfl) (by kernel_rfl) (fun _ _ _ h => h) (by rfl) ?_ z9 ?_
  · (intro wq hSw; go_simp <;> with_reducible rfl)
  try simp only [Act.put, List.setIfInBounds_toArray, List.set_cons_zero, List.set_cons_succ]
  refine wpAnyH_done (by kernel_rfl) ?_ _
  have Be : Hid (Below wd.heap.size wd x9) := z9
  clear z8 z9 hHeld CSd HYd HZd CT CS XZd
  generalize x9 = we at *
  have B5e : Hid (Below w5.heap.size w5 we) := B5d.out.trans (Be.out.mono B5d.out.size)
  have BWe : Hid (Below w.heap.size w we) := BWd.out.trans (Be.out.mono BWd.out.size)
  have GYe : Hid (we.heap[w8.heap.size]? = some (.cells Y.toArray 31 (0, 0))) := (XYd.out.below Be.out).at_
  have KN : Hid (∀ W : World, _) := knownK_any
  -- behind the second way there
  have LAST : ∀ (wf : World) (t15 t16 t94 t95 t96 t97 t98 t99 t100 t101 t102 t103 t104 t105 t106 t107 : Value), True := fun _ _ _ _ _ _ _ _ _ _ _ _ _ _ _ _ _ => trivial
  clear LAST
  by_cases hu : (unpackD l).2 = 0
  case neg =>
    have hy : ((uy == 0) : Bool) = false := by rw [← EUY.out]; simp; omega
    clear hu
    by_cases hp : d.pack.2 = 0
    case neg =>
      have hp' : ((d.pack.2 != 0) : Bool) = true := by simpa using hp
      clear hp
      go_wp2_with fail
      refine Calls.mono (KN.out _) ?_
      rintro e wz ⟨rfl, bz⟩
      have Bz : Hid (Below w.heap.size w wz) := BWe.out.trans (bz.mono BWe.out.size)
      clear bz
      go_wp2
      go_ret
      exact ⟨rfl, Bz.out⟩
    have hp' : ((d.pack.2 != 0) : Bool) = false := by simpa using hp
    obtain ⟨k1, k5, _, hpb, _⟩ := pack_zero hp
    have UB := unpack_back HI.out.ok hp
    rw [← hpb] at UB
    have C20 := unpack_any a4 c4 d.pack.1 we (S5.out.1.below B5e.out) S5.out.2.2 (by have := HPL.out; omega)
    have UBH : Hid _ := UB
    have K15 : Hid (1 ≤ d.kind ∧ d.kind ≤ 5) := ⟨k1, k5⟩
    clear UB hpb k1 k5 hp
    go_wp2_with fail
    refine C20.mono ?_
    rintro e wg ⟨rag, rcg, bag, bcg, rfl, og, bg⟩
    rw [UBH.out] at og
    rw [UBH.out]
    simp only at og
    obtain ⟨V, eV, lV, _, aV⟩ := v_cells (d.just.v rag rcg bag bcg)
    simp only
    rw [eV]
    have EV : Hid (_ = V.toArray) := eV
    have ZV : Hid ((Try.prog.info? 31).map (·.size) = some V.toArray.size) := size14 I46.out lV
    have AV : Hid _ := aV
    have SV : Hid ((#[.int .i64 0, .int .i64 0, .int .i64 0, .int .i64 0, .string ⟨#[]⟩, .string ⟨#[]⟩, .int .i64 0, .string ⟨#[]⟩, .int .i64 0, .int .i64 0, .int .i64 0, .int .i64 0, .slice none 0 0, .slice none 0 0] : Array Value).size = V.toArray.size) := by show (14 : Nat) = _; rw [List.size_toArray, lV]
    obtain ⟨bh, xh⟩ := box_new wg #[.int .i64 0, .int .i64 0, .int .i64 0, .int .i64 0, .string ⟨#[]⟩, .string ⟨#[]⟩, .int .i64 0, .string ⟨#[]⟩, .int .i64 0, .int .i64 0, .int .i64 0, .int .i64 0, .slice none 0 0, .slice none 0 0] 31 V
    have XZ3 : Hid _ := heap_alloc_new wg (.cells #[.int .i64 0, .int .i64 0, .int .i64 0, .int .i64 0, .string ⟨#[]⟩, .string ⟨#[]⟩, .int .i64 0, .string ⟨#[]⟩, .int .i64 0, .int .i64 0, .int .i64 0, .int .i64 0, .slice none 0 0, .slice none 0 0] 31)
    obtain ⟨wh, eh⟩ : ∃ wh, (wg.alloc (.cells #[.int .i64 0, .int .i64 0, .int .i64 0, .int .i64 0, .string ⟨#[]⟩, .string ⟨#[]⟩, .int .i64 0, .string ⟨#[]⟩, .int .i64 0, .int .i64 0, .int .i64 0, .int .i64 0, .slice none 0 0, .slice none 0 0] 31)).setRow wg.heap.size V.toArray = wh := ⟨_, rfl⟩
    rw [eh] at bh xh
    have Eh : Hid (_ = wh) := eh
    have Bh : Hid (Below we.heap.size we wh) := bg.trans (bh.mono bg.size)
    have Oh : Hid (LetOwn wh we.heap.size d.just rag rcg bag bcg) := og.below bh
    have Xh : Hid (Box wh wg.heap.size 31 V) := xh
    have BWh : Hid (Below w.heap.size w wh) := BWe.out.trans (Bh.out.mono BWe.out.size)
    have HVh : Hid (∀ W, Below wh.heap.size wh W → W.heap[wg.heap.size]? = some (.cells V.toArray 31 (0, 0))) := fun W hW => (Xh.out.below hW).at_
    have B5h : Hid (Below w5.heap.size w5 wh) := B5e.out.trans (Bh.out.mono B5e.out.size)
    have HCh : Hid (∀ W, Below wh.heap.size wh W → W.heap[w.heap.size]? = some (.cells C.toArray 30 (0, 0))) := fun W hW => ((X5.out.1.below B5h.out).below hW).at_
    obtain ⟨rj, cj, bj, kj, ej, lj⟩ := just_v K15.out.1 K15.out.2 HI.out.at_
    have J1 : Hid (∀ W : World, Calls Try.prog 20 #[.agg C.toArray] W fun e w' => e = .returned (.agg (d.just.v rj cj bj kj).cells) ∧ Below W.heap.size W w') := fun W => by
      have := refJust_any (d.v ra rc ba bc) K15.out.1 K15.out.2 W
      rw [EC.out, ej] at this
      exact this
    have CT2 : Hid (∀ W : World, Calls Try.prog 11 #[.agg V.toArray] W fun e w' => e = .returned (.agg V.toArray) ∧ Below W.heap.size W w') := fun W => by
      have := taken_any (d.just.v rag rcg bag bcg) W
      rw [EV.out] at this
      exact this
    have hjl : d.just.rows.length ≤ 140737488355328 ∧ d.just.body.length ≤ 140737488355328 := by
      have h1 := unp_short d.pack.1
      rw [UBH.out] at h1
      simp only at h1
      omega
    have J3 : Hid (∀ W : World, Below wh.heap.size wh W → Calls Try.prog 10 #[.agg V.toArray, .agg (d.just.v rj cj bj kj).cells] W fun e w' => e = .returned (.bool true) ∧ Below W.heap.size W w') := fun W hW => by
      have := refSame_any ((Oh.out.below hW).at_ hjl.1 (by unfold maxLen; omega)) (lj.below (BWh.out.trans (hW.mono BWh.out.size)))
      rw [EV.out, decide_eq_true rfl] at this
      exact this
    generalize (d.just.v rj cj bj kj).cells = JC at *
    clear C20 og bg eV lV aV bh xh eh ej lj hjl
    go_wp2_with (refine wpList_store_row rfl 31 (.tmp 17) (.tmp 114) rfl wg.heap.size V.toArray rfl rfl 31 _ XZ3.out ZV.out SV.out AV.out ?_; rw [Eh.out])
    refine wp_region_held_drew (S := fun W => Below wh.heap.size wh W) (by kernel_rfl) (Below.refl _ wh).drew (fun hHeld => ?_)
    refine take_run (i := 0) (oi := { dst := some 116, op := Go.Op.move (Go.Operand.tmp 18), type := 24, pos := "law.go:58", after := #[], guard := none }) (v := .int .i64 0) rfl (by kernel_rfl) (by kernel_rfl) (by kernel_rfl) (fun _ _ _ h => h) (by rfl) ?_ hHeld ?_
    · (intro wq hSw; go_simp <;> with_reducible rfl)
    try simp only [Act.put, List.setIfInBounds_toArray, List.set_cons_zero, List.set_cons_succ]
    refine take_run (i := 1) (oi := { dst := some 117, op := Go.Op.binOp Go.BinOp.eql 24 (Go.Operand.tmp 116) (Go.Operand.const (Go.Value.int Go.IntKind.i64 0)) 24, type := 4, pos := "law.go:58", after := #[{ on := 0, ground := Go.Ground.data }], guard := none }) (v := .bool true) rfl (by kernel_rfl) (by kernel_rfl) (by kernel_rfl) (fun _ _ _ h => h) (by rfl) ?_ hHeld ?_
    · (intro wq hSw; go_simp <;> with_reducible rfl)
    try simp only [Act.put, List.setIfInBounds_toArray, List.set_cons_zero, List.set_cons_succ]
    refine take_run (i := 2) (oi := { dst := some 118, op := Go.Op.move (Go.Operand.tmp 117), type := 4, pos := "law.go:58", after := #[{ on := 1, ground := Go.Ground.data }], guard := none }) (v := .bool true) rfl (by kernel_rfl) (by kernel_rfl) (by kernel_rfl) (fun _ _ _ h => h) (by rfl) ?_ hHeld ?_
    · (intro wq hSw; go_simp <;> with_reducible rfl)
    try simp only [Act.put, List.setIfInBounds_toArray, List.set_cons_zero, List.set_cons_succ]
    refine take_row (i := 3) (oi := { dst := some 119, op := Go.Op.load 31 (Go.Operand.tmp 17), type := 31, pos := "law.go:58", after := #[{ on := 2, ground := Go.Ground.guard }], guard := some (2, true) }) rfl (by kernel_rfl) (by kernel_rfl) (by kernel_rfl) 31 (.tmp 17) wg.heap.size 31 V.toArray (0, 0) _ (fun _ _ _ h => h) (by rfl) rfl (by go_simp <;> with_reducible rfl) (fun W hW => HVh.out W hW) Try.underlying31 rfl ZV.out hHeld ?_
    try simp only [Act.put, List.setIfInBounds_toArray, List.set_cons_zero, List.set_cons_succ]
    refine take_row (i := 5) (oi := { dst := some 121, op := Go.Op.load 30 (Go.Operand.tmp 2), type := 30, pos := "law.go:58", after := #[{ on := 2, ground := Go.Ground.guard }], guard := some (2, true) }) rfl (by kernel_rfl) (by kernel_rfl) (by kernel_rfl) 30 (.tmp 2) w.heap.size 30 C.toArray (0, 0) _ (fun _ _ _ h => h) (by rfl) rfl (by go_simp <;> with_reducible rfl) (fun W hW => HCh.out W hW) Try.underlying30 rfl ZC.out hHeld ?_
    try simp only [Act.put, List.setIfInBounds_toArray, List.set_cons_zero, List.set_cons_succ]
    refine take_call (i := 4) (oi := { dst := some 120, op := Go.Op.call { callee := Go.Callee.value (Go.Operand.func 11), args := #[Go.Operand.tmp 119], argTypes := #[31] }, type := 30, pos := "law.go:58", after := #[{ on := 3, ground := Go.Ground.data }, { on := 2, ground := Go.Ground.chain }, { on := 2, ground := Go.Ground.guard }], guard := some (2, true) }) rfl (by kernel_rfl) (by rfl) 11 _ (by go_simp <;> with_reducible rfl) ?_
    refine Calls.mono (CT2.out _) ?_
    rintro e x10 ⟨rfl, y10⟩
    have z10 : Below wh.heap.size wh x10 := hHeld.trans (y10.mono hHeld.size)
    refine ⟨_, rfl, z10, ?_⟩
    try simp only [Act.put, List.setIfInBounds_toArray, List.set_cons_zero, List.set_cons_succ]
    clear y10
    refine take_call (i := 6) (oi := { dst := some 122, op := Go.Op.call { callee := Go.Callee.value (Go.Operand.func 20), args := #[Go.Operand.tmp 121], argTypes := #[30] }, type := 30, pos := "law.go:58", after := #[{ on := 5, ground := Go.Ground.data }, { on := 4, ground := Go.Ground.chain }, { on := 2, ground := Go.Ground.guard }], guard := some (2, true) }) rfl (by kernel_rfl) (by rfl) 20 _ (by go_simp <;> with_reducible rfl) ?_
    refine Calls.mono (J1.out _) ?_
    rintro e x11 ⟨rfl, y11⟩
    have z11 : Below wh.heap.size wh x11 := z10.trans (y11.mono z10.size)
    refine ⟨_, rfl, z11, ?_⟩
    try simp only [Act.put, List.setIfInBounds_toArray, List.set_cons_zero, List.set_cons_succ]
    clear y11
    refine take_call (i := 7) (oi := { dst := some 123, op := Go.Op.call { callee := Go.Callee.value (Go.Operand.func 10), args := #[Go.Operand.tmp 120, Go.Operand.tmp 122], argTypes := #[30, 30] }, type := 4, pos := "law.go:58", after := #[{ on := 4, ground := Go.Ground.data }, { on := 6, ground := Go.Ground.data }, { on := 6, ground := Go.Ground.chain }, { on := 2, ground := Go.Ground.guard }], guard := some (2, true) }) rfl (by kernel_rfl) (by rfl) 10 _ (by go_simp <;> with_reducible rfl) ?_
    refine Calls.mono (J3.out _ z11) ?_
    rintro e x12 ⟨rfl, y12⟩
    have z12 : Below wh.heap.size wh x12 := z11.trans (y12.mono z11.size)
    refine ⟨_, rfl, z12, ?_⟩
    try simp only [Act.put, List.setIfInBounds_toArray, List.set_cons_zero, List.set_cons_succ]
    clear y12
    refine take_run (i := 8) (oi := { dst := some 124, op := Go.Op.pick (Go.Operand.tmp 118) (Go.Operand.tmp 123) (Go.Operand.const (Go.Value.bool false)), type := 4, pos := "law.go:58", after := #[{ on := 2, ground := Go.Ground.data }, { on := 7, ground := Go.Ground.data }], guard := none }) (v := .bool true) rfl (by kernel_rfl) (by kernel_rfl) (by kernel_rfl) (fun _ _ _ h => h) (by rfl) ?_ z12 ?_
    · (intro wq hSw; go_simp <;> with_reducible rfl)
    try simp only [Act.put, List.setIfInBounds_toArray, List.set_cons_zero, List.set_cons_succ]
    refine take_run (i := 9) (oi := { dst := some 125, op := Go.Op.move (Go.Operand.tmp 124), type := 4, pos := "law.go:58", after := #[{ on := 8, ground := Go.Ground.data }, { on := 7, ground := Go.Ground.chain }], guard := none }) (v := .bool true) rfl (by kernel_rfl) (by kernel_rfl) (by kernel_rfl) (fun _ _ _ h => h) (by rfl) ?_ z12 ?_
    · (intro wq hSw; go_simp <;> with_reducible rfl)
    try simp only [Act.put, List.setIfInBounds_toArray, List.set_cons_zero, List.set_cons_succ]
    refine take_call (i := 10) (oi := { dst := some 126, op := Go.Op.call { callee := Go.Callee.value (Go.Operand.func 19), args := #[], argTypes := #[] }, type := 4, pos := "law.go:58", after := #[{ on := 9, ground := Go.Ground.chain }, { on := 9, ground := Go.Ground.guard }], guard := some (9, true) }) rfl (by kernel_rfl) (by rfl) 19 _ (by go_simp <;> with_reducible rfl) ?_
    refine Calls.mono (KN.out _) ?_
    rintro e x13 ⟨rfl, y13⟩
    have z13 : Below wh.heap.size wh x13 := z12.trans (y13.mono z12.size)
    refine ⟨_, rfl, z13, ?_⟩
    try simp only [Act.put, List.setIfInBounds_toArray, List.set_cons_zero, List.set_cons_succ]
    clear y13
    refine take_run (i := 11) (oi := { dst := some 127, op := Go.Op.pick (Go.Operand.tmp 125) (Go.Operand.tmp 126) (Go.Operand.const (Go.Value.bool false)), type := 4, pos := "law.go:58", after := #[{ on := 9, ground := Go.Ground.data }, { on := 10, ground := Go.Ground.data }], guard := none }) (v := .bool true) rfl (by kernel_rfl) (by kernel_rfl) (by kernel_rfl) (fun _ _ _ h => h) (by rfl) ?_ z13 ?_
    · (intro wq hSw; go_simp <;> with_reducible rfl)
    try simp only [Act.put, List.setIfInBounds_toArray, List.set_cons_zero, List.set_cons_succ]
    refine take_run (i := 12) (oi := { dst := some 4, op := Go.Op.assign (Go.Operand.tmp 127), type := 4, pos := "law.go:58", after := #[{ on := 11, ground := Go.Ground.data }, { on := 10, ground := Go.Ground.chain }, { on := 0, ground := Go.Ground.phase }, { on := 1, ground := Go.Ground.phase }, { on := 2, ground := Go.Ground.phase }, { on := 3, ground := Go.Ground.phase }, { on := 4, ground := Go.Ground.phase }, { on := 5, ground := Go.Ground.phase }, { on := 6, ground := Go.Ground.phase }, { on := 7, ground := Go.Ground.phase }, { on := 8, ground := Go.Ground.phase }, { on := 9, ground := Go.Ground.phase }, { on := 10, ground := Go.Ground.phase }, { on := 11, ground := Go.Ground.phase }], guard := none }) (v := .bool true) rfl (by kernel_rfl) (by kernel_rfl) (by kernel_rfl) (fun _ _ _ h => h) (by rfl) ?_ z13 ?_
    · (intro wq hSw; go_simp <;> with_reducible rfl)
    try simp only [Act.put, List.setIfInBounds_toArray, List.set_cons_zero, List.set_cons_succ]
    refine wpAnyH_done (by kernel_rfl) ?_ _
    have Bz : Hid (Below w.heap.size w x13) := BWh.out.trans (z13.mono BWh.out.size)
    clear z13 hHeld
    go_wp2
    go_ret
    exact ⟨rfl, Bz.out⟩
  obtain ⟨uo, up, uj⟩ := unpack_fore hu
  have hy0 : uy = 0 := by rw [← EUY.out, hu]; rfl
  subst hy0
  have CPk := pack_any uo (unp_at (Yd.out.below Be.out) (unp_short l))
  rw [up, EY.out] at CPk
  clear hu uo up uj
  go_wp2_with (refine wpList_load_row rfl 31 (.tmp 11) rfl w8.heap.size rfl 31 Y.toArray (0, 0) _ GYe.out Try.underlying31 rfl ZY.out ?_)
  refine CPk.mono ?_
  rintro e wf ⟨vf, rfl, of_, bf⟩
  try simp only at of_
  obtain ⟨af, cf, rfl, sf, _, _⟩ := owned_seen of_ (by have := HXL.out; unfold maxLen; omega)
  have cv1 := run_to_text wf af l.length cf l sf
  have B5f : Hid (Below w5.heap.size w5 wf) := B5e.out.trans (bf.mono B5e.out.size)
  have BWf : Hid (Below w.heap.size w wf) := BWe.out.trans (bf.mono BWe.out.size)
  have cv2 := run_to_text wf xa l.length xc l (HX.out.below BWf.out)
  have tx : ((textOf l).toList != (textOf l).toList) = false := by simp
  clear CPk of_ bf sf
  try simp only
  by_cases hp : d.pack.2 = 0
  case neg =>
    have hp' : ((d.pack.2 != 0) : Bool) = true := by simpa using hp
    clear hp
    go_wp2_with fail
    refine Calls.mono (KN.out _) ?_
    rintro e wz ⟨rfl, bz⟩
    have Bz : Hid (Below w.heap.size w wz) := BWf.out.trans (bz.mono BWf.out.size)
    clear bz
    go_wp2
    go_ret
    exact ⟨rfl, Bz.out⟩
  have hp' : ((d.pack.2 != 0) : Bool) = false := by simpa using hp
  obtain ⟨k1, k5, _, hpb, _⟩ := pack_zero hp
  have UB := unpack_back HI.out.ok hp
  rw [← hpb] at UB
  have C20 := unpack_any a4 c4 d.pack.1 wf (S5.out.1.below B5f.out) S5.out.2.2 (by have := HPL.out; omega)
  have UBH : Hid _ := UB
  have K15 : Hid (1 ≤ d.kind ∧ d.kind ≤ 5) := ⟨k1, k5⟩
  clear UB hpb k1 k5 hp
  go_wp2_with fail
  refine C20.mono ?_
  rintro e wg ⟨rag, rcg, bag, bcg, rfl, og, bg⟩
  rw [UBH.out] at og
  rw [UBH.out]
  simp only at og
  obtain ⟨V, eV, lV, _, aV⟩ := v_cells (d.just.v rag rcg bag bcg)
  simp only
  rw [eV]
  have EV : Hid (_ = V.toArray) := eV
  have ZV : Hid ((Try.prog.info? 31).map (·.size) = some V.toArray.size) := size14 I46.out lV
  have AV : Hid _ := aV
  have SV : Hid ((#[.int .i64 0, .int .i64 0, .int .i64 0, .int .i64 0, .string ⟨#[]⟩, .string ⟨#[]⟩, .int .i64 0, .string ⟨#[]⟩, .int .i64 0, .int .i64 0, .int .i64 0, .int .i64 0, .slice none 0 0, .slice none 0 0] : Array Value).size = V.toArray.size) := by show (14 : Nat) = _; rw [List.size_toArray, lV]
  obtain ⟨bh, xh⟩ := box_new wg #[.int .i64 0, .int .i64 0, .int .i64 0, .int .i64 0, .string ⟨#[]⟩, .string ⟨#[]⟩, .int .i64 0, .string ⟨#[]⟩, .int .i64 0, .int .i64 0, .int .i64 0, .int .i64 0, .slice none 0 0, .slice none 0 0] 31 V
  have XZ3 : Hid _ := heap_alloc_new wg (.cells #[.int .i64 0, .int .i64 0, .int .i64 0, .int .i64 0, .string ⟨#[]⟩, .string ⟨#[]⟩, .int .i64 0, .string ⟨#[]⟩, .int .i64 0, .int .i64 0, .int .i64 0, .int .i64 0, .slice none 0 0, .slice none 0 0] 31)
  obtain ⟨wh, eh⟩ : ∃ wh, (wg.alloc (.cells #[.int .i64 0, .int .i64 0, .int .i64 0, .int .i64 0, .string ⟨#[]⟩, .string ⟨#[]⟩, .int .i64 0, .string ⟨#[]⟩, .int .i64 0, .int .i64 0, .int .i64 0, .int .i64 0, .slice none 0 0, .slice none 0 0] 31)).setRow wg.heap.size V.toArray = wh := ⟨_, rfl⟩
  rw [eh] at bh xh
  have Eh : Hid (_ = wh) := eh
  have Bh : Hid (Below wf.heap.size wf wh) := bg.trans (bh.mono bg.size)
  have Oh : Hid (LetOwn wh wf.heap.size d.just rag rcg bag bcg) := og.below bh
  have Xh : Hid (Box wh wg.heap.size 31 V) := xh
  have BWh : Hid (Below w.heap.size w wh) := BWf.out.trans (Bh.out.mono BWf.out.size)
  have HVh : Hid (∀ W, Below wh.heap.size wh W → W.heap[wg.heap.size]? = some (.cells V.toArray 31 (0, 0))) := fun W hW => (Xh.out.below hW).at_
  have B5h : Hid (Below w5.heap.size w5 wh) := B5f.out.trans (Bh.out.mono B5f.out.size)
  have HCh : Hid (∀ W, Below wh.heap.size wh W → W.heap[w.heap.size]? = some (.cells C.toArray 30 (0, 0))) := fun W hW => ((X5.out.1.below B5h.out).below hW).at_
  obtain ⟨rj, cj, bj, kj, ej, lj⟩ := just_v K15.out.1 K15.out.2 HI.out.at_
  have J1 : Hid (∀ W : World, Calls Try.prog 20 #[.agg C.toArray] W fun e w' => e = .returned (.agg (d.just.v rj cj bj kj).cells) ∧ Below W.heap.size W w') := fun W => by
    have := refJust_any (d.v ra rc ba bc) K15.out.1 K15.out.2 W
    rw [EC.out, ej] at this
    exact this
  have CT2 : Hid (∀ W : World, Calls Try.prog 11 #[.agg V.toArray] W fun e w' => e = .returned (.agg V.toArray) ∧ Below W.heap.size W w') := fun W => by
    have := taken_any (d.just.v rag rcg bag bcg) W
    rw [EV.out] at this
    exact this
  have hjl : d.just.rows.length ≤ 140737488355328 ∧ d.just.body.length ≤ 140737488355328 := by
    have h1 := unp_short d.pack.1
    rw [UBH.out] at h1
    simp only at h1
    omega
  have J3 : Hid (∀ W : World, Below wh.heap.size wh W → Calls Try.prog 10 #[.agg V.toArray, .agg (d.just.v rj cj bj kj).cells] W fun e w' => e = .returned (.bool true) ∧ Below W.heap.size W w') := fun W hW => by
    have := refSame_any ((Oh.out.below hW).at_ hjl.1 (by unfold maxLen; omega)) (lj.below (BWh.out.trans (hW.mono BWh.out.size)))
    rw [EV.out, decide_eq_true rfl] at this
    exact this
  generalize (d.just.v rj cj bj kj).cells = JC at *
  clear C20 og bg eV lV aV bh xh eh ej lj hjl
  go_wp2_with (refine wpList_store_row rfl 31 (.tmp 17) (.tmp 114) rfl wg.heap.size V.toArray rfl rfl 31 _ XZ3.out ZV.out SV.out AV.out ?_; rw [Eh.out])
  refine wp_region_held_drew (S := fun W => Below wh.heap.size wh W) (by kernel_rfl) (Below.refl _ wh).drew (fun hHeld => ?_)
  refine take_run (i := 0) (oi := { dst := some 116, op := Go.Op.move (Go.Operand.tmp 18), type := 24, pos := "law.go:58", after := #[], guard := none }) (v := .int .i64 0) rfl (by kernel_rfl) (by kernel_rfl) (by kernel_rfl) (fun _ _ _ h => h) (by rfl) ?_ hHeld ?_
  · (intro wq hSw; go_simp <;> with_reducible rfl)
  try simp only [Act.put, List.setIfInBounds_toArray, List.set_cons_zero, List.set_cons_succ]
  refine take_run (i := 1) (oi := { dst := some 117, op := Go.Op.binOp Go.BinOp.eql 24 (Go.Operand.tmp 116) (Go.Operand.const (Go.Value.int Go.IntKind.i64 0)) 24, type := 4, pos := "law.go:58", after := #[{ on := 0, ground := Go.Ground.data }], guard := none }) (v := .bool true) rfl (by kernel_rfl) (by kernel_rfl) (by kernel_rfl) (fun _ _ _ h => h) (by rfl) ?_ hHeld ?_
  · (intro wq hSw; go_simp <;> with_reducible rfl)
  try simp only [Act.put, List.setIfInBounds_toArray, List.set_cons_zero, List.set_cons_succ]
  refine take_run (i := 2) (oi := { dst := some 118, op := Go.Op.move (Go.Operand.tmp 117), type := 4, pos := "law.go:58", after := #[{ on := 1, ground := Go.Ground.data }], guard := none }) (v := .bool true) rfl (by kernel_rfl) (by kernel_rfl) (by kernel_rfl) (fun _ _ _ h => h) (by rfl) ?_ hHeld ?_
  · (intro wq hSw; go_simp <;> with_reducible rfl)
  try simp only [Act.put, List.setIfInBounds_toArray, List.set_cons_zero, List.set_cons_succ]
  refine take_row (i := 3) (oi := { dst := some 119, op := Go.Op.load 31 (Go.Operand.tmp 17), type := 31, pos := "law.go:58", after := #[{ on := 2, ground := Go.Ground.guard }], guard := some (2, true) }) rfl (by kernel_rfl) (by kernel_rfl) (by kernel_rfl) 31 (.tmp 17) wg.heap.size 31 V.toArray (0, 0) _ (fun _ _ _ h => h) (by rfl) rfl (by go_simp <;> with_reducible rfl) (fun W hW => HVh.out W hW) Try.underlying31 rfl ZV.out hHeld ?_
  try simp only [Act.put, List.setIfInBounds_toArray, List.set_cons_zero, List.set_cons_succ]
  refine take_row (i := 5) (oi := { dst := some 121, op := Go.Op.load 30 (Go.Operand.tmp 2), type := 30, pos := "law.go:58", after := #[{ on := 2, ground := Go.Ground.guard }], guard := some (2, true) }) rfl (by kernel_rfl) (by kernel_rfl) (by kernel_rfl) 30 (.tmp 2) w.heap.size 30 C.toArray (0, 0) _ (fun _ _ _ h => h) (by rfl) rfl (by go_simp <;> with_reducible rfl) (fun W hW => HCh.out W hW) Try.underlying30 rfl ZC.out hHeld ?_
  try simp only [Act.put, List.setIfInBounds_toArray, List.set_cons_zero, List.set_cons_succ]
  refine take_call (i := 4) (oi := { dst := some 120, op := Go.Op.call { callee := Go.Callee.value (Go.Operand.func 11), args := #[Go.Operand.tmp 119], argTypes := #[31] }, type := 30, pos := "law.go:58", after := #[{ on := 3, ground := Go.Ground.data }, { on := 2, ground := Go.Ground.chain }, { on := 2, ground := Go.Ground.guard }], guard := some (2, true) }) rfl (by kernel_rfl) (by rfl) 11 _ (by go_simp <;> with_reducible rfl) ?_
  refine Calls.mono (CT2.out _) ?_
  rintro e x14 ⟨rfl, y14⟩
  have z14 : Below wh.heap.size wh x14 := hHeld.trans (y14.mono hHeld.size)
  refine ⟨_, rfl, z14, ?_⟩
  try simp only [Act.put, List.setIfInBounds_toArray, List.set_cons_zero, List.set_cons_succ]
  clear y14
  refine take_call (i := 6) (oi := { dst := some 122, op := Go.Op.call { callee := Go.Callee.value (Go.Operand.func 20), args := #[Go.Operand.tmp 121], argTypes := #[30] }, type := 30, pos := "law.go:58", after := #[{ on := 5, ground := Go.Ground.data }, { on := 4, ground := Go.Ground.chain }, { on := 2, ground := Go.Ground.guard }], guard := some (2, true) }) rfl (by kernel_rfl) (by rfl) 20 _ (by go_simp <;> with_reducible rfl) ?_
  refine Calls.mono (J1.out _) ?_
  rintro e x15 ⟨rfl, y15⟩
  have z15 : Below wh.heap.size wh x15 := z14.trans (y15.mono z14.size)
  refine ⟨_, rfl, z15, ?_⟩
  try simp only [Act.put, List.setIfInBounds_toArray, List.set_cons_zero, List.set_cons_succ]
  clear y15
  refine take_call (i := 7) (oi := { dst := some 123, op := Go.Op.call { callee := Go.Callee.value (Go.Operand.func 10), args := #[Go.Operand.tmp 120, Go.Operand.tmp 122], argTypes := #[30, 30] }, type := 4, pos := "law.go:58", after := #[{ on := 4, ground := Go.Ground.data }, { on := 6, ground := Go.Ground.data }, { on := 6, ground := Go.Ground.chain }, { on := 2, ground := Go.Ground.guard }], guard := some (2, true) }) rfl (by kernel_rfl) (by rfl) 10 _ (by go_simp <;> with_reducible rfl) ?_
  refine Calls.mono (J3.out _ z15) ?_
  rintro e x16 ⟨rfl, y16⟩
  have z16 : Below wh.heap.size wh x16 := z15.trans (y16.mono z15.size)
  refine ⟨_, rfl, z16, ?_⟩
  try simp only [Act.put, List.setIfInBounds_toArray, List.set_cons_zero, List.set_cons_succ]
  clear y16
  refine take_run (i := 8) (oi := { dst := some 124, op := Go.Op.pick (Go.Operand.tmp 118) (Go.Operand.tmp 123) (Go.Operand.const (Go.Value.bool false)), type := 4, pos := "law.go:58", after := #[{ on := 2, ground := Go.Ground.data }, { on := 7, ground := Go.Ground.data }], guard := none }) (v := .bool true) rfl (by kernel_rfl) (by kernel_rfl) (by kernel_rfl) (fun _ _ _ h => h) (by rfl) ?_ z16 ?_
  · (intro wq hSw; go_simp <;> with_reducible rfl)
  try simp only [Act.put, List.setIfInBounds_toArray, List.set_cons_zero, List.set_cons_succ]
  refine take_run (i := 9) (oi := { dst := some 125, op := Go.Op.move (Go.Operand.tmp 124), type := 4, pos := "law.go:58", after := #[{ on := 8, ground := Go.Ground.data }, { on := 7, ground := Go.Ground.chain }], guard := none }) (v := .bool true) rfl (by kernel_rfl) (by kernel_rfl) (by kernel_rfl) (fun _ _ _ h => h) (by rfl) ?_ z16 ?_
  · (intro wq hSw; go_simp <;> with_reducible rfl)
  try simp only [Act.put, List.setIfInBounds_toArray, List.set_cons_zero, List.set_cons_succ]
  refine take_call (i := 10) (oi := { dst := some 126, op := Go.Op.call { callee := Go.Callee.value (Go.Operand.func 19), args := #[], argTypes := #[] }, type := 4, pos := "law.go:58", after := #[{ on := 9, ground := Go.Ground.chain }, { on := 9, ground := Go.Ground.guard }], guard := some (9, true) }) rfl (by kernel_rfl) (by rfl) 19 _ (by go_simp <;> with_reducible rfl) ?_
  refine Calls.mono (KN.out _) ?_
  rintro e x17 ⟨rfl, y17⟩
  have z17 : Below wh.heap.size wh x17 := z16.trans (y17.mono z16.size)
  refine ⟨_, rfl, z17, ?_⟩
  try simp only [Act.put, List.setIfInBounds_toArray, List.set_cons_zero, List.set_cons_succ]
  clear y17
  refine take_run (i := 11) (oi := { dst := some 127, op := Go.Op.pick (Go.Operand.tmp 125) (Go.Operand.tmp 126) (Go.Operand.const (Go.Value.bool false)), type := 4, pos := "law.go:58", after := #[{ on := 9, ground := Go.Ground.data }, { on := 10, ground := Go.Ground.data }], guard := none }) (v := .bool true) rfl (by kernel_rfl) (by kernel_rfl) (by kernel_rfl) (fun _ _ _ h => h) (by rfl) ?_ z17 ?_
  · (intro wq hSw; go_simp <;> with_reducible rfl)
  try simp only [Act.put, List.setIfInBounds_toArray, List.set_cons_zero, List.set_cons_succ]
  refine take_run (i := 12) (oi := { dst := some 4, op := Go.Op.assign (Go.Operand.tmp 127), type := 4, pos := "law.go:58", after := #[{ on := 11, ground := Go.Ground.data }, { on := 10, ground := Go.Ground.chain }, { on := 0, ground := Go.Ground.phase }, { on := 1, ground := Go.Ground.phase }, { on := 2, ground := Go.Ground.phase }, { on := 3, ground := Go.Ground.phase }, { on := 4, ground := Go.Ground.phase }, { on := 5, ground := Go.Ground.phase }, { on := 6, ground := Go.Ground.phase }, { on := 7, ground := Go.Ground.phase }, { on := 8, ground := Go.Ground.phase }, { on := 9, ground := Go.Ground.phase }, { on := 10, ground := Go.Ground.phase }, { on := 11, ground := Go.Ground.phase }], guard := none }) (v := .bool true) rfl (by kernel_rfl) (by kernel_rfl) (by kernel_rfl) (fun _ _ _ h => h) (by rfl) ?_ z17 ?_
  · (intro wq hSw; go_simp <;> with_reducible rfl)
  try simp only [Act.put, List.setIfInBounds_toArray, List.set_cons_zero, List.set_cons_succ]
  refine wpAnyH_done (by kernel_rfl) ?_ _
  have Bz : Hid (Below w.heap.size w x17) := BWh.out.trans (z17.mono BWh.out.size)
  clear z17 hHeld
  go_wp2
  go_ret
  exact ⟨rfl, Bz.out⟩
end Go.Proofs.Ytmcippolnekogaa
