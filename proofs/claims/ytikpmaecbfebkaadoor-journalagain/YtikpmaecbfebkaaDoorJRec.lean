/- Package journal: record. -/
import Derived.Test.YtikpmaecbfebkaaDoorJMeth
namespace Go.Proofs.YtikpmaecbfebkaaDoor
open Go.RowKit
set_option linter.unusedVariables false

/-- The record that stands from a number on, of so many sectors at most, and the number behind it. -/
def recAt (d : DS) (fr sz fm : Nat) : Nat → Nat → List (BitVec 8) → Option (List (BitVec 8) × Nat)
  | 0, _, _ => none
  | c + 1, s, wh =>
    if rightP (atS d fr sz s) s ∧ (decide (mkOf (atS d fr sz s) &&& 1 ≠ 0) = decide (s = fm)) then
      if mkOf (atS d fr sz s) &&& 2 ≠ 0 then
        if sound (wh ++ dataOf (atS d fr sz s)) then some ((wh ++ dataOf (atS d fr sz s)).drop 4, s + 1) else none
      else recAt d fr sz fm c (s + 1) (wh ++ dataOf (atS d fr sz s))
    else none
/-- A row of bytes lies there. -/
def U8At (w : World) (g : Nat) : Prop := ∃ (cs : Array Value) (z : Nat × Nat), w.heap[g]? = some (Obj.cells cs 5 z)
theorem U8At.below {w w' : World} {g : Nat} (h : U8At w g) (b : Below w.heap.size w w') : U8At w' g := by
  obtain ⟨cs, z, e⟩ := h
  exact ⟨cs, z, (b.block g (Array.getElem?_eq_some_iff.1 e).1).trans e⟩
theorem u8_of_owns {w : World} {base g n c : Nat} {xs : List Value} (h : w.ownsRow base 5 1 (.slice (some ⟨g, 0, none⟩) n c) n xs) : U8At w g := by
  rcases h.2 with e | ⟨g', c', cur, e, hb, hg, r⟩
  · exact absurd e.1 (by intro q; cases q)
  · cases e
    exact ⟨_, _, hg⟩
/-- What is told of a record. -/
def RecTold (w w' : World) (e : Ending) (r : Option (List (BitVec 8) × Nat)) : Prop := Below w.heap.size w w' ∧ match r with
  | some (l, b) => ∃ g o c, e = .returned (.tuple #[.slice (some ⟨g, o, none⟩) l.length c, .int .i64 (b : Int), .bool true]) ∧ w.heap.size ≤ g ∧ Seen w' (some ⟨g, o, none⟩) l.length l ∧ l.length ≤ c ∧ U8At w' g
  | none => ∃ v b, e = .returned (.tuple #[v, .int .i64 b, .bool false])
theorem dataOf_length {l : List (BitVec 8)} {s : Nat} (hl : l.length = 256) (h : rightP l s) : 1 ≤ (dataOf l).length ∧ (dataOf l).length ≤ 242 := by
  have h1 := h.2.2.1
  have h2 := h.2.2.2.1
  unfold dataOf
  rw [List.length_take, List.length_drop]
  omega
theorem mkOf_lt (l : List (BitVec 8)) : mkOf l < 256 := (l.getD 12 0#8).isLt
theorem alloc_cells (y : World) (a b : Value) (T : TypeId) : (y.alloc (.cells #[a, b] T)).cell? ⟨y.heap.size, 0, none⟩ = some a ∧ (y.alloc (.cells #[a, b] T)).cell? ⟨y.heap.size, 1, none⟩ = some b := by
  have h := heap_alloc_new y (.cells #[a, b] T)
  obtain ⟨z, ez⟩ : ∃ z, y.alloc (.cells #[a, b] T) = z := ⟨_, rfl⟩
  rw [ez] at h ⊢
  simp [World.cell?, h]
set_option maxRecDepth 100000 in
set_option maxHeartbeats 6400000 in
theorem record_any (m : DM) (n : Nat) (d : DS) (J fr sz st nx : Nat) (dead : Bool) (fm : Nat) (w : World) (hT : Tabs w) (hd : Dsk w m n d) (hj : JAt w J m.D fr sz st nx dead) (h1 : 1 ≤ st) (h2 : st ≤ 2305843009213693952) (hz : 1 ≤ sz) (hs : fr + sz ≤ n) (hf : st ≤ fm) (hf2 : fm ≤ st + sz) :
    Calls Tryd.prog 68 #[.pointer (some ⟨J, 0, none⟩), .int .i64 (fm : Int)] w fun e w' => RecTold w w' e (recAt d fr sz fm (st + sz - fm) fm []) := by
  have hn := hd.ok.n2
  have HB : Hid (1 ≤ st ∧ st ≤ 2305843009213693952 ∧ 1 ≤ sz ∧ fr + sz ≤ n ∧ st ≤ fm ∧ fm ≤ st + sz ∧ n ≤ 4096) := ⟨h1, h2, hz, hs, hf, hf2, hn⟩
  have HT : Hid (Tabs w) := hT
  have HD : Hid (Dsk w m n d) := hd
  have HJ : Hid (JAt w J m.D fr sz st nx dead) := hj
  have LL : Hid (∀ s, (atS d fr sz s).length = 256) := fun s => sec_length (by have := hd.ok.ln; have := plc_lt (s := s) hz hs; omega)
  obtain ⟨c0, ec0⟩ : ∃ c, st + sz - fm = c := ⟨_, rfl⟩
  have EC : Hid (st + sz - fm = c0) := ec0
  rw [ec0]
  have hcb : c0 ≤ 4096 := by omega
  have HC : Hid (c0 ≤ 4096) := hcb
  obtain ⟨tgt, et⟩ : ∃ t, recAt d fr sz fm c0 fm [] = t := ⟨_, rfl⟩
  have ET : Hid (recAt d fr sz fm c0 fm [] = tgt) := et
  rw [et]
  clear hT hd hj h1 h2 hz hs hf hf2 hn ec0 hcb et
  go_enter Tryd.func68, Tryd.ntmps68
  go_wp2_with fail
  go_loopw [7, 8] (fun v sv wr => ∃ (s : Nat) (wh : List (BitVec 8)) (va : Option Addr) (vl vc : Nat), v = .slice va vl vc ∧ sv = .int .i64 (s : Int) ∧ Hid (fm ≤ s ∧ s ≤ fm + c0) ∧ Hid (wr.ownsRow w.heap.size 5 1 (.slice va vl vc) wh.length (cellsOf wh) ∧ wh.length ≤ 242 * (s - fm)) ∧ Hid (Below w.heap.size w wr) ∧ Hid (recAt d fr sz fm (fm + c0 - s) s wh = tgt)) (fun _ sv _ => (fm + c0) - (intOf sv).toNat)
  case atStart => exact ⟨fm, [], none, 0, 0, rfl, rfl, ⟨Nat.le_refl _, by omega⟩, ⟨World.ownsRow_nil _ _ _ _, Nat.zero_le _⟩, Below.refl _ w, by rw [show fm + c0 - fm = c0 by omega]; exact ET.out⟩
  case round =>
    obtain ⟨s, wh, va, vl, vc, rfl, rfl, hk, hO, hB, hR⟩ := hrel
    have hJ := (HJ.out.below hB.out)
    have CC : Hid (wr.drew.cell? ⟨J, 3, none⟩ = some (.int .i64 (st : Int)) ∧ wr.drew.cell? ⟨J, 2, none⟩ = some (.int .i64 (sz : Int))) := ⟨hJ.cells.2.2.2.1, hJ.cells.2.2.1⟩
    have wsz : IntKind.i64.wrap ((st : Int) + (sz : Int)) = (st : Int) + (sz : Int) := by rw [IntKind.wrap_i64]; have := HB.out; omega
    by_cases hlt : s < fm + c0
    · have g1 : (s : Int) < (st : Int) + (sz : Int) := by have := EC.out; have := HB.out; omega
      have HPc := piece_any m n d J fr sz st nx dead s wr.drew ((HT.out.below hB.out HT.out.size).below (Below.refl _ wr).drew (Nat.le_trans HT.out.size hB.out.size)) ((HD.out.below hB.out).below (Below.refl _ wr).drew) (hJ.below (Below.refl _ wr).drew) (by have := HB.out; have := hk.out; omega) (by have := HB.out; have := EC.out; omega) HB.out.2.2.1 HB.out.2.2.2.1
      have hst : recAt d fr sz fm (fm + c0 - s) s wh = (if rightP (atS d fr sz s) s ∧ (decide (mkOf (atS d fr sz s) &&& 1 ≠ 0) = decide (s = fm)) then if mkOf (atS d fr sz s) &&& 2 ≠ 0 then if sound (wh ++ dataOf (atS d fr sz s)) then some ((wh ++ dataOf (atS d fr sz s)).drop 4, s + 1) else none else recAt d fr sz fm (fm + c0 - (s + 1)) (s + 1) (wh ++ dataOf (atS d fr sz s)) else none) := by
        have e : fm + c0 - s = (fm + c0 - (s + 1)) + 1 := by omega
        rw [e]
        rfl
      have l256 := LL.out s
      obtain ⟨l, el⟩ : ∃ l, atS d fr sz s = l := ⟨_, rfl⟩
      rw [el] at HPc hst l256
      rw [hR.out] at hst
      have HST : Hid (tgt = _) := hst
      have L256 : Hid (l.length = 256) := l256
      have HLT : Hid (s < fm + c0 ∧ fm ≤ s) := ⟨hlt, hk.out.1⟩
      have sb : (s : Int) < 4611686018427387904 := by have := HB.out; have := EC.out; omega
      clear hlt hk hst l256 hR el
      go_wp2_with fail
      refine wp_region_held_drew (S := fun X => X.cell? ⟨J, 3, none⟩ = some (.int .i64 (st : Int)) ∧ X.cell? ⟨J, 2, none⟩ = some (.int .i64 (sz : Int))) (by kernel_rfl) CC.out (fun hHeld => ?_)
      refine take_run (i := 0) (oi := { dst := some 14, op := Go.Op.move (Go.Operand.tmp 8), type := 2, pos := "journal.go:62", after := #[], guard := none }) (v := .int .i64 (s : Int)) rfl (by kernel_rfl) (by kernel_rfl) (by kernel_rfl) (fun _ _ _ h => h) (by rfl) ?_ hHeld ?_
      · (intro wq hSw; go_simp <;> with_reducible rfl)
      try simp only [Act.put, List.setIfInBounds_toArray, List.set_cons_zero, List.set_cons_succ]
      refine take_run (i := 1) (oi := { dst := some 15, op := Go.Op.move (Go.Operand.tmp 0), type := 37, pos := "journal.go:62", after := #[], guard := none }) (v := .pointer (some ⟨J, 0, none⟩)) rfl (by kernel_rfl) (by kernel_rfl) (by kernel_rfl) (fun _ _ _ h => h) (by rfl) ?_ hHeld ?_
      · (intro wq hSw; go_simp <;> with_reducible rfl)
      try simp only [Act.put, List.setIfInBounds_toArray, List.set_cons_zero, List.set_cons_succ]
      refine take_run (i := 2) (oi := { dst := some 16, op := Go.Op.nilCheck (Go.Operand.tmp 15), type := 0, pos := "journal.go:62", after := #[{ on := 1, ground := Go.Ground.data }], guard := none }) (v := .pointer (some ⟨J, 0, none⟩)) rfl (by kernel_rfl) (by kernel_rfl) (by kernel_rfl) (fun _ _ _ h => h) (by rfl) ?_ hHeld ?_
      · (intro wq hSw; go_simp <;> with_reducible rfl)
      try simp only [Act.put, List.setIfInBounds_toArray, List.set_cons_zero, List.set_cons_succ]
      refine take_run (i := 3) (oi := { dst := some 17, op := Go.Op.fieldAddr 80 (Go.Operand.tmp 16) 3, type := 0, pos := "journal.go:62", after := #[{ on := 2, ground := Go.Ground.data }], guard := none }) (v := .pointer (some ⟨J, 3, none⟩)) rfl (by kernel_rfl) (by kernel_rfl) (by kernel_rfl) (fun _ _ _ h => h) (by rfl) ?_ hHeld ?_
      · (intro wq hSw; go_simp <;> with_reducible rfl)
      try simp only [Act.put, List.setIfInBounds_toArray, List.set_cons_zero, List.set_cons_succ]
      refine take_run (i := 4) (oi := { dst := some 18, op := Go.Op.load 2 (Go.Operand.tmp 17), type := 2, pos := "journal.go:62", after := #[{ on := 3, ground := Go.Ground.data }], guard := none }) (v := .int .i64 (st : Int)) rfl (by kernel_rfl) (by kernel_rfl) (by kernel_rfl) (fun _ _ _ h => h) (by rfl) ?_ hHeld ?_
      · (intro wq hSw; obtain ⟨s3, s2⟩ := hSw; go_simp <;> with_reducible rfl)
      try simp only [Act.put, List.setIfInBounds_toArray, List.set_cons_zero, List.set_cons_succ]
      refine take_run (i := 5) (oi := { dst := some 19, op := Go.Op.move (Go.Operand.tmp 0), type := 37, pos := "journal.go:62", after := #[], guard := none }) (v := .pointer (some ⟨J, 0, none⟩)) rfl (by kernel_rfl) (by kernel_rfl) (by kernel_rfl) (fun _ _ _ h => h) (by rfl) ?_ hHeld ?_
      · (intro wq hSw; go_simp <;> with_reducible rfl)
      try simp only [Act.put, List.setIfInBounds_toArray, List.set_cons_zero, List.set_cons_succ]
      refine take_run (i := 6) (oi := { dst := some 20, op := Go.Op.nilCheck (Go.Operand.tmp 19), type := 0, pos := "journal.go:62", after := #[{ on := 5, ground := Go.Ground.data }], guard := none }) (v := .pointer (some ⟨J, 0, none⟩)) rfl (by kernel_rfl) (by kernel_rfl) (by kernel_rfl) (fun _ _ _ h => h) (by rfl) ?_ hHeld ?_
      · (intro wq hSw; go_simp <;> with_reducible rfl)
      try simp only [Act.put, List.setIfInBounds_toArray, List.set_cons_zero, List.set_cons_succ]
      refine take_run (i := 7) (oi := { dst := some 21, op := Go.Op.fieldAddr 80 (Go.Operand.tmp 20) 2, type := 0, pos := "journal.go:62", after := #[{ on := 6, ground := Go.Ground.data }], guard := none }) (v := .pointer (some ⟨J, 2, none⟩)) rfl (by kernel_rfl) (by kernel_rfl) (by kernel_rfl) (fun _ _ _ h => h) (by rfl) ?_ hHeld ?_
      · (intro wq hSw; go_simp <;> with_reducible rfl)
      try simp only [Act.put, List.setIfInBounds_toArray, List.set_cons_zero, List.set_cons_succ]
      refine take_run (i := 8) (oi := { dst := some 22, op := Go.Op.load 3 (Go.Operand.tmp 21), type := 3, pos := "journal.go:62", after := #[{ on := 7, ground := Go.Ground.data }], guard := none }) (v := .int .i64 (sz : Int)) rfl (by kernel_rfl) (by kernel_rfl) (by kernel_rfl) (fun _ _ _ h => h) (by rfl) ?_ hHeld ?_
      · (intro wq hSw; obtain ⟨s3, s2⟩ := hSw; go_simp <;> with_reducible rfl)
      try simp only [Act.put, List.setIfInBounds_toArray, List.set_cons_zero, List.set_cons_succ]
      refine take_run (i := 9) (oi := { dst := some 23, op := Go.Op.binOp Go.BinOp.add 2 (Go.Operand.tmp 18) (Go.Operand.tmp 22) 2, type := 2, pos := "journal.go:62", after := #[{ on := 4, ground := Go.Ground.data }, { on := 8, ground := Go.Ground.data }], guard := none }) (v := .int .i64 ((st : Int) + (sz : Int))) rfl (by kernel_rfl) (by kernel_rfl) (by kernel_rfl) (fun _ _ _ h => h) (by rfl) ?_ hHeld ?_
      · (intro wq hSw; go_simp <;> with_reducible rfl)
      try simp only [Act.put, List.setIfInBounds_toArray, List.set_cons_zero, List.set_cons_succ]
      refine take_run (i := 10) (oi := { dst := some 24, op := Go.Op.binOp Go.BinOp.lss 2 (Go.Operand.tmp 14) (Go.Operand.tmp 23) 2, type := 4, pos := "journal.go:62", after := #[{ on := 0, ground := Go.Ground.data }, { on := 9, ground := Go.Ground.data }], guard := none }) (v := .bool true) rfl (by kernel_rfl) (by kernel_rfl) (by kernel_rfl) (fun _ _ _ h => h) (by rfl) ?_ hHeld ?_
      · (intro wq hSw; go_simp <;> with_reducible rfl)
      try simp only [Act.put, List.setIfInBounds_toArray, List.set_cons_zero, List.set_cons_succ]
      clear hHeld
      refine wpAnyH_done (by kernel_rfl) ?_ _
      clear CC
      go_wp2_with fail
      refine HPc.mono ?_
      rintro e y ⟨by_, hres⟩
      have BY : Hid (Below wr.heap.size wr y) := (Below.refl wr.heap.size wr).drew.trans by_
      clear by_ HPc hJ
      rcases hres with ⟨hr, g, rfl, hg, hsn⟩ | ⟨hr, rfl⟩
      · have RT : Hid (rightP l s) := hr
        have dl := dataOf_length L256.out hr
        have ml := mkOf_lt l
        obtain ⟨mk, emk⟩ : ∃ x, mkOf l = x := ⟨_, rfl⟩
        obtain ⟨D, eD⟩ : ∃ D, dataOf l = D := ⟨_, rfl⟩
        rw [emk, eD] at HST
        rw [emk] at ml
        rw [eD] at hsn dl
        rw [emk, eD]
        have SN : Hid (Seen y (some ⟨g, 14, none⟩) D.length D ∧ wr.heap.size ≤ g) := ⟨hsn, hg⟩
        have DLn : Hid (1 ≤ D.length ∧ D.length ≤ 242) := dl
        have ML : Hid (mk < 256) := ml
        obtain ⟨dn, edn⟩ : ∃ x, D.length = x := ⟨_, rfl⟩
        have EDN : Hid (D.length = dn) := edn
        rw [edn]
        clear hr hg hsn dl ml emk eD edn
        have hzz := heap_alloc_new y (.cells #[.int .u8 0, .slice none 0 0] 88)
        have SA := World.setRow_alloc_new y #[.int .u8 0, .slice none 0 0] #[.int .u8 (mk : Int), .slice (some ⟨g, 14, none⟩) dn dn] 88
        have HSA : Hid _ := SA
        have ZZ : Hid _ := hzz
        clear SA hzz
        go_wp2_with (first | (refine wpList_store_row rfl 88 (.tmp 9) (.tmp 31) rfl y.heap.size #[.int .u8 (mk : Int), .slice (some ⟨g, 14, none⟩) dn dn] rfl rfl 88 _ ZZ.out (by kernel_rfl) rfl (by simp [Value.oneCell']) ?_; rw [HSA.out]))
        obtain ⟨k0, k1⟩ := alloc_cells y (.int .u8 (mk : Int)) (.slice (some ⟨g, 14, none⟩) dn dn) 88
        have bz := (Below.refl y.heap.size y).alloc (Nat.le_refl _) (.cells #[.int .u8 (mk : Int), .slice (some ⟨g, 14, none⟩) dn dn] 88)
        obtain ⟨z, ez⟩ : ∃ z, y.alloc (.cells #[.int .u8 (mk : Int), .slice (some ⟨g, 14, none⟩) dn dn] 88) = z := ⟨_, rfl⟩
        have BZ : Hid (Below y.heap.size y z) := by show Below y.heap.size y z; rw [← ez]; exact bz
        have YZ : Hid (y.heap.size < z.heap.size) := by show _ < _; rw [← ez]; simp
        rw [ez] at k0 k1
        try rw [ez]
        clear ez bz HSA ZZ
        refine (has_mark mk 1 _ _ _ z ML.out (by omega)).mono ?_
        rintro e z2 ⟨rfl, b2⟩
        have BZ2 : Hid (Below y.heap.size y z2) := BZ.out.trans (b2.mono BZ.out.size)
        have q0 := (b2.cell (p := ⟨y.heap.size, 0, none⟩) YZ.out).trans k0
        have q1 := (b2.cell (p := ⟨y.heap.size, 1, none⟩) YZ.out).trans k1
        have YZ2 : Hid (y.heap.size < z2.heap.size) := Nat.lt_of_lt_of_le YZ.out b2.size
        have BW2 : Hid (Below w.heap.size w z2) := hB.out.trans ((BY.out.trans (BZ2.out.mono BY.out.size)).mono hB.out.size)
        clear b2 k0 k1 BZ YZ
        obtain ⟨f, ef⟩ : ∃ f, decide (mk &&& 1 ≠ 0) = f := ⟨_, rfl⟩
        rw [ef] at HST
        rw [ef]
        clear ef
        by_cases hff : f = decide (s = fm)
        · have EQ : Hid (tgt = if mk &&& 2 ≠ 0 then if sound (wh ++ D) then some ((wh ++ D).drop 4, s + 1) else none else recAt d fr sz fm (fm + c0 - (s + 1)) (s + 1) (wh ++ D)) := by
            show _ = _
            rw [HST.out, if_pos ⟨RT.out, hff⟩]
          have OW : Hid (z2.ownsRow w.heap.size 5 1 (.slice va vl vc) wh.length (cellsOf wh)) := owns_same hO.out.1 (fun k e => by
            have := hO.out.1.lt k e
            rw [BZ2.out.block k (Nat.lt_of_lt_of_le this.2 BY.out.size), BY.out.block k this.2])
          have SN2 : Hid (Seen z2 (some ⟨g, 14, none⟩) D.length D) := Seen.below SN.out.1 BZ2.out
          have WL : Hid (wh.length ≤ 242 * (s - fm)) := hO.out.2
          obtain ⟨v4, w4, hr4, o4, g4⟩ := run_append_bytes 22 z2 w.heap.size (.slice va vl vc) wh.length wh OW.out (some ⟨g, 14, none⟩) D.length dn D SN2.out (fun e => by cases e) (by have := WL.out; have := DLn.out; have := HC.out; have := HLT.out; omega) BW2.out.size
          rw [EDN.out] at hr4
          rw [← List.length_append] at o4
          have hne : (Value.slice va vl vc).ownBlock ≠ some y.heap.size := fun e => by have := (hO.out.1.lt _ e).2; have := BY.out.size; omega
          have p0 : w4.cell? ⟨y.heap.size, 0, none⟩ = some (.int .u8 (mk : Int)) := by rw [g4.cell_far ⟨y.heap.size, 0, none⟩ YZ2.out (fun e => hne e.symm)]; exact q0
          have p1 : w4.cell? ⟨y.heap.size, 1, none⟩ = some (.slice (some ⟨g, 14, none⟩) dn dn) := by rw [g4.cell_far ⟨y.heap.size, 1, none⟩ YZ2.out (fun e => hne e.symm)]; exact q1
          have B4 : Hid (Below w.heap.size w w4) := BW2.out.grown g4 BW2.out.size (fun j e => (OW.out.lt j e).1)
          have wl : (wh ++ D).length ≤ 242 * (s + 1 - fm) ∧ 1 ≤ (wh ++ D).length := by rw [List.length_append]; have := WL.out; have := DLn.out; have := HLT.out; omega
          obtain ⟨g5, c5, e5⟩ : ∃ g5 c5, v4 = .slice (some ⟨g5, 0, none⟩) (wh ++ D).length c5 := by
            rcases o4.2 with ⟨_, h0⟩ | ⟨g5, c5, cur, e, _⟩
            · omega
            · exact ⟨g5, c5, e⟩
          subst e5
          have WL4 : Hid ((wh ++ D).length ≤ 242 * (s + 1 - fm) ∧ 1 ≤ (wh ++ D).length) := wl
          have hcap : (wh ++ D).length ≤ c5 := by
            rcases o4.2 with ⟨e, _⟩ | ⟨g6, c6, cur, e, _, _, hnc, _⟩
            · cases e
            · cases e; exact hnc
          have O4 : Hid (w4.ownsRow w.heap.size 5 1 (.slice (some ⟨g5, 0, none⟩) (wh ++ D).length c5) (wh ++ D).length (cellsOf (wh ++ D)) ∧ (wh ++ D).length ≤ c5) := ⟨o4, hcap⟩
          have HR4 : Hid _ := hr4
          obtain ⟨N4, eN4⟩ : ∃ N, (wh ++ D).length = N := ⟨_, rfl⟩
          have EN4 : Hid ((wh ++ D).length = N4) := eN4
          rw [eN4] at HR4 O4
          clear hr4 o4 g4 hne q0 wl hcap eN4 OW SN2 SN HST BZ2
          have hcc : (f = true ∧ s = fm) ∨ (f = false ∧ ((s : Int) == (fm : Int)) = false) := by
            by_cases e : s = fm
            · left; exact ⟨by rw [hff]; simp [e], e⟩
            · right; exact ⟨by rw [hff]; simp [e], by rw [beq_eq_false_iff_ne]; omega⟩
          clear hff
          rcases hcc with ⟨rfl, hsf⟩ | ⟨rfl, hsf⟩
          · subst hsf
            go_wp2_with (at_builtin; refine wpList_append_known rfl (.tmp 43) (.tmp 45) 22 22 rfl _ _ rfl rfl _ _ HR4.out ?_)
            refine (has_mark mk 2 _ _ _ w4 ML.out (by omega)).mono ?_
            rintro e w5 ⟨rfl, b5⟩
            have B5 : Hid (Below w.heap.size w w5) := B4.out.trans (b5.mono B4.out.size)
            have O5 : Hid (w5.ownsRow w.heap.size 5 1 (.slice (some ⟨g5, 0, none⟩) N4 c5) N4 (cellsOf (wh ++ D)) ∧ N4 ≤ c5) := ⟨owns_same O4.out.1 (fun k e => b5.block k (O4.out.1.lt k e).2), O4.out.2⟩
            have G5 : Hid (w.heap.size ≤ g5) := (O4.out.1.lt g5 rfl).1
            clear b5 O4 B4 p0 p1 HR4 q1
            by_cases hl2 : mk &&& 2 ≠ 0
            · have EQ2 : Hid (tgt = if sound (wh ++ D) then some ((wh ++ D).drop 4, s + 1) else none) := by
                show _ = _
                rw [EQ.out, if_pos hl2]
              rw [decide_eq_true hl2]
              clear EQ hl2
              have S5 : Hid (Seen w5 (some ⟨g5, 0, none⟩) N4 (wh ++ D)) := seen_owned O5.out.1 EN4.out (by unfold maxLen; have := WL4.out; have := EN4.out; have := HC.out; have := HLT.out; omega)
              have HCk := checked_any g5 c5 (wh ++ D) w5 (HT.out.below B5.out HT.out.size) (by have := S5.out; rw [← EN4.out] at this; exact this) (by rw [EN4.out]; exact O5.out.2)
              rw [EN4.out] at HCk
              go_wp2_with fail
              refine HCk.mono ?_
              rintro e w6 ⟨b6, hres⟩
              have B6 : Hid (Below w.heap.size w w6) := B5.out.trans (b6.mono B5.out.size)
              rcases hres with ⟨hso, rfl⟩ | ⟨hso, v6, rfl⟩
              · have EQ3 : Hid (tgt = some ((wh ++ D).drop 4, s + 1)) := by show _ = _; rw [EQ2.out, if_pos hso]
                have S6 : Hid (Seen w6 (some ⟨g5, off4 c5, none⟩) (N4 - 4) ((wh ++ D).drop 4)) := by
                  have q := seen_off4 (cap := c5) (l := wh ++ D) (g := g5) (w := w6) (by have := S5.out.below b6; rw [← EN4.out] at this; exact this) hso.1 (by rw [EN4.out]; exact O5.out.2)
                  rw [EN4.out] at q
                  exact q
                have DL : Hid (((wh ++ D).drop 4).length = N4 - 4) := by show _ = _; rw [List.length_drop, EN4.out]
                have CP : Hid (N4 - 4 ≤ c5 - 4) := by show _ ≤ _; have := O5.out.2; omega
                have U6 : Hid (U8At w6 g5) := (u8_of_owns O5.out.1).below b6
                clear b6 hso EQ2 HCk S5 O5 B5
                go_wp2
                go_ret3
                rw [EQ3.out]
                refine ⟨B6.out, g5, off4 c5, c5 - 4, ?_, G5.out, ?_, ?_, U6.out⟩
                · rw [DL.out]
                  first | rfl | (congr 5 <;> omega) | (simp; done)
                · rw [DL.out]; exact S6.out
                · rw [DL.out]; exact CP.out
              · have EQ3 : Hid (tgt = none) := by show _ = _; rw [EQ2.out, if_neg hso]
                clear b6 hso EQ2 HCk S5 O5 B5
                go_wp2
                go_ret3
                rw [EQ3.out]
                exact ⟨B6.out, _, _, rfl⟩
            · have EQ2 : Hid (recAt d fr sz s (s + c0 - (s + 1)) (s + 1) (wh ++ D) = tgt) := by
                show _ = _
                rw [EQ.out, if_neg hl2]
              rw [decide_eq_false hl2]
              have WK : Hid ((s : Int) + 1 = ((s + 1 : Nat) : Int)) := by show (s : Int) + 1 = ((s + 1 : Nat) : Int); omega
              clear EQ hl2
              go_wp2
              rw [WK.out]
              go_roundw
              case rel => exact ⟨s + 1, wh ++ D, some ⟨g5, 0, none⟩, N4, c5, rfl, rfl, ⟨by have := HLT.out; omega, by have := HLT.out; omega⟩, ⟨by rw [EN4.out]; exact O5.out.1, WL4.out.1⟩, B5.out, EQ2.out⟩
              case measure => exact less_by HLT.out.1
          · skip
            go_wp2_with (at_builtin; refine wpList_append_known rfl (.tmp 43) (.tmp 45) 22 22 rfl _ _ rfl rfl _ _ HR4.out ?_)
            refine (has_mark mk 2 _ _ _ w4 ML.out (by omega)).mono ?_
            rintro e w5 ⟨rfl, b5⟩
            have B5 : Hid (Below w.heap.size w w5) := B4.out.trans (b5.mono B4.out.size)
            have O5 : Hid (w5.ownsRow w.heap.size 5 1 (.slice (some ⟨g5, 0, none⟩) N4 c5) N4 (cellsOf (wh ++ D)) ∧ N4 ≤ c5) := ⟨owns_same O4.out.1 (fun k e => b5.block k (O4.out.1.lt k e).2), O4.out.2⟩
            have G5 : Hid (w.heap.size ≤ g5) := (O4.out.1.lt g5 rfl).1
            clear b5 O4 B4 p0 p1 HR4 q1
            by_cases hl2 : mk &&& 2 ≠ 0
            · have EQ2 : Hid (tgt = if sound (wh ++ D) then some ((wh ++ D).drop 4, s + 1) else none) := by
                show _ = _
                rw [EQ.out, if_pos hl2]
              rw [decide_eq_true hl2]
              clear EQ hl2
              have S5 : Hid (Seen w5 (some ⟨g5, 0, none⟩) N4 (wh ++ D)) := seen_owned O5.out.1 EN4.out (by unfold maxLen; have := WL4.out; have := EN4.out; have := HC.out; have := HLT.out; omega)
              have HCk := checked_any g5 c5 (wh ++ D) w5 (HT.out.below B5.out HT.out.size) (by have := S5.out; rw [← EN4.out] at this; exact this) (by rw [EN4.out]; exact O5.out.2)
              rw [EN4.out] at HCk
              go_wp2_with fail
              refine HCk.mono ?_
              rintro e w6 ⟨b6, hres⟩
              have B6 : Hid (Below w.heap.size w w6) := B5.out.trans (b6.mono B5.out.size)
              rcases hres with ⟨hso, rfl⟩ | ⟨hso, v6, rfl⟩
              · have EQ3 : Hid (tgt = some ((wh ++ D).drop 4, s + 1)) := by show _ = _; rw [EQ2.out, if_pos hso]
                have S6 : Hid (Seen w6 (some ⟨g5, off4 c5, none⟩) (N4 - 4) ((wh ++ D).drop 4)) := by
                  have q := seen_off4 (cap := c5) (l := wh ++ D) (g := g5) (w := w6) (by have := S5.out.below b6; rw [← EN4.out] at this; exact this) hso.1 (by rw [EN4.out]; exact O5.out.2)
                  rw [EN4.out] at q
                  exact q
                have DL : Hid (((wh ++ D).drop 4).length = N4 - 4) := by show _ = _; rw [List.length_drop, EN4.out]
                have CP : Hid (N4 - 4 ≤ c5 - 4) := by show _ ≤ _; have := O5.out.2; omega
                have U6 : Hid (U8At w6 g5) := (u8_of_owns O5.out.1).below b6
                clear b6 hso EQ2 HCk S5 O5 B5
                go_wp2
                go_ret3
                rw [EQ3.out]
                refine ⟨B6.out, g5, off4 c5, c5 - 4, ?_, G5.out, ?_, ?_, U6.out⟩
                · rw [DL.out]
                  first | rfl | (congr 5 <;> omega) | (simp; done)
                · rw [DL.out]; exact S6.out
                · rw [DL.out]; exact CP.out
              · have EQ3 : Hid (tgt = none) := by show _ = _; rw [EQ2.out, if_neg hso]
                clear b6 hso EQ2 HCk S5 O5 B5
                go_wp2
                go_ret3
                rw [EQ3.out]
                exact ⟨B6.out, _, _, rfl⟩
            · have EQ2 : Hid (recAt d fr sz fm (fm + c0 - (s + 1)) (s + 1) (wh ++ D) = tgt) := by
                show _ = _
                rw [EQ.out, if_neg hl2]
              rw [decide_eq_false hl2]
              have WK : Hid ((s : Int) + 1 = ((s + 1 : Nat) : Int)) := by show (s : Int) + 1 = ((s + 1 : Nat) : Int); omega
              clear EQ hl2
              go_wp2
              rw [WK.out]
              go_roundw
              case rel => exact ⟨s + 1, wh ++ D, some ⟨g5, 0, none⟩, N4, c5, rfl, rfl, ⟨by have := HLT.out; omega, by have := HLT.out; omega⟩, ⟨by rw [EN4.out]; exact O5.out.1, WL4.out.1⟩, B5.out, EQ2.out⟩
              case measure => exact less_by HLT.out.1
        · have EQ : Hid (tgt = none) := by
            show _ = _
            rw [HST.out, if_neg (fun h => hff h.2)]
          have hcc : (f = false ∧ s = fm) ∨ (f = true ∧ ((s : Int) == (fm : Int)) = false) := by
            by_cases e : s = fm
            · left; refine ⟨?_, e⟩; cases f <;> simp_all
            · right; refine ⟨?_, by rw [beq_eq_false_iff_ne]; omega⟩; cases f <;> simp_all
          clear hff HST q0 q1
          rcases hcc with ⟨rfl, hsf⟩ | ⟨rfl, hsf⟩
          · have hs2 : (s : Int) = (fm : Int) := by omega
            clear hsf
            go_wp2
            go_ret3
            rw [EQ.out]
            exact ⟨BW2.out, _, _, rfl⟩
          · go_wp2
            go_ret3
            rw [EQ.out]
            exact ⟨BW2.out, _, _, rfl⟩
      · have EQ : Hid (tgt = none) := by
          show _ = _
          rw [HST.out, if_neg (fun h => hr h.1)]
        have BWy : Hid (Below w.heap.size w (y.alloc (.cells #[.int .u8 0, .slice none 0 0] 88))) := (hB.out.trans (BY.out.mono hB.out.size)).alloc (hB.out.trans (BY.out.mono hB.out.size)).size _
        have ZZ : Hid _ := heap_alloc_new y (.cells #[.int .u8 0, .slice none 0 0] 88)
        have HSA : Hid _ := World.setRow_alloc_new y #[.int .u8 0, .slice none 0 0] #[.int .u8 0, .slice none 0 0] 88
        clear hr HST
        go_wp2_with (first | (refine wpList_store_row rfl 88 (.tmp 9) (.tmp 31) rfl y.heap.size #[.int .u8 0, .slice none 0 0] rfl rfl 88 _ ZZ.out (by kernel_rfl) rfl (by simp [Value.oneCell']) ?_; rw [HSA.out]))
        go_ret3
        rw [EQ.out]
        exact ⟨BWy.out, _, _, rfl⟩
    · have g1 : ¬ (s : Int) < (st : Int) + (sz : Int) := by have := EC.out; have := HB.out; omega
      have EQ : Hid (tgt = none) := by
        show _ = _
        rw [← hR.out, show fm + c0 - s = 0 by omega]
        rfl
      clear hlt hk hR hJ
      go_wp2_with fail
      refine wp_region_held_drew (S := fun X => X.cell? ⟨J, 3, none⟩ = some (.int .i64 (st : Int)) ∧ X.cell? ⟨J, 2, none⟩ = some (.int .i64 (sz : Int))) (by kernel_rfl) CC.out (fun hHeld => ?_)
      refine take_run (i := 0) (oi := { dst := some 14, op := Go.Op.move (Go.Operand.tmp 8), type := 2, pos := "journal.go:62", after := #[], guard := none }) (v := .int .i64 (s : Int)) rfl (by kernel_rfl) (by kernel_rfl) (by kernel_rfl) (fun _ _ _ h => h) (by rfl) ?_ hHeld ?_
      · (intro wq hSw; go_simp <;> with_reducible rfl)
      try simp only [Act.put, List.setIfInBounds_toArray, List.set_cons_zero, List.set_cons_succ]
      refine take_run (i := 1) (oi := { dst := some 15, op := Go.Op.move (Go.Operand.tmp 0), type := 37, pos := "journal.go:62", after := #[], guard := none }) (v := .pointer (some ⟨J, 0, none⟩)) rfl (by kernel_rfl) (by kernel_rfl) (by kernel_rfl) (fun _ _ _ h => h) (by rfl) ?_ hHeld ?_
      · (intro wq hSw; go_simp <;> with_reducible rfl)
      try simp only [Act.put, List.setIfInBounds_toArray, List.set_cons_zero, List.set_cons_succ]
      refine take_run (i := 2) (oi := { dst := some 16, op := Go.Op.nilCheck (Go.Operand.tmp 15), type := 0, pos := "journal.go:62", after := #[{ on := 1, ground := Go.Ground.data }], guard := none }) (v := .pointer (some ⟨J, 0, none⟩)) rfl (by kernel_rfl) (by kernel_rfl) (by kernel_rfl) (fun _ _ _ h => h) (by rfl) ?_ hHeld ?_
      · (intro wq hSw; go_simp <;> with_reducible rfl)
      try simp only [Act.put, List.setIfInBounds_toArray, List.set_cons_zero, List.set_cons_succ]
      refine take_run (i := 3) (oi := { dst := some 17, op := Go.Op.fieldAddr 80 (Go.Operand.tmp 16) 3, type := 0, pos := "journal.go:62", after := #[{ on := 2, ground := Go.Ground.data }], guard := none }) (v := .pointer (some ⟨J, 3, none⟩)) rfl (by kernel_rfl) (by kernel_rfl) (by kernel_rfl) (fun _ _ _ h => h) (by rfl) ?_ hHeld ?_
      · (intro wq hSw; go_simp <;> with_reducible rfl)
      try simp only [Act.put, List.setIfInBounds_toArray, List.set_cons_zero, List.set_cons_succ]
      refine take_run (i := 4) (oi := { dst := some 18, op := Go.Op.load 2 (Go.Operand.tmp 17), type := 2, pos := "journal.go:62", after := #[{ on := 3, ground := Go.Ground.data }], guard := none }) (v := .int .i64 (st : Int)) rfl (by kernel_rfl) (by kernel_rfl) (by kernel_rfl) (fun _ _ _ h => h) (by rfl) ?_ hHeld ?_
      · (intro wq hSw; obtain ⟨s3, s2⟩ := hSw; go_simp <;> with_reducible rfl)
      try simp only [Act.put, List.setIfInBounds_toArray, List.set_cons_zero, List.set_cons_succ]
      refine take_run (i := 5) (oi := { dst := some 19, op := Go.Op.move (Go.Operand.tmp 0), type := 37, pos := "journal.go:62", after := #[], guard := none }) (v := .pointer (some ⟨J, 0, none⟩)) rfl (by kernel_rfl) (by kernel_rfl) (by kernel_rfl) (fun _ _ _ h => h) (by rfl) ?_ hHeld ?_
      · (intro wq hSw; go_simp <;> with_reducible rfl)
      try simp only [Act.put, List.setIfInBounds_toArray, List.set_cons_zero, List.set_cons_succ]
      refine take_run (i := 6) (oi := { dst := some 20, op := Go.Op.nilCheck (Go.Operand.tmp 19), type := 0, pos := "journal.go:62", after := #[{ on := 5, ground := Go.Ground.data }], guard := none }) (v := .pointer (some ⟨J, 0, none⟩)) rfl (by kernel_rfl) (by kernel_rfl) (by kernel_rfl) (fun _ _ _ h => h) (by rfl) ?_ hHeld ?_
      · (intro wq hSw; go_simp <;> with_reducible rfl)
      try simp only [Act.put, List.setIfInBounds_toArray, List.set_cons_zero, List.set_cons_succ]
      refine take_run (i := 7) (oi := { dst := some 21, op := Go.Op.fieldAddr 80 (Go.Operand.tmp 20) 2, type := 0, pos := "journal.go:62", after := #[{ on := 6, ground := Go.Ground.data }], guard := none }) (v := .pointer (some ⟨J, 2, none⟩)) rfl (by kernel_rfl) (by kernel_rfl) (by kernel_rfl) (fun _ _ _ h => h) (by rfl) ?_ hHeld ?_
      · (intro wq hSw; go_simp <;> with_reducible rfl)
      try simp only [Act.put, List.setIfInBounds_toArray, List.set_cons_zero, List.set_cons_succ]
      refine take_run (i := 8) (oi := { dst := some 22, op := Go.Op.load 3 (Go.Operand.tmp 21), type := 3, pos := "journal.go:62", after := #[{ on := 7, ground := Go.Ground.data }], guard := none }) (v := .int .i64 (sz : Int)) rfl (by kernel_rfl) (by kernel_rfl) (by kernel_rfl) (fun _ _ _ h => h) (by rfl) ?_ hHeld ?_
      · (intro wq hSw; obtain ⟨s3, s2⟩ := hSw; go_simp <;> with_reducible rfl)
      try simp only [Act.put, List.setIfInBounds_toArray, List.set_cons_zero, List.set_cons_succ]
      refine take_run (i := 9) (oi := { dst := some 23, op := Go.Op.binOp Go.BinOp.add 2 (Go.Operand.tmp 18) (Go.Operand.tmp 22) 2, type := 2, pos := "journal.go:62", after := #[{ on := 4, ground := Go.Ground.data }, { on := 8, ground := Go.Ground.data }], guard := none }) (v := .int .i64 ((st : Int) + (sz : Int))) rfl (by kernel_rfl) (by kernel_rfl) (by kernel_rfl) (fun _ _ _ h => h) (by rfl) ?_ hHeld ?_
      · (intro wq hSw; go_simp <;> with_reducible rfl)
      try simp only [Act.put, List.setIfInBounds_toArray, List.set_cons_zero, List.set_cons_succ]
      refine take_run (i := 10) (oi := { dst := some 24, op := Go.Op.binOp Go.BinOp.lss 2 (Go.Operand.tmp 14) (Go.Operand.tmp 23) 2, type := 4, pos := "journal.go:62", after := #[{ on := 0, ground := Go.Ground.data }, { on := 9, ground := Go.Ground.data }], guard := none }) (v := .bool false) rfl (by kernel_rfl) (by kernel_rfl) (by kernel_rfl) (fun _ _ _ h => h) (by rfl) ?_ hHeld ?_
      · (intro wq hSw; go_simp <;> with_reducible rfl)
      try simp only [Act.put, List.setIfInBounds_toArray, List.set_cons_zero, List.set_cons_succ]
      clear hHeld
      refine wpAnyH_done (by kernel_rfl) ?_ _
      go_wp2
      go_ret3
      rw [EQ.out]
      exact ⟨hB.out.drew, _, _, rfl⟩
end Go.Proofs.YtikpmaecbfebkaaDoor
