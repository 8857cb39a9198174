/- Package journal: the piece in the sector of a number; a record's sum. -/
import Derived.Test.YtikpmaecbfebkaaDoorJPiece
namespace Go.Proofs.YtikpmaecbfebkaaDoor
open Go.RowKit
set_option linter.unusedVariables false

/-- A sector's marks and piece. -/
def mkOf (l : List (BitVec 8)) : Nat := (l.getD 12 0#8).toNat
def dataOf (l : List (BitVec 8)) : List (BitVec 8) := (l.drop 14).take (l.getD 13 0#8).toNat
/-- What the sector of a number holds. -/
def atS (d : DS) (fr sz s : Nat) : List (BitVec 8) := readD d (plc fr sz s)
theorem plc_lt {fr sz n s : Nat} (h1 : 1 ≤ sz) (h2 : fr + sz ≤ n) : plc fr sz s < n := by unfold plc; have := Nat.mod_lt (s - 1) (show sz > 0 by omega); omega
set_option maxRecDepth 100000 in
set_option maxHeartbeats 3200000 in
theorem piece_any (m : DM) (n : Nat) (d : DS) (J fr sz st nx : Nat) (dead : Bool) (s : Nat) (w : World) (hT : Tabs w) (hd : Dsk w m n d) (hj : JAt w J m.D fr sz st nx dead) (h1 : 1 ≤ s) (h2 : s ≤ 4611686018427387904) (hz : 1 ≤ sz) (hs : fr + sz ≤ n) :
    Calls Tryd.prog 69 #[.pointer (some ⟨J, 0, none⟩), .int .i64 (s : Int)] w fun e w' => Below w.heap.size w w' ∧ ((rightP (atS d fr sz s) s ∧ ∃ g, e = .returned (.tuple #[.agg #[.int .u8 (mkOf (atS d fr sz s) : Int), .slice (some ⟨g, 14, none⟩) (dataOf (atS d fr sz s)).length (dataOf (atS d fr sz s)).length], .bool true]) ∧ w.heap.size ≤ g ∧ Seen w' (some ⟨g, 14, none⟩) (dataOf (atS d fr sz s)).length (dataOf (atS d fr sz s))) ∨ (¬ rightP (atS d fr sz s) s ∧ e = .returned (.tuple #[.agg #[.int .u8 0, .slice none 0 0], .bool false]))) := by
  have B1 : Hid (Below w.heap.size w (w.alloc (.cells #[.int .u8 0, .slice none 0 0] 88))) := (Below.refl _ w).alloc (Nat.le_refl _) _
  have hzz := heap_alloc_new w (.cells #[.int .u8 0, .slice none 0 0] 88)
  have hsz : (w.alloc (.cells #[.int .u8 0, .slice none 0 0] 88)).heap.size = w.heap.size + 1 := by simp
  obtain ⟨w1, ew⟩ : ∃ w1, w.alloc (.cells #[.int .u8 0, .slice none 0 0] 88) = w1 := ⟨_, rfl⟩
  rw [ew] at B1 hzz hsz
  have EW : Hid (w.alloc (.cells #[.int .u8 0, .slice none 0 0] 88) = w1) := ew
  have HZ : Hid (∀ X, Below w1.heap.size w1 X → X.heap[w.heap.size]? = some (.cells #[.int .u8 0, .slice none 0 0] 88 (0, 0))) := fun X b => by rw [b.block _ (by omega)]; exact hzz
  have hn := hd.ok.n2
  have hp := plc_lt (s := s) hz hs
  have hj1 := (hj.below B1.out).below (Below.refl _ w1).drew
  have HP : Hid (Calls Tryd.prog 53 #[.pointer (some ⟨J, 0, none⟩), .int .i64 (s : Int)] w1.drew fun e w' => e = .returned (.int .i64 (plc fr sz s : Nat)) ∧ w' = w1.drew.drew) := place_any J m.D fr sz st nx dead s w1.drew hj1 h1 h2 hz (by omega)
  have HR : Hid (Calls Tryd.prog 79 #[.pointer (some ⟨m.D, 0, none⟩), .int .i64 (plc fr sz s : Nat)] w1.drew.drew fun e w' => ∃ g, e = .returned (.tuple #[.slice (some ⟨g, 0, none⟩) 256 256, .int .i64 0]) ∧ w'.ownsRow w1.drew.drew.heap.size 5 1 (.slice (some ⟨g, 0, none⟩) 256 256) 256 (cellsOf (readD d (plc fr sz s))) ∧ Below w1.drew.drew.heap.size w1.drew.drew w') := read_any m n d _ _ ((hd.below B1.out).below (Below.refl _ w1).drew.drew) hp
  have CJ : Hid (∀ X, Below w1.drew.heap.size w1.drew X → X.cell? ⟨J, 0, none⟩ = some (.pointer (some ⟨m.D, 0, none⟩))) := fun X b => (hj1.below b).cells.1
  have ll : (atS d fr sz s).length = 256 := sec_length (by have := hd.ok.ln; omega)
  have EA : Hid (readD d (plc fr sz s) = atS d fr sz s) := rfl
  obtain ⟨pq, epq⟩ : ∃ p, plc fr sz s = p := ⟨_, rfl⟩
  rw [epq] at HP HR EA
  obtain ⟨l, el⟩ : ∃ l, atS d fr sz s = l := ⟨_, rfl⟩
  rw [el] at ll EA
  rw [EA.out] at HR
  rw [el]
  have LL : Hid (l.length = 256) := ll
  have H2 : Hid (s < 9223372036854775808) := by show s < 9223372036854775808; omega
  have HT : Hid (Tabs w1) := hT.below B1.out hT.size
  clear hT hd hj h1 h2 hz hs ew hzz hsz hn hp hj1 epq el ll EA
  go_enter Tryd.func69, Tryd.ntmps69
  go_wp2_with fail
  rw [EW.out]
  refine wp_region_held_drew (S := fun X => Below w1.drew.heap.size w1.drew X) (by kernel_rfl) (Below.refl _ _) (fun hHeld => ?_)
  refine take_run (i := 0) (oi := { dst := some 9, op := Go.Op.move (Go.Operand.tmp 0), type := 37, pos := "journal.go:78", after := #[], guard := none }) (v := .pointer (some ⟨J, 0, none⟩)) rfl (by kernel_rfl) (by kernel_rfl) (by kernel_rfl) (fun _ _ _ h => h) (by rfl) ?_ hHeld ?_
  · (intro wq hSw; go_simp <;> with_reducible rfl)
  try simp only [Act.put, List.setIfInBounds_toArray, List.set_cons_zero, List.set_cons_succ]
  refine take_run (i := 1) (oi := { dst := some 10, op := Go.Op.nilCheck (Go.Operand.tmp 9), type := 0, pos := "journal.go:78", after := #[{ on := 0, ground := Go.Ground.data }], guard := none }) (v := .pointer (some ⟨J, 0, none⟩)) rfl (by kernel_rfl) (by kernel_rfl) (by kernel_rfl) (fun _ _ _ h => h) (by rfl) ?_ hHeld ?_
  · (intro wq hSw; go_simp <;> with_reducible rfl)
  try simp only [Act.put, List.setIfInBounds_toArray, List.set_cons_zero, List.set_cons_succ]
  refine take_run (i := 2) (oi := { dst := some 11, op := Go.Op.fieldAddr 80 (Go.Operand.tmp 10) 0, type := 0, pos := "journal.go:78", after := #[{ on := 1, ground := Go.Ground.data }], guard := none }) (v := .pointer (some ⟨J, 0, none⟩)) rfl (by kernel_rfl) (by kernel_rfl) (by kernel_rfl) (fun _ _ _ h => h) (by rfl) ?_ hHeld ?_
  · (intro wq hSw; go_simp <;> with_reducible rfl)
  try simp only [Act.put, List.setIfInBounds_toArray, List.set_cons_zero, List.set_cons_succ]
  refine take_run (i := 3) (oi := { dst := some 12, op := Go.Op.load 24 (Go.Operand.tmp 11), type := 24, pos := "journal.go:78", after := #[{ on := 2, ground := Go.Ground.data }], guard := none }) (v := .pointer (some ⟨m.D, 0, none⟩)) rfl (by kernel_rfl) (by kernel_rfl) (by kernel_rfl) (fun _ _ _ h => h) (by rfl) ?_ hHeld ?_
  · (intro wq hSw; have k0 := CJ.out wq hSw; go_simp <;> with_reducible rfl)
  try simp only [Act.put, List.setIfInBounds_toArray, List.set_cons_zero, List.set_cons_succ]
  refine take_run (i := 4) (oi := { dst := some 13, op := Go.Op.move (Go.Operand.tmp 0), type := 37, pos := "journal.go:78", after := #[], guard := none }) (v := .pointer (some ⟨J, 0, none⟩)) rfl (by kernel_rfl) (by kernel_rfl) (by kernel_rfl) (fun _ _ _ h => h) (by rfl) ?_ hHeld ?_
  · (intro wq hSw; go_simp <;> with_reducible rfl)
  try simp only [Act.put, List.setIfInBounds_toArray, List.set_cons_zero, List.set_cons_succ]
  refine take_run (i := 5) (oi := { dst := some 14, op := Go.Op.move (Go.Operand.tmp 1), type := 2, pos := "journal.go:78", after := #[], guard := none }) (v := .int .i64 (s : Int)) rfl (by kernel_rfl) (by kernel_rfl) (by kernel_rfl) (fun _ _ _ h => h) (by rfl) ?_ hHeld ?_
  · (intro wq hSw; go_simp <;> with_reducible rfl)
  try simp only [Act.put, List.setIfInBounds_toArray, List.set_cons_zero, List.set_cons_succ]
  refine take_call (i := 6) (oi := { dst := some 15, op := Go.Op.call { callee := Go.Callee.value (Go.Operand.func 53), args := #[Go.Operand.tmp 13, Go.Operand.tmp 14], argTypes := #[37, 2] }, type := 3, pos := "journal.go:78", after := #[{ on := 4, ground := Go.Ground.data }, { on := 5, ground := Go.Ground.data }], guard := none }) rfl (by kernel_rfl) (by rfl) 53 _ (by go_simp <;> with_reducible rfl) ?_
  refine (HP.out).mono ?_
  rintro e y1 ⟨rfl, rfl⟩
  have hY := (Below.refl w1.drew.heap.size w1.drew).drew
  refine ⟨.int .i64 (pq : Nat), rfl, hY, ?_⟩
  try simp only [Act.put, List.setIfInBounds_toArray, List.set_cons_zero, List.set_cons_succ]
  refine take_call (i := 7) (oi := { dst := some 16, op := Go.Op.call { callee := Go.Callee.value (Go.Operand.func 79), args := #[Go.Operand.tmp 12, Go.Operand.tmp 15], argTypes := #[24, 3] }, type := 114, pos := "journal.go:78", after := #[{ on := 3, ground := Go.Ground.data }, { on := 6, ground := Go.Ground.data }, { on := 6, ground := Go.Ground.chain }], guard := none }) rfl (by kernel_rfl) (by rfl) 79 _ (by go_simp <;> with_reducible rfl) ?_
  refine (HR.out).mono ?_
  rintro e y2 ⟨g, rfl, og, bg⟩
  have hY2 := hY.trans (bg.mono hY.size)
  refine ⟨.tuple #[.slice (some ⟨g, 0, none⟩) 256 256, .int .i64 0], rfl, hY2, ?_⟩
  try simp only [Act.put, List.setIfInBounds_toArray, List.set_cons_zero, List.set_cons_succ]
  refine take_run (i := 8) (oi := { dst := some 8, op := Go.Op.move (Go.Operand.tmp 16), type := 114, pos := "journal.go:78", after := #[{ on := 7, ground := Go.Ground.data }], guard := none }) (v := .tuple #[.slice (some ⟨g, 0, none⟩) 256 256, .int .i64 0]) rfl (by kernel_rfl) (by kernel_rfl) (by kernel_rfl) (fun _ _ _ h => h) (by rfl) ?_ hY2 ?_
  · (intro wq hSw; go_simp <;> with_reducible rfl)
  try simp only [Act.put, List.setIfInBounds_toArray, List.set_cons_zero, List.set_cons_succ]
  refine take_run (i := 9) (oi := { dst := some 17, op := Go.Op.extract (Go.Operand.tmp 8) 0, type := 22, pos := "journal.go:78", after := #[{ on := 8, ground := Go.Ground.data }], guard := none }) (v := .slice (some ⟨g, 0, none⟩) 256 256) rfl (by kernel_rfl) (by kernel_rfl) (by kernel_rfl) (fun _ _ _ h => h) (by rfl) ?_ hY2 ?_
  · (intro wq hSw; go_simp <;> with_reducible rfl)
  try simp only [Act.put, List.setIfInBounds_toArray, List.set_cons_zero, List.set_cons_succ]
  refine take_run (i := 10) (oi := { dst := some 18, op := Go.Op.extract (Go.Operand.tmp 8) 1, type := 25, pos := "journal.go:78", after := #[{ on := 8, ground := Go.Ground.data }, { on := 11, ground := Go.Ground.gcOnly Go.Departure.lateStores }], guard := none }) (v := .int .i64 0) rfl (by kernel_rfl) (by kernel_rfl) (by kernel_rfl) (fun _ _ _ h => h) (by rfl) ?_ hY2 ?_
  · (intro wq hSw; go_simp <;> with_reducible rfl)
  try simp only [Act.put, List.setIfInBounds_toArray, List.set_cons_zero, List.set_cons_succ]
  refine take_run (i := 11) (oi := { dst := some 6, op := Go.Op.assign (Go.Operand.tmp 17), type := 22, pos := "journal.go:78", after := #[{ on := 9, ground := Go.Ground.data }, { on := 7, ground := Go.Ground.chain }, { on := 0, ground := Go.Ground.phase }, { on := 1, ground := Go.Ground.phase }, { on := 2, ground := Go.Ground.phase }, { on := 3, ground := Go.Ground.phase }, { on := 4, ground := Go.Ground.phase }, { on := 5, ground := Go.Ground.phase }, { on := 6, ground := Go.Ground.phase }, { on := 7, ground := Go.Ground.phase }, { on := 8, ground := Go.Ground.phase }, { on := 9, ground := Go.Ground.phase }, { on := 10, ground := Go.Ground.textOnly Go.Departure.lateStores }], guard := none }) (v := .slice (some ⟨g, 0, none⟩) 256 256) rfl (by kernel_rfl) (by kernel_rfl) (by kernel_rfl) (fun _ _ _ h => h) (by rfl) ?_ hY2 ?_
  · (intro wq hSw; go_simp <;> with_reducible rfl)
  try simp only [Act.put, List.setIfInBounds_toArray, List.set_cons_zero, List.set_cons_succ]
  refine take_run (i := 12) (oi := { dst := some 7, op := Go.Op.assign (Go.Operand.tmp 18), type := 25, pos := "journal.go:78", after := #[{ on := 10, ground := Go.Ground.data }, { on := 11, ground := Go.Ground.chain }, { on := 0, ground := Go.Ground.phase }, { on := 1, ground := Go.Ground.phase }, { on := 2, ground := Go.Ground.phase }, { on := 3, ground := Go.Ground.phase }, { on := 4, ground := Go.Ground.phase }, { on := 5, ground := Go.Ground.phase }, { on := 6, ground := Go.Ground.phase }, { on := 7, ground := Go.Ground.phase }, { on := 8, ground := Go.Ground.phase }, { on := 9, ground := Go.Ground.phase }, { on := 10, ground := Go.Ground.phase }, { on := 11, ground := Go.Ground.phase }], guard := none }) (v := .int .i64 0) rfl (by kernel_rfl) (by kernel_rfl) (by kernel_rfl) (fun _ _ _ h => h) (by rfl) ?_ hY2 ?_
  · (intro wq hSw; go_simp <;> with_reducible rfl)
  try simp only [Act.put, List.setIfInBounds_toArray, List.set_cons_zero, List.set_cons_succ]
  refine wpAnyH_done (by kernel_rfl) ?_ _
  have B2 : Hid (Below w1.heap.size w1 y2) := (Below.refl w1.heap.size w1).drew.trans hY2
  have S2 : Hid (Seen y2 (some ⟨g, 0, none⟩) 256 l) := seen_owned og LL.out (by unfold maxLen; omega)
  have G2 : Hid (w.heap.size ≤ g) := Nat.le_trans B1.out.size (og.lt g rfl).1
  clear hHeld hY hY2 og bg HP HR CJ
  go_wp2_with fail
  refine (pieceOf_any g l s y2 (HT.out.below B2.out HT.out.size) S2.out H2.out).mono ?_
  rintro e y3 ⟨b3, hres⟩
  have B3 : Hid (Below w1.heap.size w1 y3) := B2.out.trans (b3.mono B2.out.size)
  have S3 : Hid (Seen y3 (some ⟨g, 0, none⟩) 256 l) := S2.out.below b3
  clear b3 B2 S2
  rcases hres with ⟨hr, rfl⟩ | ⟨hr, rfl⟩
  · have HRt : Hid (rightP l s) := hr
    have dl : (dataOf l).length = (l.getD 13 0#8).toNat := by unfold dataOf; have := hr.2.2.2.1; have := LL.out; rw [List.length_take, List.length_drop]; omega
    have SD : Hid (Seen y3 (some ⟨g, 14, none⟩) (dataOf l).length (dataOf l)) := by
      show Seen _ _ _ _
      rw [dl]
      exact seen_sub S3.out (by have := hr.2.2.2.1; omega)
    obtain ⟨ln, eln⟩ : ∃ n, (l.getD 13 0#8).toNat = n := ⟨_, rfl⟩
    obtain ⟨mk, emk⟩ : ∃ n, (l.getD 12 0#8).toNat = n := ⟨_, rfl⟩
    have EM : Hid (mkOf l = mk) := emk
    rw [eln] at dl
    rw [eln, emk]
    have DL : Hid ((dataOf l).length = ln) := dl
    have FRM : Hid (Seen (y3.setRow w.heap.size #[.int .u8 (mk : Int), .slice (some ⟨g, 14, none⟩) ln ln]) (some ⟨g, 14, none⟩) (dataOf l).length (dataOf l)) := by
      have h0 := SD.out
      refine ⟨h0.1, h0.2.1, h0.2.2.imp id ?_⟩
      rintro ⟨b, off, e, hc⟩
      cases e
      refine ⟨g, 14, rfl, fun j hj => ?_⟩
      rw [World.cell?_of_block (w := y3) (a := ⟨g, 14 + j, none⟩) (setRow_other y3 w.heap.size g _ (fun e => ?_))]
      · exact hc j hj
      · have hcj := hc j hj
        rw [e] at hcj
        have hb := HZ.out y3 B3.out
        simp only [World.cell?, hb] at hcj
        have : ¬ (14 + j < 2) := by omega
        simp [this] at hcj
    clear hr dl eln emk
    go_wp2_with (first | (refine wpList_store_row rfl 88 (.tmp 4) (.tmp 25) rfl w.heap.size #[.int .u8 (mk : Int), .slice (some ⟨g, 14, none⟩) ln ln] rfl rfl 88 _ (HZ.out y3 B3.out) (by kernel_rfl) rfl (by simp [Value.oneCell']) ?_))
    refine bodyPost_ret (results_row rfl _ _ w.heap.size 88 _ _ _ rfl (setRow_heap _ _ _ _ _ _ (HZ.out y3 B3.out)) Tryd.underlying88 rfl (by kernel_rfl)) rfl ⟨row_below (B1.out.trans (B3.out.mono B1.out.size)) (Nat.le_refl _), .inl ⟨HRt.out, g, ?_, G2.out, FRM.out⟩⟩
    rw [EM.out, DL.out]
    rfl
  · have HRf : Hid (¬ rightP l s) := hr
    clear hr
    go_wp2_with (first | (refine wpList_store_row rfl 88 (.tmp 4) (.tmp 25) rfl w.heap.size #[.int .u8 0, .slice none 0 0] rfl rfl 88 _ (HZ.out y3 B3.out) (by kernel_rfl) rfl (by simp [Value.oneCell']) ?_))
    exact bodyPost_ret (results_row rfl _ _ w.heap.size 88 _ _ _ rfl (setRow_heap _ _ _ _ _ _ (HZ.out y3 B3.out)) Tryd.underlying88 rfl (by kernel_rfl)) rfl ⟨row_below (B1.out.trans (B3.out.mono B1.out.size)) (Nat.le_refl _), .inr ⟨HRf.out, rfl⟩⟩
/-- A record's bytes are right. -/
def sound (l : List (BitVec 8)) : Prop := 4 ≤ l.length ∧ l.length ≤ 8196 ∧ le (l.take 4) = (Crc.more 0#32 (l.drop 4)).toNat
instance (l : List (BitVec 8)) : Decidable (sound l) := by unfold sound; infer_instance
/-- Where the bytes behind the first four lie. -/
def off4 (cap : Nat) : Nat := if cap = 4 then 0 else 4
theorem seen_off4 {w : World} {g cap : Nat} {l : List (BitVec 8)} (h : Seen w (some ⟨g, 0, none⟩) l.length l) (h4 : 4 ≤ l.length) (hc : l.length ≤ cap) : Seen w (some ⟨g, off4 cap, none⟩) (l.length - 4) (l.drop 4) := by
  unfold off4
  split
  · have e : l.length = 4 := by omega
    have e2 : l.drop 4 = [] := List.drop_of_length_le (by omega)
    rw [e2, e]
    exact ⟨rfl, by simp, .inl rfl⟩
  · exact seen_tail h h4
set_option maxRecDepth 100000 in
set_option maxHeartbeats 1600000 in
theorem checked_any (g cap : Nat) (l : List (BitVec 8)) (w : World) (hT : Tabs w) (h : Seen w (some ⟨g, 0, none⟩) l.length l) (hc : l.length ≤ cap) :
    Calls Tryd.prog 78 #[.slice (some ⟨g, 0, none⟩) l.length cap] w fun e w' => Below w.heap.size w w' ∧ ((sound l ∧ e = .returned (.tuple #[.slice (some ⟨g, off4 cap, none⟩) (l.length - 4) (cap - 4), .bool true])) ∨ (¬ sound l ∧ ∃ v, e = .returned (.tuple #[v, .bool false]))) := by
  have HSO : Hid (sound l ↔ 4 ≤ l.length ∧ l.length ≤ 8196 ∧ le (l.take 4) = (Crc.more 0#32 (l.drop 4)).toNat) := Iff.rfl
  have HS : Hid (Seen w (some ⟨g, 0, none⟩) l.length l) := h
  have HT : Hid (Tabs w) := hT
  obtain ⟨L, eL⟩ : ∃ L, l.length = L := ⟨_, rfl⟩
  have EL : Hid (l.length = L) := eL
  rw [eL] at HSO hc
  rw [eL]
  clear h hT eL
  by_cases h1 : 4 ≤ L
  · have g1 : ¬ (L : Int) < 4 := by omega
    by_cases h2 : L ≤ 8196
    · have g2 : ¬ (8196 : Int) < (L : Int) := by omega
      have G4 : Hid (Calls Tryd.prog 83 #[.slice (some ⟨g, 0, none⟩) 4 cap] w fun e w' => e = .returned (.int .u64 (le (l.take 4) : Nat)) ∧ w' = w) := get_any _ _ _ _ w (HS.out.take 4 (by rw [EL.out]; exact h1)) (by simp; omega)
      have SM : Hid (Calls Tryd.prog 71 #[.slice (some ⟨g, off4 cap, none⟩) (L - 4) (cap - 4)] w fun e w' => e = .returned (.int .u32 ((Crc.more 0#32 (l.drop 4)).toNat : Nat)) ∧ ∃ n, w' = w.drewN n) := by
        have q := seen_off4 HS.out (by rw [EL.out]; exact h1) (by rw [EL.out]; exact hc)
        rw [EL.out] at q
        exact sum_any _ _ _ _ w HT.out q
      have hcs := crc_lt (Crc.more 0#32 (l.drop 4))
      have hl4 := le_lt (l.take 4)
      have l4 : (l.take 4).length = 4 := by have := EL.out; simp; omega
      rw [l4] at hl4
      obtain ⟨n4, e4⟩ : ∃ n, le (l.take 4) = n := ⟨_, rfl⟩
      obtain ⟨cs, ecs⟩ : ∃ n, (Crc.more 0#32 (l.drop 4)).toNat = n := ⟨_, rfl⟩
      rw [e4] at G4 hl4 HSO
      rw [ecs] at SM hcs HSO
      have wc : IntKind.u64.wrap (cs : Int) = (cs : Int) := by rw [IntKind.wrap_u64]; omega
      have u1 : (4 : Int) ≤ (L : Int) := by omega
      have u2 : (4 : Int) ≤ (cap : Int) := by omega
      have SQ : Hid (sound l ↔ n4 = cs) := by
        have := HSO.out
        show _ ↔ _
        rw [this]
        exact ⟨fun h => h.2.2, fun h => ⟨h1, h2, h⟩⟩
      have OF : Hid ((if cap = 4 then (some ⟨g, 0, none⟩ : Option Addr) else some ⟨g, 4, none⟩) = some ⟨g, off4 cap, none⟩) := by
        show _ = _
        unfold off4
        split <;> rfl
      clear HSO h1 h2 HS HT e4 ecs l4
      clear OF
      by_cases hc4 : cap = 4
      · subst hc4
        obtain rfl : L = 4 := by omega
        have e0 : off4 4 = 0 := rfl
        rw [e0] at SM
        rw [e0]
        rw [show (4 : Nat) - 4 = 0 from rfl] at SM
        rw [show (4 : Nat) - 4 = 0 from rfl]
        clear e0 u1 u2 g1 g2 hc
        by_cases q5 : n4 = cs
        · have RT : Hid (sound l) := SQ.out.2 q5
          subst q5
          clear SQ
          go_enter Tryd.func78, Tryd.ntmps78
          go_wp2_with fail
          refine G4.out.mono ?_
          rintro e w2 ⟨rfl, rfl⟩
          go_wp2_with fail
          refine SM.out.mono ?_
          rintro e w3 ⟨rfl, nq, rfl⟩
          go_wp2
          go_ret2
          exact ⟨below_drewN _ nq, .inl ⟨RT.out, rfl⟩⟩
        · have RF : Hid (¬ sound l) := fun h => q5 (SQ.out.1 h)
          have q5' : ((n4 : Int) == (cs : Int)) = false := by rw [beq_eq_false_iff_ne]; omega
          have q6 : ¬ (n4 : Int) = (cs : Int) := by omega
          clear SQ
          go_enter Tryd.func78, Tryd.ntmps78
          go_wp2_with fail
          refine G4.out.mono ?_
          rintro e w2 ⟨rfl, rfl⟩
          go_wp2_with fail
          refine SM.out.mono ?_
          rintro e w3 ⟨rfl, nq, rfl⟩
          go_wp2
          go_ret2
          exact ⟨below_drewN _ nq, .inr ⟨RF.out, _, rfl⟩⟩
      · have e0 : off4 cap = 4 := by unfold off4; rw [if_neg hc4]
        rw [e0] at SM
        rw [e0]
        clear e0
        by_cases q5 : n4 = cs
        · have RT : Hid (sound l) := SQ.out.2 q5
          subst q5
          clear SQ
          go_enter Tryd.func78, Tryd.ntmps78
          go_wp2_with fail
          refine G4.out.mono ?_
          rintro e w2 ⟨rfl, rfl⟩
          go_wp2_with fail
          refine SM.out.mono ?_
          rintro e w3 ⟨rfl, nq, rfl⟩
          go_wp2
          go_ret2
          exact ⟨below_drewN _ nq, .inl ⟨RT.out, rfl⟩⟩
        · have RF : Hid (¬ sound l) := fun h => q5 (SQ.out.1 h)
          have q5' : ((n4 : Int) == (cs : Int)) = false := by rw [beq_eq_false_iff_ne]; omega
          have q6 : ¬ (n4 : Int) = (cs : Int) := by omega
          clear SQ
          go_enter Tryd.func78, Tryd.ntmps78
          go_wp2_with fail
          refine G4.out.mono ?_
          rintro e w2 ⟨rfl, rfl⟩
          go_wp2_with fail
          refine SM.out.mono ?_
          rintro e w3 ⟨rfl, nq, rfl⟩
          go_wp2
          go_ret2
          exact ⟨below_drewN _ nq, .inr ⟨RF.out, _, rfl⟩⟩
    · have g2 : (8196 : Int) < (L : Int) := by omega
      have RF : Hid (¬ sound l) := fun h => h2 (HSO.out.1 h).2.1
      clear HSO h1 h2
      go_enter Tryd.func78, Tryd.ntmps78
      go_wp2
      go_ret2
      exact ⟨Below.refl _ _, .inr ⟨RF.out, _, rfl⟩⟩
  · have g1 : (L : Int) < 4 := by omega
    have RF : Hid (¬ sound l) := fun h => h1 (HSO.out.1 h).1
    clear HSO h1
    go_enter Tryd.func78, Tryd.ntmps78
    go_wp2
    go_ret2
    exact ⟨Below.refl _ _, .inr ⟨RF.out, _, rfl⟩⟩
end Go.Proofs.YtikpmaecbfebkaaDoor
