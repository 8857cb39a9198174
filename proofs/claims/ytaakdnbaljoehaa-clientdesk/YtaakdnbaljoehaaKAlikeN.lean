/- The law's alike, of a call that there is not. -/
import Derived.Test.YtaakdnbaljoehaaKAlikeT
import Derived.Test.YtaakdnbaljoehaaKAllA
import Derived.Test.YtaakdnbaljoehaaKNil
namespace Go.Proofs.Ytaakdnbaljoehaa
open Go.RowKit Go.Shelf Cod
attribute [local go_sem] Oper.semAt_some
set_option linter.unusedVariables false
theorem neq_zeroK (w : World) : (binOp .neq 23 (.agg #[.int .i64 0, .string ⟨#[]⟩, .string ⟨#[]⟩, .int .i64 0, .string ⟨#[]⟩, .int .i64 0, .int .i64 0]) (.agg #[.int .i64 0, .string ⟨#[]⟩, .string ⟨#[]⟩, .int .i64 0, .string ⟨#[]⟩, .int .i64 0, .int .i64 0])).run Try.prog w = .ok (.bool false) w := by kernel_rfl
theorem same_zeroK (w : World) : Calls Try.prog 12 #[.agg #[.int .i64 0, .int .i64 0, .slice none 0 0], .agg #[.int .i64 0, .int .i64 0, .slice none 0 0]] w fun e w' => e = .returned (.bool true) ∧ Below w.heap.size w w' := by
  refine (sameReply_any none none 0 0 0 0 [] [] 0 0 0 0 w (rows_nil w) (rows_nil w)).mono ?_
  rintro e w' h
  simpa using h
set_option maxRecDepth 100000 in
set_option maxHeartbeats 4000000 in
theorem alike_no {w : World} {base P : Nat} {L : List CallV} (h : DeskIn w base P L) {base' R : Nat} {L' : List CallV} (h' : RDeskIn w base' R L') (hl : LikeL L L') {k : Int} (hk : hasN L k = false) :
    Calls Try.prog 22 #[.pointer (some ⟨P, 0, none⟩), .pointer (some ⟨R, 0, none⟩), .int .i64 k] w fun e w' => e = .returned (.bool true) ∧ Below w.heap.size w w' := by
  have bA : Below w.heap.size w ((w.alloc (.cells #[.pointer (some ⟨R, 0, none⟩)] 52)).alloc (.cells #[.bool false] 4)) := ((Below.refl _ w).alloc (Nat.le_refl _) _).alloc (by simp) _
  obtain ⟨w2, e2⟩ : ∃ w2, (w.alloc (.cells #[.pointer (some ⟨R, 0, none⟩)] 52)).alloc (.cells #[.bool false] 4) = w2 := ⟨_, rfl⟩
  rw [e2] at bA
  have HG := desk_getNo (h.below bA) k hk
  have HDW : Hid (DeskIn w base P L) := h
  have HRW : Hid (RDeskIn w base' R L') := h'
  have BA : Hid (Below w.heap.size w w2) := bA
  have hkl : (0 ≤ k) = False ∨ (0 ≤ k) = True ∧ (k < (L'.length : Int)) = False := by
    unfold hasN at hk
    rw [hl.1] at hk
    by_cases h0 : 0 ≤ k
    · refine .inr ⟨eq_true h0, eq_false ?_⟩
      simpa [h0] using hk
    · exact .inl (eq_false h0)
  refine (callsIn_wide (n := 5)).1 ?_
  refine callsIn_of_wp_marks Try.func22 rfl trivial ?_ rfl
  refine wpIn_wide.2 ?_
  simp only [Try.ntmps22, List.size_toArray, List.length_cons, List.length_nil, Nat.reduceAdd, Nat.reduceSub, Array.replicate_succ, Array.replicate_zero, List.push_toArray, List.append_toArray, List.nil_append, List.cons_append]
  go_wp2_with fail
  refine Calls.mono HG ?_
  clear HG
  rintro e w3 ⟨rfl, b3⟩
  have bw3 : Below w.heap.size w w3 := bA.trans (b3.mono bA.size)
  have b4 : Below w3.heap.size w3 ((w3.alloc (.cells #[.int .i64 0, .string ⟨#[]⟩, .string ⟨#[]⟩, .int .i64 0, .string ⟨#[]⟩, .int .i64 0, .int .i64 0] 23)).alloc (.cells #[.int .i64 0, .int .i64 0, .slice none 0 0] 28)) := ((Below.refl _ w3).alloc (Nat.le_refl _) _).alloc (by simp) _
  obtain ⟨w4, e4⟩ : ∃ w4, (w3.alloc (.cells #[.int .i64 0, .string ⟨#[]⟩, .string ⟨#[]⟩, .int .i64 0, .string ⟨#[]⟩, .int .i64 0, .int .i64 0] 23)).alloc (.cells #[.int .i64 0, .int .i64 0, .slice none 0 0] 28) = w4 := ⟨_, rfl⟩
  rw [e4] at b4
  have bw4 : Below w.heap.size w w4 := bw3.trans (b4.mono bw3.size)
  have b24 : Below w2.heap.size w2 w4 := b3.trans (b4.mono b3.size)
  have q4 : w2.heap[w.heap.size]? = some (.cells #[.pointer (some ⟨R, 0, none⟩)] 52 (0, 0)) := by
    rw [← e2, Below.heap_alloc _ _ _ (by simp)]
    exact heap_alloc_new w _
  have q6 : w2.heap[w.heap.size + 1]? = some (.cells #[.bool false] 4 (0, 0)) := by rw [← e2]; exact heapTwo w _ _
  have q4' := (b24.block _ (Array.getElem?_eq_some_iff.1 q4).1).trans q4
  have q7 : w4.heap[w3.heap.size]? = some (.cells #[.int .i64 0, .string ⟨#[]⟩, .string ⟨#[]⟩, .int .i64 0, .string ⟨#[]⟩, .int .i64 0, .int .i64 0] 23 (0, 0)) := by
    rw [← e4, Below.heap_alloc _ _ _ (by simp)]
    exact heap_alloc_new w3 _
  have q8 : w4.heap[w3.heap.size + 1]? = some (.cells #[.int .i64 0, .int .i64 0, .slice none 0 0] 28 (0, 0)) := by rw [← e4]; exact heapTwo w3 _ _
  have d4 := h'.below bw4
  obtain ⟨v8, hv8, hr8⟩ := d4.ex
  obtain ⟨ar, cr, rfl, _, _⟩ := row_form' hr8
  have c4 : w4.cell? ⟨w.heap.size, 0, none⟩ = some (.pointer (some ⟨R, 0, none⟩)) := by simp [World.cell?, q4']
  have cR : w4.cell? ⟨R, 0, none⟩ = some (.slice ar L'.length cr) := by simp [World.cell?, hv8]
  have HL : Hid _ := hl
  obtain ⟨n', en'⟩ : ∃ n', L'.length = n' := ⟨_, rfl⟩
  rw [en'] at cR hkl
  have EN : Hid _ := en'
  have E2 : Hid (_ = w2) := e2
  have E4 : Hid (_ = w4) := e4
  have B24 : Hid (Below w2.heap.size w2 w4) := b24
  have Q42 : Hid (w2.heap[w.heap.size]? = some (.cells #[.pointer (some ⟨R, 0, none⟩)] 52 (0, 0))) := q4
  have Q62 : Hid (w2.heap[w.heap.size + 1]? = some (.cells #[.bool false] 4 (0, 0))) := q6
  have Q7 : Hid (w4.heap[w3.heap.size]? = some (.cells #[.int .i64 0, .string ⟨#[]⟩, .string ⟨#[]⟩, .int .i64 0, .string ⟨#[]⟩, .int .i64 0, .int .i64 0] 23 (0, 0))) := q7
  have Q8 : Hid (w4.heap[w3.heap.size + 1]? = some (.cells #[.int .i64 0, .int .i64 0, .slice none 0 0] 28 (0, 0))) := q8
  clear h h' hl bA e2 E2 b3 bw3 hk b4 bw4 b24 q4 q6 q4' q7 q8 d4 hv8 hr8 en'
  rw [← e4] at c4 cR
  clear e4
  rcases hkl with hk0 | ⟨hk0, hk1⟩
  all_goals
    go_wp2_with fail
    try rw [show _ = w4 from E4.out]
    clear c4 cR
    refine wp_region_calm (S := fun W => Below w4.heap.size w4 W) (by kernel_rfl) (Below.refl _ w4).drew (fun hHeld => ?_)
    refine take_row (i := 0) (oi := { dst := some 58, op := Go.Op.load 23 (Go.Operand.tmp 7), type := 23, pos := "law.go:85", after := #[], guard := none }) rfl (by kernel_rfl) (by kernel_rfl) (by kernel_rfl) 23 (.tmp 7) w3.heap.size 23 #[.int .i64 0, .string ⟨#[]⟩, .string ⟨#[]⟩, .int .i64 0, .string ⟨#[]⟩, .int .i64 0, .int .i64 0] (0, 0) _ (fun _ _ _ h => h) (by rfl) rfl (by go_simp <;> with_reducible rfl) (fun W hW => (hW.block _ (Array.getElem?_eq_some_iff.1 Q7.out).1).trans Q7.out) Try.underlying23 rfl (by kernel_rfl) hHeld ?_
    try simp only [Act.put, List.setIfInBounds_toArray, List.set_cons_zero, List.set_cons_succ]
    refine take_call (i := 1) (oi := { dst := some 59, op := Go.Op.call { callee := Go.Callee.value (Go.Operand.func 11), args := #[], argTypes := #[] }, type := 23, pos := "law.go:85", after := #[], guard := none }) rfl (by kernel_rfl) (by rfl) 11 _ (by go_simp <;> with_reducible rfl) ?_
    refine (none_any _).mono ?_
    rintro e x1 ⟨rfl, y1⟩
    have z1 : Below w4.heap.size w4 x1 := hHeld.trans (y1.mono hHeld.size)
    refine ⟨_, rfl, z1, ?_⟩
    try simp only [Act.put, List.setIfInBounds_toArray, List.set_cons_zero, List.set_cons_succ]
    clear y1
    refine take_run (i := 2) (oi := { dst := some 60, op := Go.Op.binOp Go.BinOp.neq 23 (Go.Operand.tmp 58) (Go.Operand.tmp 59) 23, type := 4, pos := "law.go:85", after := #[{ on := 0, ground := Go.Ground.data }, { on := 1, ground := Go.Ground.data }], guard := none }) (v := .bool false) rfl (by kernel_rfl) (by kernel_rfl) (by kernel_rfl) (fun _ _ _ h => h) (by rfl) ?_ z1 ?_
    · (intro wq hSw; have ez := neq_zeroK; go_simp <;> with_reducible rfl)
    try simp only [Act.put, List.setIfInBounds_toArray, List.set_cons_zero, List.set_cons_succ]
    refine take_run (i := 3) (oi := { dst := some 61, op := Go.Op.move (Go.Operand.tmp 60), type := 4, pos := "law.go:85", after := #[{ on := 2, ground := Go.Ground.data }, { on := 1, ground := Go.Ground.chain }], guard := none }) (v := .bool false) rfl (by kernel_rfl) (by kernel_rfl) (by kernel_rfl) (fun _ _ _ h => h) (by rfl) ?_ z1 ?_
    · (intro wq hSw; go_simp <;> with_reducible rfl)
    try simp only [Act.put, List.setIfInBounds_toArray, List.set_cons_zero, List.set_cons_succ]
    refine take_row (i := 4) (oi := { dst := some 62, op := Go.Op.load 28 (Go.Operand.tmp 8), type := 28, pos := "law.go:85", after := #[{ on := 3, ground := Go.Ground.guard }], guard := some (3, false) }) rfl (by kernel_rfl) (by kernel_rfl) (by kernel_rfl) 28 (.tmp 8) (w3.heap.size + 1) 28 #[.int .i64 0, .int .i64 0, .slice none 0 0] (0, 0) _ (fun _ _ _ h => h) (by rfl) rfl (by go_simp <;> with_reducible rfl) (fun W hW => (hW.block _ (Array.getElem?_eq_some_iff.1 Q8.out).1).trans Q8.out) Try.underlying28 rfl (by kernel_rfl) z1 ?_
    try simp only [Act.put, List.setIfInBounds_toArray, List.set_cons_zero, List.set_cons_succ]
    refine take_run (i := 5) (oi := { dst := some 63, op := Go.Op.build 28 #[], type := 28, pos := "law.go:85", after := #[{ on := 3, ground := Go.Ground.guard }], guard := some (3, false) }) (v := .agg #[.int .i64 0, .int .i64 0, .slice none 0 0]) rfl (by kernel_rfl) (by kernel_rfl) (by kernel_rfl) (fun _ _ _ h => h) (by rfl) ?_ z1 ?_
    · (intro wq hSw; go_simp <;> with_reducible rfl)
    try simp only [Act.put, List.setIfInBounds_toArray, List.set_cons_zero, List.set_cons_succ]
    refine take_call (i := 6) (oi := { dst := some 64, op := Go.Op.call { callee := Go.Callee.value (Go.Operand.func 12), args := #[Go.Operand.tmp 62, Go.Operand.tmp 63], argTypes := #[28, 28] }, type := 4, pos := "law.go:85", after := #[{ on := 4, ground := Go.Ground.data }, { on := 5, ground := Go.Ground.data }, { on := 3, ground := Go.Ground.chain }, { on := 3, ground := Go.Ground.guard }], guard := some (3, false) }) rfl (by kernel_rfl) (by rfl) 12 _ (by go_simp <;> with_reducible rfl) ?_
    refine (same_zeroK _).mono ?_
    rintro e x2 ⟨rfl, y2⟩
    have z2 : Below w4.heap.size w4 x2 := z1.trans (y2.mono z1.size)
    refine ⟨_, rfl, z2, ?_⟩
    try simp only [Act.put, List.setIfInBounds_toArray, List.set_cons_zero, List.set_cons_succ]
    clear y2
    refine take_run (i := 7) (oi := { dst := some 65, op := Go.Op.unOp Go.UnOp.not 4 (Go.Operand.tmp 64), type := 4, pos := "law.go:85", after := #[{ on := 6, ground := Go.Ground.data }, { on := 3, ground := Go.Ground.guard }], guard := some (3, false) }) (v := .bool false) rfl (by kernel_rfl) (by kernel_rfl) (by kernel_rfl) (fun _ _ _ h => h) (by rfl) ?_ z2 ?_
    · (intro wq hSw; go_simp <;> with_reducible rfl)
    try simp only [Act.put, List.setIfInBounds_toArray, List.set_cons_zero, List.set_cons_succ]
    refine take_run (i := 8) (oi := { dst := some 66, op := Go.Op.pick (Go.Operand.tmp 61) (Go.Operand.const (Go.Value.bool true)) (Go.Operand.tmp 65), type := 4, pos := "law.go:85", after := #[{ on := 3, ground := Go.Ground.data }, { on := 7, ground := Go.Ground.data }], guard := none }) (v := .bool false) rfl (by kernel_rfl) (by kernel_rfl) (by kernel_rfl) (fun _ _ _ h => h) (by rfl) ?_ z2 ?_
    · (intro wq hSw; go_simp <;> with_reducible rfl)
    try simp only [Act.put, List.setIfInBounds_toArray, List.set_cons_zero, List.set_cons_succ]
    refine take_run (i := 9) (oi := { dst := some 67, op := Go.Op.move (Go.Operand.tmp 66), type := 4, pos := "law.go:85", after := #[{ on := 8, ground := Go.Ground.data }, { on := 6, ground := Go.Ground.chain }], guard := none }) (v := .bool false) rfl (by kernel_rfl) (by kernel_rfl) (by kernel_rfl) (fun _ _ _ h => h) (by rfl) ?_ z2 ?_
    · (intro wq hSw; go_simp <;> with_reducible rfl)
    try simp only [Act.put, List.setIfInBounds_toArray, List.set_cons_zero, List.set_cons_succ]
    refine take_run (i := 10) (oi := { dst := some 68, op := Go.Op.move (Go.Operand.tmp 9), type := 4, pos := "law.go:85", after := #[{ on := 9, ground := Go.Ground.guard }], guard := some (9, false) }) (v := .bool false) rfl (by kernel_rfl) (by kernel_rfl) (by kernel_rfl) (fun _ _ _ h => h) (by rfl) ?_ z2 ?_
    · (intro wq hSw; go_simp <;> with_reducible rfl)
    try simp only [Act.put, List.setIfInBounds_toArray, List.set_cons_zero, List.set_cons_succ]
    refine take_run (i := 11) (oi := { dst := some 69, op := Go.Op.pick (Go.Operand.tmp 67) (Go.Operand.const (Go.Value.bool true)) (Go.Operand.tmp 68), type := 4, pos := "law.go:85", after := #[{ on := 9, ground := Go.Ground.data }, { on := 10, ground := Go.Ground.data }], guard := none }) (v := .bool false) rfl (by kernel_rfl) (by kernel_rfl) (by kernel_rfl) (fun _ _ _ h => h) (by rfl) ?_ z2 ?_
    · (intro wq hSw; go_simp <;> with_reducible rfl)
    try simp only [Act.put, List.setIfInBounds_toArray, List.set_cons_zero, List.set_cons_succ]
    refine wpAnyH_done (by kernel_rfl) ?_ _
    have B26 : Hid (Below w2.heap.size w2 x2) := B24.out.trans (z2.mono B24.out.size)
    have Q86 : Hid (x2.heap[w3.heap.size + 1]? = some (.cells #[.int .i64 0, .int .i64 0, .slice none 0 0] 28 (0, 0))) := (z2.block _ (Array.getElem?_eq_some_iff.1 Q8.out).1).trans Q8.out
    clear z1 z2 hHeld
    go_wp2_with fail
    go_loopw [11] (fun y wr => y = .int .i64 0 ∧ Hid (Below w2.heap.size w2 wr) ∧ Hid (wr.heap[w3.heap.size + 1]? = some (.cells #[.int .i64 0, .int .i64 0, .slice none 0 0] 28 (0, 0)))) (fun y _ => 0)
    case atStart => exact ⟨rfl, B26, Q86⟩
    case round =>
      obtain ⟨rfl, hB, hQ⟩ := hrel
      have r2n : wr.cell? ⟨w3.heap.size + 1, 2, none⟩ = some (.slice none 0 0) := by simp [World.cell?, hQ.out]
      clear Q86 B26 hQ Q7 Q8 B24
      have hbr := hB.out
      have bWr : Below w.heap.size w wr := BA.out.trans (hbr.mono BA.out.size)
      have HO := desk_open (HDW.out.below bWr)
      have BWR : Hid _ := bWr
      clear hbr bWr
      go_wp2_with fail
      refine Calls.mono HO ?_
      rintro e w8 ⟨Bb, aa, cc, rfl, hbb, hbx, ho8, b8⟩
      have bw8 : Below w.heap.size w w8 := BWR.out.trans (b8.mono BWR.out.size)
      have b28 : Below w2.heap.size w2 w8 := hB.out.trans (b8.mono hB.out.size)
      have q48 := (b28.block _ (Array.getElem?_eq_some_iff.1 Q42.out).1).trans Q42.out
      have q68 := (b28.block _ (Array.getElem?_eq_some_iff.1 Q62.out).1).trans Q62.out
      have d8 := HRW.out.below bw8
      obtain ⟨v8, hv8, hr8⟩ := d8.ex
      obtain ⟨ar, cr, rfl, _, _⟩ := row_form' hr8
      have c48 : w8.cell? ⟨w.heap.size, 0, none⟩ = some (.pointer (some ⟨R, 0, none⟩)) := by simp [World.cell?, q48]
      have cR8 : w8.cell? ⟨R, 0, none⟩ = some (.slice ar L'.length cr) := by simp [World.cell?, hv8]
      have HLn : Hid (∀ i, Calls Try.prog 13 #[.pointer (some ⟨P, 0, none⟩)] (w8.drewN i) fun e w' => e = .returned (.int .i64 L.length) ∧ w' = w8.drewN i) := fun i => by
        have d := HDW.out.below bw8
        exact desk_len (w := w8.drewN i) ⟨d.ex, d.rows, d.pb, d.few⟩
      have hln : (L.length : Int) = (L'.length : Int) := by rw [HL.out.1]
      have EQF : ∀ (u : World) (f : Fn) (lb : Array Value), (binOp .eql 32 (.func f #[] lb) .nilFunc).run Try.prog u = .ok (.bool false) u := fun u f lb => eql_funcK u f lb
      have BW8 : Hid _ := bw8
      have B28 : Hid _ := b28
      have Q48 : Hid _ := q48
      have Q68 : Hid _ := q68
      have D8 : Hid _ := d8
      have HBX : Hid _ := hbx
      have HO8 : Hid _ := ho8
      have B8 : Hid _ := b8
      rw [hln] at HLn
      rw [EN.out] at HLn cR8
      clear HO hbb hbx ho8 b8 bw8 b28 q48 q68 d8 hv8 hr8 hln r2n
      go_wp2_with fail
      go_quiet (exact Calls.quiet_of_same (HLn.out _))
      clear HLn c48 cR8 EQF
      generalize e9 : w8.drewN nq = w9
      have h9 : w9.heap = w8.heap := by rw [← e9]; rfl
      have b9 : Below w8.heap.size w8 w9 := by rw [← e9]; exact below_drewN (Below.refl _ w8) nq
      have b10 : Below w9.heap.size w9 (w9.alloc (.cells #[.int .i64 0] 3)) := (Below.refl _ w9).alloc (Nat.le_refl _) _
      have q13 := heap_alloc_new w9 (.cells #[.int .i64 0] 3)
      obtain ⟨w10, e10⟩ : ∃ w10, w9.alloc (.cells #[.int .i64 0] 3) = w10 := ⟨_, rfl⟩
      rw [e10] at b10 q13
      have b8t : Below w8.heap.size w8 w10 := b9.trans (b10.mono b9.size)
      have B8T : Hid _ := b8t
      have Q13 : Hid _ := q13
      have B10 : Hid _ := b10
      have E10 : Hid (_ = w10) := e10
      have S89 : Hid (w8.heap.size ≤ w9.heap.size) := b9.size
      clear e9 h9 b9 b10 q13 b8t e10
      go_wp2_with fail
      rw [show _ = w10 from E10.out]
      clear E10 B10 E4
      refine (wpIn_wide (n := 5)).1 ?_
      have HN : Hid (w9.heap.size < w10.heap.size) := (Array.getElem?_eq_some_iff.1 Q13.out).1
      have cB : w10.cell? ⟨Bb, 0, none⟩ = some (.slice aa L.length cc) := by
        have e := (B8T.out.block _ (Array.getElem?_eq_some_iff.1 HBX.out).1).trans HBX.out
        simp [World.cell?, e]
      have HSQ : Hid _ := open2_seq (5 - 1) Bb wr.heap.size cc aa L w10 cB (ownsB HO8.out B8T.out) HDW.out.few
      clear cB
      have HAA : Hid (∀ x, aa = some x → x.block ≠ w9.heap.size) := fun x e he => by
        have := (row_kind HO8.out (g := x.block) (by rw [e]; rfl)).2.1
        have := S89.out
        omega
      have HAF : Hid (∀ k, k < L'.length → ∃ g cap, AF w10 w.heap.size R g cap L' ∧ w.heap.size ≠ w9.heap.size ∧ R ≠ w9.heap.size ∧ g ≠ w9.heap.size) := fun k hk => by
        obtain ⟨g, cap, hv, ho⟩ := rdesk_row D8.out hk
        have s9 := S89.out
        have l1 := (Array.getElem?_eq_some_iff.1 Q48.out).1
        have l2 := (Array.getElem?_eq_some_iff.1 hv).1
        have l3 := (row_kind ho (g := g) rfl).2.1
        have up : ∀ b o v, w8.cell? ⟨b, o, none⟩ = some v → w10.cell? ⟨b, o, none⟩ = some v := fun b o v hv => (B8T.out.cell (p := ⟨b, o, none⟩) (World.block_lt_of_cell? w8 _ hv)).trans hv
        exact ⟨g, cap, ⟨up _ _ _ (by simp [World.cell?, Q48.out]), up _ _ _ (by simp [World.cell?, hv]), fun k hk j v hv => up _ _ _ (range_rcall ho hk j v hv)⟩, by omega, by omega, by omega⟩
      refine wpIn_named fun T eT => ?_
      have ET : Hid (_ = T) := eT
      clear eT
      refine range_R (n := 5) (gf := 36) (lb := #[.pointer (some ⟨Bb, 0, none⟩)]) (w0 := w10) (by rw [← ET.out]; rfl) (enters_of Try.func36 (by kernel_rfl) rfl) HSQ.out KcO.tr KcO.bk (Below.refl _ _) (fun _ => rfl)
        (AI w10 w9.heap.size L') (fun _ _ _ => False) (AI.low HN.out) (fun _ _ _ _ h _ => h) ⟨⟨0, Nat.zero_le _, rfl, Q13.out⟩, fun _ _ _ => rfl, Nat.le_refl _, rfl, rfl, rfl⟩
        (fun (pre : List (Nat × OpD)) (x : Nat × OpD) (act : Act) (X : World) => RO L pre x X ∧ ∃ B, w10.heap.size ≤ B ∧ X.heap[B]? = some (.cells #[.int .i64 x.2.kind, .string x.2.src, .string x.2.dst, .int .i64 x.2.amount, .string x.2.key, .int .i64 x.2.slot, .int .i64 x.2.shard] 23 (0, 0)) ∧ act = { tmps := (((T.setIfInBounds 97 (.int .i64 (x.1 : Int))).setIfInBounds 98 x.2.val).setIfInBounds 14 (.int .i64 (x.1 : Int))).setIfInBounds 15 (.pointer (some ⟨B, 0, none⟩)), defers := [] })
        ?hAx ?assign ?body ?done (fun _ _ _ _ _ _ h _ => h.elim)
      case hAx =>
        rintro pre x act _ X Z row ⟨h1, B, h2, h3, h4⟩ hg hrow
        refine ⟨h1, B, h2, ?_, h4⟩
        rw [hg.block B (Array.getElem?_eq_some_iff.1 h3).1 (fun e => by
          obtain ⟨_, o, ho, hc⟩ := hrow B e.symm
          rw [h3] at ho
          cases ho
          simp [Obj.isCells] at hc)]
        exact h3
      case assign =>
        rintro l' pre ⟨x1, x2⟩ X K hI hr hK
        have HRR : Hid _ := hr
        have HII : Hid _ := hI
        have bX : Below X.heap.size X (X.alloc (.cells #[.int .i64 x2.kind, .string x2.src, .string x2.dst, .int .i64 x2.amount, .string x2.key, .int .i64 x2.slot, .int .i64 x2.shard] 23)) := (Below.refl _ X).alloc (Nat.le_refl _) _
        have HKK : Hid _ := hK _ (X.alloc (.cells #[.int .i64 x2.kind, .string x2.src, .string x2.dst, .int .i64 x2.amount, .string x2.key, .int .i64 x2.slot, .int .i64 x2.shard] 23)) (kfK bX) (fun y _ cs t z q => (bX.block _ (Array.getElem?_eq_some_iff.1 q).1).trans q) (AI.low HN.out _ _ _ hI (bX.mono (aiSize hI HN.out))) ⟨hr, X.heap.size, aiSize hI HN.out, heap_alloc_new X _, rfl⟩
        clear hK hI hr bX
        rw [← ET.out] at HKK
        rw [← ET.out]
        dsimp only [encO, OpD.val] at HKK ⊢
        simp only [List.zip_toArray, List.zip_cons_cons, List.zip_nil_right, List.foldl_toArray, List.foldl_cons, List.foldl_nil, List.setIfInBounds_toArray, List.set_cons_zero, List.set_cons_succ] at HKK ⊢
        gi_wp2
        exact HKK.out
      case body =>
        rintro l' pre ⟨x1, x2⟩ act X hI ⟨hr, B, hB1, hop, rfl⟩
        have HII : Hid _ := hI
        have HRR : Hid _ := hr
        have HOP : Hid _ := hop
        clear hI hr hop
        rw [← ET.out]
        dsimp only [OpD.val]
        simp only [List.setIfInBounds_toArray, List.set_cons_zero, List.set_cons_succ]
        generalize w9.heap.size = N at *
        have c13 : Hid (N < w10.heap.size) := HN
        gi_wp2_with fail
        gi_loopw [] (fun wr => Hid (AL w10 N L' aa B #[.int .i64 x2.kind, .string x2.src, .string x2.dst, .int .i64 x2.amount, .string x2.key, .int .i64 x2.slot, .int .i64 x2.shard] X pre wr)) (fun wr => ahead N n' wr)
        case atStart => exact ⟨HII.out, KeepsFrom.refl _ _, fun _ _ _ _ _ q => q, HOP.out⟩
        case round =>
          obtain ⟨k2, hk1, hk2, hk3⟩ := hrel.out.ai.ex
          have hro : (openFrom 0 L')[(openFrom 0 (L'.take k2)).length]? = some (x1, x2) := by
            rw [hk2, ← LikeL.open HL.out 0]
            exact HRR.out
          have hkl := open_more hro
          obtain ⟨g2, cap2, af, n1, n2, n3⟩ := HAF.out k2 hkl
          have af' := hrel.out.ai.facts af n1 n2 n3
          have k13 : wr.cell? ⟨N, 0, none⟩ = some (.int .i64 (k2 : Int)) := by simp [World.cell?, hk3]
          have k4 := af'.c4
          have kR := af'.cR
          have kh : wr.cell? ⟨g2, k2 * 11 + 10, none⟩ = some (.bool L'[k2].heard) := af'.row k2 hkl 10 _ rfl
          have kz : wr.frozen? ⟨N, 0, none⟩ = false := by simp [World.frozen?, hk3]
          have hki : (k2 : Int) < (n' : Int) := by have := EN.out; omega
          have hkb : k2 < 2000 := Nat.lt_of_lt_of_le hkl HRW.out.few
          rw [EN.out] at kR
          cases hh : L'[k2].heard with
          | true =>
            rw [hh] at kh
            have HS : Hid (∀ i, AL w10 N L' aa B #[.int .i64 x2.kind, .string x2.src, .string x2.dst, .int .i64 x2.amount, .string x2.key, .int .i64 x2.slot, .int .i64 x2.shard] X pre ((wr.drewN i).setCell ⟨N, 0, none⟩ (.int .i64 ((k2 + 1 : Nat) : Int)))) := fun i => (hrel.out.drewN i).step HN.out hB1 HAA.out hkl ((open_hold hkl hh).trans hk2) hk3
            have HM : Hid (∀ i, ahead N n' ((wr.drewN i).setCell ⟨N, 0, none⟩ (.int .i64 ((k2 + 1 : Nat) : Int))) < ahead N n' wr) := fun i => by
              rw [ahead_of (k := k2 + 1) (one_setCell (w := wr.drewN i) hk3), ahead_of hk3]
              have := EN.out
              omega
            have HC : Hid ((k2 : Int) + 1 = ((k2 + 1 : Nat) : Int)) := by show _ = _; omega
            clear hrel hro hkl af af' n1 n2 n3 hh hk1 hk2 hk3
            gi_wp2_with fail
            refine round_quiet l' (by kernel_rfl) (by kernel_rfl) (by kernel_rfl) ?_
            repeat (quiet_step_in (fail))
            refine wpQuietIn_nil ?_
            rintro _ ⟨nq2, rfl⟩
            gi_wp2
            rw [HC.out]
            go_roundw
            case rel => exact HS.out _
            case measure => exact HM.out _
          | false =>
            have hng : ¬ (n' : Int) ≤ (k2 : Int) := by omega
            have hng2 : ¬ n' ≤ k2 := by omega
            have hng3 : k2 < n' := by omega
            rw [hh] at kh
            have ht := open_this hro hh
            injection ht with ht1 ht2
            have HS : Hid (∀ i i2, AL w10 N L' aa B #[.int .i64 x2.kind, .string x2.src, .string x2.dst, .int .i64 x2.amount, .string x2.key, .int .i64 x2.slot, .int .i64 x2.shard] X (pre ++ [(x1, x2)]) (((wr.drewN i).drewN i2).setCell ⟨N, 0, none⟩ (.int .i64 ((k2 + 1 : Nat) : Int)))) := fun i i2 => ((hrel.out.drewN i).drewN i2).step HN.out hB1 HAA.out hkl (by rw [open_step hkl hh, hk2, ht1, ht2]) hk3
            have hop := hrel.out.op
            have zz := af'.row k2 hkl
            rw [ht1]
            rw [ht2] at hop
            clear HRR ht1
            generalize L'[k2] = xx at *
            obtain ⟨⟨p1, p2, p3, p4, p5, p6, p7⟩, xh, xw, xa, xr, xra, xrc⟩ := xx
            have z0 := zz 0 _ rfl
            have z1 := zz 1 _ rfl
            have z2 := zz 2 _ rfl
            have z3 := zz 3 _ rfl
            have z4 := zz 4 _ rfl
            have z5 := zz 5 _ rfl
            have z6 := zz 6 _ rfl
            dsimp only at z0 z1 z2 z3 z4 z5 z6 hop
            rw [Nat.add_zero] at z0
            have y0 : wr.cell? ⟨B, 0, none⟩ = some (.int .i64 p1) := by simp [World.cell?, hop]
            have y1 : wr.cell? ⟨B, 1, none⟩ = some (.string p2) := by simp [World.cell?, hop]
            have y2 : wr.cell? ⟨B, 2, none⟩ = some (.string p3) := by simp [World.cell?, hop]
            have y3 : wr.cell? ⟨B, 3, none⟩ = some (.int .i64 p4) := by simp [World.cell?, hop]
            have y4 : wr.cell? ⟨B, 4, none⟩ = some (.string p5) := by simp [World.cell?, hop]
            have y5 : wr.cell? ⟨B, 5, none⟩ = some (.int .i64 p6) := by simp [World.cell?, hop]
            have y6 : wr.cell? ⟨B, 6, none⟩ = some (.int .i64 p7) := by simp [World.cell?, hop]
            have HC : Hid ((k2 : Int) + 1 = ((k2 + 1 : Nat) : Int)) := by show _ = _; omega
            clear hrel hro hkl af af' n1 n2 n3 hh hk1 hk2 hk3 ht2 zz hop
            gi_wp2_with fail
            refine round_quiet l' (by kernel_rfl) (by kernel_rfl) (by kernel_rfl) ?_
            repeat (quiet_step_in (fail))
            refine wpQuietIn_nil ?_
            rintro _ ⟨nq2, rfl⟩
            gi_wp2_with fail
            refine round_quiet l' (by kernel_rfl) (by kernel_rfl) (by kernel_rfl) ?_
            repeat (quiet_step_in (fail))
            refine wpQuietIn_nil ?_
            rintro _ ⟨nq3, rfl⟩
            gi_wp2
            rw [HC.out]
            have hfin := HS.out nq2 nq3
            rw [World.drewN_drewN] at hfin
            exact ⟨hfin.kf, hfin.kc, hfin.ai⟩
      case done =>
        intro D xs W hD hS hI hK
        have HE : Hid (AE w10 w9.heap.size L' D xs W) := ⟨hI, hK⟩
        have HS : Hid (openFrom 0 L' = xs) := by rw [hS]; exact (LikeL.open HL.out 0).symm
        have HDD : Hid (w10.heap.size ≤ D) := hD
        clear hS hI hK hD HSQ HO8 HBX
        rw [← ET.out]
        generalize w9.heap.size = N at *
        go_wp2_with fail
        go_loopw [] (fun wr => Hid (AE w10 N L' D xs wr)) (fun wr => ahead N n' wr)
        case atStart => exact HE
        case round =>
          obtain ⟨k2, hk1, hk2, hk3⟩ := hrel.out.ai.ex
          have k13 : wr.cell? ⟨N, 0, none⟩ = some (.int .i64 (k2 : Int)) := by simp [World.cell?, hk3]
          have kz : wr.frozen? ⟨N, 0, none⟩ = false := by simp [World.frozen?, hk3]
          by_cases hkl : k2 < L'.length
          · have hh := open_last (by rw [hk2]; exact HS.out.symm) hkl
            obtain ⟨g2, cap2, af, n1, n2, n3⟩ := HAF.out k2 hkl
            have af' := hrel.out.ai.facts af n1 n2 n3
            have k4 := af'.c4
            have kR := af'.cR
            have kh : wr.cell? ⟨g2, k2 * 11 + 10, none⟩ = some (.bool L'[k2].heard) := af'.row k2 hkl 10 _ rfl
            have hki : (k2 : Int) < (n' : Int) := by have := EN.out; omega
            have hkb : k2 < 2000 := Nat.lt_of_lt_of_le hkl HRW.out.few
            rw [EN.out] at kR
            rw [hh] at kh
            have HS2 : Hid (∀ i, AE w10 N L' D xs ((wr.drewN i).setCell ⟨N, 0, none⟩ (.int .i64 ((k2 + 1 : Nat) : Int)))) := fun i => (hrel.out.drewN i).step HN.out HDD.out hkl ((open_hold hkl hh).trans hk2) hk3
            have HM : Hid (∀ i, ahead N n' ((wr.drewN i).setCell ⟨N, 0, none⟩ (.int .i64 ((k2 + 1 : Nat) : Int))) < ahead N n' wr) := fun i => by
              rw [ahead_of (k := k2 + 1) (one_setCell (w := wr.drewN i) hk3), ahead_of hk3]
              have := EN.out
              omega
            have HC : Hid ((k2 : Int) + 1 = ((k2 + 1 : Nat) : Int)) := by show _ = _; omega
            clear hrel hkl af af' n1 n2 n3 hh hk1 hk2 hk3
            go_wp2_with fail
            go_quiet (fail)
            go_wp2
            rw [HC.out]
            go_roundw
            case rel => exact HS2.out _
            case measure => exact HM.out _
          · obtain rfl : k2 = n' := by have := EN.out; omega
            obtain ⟨v8, hv8, hr8⟩ := D8.out.ex
            obtain ⟨ar, cr, rfl, _, _⟩ := row_form' hr8
            have lN := S89.out
            have l48 := (Array.getElem?_eq_some_iff.1 Q48.out).1
            have lv8 := (Array.getElem?_eq_some_iff.1 hv8).1
            have l68 := (Array.getElem?_eq_some_iff.1 Q68.out).1
            have s8 := B8T.out.size
            have e48 := (hrel.out.ai.block w.heap.size (by omega) (by omega)).trans ((B8T.out.block _ l48).trans Q48.out)
            have eR := (hrel.out.ai.block R (by omega) (by omega)).trans ((B8T.out.block _ lv8).trans hv8)
            have k4 : wr.cell? ⟨w.heap.size, 0, none⟩ = some (.pointer (some ⟨R, 0, none⟩)) := by simp [World.cell?, e48]
            have kR : wr.cell? ⟨R, 0, none⟩ = some (.slice ar L'.length cr) := by simp [World.cell?, eR]
            rw [EN.out] at kR
            have q610 := (B8T.out.block _ l68).trans Q68.out
            have bw10 : Below w.heap.size w w10 := BW8.out.trans (B8T.out.mono BW8.out.size)
            have nR6 : R ≠ w.heap.size + 1 := fun e => by
              rw [e, Q68.out] at hv8
              injection hv8 with hv8
              injection hv8 with _ hv8
              exact absurd hv8 (by decide)
            have FIN : Hid (∀ i, _) := fun i => alike_end (X := (wr.drewN i).drew) (hrel.out.drewN i).drew bw10 (by omega) HDD.out (.bool true) q610 (by omega)
            have N6 : Hid (N ≠ w.heap.size + 1) := by show _ ≠ _; omega
            have NR6 : Hid (R ≠ w.heap.size + 1) := nR6
            clear hrel hk1 hk2 hk3 hkl hv8 hr8 lN l48 lv8 l68 s8 e48 eR q610 bw10 nR6
            go_wp2_with fail
            go_quiet (fail)
            go_wp2_with fail
            have f6 : wr.heap[w.heap.size + 1]? = some (.cells #[.bool false] 4 (0, 0)) := (FIN.out nq).1
            have k6 : wr.cell? ⟨w.heap.size + 1, 0, none⟩ = some (.bool false) := by simp [World.cell?, f6]
            have kz6 : wr.frozen? ⟨w.heap.size + 1, 0, none⟩ = false := by simp [World.frozen?, f6]
            refine wp_region_calm (S := fun W => W.cell? ⟨N, 0, none⟩ = some (.int .i64 (k2 : Int)) ∧ W.cell? ⟨w.heap.size, 0, none⟩ = some (.pointer (some ⟨R, 0, none⟩)) ∧ W.cell? ⟨R, 0, none⟩ = some (.slice ar k2 cr)) (by kernel_rfl) ⟨k13, k4, kR⟩ (fun hHeld => ?_)
            refine take_run (i := 0) (oi := { dst := some 163, op := Go.Op.load 3 (Go.Operand.tmp 13), type := 3, pos := "law.go:108", after := #[], guard := none }) (v := .int .i64 (k2 : Int)) rfl (by kernel_rfl) (by kernel_rfl) (by kernel_rfl) (fun _ _ _ h => h) (by rfl) ?_ hHeld ?_
            · (intro wq hSw; obtain ⟨q1, q2, q3⟩ := hSw; go_simp <;> with_reducible rfl)
            try simp only [Act.put, List.setIfInBounds_toArray, List.set_cons_zero, List.set_cons_succ]
            refine take_run (i := 1) (oi := { dst := some 164, op := Go.Op.load 52 (Go.Operand.tmp 4), type := 52, pos := "law.go:108", after := #[], guard := none }) (v := .pointer (some ⟨R, 0, none⟩)) rfl (by kernel_rfl) (by kernel_rfl) (by kernel_rfl) (fun _ _ _ h => h) (by rfl) ?_ hHeld ?_
            · (intro wq hSw; obtain ⟨q1, q2, q3⟩ := hSw; go_simp <;> with_reducible rfl)
            try simp only [Act.put, List.setIfInBounds_toArray, List.set_cons_zero, List.set_cons_succ]
            refine take_run (i := 2) (oi := { dst := some 165, op := Go.Op.nilCheck (Go.Operand.tmp 164), type := 0, pos := "law.go:108", after := #[{ on := 1, ground := Go.Ground.data }], guard := none }) (v := .pointer (some ⟨R, 0, none⟩)) rfl (by kernel_rfl) (by kernel_rfl) (by kernel_rfl) (fun _ _ _ h => h) (by rfl) ?_ hHeld ?_
            · (intro wq hSw; obtain ⟨q1, q2, q3⟩ := hSw; go_simp <;> with_reducible rfl)
            try simp only [Act.put, List.setIfInBounds_toArray, List.set_cons_zero, List.set_cons_succ]
            refine take_run (i := 3) (oi := { dst := some 166, op := Go.Op.fieldAddr 55 (Go.Operand.tmp 165) 0, type := 0, pos := "law.go:108", after := #[{ on := 2, ground := Go.Ground.data }], guard := none }) (v := .pointer (some ⟨R, 0, none⟩)) rfl (by kernel_rfl) (by kernel_rfl) (by kernel_rfl) (fun _ _ _ h => h) (by rfl) ?_ hHeld ?_
            · (intro wq hSw; obtain ⟨q1, q2, q3⟩ := hSw; go_simp <;> with_reducible rfl)
            try simp only [Act.put, List.setIfInBounds_toArray, List.set_cons_zero, List.set_cons_succ]
            refine take_run (i := 4) (oi := { dst := some 167, op := Go.Op.load 53 (Go.Operand.tmp 166), type := 53, pos := "law.go:108", after := #[{ on := 3, ground := Go.Ground.data }], guard := none }) (v := .slice ar k2 cr) rfl (by kernel_rfl) (by kernel_rfl) (by kernel_rfl) (fun _ _ _ h => h) (by rfl) ?_ hHeld ?_
            · (intro wq hSw; obtain ⟨q1, q2, q3⟩ := hSw; go_simp <;> with_reducible rfl)
            try simp only [Act.put, List.setIfInBounds_toArray, List.set_cons_zero, List.set_cons_succ]
            refine take_run (i := 5) (oi := { dst := some 168, op := Go.Op.call { callee := Go.Callee.builtin Go.Builtin.len, args := #[Go.Operand.tmp 167], argTypes := #[53] }, type := 3, pos := "law.go:108", after := #[{ on := 4, ground := Go.Ground.data }], guard := none }) (v := .int .i64 (k2 : Int)) rfl (by kernel_rfl) (by kernel_rfl) (by kernel_rfl) (fun _ _ _ h => h) (by rfl) ?_ hHeld ?_
            · (intro wq hSw; obtain ⟨q1, q2, q3⟩ := hSw; go_simp <;> with_reducible rfl)
            try simp only [Act.put, List.setIfInBounds_toArray, List.set_cons_zero, List.set_cons_succ]
            refine take_run (i := 6) (oi := { dst := some 169, op := Go.Op.binOp Go.BinOp.eql 3 (Go.Operand.tmp 163) (Go.Operand.tmp 168) 3, type := 4, pos := "law.go:108", after := #[{ on := 0, ground := Go.Ground.data }, { on := 5, ground := Go.Ground.data }], guard := none }) (v := .bool true) rfl (by kernel_rfl) (by kernel_rfl) (by kernel_rfl) (fun _ _ _ h => h) (by rfl) ?_ hHeld ?_
            · (intro wq hSw; obtain ⟨q1, q2, q3⟩ := hSw; go_simp <;> with_reducible rfl)
            try simp only [Act.put, List.setIfInBounds_toArray, List.set_cons_zero, List.set_cons_succ]
            refine take_eff (i := 7) (oi := { dst := none, op := Go.Op.store 4 (Go.Operand.tmp 6) (Go.Operand.tmp 169), type := 0, pos := "law.go:108", after := #[{ on := 6, ground := Go.Ground.data }, { on := 0, ground := Go.Ground.phase }, { on := 1, ground := Go.Ground.phase }, { on := 2, ground := Go.Ground.phase }, { on := 3, ground := Go.Ground.phase }, { on := 4, ground := Go.Ground.phase }, { on := 5, ground := Go.Ground.phase }, { on := 6, ground := Go.Ground.phase }], guard := none }) (w' := (wr.drewN nq).drew.setCell ⟨w.heap.size + 1, 0, none⟩ (.bool true)) rfl (by kernel_rfl) (by rfl) (by go_simp <;> with_reducible rfl) ?_ ?_
            · exact ⟨(kalike_ne N6.out).trans hHeld.1, (kalike_ne (by show w.heap.size ≠ w.heap.size + 1; omega)).trans hHeld.2.1, (kalike_ne NR6.out).trans hHeld.2.2⟩
            try simp only [Act.put]
            refine wpAnyH_done (by kernel_rfl) ?_ _
            go_wp2
            refine ⟨by simp, .inl ⟨_, _, rfl, run_takeDeferred (FIN.out nq).2.2.2, ?_⟩⟩
            exact ⟨_, results_cell_bool rfl _ _ (w.heap.size + 1) true rfl (FIN.out nq).2.2.1, rfl, (FIN.out nq).2.1⟩
end Go.Proofs.Ytaakdnbaljoehaa
