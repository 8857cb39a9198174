/- AuditorNil: the walk. -/
import Derived.Test.YtckldjiabalgbaaANr2
namespace Go.Proofs.Ytckldjiabalgbaa
open Go.RowKit Go.Shelf
attribute [local go_sem] Oper.semAt_some
set_option linter.unusedVariables false

theorem eq_noneA (w : World) : (binOp .eql 47 (.agg #[.int .i64 0, .int .i64 0, .int .i64 0, .int .i64 0, .int .i64 0]) (.agg #[.int .i64 0, .int .i64 0, .int .i64 0, .int .i64 0, .int .i64 0])).run Try.prog w = .ok (.bool true) w := by kernel_rfl
set_option maxRecDepth 100000 in
set_option maxHeartbeats 8000000 in
theorem auditorNil_any (K n ph g k ok : Int) (of_ ot : ByteArray) (oa : Int) (oy : ByteArray) (os oh : Int) (id nm : ByteArray) (cn why slot cep at_ : Int) (last : Bool) (da : Option Addr) (dc : Nat) (dl : List (BitVec 8)) (rwhy : Int) (rwait : Bool) (rrw rra : Int) (rrows : Value) (ea : Option Addr) (ec : Nat) (el : List (BitVec 8)) (pl : Int) (w : World) (hD : Seen w da dl.length dl) (hDn : da = none → dc = 0) (hDl : dl.length ≤ 140737488351232) :
    Calls Try.prog 4 #[.agg #[.int .i64 K, .int .i64 n, .int .i64 ph, .int .i64 g, .int .i64 k, .int .i64 ok, .string of_, .string ot, .int .i64 oa, .string oy, .int .i64 os, .int .i64 oh, .string id, .string nm, .int .i64 cn, .int .i64 why, .int .i64 slot, .int .i64 cep, .int .i64 at_, .bool last, .slice da dl.length dc, .int .i64 rwhy, .bool rwait, .int .i64 rrw, .int .i64 rra, rrows, .slice ea el.length ec, .int .i64 pl]] w fun e w' => e = .returned (.bool true) ∧ Below w.heap.size w w' := by
  have bA : Below w.heap.size w (w.alloc (.cells #[.int .i64 K, .int .i64 n, .int .i64 ph, .int .i64 g, .int .i64 k, .int .i64 ok, .string of_, .string ot, .int .i64 oa, .string oy, .int .i64 os, .int .i64 oh, .string id, .string nm, .int .i64 cn, .int .i64 why, .int .i64 slot, .int .i64 cep, .int .i64 at_, .bool last, .slice da dl.length dc, .int .i64 rwhy, .bool rwait, .int .i64 rrw, .int .i64 rra, rrows, .slice ea el.length ec, .int .i64 pl] 44)) := (Below.refl _ w).alloc (Nat.le_refl _) _
  have q1 := heap_alloc_new w (.cells #[.int .i64 K, .int .i64 n, .int .i64 ph, .int .i64 g, .int .i64 k, .int .i64 ok, .string of_, .string ot, .int .i64 oa, .string oy, .int .i64 os, .int .i64 oh, .string id, .string nm, .int .i64 cn, .int .i64 why, .int .i64 slot, .int .i64 cep, .int .i64 at_, .bool last, .slice da dl.length dc, .int .i64 rwhy, .bool rwait, .int .i64 rrw, .int .i64 rra, rrows, .slice ea el.length ec, .int .i64 pl] 44)
  have hDA := hD.below bA
  obtain ⟨V, hV⟩ : ∃ V, V = w.alloc (.cells #[.int .i64 K, .int .i64 n, .int .i64 ph, .int .i64 g, .int .i64 k, .int .i64 ok, .string of_, .string ot, .int .i64 oa, .string oy, .int .i64 os, .int .i64 oh, .string id, .string nm, .int .i64 cn, .int .i64 why, .int .i64 slot, .int .i64 cep, .int .i64 at_, .bool last, .slice da dl.length dc, .int .i64 rwhy, .bool rwait, .int .i64 rrw, .int .i64 rra, rrows, .slice ea el.length ec, .int .i64 pl] 44) := ⟨_, rfl⟩
  rw [← hV] at bA q1 hDA
  have HV : Hid _ := hV
  have BA : Hid _ := bA
  have Q1 : Hid _ := q1
  have HDA : Hid (Seen V da dl.length dl) := hDA
  have HL : Hid ((da = none → dc = 0) ∧ dl.length ≤ 140737488351232) := ⟨hDn, hDl⟩
  clear hD hDn hDl bA q1 hDA hV
  go_enter Try.func4, Try.ntmps4
  go_wp2_with fail
  rw [← HV.out]
  refine anil_r2 _ _ _ _ _ _ _ _ _ _ _ _ _ _ _ _ _ _ _ _ _ _ _ _ _ _ _ _ _ _ _ _ _ _ _ _ _ _ _ _ _ _ _ _ _ _ _ _ _ _ _ _ _ _ _ _ _ _ _ _ _ _ _ _ _ V w.heap.size K n ph g k ok of_ ot oa oy os oh id nm cn why slot cep at_ last da dc dl rwhy rwait rrw rra rrows ea ec el pl HDA.out HL.out.1 HL.out.2 Q1.out _ (fun _ _ _ _ _ h => h) ?_
  rintro W1 Bc v9 v10 v11 v12 v13 v14 v15 v16 v17 v18 v19 v20 v21 v22 v23 v24 v25 v26 b1 c1
  have lV : w.heap.size < V.heap.size := (Array.getElem?_eq_some_iff.1 Q1.out).1
  have bA : Below W1.heap.size W1 (W1.alloc (.cells #[.int .i64 0, .int .i64 0, .int .i64 0, .int .i64 0, .int .i64 0] 47)) := (Below.refl _ W1).alloc (Nat.le_refl _) _
  have b2 := b1.trans (bA.mono b1.size)
  have f1 : (W1.alloc (.cells #[.int .i64 0, .int .i64 0, .int .i64 0, .int .i64 0, .int .i64 0] 47)).cell? ⟨w.heap.size, 1, none⟩ = some (.int .i64 n) := by simp only [World.cell?, (b2.block _ lV).trans Q1.out]; rfl
  have f2 : (W1.alloc (.cells #[.int .i64 0, .int .i64 0, .int .i64 0, .int .i64 0, .int .i64 0] 47)).cell? ⟨w.heap.size, 2, none⟩ = some (.int .i64 ph) := by simp only [World.cell?, (b2.block _ lV).trans Q1.out]; rfl
  have C2 : Hid ((W1.alloc (.cells #[.int .i64 0, .int .i64 0, .int .i64 0, .int .i64 0, .int .i64 0] 47)).heap[Bc]? = some (.cells #[.int .i64 0, .int .i64 0, .int .i64 0, .int .i64 0, .int .i64 0] 47 (0, 0)) ∧ (W1.alloc (.cells #[.int .i64 0, .int .i64 0, .int .i64 0, .int .i64 0, .int .i64 0] 47)).heap[W1.heap.size]? = some (.cells #[.int .i64 0, .int .i64 0, .int .i64 0, .int .i64 0, .int .i64 0] 47 (0, 0)) ∧ Below w.heap.size w (W1.alloc (.cells #[.int .i64 0, .int .i64 0, .int .i64 0, .int .i64 0, .int .i64 0] 47))) := ⟨(bA.block _ (Array.getElem?_eq_some_iff.1 c1).1).trans c1, heap_alloc_new W1 _, BA.out.trans (b2.mono BA.out.size)⟩
  have HR := rowsA_nil W1
  clear b1 c1 lV bA b2 HV Q1 HDA HL
  go_wp2_with fail
  refine HR.mono ?_
  rintro e W3 ⟨rfl, rfl⟩
  clear HR
  have HAs := lawAsks_nil n ph (W3.alloc (.cells #[.int .i64 0, .int .i64 0, .int .i64 0, .int .i64 0, .int .i64 0] 47))
  go_wp2_with fail
  refine HAs.mono ?_
  clear HAs f1 f2
  generalize W3.alloc (.cells #[.int .i64 0, .int .i64 0, .int .i64 0, .int .i64 0, .int .i64 0] 47) = W2 at *
  generalize W3.heap.size = Bn at *
  rintro e W4 ⟨rfl, b4⟩
  have C4 : Hid (W4.heap[Bc]? = some (.cells #[.int .i64 0, .int .i64 0, .int .i64 0, .int .i64 0, .int .i64 0] 47 (0, 0)) ∧ W4.heap[Bn]? = some (.cells #[.int .i64 0, .int .i64 0, .int .i64 0, .int .i64 0, .int .i64 0] 47 (0, 0)) ∧ Below w.heap.size w W4) := ⟨(b4.block _ (Array.getElem?_eq_some_iff.1 C2.out.1).1).trans C2.out.1, (b4.block _ (Array.getElem?_eq_some_iff.1 C2.out.2.1).1).trans C2.out.2.1, C2.out.2.2.trans (b4.mono C2.out.2.2.size)⟩
  have heq := eq_noneA
  have HLf := left_nil W4
  have HKn := knownA_any W4
  have HC41 := C4.out.1
  have HC42 := C4.out.2.1
  have x0 : W4.cell? ⟨Bc, 0, none⟩ = some (.int .i64 0) := by simp only [World.cell?, HC41]; rfl
  have x1 : W4.cell? ⟨Bc, 1, none⟩ = some (.int .i64 0) := by simp only [World.cell?, HC41]; rfl
  have x2 : W4.cell? ⟨Bc, 2, none⟩ = some (.int .i64 0) := by simp only [World.cell?, HC41]; rfl
  have x3 : W4.cell? ⟨Bc, 3, none⟩ = some (.int .i64 0) := by simp only [World.cell?, HC41]; rfl
  have x4 : W4.cell? ⟨Bc, 4, none⟩ = some (.int .i64 0) := by simp only [World.cell?, HC41]; rfl
  have y0 : W4.cell? ⟨Bn, 0, none⟩ = some (.int .i64 0) := by simp only [World.cell?, HC42]; rfl
  have y1 : W4.cell? ⟨Bn, 1, none⟩ = some (.int .i64 0) := by simp only [World.cell?, HC42]; rfl
  have y2 : W4.cell? ⟨Bn, 2, none⟩ = some (.int .i64 0) := by simp only [World.cell?, HC42]; rfl
  have y3 : W4.cell? ⟨Bn, 3, none⟩ = some (.int .i64 0) := by simp only [World.cell?, HC42]; rfl
  have y4 : W4.cell? ⟨Bn, 4, none⟩ = some (.int .i64 0) := by simp only [World.cell?, HC42]; rfl
  have B4 : Hid (Below w.heap.size w W4) := C4.out.2.2
  clear b4 C2 C4 HC41 HC42
  go_wp2_with fail
  refine HLf.mono ?_
  rintro e W5 ⟨rfl, rfl⟩
  clear HLf
  go_wp2_with fail
  refine HKn.mono ?_
  rintro e W6 ⟨rfl, b6⟩
  have B6 : Hid (Below w.heap.size w W6) := B4.out.trans (b6.mono B4.out.size)
  clear HKn b6 B4
  go_wp2
  go_ret
  exact ⟨rfl, B6.out⟩
end Go.Proofs.Ytckldjiabalgbaa
