/- Package mover: ownAsk. -/
import Derived.Test.YtfnjlnlmodhahaaMAskM
namespace Go.Proofs.Ytfnjlnlmodhahaa
open Go.RowKit
attribute [local go_sem] Oper.semAt_some
set_option linter.unusedVariables false

/-- The same ask with other bytes. -/
def withData (x : AskV) (v : Value) : AskV := (x.1, { x.2 with data := v })
theorem withData_cells (x : AskV) (v : Value) : (AskV.cells x).set 17 v = AskV.cells (withData x v) := rfl
set_option maxRecDepth 100000 in
set_option maxHeartbeats 1600000 in
theorem ownAsk_any (x : AskV) (pa : Option Addr) (pn pc : Nat) (l : List (BitVec 8)) (w : World) (hd : x.2.data = .slice pa pn pc) (hs : Seen w pa pn l) (hnil : pa = none → pc = 0) (hm : pn ≤ 140737488355328) :
    Calls Try.prog 31 #[.agg (AskV.cells x).toArray] w fun e w' => ∃ v, e = .returned (.agg (AskV.cells (withData x v)).toArray) ∧ w'.ownsRow w.heap.size 5 1 v pn (cellsOf l) ∧ Below w.heap.size w w' := by
  have hc1 : (Try.prog.info? 37).map (·.size) = some (AskV.cells x).toArray.size := by kernel_rfl
  have hc2 : (#[.int .i64 0, .int .i64 0, .int .i64 0, .string ⟨#[]⟩, .string ⟨#[]⟩, .int .i64 0, .string ⟨#[]⟩, .int .i64 0, .int .i64 0, .string ⟨#[]⟩, .string ⟨#[]⟩, .int .i64 0, .int .i64 0, .int .i64 0, .int .i64 0, .int .i64 0, .bool false, .slice none 0 0] : Array Value).size = (AskV.cells x).toArray.size := rfl
  have hc4 : (AskV.cells x)[17]? = some (.slice pa pn pc) := by rw [← hd]; rfl
  have hset : ∀ v, (AskV.cells x).set 17 v = AskV.cells (withData x v) := fun v => rfl
  have hall : ∀ v : Value, v.oneCell' = true → ((AskV.cells x).set 17 v).toArray.all (·.oneCell') = true := fun v h => by rw [hset]; exact askAll _ h
  simp only [← hset]
  generalize AskV.cells x = C at *
  have bA : Below w.heap.size w ((w.alloc (.cells C.toArray 37)).alloc (.cells #[.int .i64 0, .int .i64 0, .int .i64 0, .string ⟨#[]⟩, .string ⟨#[]⟩, .int .i64 0, .string ⟨#[]⟩, .int .i64 0, .int .i64 0, .string ⟨#[]⟩, .string ⟨#[]⟩, .int .i64 0, .int .i64 0, .int .i64 0, .int .i64 0, .int .i64 0, .bool false, .slice none 0 0] 37)) := ((Below.refl _ w).alloc (Nat.le_refl _) _).alloc (by simp) _
  have q2 := heap_two w (.cells C.toArray 37) (.cells #[.int .i64 0, .int .i64 0, .int .i64 0, .string ⟨#[]⟩, .string ⟨#[]⟩, .int .i64 0, .string ⟨#[]⟩, .int .i64 0, .int .i64 0, .string ⟨#[]⟩, .string ⟨#[]⟩, .int .i64 0, .int .i64 0, .int .i64 0, .int .i64 0, .int .i64 0, .bool false, .slice none 0 0] 37)
  have q1 : ((w.alloc (.cells C.toArray 37)).alloc (.cells #[.int .i64 0, .int .i64 0, .int .i64 0, .string ⟨#[]⟩, .string ⟨#[]⟩, .int .i64 0, .string ⟨#[]⟩, .int .i64 0, .int .i64 0, .string ⟨#[]⟩, .string ⟨#[]⟩, .int .i64 0, .int .i64 0, .int .i64 0, .int .i64 0, .int .i64 0, .bool false, .slice none 0 0] 37)).heap[w.heap.size]? = some (.cells C.toArray 37 (0, 0)) := by rw [Below.heap_alloc _ _ _ (by simp), heap_alloc_new]
  have p17 : ((w.alloc (.cells C.toArray 37)).alloc (.cells #[.int .i64 0, .int .i64 0, .int .i64 0, .string ⟨#[]⟩, .string ⟨#[]⟩, .int .i64 0, .string ⟨#[]⟩, .int .i64 0, .int .i64 0, .string ⟨#[]⟩, .string ⟨#[]⟩, .int .i64 0, .int .i64 0, .int .i64 0, .int .i64 0, .int .i64 0, .bool false, .slice none 0 0] 37)).cell? ⟨w.heap.size, 17, none⟩ = some (.slice pa pn pc) := by simp only [World.cell?, q1]; simpa using hc4
  have HC := clone_any pa pn pc l ((w.alloc (.cells C.toArray 37)).alloc (.cells #[.int .i64 0, .int .i64 0, .int .i64 0, .string ⟨#[]⟩, .string ⟨#[]⟩, .int .i64 0, .string ⟨#[]⟩, .int .i64 0, .int .i64 0, .string ⟨#[]⟩, .string ⟨#[]⟩, .int .i64 0, .int .i64 0, .int .i64 0, .int .i64 0, .int .i64 0, .bool false, .slice none 0 0] 37)) (hs.below bA) hnil hm
  have Q1 : Hid _ := q1
  have Q2 : Hid _ := q2
  have BA : Hid _ := bA
  have C1 : Hid _ := hc1
  have C2 : Hid _ := hc2
  have HALL : Hid _ := hall
  have HM : Hid (pn ≤ 140737488355328) := hm
  clear q1 q2 bA hc1 hc2 hall hc4 hset hm hs hnil hd
  go_enter Try.func31, Try.ntmps31
  go_wp2_with fail
  refine HC.mono ?_
  clear HC p17
  generalize (w.alloc (.cells C.toArray 37)).alloc (.cells #[.int .i64 0, .int .i64 0, .int .i64 0, .string ⟨#[]⟩, .string ⟨#[]⟩, .int .i64 0, .string ⟨#[]⟩, .int .i64 0, .int .i64 0, .string ⟨#[]⟩, .string ⟨#[]⟩, .int .i64 0, .int .i64 0, .int .i64 0, .int .i64 0, .int .i64 0, .bool false, .slice none 0 0] 37) = V at *
  rintro e w2 ⟨v, rfl, o, b2⟩
  obtain ⟨va, vc, rfl, hseen, _⟩ := owned_seen o (by have := HM.out; unfold maxLen; omega)
  have l1 : w.heap.size + 1 < V.heap.size := (Array.getElem?_eq_some_iff.1 Q2.out).1
  have l0 : w.heap.size < V.heap.size := by omega
  have r1 : w2.heap[w.heap.size]? = _ := (b2.block _ l0).trans Q1.out
  have r2 : w2.heap[w.heap.size + 1]? = _ := (b2.block _ l1).trans Q2.out
  have bw := BA.out.trans (b2.mono BA.out.size)
  have z17 : ∃ u, w2.cell? ⟨w.heap.size, 17, none⟩ = some u := by
    simp only [World.cell?, r1]
    have hl : C.length = 18 := by have := C2.out; simpa using this.symm
    exact ⟨C[17], by simp [hl]⟩
  obtain ⟨u, z17⟩ := z17
  have f17 : w2.frozen? ⟨w.heap.size, 17, none⟩ = false := by simp only [World.frozen?, r1]; rfl
  have e3 : w2.setCell ⟨w.heap.size, 17, none⟩ (.slice va pn vc) = w2.setRow w.heap.size (C.set 17 (.slice va pn vc)).toArray := by
    rw [setCell_eq_setRow w2 w.heap.size 17 _ _ _ (.slice va pn vc) r1]
    simp
  obtain ⟨V3, h3⟩ : ∃ V3, V3 = w2.setCell ⟨w.heap.size, 17, none⟩ (.slice va pn vc) := ⟨_, rfl⟩
  have n3 : V3.heap[w.heap.size]? = some (.cells (C.set 17 (.slice va pn vc)).toArray 37 (0, 0)) := by rw [h3, e3]; exact setRow_self r1
  have s3 : V3.heap[w.heap.size + 1]? = some (.cells #[.int .i64 0, .int .i64 0, .int .i64 0, .string ⟨#[]⟩, .string ⟨#[]⟩, .int .i64 0, .string ⟨#[]⟩, .int .i64 0, .int .i64 0, .string ⟨#[]⟩, .string ⟨#[]⟩, .int .i64 0, .int .i64 0, .int .i64 0, .int .i64 0, .int .i64 0, .bool false, .slice none 0 0] 37 (0, 0)) := by rw [h3, e3]; exact (setRow_other _ _ _ _ (by omega)).trans r2
  have bw3 : Below w.heap.size w V3 := by rw [h3, e3]; exact below_row bw (Nat.le_refl _) _
  have o3 : V3.ownsRow w.heap.size 5 1 (.slice va pn vc) pn (cellsOf l) := by
    rw [h3, e3]
    have ob := owns_kept (w' := w2.setRow w.heap.size (C.set 17 (.slice va pn vc)).toArray) o (fun g e => setRow_other _ _ _ _ (by have := (row_kind o e).1; omega))
    exact ⟨ob.1, ob.2.imp id (fun ⟨g, cp, cur, e1, e2, e3⟩ => ⟨g, cp, cur, e1, by omega, e3⟩)⟩
  have K1 : Hid ((Try.prog.info? 37).map (·.size) = some (C.set 17 (.slice va pn vc)).toArray.size) := by show _ = _; rw [C1.out]; simp
  have K2 : Hid ((#[.int .i64 0, .int .i64 0, .int .i64 0, .string ⟨#[]⟩, .string ⟨#[]⟩, .int .i64 0, .string ⟨#[]⟩, .int .i64 0, .int .i64 0, .string ⟨#[]⟩, .string ⟨#[]⟩, .int .i64 0, .int .i64 0, .int .i64 0, .int .i64 0, .int .i64 0, .bool false, .slice none 0 0] : Array Value).size = (C.set 17 (.slice va pn vc)).toArray.size) := by show _ = _; rw [C2.out]; simp
  have K3 : Hid _ := HALL.out (.slice va pn vc) rfl
  have N3 : Hid _ := n3
  have S3 : Hid _ := s3
  have BW3 : Hid _ := bw3
  have O3 : Hid _ := o3
  have H3 : Hid _ := h3
  clear n3 s3 bw3 o3 h3 e3 r1 r2 bw l1 l0 o b2 hseen Q1 Q2 BA C1 C2 HALL
  generalize hC : (C.set 17 (.slice va pn vc)) = C' at *
  have HCC : Hid _ := hC
  clear hC
  go_wp2_with (first
    | (rw [← H3.out]; refine wpList_load_row rfl 37 (.tmp 1) rfl w.heap.size rfl 37 _ (0, 0) _ N3.out Try.underlying37 rfl K1.out ?_)
    | (refine wpList_store_row rfl 37 (.tmp 2) (.tmp 9) rfl (w.heap.size + 1) C'.toArray rfl rfl 37 _ S3.out K1.out K2.out K3.out ?_))
  refine bodyPost_ret (results_cell_row rfl _ _ (w.heap.size + 1) 37 _ _ _ rfl (setRow_self S3.out) Try.underlying37 rfl K1.out) rfl ⟨.slice va pn vc, ?_, owns_kept O3.out (fun g e => setRow_other _ _ _ _ ?_), below_row BW3.out (by omega) _⟩
  · rw [HCC.out]
  · rintro rfl
    obtain ⟨_, _, cur, hk⟩ := row_kind O3.out e
    rw [S3.out] at hk
    injection hk with hk
    injection hk with _ hk
    exact absurd hk (by decide)
end Go.Proofs.Ytfnjlnlmodhahaa
