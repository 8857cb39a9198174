/- The law's given, result, moving; what a mover that is not there answers. -/
import Derived.Test.YtcmhkeaimgppgaaMToldW
import Derived.Test.YtcmhkeaimgppgaaMAsksW
namespace Go.Proofs.Ytcmhkeaimgppgaa
open Go.RowKit Go.Shelf
attribute [local go_sem] Oper.semAt_some
set_option linter.unusedVariables false

theorem moving_any (x : MvD) (w : World) : Calls Try.prog 8 #[.agg #[.int .i64 x.slot, .int .i64 x.fr, .int .i64 x.to, .int .i64 x.ep, .int .i64 x.ph, .int .i64 x.n]] w fun e w' => e = .returned (.agg #[.int .i64 x.slot, .int .i64 x.fr, .int .i64 x.to, .int .i64 x.ep, .int .i64 x.ph, .int .i64 x.n]) ∧ Below w.heap.size w w' := by
  obtain ⟨sl, fr, to, ep, ph, n⟩ := x
  dsimp only
  go_enter Try.func8, Try.ntmps8
  go_wp2
  exact bodyPost_ret (results_cell_row rfl _ _ (w.heap.size + 1) 47 _ _ _ rfl (heap_two w _ _) Try.underlying47 rfl (by kernel_rfl)) rfl ⟨rfl, ((Below.refl _ w).alloc (Nat.le_refl _) _).alloc (by simp) _⟩
/-- A copy of bytes, made by append. -/
theorem run_append_nil (w : World) (aa : Option Addr) (la ca : Nat) (A : List (BitVec 8)) (hA : Seen w aa la A) (hnil : aa = none → ca = 0) (hb : la ≤ 140737488355328) :
    ∃ v' w', (Builtin.append_ #[26, 26] 26 #[.slice none 0 0, .slice aa la ca]).run Try.prog w = .ok v' w' ∧ w'.ownsRow w.heap.size 5 1 v' la (cellsOf A) ∧ Below w.heap.size w w' := by
  obtain ⟨v', w', h1, h2, h3⟩ := run_append_bytes 26 w w.heap.size (.slice none 0 0) 0 [] (World.ownsRow_nil _ _ _ _) aa la ca A hA hnil (by omega) (Nat.le_refl _)
  rw [List.nil_append, Nat.zero_add] at h2
  exact ⟨v', w', h1, h2, (Below.refl _ w).grown h3 (Nat.le_refl _) (fun k e => by cases e)⟩
set_option maxRecDepth 100000 in
set_option maxHeartbeats 4000000 in
theorem given_any (k ok : Int) (of_ ot : ByteArray) (oa : Int) (oy : ByteArray) (os oh : Int) (id nm : ByteArray) (n why slot ep at_ : Int) (last : Bool) (da : Option Addr) (dc : Nat) (l : List (BitVec 8)) (w : World) (hs : Seen w da l.length l) (hnil : da = none → dc = 0) (hm : l.length ≤ 140737488351232) :
    Calls Try.prog 15 #[.agg #[.int .i64 k, .int .i64 ok, .string of_, .string ot, .int .i64 oa, .string oy, .int .i64 os, .int .i64 oh, .string id, .string nm, .int .i64 n, .int .i64 why, .int .i64 slot, .int .i64 ep, .int .i64 at_, .bool last, .slice da l.length dc]] w fun e w' => ∃ va vc, e = .returned (.agg #[.int .i64 k, .int .i64 ok, .string of_, .string ot, .int .i64 oa, .string oy, .int .i64 os, .int .i64 oh, .string id, .string nm, .int .i64 n, .int .i64 why, .int .i64 slot, .int .i64 ep, .int .i64 at_, .bool last, .slice va l.length vc]) ∧ w'.ownsRow w.heap.size 5 1 (.slice va l.length vc) l.length (cellsOf l) ∧ Below w.heap.size w w' := by
  have bA : Below w.heap.size w ((w.alloc (.cells #[.int .i64 k, .int .i64 ok, .string of_, .string ot, .int .i64 oa, .string oy, .int .i64 os, .int .i64 oh, .string id, .string nm, .int .i64 n, .int .i64 why, .int .i64 slot, .int .i64 ep, .int .i64 at_, .bool last, .slice da l.length dc] 33)).alloc (.cells #[.int .i64 0, .int .i64 0, .string ⟨#[]⟩, .string ⟨#[]⟩, .int .i64 0, .string ⟨#[]⟩, .int .i64 0, .int .i64 0, .string ⟨#[]⟩, .string ⟨#[]⟩, .int .i64 0, .int .i64 0, .int .i64 0, .int .i64 0, .int .i64 0, .bool false, .slice none 0 0] 52)) := ((Below.refl _ w).alloc (Nat.le_refl _) _).alloc (by simp) _
  have q2 := heap_two w (.cells #[.int .i64 k, .int .i64 ok, .string of_, .string ot, .int .i64 oa, .string oy, .int .i64 os, .int .i64 oh, .string id, .string nm, .int .i64 n, .int .i64 why, .int .i64 slot, .int .i64 ep, .int .i64 at_, .bool last, .slice da l.length dc] 33) (.cells #[.int .i64 0, .int .i64 0, .string ⟨#[]⟩, .string ⟨#[]⟩, .int .i64 0, .string ⟨#[]⟩, .int .i64 0, .int .i64 0, .string ⟨#[]⟩, .string ⟨#[]⟩, .int .i64 0, .int .i64 0, .int .i64 0, .int .i64 0, .int .i64 0, .bool false, .slice none 0 0] 52)
  have q1 : ((w.alloc (.cells #[.int .i64 k, .int .i64 ok, .string of_, .string ot, .int .i64 oa, .string oy, .int .i64 os, .int .i64 oh, .string id, .string nm, .int .i64 n, .int .i64 why, .int .i64 slot, .int .i64 ep, .int .i64 at_, .bool last, .slice da l.length dc] 33)).alloc (.cells #[.int .i64 0, .int .i64 0, .string ⟨#[]⟩, .string ⟨#[]⟩, .int .i64 0, .string ⟨#[]⟩, .int .i64 0, .int .i64 0, .string ⟨#[]⟩, .string ⟨#[]⟩, .int .i64 0, .int .i64 0, .int .i64 0, .int .i64 0, .int .i64 0, .bool false, .slice none 0 0] 52)).heap[w.heap.size]? = some (.cells #[.int .i64 k, .int .i64 ok, .string of_, .string ot, .int .i64 oa, .string oy, .int .i64 os, .int .i64 oh, .string id, .string nm, .int .i64 n, .int .i64 why, .int .i64 slot, .int .i64 ep, .int .i64 at_, .bool last, .slice da l.length dc] 33 (0, 0)) := by rw [Below.heap_alloc _ _ _ (by simp), heap_alloc_new]
  have hA := hs.below bA
  have hOp : ((w.alloc (.cells #[.int .i64 k, .int .i64 ok, .string of_, .string ot, .int .i64 oa, .string oy, .int .i64 os, .int .i64 oh, .string id, .string nm, .int .i64 n, .int .i64 why, .int .i64 slot, .int .i64 ep, .int .i64 at_, .bool last, .slice da l.length dc] 33)).alloc (.cells #[.int .i64 0, .int .i64 0, .string ⟨#[]⟩, .string ⟨#[]⟩, .int .i64 0, .string ⟨#[]⟩, .int .i64 0, .int .i64 0, .string ⟨#[]⟩, .string ⟨#[]⟩, .int .i64 0, .int .i64 0, .int .i64 0, .int .i64 0, .int .i64 0, .bool false, .slice none 0 0] 52)).rangeAt w.heap.size 1 [.int .i64 ok, .string of_, .string ot, .int .i64 oa, .string oy, .int .i64 os, .int .i64 oh] := fun j v hv => by
    simp only [World.cell?, q1]
    match j, hv with
    | 0, hv => exact hv
    | 1, hv => exact hv
    | 2, hv => exact hv
    | 3, hv => exact hv
    | 4, hv => exact hv
    | 5, hv => exact hv
    | 6, hv => exact hv
  have n3 := heap_alloc_new ((w.alloc (.cells #[.int .i64 k, .int .i64 ok, .string of_, .string ot, .int .i64 oa, .string oy, .int .i64 os, .int .i64 oh, .string id, .string nm, .int .i64 n, .int .i64 why, .int .i64 slot, .int .i64 ep, .int .i64 at_, .bool last, .slice da l.length dc] 33)).alloc (.cells #[.int .i64 0, .int .i64 0, .string ⟨#[]⟩, .string ⟨#[]⟩, .int .i64 0, .string ⟨#[]⟩, .int .i64 0, .int .i64 0, .string ⟨#[]⟩, .string ⟨#[]⟩, .int .i64 0, .int .i64 0, .int .i64 0, .int .i64 0, .int .i64 0, .bool false, .slice none 0 0] 52)) (.cells #[.int .i64 0, .int .i64 0, .string ⟨#[]⟩, .string ⟨#[]⟩, .int .i64 0, .string ⟨#[]⟩, .int .i64 0, .int .i64 0, .string ⟨#[]⟩, .string ⟨#[]⟩, .int .i64 0, .int .i64 0, .int .i64 0, .int .i64 0, .int .i64 0, .bool false, .slice none 0 0] 52)
  have b3 : Below w.heap.size w (((w.alloc (.cells #[.int .i64 k, .int .i64 ok, .string of_, .string ot, .int .i64 oa, .string oy, .int .i64 os, .int .i64 oh, .string id, .string nm, .int .i64 n, .int .i64 why, .int .i64 slot, .int .i64 ep, .int .i64 at_, .bool last, .slice da l.length dc] 33)).alloc (.cells #[.int .i64 0, .int .i64 0, .string ⟨#[]⟩, .string ⟨#[]⟩, .int .i64 0, .string ⟨#[]⟩, .int .i64 0, .int .i64 0, .string ⟨#[]⟩, .string ⟨#[]⟩, .int .i64 0, .int .i64 0, .int .i64 0, .int .i64 0, .int .i64 0, .bool false, .slice none 0 0] 52)).alloc (.cells #[.int .i64 0, .int .i64 0, .string ⟨#[]⟩, .string ⟨#[]⟩, .int .i64 0, .string ⟨#[]⟩, .int .i64 0, .int .i64 0, .string ⟨#[]⟩, .string ⟨#[]⟩, .int .i64 0, .int .i64 0, .int .i64 0, .int .i64 0, .int .i64 0, .bool false, .slice none 0 0] 52)) := bA.alloc bA.size _
  have sz : ((w.alloc (.cells #[.int .i64 k, .int .i64 ok, .string of_, .string ot, .int .i64 oa, .string oy, .int .i64 os, .int .i64 oh, .string id, .string nm, .int .i64 n, .int .i64 why, .int .i64 slot, .int .i64 ep, .int .i64 at_, .bool last, .slice da l.length dc] 33)).alloc (.cells #[.int .i64 0, .int .i64 0, .string ⟨#[]⟩, .string ⟨#[]⟩, .int .i64 0, .string ⟨#[]⟩, .int .i64 0, .int .i64 0, .string ⟨#[]⟩, .string ⟨#[]⟩, .int .i64 0, .int .i64 0, .int .i64 0, .int .i64 0, .int .i64 0, .bool false, .slice none 0 0] 52)).heap.size = w.heap.size + 2 := by simp
  rw [sz] at n3
  obtain ⟨V3, e3⟩ : ∃ V3, V3 = (((w.alloc (.cells #[.int .i64 k, .int .i64 ok, .string of_, .string ot, .int .i64 oa, .string oy, .int .i64 os, .int .i64 oh, .string id, .string nm, .int .i64 n, .int .i64 why, .int .i64 slot, .int .i64 ep, .int .i64 at_, .bool last, .slice da l.length dc] 33)).alloc (.cells #[.int .i64 0, .int .i64 0, .string ⟨#[]⟩, .string ⟨#[]⟩, .int .i64 0, .string ⟨#[]⟩, .int .i64 0, .int .i64 0, .string ⟨#[]⟩, .string ⟨#[]⟩, .int .i64 0, .int .i64 0, .int .i64 0, .int .i64 0, .int .i64 0, .bool false, .slice none 0 0] 52)).alloc (.cells #[.int .i64 0, .int .i64 0, .string ⟨#[]⟩, .string ⟨#[]⟩, .int .i64 0, .string ⟨#[]⟩, .int .i64 0, .int .i64 0, .string ⟨#[]⟩, .string ⟨#[]⟩, .int .i64 0, .int .i64 0, .int .i64 0, .int .i64 0, .int .i64 0, .bool false, .slice none 0 0] 52)).setRow (w.heap.size + 2) #[.int .i64 k, .int .i64 ok, .string of_, .string ot, .int .i64 oa, .string oy, .int .i64 os, .int .i64 oh, .string id, .string nm, .int .i64 n, .int .i64 why, .int .i64 slot, .int .i64 ep, .int .i64 at_, .bool last, .slice none 0 0] := ⟨_, rfl⟩
  have m3 : V3.heap[w.heap.size + 2]? = some (.cells #[.int .i64 k, .int .i64 ok, .string of_, .string ot, .int .i64 oa, .string oy, .int .i64 os, .int .i64 oh, .string id, .string nm, .int .i64 n, .int .i64 why, .int .i64 slot, .int .i64 ep, .int .i64 at_, .bool last, .slice none 0 0] 52 (0, 0)) := by rw [e3]; exact setRow_self n3
  have q31 : V3.heap[w.heap.size]? = some (.cells #[.int .i64 k, .int .i64 ok, .string of_, .string ot, .int .i64 oa, .string oy, .int .i64 os, .int .i64 oh, .string id, .string nm, .int .i64 n, .int .i64 why, .int .i64 slot, .int .i64 ep, .int .i64 at_, .bool last, .slice da l.length dc] 33 (0, 0)) := by rw [e3]; exact (setRow_other _ _ _ _ (by omega)).trans ((Below.heap_alloc _ _ _ (Array.getElem?_eq_some_iff.1 q1).1).trans q1)
  have q32 : V3.heap[w.heap.size + 1]? = some (.cells #[.int .i64 0, .int .i64 0, .string ⟨#[]⟩, .string ⟨#[]⟩, .int .i64 0, .string ⟨#[]⟩, .int .i64 0, .int .i64 0, .string ⟨#[]⟩, .string ⟨#[]⟩, .int .i64 0, .int .i64 0, .int .i64 0, .int .i64 0, .int .i64 0, .bool false, .slice none 0 0] 52 (0, 0)) := by rw [e3]; exact (setRow_other _ _ _ _ (by omega)).trans ((Below.heap_alloc _ _ _ (Array.getElem?_eq_some_iff.1 q2).1).trans q2)
  have bw3 : Below w.heap.size w V3 := by rw [e3]; exact below_row b3 (by omega) _
  have hs3 := hs.below bw3
  obtain ⟨v4, w4, hrun, hown, hb4⟩ := run_append_nil V3 da l.length dc l hs3 hnil (by omega)
  obtain ⟨va, vc, rfl, _⟩ := row_form hown
  have lt3 : w.heap.size + 2 < V3.heap.size := (Array.getElem?_eq_some_iff.1 m3).1
  have m4 : w4.heap[w.heap.size + 2]? = _ := (hb4.block _ lt3).trans m3
  have q42 : w4.heap[w.heap.size + 1]? = _ := (hb4.block _ (by omega)).trans q32
  have bw4 : Below w.heap.size w w4 := bw3.trans (hb4.mono bw3.size)
  have x3 : V3.cell? ⟨w.heap.size + 2, 16, none⟩ = some (.slice none 0 0) := by simp only [World.cell?, m3]; rfl
  have x1 : V3.cell? ⟨w.heap.size, 16, none⟩ = some (.slice da l.length dc) := by simp only [World.cell?, q31]; rfl
  have z4 : w4.cell? ⟨w.heap.size + 2, 16, none⟩ = some (.slice none 0 0) := by simp only [World.cell?, m4]; rfl
  have z4f : w4.frozen? ⟨w.heap.size + 2, 16, none⟩ = false := by simp only [World.frozen?, m4]; rfl
  have e5 : w4.setCell ⟨w.heap.size + 2, 16, none⟩ (.slice va l.length vc) = w4.setRow (w.heap.size + 2) #[.int .i64 k, .int .i64 ok, .string of_, .string ot, .int .i64 oa, .string oy, .int .i64 os, .int .i64 oh, .string id, .string nm, .int .i64 n, .int .i64 why, .int .i64 slot, .int .i64 ep, .int .i64 at_, .bool last, .slice va l.length vc] := (setCell_eq_setRow w4 _ 16 _ _ _ (.slice va l.length vc) m4).trans rfl
  have m5 : (w4.setCell ⟨w.heap.size + 2, 16, none⟩ (.slice va l.length vc)).heap[w.heap.size + 2]? = some (.cells #[.int .i64 k, .int .i64 ok, .string of_, .string ot, .int .i64 oa, .string oy, .int .i64 os, .int .i64 oh, .string id, .string nm, .int .i64 n, .int .i64 why, .int .i64 slot, .int .i64 ep, .int .i64 at_, .bool last, .slice va l.length vc] 52 (0, 0)) := by rw [e5]; exact setRow_self m4
  have q52 : (w4.setCell ⟨w.heap.size + 2, 16, none⟩ (.slice va l.length vc)).heap[w.heap.size + 1]? = some (.cells #[.int .i64 0, .int .i64 0, .string ⟨#[]⟩, .string ⟨#[]⟩, .int .i64 0, .string ⟨#[]⟩, .int .i64 0, .int .i64 0, .string ⟨#[]⟩, .string ⟨#[]⟩, .int .i64 0, .int .i64 0, .int .i64 0, .int .i64 0, .int .i64 0, .bool false, .slice none 0 0] 52 (0, 0)) := by rw [e5]; exact (setRow_other _ _ _ _ (by omega)).trans q42
  have bw5 : Below w.heap.size w (w4.setCell ⟨w.heap.size + 2, 16, none⟩ (.slice va l.length vc)) := by rw [e5]; exact below_row bw4 (by omega) _
  have o5 : (w4.setCell ⟨w.heap.size + 2, 16, none⟩ (.slice va l.length vc)).ownsRow w.heap.size 5 1 (.slice va l.length vc) l.length (cellsOf l) := by
    rw [e5]
    exact owns_kept (ownsRow_low hown bw3.size) (fun g e => setRow_other _ _ _ _ (by have := (row_kind hown e).1; omega))
  have oF : ∀ cs, ((w4.setCell ⟨w.heap.size + 2, 16, none⟩ (.slice va l.length vc)).setRow (w.heap.size + 1) cs).ownsRow w.heap.size 5 1 (.slice va l.length vc) l.length (cellsOf l) := fun cs => owns_kept o5 (fun g e => setRow_other _ _ _ _ (by have := (row_kind hown e).1; omega))
  have HOp : Hid _ := hOp
  have N3 : Hid _ := n3
  have E3 : Hid _ := e3
  have HRun : Hid _ := hrun
  have M5 : Hid _ := m5
  have Q52 : Hid _ := q52
  have BW5 : Hid _ := bw5
  have OF : Hid _ := oF
  clear q1 q2 bA hA hs hOp n3 b3 sz e3 m3 q31 q32 bw3 hs3 hrun hown hb4 lt3 m4 q42 bw4 e5 m5 q52 bw5 o5 oF hnil hm
  generalize l.length = ln at *
  go_enter Try.func15, Try.ntmps15
  go_wp2_with (first
    | (refine wpList_load_mid rfl 30 (.tmp 6) rfl w.heap.size 1 rfl [.int .i64 ok, .string of_, .string ot, .int .i64 oa, .string oy, .int .i64 os, .int .i64 oh] _ HOp.out Try.underlying30 rfl (by kernel_rfl) ?_)
    | (refine wpList_buildTo rfl 52 _ rfl (some 24) rfl #[.int .i64 k, .int .i64 ok, .string of_, .string ot, .int .i64 oa, .string oy, .int .i64 os, .int .i64 oh, .string id, .string nm, .int .i64 n, .int .i64 why, .int .i64 slot, .int .i64 ep, .int .i64 at_, .bool last, .slice none 0 0] (by kernel_rfl) ?_)
    | (refine wpList_store_row rfl 52 (.tmp 3) (.tmp 24) rfl (w.heap.size + 2) #[.int .i64 k, .int .i64 ok, .string of_, .string ot, .int .i64 oa, .string oy, .int .i64 os, .int .i64 oh, .string id, .string nm, .int .i64 n, .int .i64 why, .int .i64 slot, .int .i64 ep, .int .i64 at_, .bool last, .slice none 0 0] rfl rfl 52 _ N3.out (by kernel_rfl) rfl (by simp [Value.oneCell']) ?_; rw [← E3.out])
    | (at_builtin; refine wpList_append_known rfl (.tmp 26) (.tmp 28) 26 26 rfl _ _ rfl rfl _ _ HRun.out ?_)
    | (refine wpList_load_row rfl 52 (.tmp 3) rfl (w.heap.size + 2) rfl 52 _ (0, 0) _ M5.out Try.underlying52 rfl (by kernel_rfl) ?_)
    | (refine wpList_store_row rfl 52 (.tmp 2) (.tmp 31) rfl (w.heap.size + 1) #[.int .i64 k, .int .i64 ok, .string of_, .string ot, .int .i64 oa, .string oy, .int .i64 os, .int .i64 oh, .string id, .string nm, .int .i64 n, .int .i64 why, .int .i64 slot, .int .i64 ep, .int .i64 at_, .bool last, .slice va ln vc] rfl rfl 52 _ Q52.out (by kernel_rfl) rfl (by simp [Value.oneCell']) ?_))
  exact bodyPost_ret (results_cell_row rfl _ _ (w.heap.size + 1) 52 _ _ _ rfl (setRow_self Q52.out) Try.underlying52 rfl (by kernel_rfl)) rfl ⟨va, vc, rfl, OF.out _, below_row BW5.out (by omega) _⟩
end Go.Proofs.Ytcmhkeaimgppgaa
