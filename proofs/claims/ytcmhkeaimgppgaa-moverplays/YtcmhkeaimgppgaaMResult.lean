/- The law's result; asks of a mover that is not there. -/
import Derived.Test.YtcmhkeaimgppgaaMGiven
namespace Go.Proofs.Ytcmhkeaimgppgaa
open Go.RowKit Go.Shelf
attribute [local go_sem] Oper.semAt_some
set_option linter.unusedVariables false

set_option maxRecDepth 100000 in
set_option maxHeartbeats 4000000 in
theorem result_any (why : Int) (wait : Bool) (rw ra : Int) (rows : Value) (da : Option Addr) (dc : Nat) (l : List (BitVec 8)) (w : World) (hs : Seen w da l.length l) (hnil : da = none → dc = 0) (hm : l.length ≤ 140737488351232) :
    Calls Try.prog 13 #[.agg #[.int .i64 why, .bool wait, .int .i64 rw, .int .i64 ra, rows, .slice da l.length dc]] w fun e w' => ∃ va vc, e = .returned (.agg #[.int .i64 why, .bool wait, .int .i64 0, .int .i64 0, .slice none 0 0, .slice va l.length vc]) ∧ w'.ownsRow w.heap.size 5 1 (.slice va l.length vc) l.length (cellsOf l) ∧ Below w.heap.size w w' := by
  have bA : Below w.heap.size w ((w.alloc (.cells #[.int .i64 why, .bool wait, .int .i64 rw, .int .i64 ra, rows, .slice da l.length dc] 42)).alloc (.cells #[.int .i64 0, .bool false, .int .i64 0, .int .i64 0, .slice none 0 0, .slice none 0 0] 57)) := ((Below.refl _ w).alloc (Nat.le_refl _) _).alloc (by simp) _
  have q2 := heap_two w (.cells #[.int .i64 why, .bool wait, .int .i64 rw, .int .i64 ra, rows, .slice da l.length dc] 42) (.cells #[.int .i64 0, .bool false, .int .i64 0, .int .i64 0, .slice none 0 0, .slice none 0 0] 57)
  have q1 : ((w.alloc (.cells #[.int .i64 why, .bool wait, .int .i64 rw, .int .i64 ra, rows, .slice da l.length dc] 42)).alloc (.cells #[.int .i64 0, .bool false, .int .i64 0, .int .i64 0, .slice none 0 0, .slice none 0 0] 57)).heap[w.heap.size]? = some (.cells #[.int .i64 why, .bool wait, .int .i64 rw, .int .i64 ra, rows, .slice da l.length dc] 42 (0, 0)) := by rw [Below.heap_alloc _ _ _ (by simp), heap_alloc_new]
  have n3 := heap_alloc_new ((w.alloc (.cells #[.int .i64 why, .bool wait, .int .i64 rw, .int .i64 ra, rows, .slice da l.length dc] 42)).alloc (.cells #[.int .i64 0, .bool false, .int .i64 0, .int .i64 0, .slice none 0 0, .slice none 0 0] 57)) (.cells #[.int .i64 0, .bool false, .int .i64 0, .int .i64 0, .slice none 0 0, .slice none 0 0] 57)
  have b3 : Below w.heap.size w (((w.alloc (.cells #[.int .i64 why, .bool wait, .int .i64 rw, .int .i64 ra, rows, .slice da l.length dc] 42)).alloc (.cells #[.int .i64 0, .bool false, .int .i64 0, .int .i64 0, .slice none 0 0, .slice none 0 0] 57)).alloc (.cells #[.int .i64 0, .bool false, .int .i64 0, .int .i64 0, .slice none 0 0, .slice none 0 0] 57)) := bA.alloc bA.size _
  have sz : ((w.alloc (.cells #[.int .i64 why, .bool wait, .int .i64 rw, .int .i64 ra, rows, .slice da l.length dc] 42)).alloc (.cells #[.int .i64 0, .bool false, .int .i64 0, .int .i64 0, .slice none 0 0, .slice none 0 0] 57)).heap.size = w.heap.size + 2 := by simp
  rw [sz] at n3
  obtain ⟨V3, e3⟩ : ∃ V3, V3 = (((w.alloc (.cells #[.int .i64 why, .bool wait, .int .i64 rw, .int .i64 ra, rows, .slice da l.length dc] 42)).alloc (.cells #[.int .i64 0, .bool false, .int .i64 0, .int .i64 0, .slice none 0 0, .slice none 0 0] 57)).alloc (.cells #[.int .i64 0, .bool false, .int .i64 0, .int .i64 0, .slice none 0 0, .slice none 0 0] 57)).setRow (w.heap.size + 2) #[.int .i64 why, .bool wait, .int .i64 0, .int .i64 0, .slice none 0 0, .slice none 0 0] := ⟨_, rfl⟩
  have m3 : V3.heap[w.heap.size + 2]? = some (.cells #[.int .i64 why, .bool wait, .int .i64 0, .int .i64 0, .slice none 0 0, .slice none 0 0] 57 (0, 0)) := by rw [e3]; exact setRow_self n3
  have q31 : V3.heap[w.heap.size]? = some (.cells #[.int .i64 why, .bool wait, .int .i64 rw, .int .i64 ra, rows, .slice da l.length dc] 42 (0, 0)) := by rw [e3]; exact (setRow_other _ _ _ _ (by omega)).trans ((Below.heap_alloc _ _ _ (Array.getElem?_eq_some_iff.1 q1).1).trans q1)
  have q32 : V3.heap[w.heap.size + 1]? = some (.cells #[.int .i64 0, .bool false, .int .i64 0, .int .i64 0, .slice none 0 0, .slice none 0 0] 57 (0, 0)) := by rw [e3]; exact (setRow_other _ _ _ _ (by omega)).trans ((Below.heap_alloc _ _ _ (Array.getElem?_eq_some_iff.1 q2).1).trans q2)
  have bw3 : Below w.heap.size w V3 := by rw [e3]; exact below_row b3 (by omega) _
  have hs3 := hs.below bw3
  obtain ⟨v4, w4, hrun, hown, hb4⟩ := run_append_nil V3 da l.length dc l hs3 hnil (by omega)
  obtain ⟨va, vc, rfl, _⟩ := row_form hown
  have lt3 : w.heap.size + 2 < V3.heap.size := (Array.getElem?_eq_some_iff.1 m3).1
  have m4 : w4.heap[w.heap.size + 2]? = _ := (hb4.block _ lt3).trans m3
  have q42 : w4.heap[w.heap.size + 1]? = _ := (hb4.block _ (by omega)).trans q32
  have bw4 : Below w.heap.size w w4 := bw3.trans (hb4.mono bw3.size)
  have x3 : V3.cell? ⟨w.heap.size + 2, 5, none⟩ = some (.slice none 0 0) := by simp only [World.cell?, m3]; rfl
  have x1 : V3.cell? ⟨w.heap.size, 5, none⟩ = some (.slice da l.length dc) := by simp only [World.cell?, q31]; rfl
  have z4 : w4.cell? ⟨w.heap.size + 2, 5, none⟩ = some (.slice none 0 0) := by simp only [World.cell?, m4]; rfl
  have z4f : w4.frozen? ⟨w.heap.size + 2, 5, none⟩ = false := by simp only [World.frozen?, m4]; rfl
  have e5 : w4.setCell ⟨w.heap.size + 2, 5, none⟩ (.slice va l.length vc) = w4.setRow (w.heap.size + 2) #[.int .i64 why, .bool wait, .int .i64 0, .int .i64 0, .slice none 0 0, .slice va l.length vc] := (setCell_eq_setRow w4 _ 5 _ _ _ (.slice va l.length vc) m4).trans rfl
  have m5 : (w4.setCell ⟨w.heap.size + 2, 5, none⟩ (.slice va l.length vc)).heap[w.heap.size + 2]? = some (.cells #[.int .i64 why, .bool wait, .int .i64 0, .int .i64 0, .slice none 0 0, .slice va l.length vc] 57 (0, 0)) := by rw [e5]; exact setRow_self m4
  have q52 : (w4.setCell ⟨w.heap.size + 2, 5, none⟩ (.slice va l.length vc)).heap[w.heap.size + 1]? = some (.cells #[.int .i64 0, .bool false, .int .i64 0, .int .i64 0, .slice none 0 0, .slice none 0 0] 57 (0, 0)) := by rw [e5]; exact (setRow_other _ _ _ _ (by omega)).trans q42
  have bw5 : Below w.heap.size w (w4.setCell ⟨w.heap.size + 2, 5, none⟩ (.slice va l.length vc)) := by rw [e5]; exact below_row bw4 (by omega) _
  have o5 : (w4.setCell ⟨w.heap.size + 2, 5, none⟩ (.slice va l.length vc)).ownsRow w.heap.size 5 1 (.slice va l.length vc) l.length (cellsOf l) := by
    rw [e5]
    exact owns_kept (ownsRow_low hown bw3.size) (fun g e => setRow_other _ _ _ _ (by have := (row_kind hown e).1; omega))
  have oF : ∀ cs, ((w4.setCell ⟨w.heap.size + 2, 5, none⟩ (.slice va l.length vc)).setRow (w.heap.size + 1) cs).ownsRow w.heap.size 5 1 (.slice va l.length vc) l.length (cellsOf l) := fun cs => owns_kept o5 (fun g e => setRow_other _ _ _ _ (by have := (row_kind hown e).1; omega))
  have N3 : Hid _ := n3
  have E3 : Hid _ := e3
  have HRun : Hid _ := hrun
  have M5 : Hid _ := m5
  have Q52 : Hid _ := q52
  have BW5 : Hid _ := bw5
  have OF : Hid _ := oF
  clear q1 q2 bA hs n3 b3 sz e3 m3 q31 q32 bw3 hs3 hrun hown hb4 lt3 m4 q42 bw4 e5 m5 q52 bw5 o5 oF hnil hm
  generalize l.length = ln at *
  go_enter Try.func13, Try.ntmps13
  go_wp2_with (first
    | (refine wpList_buildTo rfl 57 _ rfl (some 8) rfl #[.int .i64 why, .bool wait, .int .i64 0, .int .i64 0, .slice none 0 0, .slice none 0 0] (by kernel_rfl) ?_)
    | (refine wpList_store_row rfl 57 (.tmp 3) (.tmp 8) rfl (w.heap.size + 2) #[.int .i64 why, .bool wait, .int .i64 0, .int .i64 0, .slice none 0 0, .slice none 0 0] rfl rfl 57 _ N3.out (by kernel_rfl) rfl (by simp [Value.oneCell']) ?_; rw [← E3.out])
    | (at_builtin; refine wpList_append_known rfl (.tmp 10) (.tmp 12) 26 26 rfl _ _ rfl rfl _ _ HRun.out ?_)
    | (refine wpList_load_row rfl 57 (.tmp 3) rfl (w.heap.size + 2) rfl 57 _ (0, 0) _ M5.out Try.underlying57 rfl (by kernel_rfl) ?_)
    | (refine wpList_store_row rfl 57 (.tmp 2) (.tmp 15) rfl (w.heap.size + 1) #[.int .i64 why, .bool wait, .int .i64 0, .int .i64 0, .slice none 0 0, .slice va ln vc] rfl rfl 57 _ Q52.out (by kernel_rfl) rfl (by simp [Value.oneCell']) ?_))
  exact bodyPost_ret (results_cell_row rfl _ _ (w.heap.size + 1) 57 _ _ _ rfl (setRow_self Q52.out) Try.underlying57 rfl (by kernel_rfl)) rfl ⟨va, vc, rfl, OF.out _, below_row BW5.out (by omega) _⟩
theorem masks_nil (x : MvD) (w : World) : Calls Try.prog 21 #[.pointer none, .agg #[.int .i64 x.slot, .int .i64 x.fr, .int .i64 x.to, .int .i64 x.ep, .int .i64 x.ph, .int .i64 x.n]] w fun e w' => e = .returned (.func (.func 28) #[] #[]) ∧ Below w.heap.size w w' := by
  obtain ⟨sl, fr, to, ep, ph, n⟩ := x
  go_enter Try.func21, Try.ntmps21
  go_wp2
  go_ret
  exact ⟨rfl, (Below.refl _ w).alloc (Nat.le_refl _) _⟩
theorem masks1_seq (n : Nat) (w : World) : SeqV n Try.prog 28 #[] encA AnyK (fun _ _ _ => False) (fun xs => xs = []) (fun _ => True) w := fun L J Jx W hW hJ hJx pJ pJx hY h0 => by
  have H0 : Hid (J [] W) := h0
  clear hY h0
  refine callsIn_of_wp Try.func28 rfl trivial ?_ rfl
  simp only [Try.ntmps28, List.size_toArray, List.length_cons, List.length_nil, Nat.reduceAdd, Nat.reduceSub, Array.replicate_succ, Array.replicate_zero, List.push_toArray, List.append_toArray, List.nil_append, List.cons_append]
  gi_wp2
  go_end0
  exact ⟨⟨_, rfl⟩, .inl ⟨[], rfl, H0.out⟩⟩
set_option maxRecDepth 100000 in
set_option maxHeartbeats 4000000 in
theorem asks_nil (x : MvD) (w : World) : Calls Try.prog 7 #[.pointer none, .agg #[.int .i64 x.slot, .int .i64 x.fr, .int .i64 x.to, .int .i64 x.ep, .int .i64 x.ph, .int .i64 x.n]] w fun e w' => e = .returned (.slice none 0 0) ∧ Below w.heap.size w w' := by
  have bA : Below w.heap.size w ((w.alloc (.cells #[.int .i64 x.slot, .int .i64 x.fr, .int .i64 x.to, .int .i64 x.ep, .int .i64 x.ph, .int .i64 x.n] 47)).alloc (.cells #[.slice none 0 0] 45)) := ((Below.refl _ w).alloc (Nat.le_refl _) _).alloc (by simp) _
  have HF := masks_nil x ((w.alloc (.cells #[.int .i64 x.slot, .int .i64 x.fr, .int .i64 x.to, .int .i64 x.ep, .int .i64 x.ph, .int .i64 x.n] 47)).alloc (.cells #[.slice none 0 0] 45))
  have q2 := heap_two w (.cells #[.int .i64 x.slot, .int .i64 x.fr, .int .i64 x.to, .int .i64 x.ep, .int .i64 x.ph, .int .i64 x.n] 47) (.cells #[.slice none 0 0] 45)
  have HQ : Hid _ := q2
  have HB : Hid _ := bA
  have hsome := seqA_some
  refine (callsIn_wide (n := 5)).1 ?_
  refine callsIn_of_wp_marks Try.func7 rfl trivial ?_ rfl
  simp only [Try.ntmps7, List.size_toArray, List.length_cons, List.length_nil, Nat.reduceAdd, Nat.reduceSub, Array.replicate_succ, Array.replicate_zero, List.push_toArray, List.append_toArray, List.nil_append, List.cons_append]
  clear bA q2
  gi_wp2_with fail
  refine ⟨trivial, (callsIn_wide.2 HF).mono ?_⟩
  rintro e w2 ⟨rfl, b2⟩
  have T1 : Hid (w2.heap[w.heap.size + 1]? = some (.cells #[.slice none 0 0] 45 (0, 0))) := (b2.block _ (Array.getElem?_eq_some_iff.1 HQ.out).1).trans HQ.out
  have B2 : Hid (Below w.heap.size w w2) := HB.out.trans (b2.mono HB.out.size)
  clear HF b2 HQ HB
  gi_wp2_with fail
  clear hsome
  refine range_V (n := 5) (gf := 28) (lb := #[]) (w0 := w2) rfl (enters_of Try.func28 (by kernel_rfl) rfl)
    (masks1_seq (5 - 1) w2) (fun _ _ => trivial) (fun _ _ _ _ _ _ => trivial) (Below.refl _ _) (fun _ => rfl)
    (fun pre X => X.heap[w.heap.size + 1]? = some (.cells #[.slice none 0 0] 45 (0, 0)) ∧ Below w.heap.size w X) (fun _ _ _ => False)
    (fun pre X Z h hb => ⟨(hb.block _ (Array.getElem?_eq_some_iff.1 h.1).1).trans h.1, h.2.trans (hb.mono h.2.size)⟩) (fun _ _ _ _ h _ => h)
    (fun pre X l o o' hl h ho hc => ⟨(World.putObj_heap_other (fun e => by rw [e, ho] at h; cases h.1; simp [Obj.isCells] at hc)).trans h.1, h.2.grown (grownBy_putObj' X l o') h.2.size (fun k e => by cases e; exact Nat.le_trans B2.out.size hl)⟩) (fun _ _ _ _ _ _ _ h _ _ => h) ⟨T1.out, B2.out⟩
    (fun _ _ _ _ => False) (fun _ _ _ _ _ _ _ h _ _ => h) (fun _ _ _ _ _ _ h _ => h.elim) (fun _ _ _ _ _ _ h => h.elim) ?done (fun _ _ _ _ _ _ h _ => h.elim)
  case done =>
    rintro D xs X hD rfl ⟨h1, h2⟩ hK
    have cx : X.cell? ⟨w.heap.size + 1, 0, none⟩ = some (.slice none 0 0) := by simp only [World.cell?, h1]; rfl
    have HK : Hid (X.heap[D]? = some (.deferred (some []))) := hK
    have H2 : Hid (Below w.heap.size w X) := h2
    have HDD : Hid (w2.heap.size ≤ D) := hD
    clear h1 h2 hK hD
    gi_wp2
    refine ⟨by simp, .inl ⟨_, _, rfl, run_takeDeferred HK.out, ?_⟩⟩
    exact ⟨_, results_tmp rfl _ _ _, rfl, H2.out.grown (grownBy_putObj' X D _) H2.out.size (fun k e => by cases e; exact Nat.le_trans B2.out.size HDD.out)⟩
end Go.Proofs.Ytcmhkeaimgppgaa
