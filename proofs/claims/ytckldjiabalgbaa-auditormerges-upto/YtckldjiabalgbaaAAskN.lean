/- The law's asks of an auditor that is not there. -/
import Derived.Test.YtckldjiabalgbaaANil
import Derived.Test.YtckldjiabalgbaaXUp
namespace Go.Proofs.Ytckldjiabalgbaa
open Go.RowKit Go.Shelf
attribute [local go_sem] Oper.semAt_some
set_option linter.unusedVariables false

abbrev encA (x : AskV) : Array Value := #[.agg (AskV.cells x).toArray]
def AnyA (_ _ : World) : Prop := True
theorem seqA_inA (w : World) (d : Nat) (f : Fn) (a b : Array Value) : (Op.equalIn (d + 1) 73 (.func f a b) .nilFunc).run Try.prog w = .ok false w := by
  have hu := run_underlying (w := w) Try.underlying73
  simp [Op.equalIn, hu]
theorem seqA_someA (w : World) (f : Fn) (a b : Array Value) : (binOp .eql 73 (.func f a b) .nilFunc).run Try.prog w = .ok (.bool false) w := by
  simp only [binOp]
  simp [Op.equal, Op.maxDepth, seqA_inA w 9999]
theorem asksA1_seq (n : Nat) (w : World) : SeqV n Try.prog 28 #[] encA AnyA (fun _ _ _ => False) (fun xs => xs = []) (fun _ => True) w := fun L J Jx W hW hJ hJx pJ pJx hY h0 => by
  have H0 : Hid (J [] W) := h0
  clear hY h0
  refine callsIn_of_wp Try.func28 rfl trivial ?_ rfl
  simp only [Try.ntmps28, List.size_toArray, List.length_cons, List.length_nil, Nat.reduceAdd, Nat.reduceSub, Array.replicate_succ, Array.replicate_zero, List.push_toArray, List.append_toArray, List.nil_append, List.cons_append]
  gi_wp2
  go_end0
  exact ⟨⟨_, rfl⟩, .inl ⟨[], rfl, H0.out⟩⟩
set_option maxRecDepth 100000 in
set_option maxHeartbeats 4000000 in
theorem lawAsks_nil (n ph : Int) (w : World) : Calls Try.prog 12 #[.pointer none, .int .i64 n, .int .i64 ph] w fun e w' => e = .returned (.slice none 0 0) ∧ Below w.heap.size w w' := by
  have bA : Below w.heap.size w (w.alloc (.cells #[.slice none 0 0] 57)) := (Below.refl _ w).alloc (Nat.le_refl _) _
  have HF := asksA_nil n ph (w.alloc (.cells #[.slice none 0 0] 57))
  have q2 := heap_alloc_new w (.cells #[.slice none 0 0] 57)
  have HQ : Hid _ := q2
  have HB : Hid _ := bA
  have hsome := seqA_someA
  refine (callsIn_wide (n := 5)).1 ?_
  refine callsIn_of_wp_marks Try.func12 rfl trivial ?_ rfl
  simp only [Try.ntmps12, List.size_toArray, List.length_cons, List.length_nil, Nat.reduceAdd, Nat.reduceSub, Array.replicate_succ, Array.replicate_zero, List.push_toArray, List.append_toArray, List.nil_append, List.cons_append]
  clear bA q2
  gi_wp2_with fail
  refine ⟨trivial, (callsIn_wide.2 HF).mono ?_⟩
  rintro e w2 ⟨rfl, hw2⟩
  have b2 : Below (w.alloc (.cells #[.slice none 0 0] 57)).heap.size (w.alloc (.cells #[.slice none 0 0] 57)) w2 := by rw [hw2]; exact Below.refl _ _
  have T1 : Hid (w2.heap[w.heap.size]? = some (.cells #[.slice none 0 0] 57 (0, 0))) := (b2.block _ (Array.getElem?_eq_some_iff.1 HQ.out).1).trans HQ.out
  have B2 : Hid (Below w.heap.size w w2) := HB.out.trans (b2.mono HB.out.size)
  clear HF b2 HQ HB hw2
  gi_wp2_with fail
  clear hsome
  refine range_V (n := 5) (gf := 28) (lb := #[]) (w0 := w2) rfl (enters_of Try.func28 (by kernel_rfl) rfl)
    (asksA1_seq (5 - 1) w2) (fun _ _ => trivial) (fun _ _ _ _ _ _ => trivial) (Below.refl _ _) (fun _ => rfl)
    (fun pre X => X.heap[w.heap.size]? = some (.cells #[.slice none 0 0] 57 (0, 0)) ∧ Below w.heap.size w X) (fun _ _ _ => False)
    (fun pre X Z h hb => ⟨(hb.block _ (Array.getElem?_eq_some_iff.1 h.1).1).trans h.1, h.2.trans (hb.mono h.2.size)⟩) (fun _ _ _ _ h _ => h)
    (fun pre X l o o' hl h ho hc => ⟨(World.putObj_heap_other (fun e => by rw [e, ho] at h; cases h.1; simp [Obj.isCells] at hc)).trans h.1, h.2.grown (grownBy_putObj' X l o') h.2.size (fun k e => by cases e; exact Nat.le_trans B2.out.size hl)⟩) (fun _ _ _ _ _ _ _ h _ _ => h) ⟨T1.out, B2.out⟩
    (fun _ _ _ _ => False) (fun _ _ _ _ _ _ _ h _ _ => h) (fun _ _ _ _ _ _ h _ => h.elim) (fun _ _ _ _ _ _ h => h.elim) ?done (fun _ _ _ _ _ _ h _ => h.elim)
  case done =>
    rintro D xs X hD rfl ⟨h1, h2⟩ hK
    have cx : X.cell? ⟨w.heap.size, 0, none⟩ = some (.slice none 0 0) := by simp only [World.cell?, h1]; rfl
    have HK : Hid (X.heap[D]? = some (.deferred (some []))) := hK
    have H2 : Hid (Below w.heap.size w X) := h2
    have HDD : Hid (w2.heap.size ≤ D) := hD
    clear h1 h2 hK hD
    gi_wp2
    refine ⟨by simp, .inl ⟨_, _, rfl, run_takeDeferred HK.out, ?_⟩⟩
    exact ⟨_, results_tmp rfl _ _ _, rfl, H2.out.grown (grownBy_putObj' X D _) H2.out.size (fun k e => by cases e; exact Nat.le_trans B2.out.size HDD.out)⟩
end Go.Proofs.Ytckldjiabalgbaa
