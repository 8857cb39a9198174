/- Package journal: its small calls, and those of a journal that is not there. -/
import Derived.Test.YtikpmaecbfebkaaDoorJApp
namespace Go.Proofs.YtikpmaecbfebkaaDoor
open Go.RowKit
set_option linter.unusedVariables false

/-- A cell of a journal is another one. -/
theorem JOnly.set {m : DM} {J i : Nat} {w : World} (v : Value) : JOnly m J w (w.setCell ⟨J, i, none⟩ v) := ⟨rfl, rfl, rfl, by simp, fun k hk _ hne => Below.heap_setCell _ _ _ k (fun e => hne (by simpa using e))⟩
theorem JOnly.of_only {m : DM} {J : Nat} {w w' : World} (h : Only m w w') : JOnly m J w w' := ⟨h.os, h.tape, h.output, h.size, fun k hk ho _ => h.block k hk ho⟩
theorem JOnly.of_below {m : DM} {J : Nat} {w w' : World} (h : Below w.heap.size w w') : JOnly m J w w' := ⟨h.os, h.tape, h.output, h.size, fun k hk _ _ => h.block k hk⟩
theorem JOnly.trans {m m' : DM} {J : Nat} {a b c : World} (h : JOnly m J a b) (n : m.next m' a.heap.size) (k : JOnly m' J b c) : JOnly m J a c :=
  ⟨k.os.trans h.os, k.tape.trans h.tape, k.output.trans h.output, Nat.le_trans h.size k.size, fun i hi ho hne => by
    rw [k.block i (Nat.lt_of_lt_of_le hi h.size) (fun e => (n.own_of e).elim ho (fun x => by omega)) hne, h.block i hi ho hne]⟩
section
variable {w : World} {J D fr sz st nx : Nat} {dead : Bool}
set_option maxRecDepth 100000 in
theorem start_any (h : JAt w J D fr sz st nx dead) : Calls Tryd.prog 24 #[.pointer (some ⟨J, 0, none⟩)] w fun e w' => e = .returned (.int .i64 (st : Int)) ∧ w' = w := by
  have c := h.cells.2.2.2.1
  clear h
  go_enter Tryd.func24, Tryd.ntmps24
  go_wp2
  go_ret
  exact ⟨rfl, rfl⟩
set_option maxRecDepth 100000 in
theorem next_any (h : JAt w J D fr sz st nx dead) : Calls Tryd.prog 25 #[.pointer (some ⟨J, 0, none⟩)] w fun e w' => e = .returned (.int .i64 (nx : Int)) ∧ w' = w := by
  have c := h.cells.2.2.2.2.1
  clear h
  go_enter Tryd.func25, Tryd.ntmps25
  go_wp2
  go_ret
  exact ⟨rfl, rfl⟩
set_option maxRecDepth 100000 in
theorem start_nil : Calls Tryd.prog 24 #[.pointer none] w fun e w' => e = .returned (.int .i64 0) ∧ w' = w := by
  go_enter Tryd.func24, Tryd.ntmps24
  go_wp2
  go_ret
  exact ⟨rfl, rfl⟩
set_option maxRecDepth 100000 in
theorem next_nil : Calls Tryd.prog 25 #[.pointer none] w fun e w' => e = .returned (.int .i64 0) ∧ w' = w := by
  go_enter Tryd.func25, Tryd.ntmps25
  go_wp2
  go_ret
  exact ⟨rfl, rfl⟩
set_option maxRecDepth 100000 in
theorem room_nil : Calls Tryd.prog 26 #[.pointer none] w fun e w' => e = .returned (.int .i64 0) ∧ w' = w := by
  go_enter Tryd.func26, Tryd.ntmps26
  go_wp2
  go_ret
  exact ⟨rfl, rfl⟩
set_option maxRecDepth 100000 in
theorem jdead_nil : Calls Tryd.prog 27 #[.pointer none] w fun e w' => e = .returned (.bool false) ∧ w' = w := by
  go_enter Tryd.func27, Tryd.ntmps27
  go_wp2
  go_ret
  exact ⟨rfl, rfl⟩
set_option maxRecDepth 100000 in
theorem jsync_nil : Calls Tryd.prog 18 #[.pointer none] w fun e w' => e = .returned (.int .i64 2) ∧ w' = w := by
  go_enter Tryd.func18, Tryd.ntmps18
  go_wp2
  go_ret
  exact ⟨rfl, rfl⟩
set_option maxRecDepth 100000 in
theorem trim_nil (s : Int) : Calls Tryd.prog 23 #[.pointer none, .int .i64 s] w fun e w' => e = .returned (.int .i64 2) ∧ w' = w := by
  go_enter Tryd.func23, Tryd.ntmps23
  go_wp2
  go_ret
  exact ⟨rfl, rfl⟩
set_option maxRecDepth 100000 in
theorem append_nil (a : Option Addr) (len cap : Nat) : Calls Tryd.prog 17 #[.pointer none, .slice a len cap] w fun e w' => e = .returned (.int .i64 2) ∧ w' = w := by
  go_enter Tryd.func17, Tryd.ntmps17
  go_wp2
  go_ret
  exact ⟨rfl, rfl⟩
set_option maxRecDepth 100000 in
theorem open_nil (f s : Int) (x : Int) : Calls Tryd.prog 16 #[.pointer none, .int .i64 f, .int .i64 s, .int .i64 x] w fun e w' => e = .returned (.tuple #[.pointer none, .slice none 0 0, .int .i64 2]) ∧ w' = w := by
  go_enter Tryd.func16, Tryd.ntmps16
  go_wp2
  go_ret3
  exact ⟨rfl, rfl⟩
set_option maxRecDepth 100000 in
set_option maxHeartbeats 800000 in
theorem append_full (h : JAt w J D fr sz st nx false) (a : Option Addr) (len cap : Nat) (hz : sz ≤ 4096) (h1 : st ≤ nx) (h2 : nx ≤ 4611686018427387904) (hl : len ≤ 8192) (hf : st + sz < nx + secs len) :
    Calls Tryd.prog 17 #[.pointer (some ⟨J, 0, none⟩), .slice a len cap] w fun e w' => e = .returned (.int .i64 4) ∧ w' = w.drew := by
  have c5 := h.cells.2.2.2.2.2.1
  have HSo := sectorsOf_any len w (by omega)
  have HFr := free_any J D fr sz st nx false w h hz h1 h2
  obtain ⟨K, eK⟩ : ∃ K, secs len = K := ⟨_, rfl⟩
  rw [eK] at HSo hf
  have g1 : ¬ (8192 : Int) < (len : Int) := by omega
  have g2 : ((sz : Int) - ((nx : Int) - (st : Int))) < (K : Int) := by omega
  clear h eK hf h1 h2 hz hl
  go_enter Tryd.func17, Tryd.ntmps17
  go_wp2_with fail
  refine HSo.mono ?_
  rintro e w' ⟨rfl, rfl⟩
  go_wp2_with fail
  refine HFr.mono ?_
  rintro e w0 ⟨rfl, rfl⟩
  go_wp2
  go_ret
  exact ⟨rfl, rfl⟩
set_option maxRecDepth 100000 in
theorem append_size (h : JAt w J D fr sz st nx false) (a : Option Addr) (len cap : Nat) (hl : 8192 < len) :
    Calls Tryd.prog 17 #[.pointer (some ⟨J, 0, none⟩), .slice a len cap] w fun e w' => e = .returned (.int .i64 3) ∧ w' = w := by
  have c5 := h.cells.2.2.2.2.2.1
  have g1 : (8192 : Int) < (len : Int) := by omega
  clear h hl
  go_enter Tryd.func17, Tryd.ntmps17
  go_wp2
  go_ret
  exact ⟨rfl, rfl⟩
set_option maxRecDepth 100000 in
set_option maxHeartbeats 800000 in
theorem trim_ok (h : JAt w J D fr sz st nx dead) (m : DM) (s : Nat) (h1 : st ≤ s) (h2 : s ≤ nx) : Calls Tryd.prog 23 #[.pointer (some ⟨J, 0, none⟩), .int .i64 (s : Int)] w fun e w' => e = .returned (.int .i64 0) ∧ JAt w' J D fr sz s nx dead ∧ ∀ k, k ≠ J → w'.heap[k]? = w.heap[k]? := by
  have c3 := h.cells.2.2.2.1
  have c4 := h.cells.2.2.2.2.1
  have f3 := h.cells.2.2.2.2.2.2 3
  have g1 : ¬ (s : Int) < (st : Int) := by omega
  have g2 : ¬ (nx : Int) < (s : Int) := by omega
  have FIN : Hid (JAt (w.setCell ⟨J, 3, none⟩ (.int .i64 (s : Int))) J D fr sz s nx dead ∧ ∀ k, k ≠ J → (w.setCell ⟨J, 3, none⟩ (.int .i64 (s : Int))).heap[k]? = w.heap[k]?) := by
    refine ⟨?_, fun k hk => Below.heap_setCell _ _ _ k (fun e => hk (by simpa using e))⟩
    unfold JAt at h ⊢
    have := block_put h 3 (.int .i64 (s : Int))
    simpa using this
  clear h h1 h2
  go_enter Tryd.func23, Tryd.ntmps23
  go_wp2
  go_ret
  exact ⟨rfl, FIN.out⟩
end
set_option maxRecDepth 100000 in
set_option maxHeartbeats 1600000 in
theorem jsync_ok (m : DM) (n : Nat) (d : DS) (J fr sz st nx : Nat) (w : World) (hd : Dsk w m n d) (hj : JAt w J m.D fr sz st nx false) (hJ : ¬ m.own J) (hw : whyS d = 0) :
    Calls Tryd.prog 18 #[.pointer (some ⟨J, 0, none⟩)] w fun e w' => ∃ m', e = .returned (.int .i64 0) ∧ m'.D = m.D ∧ Dsk w' m' n (syncD d) ∧ JAt w' J m.D fr sz st nx false ∧ JOnly m J w w' ∧ m.next m' w.heap.size := by
  have c0 := hj.cells.1
  have c5 := hj.cells.2.2.2.2.2.1
  have HS := sync_any m n d w hd
  rw [hw] at HS
  have HJ : Hid (JAt w J m.D fr sz st nx false ∧ ¬ m.own J) := ⟨hj, hJ⟩
  obtain ⟨D, eD⟩ : ∃ D, m.D = D := ⟨_, rfl⟩
  rw [eD] at c0 HS HJ
  rw [eD]
  clear hd hj hJ hw
  go_enter Tryd.func18, Tryd.ntmps18
  go_wp2_with fail
  refine HS.mono ?_
  rintro e w1 ⟨m', rfl, e1, e2, e3, e4⟩
  have jat : JAt w1 J D fr sz st nx false := by
    have q := HJ.out.1
    have lt := q.lt
    unfold JAt at q ⊢
    rw [e3.block J lt HJ.out.2]
    exact q
  have b5 := jat.cells.2.2.2.2.2.1
  have f5 := jat.cells.2.2.2.2.2.2 5
  have nJ : ¬ m'.own J := fun e => (e4.own_of e).elim HJ.out.2 (fun x => by have := HJ.out.1.lt; omega)
  have FIN : Hid (m'.D = D ∧ Dsk (w1.setCell ⟨J, 5, none⟩ (.bool false)) m' n (syncD d) ∧ JAt (w1.setCell ⟨J, 5, none⟩ (.bool false)) J D fr sz st nx false ∧ JOnly m J w (w1.setCell ⟨J, 5, none⟩ (.bool false)) ∧ m.next m' w.heap.size) := by
    refine ⟨e1, e2.same (fun k hk => Below.heap_setCell _ _ _ k (fun e => nJ ((show k = J by simpa using e) ▸ hk))), ?_, JOnly.trans (JOnly.of_only e3) e4 (JOnly.set _), e4⟩
    unfold JAt at jat ⊢
    have := block_put jat 5 (.bool false)
    simpa using this
  clear HS e1 e2 e3 e4 jat nJ c0 c5
  go_wp2
  go_ret
  first | exact ⟨m', rfl, FIN.out⟩ | exact ⟨rfl, m', FIN.out⟩
end Go.Proofs.YtikpmaecbfebkaaDoor
