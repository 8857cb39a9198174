/- What a disk's small calls do. -/
import Derived.Test.YtikpmaecbfebkaaDoorDMem
namespace Go.Proofs.YtikpmaecbfebkaaDoor
open Go.RowKit
set_option linter.unusedVariables false

theorem size_any (m : DM) (n : Nat) (s : DS) (w : World) (h : Dsk w m n s) : Calls Tryd.prog 46 #[.pointer (some ⟨m.D, 0, none⟩)] w fun e w' => e = .returned (.int .i64 n) ∧ w' = w := by
  obtain ⟨c0, _, _, _, _, _, _⟩ := h.cells
  have hw : wrap64 (n : Int) = n := by have := h.ok.n2; unfold wrap64; omega
  have hq : Int.tdiv (256 * (n : Int)) 256 = n := by rw [Int.mul_comm]; exact Int.mul_tdiv_cancel _ (by decide)
  clear h
  go_enter Tryd.func46, Tryd.ntmps46
  go_wp2
  go_ret
  refine ⟨?_, rfl⟩
  show Ending.returned (.int .i64 (wrap64 (n : Int))) = _
  rw [hw]
theorem size_nil (w : World) : Calls Tryd.prog 46 #[.pointer none] w fun e w' => e = .returned (.int .i64 0) ∧ w' = w := by
  go_enter Tryd.func46, Tryd.ntmps46
  go_wp2
  go_ret
  exact ⟨rfl, rfl⟩
theorem unsynced_any (m : DM) (n : Nat) (s : DS) (w : World) (h : Dsk w m n s) : Calls Tryd.prog 37 #[.pointer (some ⟨m.D, 0, none⟩)] w fun e w' => e = .returned (.int .i64 (s.ws.length : Nat)) ∧ w' = w := by
  obtain ⟨_, _, c2, _, _, _, _⟩ := h.cells
  obtain ⟨a, c, hw, _⟩ := h.wform
  rw [hw] at c2
  clear h
  go_enter Tryd.func37, Tryd.ntmps37
  go_wp2
  go_ret
  exact ⟨rfl, rfl⟩
theorem unsynced_nil (w : World) : Calls Tryd.prog 37 #[.pointer none] w fun e w' => e = .returned (.int .i64 0) ∧ w' = w := by
  go_enter Tryd.func37, Tryd.ntmps37
  go_wp2
  go_ret
  exact ⟨rfl, rfl⟩
/-- One cell of a disk's own is written. -/
theorem Dsk.put {w : World} {m : DM} {n : Nat} {s : DS} (h : Dsk w m n s) (i : Nat) (v : Value) (cs : Array Value) (s' : DS) (e : #[Value.slice (some ⟨m.gi, 0, none⟩) (256 * n) m.ci, .slice (some ⟨m.gn, 0, none⟩) (256 * n) m.cn, m.wv, .bool s.fa, .bool s.de, .bool s.fu].setIfInBounds i v = cs)
    (e' : cs = #[.slice (some ⟨m.gi, 0, none⟩) (256 * n) m.ci, .slice (some ⟨m.gn, 0, none⟩) (256 * n) m.cn, m.wv, .bool s'.fa, .bool s'.de, .bool s'.fu]) (hi : s'.img = s.img) (hn : s'.now = s.now) (hw : s'.ws = s.ws) : Dsk (w.setCell ⟨m.D, i, none⟩ v) m n s' ∧ Only m w (w.setCell ⟨m.D, i, none⟩ v) := by
  have hf : ∀ g, g ≠ m.D → (w.setCell ⟨m.D, i, none⟩ v).heap[g]? = w.heap[g]? := fun g hg => Below.heap_setCell _ _ _ g (fun e => hg (by simpa using e))
  have hne : ∀ {t : TypeId} {x : Value} {k sz : Nat} {xs : List Value}, w.ownsRow 0 t sz x k xs → t ≠ 69 → ∀ g, x.ownBlock = some g → (w.setCell ⟨m.D, i, none⟩ v).heap[g]? = w.heap[g]? := fun ho ht g hg => hf g (fun eg => by
    rcases ho.2 with ⟨rfl, _⟩ | ⟨g', c, cur, rfl, _, hgg, _⟩
    · cases hg
    · obtain rfl : g' = g := by simpa [Value.ownBlock] using hg
      rw [eg, h.hd] at hgg
      cases hgg
      exact ht rfl)
  refine ⟨⟨⟨h.ok.n1, h.ok.n2, by rw [hi]; exact h.ok.li, by rw [hn]; exact h.ok.ln, by rw [hw]; exact h.ok.lw, by rw [hw]; exact h.ok.lk⟩, ?_, ?_, ?_, ?_, h.ne⟩, ⟨rfl, rfl, rfl, by simp, fun k hk ho => hf k (fun e => ho (.inl e))⟩⟩
  · have hd := h.hd
    rw [← e', ← e]
    exact block_put hd i v
  · rw [hi]; exact owns_same h.hi (hne h.hi (by decide))
  · rw [hn]; exact owns_same h.hn (hne h.hn (by decide))
  · rw [hw]; exact owns_same h.hw (hne h.hw (by decide))
theorem fail_any (m : DM) (n : Nat) (s : DS) (w : World) (h : Dsk w m n s) : Calls Tryd.prog 19 #[.pointer (some ⟨m.D, 0, none⟩)] w fun e w' => e = .returned (.int .i64 0) ∧ Dsk w' m n { s with fa := true } ∧ Only m w w' := by
  obtain ⟨_, _, _, c3, _, _, f⟩ := h.cells
  have f3 := f 3
  have H : Hid (Dsk w m n s) := h
  clear h
  go_enter Tryd.func19, Tryd.ntmps19
  go_wp2
  go_ret
  exact ⟨rfl, H.out.put 3 (.bool true) _ { s with fa := true } rfl rfl rfl rfl rfl⟩
theorem fail_nil (w : World) : Calls Tryd.prog 19 #[.pointer none] w fun e w' => e = .returned (.int .i64 2) ∧ w' = w := by
  go_enter Tryd.func19, Tryd.ntmps19
  go_wp2
  go_ret
  exact ⟨rfl, rfl⟩
theorem full_any (m : DM) (n : Nat) (s : DS) (b : Bool) (w : World) (h : Dsk w m n s) : Calls Tryd.prog 43 #[.pointer (some ⟨m.D, 0, none⟩), .bool b] w fun e w' => e = .returned (.int .i64 0) ∧ Dsk w' m n { s with fu := b } ∧ Only m w w' := by
  obtain ⟨_, _, _, _, _, c5, f⟩ := h.cells
  have f5 := f 5
  have H : Hid (Dsk w m n s) := h
  clear h
  go_enter Tryd.func43, Tryd.ntmps43
  go_wp2
  go_ret
  exact ⟨rfl, H.out.put 5 (.bool b) _ { s with fu := b } rfl rfl rfl rfl rfl⟩
theorem full_nil (b : Bool) (w : World) : Calls Tryd.prog 43 #[.pointer none, .bool b] w fun e w' => e = .returned (.int .i64 2) ∧ w' = w := by
  go_enter Tryd.func43, Tryd.ntmps43
  go_wp2
  go_ret
  exact ⟨rfl, rfl⟩
theorem has_any (m : DM) (n : Nat) (s : DS) (i : Int) (w : World) (h : Dsk w m n s) : Calls Tryd.prog 72 #[.pointer (some ⟨m.D, 0, none⟩), .int .i64 i] w fun e w' => e = .returned (.bool (decide (0 ≤ i ∧ i < n))) ∧ w' = w := by
  have HS := size_any m n s w h
  clear h
  by_cases h0 : 0 ≤ i
  · have e : decide (0 ≤ i ∧ i < (n : Int)) = decide (i < (n : Int)) := by simp [h0]
    rw [e]
    clear e
    go_enter Tryd.func72, Tryd.ntmps72
    go_wp2_with fail
    refine HS.mono ?_
    rintro e w' ⟨rfl, rfl⟩
    go_wp2
    go_ret
    exact ⟨rfl, rfl⟩
  · have e : decide (0 ≤ i ∧ i < (n : Int)) = false := by simp [h0]
    rw [e]
    clear e
    have h1 : i < 0 := by omega
    go_enter Tryd.func72, Tryd.ntmps72
    go_wp2
    go_ret
    exact ⟨rfl, rfl⟩
theorem allowed_any (i : Int) (w : World) : Calls Tryd.prog 30 #[.int .i64 i] w fun e w' => e = .returned (.bool (decide (1 ≤ i ∧ i ≤ 4096))) ∧ w' = w := by
  by_cases h0 : 1 ≤ i
  · have e : decide (1 ≤ i ∧ i ≤ 4096) = decide (i ≤ 4096) := by simp [h0]
    rw [e]
    clear e
    go_enter Tryd.func30, Tryd.ntmps30
    go_wp2
    go_ret
    exact ⟨rfl, rfl⟩
  · have e : decide (1 ≤ i ∧ i ≤ 4096) = false := by simp [h0]
    rw [e]
    clear e
    have h1 : i < 1 := by omega
    go_enter Tryd.func30, Tryd.ntmps30
    go_wp2
    go_ret
    exact ⟨rfl, rfl⟩
theorem sector_any (g L c k : Nat) (w : World) (hk : 256 * (k + 1) ≤ L) (hL : L ≤ c) (hs : L ≤ 1048576) :
    Calls Tryd.prog 57 #[.slice (some ⟨g, 0, none⟩) L c, .int .i64 k] w fun e w' => e = .returned (.slice (some ⟨g, 256 * k, none⟩) 256 256) ∧ w' = w := by
  have w1 : IntKind.i64.wrap ((k : Int) * 256) = ((256 * k : Nat) : Int) := by rw [IntKind.wrap_i64]; omega
  have w2 : IntKind.i64.wrap ((k : Int) + 1) = ((k + 1 : Nat) : Int) := by rw [IntKind.wrap_i64]; omega
  have w3 : IntKind.i64.wrap (((k + 1 : Nat) : Int) * 256) = ((256 * (k + 1) : Nat) : Int) := by rw [IntKind.wrap_i64]; omega
  go_enter Tryd.func57, Tryd.ntmps57
  go_wp2
  go_ret
  have e : (k + 1) * 256 - 256 * k = 256 := by omega
  refine ⟨?_, rfl⟩
  show Ending.returned (.slice (some ⟨g, 256 * k, none⟩) ((k + 1) * 256 - 256 * k) ((k + 1) * 256 - 256 * k)) = _
  rw [e]
end Go.Proofs.YtikpmaecbfebkaaDoor
