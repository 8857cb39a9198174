/- What Sync does. -/
import Derived.Test.YtikpmaecbfebkaaDoorDReach
namespace Go.Proofs.YtikpmaecbfebkaaDoor
open Go.RowKit
set_option linter.unusedVariables false

theorem less_by {L k : Nat} (hk : k < L) : L - (intOf (Value.int .i64 ((k + 1 : Nat) : Int))).toNat < L - (intOf (Value.int .i64 (k : Int))).toNat := by
  have e1 : intOf (Value.int .i64 ((k + 1 : Nat) : Int)) = ((k + 1 : Nat) : Int) := rfl
  have e2 : intOf (Value.int .i64 (k : Int)) = (k : Int) := rfl
  rw [e1, e2, Int.toNat_natCast, Int.toNat_natCast]
  exact Nat.sub_lt_sub_left hk (Nat.lt_succ_self k)
theorem exec_min {ρ : Operand → Value} {o : Oper} {x y : Operand} {a b c : Int} {w : World} (ho : o.op = .call { callee := .builtin .min, args := #[x, y], argTypes := #[3, 3] }) (hx : ρ x = .int .i64 a) (hy : ρ y = .int .i64 b) (hc : min a b = c) : (execOp ρ o).run Tryd.prog w = .ok (.value (.int .i64 c)) w := by
  subst hc
  unfold execOp
  simp only [ho, resolve, invoke, builtin, Sem.run_bind, Sem.run_pure, Result.andThen_ok, List.map_toArray, List.map_cons, List.map_nil, hx, hy]
  go_simp
  split <;> omega
theorem exec_max {ρ : Operand → Value} {o : Oper} {x y : Operand} {a b c : Int} {w : World} (ho : o.op = .call { callee := .builtin .max, args := #[x, y], argTypes := #[3, 3] }) (hx : ρ x = .int .i64 a) (hy : ρ y = .int .i64 b) (hc : max a b = c) : (execOp ρ o).run Tryd.prog w = .ok (.value (.int .i64 c)) w := by
  subst hc
  unfold execOp
  simp only [ho, resolve, invoke, builtin, Sem.run_bind, Sem.run_pure, Result.andThen_ok, List.map_toArray, List.map_cons, List.map_nil, hx, hy]
  go_simp
  split <;> omega
theorem reachAll_take {ws : List (Nat × List (BitVec 8))} {k : Nat} (hk : k < ws.length) (hl : ws[k].2.length = 256) (l : List (BitVec 8)) : reachAll l (ws.take (k + 1)) = patch (reachAll l (ws.take k)) ws[k].1 (ws[k].2.take 256) := by
  unfold reachAll
  rw [List.take_add_one, List.foldl_append, List.take_of_length_le (l := ws[k].2) (by omega)]
  simp [hk]
theorem sync_nil (w : World) : Calls Tryd.prog 55 #[.pointer none] w fun e w' => e = .returned (.int .i64 2) ∧ w' = w := by
  go_enter Tryd.func55, Tryd.ntmps55
  go_wp2
  go_ret
  exact ⟨rfl, rfl⟩
/-- The waiting writes are let go. -/
theorem Dsk.calm {w : World} {m : DM} {n : Nat} {s : DS} (h : Dsk w m n s) : Dsk (w.setCell ⟨m.D, 2, none⟩ (.slice none 0 0)) { m with wv := .slice none 0 0 } n { s with ws := [] } ∧ Only m w (w.setCell ⟨m.D, 2, none⟩ (.slice none 0 0)) ∧ m.next { m with wv := .slice none 0 0 } w.heap.size := by
  have far : ∀ k, k ≠ m.D → (w.setCell ⟨m.D, 2, none⟩ (.slice none 0 0)).heap[k]? = w.heap[k]? := fun k hk => Below.heap_setCell _ _ _ k (fun e => hk (by simpa using e))
  have iD : m.gi ≠ m.D := fun e => by
    rcases h.hi.2 with ⟨e2, _⟩ | ⟨g3, c3, cur3, e2, _, hg3, _⟩
    · cases e2
    · cases e2; rw [e, h.hd] at hg3; cases hg3
  have nD : m.gn ≠ m.D := fun e => by
    rcases h.hn.2 with ⟨e2, _⟩ | ⟨g3, c3, cur3, e2, _, hg3, _⟩
    · cases e2
    · cases e2; rw [e, h.hd] at hg3; cases hg3
  refine ⟨⟨⟨h.ok.n1, h.ok.n2, h.ok.li, h.ok.ln, (fun x hx => by cases hx), by show ([] : List (Nat × List (BitVec 8))).length ≤ _; simp⟩, ?_, ?_, ?_, World.ownsRow_nil _ _ _ _, h.ne⟩, ⟨rfl, rfl, rfl, by simp, fun k _ ho => far k (fun e => ho (.inl e))⟩, ⟨rfl, rfl, rfl, fun k e => by cases e⟩⟩
  · have := block_put h.hd 2 (.slice none 0 0)
    simpa using this
  · refine owns_same h.hi (fun k e => ?_)
    obtain rfl : m.gi = k := by simpa [Value.ownBlock] using e
    exact far _ iD
  · refine owns_same h.hn (fun k e => ?_)
    obtain rfl : m.gn = k := by simpa [Value.ownBlock] using e
    exact far _ nD
set_option maxHeartbeats 1600000 in
theorem sync_any (m : DM) (n : Nat) (s : DS) (w : World) (h : Dsk w m n s) : Calls Tryd.prog 55 #[.pointer (some ⟨m.D, 0, none⟩)] w fun e w' => ∃ m', e = .returned (.int .i64 (whyS s : Nat)) ∧ m'.D = m.D ∧ Dsk w' m' n (syncD s) ∧ Only m w w' ∧ m.next m' w.heap.size := by
  obtain ⟨_, _, c2, c3, c4, _, f⟩ := h.cells
  have f4 := f 4
  clear f
  cases hd : s.de with
  | true =>
    rw [hd] at c4
    have e1 : whyS s = 21 := by simp [whyS, hd]
    have e2 : syncD s = s := by simp [syncD, hd]
    rw [e1, e2]
    have H : Hid (Dsk w m n s) := h
    clear h hd e1 e2
    go_enter Tryd.func55, Tryd.ntmps55
    go_wp2
    go_ret
    exact ⟨m, rfl, rfl, H.out, Only.refl m _, DM.next.refl m _⟩
  | false =>
    rw [hd] at c4
    cases hf : s.fa with
    | true =>
      rw [hf] at c3
      have e1 : whyS s = 20 := by simp [whyS, hd, hf]
      have e2 : syncD s = { s with de := true } := by simp [syncD, hd, hf]
      rw [e1, e2]
      have H : Hid (Dsk w m n s) := h
      clear h e1 e2
      go_enter Tryd.func55, Tryd.ntmps55
      go_wp2
      go_ret
      obtain ⟨d1, d2⟩ := H.out.put 4 (.bool true) _ { s with de := true } rfl rfl rfl rfl rfl
      exact ⟨m, rfl, rfl, d1, d2, DM.next.refl m _⟩
    | false =>
      rw [hf] at c3
      have e1 : whyS s = 0 := by simp [whyS, hd, hf]
      have e2 : syncD s = { s with img := reachAll s.img s.ws, ws := [] } := by simp [syncD, hd, hf]
      rw [e1, e2]
      obtain ⟨aw, cw, hwv, _⟩ := h.wform
      rw [hwv] at c2
      have H : Hid (Dsk w m n s) := h
      clear h e1 e2 hd hf
      go_enter Tryd.func55, Tryd.ntmps55
      go_wp2_with fail
      go_loopw [25] (fun i wr => ∃ k : Nat, i = .int .i64 k ∧ Hid (k ≤ s.ws.length) ∧ Hid (Dsk wr m n { s with img := reachAll s.img (s.ws.take k) } ∧ Only m w wr))
        (fun i _ => s.ws.length - (intOf i).toNat)
      case atStart => exact ⟨0, rfl, Nat.zero_le _, H.out, Only.refl m w⟩
      case round =>
        obtain ⟨k, rfl, hk, hD⟩ := hrel
        by_cases hlt : k < s.ws.length
        · have HR := reach_any m n _ k 256 wr hD.out.1 hlt (Nat.le_refl _)
          rw [show ((256 : Nat) : Int) = (256 : Int) from rfl] at HR
          have hl := (H.out.ok.lw _ (List.getElem_mem hlt)).2
          have er := reachAll_take hlt hl s.img
          have h1 : (k : Int) < (s.ws.length : Int) := by omega
          have HLT : Hid (k < s.ws.length) := hlt
          have WK : Hid (wrap64 ((k : Int) + 1) = ((k + 1 : Nat) : Int)) := by show wrap64 ((k : Int) + 1) = ((k + 1 : Nat) : Int); have := H.out.ok.lk; unfold wrap64; omega
          have HE : Hid _ := er
          clear hl er
          go_wp2_with fail
          refine HR.mono ?_
          rintro e w1 ⟨⟨v, rfl⟩, d1, o1⟩
          have D1 : Hid (Dsk w1 m n { s with img := reachAll s.img (s.ws.take (k + 1)) } ∧ Only m w w1) := ⟨by rw [HE.out]; exact d1, hD.out.2.trans (DM.next.refl m _) o1⟩
          clear d1 o1
          go_wp2
          rw [WK.out]
          go_roundw
          case rel => exact ⟨k + 1, rfl, HLT.out, D1.out⟩
          case measure => exact less_by HLT.out
        · have hkk : k = s.ws.length := by have := hk.out; omega
          have h1 : ¬ (k : Int) < (s.ws.length : Int) := by omega
          have e3 : s.ws.take k = s.ws := by rw [hkk, List.take_length]
          rw [e3] at hD
          obtain ⟨_, _, c2', _, _, _, f'⟩ := hD.out.1.cells
          rw [hwv] at c2'
          have f2' := f' 2
          have HKK : Hid (k = s.ws.length) := hkk
          clear f' hkk hlt e3
          go_wp2
          go_ret
          obtain ⟨d1, d2, d3⟩ := hD.out.1.calm
          exact ⟨rfl, { m with wv := .slice none 0 0 }, rfl, d1, hD.out.2.trans (DM.next.refl m _) d2, ⟨rfl, rfl, rfl, fun k e => by cases e⟩⟩
end Go.Proofs.YtikpmaecbfebkaaDoor
