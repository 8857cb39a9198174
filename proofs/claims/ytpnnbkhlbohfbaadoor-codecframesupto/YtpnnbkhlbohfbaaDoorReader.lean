/- What a Reader is in memory, and what its calls do. -/
import Derived.Test.YtpnnbkhlbohfbaaDoorNumber
namespace Go.Proofs.YtpnnbkhlbohfbaaDoor
open Go.RowKit Cod
set_option linter.unusedVariables false

/-- A Reader of the bytes l, at a place, with an error or none. -/
def Rdr (w : World) (R : Nat) (l : List (BitVec 8)) (at_ why : Nat) : Prop :=
  ∃ a cap, w.heap[R]? = some (.cells #[.slice a l.length cap, .int .i64 at_, .int .i64 why] 51 (0, 0)) ∧ Seen w a l.length l ∧ (a = none → cap = 0) ∧ l.length ≤ cap ∧ (l ≠ [] → ∀ x, a = some x → x.block < R) ∧ at_ ≤ l.length ∧ l.length ≤ 140737488355328

theorem Seen.grown {w w' : World} {a : Option Addr} {len R : Nat} {l : List (BitVec 8)} (h : Seen w a len l) (hg : w.grownBy w' (some R)) (hne : l ≠ [] → ∀ x, a = some x → x.block < R) : Seen w' a len l := by
  obtain ⟨h1, h2, h3⟩ := h
  refine ⟨h1, h2, ?_⟩
  rcases h3 with h3 | ⟨b, off, ha, hc⟩
  · exact .inl h3
  · refine .inr ⟨b, off, ha, fun j hj => ?_⟩
    have hcj := hc j hj
    exact hg.cell hcj (fun e => Nat.ne_of_lt (hne (fun e => by subst e; simp at hj) _ ha) (by simpa using Option.some.inj e))
theorem Seen.lt {w : World} {a : Option Addr} {len : Nat} {l : List (BitVec 8)} (h : Seen w a len l) (hl : l ≠ []) (x : Addr) (hx : a = some x) : x.block < w.heap.size := by
  obtain ⟨h1, h2, h3⟩ := h
  have hp := List.length_pos_iff.2 hl
  rcases h3 with h3 | ⟨b, off, ha, hc⟩
  · omega
  · rw [ha] at hx
    cases hx
    exact World.block_lt_of_cell? w _ (hc 0 hp)
theorem rdr_new (w : World) (a : Option Addr) (cap : Nat) (l : List (BitVec 8)) (h : Seen w a l.length l) (hnil : a = none → cap = 0) (hk : l.length ≤ cap) (hm : l.length ≤ 140737488355328) :
    Rdr (w.alloc (.cells #[.slice a l.length cap, .int .i64 0, .int .i64 0] 51)) w.heap.size l 0 0 :=
  ⟨a, cap, heap_alloc_new w _, h.below ((Below.refl _ w).alloc (Nat.le_refl _) _), hnil, hk, fun hl x hx => by have := h.lt hl x hx; omega, Nat.zero_le _, hm⟩
theorem Rdr.cells {w : World} {R : Nat} {l : List (BitVec 8)} {at_ why : Nat} (h : Rdr w R l at_ why) :
    ∃ a cap, w.cell? ⟨R, 0, none⟩ = some (.slice a l.length cap) ∧ w.cell? ⟨R, 1, none⟩ = some (.int .i64 at_) ∧ w.cell? ⟨R, 2, none⟩ = some (.int .i64 why) ∧ w.frozen? ⟨R, 1, none⟩ = false ∧ w.frozen? ⟨R, 2, none⟩ = false := by
  obtain ⟨a, cap, h, _⟩ := h
  exact ⟨a, cap, by simp [World.cell?, h], by simp [World.cell?, h], by simp [World.cell?, h], by simp [World.frozen?, h], by simp [World.frozen?, h]⟩

theorem newReader_any (a : Option Addr) (len cap : Nat) (l : List (BitVec 8)) (w : World) (h : Seen w a len l) (hnil : a = none → cap = 0) (hm : len ≤ 140737488355328) :
    Calls Tryd.prog 36 #[.slice a len cap] w fun e w' => ∃ R, e = .returned (.pointer (some ⟨R, 0, none⟩)) ∧ w.heap.size ≤ R ∧ Rdr w' R l 0 0 ∧ Below w.heap.size w w' := by
  have HC := clone_any a len cap l w h hnil hm
  have HM : Hid _ := hm
  have HL : Hid _ := h.1
  clear h hnil hm
  go_enter Tryd.func36, Tryd.ntmps36
  go_wp2_with fail
  refine HC.mono ?_
  rintro e w1 ⟨v1, rfl, o1, b1⟩
  obtain ⟨a1, c1, rfl, s1, n1, k1⟩ := owned_seen o1 (by have := HM.out; unfold maxLen; omega)
  obtain rfl : len = l.length := HL.out
  go_wp2
  go_ret
  exact ⟨_, rfl, b1.size, rdr_new w1 a1 c1 l s1 n1 k1 HM.out, b1.alloc b1.size _⟩

/-- What a Reader is asked first: whether it has met an error. -/
theorem reads_any (R : Nat) (l : List (BitVec 8)) (at_ why : Nat) (w : World) (h : Rdr w R l at_ why) :
    Calls Tryd.prog 51 #[.pointer (some ⟨R, 0, none⟩)] w fun e w' => e = .returned (.bool ((why : Int) == 0)) ∧ w' = w := by
  obtain ⟨a, cap, c0, c1, c2, f1, f2⟩ := h.cells
  clear h
  go_enter Tryd.func51, Tryd.ntmps51
  go_wp2
  go_ret
  exact ⟨rfl, rfl⟩

/-- Reading a number. -/
def rU (l : List (BitVec 8)) (at_ why : Nat) : Nat × Nat × Nat := if why = 0 then ((num 0 0 (l.drop at_)).1, at_ + (num 0 0 (l.drop at_)).2.1, (num 0 0 (l.drop at_)).2.2) else (0, at_, why)
theorem rU_at (l : List (BitVec 8)) (at_ why : Nat) (h : at_ ≤ l.length) : (rU l at_ why).2.1 ≤ l.length := by
  unfold rU
  split
  · have := num_width (l.drop at_) 0 0
    simp at this ⊢
    omega
  · exact h
theorem Rdr.le {w : World} {R : Nat} {l : List (BitVec 8)} {at_ why : Nat} (h : Rdr w R l at_ why) : at_ ≤ l.length ∧ l.length ≤ 140737488355328 := by
  obtain ⟨a, cap, h⟩ := h
  exact ⟨h.2.2.2.2.2.1, h.2.2.2.2.2.2⟩
theorem grown_set (w : World) (a : Addr) (u : Value) : w.grownBy (w.setCell a u) (some a.block) :=
  ⟨rfl, rfl, rfl, by simp [World.setCell], fun k _ hk => Below.heap_setCell _ _ _ k (fun e => hk (by rw [e]))⟩
theorem set_block {w : World} {R : Nat} {cs : Array Value} {t : TypeId} {fr : Nat × Nat} (h : w.heap[R]? = some (.cells cs t fr)) (i : Nat) (v : Value) : (w.setCell ⟨R, i, none⟩ v).heap[R]? = some (.cells (cs.setIfInBounds i v) t fr) := by
  obtain ⟨hlt, hk⟩ := Array.getElem?_eq_some_iff.1 h
  show (w.heap.modify R _)[R]? = _
  rw [Array.getElem?_eq_getElem (by rw [Array.size_modify]; exact hlt), Array.getElem_modify_self, hk]
  rfl
/-- A Reader's place and error are written. -/
theorem Rdr.put {w : World} {R : Nat} {l : List (BitVec 8)} {at_ why : Nat} (h : Rdr w R l at_ why) (at' why' : Nat) (hat : at' ≤ l.length) :
    Rdr ((w.setCell ⟨R, 1, none⟩ (.int .i64 at')).setCell ⟨R, 2, none⟩ (.int .i64 why')) R l at' why' ∧ w.grownBy ((w.setCell ⟨R, 1, none⟩ (.int .i64 at')).setCell ⟨R, 2, none⟩ (.int .i64 why')) (some R) := by
  obtain ⟨a, cap, hh, hs, hn, hk, hne, hat0, hm⟩ := h
  have hg : w.grownBy ((w.setCell ⟨R, 1, none⟩ (.int .i64 at')).setCell ⟨R, 2, none⟩ (.int .i64 why')) (some R) := (grown_set w ⟨R, 1, none⟩ _).trans (grown_set _ ⟨R, 2, none⟩ _)
  refine ⟨⟨a, cap, ?_, hs.grown hg hne, hn, hk, hne, hat, hm⟩, hg⟩
  have h1 := set_block hh 1 (.int .i64 at')
  have h2 := set_block h1 2 (.int .i64 why')
  exact h2
theorem Seen.drop {w : World} {x : Addr} {len : Nat} {l : List (BitVec 8)} (h : Seen w (some x) len l) (k cap : Nat) (hk : k ≤ len) (hc : len ≤ cap) : Seen w (if cap = k then some x else some (x.add k)) (len - k) (l.drop k) := by
  obtain ⟨h1, h2, h3⟩ := h
  refine ⟨by simp; omega, by simp; omega, ?_⟩
  by_cases hl : len - k = 0
  · exact .inl hl
  · rw [if_neg (by omega)]
    rcases h3 with h3 | ⟨b, off, ha, hcc⟩
    · omega
    · cases ha
      refine .inr ⟨b, off + k, by rw [Addr.add_lit], fun j hj => ?_⟩
      simp at hj
      rw [Nat.add_assoc, hcc (k + j) (by omega)]
      simp
theorem Rdr.put_drew {w : World} {R : Nat} {l : List (BitVec 8)} {at_ why : Nat} (h : Rdr w R l at_ why) (n at' why' : Nat) (hat : at' ≤ l.length) :
    Rdr (((w.drewN n).setCell ⟨R, 1, none⟩ (.int .i64 at')).setCell ⟨R, 2, none⟩ (.int .i64 why')) R l at' why' ∧ w.grownBy (((w.drewN n).setCell ⟨R, 1, none⟩ (.int .i64 at')).setCell ⟨R, 2, none⟩ (.int .i64 why')) (some R) := by
  obtain ⟨h1, h2⟩ := Rdr.put (w := w.drewN n) h at' why' hat
  exact ⟨h1, ⟨h2.os, h2.tape, h2.output, h2.size, h2.block⟩⟩
theorem cell_set_far (w : World) (p q : Addr) (v : Value) (h : p ≠ q) : (w.setCell p v).cell? q = w.cell? q := by
  exact World.cell?_setCell_other _ _ _ _ h
theorem frozen_set (w : World) (p q : Addr) (v : Value) : (w.setCell p v).frozen? q = w.frozen? q := by
  simp
theorem number_is (a : Option Addr) (len cap : Nat) (l : List (BitVec 8)) (n wd y : Nat) (w : World) (h : Seen w a len l) (ht : num 0 0 l = (n, wd, y)) :
    Calls Tryd.prog 56 #[.slice a len cap] w fun e w' => e = .returned (.tuple #[.int .u64 n, .int .i64 wd, .int .i64 y]) ∧ w' = w := by
  have := number_any a len cap l w h
  rw [ht] at this
  exact this
set_option maxHeartbeats 400000 in
theorem rUint_go (R : Nat) (l : List (BitVec 8)) (at_ : Nat) (w : World) (h : Rdr w R l at_ 0) :
    Calls Tryd.prog 37 #[.pointer (some ⟨R, 0, none⟩)] w fun e w' => e = .returned (.int .u64 (rU l at_ 0).1) ∧ Rdr w' R l (rU l at_ 0).2.1 (rU l at_ 0).2.2 ∧ w.grownBy w' (some R) := by
  have HR := reads_any R l at_ 0 w h
  have HH : Hid _ := h
  obtain ⟨a, cap, hh, hs, hn, hk, hne, hat, hm⟩ := h
  have c0 : w.cell? ⟨R, 0, none⟩ = some (.slice a l.length cap) := by simp [World.cell?, hh]
  have c1 : w.cell? ⟨R, 1, none⟩ = some (.int .i64 at_) := by simp [World.cell?, hh]
  have f1 : w.frozen? ⟨R, 1, none⟩ = false := by simp [World.frozen?, hh]
  have f2 : w.frozen? ⟨R, 2, none⟩ = false := by simp [World.frozen?, hh]
  have c2 : w.cell? ⟨R, 2, none⟩ = some (.int .i64 (0 : Nat)) := by simp [World.cell?, hh]
  have g1 : ∀ nq v, ((w.drewN nq).setCell ⟨R, 1, none⟩ v).cell? ⟨R, 2, none⟩ = some (.int .i64 (0 : Nat)) := fun nq v => by rw [cell_set_far _ _ _ _ (by simp)]; exact c2
  have g2 : ∀ nq v, ((w.drewN nq).setCell ⟨R, 1, none⟩ v).frozen? ⟨R, 2, none⟩ = false := fun nq v => by rw [frozen_set]; exact f2
  have hm2 : at_ ≤ 140737488355328 := by omega
  obtain ⟨n, wd, y, ht⟩ : ∃ n wd y, num 0 0 (l.drop at_) = (n, wd, y) := ⟨_, _, _, rfl⟩
  have hwd : at_ + wd ≤ l.length := by have := num_width (l.drop at_) 0 0; rw [ht] at this; simp at this; omega
  have HT : Hid _ := ht
  have HU : Hid (rU l at_ 0 = (n, at_ + wd, y)) := by show rU l at_ 0 = _; simp [rU, ht]
  have hw2 : at_ + wd ≤ 140737488355328 := by omega
  rw [HU.out]
  have HN0 : Hid _ := hn
  clear hh hne hm hn ht
  cases a with
  | none =>
    have hl0 : l = [] := by
      obtain ⟨q1, q2, q3⟩ := hs
      rcases q3 with q3 | ⟨b, off, q, _⟩
      · exact List.eq_nil_of_length_eq_zero q3
      · cases q
    subst hl0
    obtain rfl : at_ = 0 := by simpa using hat
    obtain rfl := HN0.out rfl
    have hs' : Seen w none 0 [] := hs
    have e3 : (0, 0, 10) = (n, wd, y) := HT.out
    cases e3
    clear hs hwd hk hat hm2 hw2
    go_enter Tryd.func37, Tryd.ntmps37
    go_wp2_with fail
    refine HR.mono ?_
    rintro e w1 ⟨rfl, rfl⟩
    go_wp2_with fail
    go_quiet ((go_at_call 56; refine Calls.quiet_of_same (number_is _ _ _ [] 0 0 10 _ ?_ rfl); exact hs'.drewN _))
    go_wp2
    go_ret
    exact ⟨rfl, Rdr.put_drew HH.out nq 0 10 (Nat.le_refl _)⟩
  | some x =>
    go_enter Tryd.func37, Tryd.ntmps37
    go_wp2_with fail
    refine HR.mono ?_
    rintro e w1 ⟨rfl, rfl⟩
    go_wp2_with fail
    go_quiet ((go_at_call 56; refine Calls.quiet_of_same (number_is _ _ _ (l.drop at_) n wd y _ ?_ HT.out); exact (hs.drop at_ cap hat hk).drewN _))
    go_wp2
    all_goals go_ret
    all_goals rw [← Int.natCast_add]
    all_goals exact ⟨rfl, Rdr.put_drew HH.out nq (at_ + wd) y hwd⟩
/-- A Reader that has met an error reads nothing. -/
theorem rUint_no (R : Nat) (l : List (BitVec 8)) (at_ why : Nat) (hy : why ≠ 0) (w : World) (h : Rdr w R l at_ why) :
    Calls Tryd.prog 37 #[.pointer (some ⟨R, 0, none⟩)] w fun e w' => e = .returned (.int .u64 (0 : Nat)) ∧ w' = w := by
  have HR := reads_any R l at_ why w h
  have hy' : ((why : Int) == 0) = false := by simp; omega
  clear h hy
  rw [hy'] at HR
  go_enter Tryd.func37, Tryd.ntmps37
  go_wp2_with fail
  refine HR.mono ?_
  rintro e w1 ⟨rfl, rfl⟩
  go_wp2
  go_ret
  exact ⟨rfl, rfl⟩
theorem grown_refl (w : World) (row : Option Nat) : w.grownBy w row := ⟨rfl, rfl, rfl, Nat.le_refl _, fun _ _ _ => rfl⟩
/-- WHAT (*Reader).Uint DOES. -/
theorem rUint_any (R : Nat) (l : List (BitVec 8)) (at_ why : Nat) (w : World) (h : Rdr w R l at_ why) :
    Calls Tryd.prog 37 #[.pointer (some ⟨R, 0, none⟩)] w fun e w' => e = .returned (.int .u64 (rU l at_ why).1) ∧ Rdr w' R l (rU l at_ why).2.1 (rU l at_ why).2.2 ∧ w.grownBy w' (some R) := by
  by_cases hy : why = 0
  · subst hy
    exact rUint_go R l at_ w h
  · refine (rUint_no R l at_ why hy w h).mono ?_
    rintro e w' ⟨rfl, rfl⟩
    have : rU l at_ why = (0, at_, why) := by simp [rU, hy]
    rw [this]
    exact ⟨rfl, h, grown_refl _ _⟩
/-- What is left, or the error. -/
def rEnd (l : List (BitVec 8)) (at_ why : Nat) : Nat := if why ≠ 0 then why else if at_ < l.length then 11 else 0
theorem rEnd_any (R : Nat) (l : List (BitVec 8)) (at_ why : Nat) (w : World) (h : Rdr w R l at_ why) :
    Calls Tryd.prog 24 #[.pointer (some ⟨R, 0, none⟩)] w fun e w' => e = .returned (.int .i64 (rEnd l at_ why)) ∧ ∃ n, w' = w.drewN n := by
  obtain ⟨a, cap, c0, c1, c2, f1, f2⟩ := h.cells
  clear h
  by_cases hy : why = 0
  · subst hy
    by_cases hlt : at_ < l.length
    · have he : Hid (rEnd l at_ 0 = 11) := by show rEnd l at_ 0 = 11; simp [rEnd, hlt]
      go_enter Tryd.func24, Tryd.ntmps24
      go_wp2
      go_quiet (fail)
      go_wp2
      go_ret
      exact ⟨by rw [he.out]; rfl, _, rfl⟩
    · have he : Hid (rEnd l at_ 0 = 0) := by show rEnd l at_ 0 = 0; simp [rEnd, hlt]
      go_enter Tryd.func24, Tryd.ntmps24
      go_wp2
      go_quiet (fail)
      go_wp2
      go_ret
      exact ⟨by rw [he.out]; rfl, _, rfl⟩
  · have he : Hid (rEnd l at_ why = why) := by show rEnd l at_ why = why; simp [rEnd, hy]
    have hy' : ((why : Int) == 0) = false := by simp; omega
    have hy2 : ¬ ((why : Int) = 0) := by omega
    clear hy
    go_enter Tryd.func24, Tryd.ntmps24
    go_wp2
    go_ret
    exact ⟨by rw [he.out]; rfl, 0, rfl⟩
theorem rAt_any (R : Nat) (l : List (BitVec 8)) (at_ why : Nat) (w : World) (h : Rdr w R l at_ why) :
    Calls Tryd.prog 50 #[.pointer (some ⟨R, 0, none⟩)] w fun e w' => e = .returned (.int .i64 at_) ∧ w' = w := by
  obtain ⟨a, cap, c0, c1, c2, f1, f2⟩ := h.cells
  clear h
  go_enter Tryd.func50, Tryd.ntmps50
  go_wp2
  go_ret
  exact ⟨rfl, rfl⟩
end Go.Proofs.YtpnnbkhlbohfbaaDoor
