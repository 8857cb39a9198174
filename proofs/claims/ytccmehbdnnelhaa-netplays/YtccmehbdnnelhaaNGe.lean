/- Package net: slices.Delete of one letter. -/
import Derived.Test.YtccmehbdnnelhaaNPost1
namespace Go.Proofs.Ytccmehbdnnelhaa
open Go.RowKit Go.Maps
attribute [local go_sem] Oper.semAt_some
set_option linter.unusedVariables false

theorem zeroPo (w : World) : (zeroValue 69).run Try.prog w = .ok (.agg #[.int .i64 0, .int .i64 0, .slice none 0 0, .int .i64 0]) w := by kernel_rfl
def zero4 : List Value := [.int .i64 0, .int .i64 0, .slice none 0 0, .int .i64 0]
theorem clear_one (w : World) (ty : TypeId) (g o c : Nat) (cur : Array Value) (hg : w.heap[g]? = some (.cells cur 69 (0, 0))) (hf : o + 4 ≤ cur.size) :
    (Builtin.clear_ #[66] ty #[.slice (some ⟨g, o, none⟩) 1 c]).run Try.prog w = .ok (.tuple #[]) (w.setRow g (cur.toList.take o ++ zero4 ++ cur.toList.drop (o + 4)).toArray) := by
  have hst := run_storeCells_at Try.prog g o 69 zero4 0 cur w hg (by simpa [zero4] using hf) (fun u hu => by
    simp only [zero4, List.mem_cons, List.not_mem_nil, or_false] at hu
    rcases hu with rfl | rfl | rfl | rfl <;> rfl)
  simp only [Nat.add_zero] at hst
  have hzc : (Builtin.zeroCells #[.int .i64 0, .int .i64 0, .slice none 0 0, .int .i64 0] 1).toList = zero4 := by simp [Builtin.zeroCells, zero4]; rfl
  have hv := zeroPo
  simp [Builtin.clear_, run_underlying Try.underlying66, hv, Value.cells, hzc, hst]
  simp [zero4]
theorem cells4_erase (l : List Post) (i : Nat) (hi : i < l.length) : cells4 (l.eraseIdx i) = (cells4 l).take (i * 4) ++ (cells4 l).drop ((i + 1) * 4) := by
  induction l generalizing i with
  | nil => simp at hi
  | cons p l ih =>
    cases i with
    | zero =>
      rw [cells4_cons]
      simp [Post.cells]
    | succ i =>
      rw [List.eraseIdx_cons_succ, cells4_cons, cells4_cons, ih i (by simpa using hi)]
      have e1 : (i + 1) * 4 = p.cells.length + i * 4 := by simp [Post.cells]; omega
      have e2 : (i + 1 + 1) * 4 = p.cells.length + (i + 1) * 4 := by simp [Post.cells]; omega
      rw [e2, e1, List.take_length_add_append, List.drop_length_add_append, List.append_assoc]
theorem one4 {l : List Post} (h : ∀ p ∈ l, p.dv.oneCell' = true) : ∀ u ∈ cells4 l, u.oneCell' = true := fun u hu => by
  obtain ⟨p, hp, hu⟩ := List.mem_flatMap.1 hu
  simp only [Post.cells, List.mem_cons, List.not_mem_nil, or_false] at hu
  rcases hu with rfl | rfl | rfl | rfl
  · rfl
  · rfl
  · exact h p hp
  · rfl
/-- The row behind the append, and behind the clear. -/
theorem del_runs {w : World} {base g n cap : Nat} {l : List Post} (ho : w.ownsRow base 69 4 (.slice (some ⟨g, 0, none⟩) n cap) n (cells4 l)) (hn : n = l.length) (h1 : ∀ p ∈ l, p.dv.oneCell' = true) (i : Nat) (hi : i < n) (ax : Addr) (cx : Nat) (hax : i + 1 < n → ax = ⟨g, (i + 1) * 4, none⟩) :
    ∃ w1 w2, (Builtin.append_ #[66, 66] 66 #[.slice (some ⟨g, 0, none⟩) i cap, .slice (some ax) (n - (i + 1)) cx]).run Try.prog w = .ok (.slice (some ⟨g, 0, none⟩) (n - 1) cap) w1 ∧
      (∀ ty c, (Builtin.clear_ #[66] ty #[.slice (some ⟨g, (n - 1) * 4, none⟩) 1 c]).run Try.prog w1 = .ok (.tuple #[]) w2) ∧
      w2.ownsRow base 69 4 (.slice (some ⟨g, 0, none⟩) (n - 1) cap) (n - 1) (cells4 (l.eraseIdx i)) ∧ w.grownBy w2 (some g) := by
  rcases ho.2 with ⟨h', _⟩ | ⟨g', cap', cur, h', hb, hg, hnc, hcm, hcs, htake⟩
  · simp at h'
  · simp only [Value.slice.injEq, Option.some.injEq, Addr.mk.injEq, and_true, true_and] at h'
    obtain ⟨rfl, rfl⟩ := h'
    subst hn
    obtain ⟨i0, hi0, hz0, hz1, hz2⟩ := info_parts infoPo
    have hl4 := cells4_length l
    have hat : ∀ j, j < l.length * 4 → cur.toList[j]? = (cells4 l)[j]? := fun j hj => by rw [← htake, List.getElem?_take, if_pos hj]
    have hlen : ((cells4 l).drop ((i + 1) * 4)).length = (l.length - (i + 1)) * 4 := by rw [List.length_drop, hl4]; omega
    have hap := run_append_room (P := Try.prog) w 66 66 69 i0 Try.underlying66 hi0 g i cap cur hg ax (l.length - (i + 1)) cx ((cells4 l).drop ((i + 1) * 4)) (by rw [hz1]; exact hlen) (fun j u hj => by
        have hj' : j < ((cells4 l).drop ((i + 1) * 4)).length := (List.getElem?_eq_some_iff.1 hj).1
        rw [hax (by omega), Addr.add_lit]
        have hw : w.cell? ⟨g, (i + 1) * 4 + j, none⟩ = cur.toList[(i + 1) * 4 + j]? := by unfold World.cell?; simp only [hg]; simp
        rw [hw, hat _ (by omega), ← List.getElem?_drop]
        exact hj) (fun u hu => one4 h1 u (List.mem_of_mem_drop hu)) (by omega) (by rw [hz1, hlen]; omega)
    rw [hz1, show i + (l.length - (i + 1)) = l.length - 1 by omega] at hap
    obtain ⟨cur1, ec1⟩ : ∃ cur1, (cur.toList.take (i * 4) ++ (cells4 l).drop ((i + 1) * 4) ++ cur.toList.drop (i * 4 + ((cells4 l).drop ((i + 1) * 4)).length)).toArray = cur1 := ⟨_, rfl⟩
    rw [ec1] at hap
    have hg1 : (w.setRow g cur1).heap[g]? = some (.cells cur1 69 (0, 0)) := setRow_heap _ _ _ _ _ _ hg
    have hs1 : cur1.size = cap * 4 := by
      rw [← ec1]
      simp only [List.size_toArray, List.length_append, List.length_take, List.length_drop, Array.length_toList, hl4]
      omega
    refine ⟨_, _, hap, fun ty c => clear_one _ ty g ((l.length - 1) * 4) c cur1 hg1 (by omega), ?_, ?_⟩
    · refine ⟨by rw [cells4_length, List.length_eraseIdx, if_pos hi], .inr ⟨g, cap, _, rfl, hb, setRow_heap _ _ _ _ _ _ hg1, by omega, hcm, ?_, ?_⟩⟩
      · simp only [List.size_toArray, List.length_append, List.length_take, List.length_drop, Array.length_toList, zero4, List.length_cons, List.length_nil]
        omega
      · rw [cells4_erase l i hi]
        have e1 : cur1.toList.take ((l.length - 1) * 4) = (cells4 l).take (i * 4) ++ (cells4 l).drop ((i + 1) * 4) := by
          rw [← ec1]
          show (cur.toList.take (i * 4) ++ (cells4 l).drop ((i + 1) * 4) ++ cur.toList.drop (i * 4 + ((cells4 l).drop ((i + 1) * 4)).length)).take ((l.length - 1) * 4) = _
          have et : cur.toList.take (i * 4) = (cells4 l).take (i * 4) := by rw [← htake, List.take_take, Nat.min_eq_left (by omega)]
          rw [et]
          exact List.take_left' (by rw [List.length_append, List.length_take, hlen, hl4]; omega)
        rw [List.toList_toArray, List.append_assoc, List.take_append_of_le_length (by simp; omega), List.take_take, Nat.min_self, e1]
    · refine ⟨rfl, rfl, rfl, by simp, fun k hk hne => ?_⟩
      have hne' : k ≠ g := fun e => hne (by rw [e])
      rw [setRow_other _ _ _ _ hne', setRow_other _ _ _ _ hne']
end Go.Proofs.Ytccmehbdnnelhaa

namespace Go.Proofs.Ytccmehbdnnelhaa
open Go.RowKit Go.Maps
attribute [local go_sem] Oper.semAt_some
set_option linter.unusedVariables false

set_option maxRecDepth 100000 in
set_option maxHeartbeats 4000000 in
theorem delete_any {w : World} {base g n cap : Nat} {l : List Post} (ho : w.ownsRow base 69 4 (.slice (some ⟨g, 0, none⟩) n cap) n (cells4 l)) (hn : n = l.length) (h1 : ∀ p ∈ l, p.dv.oneCell' = true) (i : Nat) (hi : i < n) (hb : n ≤ 1000000) :
    Calls Try.prog 32 #[.slice (some ⟨g, 0, none⟩) n cap, .int .i64 (i : Int), .int .i64 ((i + 1 : Nat) : Int)] w fun e w' => e = .returned (.slice (some ⟨g, 0, none⟩) (n - 1) cap) ∧
      w'.ownsRow base 69 4 (.slice (some ⟨g, 0, none⟩) (n - 1) cap) (n - 1) (cells4 (l.eraseIdx i)) ∧ w.grownBy w' (some g) := by
  have hcap : n ≤ cap ∧ cap ≤ maxLen := by
    rcases ho.2 with ⟨h', _⟩ | ⟨g', cap', cur, h', hb, hg, hnc, hcm, _⟩
    · simp at h'
    · simp only [Value.slice.injEq, Option.some.injEq, Addr.mk.injEq, and_true, true_and] at h'
      obtain ⟨rfl, rfl⟩ := h'
      exact ⟨hnc, hcm⟩
  obtain ⟨ax, hx⟩ : ∃ ax, (if cap = i + 1 then some (⟨g, 0, none⟩ : Addr) else some ⟨g, (i + 1) * 4, none⟩) = some ax := by split <;> exact ⟨_, rfl⟩
  have hod : w.drew.ownsRow base 69 4 (.slice (some ⟨g, 0, none⟩) n cap) n (cells4 l) := ho
  obtain ⟨w1, w2, hap, hcl, ho2, hgr⟩ := del_runs hod hn h1 i hi ax (cap - (i + 1)) (fun h => by
    rw [if_neg (by omega)] at hx
    exact (Option.some.inj hx).symm)
  have HAP : Hid _ := hap
  have HCL : Hid _ := hcl
  have FIN : Hid (w2.ownsRow base 69 4 (.slice (some ⟨g, 0, none⟩) (n - 1) cap) (n - 1) (cells4 (l.eraseIdx i)) ∧ w.grownBy w2 (some g)) := ⟨ho2, ⟨hgr.os, hgr.tape, hgr.output, hgr.size, fun k hk hne => hgr.block k hk hne⟩⟩
  have a1 : i ≤ cap := by omega
  have a2 : i + 1 ≤ cap := by omega
  have a3 : i + 1 ≤ n := by omega
  have a4 : n ≤ cap := hcap.1
  have a5 : n - 1 ≤ n := by omega
  have a6 : n - 1 ≤ cap := by omega
  have b1 : (i : Int) ≤ ((i + 1 : Nat) : Int) := by omega
  have b2 : ((i + 1 : Nat) : Int) ≤ (n : Int) := by omega
  have b3 : (n : Int) ≤ (cap : Int) := by omega
  have b4 : ((i : Int) == ((i + 1 : Nat) : Int)) = false := by rw [beq_eq_false_iff_ne]; omega
  have b5 : ¬ (i : Int) = ((i + 1 : Nat) : Int) := by omega
  have b6 : (i : Int) ≤ (cap : Int) := by omega
  have b7 : ((n - 1 : Nat) : Int) ≤ (n : Int) := by omega
  have e1 : n - (n - 1) = 1 := by omega
  have e2 : ¬ cap = n - 1 := by omega
  obtain ⟨m1, em⟩ : ∃ m1, n - 1 = m1 := ⟨_, rfl⟩
  clear ho hod hap hcl ho2 hgr hcap h1 hn
  go_enter Try.func32, Try.ntmps32
  go_wp2_with fail
  refine wp_region_held_drew (S := fun _ => True) (by kernel_rfl) trivial (fun hHeld => ?_)
  refine take_run (i := 0) (oi := { dst := some 20, op := Go.Op.move (Go.Operand.tmp 0), type := 66, pos := "slices.go:232", after := #[], guard := none }) (v := .slice (some ⟨g, 0, none⟩) n cap) rfl (by kernel_rfl) (by kernel_rfl) (by kernel_rfl) (fun _ _ _ h => h) (by rfl) ?_ hHeld ?_
  · (intro wq hSw; go_simp <;> with_reducible rfl)
  try simp only [Act.put, List.setIfInBounds_toArray, List.set_cons_zero, List.set_cons_succ]
  refine take_run (i := 1) (oi := { dst := some 21, op := Go.Op.move (Go.Operand.tmp 1), type := 3, pos := "slices.go:232", after := #[], guard := none }) (v := .int .i64 (i : Int)) rfl (by kernel_rfl) (by kernel_rfl) (by kernel_rfl) (fun _ _ _ h => h) (by rfl) ?_ hHeld ?_
  · (intro wq hSw; go_simp <;> with_reducible rfl)
  try simp only [Act.put, List.setIfInBounds_toArray, List.set_cons_zero, List.set_cons_succ]
  refine take_run (i := 2) (oi := { dst := some 22, op := Go.Op.slice 66 (Go.Operand.tmp 20) none (some (Go.Operand.tmp 21)) none, type := 66, pos := "slices.go:232", after := #[{ on := 0, ground := Go.Ground.data }, { on := 1, ground := Go.Ground.data }], guard := none }) (v := .slice (some ⟨g, 0, none⟩) i cap) rfl (by kernel_rfl) (by kernel_rfl) (by kernel_rfl) (fun _ _ _ h => h) (by rfl) ?_ hHeld ?_
  · (intro wq hSw; go_simp <;> with_reducible rfl)
  try simp only [Act.put, List.setIfInBounds_toArray, List.set_cons_zero, List.set_cons_succ]
  refine take_run (i := 3) (oi := { dst := some 23, op := Go.Op.move (Go.Operand.tmp 0), type := 66, pos := "slices.go:232", after := #[], guard := none }) (v := .slice (some ⟨g, 0, none⟩) n cap) rfl (by kernel_rfl) (by kernel_rfl) (by kernel_rfl) (fun _ _ _ h => h) (by rfl) ?_ hHeld ?_
  · (intro wq hSw; go_simp <;> with_reducible rfl)
  try simp only [Act.put, List.setIfInBounds_toArray, List.set_cons_zero, List.set_cons_succ]
  refine take_run (i := 4) (oi := { dst := some 24, op := Go.Op.move (Go.Operand.tmp 2), type := 3, pos := "slices.go:232", after := #[], guard := none }) (v := .int .i64 ((i + 1 : Nat) : Int)) rfl (by kernel_rfl) (by kernel_rfl) (by kernel_rfl) (fun _ _ _ h => h) (by rfl) ?_ hHeld ?_
  · (intro wq hSw; go_simp <;> with_reducible rfl)
  try simp only [Act.put, List.setIfInBounds_toArray, List.set_cons_zero, List.set_cons_succ]
  refine take_run (i := 5) (oi := { dst := some 25, op := Go.Op.slice 66 (Go.Operand.tmp 23) (some (Go.Operand.tmp 24)) none none, type := 66, pos := "slices.go:232", after := #[{ on := 3, ground := Go.Ground.data }, { on := 4, ground := Go.Ground.data }], guard := none }) (v := .slice (some ax) (n - (i + 1)) (cap - (i + 1))) rfl (by kernel_rfl) (by kernel_rfl) (by kernel_rfl) (fun _ _ _ h => h) (by rfl) ?_ hHeld ?_
  · (intro wq hSw; go_simp; exact fun h => absurd (h (by omega)) (by omega))
  try simp only [Act.put, List.setIfInBounds_toArray, List.set_cons_zero, List.set_cons_succ]
  refine take_val (i := 6) (oi := { dst := some 26, op := Go.Op.call { callee := Go.Callee.builtin Go.Builtin.append, args := #[Go.Operand.tmp 22, Go.Operand.tmp 25], argTypes := #[66, 66] }, type := 66, pos := "slices.go:232", after := #[{ on := 2, ground := Go.Ground.data }, { on := 5, ground := Go.Ground.data }], guard := none }) (.slice (some ⟨g, 0, none⟩) (n - 1) cap) rfl (by kernel_rfl) (by rfl) (exec_appN (.tmp 22) (.tmp 25) 66 rfl rfl rfl HAP.out) trivial ?_
  try simp only [Act.put, List.setIfInBounds_toArray, List.set_cons_zero, List.set_cons_succ]
  refine take_run (i := 7) (oi := { dst := some 0, op := Go.Op.assign (Go.Operand.tmp 26), type := 66, pos := "slices.go:232", after := #[{ on := 6, ground := Go.Ground.data }, { on := 6, ground := Go.Ground.chain }, { on := 0, ground := Go.Ground.phase }, { on := 1, ground := Go.Ground.phase }, { on := 2, ground := Go.Ground.phase }, { on := 3, ground := Go.Ground.phase }, { on := 4, ground := Go.Ground.phase }, { on := 5, ground := Go.Ground.phase }, { on := 6, ground := Go.Ground.phase }], guard := none }) (v := .slice (some ⟨g, 0, none⟩) (n - 1) cap) rfl (by kernel_rfl) (by kernel_rfl) (by kernel_rfl) (fun _ _ _ h => h) (by rfl) ?_ trivial ?_
  · (intro wq hSw; go_simp <;> with_reducible rfl)
  try simp only [Act.put, List.setIfInBounds_toArray, List.set_cons_zero]
  refine wpAnyH_done (by kernel_rfl) ?_ _
  have hc0 : (Builtin.clear_ #[66] 0 #[.slice (some ⟨g, m1 * 4, none⟩) (n - m1) (cap - m1)]).run Try.prog w1 = .ok (.tuple #[]) w2 := by
    rw [← em, e1]
    exact HCL.out 0 _
  go_wp2
  go_ret
  exact ⟨rfl, FIN.out⟩
end Go.Proofs.Ytccmehbdnnelhaa

namespace Go.Proofs.Ytccmehbdnnelhaa
open Go.RowKit Go.Maps
set_option linter.unusedVariables false

/-- What is no row of letters and no map is as it was. -/
def KeepC (w w' : World) : Prop := ∀ (q : Nat) (cs : Array Value) (t : TypeId) (z : Nat × Nat), w.heap[q]? = some (Obj.cells cs t z) → t ≠ 69 → w'.heap[q]? = w.heap[q]?
theorem KeepC.trans {a b c : World} (h : KeepC a b) (k : KeepC b c) : KeepC a c := fun q cs t z e ht => by
  have q1 := h q cs t z e ht
  rw [k q cs t z (q1.trans e) ht, q1]
theorem KeepC.drew (a : World) : KeepC a a.drew := fun q cs t z e ht => rfl
theorem KeepC.turned {a b : World} {B : Nat} (h : a.mapTurned b B) : KeepC a b := fun q cs t z e ht => by
  refine mapTurned_block h (Array.getElem?_eq_some_iff.1 e).1 (fun eq => ?_)
  obtain ⟨es, c, _, _, hb, _⟩ := h
  subst eq
  rw [e] at hb
  cases hb
theorem KeepC.grown {a b : World} {base g n cap : Nat} {xs : List Value} (h : a.grownBy b (some g)) (ho : a.ownsRow base 69 4 (.slice (some ⟨g, 0, none⟩) n cap) n xs) : KeepC a b := fun q cs t z e ht =>
  h.block q (Array.getElem?_eq_some_iff.1 e).1 (fun eq => not_row ho e ht (by rw [Value.ownBlock]; exact eq.symm))
/-- The rows of the others are as they were. -/
def KeepR (w w' : World) (bx : Int → Value) (to : Int) : Prop := ∀ j, j ≠ to → ∀ q, (bx j).ownBlock = some q → w'.heap[q]? = w.heap[q]?
theorem net_dropped {w w' : World} {base N B T : Nat} {bx bx' : Int → Value} {L : List Post} (h : NetIn w base N B bx L T) {i : Nat} (hi : i < L.length) (hc : KeepC w w') (hr : KeepR w w' bx L[i].to) (hm : BoxMap w' B T bx' (fun k => decide (box (L.eraseIdx i) k ≠ [])))
    (ho : ∀ j, j ≠ L[i].to → bx' j = bx j) (hrow : w'.ownsRow base 69 4 (bx' L[i].to) (box (L.eraseIdx i) L[i].to).length (cells4 (box (L.eraseIdx i) L[i].to))) (hg : ∀ q, (bx' L[i].to).ownBlock = some q → (bx L[i].to).ownBlock = some q) :
    NetIn w' base N B bx' (L.eraseIdx i) T := by
  refine ⟨(hc N _ _ _ h.hN tPN).trans h.hN, hm, fun j => ?_, fun j k g e1 e2 => ?_, h.bN, h.bB, fun p hp => (h.dat p (mem_erase hp)).keep fun g ⟨cs, z, e⟩ => hc g cs 5 z e t5P, h.ris.erase i, fun p hp => h.tur p (mem_erase hp), fun p hp => h.tos p (mem_erase hp), ?_⟩
  · by_cases e : j = L[i].to
    · rw [e]; exact hrow
    · rw [ho j e, box_erase_ne hi (fun x => e x.symm)]
      exact owns_kept (h.row j) (fun q eq => hr j e q eq)
  · have f : ∀ j, (bx' j).ownBlock = some g → (bx j).ownBlock = some g := fun j ej => by
      by_cases e : j = L[i].to
      · rw [e] at ej ⊢; exact hg g ej
      · rw [ho j e] at ej; exact ej
    exact h.apart j k g (f j e1) (f k e2)
  · have := List.length_eraseIdx_le L i
    have := h.len
    omega
theorem NetIn.one {w : World} {base N B T : Nat} {bx : Int → Value} {L : List Post} (h : NetIn w base N B bx L T) (k : Int) : ∀ p ∈ Go.Proofs.Ytccmehbdnnelhaa.box L k, p.dv.oneCell' = true := fun p hp => by
  obtain ⟨a, c, e, _⟩ := h.dat p (mem_box.1 hp).1
  rw [e]
  rfl
/-- The box of a letter. -/
theorem net_box {w : World} {base N B T : Nat} {bx : Int → Value} {L : List Post} (h : NetIn w base N B bx L T) {i : Nat} (hi : i < L.length) : ∃ g n cap, bx L[i].to = .slice (some ⟨g, 0, none⟩) n cap ∧ n = (box L L[i].to).length ∧ spotOf L i < n ∧ n ≤ 10000 ∧ w.ownsRow base 69 4 (.slice (some ⟨g, 0, none⟩) n cap) n (cells4 (box L L[i].to)) := by
  obtain ⟨hk, _⟩ := spot_ok h.ris hi
  have ho := h.row L[i].to
  obtain ⟨g, cap, e, _, _⟩ := ho.form (by omega)
  have := box_len L L[i].to
  have := h.len
  rw [e] at ho
  exact ⟨g, _, cap, e, rfl, hk, by omega, ho⟩
/-- Behind Delete and the store. -/
theorem net_cut {w w2 : World} {base N B T : Nat} {bx : Int → Value} {L : List Post} (h : NetIn w base N B bx L T) {i : Nat} (hi : i < L.length) {g n cap : Nat} (hb : bx L[i].to = .slice (some ⟨g, 0, none⟩) n cap) (hn : n = (box L L[i].to).length)
    (ho : w.ownsRow base 69 4 (.slice (some ⟨g, 0, none⟩) n cap) n (cells4 (box L L[i].to))) (ho2 : w2.ownsRow base 69 4 (.slice (some ⟨g, 0, none⟩) (n - 1) cap) (n - 1) (cells4 ((box L L[i].to).eraseIdx (spotOf L i)))) (hgr : w.grownBy w2 (some g)) (hT : T ≤ 1000000000000) :
    ∃ w3, (Instr.mapUpdate 36 (.map (some B)) (.int .i64 L[i].to) (.slice (some ⟨g, 0, none⟩) (n - 1) cap)).run Try.prog w2 = .ok () w3 ∧ KeepC w w2 ∧ KeepC w w3 ∧ KeepR w w3 bx L[i].to ∧ NKeep base w w3 ∧ w3.heap[g]? = w2.heap[g]? ∧ g ≠ B ∧
      BoxMap w3 B T (fun j => if j = L[i].to then .slice (some ⟨g, 0, none⟩) (n - 1) cap else bx j) (fun j => decide (box L j ≠ []) || decide (j = L[i].to)) := by
  have hkw : kwf L[i].to := h.kwf (List.getElem_mem hi)
  have k2 : KeepC w w2 := KeepC.grown hgr ho
  obtain ⟨es, cl, hmap⟩ := h.hM.isMap
  have hrg : (bx L[i].to).ownBlock = some g := by rw [hb]; rfl
  have gB : g ≠ B := fun e => not_row_map (h.row L[i].to) (by rw [← e] at hmap; exact hmap) hrg
  have m2 : BoxMap w2 B T bx (fun k => decide (box L k ≠ [])) := h.hM.kept (hgr.block B h.hM.lt (fun e => gB (by simpa using e.symm)))
  have hkk : decide (box L L[i].to ≠ []) = true := by
    simp only [ne_eq, decide_eq_true_eq]
    exact List.ne_nil_of_mem (mem_box.2 ⟨List.getElem_mem hi, rfl⟩)
  obtain ⟨w3, hr3, _, m3, ht3⟩ := m2.store (by unfold maxLen; omega) hkw (.slice (some ⟨g, 0, none⟩) (n - 1) cap)
  have hbs : base ≤ w.heap.size := Nat.le_of_lt (Nat.lt_of_le_of_lt h.bN h.ltN)
  have hgb : base ≤ g := (row_lt4 ho (k := g) rfl).1
  have hg2 : g < w2.heap.size := (row_lt4 ho2 (k := g) rfl).2
  have k3 : KeepC w w3 := k2.trans (KeepC.turned ht3)
  refine ⟨w3, hr3, k2, k3, fun j hj q e => ?_, ⟨?_, Nat.le_trans hgr.size ht3.grown.size, fun q cs t z e h1 _ => k3 q cs t z e h1⟩, mapTurned_block ht3 hg2 gB, gB, m3 hkk⟩
  · have lt := (row_lt4 (h.row j) e).2
    obtain ⟨cur, hc⟩ := row_kind (h.row j) e
    have n1 : q ≠ g := fun eq => hj (h.apart j L[i].to q e (by rw [eq]; exact hrg))
    have nB : q ≠ B := fun eq => by subst eq; rw [hc] at hmap; cases hmap
    rw [mapTurned_block ht3 (Nat.lt_of_lt_of_le lt hgr.size) nB, hgr.block q lt (fun x => n1 (by simpa using x))]
  · have b1 : Below base w w2 := (Below.refl base w).grown hgr hbs (fun j e => by cases e; exact hgb)
    exact b1.grown ht3.grown (Nat.le_trans hbs b1.size) (fun j e => by cases e; exact h.bB)
end Go.Proofs.Ytccmehbdnnelhaa
