/- Package book: slices.Insert of one account. -/
import Derived.Test.YtdchnfggmkokhaaGreatDoorGB
import Derived.Lib.AppendZerosOnto
import Derived.Lib.Overlaps
import Derived.Laws.NewBlocks
import Derived.Deep.RegionLaw
import Derived.BigRegion
namespace Go.Proofs.YtdchnfggmkokhaaGreatDoor
open Go.RowKit
attribute [local go_sem] Oper.semAt_some
set_option linter.unusedVariables false

/-- copy of a row of elements of k cells. -/
theorem run_copy_rows {P : Program} (w : World) (dT sT ty elem : TypeId) (k g o dLen dCap : Nat) (a : Addr) (sLen sCap : Nat) (cur : Array Value) (t : TypeId) (cs : List Value)
    (hu : P.underlying dT = some (.slice elem)) (hs : (P.info? elem).map (·.size) = some k)
    (hg : w.heap[g]? = some (.cells cur t (0, 0))) (m : Nat) (hm : m = Nat.min sLen dLen) (hn : cs.length = m * k)
    (hsrc : ∀ j v, cs[j]? = some v → w.cell? (a.add j) = some v) (hfit : o + cs.length ≤ cur.size) (h1 : ∀ v ∈ cs, v.oneCell' = true) :
    (Builtin.copy_ #[dT, sT] ty #[.slice (some ⟨g, o, none⟩) dLen dCap, .slice (some a) sLen sCap]).run P w =
      .ok (goInt m) (w.setRow g (cur.toList.take o ++ cs ++ cur.toList.drop (o + cs.length)).toArray) := by
  have hl := run_firstCells_some (P := P) w k m a sLen sCap cs hn hsrc
  have hst := run_storeCells_at P g o t cs 0 cur w hg (by simpa using hfit) h1
  cases hq : P.info? elem with
  | none => simp [hq] at hs
  | some i =>
    have hi : i.size = k := by simpa [hq] using hs
    have hm' : Nat.min sLen dLen = m := hm.symm
    simp only [Builtin.copy_, Sem.run_bind, run_underlying hu, Result.andThen_ok, Builtin.lenOf, sizeOf, typeInfo, Sem.run_pure, List.getElem?_toArray, List.getElem?_cons_zero, List.getElem?_cons_succ]
    simp [hq, hi, hm', hl, hst]
theorem wpList_copy_known {P : Program} {w : World} {ops : Array Oper} {rest : List Oper} {o : Oper} {a : Act} {Q : Exit → Act → World → Prop} (hgd : o.guard = none) (d s : Operand) (t t' : TypeId)
    (ho : o.op = .call { callee := .builtin .copy, args := #[d, s], argTypes := #[t, t'] }) (v u : Value) (hd : a.eval d = v) (hs : a.eval s = u) (v' : Value) (w' : World)
    (hr : (Builtin.copy_ #[t, t'] o.type #[v, u]).run P w = .ok v' w') (h : wpList P ops Q rest (a.put o.dst v') w') : wpList P ops Q (o :: rest) a w :=
  wpList_plain hgd fun K hK => by
    unfold Oper.wp
    simp [execOp, ho, resolve, invoke, builtin, hd, hs, hr, Result.andThen]
    exact hK _ _ h
theorem step_copy_known {P : Program} {ops : Array Oper} {o : Oper} {a : Act} {w : World} {K : Act → World → Prop} {Q : Exit → Act → World → Prop} {E : Prop} (hgd : o.guard = none) (d x : Operand) (t t' : TypeId)
    (ho : o.op = .call { callee := .builtin .copy, args := #[d, x], argTypes := #[t, t'] }) (vd vx v' : Value) (w' : World) (hd : a.eval d = vd) (hx : a.eval x = vx)
    (hr : (Builtin.copy_ #[t, t'] o.type #[vd, vx]).run P w = .ok v' w') (hK : K (a.put o.dst v') w') : if Region.wanted o (yielded ops a.tmps) = true then Oper.wp P o a w K Q else E := by
  have hw : Region.wanted o (yielded ops a.tmps) = true := by simp [Region.wanted, hgd]
  rw [if_pos hw]
  unfold Oper.wp
  simp [execOp, ho, resolve, invoke, builtin, hd, hx, hr, Result.andThen]
  exact hK
theorem one3 (l : List Acc) : ∀ u ∈ cells3 l, u.oneCell' = true := fun u hu => by
  obtain ⟨p, hp, hu⟩ := List.mem_flatMap.1 hu
  simp only [Acc.cells, List.mem_cons, List.not_mem_nil, or_false] at hu
  rcases hu with rfl | rfl | rfl <;> rfl
theorem size_acc : (Tryz.prog.info? 52).map (·.size) = some 3 := by kernel_rfl
theorem cells3_one (a : Acc) : cells3 [a] = [.string a.nm, .int .i64 a.amt, .string a.by_] := rfl
theorem acc_cells {w : World} {vb : Nat} {a : Acc} (hv : w.heap[vb]? = some (.cells #[.string a.nm, .int .i64 a.amt, .string a.by_] 52 (0, 0))) : ∀ j v, (cells3 [a])[j]? = some v → w.cell? ((⟨vb, 0, none⟩ : Addr).add j) = some v := fun j v hj => by
  rw [cells3_one] at hj
  rw [Addr.add_lit, Nat.zero_add]
  simp only [World.cell?, hv]
  simpa using hj
/-- A row with an account put in, made out of two copies. -/
theorem put_list (cur : List Value) (L : List Acc) (a : Acc) (i n C : Nat) (hn : n = L.length) (hi : i ≤ n) (hC : cur.length = C * 3) (hnC : n + 1 ≤ C) (htake : cur.take (n * 3) = cells3 L) :
    (((cur.take ((i + 1) * 3) ++ (cells3 L).drop (i * 3) ++ cur.drop ((i + 1) * 3 + ((cells3 L).drop (i * 3)).length)).take (i * 3) ++ cells3 [a] ++ (cur.take ((i + 1) * 3) ++ (cells3 L).drop (i * 3) ++ cur.drop ((i + 1) * 3 + ((cells3 L).drop (i * 3)).length)).drop (i * 3 + (cells3 [a]).length))).take ((n + 1) * 3) = cells3 (L.take i ++ a :: L.drop i) := by
  have h3 := cells3_length L
  have ha : (cells3 [a]).length = 3 := rfl
  have hB : ((cells3 L).drop (i * 3)).length = (n - i) * 3 := by rw [List.length_drop, h3]; omega
  have e1 : (cur.take ((i + 1) * 3) ++ (cells3 L).drop (i * 3) ++ cur.drop ((i + 1) * 3 + ((cells3 L).drop (i * 3)).length)).take (i * 3) = (cells3 L).take (i * 3) := by
    rw [List.append_assoc, List.take_append_of_le_length (by rw [List.length_take]; omega), List.take_take, Nat.min_eq_left (by omega), ← htake, List.take_take, Nat.min_eq_left (by omega)]
  have e2 : (cur.take ((i + 1) * 3) ++ (cells3 L).drop (i * 3) ++ cur.drop ((i + 1) * 3 + ((cells3 L).drop (i * 3)).length)).drop (i * 3 + (cells3 [a]).length) = (cells3 L).drop (i * 3) ++ cur.drop ((i + 1) * 3 + ((cells3 L).drop (i * 3)).length) := by
    rw [List.append_assoc]
    exact List.drop_left' (by rw [List.length_take, ha]; omega)
  have e3 : cells3 (L.take i ++ a :: L.drop i) = (cells3 L).take (i * 3) ++ cells3 [a] ++ (cells3 L).drop (i * 3) := by
    rw [cells3_append, cells3_take, show a :: L.drop i = [a] ++ L.drop i from rfl, cells3_append, cells3_drop, List.append_assoc]
  rw [e1, e2, e3, ← List.append_assoc]
  exact List.take_left' (by rw [List.length_append, List.length_append, List.length_take, hB, ha, h3]; omega)
/-- .. the other way round, in a new row. -/
theorem put_list2 (row : List Value) (L : List Acc) (a : Acc) (i n C : Nat) (hn : n = L.length) (hi : i ≤ n) (hC : row.length = C * 3) (hnC : n + 1 ≤ C) (htake : row.take (i * 3) = (cells3 L).take (i * 3)) :
    ((row.take (i * 3) ++ cells3 [a] ++ row.drop (i * 3 + (cells3 [a]).length)).take ((i + 1) * 3) ++ (cells3 L).drop (i * 3) ++ (row.take (i * 3) ++ cells3 [a] ++ row.drop (i * 3 + (cells3 [a]).length)).drop ((i + 1) * 3 + ((cells3 L).drop (i * 3)).length)).take ((n + 1) * 3) = cells3 (L.take i ++ a :: L.drop i) := by
  have h3 := cells3_length L
  have ha : (cells3 [a]).length = 3 := rfl
  have hB : ((cells3 L).drop (i * 3)).length = (n - i) * 3 := by rw [List.length_drop, h3]; omega
  have e1 : (row.take (i * 3) ++ cells3 [a] ++ row.drop (i * 3 + (cells3 [a]).length)).take ((i + 1) * 3) = (cells3 L).take (i * 3) ++ cells3 [a] := by
    rw [htake]
    exact List.take_left' (by rw [List.length_append, List.length_take, ha, h3]; omega)
  have e3 : cells3 (L.take i ++ a :: L.drop i) = (cells3 L).take (i * 3) ++ cells3 [a] ++ (cells3 L).drop (i * 3) := by
    rw [cells3_append, cells3_take, show a :: L.drop i = [a] ++ L.drop i from rfl, cells3_append, cells3_drop, List.append_assoc]
  rw [e1, e3]
  exact List.take_left' (by rw [List.length_append, List.length_append, List.length_take, hB, ha, h3]; omega)
/-- What Insert makes. -/
def InsTold (w w' : World) (base : Nat) (sv sv' : Value) (n : Nat) (L' : List Acc) : Prop := w'.ownsRow base 52 3 sv' (n + 1) (cells3 L') ∧ w.grownBy w' sv.ownBlock ∧ (∀ k, sv'.ownBlock = some k → sv.ownBlock = some k ∨ w.heap.size ≤ k)
section
variable {w : World} {base : Nat} {sv : Value} {L : List Acc}
set_option maxRecDepth 100000 in
set_option maxHeartbeats 1000000 in
theorem insert_end (a : Acc) (hrow : w.ownsRow base 52 3 sv L.length (cells3 L)) (hl : L.length < 200) (vb : Nat) (hv : w.heap[vb]? = some (.cells #[.string a.nm, .int .i64 a.amt, .string a.by_] 52 (0, 0))) (hb : base ≤ w.heap.size) :
    Calls Tryz.prog 69 #[sv, .int .i64 (L.length : Nat), .slice (some ⟨vb, 0, none⟩) 1 1] w fun e w' => ∃ sv', e = .returned sv' ∧ InsTold w w' base sv sv' L.length (L ++ [a]) := by
  obtain ⟨i0, hi, hz0, hz1, hz2⟩ := info_parts info_acc
  obtain ⟨v', w', hr, h1, h2, _, h5⟩ := run_append_own_at (P := Tryz.prog) w base 43 43 52 i0 (.agg #[.string ⟨#[]⟩, .int .i64 0, .string ⟨#[]⟩]) 3 40 Tryz.underlying43 hi hz0 hz1 hz2 rfl (by omega) sv L.length (cells3 L) hrow ⟨vb, 0, none⟩ 1 1 (cells3 [a]) rfl (acc_cells hv) (one3 [a]) (by unfold maxLen; omega) (by omega) hb
  have HR : Hid _ := hr
  have HI : Hid (InsTold w w' base sv v' L.length (L ++ [a])) := ⟨by rw [cells3_append]; exact h1, h2, fun k e => by
      rcases h5 with h5 | h5
      · exact .inl (h5.symm.trans e)
      · rw [h5] at e
        cases e
        exact .inr (Nat.le_refl _)⟩
  obtain ⟨a2, c, e, hnil, hnc, _, hx⟩ := row_form hrow
  subst e
  have ha2 : ∀ x, a2 = some x → x = ⟨x.block, 0, none⟩ := fun x e => (hx x e).1
  obtain ⟨n, en⟩ : ∃ n, L.length = n := ⟨_, rfl⟩
  rw [en] at HR HI hl hnc ⊢
  clear hr h1 h2 h5 hv hrow hx en
  have HN : Hid (n ≤ c) := hnc
  cases a2 with
  | none =>
    obtain rfl := hnil rfl
    obtain rfl : n = 0 := by omega
    clear hnil ha2 hnc
    go_enter Tryz.func69, Tryz.ntmps69
    go_wp2_with (at_builtin; refine wpList_append_known rfl _ _ 43 43 rfl _ _ rfl rfl _ _ HR.out ?_)
    go_ret
    exact ⟨_, rfl, HI.out⟩
  | some x =>
    obtain ⟨xb, xo, xs⟩ := x
    have := ha2 _ rfl
    simp only [Addr.mk.injEq, true_and] at this
    obtain ⟨rfl, rfl⟩ := this
    obtain ⟨a3, ha3⟩ : ∃ a3, (if c = n then some (⟨xb, 0, none⟩ : Addr) else some ⟨xb, n * 3, none⟩) = a3 := ⟨_, rfl⟩
    clear hnil ha2
    go_enter Tryz.func69, Tryz.ntmps69
    go_wp2_with (at_builtin; refine wpList_append_known rfl _ _ 43 43 rfl _ _ rfl rfl _ _ HR.out ?_)
    all_goals
      go_ret
      exact ⟨_, rfl, HI.out⟩
set_option maxRecDepth 100000 in
set_option maxHeartbeats 4000000 in
theorem insert_shift (a : Acc) {g n c i : Nat} (hrow : w.ownsRow base 52 3 (.slice (some ⟨g, 0, none⟩) n c) n (cells3 L)) (hn : n = L.length) (hl : n < 200) (hi : i < n) (hroom : n + 1 ≤ c) (vb : Nat) (hv : w.heap[vb]? = some (.cells #[.string a.nm, .int .i64 a.amt, .string a.by_] 52 (0, 0))) (hne : vb ≠ g) :
    Calls Tryz.prog 69 #[.slice (some ⟨g, 0, none⟩) n c, .int .i64 (i : Nat), .slice (some ⟨vb, 0, none⟩) 1 1] w fun e w' => ∃ sv', e = .returned sv' ∧ InsTold w w' base (.slice (some ⟨g, 0, none⟩) n c) sv' n (L.take i ++ a :: L.drop i) := by
  rcases hrow.2 with ⟨e1, _⟩ | ⟨g', c', cur, e1, hb, hg, hnc, hcm, hcs, htake⟩
  · simp at e1
  simp only [Value.slice.injEq, Option.some.injEq, Addr.mk.injEq, and_true, true_and] at e1
  obtain ⟨rfl, rfl⟩ := e1
  have h3 := cells3_length L
  have hov : ∀ W lb cb, W.heap[vb]? = w.heap[vb]? → W.heap[g]? = w.heap[g]? → (callFunc 89 #[.slice (some ⟨vb, 0, none⟩) 1 1, .slice (some ⟨g, (i + 1) * 3, none⟩) lb cb]).run Tryz.prog W = .ok (.value (.bool false)) W := fun W lb cb q1 q2 => by
    rw [run_callFunc_extern Tryz.func89 (by kernel_rfl) (by kernel_rfl) (by kernel_rfl) (e := Extern.SlicesOverlaps.overlaps #[43, 43] #[4]) (by kernel_rfl),
      Lib.run_overlaps_apart W 43 4 52 Tryz.underlying43 3 (fun w => by kernel_rfl) ⟨vb, 0, none⟩ ⟨g, (i + 1) * 3, none⟩ 1 1 lb cb hne 52 52 3 cur.size (by simp [World.shape?, q1, hv]) (by simp [World.shape?, q2, hg]) (by omega) (by simp [World.frozen?, q1, hv]) (by simp [World.frozen?, q1, hv])]
    rfl
  have hdl : ((cells3 L).drop (i * 3)).length = (n - i) * 3 := by rw [List.length_drop, h3, ← hn]; omega
  have hat : ∀ j v, ((cells3 L).drop (i * 3))[j]? = some v → w.cell? ((⟨g, i * 3, none⟩ : Addr).add j) = some v := fun j v hj => by
    have hj' : j < (n - i) * 3 := by rw [← hdl]; exact (List.getElem?_eq_some_iff.1 hj).1
    rw [Addr.add_lit]
    rw [List.getElem?_drop, ← htake, List.getElem?_take, if_pos (by omega)] at hj
    simp only [World.cell?, hg]
    simpa using hj
  obtain ⟨cur1, ec1⟩ : ∃ cur1, (cur.toList.take ((i + 1) * 3) ++ (cells3 L).drop (i * 3) ++ cur.toList.drop ((i + 1) * 3 + ((cells3 L).drop (i * 3)).length)).toArray = cur1 := ⟨_, rfl⟩
  have hcp1 : ∀ W ty dc sc, (∀ x, W.cell? x = w.cell? x) → W.heap[g]? = w.heap[g]? → (Builtin.copy_ #[43, 43] ty #[.slice (some ⟨g, (i + 1) * 3, none⟩) (n - i) dc, .slice (some ⟨g, i * 3, none⟩) (n + 1 - i) sc]).run Tryz.prog W = .ok (goInt ((n - i : Nat) : Int)) (W.setRow g cur1) := fun W ty dc sc q1 q2 => by
    rw [← ec1]
    exact run_copy_rows W 43 43 ty 52 3 g ((i + 1) * 3) (n - i) dc ⟨g, i * 3, none⟩ (n + 1 - i) sc cur 52 ((cells3 L).drop (i * 3)) Tryz.underlying43 size_acc (q2.trans hg) (n - i) (by show n - i = min (n + 1 - i) (n - i); omega) hdl (fun j v hj => by rw [q1]; exact hat j v hj) (by rw [hdl, hcs]; omega) (fun v hv => one3 L v (List.mem_of_mem_drop hv))
  have hs1 : cur1.size = c * 3 := by
    rw [← ec1]
    simp only [List.size_toArray, List.length_append, List.length_take, hdl, List.length_drop, Array.length_toList]
    omega
  obtain ⟨cur2, ec2⟩ : ∃ cur2, (cur1.toList.take (i * 3) ++ cells3 [a] ++ cur1.toList.drop (i * 3 + (cells3 [a]).length)).toArray = cur2 := ⟨_, rfl⟩
  have hcp2 : ∀ W ty dc, W.heap[vb]? = w.heap[vb]? → W.heap[g]? = some (.cells cur1 52 (0, 0)) → (Builtin.copy_ #[43, 43] ty #[.slice (some ⟨g, i * 3, none⟩) (n + 1 - i) dc, .slice (some ⟨vb, 0, none⟩) 1 1]).run Tryz.prog W = .ok (goInt 1) (W.setRow g cur2) := fun W ty dc q1 q2 => by
    rw [← ec2]
    exact run_copy_rows W 43 43 ty 52 3 g (i * 3) (n + 1 - i) dc ⟨vb, 0, none⟩ 1 1 cur1 52 (cells3 [a]) Tryz.underlying43 size_acc q2 1 (by show 1 = min 1 (n + 1 - i); omega) rfl (acc_cells (q1.trans hv)) (by show i * 3 + 3 ≤ _; rw [hs1]; omega) (one3 [a])
  have hfin : cur2.toList.take ((n + 1) * 3) = cells3 (L.take i ++ a :: L.drop i) := by
    rw [← ec2, ← ec1]
    dsimp only
    exact put_list cur.toList L a i n c hn (by omega) (by simpa using hcs) hroom htake
  have hs2 : cur2.size = c * 3 := by
    have ha : (cells3 [a]).length = 3 := rfl
    rw [← ec2]
    simp only [List.size_toArray, List.length_append, List.length_take, ha, List.length_drop, Array.length_toList]
    omega
  have HI : ∀ W, W.os = w.os → W.tape = w.tape → W.output = w.output → w.heap.size ≤ W.heap.size → (∀ k, k < w.heap.size → k ≠ g → W.heap[k]? = w.heap[k]?) → W.heap[g]? = some (.cells cur2 52 (0, 0)) → InsTold w W base (.slice (some ⟨g, 0, none⟩) n c) (.slice (some ⟨g, 0, none⟩) (n + 1) c) n (L.take i ++ a :: L.drop i) := fun W q1 q2 q3 q4 q5 q6 =>
    ⟨⟨by rw [cells3_length]; simp; omega, .inr ⟨g, c, cur2, rfl, hb, q6, hroom, hcm, hs2, hfin⟩⟩, ⟨q1, q2, q3, q4, fun k hk hne => q5 k hk (fun e => hne (by rw [e]; rfl))⟩, fun k e => .inl e⟩
  have HII : Hid _ := HI
  have HCP1 : Hid _ := hcp1
  have HCP2 : Hid _ := hcp2
  have HG : Hid (w.heap[g]? = some (.cells cur 52 (0, 0))) := hg
  have HOV : Hid _ := hov
  have hz2 : ¬ ((i : Int) = (n : Int)) := by omega
  have hz2' : ((i : Int) == (n : Int)) = false := by simpa using hz2
  have hb1 : ¬ (c = i + 1) := by omega
  have hb4 : ¬ (c = i) := by omega
  unfold maxLen at hcm
  have hw1 : IntKind.i64.wrap ((i : Int) + 1) = (i : Int) + 1 := by rw [IntKind.wrap_i64]; omega
  have hb0 : (0 : Int) ≤ (i : Int) + 1 := by omega
  have htn : ((i : Int) + 1).toNat = i + 1 := by omega
  have hb3 : (i : Int) ≤ (n : Int) + 1 := by omega
  have hle : (i : Int) + 1 ≤ (n : Int) + 1 := by omega
  have hz5 : ¬ ((c : Int) < (n : Int) + 1) := by omega
  clear hrow hv h3 hdl hat hcp1 hcp2 hfin hs2 hs1 HI hcs htake ec1 ec2 hb hg hnc hn hov
  go_enter Tryz.func69, Tryz.ntmps69
  go_wp2_with (simp only [HOV.out _ _ _ rfl rfl])
  go_region_law (refine step_copy_known rfl _ _ 43 43 rfl (.slice (some ⟨g, (i + 1) * 3, none⟩) (n - i) (c - (i + 1))) (.slice (some ⟨g, i * 3, none⟩) (n + 1 - i) (c - i)) _ _ (by simp [Act.eval, Act.put]) (by simp [Act.eval, Act.put]) (HCP1.out w.drew 3 (c - (i + 1)) (c - i) (fun _ => rfl) rfl) ?_)
  have hq := HCP2.out (w.drew.setRow g cur1) 3 (c - i) (setRow_other _ _ _ _ hne) (setRow_heap w.drew _ _ _ _ _ HG.out)
  clear HCP1 HCP2
  go_wp2
  go_ret
  refine ⟨_, rfl, HII.out _ rfl rfl rfl (by simp) (fun k hk hne => ?_) ?_⟩
  · exact (setRow_other _ _ _ _ hne).trans (setRow_other _ _ _ _ hne)
  · exact setRow_heap _ _ _ _ _ _ (setRow_heap _ _ _ _ _ _ HG.out)
set_option maxRecDepth 100000 in
set_option maxHeartbeats 4000000 in
theorem insert_grow (a : Acc) {g n c i : Nat} (hrow : w.ownsRow base 52 3 (.slice (some ⟨g, 0, none⟩) n c) n (cells3 L)) (hn : n = L.length) (hl : n < 200) (hi : i < n) (hroom : c < n + 1) (vb : Nat) (hv : w.heap[vb]? = some (.cells #[.string a.nm, .int .i64 a.amt, .string a.by_] 52 (0, 0))) (hbase : base ≤ w.heap.size) :
    Calls Tryz.prog 69 #[.slice (some ⟨g, 0, none⟩) n c, .int .i64 (i : Nat), .slice (some ⟨vb, 0, none⟩) 1 1] w fun e w' => ∃ sv', e = .returned sv' ∧ InsTold w w' base (.slice (some ⟨g, 0, none⟩) n c) sv' n (L.take i ++ a :: L.drop i) := by
  rcases hrow.2 with ⟨e1, _⟩ | ⟨g', c', cur, e1, hb, hg, hnc, hcm, hcs, htake⟩
  · simp at e1
  simp only [Value.slice.injEq, Option.some.injEq, Addr.mk.injEq, and_true, true_and] at e1
  obtain ⟨rfl, rfl⟩ := e1
  have h3 := cells3_length L
  obtain ⟨i0, hi0, hz0, hz1, hz2⟩ := info_parts info_acc
  have hgs : g < w.heap.size := (Array.getElem?_eq_some_iff.1 hg).1
  have hvs : vb < w.heap.size := (Array.getElem?_eq_some_iff.1 hv).1
  have hcell : ∀ j v, (cells3 L)[j]? = some v → w.cell? ⟨g, j, none⟩ = some v := fun j v hj => by
    have hj' : j < (cells3 L).length := (List.getElem?_eq_some_iff.1 hj).1
    rw [← htake, List.getElem?_take, if_pos (by omega)] at hj
    simp only [World.cell?, hg]
    simpa using hj
  have hdl : ((cells3 L).drop (i * 3)).length = (n - i) * 3 := by rw [List.length_drop, h3, ← hn]; omega
  have hold : (Builtin.firstCells i0.size i (.slice (some ⟨g, 0, none⟩) i c)).run Tryz.prog w.drew = .ok ((cells3 L).take (i * 3)).toArray w.drew := by
    rw [hz1]
    exact run_firstCells_some w.drew 3 i ⟨g, 0, none⟩ i c ((cells3 L).take (i * 3)) (by rw [List.length_take, h3]; omega) (fun j v hj => by
      rw [Addr.add_lit, Nat.zero_add]
      rw [List.getElem?_take] at hj
      split at hj
      · exact hcell j v hj
      · cases hj)
  have hrz0 := Lib.run_append_grow_zeros (P := Tryz.prog) w 43 3 43 52 i0 _ .i64 .i64 Tryz.underlying43 Tryz.underlying3 hi0 hz0 (some ⟨g, 0, none⟩) i c ((cells3 L).take (i * 3)) hold (n + 1 - i) (by omega) (by omega) (by omega) (by omega) (by rw [hz2]; omega) (by rw [hz2, show i + (n + 1 - i) = n + 1 by omega]; exact growslice_fits hroom (by omega))
  rw [show i + (n + 1 - i) = n + 1 by omega] at hrz0
  obtain ⟨G, hG⟩ : ∃ G, grownCap w (n + 1) c 52 = G := ⟨_, rfl⟩
  rw [hG] at hrz0
  have hGn : n + 1 ≤ G := by rw [← hG]; exact grownCap_ge w _ _ _
  have hGm : G ≤ maxLen := by rw [← hG]; exact grownCap_le_maxLen w (n + 1) c _ (by unfold maxLen; omega)
  obtain ⟨ROW, hROW⟩ : ∃ ROW : Array Value, ((cells3 L).take (i * 3)).toArray ++ Builtin.zeroCells (Value.agg #[.string ⟨#[]⟩, .int .i64 0, .string ⟨#[]⟩]).cells (n + 1 - i) ++ Builtin.zeroCells (Value.agg #[.string ⟨#[]⟩, .int .i64 0, .string ⟨#[]⟩]).cells (G - (n + 1)) = ROW := ⟨_, rfl⟩
  rw [hROW] at hrz0
  have hzc : ∀ k, (Builtin.zeroCells (Value.agg #[.string ⟨#[]⟩, .int .i64 0, .string ⟨#[]⟩]).cells k).size = k * 3 := fun k => by simp [Builtin.zeroCells, Value.cells]
  have hRs : ROW.size = G * 3 := by
    rw [← hROW]
    simp only [Array.size_append, hzc, List.size_toArray, List.length_take, h3]
    omega
  have hRt : ROW.toList.take (i * 3) = (cells3 L).take (i * 3) := by
    rw [← hROW]
    simp only [Array.toList_append, List.append_assoc]
    exact List.take_left' (by rw [List.length_take, h3]; omega)
  obtain ⟨row1, er1⟩ : ∃ row1, (ROW.toList.take (i * 3) ++ cells3 [a] ++ ROW.toList.drop (i * 3 + (cells3 [a]).length)).toArray = row1 := ⟨_, rfl⟩
  obtain ⟨row2, er2⟩ : ∃ row2, (row1.toList.take ((i + 1) * 3) ++ (cells3 L).drop (i * 3) ++ row1.toList.drop ((i + 1) * 3 + ((cells3 L).drop (i * 3)).length)).toArray = row2 := ⟨_, rfl⟩
  have ha3 : (cells3 [a]).length = 3 := rfl
  have hs1 : row1.size = G * 3 := by
    rw [← er1]
    simp only [List.size_toArray, List.length_append, List.length_take, ha3, List.length_drop, Array.length_toList]
    omega
  have hs2 : row2.size = G * 3 := by
    rw [← er2]
    simp only [List.size_toArray, List.length_append, List.length_take, hdl, List.length_drop, Array.length_toList]
    omega
  have hfin : row2.toList.take ((n + 1) * 3) = cells3 (L.take i ++ a :: L.drop i) := by
    rw [← er2, ← er1]
    dsimp only
    exact put_list2 ROW.toList L a i n G hn (by omega) (by simpa using hRs) hGn hRt
  obtain ⟨W1, hW1⟩ : ∃ W1, w.drew.alloc (.cells ROW 52) = W1 := ⟨_, rfl⟩
  have hN1 : W1.heap[w.heap.size]? = some (.cells ROW 52 (0, 0)) := by rw [← hW1]; exact heap_alloc_new w.drew _
  have hO1 : ∀ k, k < w.heap.size → W1.heap[k]? = w.heap[k]? := fun k hk => by rw [← hW1]; exact Below.heap_alloc w.drew _ k hk
  have hcp1 : (Builtin.copy_ #[43, 43] 3 #[.slice (some ⟨w.heap.size, i * 3, none⟩) (n + 1 - i) (G - i), .slice (some ⟨vb, 0, none⟩) 1 1]).run Tryz.prog W1 = .ok (goInt 1) (W1.setRow w.heap.size row1) := by
    rw [← er1]
    exact run_copy_rows W1 43 43 3 52 3 w.heap.size (i * 3) (n + 1 - i) (G - i) ⟨vb, 0, none⟩ 1 1 ROW 52 (cells3 [a]) Tryz.underlying43 size_acc hN1 1 (by show 1 = min 1 (n + 1 - i); omega) rfl (acc_cells ((hO1 vb hvs).trans hv)) (by show i * 3 + 3 ≤ _; rw [hRs]; omega) (one3 [a])
  have hN2 : (W1.setRow w.heap.size row1).heap[w.heap.size]? = some (.cells row1 52 (0, 0)) := setRow_heap _ _ _ _ _ _ hN1
  have hcp2 : (Builtin.copy_ #[43, 43] 3 #[.slice (some ⟨w.heap.size, (i + 1) * 3, none⟩) (n - i) (G - (i + 1)), .slice (some ⟨g, i * 3, none⟩) (n - i) (c - i)]).run Tryz.prog (W1.setRow w.heap.size row1).drew = .ok (goInt ((n - i : Nat) : Int)) ((W1.setRow w.heap.size row1).drew.setRow w.heap.size row2) := by
    rw [← er2]
    exact run_copy_rows (W1.setRow w.heap.size row1).drew 43 43 3 52 3 w.heap.size ((i + 1) * 3) (n - i) (G - (i + 1)) ⟨g, i * 3, none⟩ (n - i) (c - i) row1 52 ((cells3 L).drop (i * 3)) Tryz.underlying43 size_acc hN2 (n - i) (by show n - i = min (n - i) (n - i); omega) hdl (fun j v hj => by
      rw [Addr.add_lit]
      rw [List.getElem?_drop] at hj
      have e1 : (W1.setRow w.heap.size row1).drew.heap[g]? = w.heap[g]? := (setRow_other W1 _ _ _ (by omega)).trans (hO1 g hgs)
      rw [World.cell?_of_block (w := w) (a := ⟨g, i * 3 + j, none⟩) e1]
      exact hcell _ v hj) (by rw [hdl, hs1]; omega) (fun v hv => one3 L v (List.mem_of_mem_drop hv))
  have HI : Hid (InsTold w ((W1.setRow w.heap.size row1).drew.setRow w.heap.size row2) base (.slice (some ⟨g, 0, none⟩) n c) (.slice (some ⟨w.heap.size, 0, none⟩) (n + 1) G) n (L.take i ++ a :: L.drop i)) :=
    ⟨⟨by rw [cells3_length]; simp; omega, .inr ⟨w.heap.size, G, row2, rfl, hbase, setRow_heap _ _ _ _ _ _ hN2, hGn, hGm, hs2, hfin⟩⟩, ⟨by rw [← hW1]; rfl, by rw [← hW1]; rfl, by rw [← hW1]; rfl, by rw [← hW1]; simp, fun k hk _ => (setRow_other _ _ _ _ (by omega)).trans ((setRow_other W1 _ _ _ (by omega)).trans (hO1 k hk))⟩, fun k e => by
      injection e with e
      exact .inr (Nat.le_of_eq e)⟩
  rw [hW1] at hrz0
  have HRZ : Hid _ := hrz0
  have HCP2 : Hid _ := hcp2
  have HW1 : Hid _ := hW1
  unfold maxLen at hGm
  have hkk : (n : Int) + 1 - (i : Int) = ((n + 1 - i : Nat) : Int) := by omega
  have HKK : Hid _ := hkk
  have hz2' : ((i : Int) == (n : Int)) = false := by simp; omega
  have hz3 : (c : Int) < (n : Int) + 1 := by omega
  have hGi : ¬ (G = i) := by omega
  have hGi1 : ¬ (G = i + 1) := by omega
  have hci : ¬ (c = i) := by omega
  have hic : i ≤ c := by omega
  have hin : i ≤ n := by omega
  have hw1 : IntKind.i64.wrap ((i : Int) + 1) = (i : Int) + 1 := by rw [IntKind.wrap_i64]; omega
  have hb0 : (0 : Int) ≤ (i : Int) + 1 := by omega
  have htn : ((i : Int) + 1).toNat = i + 1 := by omega
  have hb3 : (i : Int) ≤ (n : Int) + 1 := by omega
  have hle : (i : Int) + 1 ≤ (n : Int) + 1 := by omega
  clear hrow hv h3 hi0 hz0 hz1 hz2 hcell hdl hold hrz0 hG hROW hzc hRs hRt er1 er2 ha3 hs1 hs2 hfin hN1 hO1 hN2 hcp2 hW1 hkk hb hg hnc hn hcs htake
  go_enter Tryz.func69, Tryz.ntmps69
  go_wp2_with (at_builtin; refine wpList_append_known rfl _ _ 43 3 rfl _ _ rfl (by show _ = Value.int .i64 ((n + 1 - i : Nat) : Int); rw [← HKK.out]; rfl) _ _ HRZ.out ?_)
  go_region_law (refine step_copy_known rfl _ _ 43 43 rfl (.slice (some ⟨w.heap.size, (i + 1) * 3, none⟩) (n - i) (G - (i + 1))) (.slice (some ⟨g, i * 3, none⟩) (n - i) (c - i)) _ _ (by simp [Act.eval, Act.put]) (by simp [Act.eval, Act.put]) HCP2.out ?_)
  go_wp2
  go_ret
  exact ⟨_, rfl, HI.out⟩
theorem insert_any (a : Acc) (hrow : w.ownsRow base 52 3 sv L.length (cells3 L)) (hl : L.length < 200) (i : Nat) (hi : i ≤ L.length) (vb : Nat) (hv : w.heap[vb]? = some (.cells #[.string a.nm, .int .i64 a.amt, .string a.by_] 52 (0, 0))) (hne : sv.ownBlock ≠ some vb) (hb : base ≤ w.heap.size) :
    Calls Tryz.prog 69 #[sv, .int .i64 (i : Nat), .slice (some ⟨vb, 0, none⟩) 1 1] w fun e w' => ∃ sv', e = .returned sv' ∧ InsTold w w' base sv sv' L.length (L.take i ++ a :: L.drop i) := by
  by_cases h : i = L.length
  · subst h
    rw [List.take_length, List.drop_length]
    exact insert_end a hrow hl vb hv hb
  · have hlt : i < L.length := by omega
    obtain ⟨g, c, e, _⟩ := row_at hrow rfl hlt
    subst e
    by_cases hr : L.length + 1 ≤ c
    · exact insert_shift a hrow rfl hl hlt hr vb hv (fun e => hne (by rw [e]; rfl))
    · exact insert_grow a hrow rfl hl hlt (by omega) vb hv hb
end
end Go.Proofs.YtdchnfggmkokhaaGreatDoor

namespace Go.Proofs.YtdchnfggmkokhaaGreatDoor
open Go.RowKit
attribute [local go_sem] Oper.semAt_some
set_option linter.unusedVariables false

/-- An account is put. -/
def putP (L : List Acc) (t : ByteArray) (n : Int) : Int × List Acc := if nameOk t = false then (46, L) else if n < 0 then (47, L) else if hasN L t = true then (41, L) else if 200 ≤ L.length then (4, L) else (0, ins L ⟨t, n, ⟨#[]⟩⟩)
section
variable {w : World} {base N : Nat} {sv : Value} {L : List Acc}
theorem BookIn.grown {w3 : World} {sv3 : Value} {L' : List Acc} (h : BookIn w base N sv L) (t : InsTold w w3 base sv sv3 L.length L') (hl : L'.length = L.length + 1) (hf : Fit L') : w3.cell? ⟨N, 0, none⟩ = some sv ∧ w3.frozen? ⟨N, 0, none⟩ = false ∧ BTold w (w3.setCell ⟨N, 0, none⟩ sv3) base N sv L' := by
  obtain ⟨t1, t2, t3⟩ := t
  have hN : w3.heap[N]? = some (.cells #[sv] 45 (0, 0)) := (t2.block N h.ltN (fun e => h.ne e.symm rfl)).trans h.hN
  have e := setCell_eq_setRow w3 N 0 _ _ _ sv3 hN
  have hne : ∀ g, sv3.ownBlock = some g → g ≠ N := fun g e q => by
    obtain ⟨_, _, cur, h3⟩ := row_kind t1 e
    rw [q, hN] at h3
    injection h3 with h3
    injection h3 with _ h3
    exact absurd h3 (by decide)
  refine ⟨by simp [World.cell?, hN], by simp [World.frozen?, hN], sv3, ⟨?_, ?_, h.bN, hf⟩, ⟨?_, ?_, ?_, ?_, fun k hk h1 h2 => ?_⟩, t3⟩
  · rw [e]
    exact setRow_heap _ _ _ _ _ _ hN
  · rw [hl, e]
    exact owns_kept t1 (fun g q => setRow_other _ _ _ _ (hne g q))
  · rw [e]; exact t2.os
  · rw [e]; exact t2.tape
  · rw [e]; exact t2.output
  · rw [e]; simpa using t2.size
  · rw [e, setRow_other _ _ _ _ h1]
    exact t2.block k hk (fun q => h2 q)
theorem BTold.drew {w' : World} {L' : List Acc} (h : BTold w w' base N sv L') : BTold w w'.drew base N sv L' := by
  obtain ⟨sv', h1, h2, h3⟩ := h
  exact ⟨sv', h1.drew, h2.drew, h3⟩
set_option maxRecDepth 100000 in
set_option maxHeartbeats 2000000 in
theorem put_any (h : BookIn w base N sv L) (t : ByteArray) (n : Int) (hn : -9223372036854775808 ≤ n ∧ n ≤ 9223372036854775807) (hs : t.size ≤ maxLen) :
    Calls Tryz.prog 34 #[.pointer (some ⟨N, 0, none⟩), .agg #[.string t, .int .i64 n]] w fun e w' => e = .returned (.int .i64 (putP L t n).1) ∧ BTold w w' base N sv (putP L t n).2 := by
  have B0 : Hid (Below w.heap.size w (w.alloc (.cells #[.string t, .int .i64 n] 50))) := (Below.refl _ w).alloc (Nat.le_refl _) _
  have HN := fun W => name_any t W hs
  have H : Hid (BookIn w base N sv L) := h
  unfold putP
  by_cases h1 : nameOk t = false
  · rw [if_pos h1]
    rw [h1] at HN
    clear h
    go_enter Tryz.func34, Tryz.ntmps34
    go_wp2_with (go_at_call 67; refine (HN _).mono ?_; rintro e w' ⟨rfl, rfl⟩)
    go_ret
    exact ⟨rfl, BTold.same H.out B0.out⟩
  rw [if_neg h1]
  have h1' : nameOk t = true := by simpa using h1
  have HK : Hid (nameOk t = true) := h1'
  rw [h1'] at HN
  clear h1 h1'
  by_cases h2 : n < 0
  · rw [if_pos h2]
    clear h
    go_enter Tryz.func34, Tryz.ntmps34
    go_wp2_with (go_at_call 67; refine (HN _).mono ?_; rintro e w' ⟨rfl, rfl⟩)
    go_ret
    exact ⟨rfl, BTold.same H.out B0.out⟩
  rw [if_neg h2]
  have HP := place_any (h.below B0.out) t
  have hu := under_le L t
  have hl := h.fit.len
  have HU : Hid (under L t ≤ L.length) := hu
  have HLL : Hid (L.length ≤ 200) := hl
  cases h3 : hasN L t with
  | true =>
    rw [if_pos rfl]
    rw [h3] at HP
    generalize under L t = c at *
    clear h h3
    go_enter Tryz.func34, Tryz.ntmps34
    go_wp2_with (first
      | (go_at_call 67; refine (HN _).mono ?_; rintro e w' ⟨rfl, rfl⟩)
      | (go_at_call 68; refine HP.mono ?_; rintro e w1 ⟨rfl, b1⟩))
    go_ret
    exact ⟨rfl, BTold.same H.out (B0.out.trans (b1.mono B0.out.size))⟩
  | false =>
    rw [if_neg (by simp)]
    rw [h3] at HP
    have H3 : Hid (hasN L t = false) := h3
    obtain ⟨a, cp, esv, _⟩ := h.sv_form
    have ES : Hid (sv = .slice a L.length cp) := esv
    by_cases h4 : 200 ≤ L.length
    · rw [if_pos h4]
      have h4' : (200 : Int) ≤ (L.length : Int) := by omega
      generalize under L t = c at *
      have HC : Hid (∀ W, Below w.heap.size w W → W.cell? ⟨N, 0, none⟩ = some (.slice a L.length cp)) := fun W hb => by rw [← ES.out]; exact (H.out.below hb).c0
      clear h h3 esv h4
      go_enter Tryz.func34, Tryz.ntmps34
      go_wp2_with (first
        | (go_at_call 67; refine (HN _).mono ?_; rintro e w' ⟨rfl, rfl⟩)
        | (go_at_call 68; refine HP.mono ?_; rintro e w1 ⟨rfl, b1⟩; have k0 := HC.out w1 (B0.out.trans (b1.mono B0.out.size))))
      go_ret
      exact ⟨rfl, BTold.same H.out (B0.out.trans (b1.mono B0.out.size))⟩
    · rw [if_neg h4]
      have h4' : ¬ (200 : Int) ≤ (L.length : Int) := by omega
      have HF : Hid (Fit (ins L ⟨t, n, ⟨#[]⟩⟩)) := h.fit.ins ⟨t, n, ⟨#[]⟩⟩ H3.out (by omega) ⟨by simp only; omega, by simp only; omega⟩ HK.out (by simp [ByteArray.size])
      have HC : Hid (∀ W, Below w.heap.size w W → W.cell? ⟨N, 0, none⟩ = some (.slice a L.length cp) ∧ W.frozen? ⟨N, 0, none⟩ = false) := fun W hb => ⟨by rw [← ES.out]; exact (H.out.below hb).c0, (H.out.below hb).fz 0⟩
      have HL4 : Hid (L.length < 200) := by show L.length < 200; omega
      clear h h3 esv h4
      go_enter Tryz.func34, Tryz.ntmps34
      go_wp2_with (first
        | (go_at_call 67; refine (HN _).mono ?_; rintro e w' ⟨rfl, rfl⟩)
        | (go_at_call 68; refine HP.mono ?_; rintro e w1 ⟨rfl, b1⟩; obtain ⟨k0, f0⟩ := HC.out w1 (B0.out.trans (b1.mono B0.out.size)); have r0 := (b1.cell (p := ⟨w.heap.size, 0, none⟩) (by simp)).trans (World.cell?_alloc_mark w #[.string t, .int .i64 n] 50 (0, 0) 0); have r1 := (b1.cell (p := ⟨w.heap.size, 1, none⟩) (by simp)).trans (World.cell?_alloc_mark w #[.string t, .int .i64 n] 50 (0, 0) 1)))
      have B1 : Hid (Below w.heap.size w w1) := B0.out.trans (b1.mono B0.out.size)
      obtain ⟨o, eo⟩ : ∃ o : Obj, o = .cells #[.string t, .int .i64 n, .string ⟨#[]⟩] 52 (0, 0) := ⟨_, rfl⟩
      have b2 : Below w1.heap.size w1 (w1.drew.alloc o) := ((Below.refl _ w1).drew).alloc (Nat.le_refl _) _
      have HB2 : Hid (BookIn (w1.drew.alloc o) base N sv L) := (H.out.below B1.out).below b2
      have B2 : Hid (Below w.heap.size w (w1.drew.alloc o)) := B1.out.trans (b2.mono B1.out.size)
      have HI := insert_any ⟨t, n, ⟨#[]⟩⟩ HB2.out.row HL4.out (under L t) HU.out w1.heap.size (by rw [eo]; exact heap_alloc_new w1.drew _) (fun e => by
        have := (row_kind (H.out.below B1.out).row e).2.1
        omega) HB2.out.size
      rw [show L.take (under L t) ++ (⟨t, n, ⟨#[]⟩⟩ : Acc) :: L.drop (under L t) = ins L ⟨t, n, ⟨#[]⟩⟩ from rfl] at HI
      rw [ES.out] at HI
      have kA : ∀ o', (w1.alloc o').cell? ⟨N, 0, none⟩ = some (.slice a L.length cp) := fun o' => by
        rw [((Below.refl w1.heap.size w1).alloc (Nat.le_refl _) o').cell (p := ⟨N, 0, none⟩) (World.block_lt_of_cell? w1 _ k0)]; exact k0
      have rA : ∀ o', (w1.alloc o').cell? ⟨w.heap.size, 0, none⟩ = some (.string t) := fun o' => by
        rw [((Below.refl w1.heap.size w1).alloc (Nat.le_refl _) o').cell (p := ⟨w.heap.size, 0, none⟩) (World.block_lt_of_cell? w1 _ r0)]; exact r0
      have rB : ∀ o', (w1.alloc o').cell? ⟨w.heap.size, 1, none⟩ = some (.int .i64 n) := fun o' => by
        rw [((Below.refl w1.heap.size w1).alloc (Nat.le_refl _) o').cell (p := ⟨w.heap.size, 1, none⟩) (World.block_lt_of_cell? w1 _ r1)]; exact r1
      clear b1 b2 HP HN hu hl
      rw [eo] at HI HB2 B2
      clear eo o
      go_region_law (go_simp; go_at_call 69; refine HI.mono ?_; rintro e w3 ⟨sv3, rfl, t3⟩; rw [← ES.out] at t3; obtain ⟨a3, c3, e3, _⟩ := row_form t3.1; subst e3; obtain ⟨z0, z1, z2⟩ := HB2.out.grown t3 (ins_length _ _) HF.out)
      all_goals
        go_wp2
        go_ret
        first
        | exact ⟨rfl, z2.after B2.out⟩
        | exact ⟨rfl, (z2.after B2.out).drew⟩
set_option maxRecDepth 100000 in
theorem open_any (h : BookIn w base N sv L) (t : ByteArray) (hs : t.size ≤ maxLen) :
    Calls Tryz.prog 13 #[.pointer (some ⟨N, 0, none⟩), .string t] w fun e w' => e = .returned (.int .i64 (putP L t 0).1) ∧ BTold w w' base N sv (putP L t 0).2 := by
  have HP := put_any h t 0 (by omega) hs
  clear h
  go_enter Tryz.func13, Tryz.ntmps13
  go_wp2_with fail
  refine HP.mono ?_
  rintro e w1 ⟨rfl, ht⟩
  have HT : Hid (BTold w w1 base N sv (putP L t 0).2) := ht
  clear ht HP
  go_wp2
  go_ret
  exact ⟨rfl, HT.out⟩
end
end Go.Proofs.YtdchnfggmkokhaaGreatDoor
