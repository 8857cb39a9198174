/- The function that Each answers, as an iterator. -/
import Derived.Test.YtdchnfggmkokhaaGreatDoorBEachF
import Derived.Test.YtdchnfggmkokhaaGreatDoorRanges
namespace Go.Proofs.YtdchnfggmkokhaaGreatDoor
open Go.RowKit Go.Shelf Cod
set_option linter.unusedVariables false
/-- What a round keeps: the block of the rows. -/
def KcV (a : Option Addr) (A B : World) : Prop := ∀ x, a = some x → ∀ cs t z, A.heap[x.block]? = some (.cells cs t z) → B.heap[x.block]? = some (.cells cs t z)
theorem KcV.tr {a : Option Addr} {A B C : World} (h : KcV a A B) (k : KcV a B C) : KcV a A C := fun x e cs t z q => k x e cs t z (h x e cs t z q)
theorem KcV.bk {a : Option Addr} (W : World) (l : Nat) (o o' : Obj) (h1 : W.heap[l]? = some o) (h2 : o.isCells = false) : KcV a W (W.putObj l o') := fun x e cs t z q => by
  have hne : x.block ≠ l := fun e2 => by rw [e2, h1] at q; cases q; simp [Obj.isCells] at h2
  have g := grownBy_putObj' W l o'
  rw [g.block x.block (Array.getElem?_eq_some_iff.1 q).1 (fun e => hne (by cases e; rfl))]
  exact q
theorem KcV.own {a : Option Addr} {A B : World} (h : KcV a A B) {base n c : Nat} {t : TypeId} {s : Nat} {xs : List Value} (o : A.ownsRow base t s (.slice a n c) n xs) : B.ownsRow base t s (.slice a n c) n xs :=
  owns_kept o (fun g e => by
    obtain ⟨_, _, cur, hc⟩ := row_kind o e
    cases a with
    | none => simp [Value.ownBlock] at e
    | some x =>
      have : x.block = g := by simpa [Value.ownBlock] using e
      subst this
      rw [hc]
      exact h x rfl _ _ _ hc)
def encV (x : RowB) : Array Value := #[.agg #[.string x.1, .int .i64 x.2]]
def RV (rows : List RowB) (pre : List RowB) (x : RowB) (_ : World) : Prop := rows[pre.length]? = some x
set_option maxRecDepth 100000 in
set_option maxHeartbeats 4000000 in
theorem values1_in (n : Nat) (L Bb base c : Nat) (a : Option Addr) (rows : List RowB) (J Jx : List RowB → World → Prop) (W : World) (hJ : LowFrom W.heap.size J)
    (hY : ∀ pre x W1, J pre W1 → RV rows pre x W1 → YieldAt Fence.wide (n - 1) Tryz.prog L (encV x) W1 fun e W' => KeepsFrom W.heap.size W1 W' ∧
      ((e = .returned (.bool true) ∧ J (pre ++ [x]) W' ∧ KcV a W1 W') ∨ (e = .returned (.bool false) ∧ Jx (pre ++ [x]) W')))
    (hbox : W.cell? ⟨Bb, 0, none⟩ = some (.slice a rows.length c)) (hrow : W.ownsRow base 50 2 (.slice a rows.length c) rows.length (cells2 rows)) (hm : rows.length ≤ 1000) (h0 : J [] W) :
    CallsIn Fence.wide n Tryz.prog 97 #[.func (.yield L) #[] #[], .pointer (some ⟨Bb, 0, none⟩)] W fun e W' => (∃ v, e = .returned v) ∧
      ((∃ xs, xs = rows ∧ J xs W') ∨ (∃ pre, True ∧ Jx pre W')) := by
  have HY : Hid (∀ pre x W1, J pre W1 → RV rows pre x W1 → YieldAt Fence.wide (n - 1) Tryz.prog L (encV x) W1 fun e W' => KeepsFrom W.heap.size W1 W' ∧
      ((e = .returned (.bool true) ∧ J (pre ++ [x]) W' ∧ KcV a W1 W') ∨ (e = .returned (.bool false) ∧ Jx (pre ++ [x]) W'))) := hY
  have HJ : Hid (LowFrom W.heap.size J) := hJ
  have HR : Hid (W.ownsRow base 50 2 (.slice a rows.length c) rows.length (cells2 rows)) := hrow
  have H0 : Hid (J [] W) := h0
  obtain ⟨m, em⟩ : ∃ m, rows.length = m := ⟨_, rfl⟩
  have EM : Hid (rows.length = m) := em
  rw [em] at hbox HR hm
  clear hY hJ hrow h0 em
  refine callsIn_of_wp Tryz.func97 rfl trivial ?_ rfl
  simp only [Tryz.ntmps97, List.size_toArray, List.length_cons, List.length_nil, Nat.reduceAdd, Nat.reduceSub, Array.replicate_succ, Array.replicate_zero, List.push_toArray, List.append_toArray, List.nil_append, List.cons_append]
  gi_wp2_with fail
  gi_loopw [7] (fun y wr => ∃ k : Nat, k ≤ m ∧ y = .int .i64 k ∧ Hid (J (rows.take k) wr) ∧ Hid (wr.ownsRow base 50 2 (.slice a m c) m (cells2 rows)) ∧ Hid (W.heap.size ≤ wr.heap.size)) (fun y _ => m - (intOf y).toNat)
  case atStart => exact ⟨0, Nat.zero_le _, rfl, H0, HR, Nat.le_refl _⟩
  case round =>
    obtain ⟨k, hk, rfl, hJs, hO, hsz⟩ := hrel
    clear hbox
    by_cases hlt : k < m
    · have hk2 : k < rows.length := by rw [EM.out]; exact hlt
      obtain ⟨a2, c2, e2, hat⟩ := rowsAt_owned hO.out EM.out.symm (by rw [EM.out]; exact hm)
      cases e2
      obtain ⟨b, off, rfl, y0, y1⟩ := hat.at hk2
      clear hat
      have HX : Hid (rows[k]? = some (rows[k]'hk2)) := List.getElem?_eq_getElem hk2
      have HT : Hid (rows.take (k + 1) = rows.take k ++ [rows[k]'hk2]) := List.take_succ_eq_append_getElem hk2
      have HLn : Hid ((rows.take k).length = k) := by show (rows.take k).length = k; rw [List.length_take]; omega
      generalize rows[k]'hk2 = x at y0 y1 HX HT
      obtain ⟨xs, xn⟩ := x
      simp only at y0 y1
      have bA : Below W.heap.size wr (wr.alloc (.cells #[.string xs, .int .i64 xn] 50)) := (Below.refl _ wr).alloc hsz.out _
      have bA2 : Below wr.heap.size wr (wr.alloc (.cells #[.string xs, .int .i64 xn] 50)) := (Below.refl _ wr).alloc (Nat.le_refl _) _
      obtain ⟨fn, tmps, assign, body, hyy, hR⟩ := HY.out (rows.take k) (xs, xn) (wr.alloc (.cells #[.string xs, .int .i64 xn] 50)) (HJ.out _ _ _ hJs.out bA) (by show rows[(rows.take k).length]? = _; rw [HLn.out]; exact HX.out)
      dsimp only [encV] at hyy
      have hO2 : Hid ((wr.alloc (.cells #[.string xs, .int .i64 xn] 50)).ownsRow base 50 2 (.slice (some ⟨b, off, none⟩) m c) m (cells2 rows)) := owns_kept hO.out (fun g e => bA2.block g (row_kind hO.out e).2.1)
      have HS : Hid (W.heap.size ≤ (wr.alloc (.cells #[.string xs, .int .i64 xn] 50)).heap.size) := Nat.le_trans hsz.out bA.size
      clear bA bA2 hO
      gi_wp2
      refine ⟨wide_room _, hR.mono ?_⟩
      rintro e W3 ⟨hkf, (⟨rfl, hJ3, hk3⟩ | ⟨rfl, hJx3⟩)⟩
      · have HJ3 : Hid (J (rows.take k ++ [(xs, xn)]) W3) := hJ3
        have HO3 : Hid _ := hk3.own hO2.out
        have HS3 : Hid (W.heap.size ≤ W3.heap.size) := Nat.le_trans HS.out hkf.size
        clear hJ3 hk3 hkf hR hyy y0 y1
        gi_wp2
        go_roundw
        case rel => exact ⟨k + 1, by omega, by go_num, by rw [HT.out]; exact HJ3, HO3, HS3⟩
        case measure => simp only [intOf]; omega
      · gi_wp2
        (try simp only [Exit.inBlock, Exit.then])
        refine bodyPost_ret (results_none rfl _ _ _) rfl ?_
        exact ⟨⟨_, rfl⟩, .inr ⟨_, trivial, hJx3⟩⟩
    · obtain rfl : k = m := by omega
      gi_wp2
      go_end0
      exact ⟨⟨_, rfl⟩, .inl ⟨rows, rfl, by rw [← EM.out, List.take_length] at hJs; exact hJs.out⟩⟩
theorem values1_seq (n Bb base c : Nat) (a : Option Addr) (rows : List RowB) (w : World) (hbox : w.cell? ⟨Bb, 0, none⟩ = some (.slice a rows.length c)) (hrow : w.ownsRow base 50 2 (.slice a rows.length c) rows.length (cells2 rows)) (hm : rows.length ≤ 1000) :
    SeqR n Tryz.prog 97 #[.pointer (some ⟨Bb, 0, none⟩)] encV (KcV a) (RV rows) (fun xs => xs = rows) (fun _ => True) w := fun L J Jx W hW hJ hJx hY h0 =>
  values1_in n L Bb base c a rows J Jx W hJ hY ((hW.cell (p := ⟨Bb, 0, none⟩) (World.block_lt_of_cell? w _ hbox)).trans hbox) (owns_kept hrow (fun g e => hW.block g (row_kind hrow e).2.1)) hm h0
end Go.Proofs.YtdchnfggmkokhaaGreatDoor
