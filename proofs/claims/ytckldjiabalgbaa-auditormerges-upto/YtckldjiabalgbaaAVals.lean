/- Package auditor: Asks of an auditor that is there; slices.Values as an iterator. -/
import Derived.Test.YtckldjiabalgbaaALin
import Derived.Test.YtckldjiabalgbaaATold
namespace Go.Proofs.Ytckldjiabalgbaa
open Go.RowKit Go.Shelf
attribute [local go_sem] Oper.semAt_some
set_option linter.unusedVariables false

/-- What a round keeps: the block of the row. -/
def KcR (a : Option Addr) (A B : World) : Prop := ∀ x, a = some x → ∀ cs t z, A.heap[x.block]? = some (.cells cs t z) → B.heap[x.block]? = some (.cells cs t z)
theorem KcR.tr {a : Option Addr} {A B C : World} (h : KcR a A B) (k : KcR a B C) : KcR a A C := fun x e cs t z q => k x e cs t z (h x e cs t z q)
theorem KcR.bk {a : Option Addr} (W : World) (l : Nat) (o o' : Obj) (h1 : W.heap[l]? = some o) (h2 : o.isCells = false) : KcR a W (W.putObj l o') := fun x e cs t z q => by
  have hne : x.block ≠ l := fun e2 => by rw [e2, h1] at q; cases q; simp [Obj.isCells] at h2
  have g := grownBy_putObj' W l o'
  rw [g.block x.block (Array.getElem?_eq_some_iff.1 q).1 (fun e => hne (by cases e; rfl))]
  exact q
theorem KcR.of_below {a : Option Addr} {A B : World} (b : Below A.heap.size A B) : KcR a A B := fun x e cs t z q => (b.block _ (Array.getElem?_eq_some_iff.1 q).1).trans q
theorem KcR.own {a : Option Addr} {A B : World} (h : KcR a A B) {base n c : Nat} {t : TypeId} {s : Nat} {xs : List Value} (o : A.ownsRow base t s (.slice a n c) n xs) : B.ownsRow base t s (.slice a n c) n xs :=
  owns_kept o (fun g e => by
    obtain ⟨_, _, cur, hc⟩ := row_kind o e
    cases a with
    | none => simp [Value.ownBlock] at e
    | some x =>
      have : x.block = g := by simpa [Value.ownBlock] using e
      subst this
      rw [hc]
      exact h x rfl _ _ _ hc)
def RVa (l : List AskV) (pre : List AskV) (x : AskV) (_ : World) : Prop := l[pre.length]? = some x
theorem setRow_new (w : World) (z cs : Array Value) (t : TypeId) : (w.alloc (.cells z t)).setRow w.heap.size cs = w.alloc (.cells cs t) := by
  unfold World.setRow World.alloc
  congr 1
  apply Array.ext_getElem?
  intro k
  rw [Array.getElem?_modify]
  by_cases hk : w.heap.size = k
  · subst hk; simp
  · rw [if_neg hk, Array.getElem?_push, Array.getElem?_push, if_neg (fun e => hk e.symm), if_neg (fun e => hk e.symm)]
theorem ask_cells_one (x : AskV) (h : x.2.data.oneCell' = true) : (AskV.cells x).toArray.all (·.oneCell') = true := by
  rw [List.all_toArray]
  exact List.all_eq_true.2 (one_askA x h)
set_option maxRecDepth 100000 in
set_option maxHeartbeats 4000000 in
theorem values1A_in (n L Bb base c : Nat) (a : Option Addr) (l : List AskV) (J Jx : List AskV → World → Prop) (W : World) (hJ : UpB J)
    (hY : ∀ pre x W1, J pre W1 → RVa l pre x W1 → YieldAt Fence.wide (n - 1) Try.prog L (encA x) W1 fun e W' => KeepsFrom W.heap.size W1 W' ∧
      ((e = .returned (.bool true) ∧ J (pre ++ [x]) W' ∧ KcR a W1 W') ∨ (e = .returned (.bool false) ∧ Jx (pre ++ [x]) W')))
    (hbox : W.cell? ⟨Bb, 0, none⟩ = some (.slice a l.length c)) (hrow : W.ownsRow base 53 18 (.slice a l.length c) l.length (flat AskV.cells l)) (hm : l.length ≤ 1000) (hd : ∀ x ∈ l, x.2.data.oneCell' = true) (h0 : J [] W) :
    CallsIn Fence.wide n Try.prog 34 #[.func (.yield L) #[] #[], .pointer (some ⟨Bb, 0, none⟩)] W fun e W' => (∃ v, e = .returned v) ∧
      ((∃ xs, xs = l ∧ J xs W') ∨ (∃ pre, True ∧ Jx pre W')) := by
  have HY : Hid (∀ pre x W1, J pre W1 → RVa l pre x W1 → YieldAt Fence.wide (n - 1) Try.prog L (encA x) W1 fun e W' => KeepsFrom W.heap.size W1 W' ∧
      ((e = .returned (.bool true) ∧ J (pre ++ [x]) W' ∧ KcR a W1 W') ∨ (e = .returned (.bool false) ∧ Jx (pre ++ [x]) W'))) := hY
  have HJ : Hid (UpB J) := hJ
  have HR : Hid (W.ownsRow base 53 18 (.slice a l.length c) l.length (flat AskV.cells l)) := hrow
  have H0 : Hid (J [] W) := h0
  have HD : Hid (∀ x ∈ l, x.2.data.oneCell' = true) := hd
  obtain ⟨m, em⟩ : ∃ m, l.length = m := ⟨_, rfl⟩
  have EM : Hid (l.length = m) := em
  rw [em] at hbox HR hm
  clear hY hJ hrow h0 em hd
  refine callsIn_of_wp Try.func34 rfl trivial ?_ rfl
  simp only [Try.ntmps34, List.size_toArray, List.length_cons, List.length_nil, Nat.reduceAdd, Nat.reduceSub, Array.replicate_succ, Array.replicate_zero, List.push_toArray, List.append_toArray, List.nil_append, List.cons_append]
  gi_wp2_with fail
  gi_loopw [7] (fun y wr => ∃ k : Nat, k ≤ m ∧ y = .int .i64 k ∧ Hid (J (l.take k) wr) ∧ Hid (wr.ownsRow base 53 18 (.slice a m c) m (flat AskV.cells l)) ∧ Hid (W.heap.size ≤ wr.heap.size)) (fun y _ => m - (intOf y).toNat)
  case atStart => exact ⟨0, Nat.zero_le _, rfl, H0, HR, Nat.le_refl _⟩
  case round =>
    obtain ⟨k, hk, rfl, hJs, hO, hsz⟩ := hrel
    clear hbox
    by_cases hlt : k < m
    · have hk2 : k < l.length := by rw [EM.out]; exact hlt
      have hkz : (k : Int) < (m : Int) := by omega
      obtain ⟨a2, c2, e2, hat, _⟩ := recs_owned askCells18 hO.out EM.out.symm
      cases e2
      obtain ⟨b, off, rfl, hcell⟩ := hat.at hk2
      clear hat
      have hrange : wr.rangeAt b (off + k * 18) (AskV.cells (l[k]'hk2)) := hcell
      have HX : Hid (l[k]? = some (l[k]'hk2)) := List.getElem?_eq_getElem hk2
      have HT : Hid (l.take (k + 1) = l.take k ++ [l[k]'hk2]) := List.take_succ_eq_append_getElem hk2
      have HLn : Hid ((l.take k).length = k) := by show (l.take k).length = k; rw [List.length_take]; omega
      have hone := ask_cells_one (l[k]'hk2) (HD.out _ (List.getElem_mem hk2))
      generalize l[k]'hk2 = x at hrange HX HT hone
      have hC18 : (AskV.cells x).length = 18 := askCells18 x
      obtain ⟨fn, tmps, assign, body, hyy, hR⟩ := HY.out (l.take k) x (wr.alloc (.cells (AskV.cells x).toArray 53)) (HJ.out _ _ _ hJs.out ((Below.refl _ wr).alloc (Nat.le_refl _) _)) (by show l[(l.take k).length]? = _; rw [HLn.out]; exact HX.out)
      dsimp only [encA] at hyy
      have hnew := heap_alloc_new wr (.cells (AskV.cells x).toArray 53)
      have bA2 : Below wr.heap.size wr (wr.alloc (.cells (AskV.cells x).toArray 53)) := (Below.refl _ wr).alloc (Nat.le_refl _) _
      have hO2 : Hid ((wr.alloc (.cells (AskV.cells x).toArray 53)).ownsRow base 53 18 (.slice (some ⟨b, off, none⟩) m c) m (flat AskV.cells l)) := owns_kept hO.out (fun g e => bA2.block g (row_kind hO.out e).2.1)
      have HS : Hid (W.heap.size ≤ (wr.alloc (.cells (AskV.cells x).toArray 53)).heap.size) := Nat.le_trans hsz.out bA2.size
      obtain ⟨C, hCC⟩ : ∃ C, C = AskV.cells x := ⟨_, rfl⟩
      rw [← hCC] at hrange hC18 hone hyy hnew
      obtain ⟨V, hV⟩ : ∃ V, V = wr.alloc (.cells (AskV.cells x).toArray 53) := ⟨_, rfl⟩
      rw [← hV] at hR hO2 HS
      rw [← hCC] at hV
      rw [← hV] at hnew hyy
      have HV : Hid (V = wr.alloc (.cells C.toArray 53)) := hV
      have HRG : Hid (wr.rangeAt b (off + k * 18) C) := hrange
      have HC18 : Hid (C.length = 18) := hC18
      have HZ18 : Hid (C.toArray.size = 18) := (show C.toArray.size = 18 by rw [List.size_toArray]; exact hC18)
      have HON : Hid (C.toArray.all (·.oneCell') = true) := hone
      have HNW : Hid (V.heap[wr.heap.size]? = some (.cells C.toArray 53 (0, 0))) := hnew
      clear bA2 hO hcell hrange hCC hC18 hone hnew hV
      gi_wp2_with (first
        | (refine listIn_mid 53 (.tmp 9) b (off + k * 18) C _ rfl rfl rfl HRG.out Try.underlying53 rfl (by rw [HC18.out]; kernel_rfl) ?_)
        | (refine listIn_store_row 53 (.tmp 4) (.tmp 10) wr.heap.size C.toArray 53 _ rfl rfl rfl rfl (heap_alloc_new wr _) (by rw [HZ18.out]; kernel_rfl) (by rw [HZ18.out]; rfl) HON.out ?_; rw [setRow_new, ← HV.out])
        | (refine listIn_row 53 (.tmp 4) wr.heap.size 53 _ (0, 0) _ rfl rfl rfl HNW.out Try.underlying53 rfl (by rw [HZ18.out]; kernel_rfl) ?_))
      refine ⟨wide_room _, hR.mono ?_⟩
      rintro e W3 ⟨hkf, (⟨rfl, hJ3, hk3⟩ | ⟨rfl, hJx3⟩)⟩
      · have HJ3 : Hid (J (l.take k ++ [x]) W3) := hJ3
        have HO3 : Hid _ := hk3.own hO2.out
        have HS3 : Hid (W.heap.size ≤ W3.heap.size) := Nat.le_trans HS.out hkf.size
        clear hJ3 hk3 hkf hR hyy HRG HNW HV HON
        gi_wp2
        go_roundw
        case rel => exact ⟨k + 1, by omega, by go_num, by rw [HT.out]; exact HJ3, HO3, HS3⟩
        case measure => simp only [intOf]; omega
      · gi_wp2
        (try simp only [Exit.inBlock, Exit.then])
        refine bodyPost_ret (results_none rfl _ _ _) rfl ?_
        exact ⟨⟨_, rfl⟩, .inr ⟨_, trivial, hJx3⟩⟩
    · obtain rfl : k = m := by omega
      have hkz : ¬ (k : Int) < (k : Int) := by omega
      gi_wp2
      go_end0
      exact ⟨⟨_, rfl⟩, .inl (by rw [← EM.out, List.take_length] at hJs; exact hJs.out)⟩
theorem values1A_seq (n Bb base c : Nat) (a : Option Addr) (l : List AskV) (w : World) (hbox : w.cell? ⟨Bb, 0, none⟩ = some (.slice a l.length c)) (hrow : w.ownsRow base 53 18 (.slice a l.length c) l.length (flat AskV.cells l)) (hm : l.length ≤ 1000) (hd : ∀ x ∈ l, x.2.data.oneCell' = true) :
    SeqV n Try.prog 34 #[.pointer (some ⟨Bb, 0, none⟩)] encA (KcR a) (RVa l) (fun xs => xs = l) (fun _ => True) w := fun L J Jx W hW hJ hJx pJ pJx hY h0 =>
  values1A_in n L Bb base c a l J Jx W hJ hY ((hW.cell (p := ⟨Bb, 0, none⟩) (World.block_lt_of_cell? w _ hbox)).trans hbox) (owns_kept hrow (fun g e => hW.block g (row_kind hrow e).2.1)) hm hd h0
end Go.Proofs.Ytckldjiabalgbaa
