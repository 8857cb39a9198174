/- Package txn: the function that others answers, as an iterator. -/
import Derived.Test.YtbilnleglnbnlaaXClone
import Derived.Test.YtbilnleglnbnlaaXUp
namespace Go.Proofs.Ytbilnleglnbnlaa
open Go.RowKit Go.Shelf
set_option linter.unusedVariables false

/-- What a round keeps: every block that holds no asks. -/
def KeepX (A B : World) : Prop := ∀ (k : Nat) (cs : Array Value) (t : TypeId) (z : Nat × Nat), A.heap[k]? = some (.cells cs t z) → t ≠ 41 → t ≠ 49 → B.heap[k]? = some (.cells cs t z)
theorem KeepX.tr {A B C : World} (h : KeepX A B) (k : KeepX B C) : KeepX A C := fun g cs t z q h1 h2 => k g cs t z (h g cs t z q h1 h2) h1 h2
theorem KeepX.refl (A : World) : KeepX A A := fun _ _ _ _ q _ _ => q
theorem KeepX.bk (W : World) (l : Nat) (o o' : Obj) (h1 : W.heap[l]? = some o) (h2 : o.isCells = false) : KeepX W (W.putObj l o') := fun g cs t z q _ _ => by
  have hne : g ≠ l := fun e2 => by rw [e2, h1] at q; cases q; simp [Obj.isCells] at h2
  rw [World.putObj_heap_other hne]
  exact q
theorem KeepX.of_below {A B : World} (b : Below A.heap.size A B) : KeepX A B := fun g cs t z q _ _ => (b.block g (Array.getElem?_eq_some_iff.1 q).1).trans q
/-- The shards from 1 on, but one. -/
def upto (me : Int) : Nat → List Int
  | 0 => []
  | k + 1 => if ((k + 1 : Nat) : Int) = me then upto me k else upto me k ++ [((k + 1 : Nat) : Int)]
def othersL (me sh : Int) : List Int := if 3 < sh then [] else upto me sh.toNat
abbrev encO (x : Int) : Array Value := #[.int .i64 x]
def RO (me sh : Int) (pre : List Int) (x : Int) (_ : World) : Prop := ∃ k : Nat, x = ((k + 1 : Nat) : Int) ∧ pre = upto me k ∧ ((k + 1 : Nat) : Int) ≤ sh ∧ sh ≤ 3 ∧ ((k + 1 : Nat) : Int) ≠ me
set_option maxRecDepth 100000 in
set_option maxHeartbeats 4000000 in
theorem others1_in (n : Nat) (L Bs Bm : Nat) (me sh : Int) (J Jx : List Int → World → Prop) (W : World)
    (hY : ∀ pre x W1, J pre W1 → RO me sh pre x W1 → YieldAt Fence.wide (n - 1) Try.prog L (encO x) W1 fun e W' => KeepsFrom W.heap.size W1 W' ∧
      ((e = .returned (.bool true) ∧ J (pre ++ [x]) W' ∧ KeepX W1 W') ∨ (e = .returned (.bool false) ∧ Jx (pre ++ [x]) W')))
    (hs : W.heap[Bs]? = some (.cells #[.int .i64 sh] 3 (0, 0))) (hme : W.heap[Bm]? = some (.cells #[.int .i64 me] 3 (0, 0))) (h0 : J [] W) :
    CallsIn Fence.wide n Try.prog 21 #[.func (.yield L) #[] #[], .pointer (some ⟨Bs, 0, none⟩), .pointer (some ⟨Bm, 0, none⟩)] W fun e W' => (∃ v, e = .returned v) ∧
      ((∃ xs, xs = othersL me sh ∧ J xs W') ∨ (∃ pre, True ∧ Jx pre W')) := by
  have HY : Hid (∀ pre x W1, J pre W1 → RO me sh pre x W1 → YieldAt Fence.wide (n - 1) Try.prog L (encO x) W1 fun e W' => KeepsFrom W.heap.size W1 W' ∧
      ((e = .returned (.bool true) ∧ J (pre ++ [x]) W' ∧ KeepX W1 W') ∨ (e = .returned (.bool false) ∧ Jx (pre ++ [x]) W'))) := hY
  have H0 : Hid (J [] W) := h0
  have HS : Hid (W.heap[Bs]? = some (.cells #[.int .i64 sh] 3 (0, 0))) := hs
  have HM : Hid (W.heap[Bm]? = some (.cells #[.int .i64 me] 3 (0, 0))) := hme
  have c1 : W.cell? ⟨Bs, 0, none⟩ = some (.int .i64 sh) := by simp only [World.cell?, hs]; rfl
  clear hY h0 hs hme
  refine callsIn_of_wp Try.func21 rfl trivial ?_ rfl
  simp only [Try.ntmps21, List.size_toArray, List.length_cons, List.length_nil, Nat.reduceAdd, Nat.reduceSub, Array.replicate_succ, Array.replicate_zero, List.push_toArray, List.append_toArray, List.nil_append, List.cons_append]
  by_cases h3 : 3 < sh
  · have HO : Hid (othersL me sh = []) := by show othersL me sh = []; unfold othersL; rw [if_pos h3]
    gi_wp2
    (try simp only [Exit.inBlock, Exit.then])
    refine bodyPost_ret (results_none rfl _ _ _) rfl ?_
    exact ⟨⟨_, rfl⟩, .inl ⟨[], HO.out.symm, H0.out⟩⟩
  · have HO : Hid (othersL me sh = upto me sh.toNat) := by show othersL me sh = _; unfold othersL; rw [if_neg h3]
    have H3 : Hid (¬ 3 < sh) := h3
    gi_wp2_with fail
    gi_loopw [4] (fun y wr => ∃ (k : Nat) (g : Int), Hid (g = ((k + 1 : Nat) : Int) ∧ (k : Int) ≤ max sh 0) ∧ y = .int .i64 g ∧ Hid (J (upto me k) wr) ∧ Hid (wr.heap[Bs]? = some (.cells #[.int .i64 sh] 3 (0, 0))) ∧ Hid (wr.heap[Bm]? = some (.cells #[.int .i64 me] 3 (0, 0)))) (fun y _ => (sh + 2 - intOf y).toNat)
    case atStart => exact ⟨0, 1, ⟨rfl, by omega⟩, rfl, H0, HS, HM⟩
    case round =>
      obtain ⟨k, g, HG, rfl, hJ, hs, hme⟩ := hrel
      have d1 : wr.cell? ⟨Bs, 0, none⟩ = some (.int .i64 sh) := by simp only [World.cell?, hs.out]; rfl
      have d2 : wr.cell? ⟨Bm, 0, none⟩ = some (.int .i64 me) := by simp only [World.cell?, hme.out]; rfl
      clear c1 h3
      by_cases hlt : g ≤ sh
      · have hw : wrap64 (g + 1) = g + 1 := by have := H3.out; have := HG.out; unfold wrap64; omega
        have HLT : Hid (g ≤ sh) := hlt
        have hl : decide (g ≤ sh) = true := decide_eq_true hlt
        by_cases hm : g = me
        · have HU : Hid (upto me (k + 1) = upto me k) := by show upto me (k + 1) = _; simp only [upto]; rw [if_pos (by rw [← HG.out.1]; exact hm)]
          have hb : (g != me) = false := by simpa using hm
          clear hm
          gi_wp2
          refine ⟨fun _ hno => (by cases hno), ?_⟩
          rename_i hKK _ _ _ _
          refine hKK _ _ ?_
          gi_wp2
          go_roundw
          case rel => exact ⟨k + 1, g + 1, ⟨by have := HG.out; omega, by have := HG.out; have := HLT.out; omega⟩, by first | rfl | rw [hw], by rw [HU.out]; exact hJ, hs, hme⟩
          case measure => have := HLT.out; simp only [intOf]; omega
        · have HU : Hid (upto me (k + 1) = upto me k ++ [g]) := by show upto me (k + 1) = _; simp only [upto]; rw [if_neg (by rw [← HG.out.1]; exact hm), HG.out.1]
          have hb : (g != me) = true := by simpa using hm
          obtain ⟨fn, tmps, assign, body, hyy, hR⟩ := HY.out (upto me k) g wr hJ.out ⟨k, HG.out.1, rfl, by have := HG.out; omega, by have := H3.out; omega, by rw [← HG.out.1]; exact hm⟩
          dsimp only [encO] at hyy
          clear hm
          gi_wp2
          refine ⟨wide_room _, hR.mono ?_⟩
          rintro e W3 ⟨hkf, (⟨rfl, hJ3, hk3⟩ | ⟨rfl, hJx3⟩)⟩
          · have HJ3 : Hid (J (upto me k ++ [g]) W3) := hJ3
            have HS3 : Hid (W3.heap[Bs]? = some (.cells #[.int .i64 sh] 3 (0, 0))) := hk3 _ _ _ _ hs.out (by decide) (by decide)
            have HM3 : Hid (W3.heap[Bm]? = some (.cells #[.int .i64 me] 3 (0, 0))) := hk3 _ _ _ _ hme.out (by decide) (by decide)
            clear hJ3 hk3 hkf hR hyy d1 d2 hs hme hJ
            gi_wp2
            go_roundw
            case rel => exact ⟨k + 1, g + 1, ⟨by have := HG.out; omega, by have := HG.out; have := HLT.out; omega⟩, by first | rfl | rw [hw], by rw [HU.out]; exact HJ3, HS3, HM3⟩
            case measure => have := HLT.out; simp only [intOf]; omega
          · gi_wp2
            (try simp only [Exit.inBlock, Exit.then])
            refine bodyPost_ret (results_none rfl _ _ _) rfl ?_
            exact ⟨⟨_, rfl⟩, .inr ⟨_, trivial, hJx3⟩⟩
      · have HE : Hid (sh.toNat = k) := by show _ = _; have := HG.out; omega
        gi_wp2
        go_end0
        exact ⟨⟨_, rfl⟩, .inl (by rw [HO.out, HE.out]; exact hJ.out)⟩
theorem others1_seq (n Bs Bm : Nat) (me sh : Int) (w : World) (hs : w.heap[Bs]? = some (.cells #[.int .i64 sh] 3 (0, 0))) (hme : w.heap[Bm]? = some (.cells #[.int .i64 me] 3 (0, 0))) :
    SeqV n Try.prog 21 #[.pointer (some ⟨Bs, 0, none⟩), .pointer (some ⟨Bm, 0, none⟩)] encO KeepX (RO me sh) (fun xs => xs = othersL me sh) (fun _ => True) w := fun L J Jx W hW hJ hJx _ _ hY h0 =>
  others1_in n L Bs Bm me sh J Jx W hY ((hW.block _ (Array.getElem?_eq_some_iff.1 hs).1).trans hs) ((hW.block _ (Array.getElem?_eq_some_iff.1 hme).1).trans hme) h0
end Go.Proofs.Ytbilnleglnbnlaa
