/- Package auditor: slices.SortStableFunc of rows by their names. -/
import Derived.Test.YtckldjiabalgbaaSStable
import Derived.Test.YtckldjiabalgbaaARows
import Derived.Test.YtckldjiabalgbaaBMath
namespace Go.Proofs.Ytckldjiabalgbaa
open Go.Shelf Go.RowKit Go.Lib Go.Sort
attribute [local go_sem] Oper.semAt_some
set_option linter.unusedVariables false
/-- Where the shelf's numbers lie here. -/
def renI : Ren := ⟨fun n => if n = 20 then 31 else n, fun n => if n = 24 then 28 else if n = 25 then 63 else if n = 22 then 22 else n, fun n => n⟩
theorem insL : SlLaysF0.n20 Try.prog renI where
  mixed := by kernel_rfl
  f20 := ⟨Try.f31.name, by kernel_rfl, Try.func31.trans (by kernel_rfl)⟩
  t0 := by kernel_rfl
  a0 := fun w => by kernel_rfl
  z0 := fun w => by kernel_rfl
  v0 := fun w => by kernel_rfl
  t3 := by kernel_rfl
  a3 := fun w => by kernel_rfl
  z3 := fun w => by kernel_rfl
  v3 := fun w => by kernel_rfl
  t4 := by kernel_rfl
  a4 := fun w => by kernel_rfl
  z4 := fun w => by kernel_rfl
  v4 := fun w => by kernel_rfl
  t22 := by kernel_rfl
  a22 := fun w => by kernel_rfl
  z22 := fun w => by kernel_rfl
  v22 := fun w => by kernel_rfl
  t25 := by kernel_rfl
  a25 := fun w => by kernel_rfl
  z25 := fun w => by kernel_rfl
  v25 := fun w => by kernel_rfl

abbrev RowV := ByteArray × Int
/-- A row's two cells. -/
def encR (x : RowV) : List Value := [.string x.1, .int .i64 x.2]
def cfR (x y : RowV) : Int := cmpT x.1 y.1
theorem ltR (x y : RowV) : ltOf cfR x y = decide (Ahead x.1 y.1) := by
  unfold ltOf cfR
  rw [decide_eq_decide]
  exact cmpT_neg _ _
theorem swoR : SWO (ltOf cfR) where
  irrefl x := by rw [ltR]; exact decide_eq_false (ahead_irrefl _)
  trans x y z h1 h2 := by
    rw [ltR] at *
    exact decide_eq_true (ahead_trans (of_decide_eq_true h1) (of_decide_eq_true h2))
  ntrans x y z h1 h2 := by
    rw [ltR] at *
    refine decide_eq_false fun h => ?_
    have n1 := of_decide_eq_false h1
    have n2 := of_decide_eq_false h2
    rcases ahead_total x.1 y.1 with a | a | a
    · exact n1 a
    · exact n2 (a ▸ h)
    · exact n2 (ahead_trans a h)
set_option maxHeartbeats 1000000 in
set_option maxRecDepth 100000 in
theorem cmpStringR (a b : ByteArray) (w : World) : Calls Try.prog 26 #[.string a, .string b] w fun e w' => e = .returned (.int .i64 (cmpT a b)) ∧ w' = w := by
  go_enter Try.func26, Try.ntmps26
  go_wp2
  rw [run_callFunc_extern Try.func33 (by kernel_rfl) (by kernel_rfl) (by kernel_rfl) (e := Extern.BytealgCompare.compare) (by kernel_rfl), Lib.run_compareString]
  simp only [Result.andThen]
  rw [Oper.upon_value]
  go_wp2
  go_ret
  exact ⟨rfl, rfl⟩
set_option maxHeartbeats 1000000 in
set_option maxRecDepth 100000 in
theorem compareR (a b : ByteArray) (w : World) : Calls Try.prog 17 #[.string a, .string b] w fun e w' => e = .returned (.int .i64 (cmpT a b)) ∧ w' = w := by
  go_enter Try.func17, Try.ntmps17
  go_wp2_with (go_at_call 26; refine (cmpStringR _ _ _).mono ?_; rintro e w' ⟨rfl, rfl⟩)
  go_ret
  exact ⟨rfl, rfl⟩
set_option maxRecDepth 100000 in
theorem closureR (x y : RowV) (W : World) : Calls Try.prog 16 #[.agg #[.string x.1, .int .i64 x.2], .agg #[.string y.1, .int .i64 y.2]] W fun e w' => e = .returned (.int .i64 (cfR x y)) ∧ ∃ q os', w' = grow (W.drewN q) os' := by
  have HC := fun V => compareR x.1 y.1 V
  unfold cfR
  go_enter Try.func16, Try.ntmps16
  go_wp2_with (go_at_call 17; refine (HC _).mono ?_; rintro e w1 ⟨rfl, rfl⟩)
  go_ret
  exact ⟨rfl, 0, _, by rw [alloc_eq_grow, alloc_eq_grow, grow_grow]; rfl⟩
theorem cmpLaysR (blk off size : Nat) (w : World) : CmpLays Try.prog 16 #[] encR 2 cfR blk off size w := fun _ _ _ _ x y => closureR x y _
theorem egR : ∀ args w, (callFunc 16 args).run Try.prog w = .ok (.enter 16 args) w := enters_of Try.func16 (by kernel_rfl) rfl
theorem oneR : ∀ x : RowV, ∀ v ∈ encR x, v.oneCell' = true := fun x v hv => by simp [encR] at hv; rcases hv with rfl | rfl <;> rfl
/-- insertion sort, from a world of the sort's to one. -/
theorem insR_w {blk off cap a b : Nat} {d0 d : Array RowV} {w0 w : World} (R : RowK encR 2 w0 blk off d0) (hs : d0.size = d.size) (S : SWK encR 2 w0 blk off d w) (hab : a ≤ b) (hb : b ≤ d.size) (hsz : d.size < 4611686018427387904) :
    Calls Try.prog 31 #[.slice (some ⟨blk, off, none⟩) d.size cap, .int .i64 a, .int .i64 b, .func (.func 16) #[] #[]] w fun e w' => e = .returned (.tuple #[]) ∧ SWK encR 2 w0 blk off (Sort.insertionSort (ltOf cfR) d a b) w' := by
  have hz : (Sort.insertionSort (ltOf cfR) d a b).size = d.size := (insertionSort_holds swoR d a b hab hb).1.1
  have hcon := AnyQ.insertionSortCmpFunc insL 2 (fun w => by kernel_rfl) (fun w => by kernel_rfl) encR (fun _ => rfl) oneR cfR 16 #[] blk off cap a b d w egR (cmpLaysR blk off d.size w) (S.holds R.hblk R.hH hs.symm) (S.lt R.hblk) hab hb hsz
  refine Calls.mono hcon ?_
  rintro e w' ⟨rfl, n, os, rfl⟩
  exact ⟨rfl, S.on R.hblk n _ os hz⟩
/-! ### A row of the call's own -/
theorem flatR_at (l : List RowV) (j : Nat) (hj : j < l.length * 2) : (rowCellsX l)[j]? = some ((encR l.toArray[j / 2]!)[j % 2]!) := by
  have h2 : j / 2 < l.length := by omega
  obtain ⟨e1, e2⟩ := rowCellsX_get l (j / 2) h2
  have ea : l.toArray[j / 2]! = l[j / 2] := by rw [getElem!_pos l.toArray (j / 2) (by simpa using h2)]; rfl
  rw [ea]
  rcases (by omega : j % 2 = 0 ∨ j % 2 = 1) with e | e
  · have ej : j = j / 2 * 2 := by omega
    rw [e, congrArg (fun q => (rowCellsX l)[q]?) ej]
    exact e1
  · have ej : j = j / 2 * 2 + 1 := by omega
    rw [e, congrArg (fun q => (rowCellsX l)[q]?) ej]
    exact e2
theorem holdsR {w : World} {g : Nat} {cur : Array Value} {T : TypeId} {l : List RowV} (h : w.heap[g]? = some (.cells cur T (0, 0))) (ht : cur.toList.take (l.length * 2) = rowCellsX l) : HoldsK encR 2 w g 0 l.toArray := by
  intro j hj
  have hj' : j < l.length * 2 := by simpa using hj
  have e : cur[j]? = some ((encR l.toArray[j / 2]!)[j % 2]!) := by
    have := flatR_at l j hj'
    rw [← ht, List.getElem?_take, if_pos hj'] at this
    simpa using this
  refine ⟨?_, by simp [World.frozen?, h]⟩
  rw [get_flatK _ _ _ _ (by simpa using hj'), Nat.zero_add]
  simp only [World.cell?, h]
  exact e
theorem swkForm {w W : World} {g : Nat} {d : Array RowV} {cur : Array Value} {T : TypeId} (S : SWK encR 2 w g 0 d W) (h : w.heap[g]? = some (.cells cur T (0, 0))) : (∃ cur', W.heap[g]? = some (.cells cur' T (0, 0)) ∧ cur'.size = cur.size) ∧ (∀ K, K < w.heap.size → K ≠ g → W.heap[K]? = w.heap[K]?) ∧ w.heap.size ≤ W.heap.size ∧ W.os = w.os ∧ W.tape = w.tape ∧ W.output = w.output := by
  obtain ⟨n, os, rfl⟩ := S
  have hg : g < w.heap.size := (Array.getElem?_eq_some_iff.1 h).1
  have hz : ∀ f, (mapBlock (Sort.ahead w n) g f).heap.size = w.heap.size := fun f => by simp [mapBlock, Sort.ahead]
  refine ⟨⟨putCells id 0 (flatK encR 2 d) cur, ?_, by simp [putCells]⟩, fun K hK hn => ?_, ?_, rfl, rfl, rfl⟩
  · show ((mapBlock (Sort.ahead w n) g _).heap ++ os)[g]? = _
    rw [Array.getElem?_append_left (by rw [hz]; exact hg)]
    show (w.heap.modify g _)[g]? = _
    rw [Array.getElem?_modify, if_pos rfl, h]
    rfl
  · show ((mapBlock (Sort.ahead w n) g _).heap ++ os)[K]? = _
    rw [Array.getElem?_append_left (by rw [hz]; exact hK)]
    show (w.heap.modify g _)[K]? = _
    rw [Array.getElem?_modify, if_neg (fun e => hn e.symm)]
  · show w.heap.size ≤ ((mapBlock (Sort.ahead w n) g _).heap ++ os).size
    rw [Array.size_append, hz]
    omega
theorem swkOwn {w W : World} {g base cap : Nat} {d : Array RowV} {cur : Array Value} {l l' : List RowV} (S : SWK encR 2 w g 0 d W) (h : w.heap[g]? = some (.cells cur 28 (0, 0))) (hH : HoldsK encR 2 w g 0 l.toArray) (hd : d.toList = l') (hl : l'.length = l.length) (hb : base ≤ g) (hc : l.length ≤ cap) (hm : cap ≤ maxLen) (hcs : cur.size = cap * 2) :
    W.ownsRow base 28 2 (.slice (some ⟨g, 0, none⟩) l.length cap) l.length (rowCellsX l') := by
  have hg : g < w.heap.size := (Array.getElem?_eq_some_iff.1 h).1
  obtain ⟨⟨cur', h1, h2⟩, _⟩ := swkForm S h
  have hH' := S.holds hg hH (by have := congrArg List.length hd; simp at this ⊢; omega)
  refine ⟨by rw [rowCellsX_length, hl], .inr ⟨g, cap, cur', rfl, hb, h1, hc, hm, by rw [h2, hcs], ?_⟩⟩
  refine List.ext_getElem? fun j => ?_
  have hds : d.size = l.length := by have := congrArg List.length hd; simp at this; omega
  rw [List.getElem?_take]
  by_cases hj : j < l.length * 2
  · rw [if_pos hj]
    obtain ⟨c1, _⟩ := hH' j (by simpa [hds] using hj)
    rw [get_flatK _ _ _ _ (by rw [hds]; exact hj), Nat.zero_add] at c1
    have e2 := flatR_at l' j (by rw [hl]; exact hj)
    rw [← hd, Array.toArray_toList] at e2
    rw [← hd, e2]
    simp only [World.cell?, h1, id] at c1
    simpa using c1
  · rw [if_neg hj]
    exact (List.getElem?_eq_none (by rw [rowCellsX_length, hl]; omega)).symm
set_option maxRecDepth 100000 in
set_option maxHeartbeats 1000000 in
theorem sortStableX_any {w : World} {base : Nat} {v : Value} {l : List RowV} (h : w.ownsRow base 28 2 v l.length (rowCellsX l)) (hne : l ≠ []) (hz : l.length < 1152921504606846976) :
    Calls Try.prog 15 #[v, .func (.func 16) #[] #[]] w fun e w' => e = .returned (.tuple #[]) ∧ w'.ownsRow base 28 2 v l.length (rowCellsX (srt (ltOf cfR) l)) ∧ Below base w w' := by
  rcases h.2 with ⟨_, e⟩ | ⟨g, cap, cur, rfl, hb, hg, hnc, hcm, hcs, ht⟩
  · exact absurd (List.eq_nil_of_length_eq_zero e) hne
  have hH := holdsR hg ht
  have hgl : g < w.heap.size := (Array.getElem?_eq_some_iff.1 hg).1
  have R : RowK encR 2 w g 0 l.toArray := ⟨fun _ => rfl, oneR, hH, hgl⟩
  have hc := stable_any SL.here swoR egR (cmpLaysR g 0 l.toArray.size w) R rfl (SWK.start hH) (by simpa using hz) (cap := cap) (fun a b dk w x1 x2 x3 x4 => insR_w R x1 x2 x3 x4 (by simp at x1; omega))
  have HF : Hid (∀ W d', SWK encR 2 w g 0 d' W → d'.size = l.toArray.size → d'.toList = srt (ltOf cfR) l.toArray.toList → W.ownsRow base 28 2 (.slice (some ⟨g, 0, none⟩) l.length cap) l.length (rowCellsX (srt (ltOf cfR) l)) ∧ Below base w W) := fun W d' S e1 e2 => by
    obtain ⟨_, f2, f3, f4, f5, f6⟩ := swkForm S hg
    refine ⟨swkOwn S hg hH (by simpa using e2) ?_ hb hnc hcm hcs, f4, f5, f6, f3, fun K hK => f2 K (by omega) (by omega)⟩
    have := congrArg List.length e2
    simp at this e1
    omega
  rw [show l.toArray.size = l.length by simp] at hc HF
  clear h hH R hg ht
  go_enter Try.func15, Try.ntmps15
  go_wp2_with (go_at_call 25; refine hc.mono ?_; rintro e w1 ⟨rfl, d', s1, s2, s3⟩)
  go_end0
  exact ⟨rfl, HF.out _ _ s1 s2 s3⟩
end Go.Proofs.Ytckldjiabalgbaa
