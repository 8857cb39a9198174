/- Package net: find. -/
import Derived.Test.YtccmehbdnnelhaaNAhead
import Derived.Test.YtccmehbdnnelhaaSteps
import Derived.Laws.Tables
namespace Go.Proofs.Ytccmehbdnnelhaa
open Go.RowKit Go.Maps
set_option linter.unusedVariables false

theorem results_rowN {P : Program} {fn : Func} {p u : Tmp} {ty : TypeId} (h : fn.results = #[.cell p ty, .tmp u]) (tmps : Array Value) (w : World) (g : Nat) (t : TypeId) (cs : Array Value) (fr : Nat × Nat) (d : TypeDesc)
    (hp : tmps.getD p undef = .pointer (some ⟨g, 0, none⟩)) (hg : w.heap[g]? = some (.cells cs t fr))
    (hu : P.underlying ty = some d) (hd : (match d with | .struct _ | .array _ _ => true | _ => false) = true) (hi : (P.info? ty).map (·.size) = some cs.size) :
    (results fn tmps).run P w = .ok (.tuple #[.agg cs, tmps.getD u undef]) w := by
  rw [results_cell_tmp h, hp]
  simp [asAddr, run_loadVar_row w g t ty cs fr d hg hu hd hi]
theorem rowN_below {B g : Nat} {a w : World} {cs : Array Value} (h : Below B a w) (hg : B ≤ g) : Below B a (w.setRow g cs) :=
  ⟨h.os, h.tape, h.output, by simpa using h.size, fun k hk => by rw [setRow_other w g k cs (by omega)]; exact h.block k hk⟩
/-- The turn that is found is the k-th letter's. -/
theorem turn_of {L : List Post} {T r k : Nat} (hr : Rising L) (ht : ∀ p ∈ L, p.t < T) (h1 : r ≤ T) (h2 : ∀ j, j < r → ¬ k < under L (j + 1)) (h3 : r < T → k < under L (r + 1)) : (∀ hk : k < L.length, r = L[k].t) ∧ (L.length ≤ k → r = T) := by
  constructor
  · intro hk
    have hT := ht _ (List.getElem_mem hk)
    have a1 : r ≤ L[k].t := by
      rcases Nat.lt_or_ge L[k].t r with x | x
      · exact absurd ((lt_under hr).2 ⟨hk, by omega⟩) (h2 _ x)
      · exact x
    obtain ⟨_, a2⟩ := (lt_under hr).1 (h3 (by omega))
    omega
  · intro hk
    rcases Nat.lt_or_ge r T with x | x
    · obtain ⟨hk', _⟩ := (lt_under hr).1 (h3 x)
      omega
    · omega
theorem same_turn {L : List Post} (hr : Rising L) {i : Nat} (hi : i < L.length) {p : Post} (hp : p ∈ L) (e : p.t = L[i].t) : p = L[i] := by
  obtain ⟨j, hj, rfl⟩ := List.getElem_of_mem hp
  rcases Nat.lt_trichotomy j i with x | x | x
  · have := (List.pairwise_iff_getElem.1 hr) j i hj hi x; omega
  · subst x; rfl
  · have := (List.pairwise_iff_getElem.1 hr) i j hi hj x; omega
/-- What find answers. -/
def FindTold (L : List Post) (k : Int) (e : Ending) : Prop :=
  ((k < 0 ∨ (L.length : Int) ≤ k) ∧ e = .returned (.tuple #[.agg #[.int .i64 0, .int .i64 0], .int .i64 1])) ∨
  ∃ (i : Nat) (hi : i < L.length), k = (i : Int) ∧ e = .returned (.tuple #[.agg #[.int .i64 L[i].to, .int .i64 (spotOf L i : Nat)], .int .i64 0])
set_option maxRecDepth 100000 in
set_option maxHeartbeats 1600000 in
theorem find_nil (k : Int) (w : World) : Calls Try.prog 31 #[.pointer none, .int .i64 k] w fun e w' => e = .returned (.tuple #[.agg #[.int .i64 0, .int .i64 0], .int .i64 2]) ∧ Below w.heap.size w w' := by
  have b1 := (Below.refl w.heap.size w).alloc (Nat.le_refl _) (.cells #[.pointer none] 23)
  have b2 := b1.alloc (by simp) (.cells #[.int .i64 k] 3)
  have b3 := b2.alloc (by simp; omega) (.cells #[.int .i64 0, .int .i64 0] 63)
  have hz : (((w.alloc (.cells #[.pointer none] 23)).alloc (.cells #[.int .i64 k] 3)).alloc (.cells #[.int .i64 0, .int .i64 0] 63)).heap[w.heap.size + 2]? = some (.cells #[.int .i64 0, .int .i64 0] 63 (0, 0)) := by
    have := heap_alloc_new ((w.alloc (.cells #[.pointer none] 23)).alloc (.cells #[.int .i64 k] 3)) (.cells #[.int .i64 0, .int .i64 0] 63)
    simpa using this
  have HZ : Hid _ := hz
  have B3 : Hid _ := b3
  clear b1 b2 b3 hz
  go_enter Try.func31, Try.ntmps31
  go_wp2_with (first | (refine wpList_store_row rfl 63 (.tmp 4) (.tmp 14) rfl (w.heap.size + 2) #[.int .i64 0, .int .i64 0] rfl rfl 63 _ HZ.out (by kernel_rfl) rfl (by simp [Value.oneCell']) ?_))
  exact bodyPost_ret (results_rowN rfl _ _ (w.heap.size + 2) 63 _ _ _ rfl (setRow_heap _ _ _ _ _ _ HZ.out) Try.underlying63 rfl (by kernel_rfl)) rfl ⟨rfl, rowN_below B3.out (by omega)⟩
/-- find's own memory. -/
structure FMem (w w3 : World) (N : Nat) (k : Int) : Prop where
  be : Below w.heap.size w w3
  p1 : w3.cell? ⟨w.heap.size, 0, none⟩ = some (.pointer (some ⟨N, 0, none⟩))
  p2 : w3.cell? ⟨w.heap.size + 1, 0, none⟩ = some (.int .i64 k)
  sp : w3.heap[w.heap.size + 2]? = some (.cells #[.int .i64 0, .int .i64 0] 63 (0, 0))
theorem fmem_new (w : World) (N : Nat) (k : Int) : FMem w (((w.alloc (.cells #[.pointer (some ⟨N, 0, none⟩)] 23)).alloc (.cells #[.int .i64 k] 3)).alloc (.cells #[.int .i64 0, .int .i64 0] 63)) N k := by
  have b1 := (Below.refl w.heap.size w).alloc (Nat.le_refl _) (.cells #[.pointer (some ⟨N, 0, none⟩)] 23)
  have b2 := b1.alloc (by simp) (.cells #[.int .i64 k] 3)
  have b3 := b2.alloc (by simp; omega) (.cells #[.int .i64 0, .int .i64 0] 63)
  refine ⟨b3, ?_, ?_, ?_⟩
  · have h := heap_alloc_new w (.cells #[.pointer (some ⟨N, 0, none⟩)] 23)
    have c1 := ((Below.refl _ (w.alloc (.cells #[.pointer (some ⟨N, 0, none⟩)] 23))).alloc (Nat.le_refl _) (.cells #[.int .i64 k] 3)).alloc (by simp) (.cells #[.int .i64 0, .int .i64 0] 63)
    rw [World.cell?_of_block (w := w.alloc (.cells #[.pointer (some ⟨N, 0, none⟩)] 23)) (a := ⟨w.heap.size, 0, none⟩) (c1.block _ (by simp))]
    unfold World.cell?
    simp only [h]
    rfl
  · have h := heap_alloc_new (w.alloc (.cells #[.pointer (some ⟨N, 0, none⟩)] 23)) (.cells #[.int .i64 k] 3)
    have c1 := (Below.refl _ ((w.alloc (.cells #[.pointer (some ⟨N, 0, none⟩)] 23)).alloc (.cells #[.int .i64 k] 3))).alloc (Nat.le_refl _) (.cells #[.int .i64 0, .int .i64 0] 63)
    rw [World.cell?_of_block (w := (w.alloc (.cells #[.pointer (some ⟨N, 0, none⟩)] 23)).alloc (.cells #[.int .i64 k] 3)) (a := ⟨w.heap.size + 1, 0, none⟩) (c1.block _ (by simp))]
    have h' : ((w.alloc (.cells #[.pointer (some ⟨N, 0, none⟩)] 23)).alloc (.cells #[.int .i64 k] 3)).heap[w.heap.size + 1]? = some (.cells #[.int .i64 k] 3 (0, 0)) := by simpa using h
    unfold World.cell?
    simp only [h']
    rfl
  · have := heap_alloc_new ((w.alloc (.cells #[.pointer (some ⟨N, 0, none⟩)] 23)).alloc (.cells #[.int .i64 k] 3)) (.cells #[.int .i64 0, .int .i64 0] 63)
    simpa using this
theorem FMem.below {w w3 w4 : World} {N : Nat} {k : Int} (h : FMem w w3 N k) (b : Below w3.heap.size w3 w4) : FMem w w4 N k :=
  ⟨h.be.trans (b.mono h.be.size), by rw [b.cell (p := ⟨w.heap.size, 0, none⟩) (World.block_lt_of_cell? w3 _ h.p1)]; exact h.p1, by rw [b.cell (p := ⟨w.heap.size + 1, 0, none⟩) (World.block_lt_of_cell? w3 _ h.p2)]; exact h.p2, (b.block _ (Array.getElem?_eq_some_iff.1 h.sp).1).trans h.sp⟩
set_option maxRecDepth 100000 in
set_option maxHeartbeats 4000000 in
theorem find_any {w : World} {base N B T : Nat} {bx : Int → Value} {L : List Post} (h : NetIn w base N B bx L T) (k : Int) (hT : T ≤ 1000000000000) : Calls Try.prog 31 #[.pointer (some ⟨N, 0, none⟩), .int .i64 k] w fun e w' => FindTold L k e ∧ Below w.heap.size w w' := by
  have F3 := fmem_new w N k
  obtain ⟨w3, e3⟩ : ∃ w3, (((w.alloc (.cells #[.pointer (some ⟨N, 0, none⟩)] 23)).alloc (.cells #[.int .i64 k] 3)).alloc (.cells #[.int .i64 0, .int .i64 0] 63)) = w3 := ⟨_, rfl⟩
  rw [e3] at F3
  have HF : Hid (FMem w w3 N k) := F3
  have q1 := F3.p1
  have q2 := F3.p2
  have H3 : Hid (NetIn w3 base N B bx L T) := h.below F3.be
  have q3 := H3.out.c1
  clear F3
  by_cases hk : k < 0
  · clear h q3 H3
    go_enter Try.func31, Try.ntmps31
    go_wp2_with (first | (rw [e3]) | (refine wpList_store_row rfl 63 (.tmp 4) (.tmp 18) rfl (w.heap.size + 2) #[.int .i64 0, .int .i64 0] rfl rfl 63 _ HF.out.sp (by kernel_rfl) rfl (by simp [Value.oneCell']) ?_))
    exact bodyPost_ret (results_rowN rfl _ _ (w.heap.size + 2) 63 _ _ _ rfl (setRow_heap _ _ _ _ _ _ HF.out.sp) Try.underlying63 rfl (by kernel_rfl)) rfl ⟨.inl ⟨.inl hk, rfl⟩, rowN_below HF.out.be (by omega)⟩
  · obtain ⟨kn, rfl⟩ : ∃ kn : Nat, k = (kn : Int) := ⟨k.toNat, by omega⟩
    have HS := search_any T 38 rfl (.pointer (some ⟨w.heap.size, 0, none⟩)) (.pointer (some ⟨w.heap.size + 1, 0, none⟩)) (fun i => decide ((kn : Int) < (under L (i + 1) : Nat))) w3 hT
      (fun i hi W hW => find1_any (H3.out.below hW) i kn w.heap.size (w.heap.size + 1) (HF.out.below hW).p1 (HF.out.below hW).p2 (by omega))
      (fun i j hij hp => by
        have := under_mono L (show i + 1 ≤ j + 1 by omega)
        simp only [decide_eq_true_eq] at hp ⊢
        omega)
    have HLN : Hid (NetIn w base N B bx L T) := h
    clear h hT
    go_enter Try.func31, Try.ntmps31
    go_wp2_with (first | (rw [e3]) | fail)
    refine HS.mono ?_
    clear HS
    rintro e w4 ⟨⟨r, rfl, r1, r2, r3⟩, b4⟩
    have TU : Hid ((∀ hk : kn < L.length, r = L[kn].t) ∧ (L.length ≤ kn → r = T)) := turn_of HLN.out.ris HLN.out.tur r1 (fun j hj x => by have := r2 j hj; simp at this; omega) (fun x => by have := r3 x; simp at this; omega)
    have F4 : Hid (FMem w w4 N kn) := HF.out.below b4
    have H4 : Hid (NetIn w4 base N B bx L T) := H3.out.below b4
    have q1 := F4.out.p1
    have q4 := H4.out.c0
    obtain ⟨w5, cnt, hrun, hR, hg, hs⟩ := H4.out.hM.range
    have R5 : Hid (BoxRange w5 B w4.heap.size T bx (fun k => decide (box L k ≠ [])) cnt) := hR
    have B5 : Hid (Below w4.heap.size w4 w5) := (Below.refl _ w4).grown hg (Nat.le_refl _) (fun j e => by cases e)
    obtain ⟨rr, er⟩ : ∃ r, w4.heap.size = r := ⟨_, rfl⟩
    rw [er] at hrun R5
    have ER : Hid (w4.heap.size = rr) := er
    clear hR hg hs er r1 r2 r3 b4 q2 q3 e3 H3 HF
    go_wp2
    go_loopw [7] (fun _ wr => ∃ (left : Int → Bool) (cnt : Nat), Hid (BoxRange wr B rr T bx left cnt) ∧ Hid (Below w4.heap.size w4 wr) ∧ Hid (∀ p ∈ gone L left, p.t ≠ r)) (fun _ wr => wr.rangeLeft B rr)
    case atStart => exact ⟨_, cnt, R5.out, B5.out, fun p hp => by rw [H4.out.start] at hp; cases hp⟩
    case round =>
      obtain ⟨left, cnt2, hR, hB, hG⟩ := hrel
      have FW : Hid (FMem w wr N kn) := F4.out.below hB.out
      rcases hR.out.next 0 with ⟨_, hl0, hrn⟩ | ⟨k, w2, cnt3, hkw, hlk, hrn, hR2, hlt, hg2, hs2, hen⟩
      · have eL : gone L left = L := gone_all hl0
        have NO : Hid ((L.length : Int) ≤ (kn : Int)) := by
          show _ ≤ _
          rcases Nat.lt_or_ge kn L.length with x | x
          · exact absurd (TU.out.1 x).symm (hG.out _ (by rw [eL]; exact List.getElem_mem x))
          · omega
        clear hl0 eL
        go_wp2_with (first | (refine wpList_store_row rfl 63 (.tmp 4) (.tmp 45) rfl (w.heap.size + 2) #[.int .i64 0, .int .i64 0] rfl rfl 63 _ FW.out.sp (by kernel_rfl) rfl (by simp [Value.oneCell']) ?_))
        exact bodyPost_ret (results_rowN rfl _ _ (w.heap.size + 2) 63 _ _ _ rfl (setRow_heap _ _ _ _ _ _ FW.out.sp) Try.underlying63 rfl (by kernel_rfl)) rfl ⟨.inl ⟨.inr NO.out, rfl⟩, rowN_below FW.out.be (by omega)⟩
      · have hb2 : Below w4.heap.size w4 w2 := hB.out.grown hg2 hB.out.size (fun j e => by cases e; rw [ER.out]; exact Nat.le_refl _)
        obtain ⟨a, c, e, hp⟩ := (H4.out.below hb2).box k
        have HB2 : Hid _ := hb2
        have HR2 : Hid (BoxRange w2 B rr T bx (fun x => left x && !decide (x = k)) cnt3) := hR2
        have HLT : Hid (cnt3 < cnt2) := hlt
        have le2 := box_len L k
        have le3 := H4.out.len
        have HPl := place_t a c (box L k) r w2 hp (H4.out.ris.box k) (by omega)
        rw [e] at hrn hen
        obtain ⟨n, en⟩ : ∃ n, (box L k).length = n := ⟨_, rfl⟩
        obtain ⟨q, eq⟩ : ∃ q, under (box L k) r = q := ⟨_, rfl⟩
        have EQ : Hid (under (box L k) r = q) := eq
        rw [en] at hrn hen HPl
        rw [eq] at HPl
        clear e en eq hb2 hR2 hlt le2 le3 hg2 hs2 hp
        cases hf : hasT (box L k) r
        · rw [hf] at HPl
          have GN : Hid (∀ p ∈ gone L (fun x => left x && !decide (x = k)), p.t ≠ r) := fun p hp e => by
            unfold gone at hp
            obtain ⟨h1, h2⟩ := List.mem_filter.1 hp
            by_cases hpk : p.to = k
            · have : hasT (box L k) r = true := List.any_eq_true.2 ⟨p, mem_box.2 ⟨h1, hpk⟩, by simp [e]⟩
              rw [hf] at this
              cases this
            · refine hG.out p ?_ e
              unfold gone
              refine List.mem_filter.2 ⟨h1, ?_⟩
              simpa [hpk] using h2
          clear hf hkw hlk
          go_wp2_with fail
          refine HPl.mono ?_
          rintro e w6 ⟨rfl, b6⟩
          have HB6 : Hid (Below w4.heap.size w4 w6) := HB2.out.trans (b6.mono HB2.out.size)
          have HR6 : Hid (BoxRange w6 B rr T bx (fun x => left x && !decide (x = k)) cnt3) := HR2.out.kept b6
          clear b6 HPl
          go_wp2
          go_roundw
          case rel => exact ⟨_, cnt3, HR6.out, HB6.out, GN.out⟩
          case measure =>
            show w6.rangeLeft B rr < wr.rangeLeft B rr
            rw [HR6.out.left_eq, hR.out.left_eq]
            exact HLT.out
        · rw [hf] at HPl
          have OK : Hid (∃ (hi : kn < L.length), L[kn].to = k ∧ spotOf L kn = q) := by
            show ∃ _, _
            obtain ⟨p, hp, hpt⟩ := List.any_eq_true.1 hf
            obtain ⟨h1, h2⟩ := mem_box.1 hp
            have hpt' : p.t = r := by simpa using hpt
            have hk : kn < L.length := by
              rcases Nat.lt_or_ge kn L.length with x | x
              · exact x
              · have := TU.out.2 x
                have := H4.out.tur p h1
                omega
            have ep := same_turn H4.out.ris hk h1 (hpt'.trans (TU.out.1 hk))
            refine ⟨hk, by rw [← ep]; exact h2, ?_⟩
            rw [← EQ.out]
            unfold spotOf
            rw [getElem!_pos L kn hk, ← TU.out.1 hk, ← ep, h2]
          clear hf hkw hlk
          go_wp2_with fail
          refine HPl.mono ?_
          rintro e w6 ⟨rfl, b6⟩
          have HB6 : Hid (Below w4.heap.size w4 w6) := HB2.out.trans (b6.mono HB2.out.size)
          have F6 : Hid (FMem w w6 N kn) := F4.out.below HB6.out
          clear b6 HPl
          go_wp2_with (first | (refine wpList_store_row rfl 63 (.tmp 4) (.tmp 44) rfl (w.heap.size + 2) #[.int .i64 k, .int .i64 (q : Int)] rfl rfl 63 _ F6.out.sp (by kernel_rfl) rfl (by simp [Value.oneCell']) ?_))
          refine bodyPost_ret (results_rowN rfl _ _ (w.heap.size + 2) 63 _ _ _ rfl (setRow_heap _ _ _ _ _ _ F6.out.sp) Try.underlying63 rfl (by kernel_rfl)) rfl ⟨.inr ?_, rowN_below F6.out.be (by omega)⟩
          obtain ⟨hi, e1, e2⟩ := OK.out
          exact ⟨kn, hi, rfl, by rw [e1, e2]; rfl⟩
end Go.Proofs.Ytccmehbdnnelhaa
