/- Package mover: ask. -/
import Derived.Test.YtcmhkeaimgppgaaMInst
namespace Go.Proofs.Ytcmhkeaimgppgaa
open Go.RowKit
attribute [local go_sem] Oper.semAt_some
set_option linter.unusedVariables false

/-- What is asked for a move now; pv: the next piece. -/
def askM (M : MD) (x : MvD) (pv : Value) : Option AskV :=
  if x.ph = 1 then some (mAsk x.fr 8 x.slot x.ep 0 false (.slice none 0 0))
  else if x.ph = 2 then (if M.has = true then some (mAsk x.to 9 x.slot x.ep M.at_ (decide (endM M = M.d.length)) pv) else some (mAsk x.fr 8 x.slot x.ep 0 false (.slice none 0 0)))
  else if x.ph = 3 then some (mAsk x.fr 10 x.slot x.ep 0 false (.slice none 0 0)) else none
theorem askAll (x : AskV) (h : x.2.data.oneCell' = true) : (AskV.cells x).toArray.all (·.oneCell') = true := by
  simp only [AskV.cells, CmdV.cells, List.all_toArray, List.all_cons, List.all_nil, Bool.and_true, h]
  rfl
set_option maxRecDepth 100000 in
set_option maxHeartbeats 1600000 in
theorem ask_any (M : MD) (x : MvD) (G : Nat) (a : Option Addr) (c : Nat) (w : World) (hG : w.heap[G]? = some (.cells #[.int .i64 M.n, .bool M.has, .slice a M.d.length c, .int .i64 M.at_] 74 (0, 0))) (hf : M.at_ ≤ M.d.length) (hl : M.d.length ≤ 140737488351232) (hc : M.d.length ≤ c) :
    Calls Try.prog 29 #[.pointer (some ⟨G, 0, none⟩), .agg #[.int .i64 x.slot, .int .i64 x.fr, .int .i64 x.to, .int .i64 x.ep, .int .i64 x.ph, .int .i64 x.n]] w fun e w' => e = .returned (.tuple #[.agg (AskV.cells ((askM M x (sliced a M.at_ (endM M) c 1)).getD (0, CmdV.zero))).toArray, .bool (askM M x (sliced a M.at_ (endM M) c 1)).isSome]) ∧ Below w.heap.size w w' := by
  have bV : Below w.heap.size w ((w.alloc (.cells #[.int .i64 x.slot, .int .i64 x.fr, .int .i64 x.to, .int .i64 x.ep, .int .i64 x.ph, .int .i64 x.n] 47)).alloc (.cells #[.int .i64 0, .int .i64 0, .int .i64 0, .string ⟨#[]⟩, .string ⟨#[]⟩, .int .i64 0, .string ⟨#[]⟩, .int .i64 0, .int .i64 0, .string ⟨#[]⟩, .string ⟨#[]⟩, .int .i64 0, .int .i64 0, .int .i64 0, .int .i64 0, .int .i64 0, .bool false, .slice none 0 0] 54)) := ((Below.refl _ w).alloc (Nat.le_refl _) _).alloc (by simp) _
  have gV := (bV.block G (Array.getElem?_eq_some_iff.1 hG).1).trans hG
  have HI := askInstall_any M x G a c _ gV hf hl hc
  have HX := fun k g => askFor_any x k g ((w.alloc (.cells #[.int .i64 x.slot, .int .i64 x.fr, .int .i64 x.to, .int .i64 x.ep, .int .i64 x.ph, .int .i64 x.n] 47)).alloc (.cells #[.int .i64 0, .int .i64 0, .int .i64 0, .string ⟨#[]⟩, .string ⟨#[]⟩, .int .i64 0, .string ⟨#[]⟩, .int .i64 0, .int .i64 0, .string ⟨#[]⟩, .string ⟨#[]⟩, .int .i64 0, .int .i64 0, .int .i64 0, .int .i64 0, .int .i64 0, .bool false, .slice none 0 0] 54))
  obtain ⟨sl, fr, to, ep, ph, n⟩ := x
  dsimp only at *
  obtain ⟨pa, pn, pc, hpv⟩ : ∃ pa pn pc, sliced a M.at_ (endM M) c 1 = .slice pa pn pc := ⟨_, _, _, rfl⟩
  rw [hpv] at HI ⊢
  clear hpv
  have q2 := heap_two w (.cells #[.int .i64 sl, .int .i64 fr, .int .i64 to, .int .i64 ep, .int .i64 ph, .int .i64 n] 47) (.cells #[.int .i64 0, .int .i64 0, .int .i64 0, .string ⟨#[]⟩, .string ⟨#[]⟩, .int .i64 0, .string ⟨#[]⟩, .int .i64 0, .int .i64 0, .string ⟨#[]⟩, .string ⟨#[]⟩, .int .i64 0, .int .i64 0, .int .i64 0, .int .i64 0, .int .i64 0, .bool false, .slice none 0 0] 54)
  have q1 : ((w.alloc (.cells #[.int .i64 sl, .int .i64 fr, .int .i64 to, .int .i64 ep, .int .i64 ph, .int .i64 n] 47)).alloc (.cells #[.int .i64 0, .int .i64 0, .int .i64 0, .string ⟨#[]⟩, .string ⟨#[]⟩, .int .i64 0, .string ⟨#[]⟩, .int .i64 0, .int .i64 0, .string ⟨#[]⟩, .string ⟨#[]⟩, .int .i64 0, .int .i64 0, .int .i64 0, .int .i64 0, .int .i64 0, .bool false, .slice none 0 0] 54)).heap[w.heap.size]? = some (.cells #[.int .i64 sl, .int .i64 fr, .int .i64 to, .int .i64 ep, .int .i64 ph, .int .i64 n] 47 (0, 0)) := by rw [Below.heap_alloc _ _ _ (by simp), heap_alloc_new]
  have p5 : ((w.alloc (.cells #[.int .i64 sl, .int .i64 fr, .int .i64 to, .int .i64 ep, .int .i64 ph, .int .i64 n] 47)).alloc (.cells #[.int .i64 0, .int .i64 0, .int .i64 0, .string ⟨#[]⟩, .string ⟨#[]⟩, .int .i64 0, .string ⟨#[]⟩, .int .i64 0, .int .i64 0, .string ⟨#[]⟩, .string ⟨#[]⟩, .int .i64 0, .int .i64 0, .int .i64 0, .int .i64 0, .int .i64 0, .bool false, .slice none 0 0] 54)).cell? ⟨G, 1, none⟩ = some (.bool M.has) := by simp only [World.cell?, gV]; rfl
  have RV : Hid _ := q1
  have SV : Hid _ := q2
  have BV : Hid _ := bV
  clear q1 q2 bV gV hG hf hl hc
  by_cases h1 : ph = 1
  · subst h1
    have e1 : askM M ⟨sl, fr, to, ep, 1, n⟩ (.slice pa pn pc) = some (mAsk fr 8 sl ep 0 false (.slice none 0 0)) := by simp [askM]
    rw [e1]
    have HF := HX 8 fr
    clear HI HX e1
    dsimp only [Option.getD_some, Option.isSome_some]
    have hc1 : (Try.prog.info? 54).map (·.size) = some (AskV.cells (mAsk fr 8 sl ep 0 false (.slice none 0 0))).toArray.size := by kernel_rfl
    have hc2 : (#[.int .i64 0, .int .i64 0, .int .i64 0, .string ⟨#[]⟩, .string ⟨#[]⟩, .int .i64 0, .string ⟨#[]⟩, .int .i64 0, .int .i64 0, .string ⟨#[]⟩, .string ⟨#[]⟩, .int .i64 0, .int .i64 0, .int .i64 0, .int .i64 0, .int .i64 0, .bool false, .slice none 0 0] : Array Value).size = (AskV.cells (mAsk fr 8 sl ep 0 false (.slice none 0 0))).toArray.size := rfl
    have hc3 : (AskV.cells (mAsk fr 8 sl ep 0 false (.slice none 0 0))).toArray.all (·.oneCell') = true := askAll _ rfl
    generalize AskV.cells (mAsk fr 8 sl ep 0 false (.slice none 0 0)) = C at *
    have C1 : Hid _ := hc1
    have C2 : Hid _ := hc2
    have C3 : Hid _ := hc3
    clear hc1 hc2 hc3
    go_enter Try.func29, Try.ntmps29
    go_wp2_with (first | (refine wpList_load_row rfl 47 (.tmp 3) rfl w.heap.size rfl 47 _ (0, 0) _ RV.out Try.underlying47 rfl (by kernel_rfl) ?_))
    refine HF.mono ?_
    generalize (w.alloc (.cells #[.int .i64 sl, .int .i64 fr, .int .i64 to, .int .i64 ep, .int .i64 1, .int .i64 n] 47)).alloc (.cells #[.int .i64 0, .int .i64 0, .int .i64 0, .string ⟨#[]⟩, .string ⟨#[]⟩, .int .i64 0, .string ⟨#[]⟩, .int .i64 0, .int .i64 0, .string ⟨#[]⟩, .string ⟨#[]⟩, .int .i64 0, .int .i64 0, .int .i64 0, .int .i64 0, .int .i64 0, .bool false, .slice none 0 0] 54) = V at *
    rintro e w2 ⟨rfl, b2⟩
    have l1 : w.heap.size + 1 < V.heap.size := (Array.getElem?_eq_some_iff.1 SV.out).1
    have S2 : Hid (w2.heap[w.heap.size + 1]? = some (.cells #[.int .i64 0, .int .i64 0, .int .i64 0, .string ⟨#[]⟩, .string ⟨#[]⟩, .int .i64 0, .string ⟨#[]⟩, .int .i64 0, .int .i64 0, .string ⟨#[]⟩, .string ⟨#[]⟩, .int .i64 0, .int .i64 0, .int .i64 0, .int .i64 0, .int .i64 0, .bool false, .slice none 0 0] 54 (0, 0))) := (b2.block _ l1).trans SV.out
    have B2 : Hid (Below w.heap.size w w2) := BV.out.trans (b2.mono BV.out.size)
    clear HF b2 l1
    go_wp2_with (first | (refine wpList_store_row rfl 54 (.tmp 4) (.tmp 13) rfl (w.heap.size + 1) C.toArray rfl rfl 54 _ S2.out C1.out C2.out C3.out ?_))
    exact bodyPost_ret (results_ct rfl _ _ (w.heap.size + 1) 54 _ _ _ rfl (setRow_self S2.out) Try.underlying54 rfl C1.out) rfl ⟨rfl, below_row B2.out (by omega) _⟩
  · by_cases h2 : ph = 2
    · subst h2
      obtain ⟨hs, hhs⟩ : ∃ hs, M.has = hs := ⟨_, rfl⟩
      cases hs with
      | false =>
        rw [hhs] at p5
        have e1 : askM M ⟨sl, fr, to, ep, 2, n⟩ (.slice pa pn pc) = some (mAsk fr 8 sl ep 0 false (.slice none 0 0)) := by simp [askM, hhs]
        rw [e1]
        have HF := HX 8 fr
        clear HI HX e1
        dsimp only [Option.getD_some, Option.isSome_some]
        have hc1 : (Try.prog.info? 54).map (·.size) = some (AskV.cells (mAsk fr 8 sl ep 0 false (.slice none 0 0))).toArray.size := by kernel_rfl
        have hc2 : (#[.int .i64 0, .int .i64 0, .int .i64 0, .string ⟨#[]⟩, .string ⟨#[]⟩, .int .i64 0, .string ⟨#[]⟩, .int .i64 0, .int .i64 0, .string ⟨#[]⟩, .string ⟨#[]⟩, .int .i64 0, .int .i64 0, .int .i64 0, .int .i64 0, .int .i64 0, .bool false, .slice none 0 0] : Array Value).size = (AskV.cells (mAsk fr 8 sl ep 0 false (.slice none 0 0))).toArray.size := rfl
        have hc3 : (AskV.cells (mAsk fr 8 sl ep 0 false (.slice none 0 0))).toArray.all (·.oneCell') = true := askAll _ rfl
        generalize AskV.cells (mAsk fr 8 sl ep 0 false (.slice none 0 0)) = C at *
        have C1 : Hid _ := hc1
        have C2 : Hid _ := hc2
        have C3 : Hid _ := hc3
        clear hc1 hc2 hc3
        go_enter Try.func29, Try.ntmps29
        go_wp2_with (first | (refine wpList_load_row rfl 47 (.tmp 3) rfl w.heap.size rfl 47 _ (0, 0) _ RV.out Try.underlying47 rfl (by kernel_rfl) ?_))
        refine HF.mono ?_
        generalize (w.alloc (.cells #[.int .i64 sl, .int .i64 fr, .int .i64 to, .int .i64 ep, .int .i64 2, .int .i64 n] 47)).alloc (.cells #[.int .i64 0, .int .i64 0, .int .i64 0, .string ⟨#[]⟩, .string ⟨#[]⟩, .int .i64 0, .string ⟨#[]⟩, .int .i64 0, .int .i64 0, .string ⟨#[]⟩, .string ⟨#[]⟩, .int .i64 0, .int .i64 0, .int .i64 0, .int .i64 0, .int .i64 0, .bool false, .slice none 0 0] 54) = V at *
        rintro e w2 ⟨rfl, b2⟩
        have l1 : w.heap.size + 1 < V.heap.size := (Array.getElem?_eq_some_iff.1 SV.out).1
        have S2 : Hid (w2.heap[w.heap.size + 1]? = some (.cells #[.int .i64 0, .int .i64 0, .int .i64 0, .string ⟨#[]⟩, .string ⟨#[]⟩, .int .i64 0, .string ⟨#[]⟩, .int .i64 0, .int .i64 0, .string ⟨#[]⟩, .string ⟨#[]⟩, .int .i64 0, .int .i64 0, .int .i64 0, .int .i64 0, .int .i64 0, .bool false, .slice none 0 0] 54 (0, 0))) := (b2.block _ l1).trans SV.out
        have B2 : Hid (Below w.heap.size w w2) := BV.out.trans (b2.mono BV.out.size)
        clear HF b2 l1
        go_wp2_with (first | (refine wpList_store_row rfl 54 (.tmp 4) (.tmp 24) rfl (w.heap.size + 1) C.toArray rfl rfl 54 _ S2.out C1.out C2.out C3.out ?_))
        exact bodyPost_ret (results_ct rfl _ _ (w.heap.size + 1) 54 _ _ _ rfl (setRow_self S2.out) Try.underlying54 rfl C1.out) rfl ⟨rfl, below_row B2.out (by omega) _⟩
      | true =>
        rw [hhs] at p5
        have e1 : askM M ⟨sl, fr, to, ep, 2, n⟩ (.slice pa pn pc) = some (mAsk to 9 sl ep M.at_ (decide (endM M = M.d.length)) (.slice pa pn pc)) := by simp [askM, hhs]
        rw [e1]
        have HF := HI
        clear HI HX e1
        dsimp only [Option.getD_some, Option.isSome_some]
        have hc1 : (Try.prog.info? 54).map (·.size) = some (AskV.cells (mAsk to 9 sl ep M.at_ (decide (endM M = M.d.length)) (.slice pa pn pc))).toArray.size := by kernel_rfl
        have hc2 : (#[.int .i64 0, .int .i64 0, .int .i64 0, .string ⟨#[]⟩, .string ⟨#[]⟩, .int .i64 0, .string ⟨#[]⟩, .int .i64 0, .int .i64 0, .string ⟨#[]⟩, .string ⟨#[]⟩, .int .i64 0, .int .i64 0, .int .i64 0, .int .i64 0, .int .i64 0, .bool false, .slice none 0 0] : Array Value).size = (AskV.cells (mAsk to 9 sl ep M.at_ (decide (endM M = M.d.length)) (.slice pa pn pc))).toArray.size := rfl
        have hc3 : (AskV.cells (mAsk to 9 sl ep M.at_ (decide (endM M = M.d.length)) (.slice pa pn pc))).toArray.all (·.oneCell') = true := askAll _ rfl
        generalize AskV.cells (mAsk to 9 sl ep M.at_ (decide (endM M = M.d.length)) (.slice pa pn pc)) = C at *
        have C1 : Hid _ := hc1
        have C2 : Hid _ := hc2
        have C3 : Hid _ := hc3
        clear hc1 hc2 hc3
        go_enter Try.func29, Try.ntmps29
        go_wp2_with (first | (refine wpList_load_row rfl 47 (.tmp 3) rfl w.heap.size rfl 47 _ (0, 0) _ RV.out Try.underlying47 rfl (by kernel_rfl) ?_))
        refine HF.mono ?_
        generalize (w.alloc (.cells #[.int .i64 sl, .int .i64 fr, .int .i64 to, .int .i64 ep, .int .i64 2, .int .i64 n] 47)).alloc (.cells #[.int .i64 0, .int .i64 0, .int .i64 0, .string ⟨#[]⟩, .string ⟨#[]⟩, .int .i64 0, .string ⟨#[]⟩, .int .i64 0, .int .i64 0, .string ⟨#[]⟩, .string ⟨#[]⟩, .int .i64 0, .int .i64 0, .int .i64 0, .int .i64 0, .int .i64 0, .bool false, .slice none 0 0] 54) = V at *
        rintro e w2 ⟨rfl, b2⟩
        have l1 : w.heap.size + 1 < V.heap.size := (Array.getElem?_eq_some_iff.1 SV.out).1
        have S2 : Hid (w2.heap[w.heap.size + 1]? = some (.cells #[.int .i64 0, .int .i64 0, .int .i64 0, .string ⟨#[]⟩, .string ⟨#[]⟩, .int .i64 0, .string ⟨#[]⟩, .int .i64 0, .int .i64 0, .string ⟨#[]⟩, .string ⟨#[]⟩, .int .i64 0, .int .i64 0, .int .i64 0, .int .i64 0, .int .i64 0, .bool false, .slice none 0 0] 54 (0, 0))) := (b2.block _ l1).trans SV.out
        have B2 : Hid (Below w.heap.size w w2) := BV.out.trans (b2.mono BV.out.size)
        clear HF b2 l1
        go_wp2_with (first | (refine wpList_store_row rfl 54 (.tmp 4) (.tmp 27) rfl (w.heap.size + 1) C.toArray rfl rfl 54 _ S2.out C1.out C2.out C3.out ?_))
        exact bodyPost_ret (results_ct rfl _ _ (w.heap.size + 1) 54 _ _ _ rfl (setRow_self S2.out) Try.underlying54 rfl C1.out) rfl ⟨rfl, below_row B2.out (by omega) _⟩
    · by_cases h3 : ph = 3
      · subst h3
        have e1 : askM M ⟨sl, fr, to, ep, 3, n⟩ (.slice pa pn pc) = some (mAsk fr 10 sl ep 0 false (.slice none 0 0)) := by simp [askM]
        rw [e1]
        have HF := HX 10 fr
        clear HI HX e1
        dsimp only [Option.getD_some, Option.isSome_some]
        have hc1 : (Try.prog.info? 54).map (·.size) = some (AskV.cells (mAsk fr 10 sl ep 0 false (.slice none 0 0))).toArray.size := by kernel_rfl
        have hc2 : (#[.int .i64 0, .int .i64 0, .int .i64 0, .string ⟨#[]⟩, .string ⟨#[]⟩, .int .i64 0, .string ⟨#[]⟩, .int .i64 0, .int .i64 0, .string ⟨#[]⟩, .string ⟨#[]⟩, .int .i64 0, .int .i64 0, .int .i64 0, .int .i64 0, .int .i64 0, .bool false, .slice none 0 0] : Array Value).size = (AskV.cells (mAsk fr 10 sl ep 0 false (.slice none 0 0))).toArray.size := rfl
        have hc3 : (AskV.cells (mAsk fr 10 sl ep 0 false (.slice none 0 0))).toArray.all (·.oneCell') = true := askAll _ rfl
        generalize AskV.cells (mAsk fr 10 sl ep 0 false (.slice none 0 0)) = C at *
        have C1 : Hid _ := hc1
        have C2 : Hid _ := hc2
        have C3 : Hid _ := hc3
        clear hc1 hc2 hc3
        go_enter Try.func29, Try.ntmps29
        go_wp2_with (first | (refine wpList_load_row rfl 47 (.tmp 3) rfl w.heap.size rfl 47 _ (0, 0) _ RV.out Try.underlying47 rfl (by kernel_rfl) ?_))
        refine HF.mono ?_
        generalize (w.alloc (.cells #[.int .i64 sl, .int .i64 fr, .int .i64 to, .int .i64 ep, .int .i64 3, .int .i64 n] 47)).alloc (.cells #[.int .i64 0, .int .i64 0, .int .i64 0, .string ⟨#[]⟩, .string ⟨#[]⟩, .int .i64 0, .string ⟨#[]⟩, .int .i64 0, .int .i64 0, .string ⟨#[]⟩, .string ⟨#[]⟩, .int .i64 0, .int .i64 0, .int .i64 0, .int .i64 0, .int .i64 0, .bool false, .slice none 0 0] 54) = V at *
        rintro e w2 ⟨rfl, b2⟩
        have l1 : w.heap.size + 1 < V.heap.size := (Array.getElem?_eq_some_iff.1 SV.out).1
        have S2 : Hid (w2.heap[w.heap.size + 1]? = some (.cells #[.int .i64 0, .int .i64 0, .int .i64 0, .string ⟨#[]⟩, .string ⟨#[]⟩, .int .i64 0, .string ⟨#[]⟩, .int .i64 0, .int .i64 0, .string ⟨#[]⟩, .string ⟨#[]⟩, .int .i64 0, .int .i64 0, .int .i64 0, .int .i64 0, .int .i64 0, .bool false, .slice none 0 0] 54 (0, 0))) := (b2.block _ l1).trans SV.out
        have B2 : Hid (Below w.heap.size w w2) := BV.out.trans (b2.mono BV.out.size)
        clear HF b2 l1
        go_wp2_with (first | (refine wpList_store_row rfl 54 (.tmp 4) (.tmp 33) rfl (w.heap.size + 1) C.toArray rfl rfl 54 _ S2.out C1.out C2.out C3.out ?_))
        exact bodyPost_ret (results_ct rfl _ _ (w.heap.size + 1) 54 _ _ _ rfl (setRow_self S2.out) Try.underlying54 rfl C1.out) rfl ⟨rfl, below_row B2.out (by omega) _⟩
      · have d1 : (ph == 1) = false := by simpa using h1
        have d2 : (ph == 2) = false := by simpa using h2
        have d3 : (ph == 3) = false := by simpa using h3
        have e1 : askM M ⟨sl, fr, to, ep, ph, n⟩ (.slice pa pn pc) = none := by simp [askM, h1, h2, h3]
        rw [e1]
        clear HI HX e1
        dsimp only [Option.getD_none, Option.isSome_none]
        have hc1 : (Try.prog.info? 54).map (·.size) = some (AskV.cells ((0, CmdV.zero))).toArray.size := by kernel_rfl
        have hc2 : (#[.int .i64 0, .int .i64 0, .int .i64 0, .string ⟨#[]⟩, .string ⟨#[]⟩, .int .i64 0, .string ⟨#[]⟩, .int .i64 0, .int .i64 0, .string ⟨#[]⟩, .string ⟨#[]⟩, .int .i64 0, .int .i64 0, .int .i64 0, .int .i64 0, .int .i64 0, .bool false, .slice none 0 0] : Array Value).size = (AskV.cells ((0, CmdV.zero))).toArray.size := rfl
        have hc3 : (AskV.cells ((0, CmdV.zero))).toArray.all (·.oneCell') = true := askAll _ rfl
        have C1 : Hid _ := hc1
        have C2 : Hid _ := hc2
        have C3 : Hid _ := hc3
        clear hc1 hc2 hc3
        go_enter Try.func29, Try.ntmps29
        go_wp2_with (first | (refine wpList_buildTo rfl 54 _ rfl (some 34) rfl #[.int .i64 0, .int .i64 0, .int .i64 0, .string ⟨#[]⟩, .string ⟨#[]⟩, .int .i64 0, .string ⟨#[]⟩, .int .i64 0, .int .i64 0, .string ⟨#[]⟩, .string ⟨#[]⟩, .int .i64 0, .int .i64 0, .int .i64 0, .int .i64 0, .int .i64 0, .bool false, .slice none 0 0] (by kernel_rfl) ?_) | (refine wpList_store_row rfl 54 (.tmp 4) (.tmp 34) rfl (w.heap.size + 1) #[.int .i64 0, .int .i64 0, .int .i64 0, .string ⟨#[]⟩, .string ⟨#[]⟩, .int .i64 0, .string ⟨#[]⟩, .int .i64 0, .int .i64 0, .string ⟨#[]⟩, .string ⟨#[]⟩, .int .i64 0, .int .i64 0, .int .i64 0, .int .i64 0, .int .i64 0, .bool false, .slice none 0 0] rfl rfl 54 _ SV.out C1.out C2.out C3.out ?_))
        exact bodyPost_ret (results_ct rfl _ _ (w.heap.size + 1) 54 _ _ _ rfl (setRow_self SV.out) Try.underlying54 rfl C1.out) rfl ⟨rfl, below_row BV.out (by omega) _⟩
end Go.Proofs.Ytcmhkeaimgppgaa
