/- The law's list of what is asked. -/
import Derived.Test.YtogbcciocgpknaaXAskB
namespace Go.Proofs.Ytogbcciocgpknaa
open Go.RowKit Go.Shelf
attribute [local go_sem] Oper.semAt_some
set_option linter.unusedVariables false

set_option maxRecDepth 100000 in
set_option maxHeartbeats 4000000 in
theorem asks_any (me sh : Int) (a : Option Addr) (len cap : Nat) (ts : List TxnD) (w : World) (h : RecsAt TxnD.cells 7 w a len ts) (hnil : a = none → cap = 0) (hm : len ≤ 1000) :
    Calls Try.prog 49 #[.int .i64 me, .int .i64 sh, .slice a len cap] w fun e w' => ∃ v, e = .returned v ∧ w'.ownsRow w.heap.size 40 18 v (asksL me sh ts).length (flat AskV.cells (asksL me sh ts)) ∧ Below w.heap.size w w' := by
  have bA : Below w.heap.size w (w.alloc (.cells #[.slice none 0 0] 87)) := (Below.refl _ w).alloc (Nat.le_refl _) _
  have HF := asksF_any me sh a len cap ts (w.alloc (.cells #[.slice none 0 0] 87)) (h.below bA) hnil hm
  have HLn : Hid (ts.length ≤ 1000) := by show _ ≤ _; rw [← h.1]; exact hm
  have H0 : Hid (OutI w (w.alloc (.cells #[.slice none 0 0] 87)) [] (.slice none 0 0)) := ⟨bA, heap_alloc_new w _, World.ownsRow_nil _ _ _ _⟩
  have HZ : Hid ((w.alloc (.cells #[.slice none 0 0] 87)).heap.size = w.heap.size + 1) := by show _ = _; simp
  have hsome := seqA_some
  refine (callsIn_wide (n := 5)).1 ?_
  refine callsIn_of_wp_marks Try.func49 rfl trivial ?_ rfl
  simp only [Try.ntmps49, List.size_toArray, List.length_cons, List.length_nil, Nat.reduceAdd, Nat.reduceSub, Array.replicate_succ, Array.replicate_zero, List.push_toArray, List.append_toArray, List.nil_append, List.cons_append]
  clear h hnil hm bA
  gi_wp2_with fail
  refine ⟨trivial, (callsIn_wide.2 HF).mono ?_⟩
  rintro e w2 ⟨Bk, Bm, Bs, a', c', rfl, hF⟩
  have HFn : Hid (AskFn _ w2 me sh ts Bk Bm Bs a' c') := hF
  have H2 : Hid (OutI w w2 [] (.slice none 0 0)) := H0.out.below hF.bel
  have HS2 : Hid (w.heap.size < w2.heap.size) := by show _ < _; have := hF.bel.size; have := HZ.out; omega
  clear HF hF
  gi_wp2_with fail
  clear hsome
  refine range_V (n := 5) (gf := 80) (lb := #[.pointer (some ⟨Bk, 0, none⟩), .pointer (some ⟨Bm, 0, none⟩), .pointer (some ⟨Bs, 0, none⟩)]) (w0 := w2) rfl (enters_of Try.func80 (by kernel_rfl) rfl)
    (asks1_seq (5 - 1) Bk Bm Bs _ c' a' ts me sh w2 HFn.out.k HFn.out.m HFn.out.s HFn.out.row HLn.out) KeepX.tr KeepX.bk (Below.refl _ _) (fun _ => rfl)
    (fun pre X => ∃ v, OutI w X pre v) (fun _ _ _ => False) (fun pre X Z h hb => by obtain ⟨v, h⟩ := h; exact ⟨v, h.below hb⟩) (fun _ _ _ _ h _ => h)
    (fun pre X l o o' hl h ho hc => by obtain ⟨v, h⟩ := h; exact ⟨v, h.put o' (by have := HS2.out; omega) ho hc⟩) (fun _ _ _ _ _ _ _ h _ _ => h) ⟨_, H2.out⟩
    (fun (pre : List AskV) (x : AskV) (act : Act) (X : World) => RA pre x X ∧ ∃ Bx, X.heap[Bx]? = some (.cells (AskV.cells x).toArray 40 (0, 0)) ∧ act = { tmps := #[.int .i64 me, .int .i64 sh, .slice a len cap, undef, undef, undef, .slice none 0 0, .pointer (some ⟨w.heap.size, 0, none⟩), .func (.func 80) #[] #[.pointer (some ⟨Bk, 0, none⟩), .pointer (some ⟨Bm, 0, none⟩), .pointer (some ⟨Bs, 0, none⟩)], .pointer (some ⟨Bx, 0, none⟩), .int .i64 me, .int .i64 sh, .slice a len cap, .func (.func 80) #[] #[.pointer (some ⟨Bk, 0, none⟩), .pointer (some ⟨Bm, 0, none⟩), .pointer (some ⟨Bs, 0, none⟩)], .func (.func 80) #[] #[.pointer (some ⟨Bk, 0, none⟩), .pointer (some ⟨Bm, 0, none⟩), .pointer (some ⟨Bs, 0, none⟩)], .bool false, .func (.func 80) #[] #[.pointer (some ⟨Bk, 0, none⟩), .pointer (some ⟨Bm, 0, none⟩), .pointer (some ⟨Bs, 0, none⟩)], .agg (AskV.cells x).toArray, undef, undef, undef, undef, undef], defers := [] })
    ?hAx ?assign ?body ?done (fun _ _ _ _ _ _ h _ => h.elim)
  case hAx =>
    rintro pre x act _ X Z row ⟨h1, Bx, h2, h3⟩ hg hrow
    exact ⟨h1, Bx, (grownBy_keeps_cells hg (fun r e => (hrow r e).2) h2 rfl).trans h2, h3⟩
  case assign =>
    rintro l' pre ⟨g, k, ok, of_, ot, oa, oy, os, oh, id, nm, n, why, slot, ep, at_, last, data⟩ X K ⟨v, hv⟩ hr hK
    obtain ⟨hr1, hr2⟩ := hr
    simp only at hr2
    subst hr2
    have HKK : Hid _ := hK
    have HI : Hid (OutI w X pre v) := hv
    have HR : Hid (pre.length ≤ 4000) := hr1
    clear hK hv hr1
    have BA : Hid (Below X.heap.size X (X.alloc (.cells #[.int .i64 g, .int .i64 k, .int .i64 ok, .string of_, .string ot, .int .i64 oa, .string oy, .int .i64 os, .int .i64 oh, .string id, .string nm, .int .i64 n, .int .i64 why, .int .i64 slot, .int .i64 ep, .int .i64 at_, .bool last, .slice none 0 0] 40))) := (Below.refl _ X).alloc (Nat.le_refl _) _
    rw [zip_one]
    simp only [AskV.cells, CmdV.cells, List.setIfInBounds_toArray, List.set_cons_zero, List.set_cons_succ]
    refine asks_assign _ _ w.heap.size _ _ _ _ _ _ _ _ _ _ _ _ _ _ _ undef _ _ _ _ _ _ g k ok of_ ot oa oy os oh id nm n why slot ep at_ last X _ ?_
    exact HKK.out _ _ (kf_of_below BA.out) (KeepX.of_below BA.out) ⟨v, HI.out.below BA.out⟩ ⟨⟨HR.out, rfl⟩, X.heap.size, heap_alloc_new X _, rfl⟩
  case body =>
    rintro l' pre ⟨g, k, ok, of_, ot, oa, oy, os, oh, id, nm, n, why, slot, ep, at_, last, data⟩ act X ⟨v, hv⟩ ⟨⟨hr1, hr2⟩, Bx, hx, rfl⟩
    simp only at hr2
    subst hr2
    obtain ⟨v', Z, hrun, hz, hzf, ho, hkx, hkf⟩ := hv.more hr1 (g, ⟨k, ok, of_, ot, oa, oy, os, oh, id, nm, n, why, slot, ep, at_, last, .slice none 0 0⟩) rfl
    have cx : X.cell? ⟨w.heap.size, 0, none⟩ = some v := by simp only [World.cell?, hv.bx]; rfl
    obtain ⟨a5, c5, e5, _⟩ := row_form ho.row
    rw [List.length_append, List.length_singleton] at e5
    subst e5
    obtain ⟨a6, c6, e6, _⟩ := row_form hv.row
    subst e6
    have HO : Hid _ := ho
    have HKX : Hid (KeepX _ _) := hkx
    have HKF : Hid _ := hkf
    have HRun : Hid _ := hrun
    clear hrun ho hkx hkf hv hr1
    simp only [AskV.cells, CmdV.cells] at HRun hx ⊢
    exact asks_body _ _ w.heap.size Bx _ _ _ _ _ _ _ _ _ _ _ _ _ _ _ _ _ _ _ _ _ g k ok of_ ot oa oy os oh id nm n why slot ep at_ last X Z _ _ _ _ _ _ _ cx hx HRun.out hz hzf (fun act => ⟨HKF.out _, HKX.out, _, HO.out⟩)
  case done =>
    rintro D xs X hD rfl ⟨v, hv⟩ hK
    have cx : X.cell? ⟨w.heap.size, 0, none⟩ = some v := by simp only [World.cell?, hv.bx]; rfl
    have HV : Hid (OutI w X (asksL me sh ts) v) := hv
    have HK : Hid (X.heap[D]? = some (.deferred (some []))) := hK
    have HDD : Hid (w.heap.size < D) := by show _ < _; have := HS2.out; omega
    clear hv hK
    gi_wp2
    refine ⟨by simp, .inl ⟨_, _, rfl, run_takeDeferred HK.out, ?_⟩⟩
    have hp := HV.out.put (.deferred none) HDD.out HK.out rfl
    exact ⟨_, results_tmp rfl _ _ _, v, rfl, hp.row, hp.bel⟩
end Go.Proofs.Ytogbcciocgpknaa
