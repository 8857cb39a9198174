/- Package journal: Open. -/
import Derived.Test.YtikpmaecbfebkaaDoorJStep
namespace Go.Proofs.YtikpmaecbfebkaaDoor
open Go.RowKit Go.Shelf
attribute [local go_sem] Oper.semAt_some
set_option linter.unusedVariables false

theorem results_3 {P : Program} {fn : Func} {p q u : Tmp} (h : fn.results = #[.tmp p, .tmp q, .tmp u]) (tmps : Array Value) (w : World) : (results fn tmps).run P w = .ok (.tuple #[tmps.getD p undef, tmps.getD q undef, tmps.getD u undef]) w := by
  unfold results
  simp [h, go_sem]
set_option maxRecDepth 100000 in
set_option maxHeartbeats 4000000 in
theorem open_clean (m : DM) (n : Nat) (d : DS) (fr sz st : Nat) (w : World) (hT : Tabs w) (hd : Dsk w m n d) (h1 : 1 ≤ st) (h2 : st ≤ 1152921504606846976) (hz : 2 ≤ sz) (hs : fr + sz ≤ n)
    (hno : ∀ xs, Chain d fr sz st xs → recFrom d fr sz st (numb st xs) = none → ∀ s, numb st xs ≤ s → s < numb st xs + sz → ¬ rightP (atS d fr sz s) s) :
    Calls Tryd.prog 16 #[.pointer (some ⟨m.D, 0, none⟩), .int .i64 (fr : Int), .int .i64 (sz : Int), .int .i64 (st : Int)] w fun e w' => ∃ (xs : List GotJ) (v : Value), e = .returned (.tuple #[.pointer (some ⟨w.heap.size, 0, none⟩), v, .int .i64 0]) ∧ recFrom d fr sz st (numb st xs) = none ∧ OSt w w' m n d w.heap.size fr sz st xs ∧ w'.heap[w.heap.size + 2]? = some (.cells #[v] 31 (0, 0)) := by
  refine (callsIn_wide (n := 5)).1 ?_
  refine callsIn_of_wp_marks Tryd.func16 rfl trivial ?_ rfl
  refine wpIn_wide.2 ?_
  simp only [Tryd.ntmps16, List.size_toArray, List.length_cons, List.length_nil, Nat.reduceAdd, Nat.reduceSub, Array.replicate_succ, Array.replicate_zero, List.push_toArray, List.append_toArray, List.nil_append, List.cons_append]
  have hn := hd.ok.n2
  have HB : Hid (1 ≤ st ∧ st ≤ 1152921504606846976 ∧ 2 ≤ sz ∧ fr + sz ≤ n ∧ n ≤ 4096) := ⟨h1, h2, hz, hs, hn⟩
  have HT : Hid (Tabs w) := hT
  have HD : Hid (Dsk w m n d) := hd
  have HNo : Hid _ := hno
  have g1 : ¬ ((fr : Int) < 0) := by omega
  have g2 : ¬ ((sz : Int) < 2) := by omega
  have g3 : ¬ ((sz : Int) > (n : Int) - (fr : Int)) := by omega
  have g3' : ¬ ((n : Int) - (fr : Int) < (sz : Int)) := by omega
  have g4 : ¬ ((st : Int) < 1) := by omega
  have g5 : ¬ (1152921504606846976 < (st : Int)) := by omega
  have g6 : ¬ ((st : Int) > 1152921504606846976) := by omega
  have g7 : IntKind.i64.wrap ((n : Int) - (fr : Int)) = (n : Int) - (fr : Int) := by rw [IntKind.wrap_i64]; omega
  have HSz := size_any m n d w hd
  have hst := ost_start (fr := fr) (sz := sz) (st := st) hd hT
  have HS0 : Hid _ := hst
  clear hT hd h1 h2 hz hs hn hno hst
  go_wp2_with fail
  refine HSz.mono ?_
  rintro e w1 ⟨rfl, hw1⟩
  subst w1
  clear HSz
  have HSt := standing_any w.heap.size (((w.alloc (.cells #[.pointer (some ⟨m.D, 0, none⟩), .int .i64 (fr : Int), .int .i64 (sz : Int), .int .i64 (st : Int), .int .i64 (st : Int), .bool false] 80)).alloc (.cells #[.pointer (some ⟨w.heap.size, 0, none⟩)] 37)).alloc (.cells #[.slice none 0 0] 31))
  rw [show (((w.alloc (.cells #[.pointer (some ⟨m.D, 0, none⟩), .int .i64 (fr : Int), .int .i64 (sz : Int), .int .i64 (st : Int), .int .i64 (st : Int), .bool false] 80)).alloc (.cells #[.pointer (some ⟨w.heap.size, 0, none⟩)] 37)).alloc (.cells #[.slice none 0 0] 31)).heap.size = w.heap.size + 3 by simp] at HSt
  go_wp2_with fail
  refine HSt.mono ?_
  clear HSt
  rintro e w2 ⟨rfl, hw2⟩
  rw [← hw2] at HS0
  clear hw2
  go_wp2_with fail
  have JS : Hid (JSt w2 m n d w.heap.size (w.heap.size + 3) fr sz st false) := ⟨HS0.out.dk, ⟨_, HS0.out.ja⟩, by simp only [World.cell?, HS0.out.ck]; rfl, HS0.out.tb⟩
  clear g1 g2 g3 g3' g4 g5 g6 g7
  refine (wpIn_wide (n := 5)).1 ?_
  refine range_U2 (n := 5) (gf := 67) (lb := #[.pointer (some ⟨w.heap.size + 3, 0, none⟩)]) (w0 := w2) (v1 := fun x : GotJ => x.v) (v2 := fun x : GotJ => .int .i64 (x.b : Int)) (by simp) (by simp) (by decide) (by decide) rfl (enters_of Tryd.func67 (by kernel_rfl) rfl)
    (standing1_seq 4 m n d w.heap.size (w.heap.size + 3) fr sz st false w2 JS.out HB.out.1 (by have := HB.out; omega) (by have := HB.out; omega) HB.out.2.2.2.1) KJ.tr (fun A => KJ.of_below (Below.refl _ _)) KJ.put (Below.refl _ _) ?hR
    (fun pre X => OSt w X m n d w.heap.size fr sz st pre) (fun _ _ _ => False) (fun pre X Y h b => h.below b) (fun _ _ _ _ h _ => h) ?hP (fun _ _ _ _ _ _ _ h _ _ => h) HS0.out ?body ?done (fun _ _ _ _ _ _ h _ => h.elim)
  case hR =>
    rintro pre x _ X Y row ⟨h1, h2⟩ hg hrow
    refine ⟨h1, h2.kept fun g hu => ?_⟩
    obtain ⟨cs, z, e⟩ := hu
    exact grownBy_keeps_cells hg (fun r e => (hrow r e).2) e rfl
  case hP =>
    intro pre X l o o' hl h ho hc
    exact h.put o' (by have := HS0.out.sz4; omega) ho hc
  case body =>
    rintro l' pre ⟨xv, xl, xb⟩ X hO ⟨hr, hi⟩
    obtain ⟨v, hv, ho, va, vl, vc, rfl⟩ := hO.cr
    have hi' := hi
    obtain ⟨g, o, c, ev, _⟩ := hi'
    simp only at ev hr hi ⊢
    subst ev
    have hz4 := hO.sz4
    have hlen : pre.length ≤ 100000 := by have := hO.ln; have := hO.nb; have := HB.out; omega
    obtain ⟨P, pc, w', hrun, ow, gw⟩ := recs_append ho hz4 hlen (.slice (some ⟨g, o, none⟩) xl.length c) rfl
    have ST := fun B => OSt.step HD.out HT.out hO (x := ⟨.slice (some ⟨g, o, none⟩) xl.length c, xl, xb⟩) hr hi hv ho ow gw B
    have own : ∀ q, (Value.slice va vl vc).ownBlock = some q → w.heap.size + 4 ≤ q := fun q e => (ho.lt q e).1
    have k1 : ∀ k, k < w.heap.size + 4 → w'.heap[k]? = X.heap[k]? := fun k hk => (gw.block k (by simp; omega) (fun e => by have := own k e.symm; omega)).trans (Below.heap_alloc _ _ _ (by omega))
    have c0 : X.cell? ⟨w.heap.size + 1 + 1, 0, none⟩ = some (.slice va vl vc) := by simp only [World.cell?, Nat.add_assoc, Nat.reduceAdd, hv]; rfl
    have c0' : w'.cell? ⟨w.heap.size + 1 + 1, 0, none⟩ = some (.slice va vl vc) := by rw [World.cell?_of_block (w := X) (a := ⟨w.heap.size + 1 + 1, 0, none⟩) (k1 (w.heap.size + 2) (by omega))]; exact c0
    have c1 : (w'.setCell ⟨w.heap.size + 1 + 1, 0, none⟩ (.slice (some ⟨P, 0, none⟩) (pre.length + 1) pc)).cell? ⟨w.heap.size + 1, 0, none⟩ = some (.pointer (some ⟨w.heap.size, 0, none⟩)) := by
      rw [World.cell?_of_block (w := X) (a := ⟨w.heap.size + 1, 0, none⟩) ((Below.heap_setCell _ _ _ _ (by show w.heap.size + 1 ≠ w.heap.size + 1 + 1; omega)).trans (k1 (w.heap.size + 1) (by omega)))]
      simp only [World.cell?, hO.cj]; rfl
    have c2 : (w'.setCell ⟨w.heap.size + 1 + 1, 0, none⟩ (.slice (some ⟨P, 0, none⟩) (pre.length + 1) pc)).cell? ⟨w.heap.size, 4, none⟩ = some (.int .i64 (numb st pre : Int)) := by
      rw [World.cell?_of_block (w := X) (a := ⟨w.heap.size, 4, none⟩) ((Below.heap_setCell _ _ _ _ (by show w.heap.size ≠ w.heap.size + 1 + 1; omega)).trans (k1 (w.heap.size) (by omega)))]
      exact hO.ja.cells.2.2.2.2.1
    have z0 : w'.frozen? ⟨w.heap.size + 1 + 1, 0, none⟩ = false := by
      have e := (k1 (w.heap.size + 2) (by omega)).trans hv
      simp only [World.frozen?, Nat.add_assoc, Nat.reduceAdd, e]; rfl
    have z2 : (w'.setCell ⟨w.heap.size + 1 + 1, 0, none⟩ (.slice (some ⟨P, 0, none⟩) (pre.length + 1) pc)).frozen? ⟨w.heap.size, 4, none⟩ = false := by
      have e := ((Below.heap_setCell w' ⟨w.heap.size + 1 + 1, 0, none⟩ (.slice (some ⟨P, 0, none⟩) (pre.length + 1) pc) w.heap.size (by show w.heap.size ≠ w.heap.size + 1 + 1; omega)).trans (k1 (w.heap.size) (by omega))).trans hO.ja
      simp only [World.frozen?, e]; rfl
    have HR : Hid _ := hrun
    have STH : Hid _ := ST
    clear hO hv ho hr hi hz4 hlen hrun ow gw ST own k1 HNo HS0 JS HB
    simp only [List.setIfInBounds_toArray, List.set_cons_zero, List.set_cons_succ]
    gi_wp2_with (gi_at_builtin; refine wpListIn_append_known rfl (.tmp 52) (.tmp 54) 31 31 rfl _ _ rfl rfl _ _ HR.out ?_)
    exact STH.out _
  case done =>
    rintro D xs X hD hS hO hK
    have cx : X.cell? ⟨w.heap.size + 1, 0, none⟩ = some (.pointer (some ⟨w.heap.size, 0, none⟩)) := by simp only [World.cell?, hO.cj]; rfl
    have HW := wipe_clean m n d w.heap.size fr sz st (numb st xs) false X hO.tb hO.dk hO.ja (by have := hO.nb; have := HB.out; omega) (by have := hO.nb; have := HB.out; omega) (by have := HB.out; omega) HB.out.2.2.2.1 (HNo.out xs hO.ch hS)
    have HO : Hid (OSt w X m n d w.heap.size fr sz st xs) := hO
    have HK : Hid (X.heap[D]? = some (.deferred (some []))) := hK
    have HSS : Hid (recFrom d fr sz st (numb st xs) = none) := hS
    have HDD : Hid (w.heap.size + 4 ≤ D) := by show _ ≤ _; have := HS0.out.sz4; omega
    clear hO hK hS hD HNo HS0 JS
    go_wp2_with fail
    refine HW.mono ?_
    clear HW cx
    rintro e w3 ⟨rfl, b3⟩
    have O3 := HO.out.below b3
    have K3 : Hid (w3.heap[D]? = some (.deferred (some []))) := (b3.block D (Array.getElem?_eq_some_iff.1 HK.out).1).trans HK.out
    obtain ⟨v, hv, _, va, vl, vc, rfl⟩ := O3.cr
    have d1 : w3.cell? ⟨w.heap.size + 1, 0, none⟩ = some (.pointer (some ⟨w.heap.size, 0, none⟩)) := by simp only [World.cell?, O3.cj]; rfl
    have d2 : w3.cell? ⟨w.heap.size + 1 + 1, 0, none⟩ = some (.slice va vl vc) := by simp only [World.cell?, Nat.add_assoc, Nat.reduceAdd, hv]; rfl
    have HV : Hid _ := hv
    have HO3 : Hid (OSt w w3 m n d w.heap.size fr sz st xs) := O3
    clear hv O3 b3 HO HK
    go_wp2_with fail
    go_quiet (fail)
    have O4 : Hid (OSt w (w3.drewN nq) m n d w.heap.size fr sz st xs) := HO3.out.below (below_drewN' (Below.refl _ w3) nq)
    have K4 : Hid ((w3.drewN nq).heap[D]? = some (.deferred (some []))) := K3.out
    have V4 : Hid ((w3.drewN nq).heap[w.heap.size + 2]? = some (.cells #[.slice va vl vc] 31 (0, 0))) := HV.out
    clear d1 d2 HO3 K3 HV
    go_wp2
    refine ⟨by simp, .inl ⟨_, _, rfl, run_takeDeferred K4.out, ?_⟩⟩
    refine ⟨_, results_3 rfl _ _, xs, .slice va vl vc, rfl, HSS.out, O4.out.put _ (by have := HDD.out; omega) K4.out rfl, ?_⟩
    rw [World.putObj_heap_other (by have := HDD.out; omega)]
    exact V4.out
end Go.Proofs.YtikpmaecbfebkaaDoor
