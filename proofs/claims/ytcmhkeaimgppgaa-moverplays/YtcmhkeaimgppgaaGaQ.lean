/- The reference's mover: Told of a Hold that is taken, in phase 2. -/
import Derived.Test.YtcmhkeaimgppgaaRH
namespace Go.Proofs.Ytcmhkeaimgppgaa
open Go.RowKit Go.Shelf
attribute [local go_sem] Oper.semAt_some
set_option linter.unusedVariables false
set_option linter.unusedSimpArgs false

set_option maxRecDepth 100000 in
set_option maxHeartbeats 8000000 in
theorem rtold_held2b {w : World} {base : Bs} {G : Nat} {R : MD} (h : RvIn w base G R) (hb : base.ok w.heap.size) (x : MvD) (C : List Value) (q : AskI) (hC : AskC C q) (hall : (C.drop 1).toArray.all (·.oneCell') = true) (r : ResD) (hr : ResIn w r) (hmet : q.g = x.fr ∧ q.slot = x.slot ∧ q.ep = x.ep) (k8 : q.kind = 8) (p2 : x.ph = 2) (hw0 : r.why = 0) (hhs : (rknowM R x).has = true) (ha : (rknowM R x).at_ ≤ r.l.length) :
    Calls Try.prog 16 #[.pointer (some ⟨G, 0, none⟩), .agg #[.int .i64 x.slot, .int .i64 x.fr, .int .i64 x.to, .int .i64 x.ep, .int .i64 x.ph, .int .i64 x.n], .agg C.toArray, .agg #[.int .i64 r.why, .bool r.wait, .int .i64 r.rw, .int .i64 r.ra, r.rows, .slice r.da r.l.length r.dc]] w fun e w' => e = .returned (.tuple #[.agg #[.int .i64 0, .int .i64 0, .int .i64 0, .int .i64 0, .int .i64 0], .bool false]) ∧ RvIn w' base G (heldM (rknowM R x) r).1 ∧ OnlyR w w' G := by
  obtain ⟨q1, q2, q3, q4, bA⟩ := heap_four w (.cells #[.int .i64 x.slot, .int .i64 x.fr, .int .i64 x.to, .int .i64 x.ep, .int .i64 x.ph, .int .i64 x.n] 37) (.cells C.toArray 35) (.cells #[.int .i64 r.why, .bool r.wait, .int .i64 r.rw, .int .i64 r.ra, r.rows, .slice r.da r.l.length r.dc] 42) (.cells #[.int .i64 0, .int .i64 0, .int .i64 0, .int .i64 0, .int .i64 0] 64)
  have HK := rknow_any (h.below bA) x
  have HST : Hid (∀ w2, RvIn w2 base G (rknowM R x) → OnlyR ((((w.alloc (.cells #[.int .i64 x.slot, .int .i64 x.fr, .int .i64 x.to, .int .i64 x.ep, .int .i64 x.ph, .int .i64 x.n] 37)).alloc (.cells C.toArray 35)).alloc (.cells #[.int .i64 r.why, .bool r.wait, .int .i64 r.rw, .int .i64 r.ra, r.rows, .slice r.da r.l.length r.dc] 42)).alloc (.cells #[.int .i64 0, .int .i64 0, .int .i64 0, .int .i64 0, .int .i64 0] 64)) w2 G → RT1 w ((w2.alloc (.cells #[.int .i64 0, .int .i64 0, .string ⟨#[]⟩, .string ⟨#[]⟩, .int .i64 0, .string ⟨#[]⟩, .int .i64 0, .int .i64 0, .string ⟨#[]⟩, .string ⟨#[]⟩, .int .i64 0, .int .i64 0, .int .i64 0, .int .i64 0, .int .i64 0, .bool false, .slice none 0 0] 33)).setRow w2.heap.size (C.drop 1).toArray) base G w2.heap.size (rknowM R x) x (C.drop 1) q r ∧ w2.rangeAt (w.heap.size + 1) 1 (C.drop 1)) := fun w2 h2 o2 => rt_start h hb x C q hC r hr w2 _ h2 o2
  have Q1 : Hid _ := q1
  have hd : ∀ i, (C.drop 1)[i]? = C[1 + i]? := fun i => by rw [List.getElem?_drop]
  have d0 : (C.drop 1)[0]? = some (.int .i64 q.kind) := (hd 0).trans hC.c1
  have d12 : (C.drop 1)[12]? = some (.int .i64 q.slot) := (hd 12).trans hC.c13
  have d13 : (C.drop 1)[13]? = some (.int .i64 q.ep) := (hd 13).trans hC.c14
  have d14 : (C.drop 1)[14]? = some (.int .i64 q.cat) := (hd 14).trans hC.c15
  have d15 : (C.drop 1)[15]? = some (.bool q.last) := (hd 15).trans hC.c16
  have d16 : (C.drop 1)[16]? = some (.slice q.ca q.cn q.cc) := (hd 16).trans hC.c17
  have dl : (C.drop 1).length = 17 := by simp [hC.len]
  have S1 : Hid ((Try.prog.info? 33).map (·.size) = some (C.drop 1).length) := by
    have e : (Try.prog.info? 33).map (·.size) = some 17 := by kernel_rfl
    show _ = _
    rw [e, dl]
  have S2 : Hid ((Try.prog.info? 33).map (·.size) = some (C.drop 1).toArray.size) := by
    have e : (Try.prog.info? 33).map (·.size) = some 17 := by kernel_rfl
    show _ = _
    rw [e, List.size_toArray, dl]
  have S3 : Hid ((#[.int .i64 0, .int .i64 0, .string ⟨#[]⟩, .string ⟨#[]⟩, .int .i64 0, .string ⟨#[]⟩, .int .i64 0, .int .i64 0, .string ⟨#[]⟩, .string ⟨#[]⟩, .int .i64 0, .int .i64 0, .int .i64 0, .int .i64 0, .int .i64 0, .bool false, .slice none 0 0] : Array Value).size = (C.drop 1).toArray.size) := by
    have e : (C.drop 1).toArray.size = 17 := by rw [List.size_toArray, dl]
    show _ = _
    rw [e]
    rfl
  have S4 : Hid _ := hall
  have DD : Hid ((C.drop 1)[0]? = some (.int .i64 q.kind) ∧ (C.drop 1)[12]? = some (.int .i64 q.slot) ∧ (C.drop 1)[13]? = some (.int .i64 q.ep) ∧ (C.drop 1)[14]? = some (.int .i64 q.cat) ∧ (C.drop 1)[15]? = some (.bool q.last) ∧ (C.drop 1)[16]? = some (.slice q.ca q.cn q.cc)) := ⟨d0, d12, d13, d14, d15, d16⟩
  clear q1 q2 q3 q4 bA hd d0 d12 d13 d14 d15 d16 dl h hb hC hall hr
  generalize rknowM R x = K at *
  have f8 : (q.kind == 8) = true := by rw [k8]; rfl
  have f9 : (q.kind == 9) = false := by rw [k8]; rfl
  have g1 : (x.ph == 1) = false := by rw [p2]; rfl
  have g2 : (x.ph == 2) = true := by rw [p2]; rfl
  have hw : (r.why == 0) = true := by rw [hw0]; rfl
  have e1 : (q.g != x.fr) = false := by simpa using hmet.1
  have e2 : (q.slot != x.slot) = false := by simpa using hmet.2.1
  have e3 : (q.ep != x.ep) = false := by simpa using hmet.2.2
  clear hmet
  clear k8 p2
  have HE : Hid ((heldM K r).1 = ⟨K.n, true, r.l, K.at_⟩) := by show _ = _; unfold heldM; rw [if_pos hw0, if_pos ⟨hhs, ha⟩]
  have HAT : Hid (K.at_ ≤ r.l.length) := ha
  have hz : ¬ ((r.l.length : Int) < (K.at_ : Int)) := by omega
  clear hw0 ha
  go_enter Try.func16, Try.ntmps16
  go_wp2_with (first | (refine wpList_load_row rfl 37 (.tmp 5) rfl w.heap.size rfl 37 _ (0, 0) _ Q1.out Try.underlying37 rfl (by kernel_rfl) ?_))
  refine HK.mono ?_
  clear HK
  rintro e w2 ⟨⟨kv, rfl⟩, h2, o2⟩
  obtain ⟨rt, hrg⟩ := HST.out w2 h2 o2
  clear HST h2 o2
  generalize C.drop 1 = C1 at *
  have N2 : Hid ((w2.alloc (.cells #[.int .i64 0, .int .i64 0, .string ⟨#[]⟩, .string ⟨#[]⟩, .int .i64 0, .string ⟨#[]⟩, .int .i64 0, .int .i64 0, .string ⟨#[]⟩, .string ⟨#[]⟩, .int .i64 0, .int .i64 0, .int .i64 0, .int .i64 0, .int .i64 0, .bool false, .slice none 0 0] 33)).heap[w2.heap.size]? = some (.cells #[.int .i64 0, .int .i64 0, .string ⟨#[]⟩, .string ⟨#[]⟩, .int .i64 0, .string ⟨#[]⟩, .int .i64 0, .int .i64 0, .string ⟨#[]⟩, .string ⟨#[]⟩, .int .i64 0, .int .i64 0, .int .i64 0, .int .i64 0, .int .i64 0, .bool false, .slice none 0 0] 33 (0, 0))) := heap_alloc_new w2 _
  obtain ⟨V, eV⟩ : ∃ V, V = (w2.alloc (.cells #[.int .i64 0, .int .i64 0, .string ⟨#[]⟩, .string ⟨#[]⟩, .int .i64 0, .string ⟨#[]⟩, .int .i64 0, .int .i64 0, .string ⟨#[]⟩, .string ⟨#[]⟩, .int .i64 0, .int .i64 0, .int .i64 0, .int .i64 0, .int .i64 0, .bool false, .slice none 0 0] 33)).setRow w2.heap.size C1.toArray := ⟨_, rfl⟩
  rw [← eV] at rt
  have EV : Hid _ := eV
  have HRG : Hid _ := hrg
  have v0 := rt.xc 0
  have v1 := rt.xc 1
  have v2 := rt.xc 2
  have v3 := rt.xc 3
  have v4 := rt.xc 4
  have r0 := rt.rc 0
  have c0 := (rt.cc 0).trans DD.out.1
  have c12 := (rt.cc 12).trans DD.out.2.1
  have c13 := (rt.cc 13).trans DD.out.2.2.1
  have c14 := (rt.cc 14).trans DD.out.2.2.2.1
  have c15 := (rt.cc 15).trans DD.out.2.2.2.2.1
  have c16 := (rt.cc 16).trans DD.out.2.2.2.2.2
  have a0 := rt.a0
  simp only [List.getElem?_toArray, List.getElem?_cons_zero, List.getElem?_cons_succ] at v0 v1 v2 v3 v4 r0
  have RT : Hid _ := rt
  have RZ : Hid _ := rt.z
  clear rt eV hrg DD
  have hf := rh_first RT.out
  have HF1 : Hid _ := hf.1
  have HF2 : Hid _ := hf.2.1
  have HF3 : Hid (ResIn (V.setCell ⟨G, 2, none⟩ (.slice none 0 0)) r) := ⟨hf.2.2.1, RT.out.res.nil, RT.out.res.len⟩
  obtain ⟨m2v, m2⟩ := hf.2.2.2.1
  have m2f := hf.2.2.2.2
  have HNL : Hid (r.da = none → r.dc = 0) := RT.out.res.nil
  have HLN : Hid (r.l.length ≤ 140737488351232) := RT.out.res.len
  clear hf
  repeat
    (fail_if_success (guard_target =~ (Code.region 8 _ _).wp _ _ _ _)
     first
      | (refine wpList_load_mid rfl 33 (.tmp 15) rfl (w.heap.size + 1) 1 rfl C1 _ HRG.out Try.underlying33 rfl S1.out ?_)
      | (refine wpList_store_row rfl 33 (.tmp 10) (.tmp 16) rfl w2.heap.size C1.toArray rfl rfl 33 _ N2.out S2.out S3.out S4.out ?_; rw [← EV.out])
      | go_values | go_skip | go_guarded | go_step | go_upon | go_back | (simp only [Int.not_lt, Int.not_le] at *; go_simp))
  refine rt8_two_true G w.heap.size (w.heap.size + 1) (w.heap.size + 2) w2.heap.size q.kind x.ph r.why _ _ _ _ _ _ _ _ _ _ _ _ _ _ _ _ _ _ _ _ _ _ _ _ _ _ _ _ _ _ _ _ _ _ _ _ _ _ _ _ _ _ _ _ _ _ _ _ _ _ _ _ _ _ _ _ _ _ _ _ _ _ _ _ _ _ _ _ _ _ _ _ _ _ _ _ _ _ _ _ _ _ _ _ _ _ _ _ _ _ _ _ _ _ _ _ _ _ _ _ _ _ _ _ _ _ _ _ _ _ _ _ _ _ _ _ _ _ _ _ _ _ _ _ _ _ _ _ _ _ _ _ _ _ _ _ _ _ _ _ _ _ _ _ _ _ _ _ _ _ _ _ _ _ _ _ _ _ _ _ _ _ _ _ _ _ _ _ _ _ _ _ _ _ _ _ _ _ _ _ _ _ _ _ _ _ _ _ _ _ _ _ _ V _ c0 v4 r0 f8 g1 g2 hw ?_
  intros
  repeat
    (fail_if_success (guard_target =~ (Code.region 10 _ _).wp _ _ _ _)
     first
      | go_values | go_skip | go_guarded | go_step | go_upon | go_back | (simp only [Int.not_lt, Int.not_le] at *; go_simp))
  refine rtold_r10 _ _ _ _ _ _ _ _ _ _ _ _ _ _ _ _ _ _ _ _ _ _ _ _ _ _ _ _ _ _ _ _ _ _ _ _ _ _ _ _ _ _ _ _ _ _ _ _ _ _ _ _ _ _ _ _ _ _ _ _ _ _ _ _ _ _ _ _ _ _ _ _ _ _ _ _ _ _ _ _ _ _ _ _ _ _ _ _ _ _ _ _ _ _ _ _ _ _ _ _ _ _ _ _ _ _ _ _ _ _ _ _ _ _ _ _ _ _ _ _ _ _ _ _ _ _ _ _ _ _ _ _ _ _ _ _ _ _ _ _ _ _ _ _ _ _ _ _ _ _ _ _ _ _ _ _ _ _ _ _ _ _ _ _ _ _ _ _ _ _ _ _ _ _ _ _ _ _ _ _ _ _ _ _ _ _ _ _ _ _ _ _ _ _ _ _ (V.setCell ⟨G, 2, none⟩ (.slice none 0 0)) G (w.heap.size + 2) K.has K.n (K.at_ : Int) r.why r.wait r.rw r.ra r.rows r.da r.dc r.l HF1.out HF2.out HF3.out.seen HNL.out HLN.out _ (fun _ _ _ _ _ h => h) ?_
  intro W' ua uc v65 v66 v67 v68 v69 v70 v71 v72 v73 v74 bw how
  have rh := RH.start RT.out bw how
  obtain ⟨U, eU⟩ : ∃ U, U = W'.setCell ⟨G, 2, none⟩ (.slice ua r.l.length uc) := ⟨_, rfl⟩
  rw [← eU] at rh ⊢
  clear eU bw how HF1 HF2 HF3 HNL m2 m2f v0 v1 v2 v3 r0 c0 c12 c13 c14 c15 c16 a0 v4 RT RZ N2 EV HRG
  rw [hhs] at rh
  have R1 : Hid _ := rh
  have u1 := rh.cell 1
  have u2 := rh.cell 2
  have u3 := rh.cell 3
  have x4 := rh.xc 4
  simp only [List.getElem?_toArray, List.getElem?_cons_zero, List.getElem?_cons_succ] at u1 u2 u3 x4
  have f1 := rh.fz 1
  have f3 := rh.fz 3
  clear rh
  repeat
    (fail_if_success (guard_target =~ (Code.region 13 _ _).wp _ _ _ _)
     first
      | go_values | go_skip | go_guarded | go_step | go_upon | go_back | (simp only [Int.not_lt, Int.not_le] at *; go_simp))
  go_quiet (fail)
  rename_i nq
  repeat
    (fail_if_success (guard_target =~ (Code.region 15 _ _).wp _ _ _ _)
     first
      | go_values | go_skip | go_guarded | go_step | go_upon | go_back | (simp only [Int.not_lt, Int.not_le] at *; go_simp))
  have R3 : Hid _ := R1.out.drewN nq
  repeat
    (fail_if_success (guard_target =~ (Code.region 16 _ _).wp _ _ _ _)
     first
      | go_values | go_skip | go_guarded | go_step | go_upon | go_back | (simp only [Int.not_lt, Int.not_le] at *; go_simp))
  have rh := R3.out.yes
  obtain ⟨U9, eU9⟩ : ∃ U9, U9 = World.setCell (World.drewN U nq) ⟨G, 1, none⟩ (.bool true) := ⟨_, rfl⟩
  rw [← eU9] at rh ⊢
  clear eU9 u1 u2 u3 x4 f1 f3
  have R9 : Hid _ := rh
  have u1 := rh.cell 1
  have u2 := rh.cell 2
  have u3 := rh.cell 3
  have x4 := rh.xc 4
  simp only [List.getElem?_toArray, List.getElem?_cons_zero, List.getElem?_cons_succ] at u1 u2 u3 x4
  have f1 := rh.fz 1
  have f3 := rh.fz 3
  clear rh
  have hdn := R9.out.done HAT.out (Below.refl _ _) #[.int .i64 0, .int .i64 0, .int .i64 0, .int .i64 0, .int .i64 0]
  have HDN : Hid _ := hdn
  have RZ9 : Hid _ := R9.out.z
  clear hdn
  go_wp2_with (first
    | (refine wpList_store_row rfl 64 (.tmp 8) (.tmp 197) rfl (w.heap.size + 3) #[.int .i64 0, .int .i64 0, .int .i64 0, .int .i64 0, .int .i64 0] rfl rfl 64 _ RZ9.out (by kernel_rfl) rfl (by simp [Value.oneCell']) ?_))
  exact bodyPost_ret (results_ct rfl _ _ (w.heap.size + 3) 64 _ _ _ rfl (setRow_self RZ9.out) Try.underlying64 rfl (by kernel_rfl)) rfl ⟨rfl, by rw [HE.out]; exact HDN.out.1, HDN.out.2.1⟩
end Go.Proofs.Ytcmhkeaimgppgaa

namespace Go.Proofs.Ytcmhkeaimgppgaa
open Go.RowKit Go.Shelf
attribute [local go_sem] Oper.semAt_some
set_option linter.unusedVariables false
set_option linter.unusedSimpArgs false

set_option maxRecDepth 100000 in
set_option maxHeartbeats 8000000 in
theorem rtold_held2c {w : World} {base : Bs} {G : Nat} {R : MD} (h : RvIn w base G R) (hb : base.ok w.heap.size) (x : MvD) (C : List Value) (q : AskI) (hC : AskC C q) (hall : (C.drop 1).toArray.all (·.oneCell') = true) (r : ResD) (hr : ResIn w r) (hmet : q.g = x.fr ∧ q.slot = x.slot ∧ q.ep = x.ep) (k8 : q.kind = 8) (p2 : x.ph = 2) (hw0 : r.why = 0) (hhs : (rknowM R x).has = true) (ha : ¬ (rknowM R x).at_ ≤ r.l.length) :
    Calls Try.prog 16 #[.pointer (some ⟨G, 0, none⟩), .agg #[.int .i64 x.slot, .int .i64 x.fr, .int .i64 x.to, .int .i64 x.ep, .int .i64 x.ph, .int .i64 x.n], .agg C.toArray, .agg #[.int .i64 r.why, .bool r.wait, .int .i64 r.rw, .int .i64 r.ra, r.rows, .slice r.da r.l.length r.dc]] w fun e w' => e = .returned (.tuple #[.agg #[.int .i64 0, .int .i64 0, .int .i64 0, .int .i64 0, .int .i64 0], .bool false]) ∧ RvIn w' base G (heldM (rknowM R x) r).1 ∧ OnlyR w w' G := by
  obtain ⟨q1, q2, q3, q4, bA⟩ := heap_four w (.cells #[.int .i64 x.slot, .int .i64 x.fr, .int .i64 x.to, .int .i64 x.ep, .int .i64 x.ph, .int .i64 x.n] 37) (.cells C.toArray 35) (.cells #[.int .i64 r.why, .bool r.wait, .int .i64 r.rw, .int .i64 r.ra, r.rows, .slice r.da r.l.length r.dc] 42) (.cells #[.int .i64 0, .int .i64 0, .int .i64 0, .int .i64 0, .int .i64 0] 64)
  have HK := rknow_any (h.below bA) x
  have HST : Hid (∀ w2, RvIn w2 base G (rknowM R x) → OnlyR ((((w.alloc (.cells #[.int .i64 x.slot, .int .i64 x.fr, .int .i64 x.to, .int .i64 x.ep, .int .i64 x.ph, .int .i64 x.n] 37)).alloc (.cells C.toArray 35)).alloc (.cells #[.int .i64 r.why, .bool r.wait, .int .i64 r.rw, .int .i64 r.ra, r.rows, .slice r.da r.l.length r.dc] 42)).alloc (.cells #[.int .i64 0, .int .i64 0, .int .i64 0, .int .i64 0, .int .i64 0] 64)) w2 G → RT1 w ((w2.alloc (.cells #[.int .i64 0, .int .i64 0, .string ⟨#[]⟩, .string ⟨#[]⟩, .int .i64 0, .string ⟨#[]⟩, .int .i64 0, .int .i64 0, .string ⟨#[]⟩, .string ⟨#[]⟩, .int .i64 0, .int .i64 0, .int .i64 0, .int .i64 0, .int .i64 0, .bool false, .slice none 0 0] 33)).setRow w2.heap.size (C.drop 1).toArray) base G w2.heap.size (rknowM R x) x (C.drop 1) q r ∧ w2.rangeAt (w.heap.size + 1) 1 (C.drop 1)) := fun w2 h2 o2 => rt_start h hb x C q hC r hr w2 _ h2 o2
  have Q1 : Hid _ := q1
  have hd : ∀ i, (C.drop 1)[i]? = C[1 + i]? := fun i => by rw [List.getElem?_drop]
  have d0 : (C.drop 1)[0]? = some (.int .i64 q.kind) := (hd 0).trans hC.c1
  have d12 : (C.drop 1)[12]? = some (.int .i64 q.slot) := (hd 12).trans hC.c13
  have d13 : (C.drop 1)[13]? = some (.int .i64 q.ep) := (hd 13).trans hC.c14
  have d14 : (C.drop 1)[14]? = some (.int .i64 q.cat) := (hd 14).trans hC.c15
  have d15 : (C.drop 1)[15]? = some (.bool q.last) := (hd 15).trans hC.c16
  have d16 : (C.drop 1)[16]? = some (.slice q.ca q.cn q.cc) := (hd 16).trans hC.c17
  have dl : (C.drop 1).length = 17 := by simp [hC.len]
  have S1 : Hid ((Try.prog.info? 33).map (·.size) = some (C.drop 1).length) := by
    have e : (Try.prog.info? 33).map (·.size) = some 17 := by kernel_rfl
    show _ = _
    rw [e, dl]
  have S2 : Hid ((Try.prog.info? 33).map (·.size) = some (C.drop 1).toArray.size) := by
    have e : (Try.prog.info? 33).map (·.size) = some 17 := by kernel_rfl
    show _ = _
    rw [e, List.size_toArray, dl]
  have S3 : Hid ((#[.int .i64 0, .int .i64 0, .string ⟨#[]⟩, .string ⟨#[]⟩, .int .i64 0, .string ⟨#[]⟩, .int .i64 0, .int .i64 0, .string ⟨#[]⟩, .string ⟨#[]⟩, .int .i64 0, .int .i64 0, .int .i64 0, .int .i64 0, .int .i64 0, .bool false, .slice none 0 0] : Array Value).size = (C.drop 1).toArray.size) := by
    have e : (C.drop 1).toArray.size = 17 := by rw [List.size_toArray, dl]
    show _ = _
    rw [e]
    rfl
  have S4 : Hid _ := hall
  have DD : Hid ((C.drop 1)[0]? = some (.int .i64 q.kind) ∧ (C.drop 1)[12]? = some (.int .i64 q.slot) ∧ (C.drop 1)[13]? = some (.int .i64 q.ep) ∧ (C.drop 1)[14]? = some (.int .i64 q.cat) ∧ (C.drop 1)[15]? = some (.bool q.last) ∧ (C.drop 1)[16]? = some (.slice q.ca q.cn q.cc)) := ⟨d0, d12, d13, d14, d15, d16⟩
  clear q1 q2 q3 q4 bA hd d0 d12 d13 d14 d15 d16 dl h hb hC hall hr
  generalize rknowM R x = K at *
  have f8 : (q.kind == 8) = true := by rw [k8]; rfl
  have f9 : (q.kind == 9) = false := by rw [k8]; rfl
  have g1 : (x.ph == 1) = false := by rw [p2]; rfl
  have g2 : (x.ph == 2) = true := by rw [p2]; rfl
  have hw : (r.why == 0) = true := by rw [hw0]; rfl
  have e1 : (q.g != x.fr) = false := by simpa using hmet.1
  have e2 : (q.slot != x.slot) = false := by simpa using hmet.2.1
  have e3 : (q.ep != x.ep) = false := by simpa using hmet.2.2
  clear hmet
  clear k8 p2
  have HE : Hid ((heldM K r).1 = ⟨K.n, true, r.l, 0⟩) := by show _ = _; unfold heldM; rw [if_pos hw0, if_neg (fun e => ha e.2)]
  have hz : (r.l.length : Int) < (K.at_ : Int) := by omega
  clear hw0 ha
  go_enter Try.func16, Try.ntmps16
  go_wp2_with (first | (refine wpList_load_row rfl 37 (.tmp 5) rfl w.heap.size rfl 37 _ (0, 0) _ Q1.out Try.underlying37 rfl (by kernel_rfl) ?_))
  refine HK.mono ?_
  clear HK
  rintro e w2 ⟨⟨kv, rfl⟩, h2, o2⟩
  obtain ⟨rt, hrg⟩ := HST.out w2 h2 o2
  clear HST h2 o2
  generalize C.drop 1 = C1 at *
  have N2 : Hid ((w2.alloc (.cells #[.int .i64 0, .int .i64 0, .string ⟨#[]⟩, .string ⟨#[]⟩, .int .i64 0, .string ⟨#[]⟩, .int .i64 0, .int .i64 0, .string ⟨#[]⟩, .string ⟨#[]⟩, .int .i64 0, .int .i64 0, .int .i64 0, .int .i64 0, .int .i64 0, .bool false, .slice none 0 0] 33)).heap[w2.heap.size]? = some (.cells #[.int .i64 0, .int .i64 0, .string ⟨#[]⟩, .string ⟨#[]⟩, .int .i64 0, .string ⟨#[]⟩, .int .i64 0, .int .i64 0, .string ⟨#[]⟩, .string ⟨#[]⟩, .int .i64 0, .int .i64 0, .int .i64 0, .int .i64 0, .int .i64 0, .bool false, .slice none 0 0] 33 (0, 0))) := heap_alloc_new w2 _
  obtain ⟨V, eV⟩ : ∃ V, V = (w2.alloc (.cells #[.int .i64 0, .int .i64 0, .string ⟨#[]⟩, .string ⟨#[]⟩, .int .i64 0, .string ⟨#[]⟩, .int .i64 0, .int .i64 0, .string ⟨#[]⟩, .string ⟨#[]⟩, .int .i64 0, .int .i64 0, .int .i64 0, .int .i64 0, .int .i64 0, .bool false, .slice none 0 0] 33)).setRow w2.heap.size C1.toArray := ⟨_, rfl⟩
  rw [← eV] at rt
  have EV : Hid _ := eV
  have HRG : Hid _ := hrg
  have v0 := rt.xc 0
  have v1 := rt.xc 1
  have v2 := rt.xc 2
  have v3 := rt.xc 3
  have v4 := rt.xc 4
  have r0 := rt.rc 0
  have c0 := (rt.cc 0).trans DD.out.1
  have c12 := (rt.cc 12).trans DD.out.2.1
  have c13 := (rt.cc 13).trans DD.out.2.2.1
  have c14 := (rt.cc 14).trans DD.out.2.2.2.1
  have c15 := (rt.cc 15).trans DD.out.2.2.2.2.1
  have c16 := (rt.cc 16).trans DD.out.2.2.2.2.2
  have a0 := rt.a0
  simp only [List.getElem?_toArray, List.getElem?_cons_zero, List.getElem?_cons_succ] at v0 v1 v2 v3 v4 r0
  have RT : Hid _ := rt
  have RZ : Hid _ := rt.z
  clear rt eV hrg DD
  have hf := rh_first RT.out
  have HF1 : Hid _ := hf.1
  have HF2 : Hid _ := hf.2.1
  have HF3 : Hid (ResIn (V.setCell ⟨G, 2, none⟩ (.slice none 0 0)) r) := ⟨hf.2.2.1, RT.out.res.nil, RT.out.res.len⟩
  obtain ⟨m2v, m2⟩ := hf.2.2.2.1
  have m2f := hf.2.2.2.2
  have HNL : Hid (r.da = none → r.dc = 0) := RT.out.res.nil
  have HLN : Hid (r.l.length ≤ 140737488351232) := RT.out.res.len
  clear hf
  repeat
    (fail_if_success (guard_target =~ (Code.region 8 _ _).wp _ _ _ _)
     first
      | (refine wpList_load_mid rfl 33 (.tmp 15) rfl (w.heap.size + 1) 1 rfl C1 _ HRG.out Try.underlying33 rfl S1.out ?_)
      | (refine wpList_store_row rfl 33 (.tmp 10) (.tmp 16) rfl w2.heap.size C1.toArray rfl rfl 33 _ N2.out S2.out S3.out S4.out ?_; rw [← EV.out])
      | go_values | go_skip | go_guarded | go_step | go_upon | go_back | (simp only [Int.not_lt, Int.not_le] at *; go_simp))
  refine rt8_two_true G w.heap.size (w.heap.size + 1) (w.heap.size + 2) w2.heap.size q.kind x.ph r.why _ _ _ _ _ _ _ _ _ _ _ _ _ _ _ _ _ _ _ _ _ _ _ _ _ _ _ _ _ _ _ _ _ _ _ _ _ _ _ _ _ _ _ _ _ _ _ _ _ _ _ _ _ _ _ _ _ _ _ _ _ _ _ _ _ _ _ _ _ _ _ _ _ _ _ _ _ _ _ _ _ _ _ _ _ _ _ _ _ _ _ _ _ _ _ _ _ _ _ _ _ _ _ _ _ _ _ _ _ _ _ _ _ _ _ _ _ _ _ _ _ _ _ _ _ _ _ _ _ _ _ _ _ _ _ _ _ _ _ _ _ _ _ _ _ _ _ _ _ _ _ _ _ _ _ _ _ _ _ _ _ _ _ _ _ _ _ _ _ _ _ _ _ _ _ _ _ _ _ _ _ _ _ _ _ _ _ _ _ _ _ _ _ V _ c0 v4 r0 f8 g1 g2 hw ?_
  intros
  repeat
    (fail_if_success (guard_target =~ (Code.region 10 _ _).wp _ _ _ _)
     first
      | go_values | go_skip | go_guarded | go_step | go_upon | go_back | (simp only [Int.not_lt, Int.not_le] at *; go_simp))
  refine rtold_r10 _ _ _ _ _ _ _ _ _ _ _ _ _ _ _ _ _ _ _ _ _ _ _ _ _ _ _ _ _ _ _ _ _ _ _ _ _ _ _ _ _ _ _ _ _ _ _ _ _ _ _ _ _ _ _ _ _ _ _ _ _ _ _ _ _ _ _ _ _ _ _ _ _ _ _ _ _ _ _ _ _ _ _ _ _ _ _ _ _ _ _ _ _ _ _ _ _ _ _ _ _ _ _ _ _ _ _ _ _ _ _ _ _ _ _ _ _ _ _ _ _ _ _ _ _ _ _ _ _ _ _ _ _ _ _ _ _ _ _ _ _ _ _ _ _ _ _ _ _ _ _ _ _ _ _ _ _ _ _ _ _ _ _ _ _ _ _ _ _ _ _ _ _ _ _ _ _ _ _ _ _ _ _ _ _ _ _ _ _ _ _ _ _ _ _ _ (V.setCell ⟨G, 2, none⟩ (.slice none 0 0)) G (w.heap.size + 2) K.has K.n (K.at_ : Int) r.why r.wait r.rw r.ra r.rows r.da r.dc r.l HF1.out HF2.out HF3.out.seen HNL.out HLN.out _ (fun _ _ _ _ _ h => h) ?_
  intro W' ua uc v65 v66 v67 v68 v69 v70 v71 v72 v73 v74 bw how
  have rh := RH.start RT.out bw how
  obtain ⟨U, eU⟩ : ∃ U, U = W'.setCell ⟨G, 2, none⟩ (.slice ua r.l.length uc) := ⟨_, rfl⟩
  rw [← eU] at rh ⊢
  clear eU bw how HF1 HF2 HF3 HNL m2 m2f v0 v1 v2 v3 r0 c0 c12 c13 c14 c15 c16 a0 v4 RT RZ N2 EV HRG
  rw [hhs] at rh
  have R1 : Hid _ := rh
  have u1 := rh.cell 1
  have u2 := rh.cell 2
  have u3 := rh.cell 3
  have x4 := rh.xc 4
  simp only [List.getElem?_toArray, List.getElem?_cons_zero, List.getElem?_cons_succ] at u1 u2 u3 x4
  have f1 := rh.fz 1
  have f3 := rh.fz 3
  clear rh
  repeat
    (fail_if_success (guard_target =~ (Code.region 13 _ _).wp _ _ _ _)
     first
      | go_values | go_skip | go_guarded | go_step | go_upon | go_back | (simp only [Int.not_lt, Int.not_le] at *; go_simp))
  go_quiet (fail)
  rename_i nq
  repeat
    (fail_if_success (guard_target =~ (Code.region 15 _ _).wp _ _ _ _)
     first
      | go_values | go_skip | go_guarded | go_step | go_upon | go_back | (simp only [Int.not_lt, Int.not_le] at *; go_simp))
  have R3 : Hid _ := R1.out.drewN nq
  have rh := R3.out.at0
  obtain ⟨U4, eU4⟩ : ∃ U4, U4 = World.setCell (World.drewN U nq) ⟨G, 3, none⟩ (.int .i64 0) := ⟨_, rfl⟩
  rw [← eU4] at rh ⊢
  clear eU4 u1 u2 u3 x4 f1 f3
  have R4 : Hid _ := rh
  have u1 := rh.cell 1
  have u2 := rh.cell 2
  have u3 := rh.cell 3
  have x4 := rh.xc 4
  simp only [List.getElem?_toArray, List.getElem?_cons_zero, List.getElem?_cons_succ] at u1 u2 u3 x4
  have f1 := rh.fz 1
  have f3 := rh.fz 3
  clear rh
  repeat
    (fail_if_success (guard_target =~ (Code.region 16 _ _).wp _ _ _ _)
     first
      | go_values | go_skip | go_guarded | go_step | go_upon | go_back | (simp only [Int.not_lt, Int.not_le] at *; go_simp))
  have rh := R4.out.yes
  obtain ⟨U9, eU9⟩ : ∃ U9, U9 = World.setCell U4 ⟨G, 1, none⟩ (.bool true) := ⟨_, rfl⟩
  rw [← eU9] at rh ⊢
  clear eU9 u1 u2 u3 x4 f1 f3
  have R9 : Hid _ := rh
  have u1 := rh.cell 1
  have u2 := rh.cell 2
  have u3 := rh.cell 3
  have x4 := rh.xc 4
  simp only [List.getElem?_toArray, List.getElem?_cons_zero, List.getElem?_cons_succ] at u1 u2 u3 x4
  have f1 := rh.fz 1
  have f3 := rh.fz 3
  clear rh
  have hdn := R9.out.done (Nat.zero_le _) (Below.refl _ _) #[.int .i64 0, .int .i64 0, .int .i64 0, .int .i64 0, .int .i64 0]
  have HDN : Hid _ := hdn
  have RZ9 : Hid _ := R9.out.z
  clear hdn
  go_wp2_with (first
    | (refine wpList_store_row rfl 64 (.tmp 8) (.tmp 197) rfl (w.heap.size + 3) #[.int .i64 0, .int .i64 0, .int .i64 0, .int .i64 0, .int .i64 0] rfl rfl 64 _ RZ9.out (by kernel_rfl) rfl (by simp [Value.oneCell']) ?_))
  exact bodyPost_ret (results_ct rfl _ _ (w.heap.size + 3) 64 _ _ _ rfl (setRow_self RZ9.out) Try.underlying64 rfl (by kernel_rfl)) rfl ⟨rfl, by rw [HE.out]; exact HDN.out.1, HDN.out.2.1⟩
end Go.Proofs.Ytcmhkeaimgppgaa
