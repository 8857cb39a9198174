/- NetPlays: alike. -/
import Derived.Test.YtccmehbdnnelhaaNA3
import Derived.Test.YtccmehbdnnelhaaNA14
import Derived.Test.YtccmehbdnnelhaaNA18
import Derived.Test.YtccmehbdnnelhaaLent
namespace Go.Proofs.Ytccmehbdnnelhaa
open Go.RowKit Go.Maps Go.Shelf
attribute [local go_sem] Oper.semAt_some
set_option linter.unusedVariables false
theorem seqN_in (w : World) (d : Nat) (f : Fn) (a b : Array Value) : (Op.equalIn (d + 1) 58 (.func f a b) .nilFunc).run Try.prog w = .ok false w := by
  simp [Op.equalIn, run_underlying Try.underlying58]
theorem seqN_some (w : World) (f : Fn) (a b : Array Value) : (binOp .eql 58 (.func f a b) .nilFunc).run Try.prog w = .ok (.bool false) w := by
  simp only [binOp]
  simp [Op.equal, Op.maxDepth, seqN_in w 9999 f a b]
theorem results_boolN {fn : Func} {p : Tmp} (h : fn.results = #[.cell p 4]) (tmps : Array Value) (w : World) (g : Nat) (b : Bool) (hp : tmps.getD p undef = .pointer (some ⟨g, 0, none⟩)) (hc : w.cell? ⟨g, 0, none⟩ = some (.bool b)) :
    (results fn tmps).run Try.prog w = .ok (.bool b) w := by
  have hp' : tmps[p]?.getD undef = .pointer (some ⟨g, 0, none⟩) := by simpa using hp
  simp only [results, h]
  simp [hp', asAddr]
  go_simp
/-- An act of alike's range, and what of it counts. -/
def AkAct (B C I A : Nat) (act : Act) : Prop := ∃ s0 s1 s2 s3 s5 s7 s8 s9 s10 s11 s14 s15 s16 s17 s18 s19 s20 s21 s22 s23 s24 s25 s26 s27 s28 s29 s30 s31 s32 s33 s34 s35 s36 s37 s38 s39 s40 s41 s42 s43 s44 s45 s46 s47 s48 s49 s50 s51 s52 s53 s54 s55 s56 s57 s58 s59 s60 s61 s62 s63 s64 s65 s66 s67 s68 s69 s70 s71 s72 s73 s74 s75 s76 s77 s78 s79 s80 s81 s82 s83 s84 s85 s86 s87 s88 s89 s90 s91 s92 s93 s94 s95 s96 s97 s98 s99 s100 s101 s102 s103 s104 s105 s106 s107 s108 : Value, act = { tmps := #[s0, s1, s2, s3, .pointer (some ⟨B, 0, none⟩), s5, .pointer (some ⟨C, 0, none⟩), s7, s8, s9, s10, s11, .pointer (some ⟨I, 0, none⟩), .pointer (some ⟨A, 0, none⟩), s14, s15, s16, s17, s18, s19, s20, s21, s22, s23, s24, s25, s26, s27, s28, s29, s30, s31, s32, s33, s34, s35, s36, s37, s38, s39, s40, s41, s42, s43, s44, s45, s46, s47, s48, s49, s50, s51, s52, s53, s54, s55, s56, s57, s58, s59, s60, s61, s62, s63, s64, s65, s66, s67, s68, s69, s70, s71, s72, s73, s74, s75, s76, s77, s78, s79, s80, s81, s82, s83, s84, s85, s86, s87, s88, s89, s90, s91, s92, s93, s94, s95, s96, s97, s98, s99, s100, s101, s102, s103, s104, s105, s106, s107, s108], defers := [] }
set_option maxRecDepth 100000 in
set_option maxHeartbeats 16000000 in
theorem alike_any (w0 W : World) (N R T : Nat) (L : List Post) (ms : List OpN) (k : Int) (h : Du w0 W N R T L ms) (hk : kwf k) (hT : T ≤ 100000000000) :
    Calls Try.prog 6 #[.pointer (some ⟨N, 0, none⟩), .pointer (some ⟨R, 0, none⟩), .int .i64 k] W fun e W' => e = .returned (.bool true) ∧ Du w0 W' N R T L ms := by
  have b1 := (Below.refl _ W).alloc (Nat.le_refl _) (.cells #[.pointer (some ⟨R, 0, none⟩)] 25)
  have q1 := heap_alloc_new W (.cells #[.pointer (some ⟨R, 0, none⟩)] 25)
  obtain ⟨W1, eW1⟩ : ∃ W1, W.alloc (.cells #[.pointer (some ⟨R, 0, none⟩)] 25) = W1 := ⟨_, rfl⟩
  rw [eW1] at b1 q1
  have sz1 : W1.heap.size = W.heap.size + 1 := by rw [← eW1]; simp
  have b2 := (Below.refl _ W1).alloc (Nat.le_refl _) (.cells #[.bool false] 4)
  have q2 := heap_alloc_new W1 (.cells #[.bool false] 4)
  obtain ⟨V, eV⟩ : ∃ V, W1.alloc (.cells #[.bool false] 4) = V := ⟨_, rfl⟩
  rw [eV] at b2 q2
  obtain ⟨B, eB⟩ : ∃ B, W.heap.size = B := ⟨_, rfl⟩
  obtain ⟨C, eC⟩ : ∃ C, W1.heap.size = C := ⟨_, rfl⟩
  have EW1 : Hid _ := eW1
  have EV : Hid _ := eV
  have EB : Hid (W.heap.size = B) := eB
  have EC : Hid (W.heap.size + 1 = C) := sz1.symm.trans eC
  have HW : Hid (Du w0 W N R T L ms) := h
  have BV : Hid (Below W.heap.size W V) := b1.trans (b2.mono b1.size)
  have HCW : Hid (W.heap.size ≤ C) := by show W.heap.size ≤ C; omega
  have HV : Hid (Du w0 V N R T L ms) := (h.below b1).below b2
  have CB : Hid (V.heap[B]? = some (.cells #[.pointer (some ⟨R, 0, none⟩)] 25 (0, 0))) := by show V.heap[B]? = _; rw [← eB, b2.block _ (by omega)]; exact q1
  have CC : Hid (V.heap[C]? = some (.cells #[.bool false] 4 (0, 0))) := by show V.heap[C]? = _; rw [← eC]; exact q2
  have NBC : Hid (B ≠ C) := fun e => by omega
  have HK : Hid (kwf k) := hk
  have HT : Hid (T ≤ 100000000000) := hT
  have hsq := seqN_some
  clear h hk hT b1 q1 b2 q2 eW1 eV sz1 eB eC
  refine (callsIn_wide (n := 5)).1 ?_
  refine callsIn_of_wp_marks Try.func6 rfl trivial ?_ rfl
  refine wpIn_wide.2 ?_
  simp only [Try.ntmps6, List.size_toArray, List.length_cons, List.length_nil, Nat.reduceAdd, Nat.reduceSub, Array.replicate_succ, Array.replicate_zero, List.push_toArray, List.append_toArray, List.nil_append, List.cons_append]
  repeat
    (fail_if_success (guard_target =~ (Code.region 1 _ _).wp _ _ _ _)
     first | go_values | go_skip | go_guarded | go_step | go_upon | go_back | go_simp)
  rw [show _ = W1 from EW1.out]
  rw [show _ = V from EV.out]
  rw [EC.out, EB.out]
  clear EW1 EV EB EC
  have HLk := lookD HV.out.net k HT.out
  rw [HV.out.tw.1] at HLk
  go_wp2_with fail
  refine HLk.mono ?_
  rintro e w1 ⟨f1, n1, a1, c1, l1, rfl, o1, t1, b1⟩
  clear HLk
  have bA := (Below.refl _ w1).alloc (Nat.le_refl _) (.cells #[.int .i64 f1, .int .i64 n1, .slice a1 l1.length c1] 45)
  have qA := heap_alloc_new w1 (.cells #[.int .i64 f1, .int .i64 n1, .slice a1 l1.length c1] 45)
  obtain ⟨wA, eA⟩ : ∃ x, w1.alloc (.cells #[.int .i64 f1, .int .i64 n1, .slice a1 l1.length c1] 45) = x := ⟨_, rfl⟩
  rw [eA] at bA qA
  have EA : Hid _ := eA
  have BA : Hid (Below V.heap.size V wA) := b1.trans (bA.mono b1.size)
  have OA : Hid (OwnAt V.heap.size wA (.slice a1 l1.length c1) l1) := o1.below bA
  have QA : Hid (wA.heap[w1.heap.size]? = some (.cells #[.int .i64 f1, .int .i64 n1, .slice a1 l1.length c1] 45 (0, 0))) := qA
  have T1 : Hid (LetL L k f1 n1 l1) := t1
  have SA : Hid (V.heap.size ≤ w1.heap.size) := b1.size
  have cBA : wA.cell? ⟨B, 0, none⟩ = some (.pointer (some ⟨R, 0, none⟩)) := by simp only [World.cell?, (BA.out.block _ (Array.getElem?_eq_some_iff.1 CB.out).1).trans CB.out]; rfl
  obtain ⟨v, hr⟩ := (HV.out.below BA.out).ref
  have HRk := rlookD hr k
  obtain ⟨er, eer⟩ : ∃ er, errT k ms.length = er := ⟨_, rfl⟩
  rw [eer] at HRk
  rw [eer]
  obtain ⟨m1, em1⟩ : ∃ m1, l1.length = m1 := ⟨_, rfl⟩
  have EM1 : Hid (l1.length = m1) := em1
  rw [em1] at EA
  rw [em1]
  clear bA qA eA b1 o1 t1 hr eer em1
  repeat
    (fail_if_success (guard_target =~ (Code.region 2 _ _).wp _ _ _ _)
     first | go_values | go_skip | go_guarded | go_step | go_upon | go_back | go_simp)
  rw [show _ = wA from EA.out]
  clear EA
  go_wp2_with fail
  refine HRk.mono ?_
  rintro e w2 ⟨f2, n2, a2, c2, l2, rfl, dd, t2, b2⟩
  clear HRk cBA
  obtain ⟨rfl, rfl, rfl⟩ := let_same HV.out.tw T1.out t2
  have bB := (Below.refl _ w2).alloc (Nat.le_refl _) (.cells #[.int .i64 f1, .int .i64 n1, .slice a2 l1.length c2] 48)
  have qB := heap_alloc_new w2 (.cells #[.int .i64 f1, .int .i64 n1, .slice a2 l1.length c2] 48)
  obtain ⟨wB, eB2⟩ : ∃ x, w2.alloc (.cells #[.int .i64 f1, .int .i64 n1, .slice a2 l1.length c2] 48) = x := ⟨_, rfl⟩
  rw [eB2] at bB qB
  have EB2 : Hid _ := eB2
  have BAB : Hid (Below wA.heap.size wA wB) := b2.trans (bB.mono b2.size)
  have BB : Hid (Below V.heap.size V wB) := BA.out.trans (BAB.out.mono BA.out.size)
  have QB : Hid (wB.heap[w2.heap.size]? = some (.cells #[.int .i64 f1, .int .i64 n1, .slice a2 l1.length c2] 48 (0, 0))) := qB
  have QAB : Hid (wB.heap[w1.heap.size]? = some (.cells #[.int .i64 f1, .int .i64 n1, .slice a1 l1.length c1] 45 (0, 0))) := (BAB.out.block _ (Array.getElem?_eq_some_iff.1 QA.out).1).trans QA.out
  have OB : Hid (OwnAt V.heap.size wB (.slice a1 l1.length c1) l1) := OA.out.below BAB.out
  have SB : Hid (DataAt wB (.slice a2 l1.length c2) l1) := dd.below bB
  have SM : Hid (l1.length ≤ 1048576) := by
    rcases T1.out with ⟨_, _, _, e⟩ | ⟨i, hi, _, _, _, e⟩
    · show l1.length ≤ _; rw [e]; simp
    · show l1.length ≤ _; rw [e]; exact HV.out.net.1 _ (List.getElem_mem hi)
  rw [EM1.out] at EB2
  rw [EM1.out]
  clear bB qB eB2 b2 dd t2
  repeat
    (fail_if_success (guard_target =~ (Code.region 3 _ _).wp _ _ _ _)
     first | go_values | go_skip | go_guarded | go_step | go_upon | go_back | go_simp)
  rw [show _ = wB from EB2.out]
  clear EB2
  have sA : Seen wB a1 l1.length l1 := by
    obtain ⟨_, _, e, s, _⟩ := OB.out.data (by have := SM.out; omega)
    cases e
    exact s
  have sB : Seen wB a2 l1.length l1 := by
    obtain ⟨_, _, e, s, _⟩ := SB.out
    cases e
    exact s
  refine na_r3 w0 wB N R T B w1.heap.size w2.heap.size L ms k er f1 n1 a1 a2 c1 c2 l1 _ _ _ _ _ _ _ _ _ _ _ _ _ _ _ _ _ _ _ _ _ _ _ _ _ _ _ _ _ _ _ _ _ _ _ _ _ _ _ _ _ _ _ _ _ _ _ _ _ _ _ _ _ _ _ _ _ _ _ _ _ _ _ _ _ _ _ _ _ _ _ _ _ _ _ _ _ _ _ _ _ _ _ _ _ _ _ _ _ _ _ _ _ _ _ _ _ _ _ _ _ _ (HV.out.below BB.out) HK.out ((BB.out.block _ (Array.getElem?_eq_some_iff.1 CB.out).1).trans CB.out) QAB.out QB.out sA sB _ _ ?_
  intro u26 u27 u28 u29 u30 u31 u32 u33 u34 u35 u36 u37 u38 u39 u40 u41 u42 u43 u44 u45 u46 u47 u48 u49 u50 u51 u52 u53 u54 u55 u56 u57 u58 u59 u60 w3 b3
  have O3 : Hid (OwnAt V.heap.size w3 (.slice a1 l1.length c1) l1) := OB.out.below b3
  have B3 : Hid (Below V.heap.size V w3) := BB.out.trans (b3.mono BB.out.size)
  have c3 : w3.cell? ⟨w1.heap.size, 2, none⟩ = some (.slice a1 l1.length c1) := by simp only [World.cell?, (b3.block _ (Array.getElem?_eq_some_iff.1 QAB.out).1).trans QAB.out]; rfl
  have HSp := spoil_row V.heap.size _ l1.length l1 w3 O3.out B3.out.size (by have := SM.out; omega)
  clear b3 sA sB QA QAB QB OA OB SB BAB BA BB
  rw [EM1.out] at c3 HSp O3
  go_wp2_with fail
  refine HSp.mono ?_
  rintro e w4 ⟨⟨u, rfl⟩, g4⟩
  clear HSp c3
  have B4 : Hid (Below V.heap.size V w4) := B3.out.grown g4 B3.out.size (fun x e => (row_lt4 O3.out e).1)
  have cB4 : w4.cell? ⟨B, 0, none⟩ = some (.pointer (some ⟨R, 0, none⟩)) := by simp only [World.cell?, (B4.out.block _ (Array.getElem?_eq_some_iff.1 CB.out).1).trans CB.out]; rfl
  have qC4 : w4.heap[C]? = some (.cells #[.bool false] 4 (0, 0)) := (B4.out.block _ (Array.getElem?_eq_some_iff.1 CC.out).1).trans CC.out
  have cC4 : w4.cell? ⟨C, 0, none⟩ = some (.bool false) := by simp only [World.cell?, qC4]; rfl
  have fC4 : w4.frozen? ⟨C, 0, none⟩ = false := by simp only [World.frozen?, qC4]; rfl
  obtain ⟨v, hr⟩ := (HV.out.below B4.out).ref
  have c0 := hr.c0
  obtain ⟨ga, gc, rfl⟩ := hr.form
  have hm := hr.len
  obtain ⟨m, em⟩ : ∃ m, ms.length = m := ⟨_, rfl⟩
  have EM : Hid (ms.length = m) := em
  rw [em] at c0 hm
  have HMm : Hid (m ≤ 10000) := hm
  clear g4 hr em hm O3
  by_cases hgt : 100 < m
  · have hg1 : (100 : Int) < (m : Int) := by omega
    go_wp2
    refine ⟨.bool true, results_boolN rfl _ _ C true rfl ?_, rfl, ?_⟩
    · exact World.cell?_setCell_same' _ _ _ (by rw [cC4]; rfl)
    · exact HW.out.below ((BV.out.trans (B4.out.mono BV.out.size)).setCell (p := ⟨C, 0, none⟩) HCW.out _)
  have hg1 : ¬ (100 : Int) < (m : Int) := by omega
  have HAl := all_any (HV.out.below B4.out).net
  go_wp2_with fail
  refine HAl.mono ?_
  rintro e w5 ⟨Bx, a, c, rfl, f1, f2, f3⟩
  clear HAl cC4 fC4 cB4 c0
  have B5 : Hid (Below V.heap.size V w5) := B4.out.trans (f3.mono B4.out.size)
  obtain ⟨w6, hw6⟩ : ∃ w6, w5.alloc (.cells #[.int .i64 0] 3) = w6 := ⟨_, rfl⟩
  have b6 : Below w5.heap.size w5 w6 := by rw [← hw6]; exact (Below.refl _ w5).alloc (Nat.le_refl _) _
  have Bi : w6.heap[w5.heap.size]? = some (.cells #[.int .i64 ((0 : Nat) : Int)] 3 (0, 0)) := by rw [← hw6]; exact heap_alloc_new w5 _
  have D6 := HV.out.below (B5.out.trans (b6.mono B5.out.size))
  have F0 : Hid (FrN w5 w6 w6 w5.heap.size 0) := ⟨b6, Nat.le_refl _, (Array.getElem?_eq_some_iff.1 Bi).1, ⟨rfl, rfl, rfl, Nat.le_refl _, fun _ _ _ => rfl⟩, Bi⟩
  have cx6 : w6.cell? ⟨Bx, 0, none⟩ = some (.slice a L.length c) := by simp only [World.cell?, (b6.block _ (Array.getElem?_eq_some_iff.1 f1).1).trans f1]; rfl
  have HSeq := all1_seq (5 - 1) Bx w4.heap.size c a L w6 cx6 (owns_kept f2 (fun g e => b6.block g (row_lt4 f2 e).2)) D6.net.dat D6.net.1 (by have := HMm.out; have := EM.out; have := HV.out.tw.1; omega)
  have HW6 : Hid _ := hw6
  clear f1 f2 f3 cx6 D6 b6 Bi hw6
  go_wp2_with fail
  rw [show _ = w6 from HW6.out]
  clear HW6 hsq
  refine (wpIn_wide (n := 5)).1 ?_
  refine range_V (n := 5) (gf := 36) (lb := #[.pointer (some ⟨Bx, 0, none⟩)]) (w0 := w6) rfl (enters_of Try.func36 (by kernel_rfl) rfl)
    HSeq KcA.tr KcA.bk (Below.refl _ _) (fun _ => rfl)
    (fun pre X => pre.length ≤ L.length ∧ FrN w5 w6 X w5.heap.size pre.length) (fun _ _ _ => False) (fun pre X Z h hb => ⟨h.1, h.2.low (hb.mono h.2.grown.size)⟩) (fun _ _ _ _ h _ => h)
    (fun pre X l o o' hl h ho hc => ⟨h.1, h.2.put o' hl⟩) (fun _ _ _ _ _ _ _ h _ _ => h) ⟨Nat.zero_le _, F0.out⟩
    (fun (pre : List Post) (x : Post) (act : Act) (X : World) => RAl w6.heap.size L pre x X ∧ ∃ A, X.heap[A]? = some (.cells #[.int .i64 x.fr, .int .i64 x.to, x.dv] 45 (0, 0)) ∧ AkAct B C w5.heap.size A act)
    ?hAx ?assign ?body ?done (fun _ _ _ _ _ _ h _ => h.elim)
  case hAx =>
    rintro pre x act _ X Z row ⟨⟨hk, e1, e2, e3, ho⟩, A, hA, h3⟩ hg hrow
    refine ⟨⟨hk, e1, e2, e3, ho.keep (fun g _ hl h8 => ?_)⟩, A, (grownBy_keeps_cells hg (fun r e => (hrow r e).2) hA rfl).trans hA, h3⟩
    obtain ⟨cs, z, h8⟩ := h8
    exact grownBy_keeps_cells hg (fun r e => (hrow r e).2) h8 rfl
  case assign =>
    rintro l' pre ⟨fr, to, dv, bb, tt⟩ X K ⟨h1, h2⟩ ⟨hk, e1, e2, e3, ho⟩ hK
    replace ho : OwnAt w6.heap.size X dv bb := ho
    obtain ⟨va, vc, rfl⟩ := ho.form
    have BX : Below X.heap.size X (X.alloc (.cells #[.int .i64 fr, .int .i64 to, .slice va bb.length vc] 45)) := (Below.refl _ X).alloc (Nat.le_refl _) _
    have FIN : Hid (∀ act, AkAct B C w5.heap.size X.heap.size act → K act (X.alloc (.cells #[.int .i64 fr, .int .i64 to, .slice va bb.length vc] 45))) := fun act hact =>
      hK _ _ (kf_of_below BX) (KcA.of_below BX) ⟨h1, h2.low (BX.mono h2.grown.size)⟩ ⟨⟨hk, e1, e2, e3, ho.below BX⟩, X.heap.size, heap_alloc_new X _, hact⟩
    clear h1 h2 hk e1 e2 e3 ho hK BX
    simp only at FIN ⊢
    generalize bb.length = bn at *
    rw [zip_one]
    simp only [List.setIfInBounds_toArray, List.set_cons_zero, List.set_cons_succ]
    gi_wp2_with (first
      | (refine listIn_store_row 45 (.tmp 13) (.tmp 76) X.heap.size #[.int .i64 fr, .int .i64 to, .slice va bn vc] 45 _ rfl rfl rfl rfl (heap_alloc_new X _) (by kernel_rfl) rfl (by simp [Value.oneCell']) ?_; rw [setRow_newN]))
    exact FIN.out _ ⟨_, _, _, _, _, _, _, _, _, _, _, _, _, _, _, _, _, _, _, _, _, _, _, _, _, _, _, _, _, _, _, _, _, _, _, _, _, _, _, _, _, _, _, _, _, _, _, _, _, _, _, _, _, _, _, _, _, _, _, _, _, _, _, _, _, _, _, _, _, _, _, _, _, _, _, _, _, _, _, _, _, _, _, _, _, _, _, _, _, _, _, _, _, _, _, _, _, _, _, _, _, _, _, _, _, rfl⟩
  case body =>
    rintro l' pre ⟨fr, to, dv, bb, tt⟩ act X ⟨h1, h2⟩ ⟨⟨hk, e1, e2, e3, ho⟩, A, hA, hact⟩
    obtain ⟨s0, s1, s2, s3, s5, s7, s8, s9, s10, s11, s14, s15, s16, s17, s18, s19, s20, s21, s22, s23, s24, s25, s26, s27, s28, s29, s30, s31, s32, s33, s34, s35, s36, s37, s38, s39, s40, s41, s42, s43, s44, s45, s46, s47, s48, s49, s50, s51, s52, s53, s54, s55, s56, s57, s58, s59, s60, s61, s62, s63, s64, s65, s66, s67, s68, s69, s70, s71, s72, s73, s74, s75, s76, s77, s78, s79, s80, s81, s82, s83, s84, s85, s86, s87, s88, s89, s90, s91, s92, s93, s94, s95, s96, s97, s98, s99, s100, s101, s102, s103, s104, s105, s106, s107, s108, rfl⟩ := hact
    replace ho : OwnAt w6.heap.size X dv bb := ho
    replace hA : X.heap[A]? = some (.cells #[.int .i64 fr, .int .i64 to, dv] 45 (0, 0)) := hA
    replace e1 : fr = L[pre.length].fr := e1
    replace e2 : to = L[pre.length].to := e2
    replace e3 : bb = L[pre.length].b := e3
    obtain ⟨va, vc, rfl⟩ := ho.form
    have BX : Below V.heap.size V X := B5.out.trans (h2.all.mono B5.out.size)
    have hj : pre.length < ms.length := by rw [← HV.out.tw.1]; exact hk
    obtain ⟨g1, g2, g3⟩ := HV.out.tw.2 _ hk hj
    have hlen : bb.length ≤ 1048576 := by rw [e3]; exact HV.out.net.1 _ (List.getElem_mem hk)
    have HH2 : Hid (FrN w5 w6 X w5.heap.size pre.length) := h2
    have HO : Hid (OwnAt w6.heap.size X (.slice va bb.length vc) bb) := ho
    have HA : Hid (X.heap[A]? = some (.cells #[.int .i64 fr, .int .i64 to, .slice va bb.length vc] 45 (0, 0))) := hA
    have HLT : Hid (pre.length < L.length) := hk
    have HLen : Hid (bb.length ≤ 1048576) := hlen
    have sX : Seen X va bb.length bb := by
      obtain ⟨_, _, e, s, _⟩ := ho.data (by omega)
      cases e
      exact s
    have HS : Hid (Seen X va bb.length bb) := sX
    have HBX : Hid (Below V.heap.size V X) := BX
    have HJ : Hid (∃ hj : pre.length < ms.length, fr = ms[pre.length].f ∧ to = ms[pre.length].n ∧ bb = ms[pre.length].b) := ⟨hj, e1.trans g1, e2.trans g2, e3.trans g3⟩
    clear h1 h2 ho hA hk hlen sX BX e1 e2 e3 g1 g2 g3 hj
    gi_wp2_with fail
    obtain ⟨hj, j1, j2, j3⟩ := HJ.out
    refine na_r14 w0 X N R T B A w5.heap.size pre.length l' _ L ms hj fr to va vc bb _ _ _ _ _ _ _ _ _ _ _ _ _ _ _ _ _ _ _ _ _ _ _ _ _ _ _ _ _ _ _ _ _ _ _ _ _ _ _ _ _ _ _ _ _ _ _ _ _ _ _ _ _ _ _ _ _ _ _ _ _ _ _ _ _ _ _ _ _ _ _ _ _ _ _ _ _ _ _ _ _ _ _ _ _ _ _ _ _ _ _ _ _ _ _ _ _ _ _ _ _ _ _ _ _ _ (HV.out.below HBX.out) ((HBX.out.block _ (Array.getElem?_eq_some_iff.1 CB.out).1).trans CB.out) HH2.out.box HA.out HS.out j1 j2 j3 _ _ ?_
    intro u77 u78 u79 u80 u81 u82 u83 u84 u85 u86 u87 u88 u89 u90 u91 u92 u93 u94 u95 Y bY
    have HY : Hid (Below X.heap.size X Y) := bY
    have OY : Hid (OwnAt w6.heap.size Y (.slice va bb.length vc) bb) := HO.out.below bY
    have cA : Y.cell? ⟨A, 2, none⟩ = some (.slice va bb.length vc) := by simp only [World.cell?, (bY.block _ (Array.getElem?_eq_some_iff.1 HA.out).1).trans HA.out]; rfl
    have FY : Hid (FrN w5 w6 Y w5.heap.size pre.length) := HH2.out.low (bY.mono HH2.out.grown.size)
    have SX := spoil_row w6.heap.size (.slice va bb.length vc) bb.length bb Y OY.out FY.out.grown.size (by have := HLen.out; omega)
    clear bY hj j1 j2 j3
    gi_wp2_with fail
    refine ⟨trivial, ((callsIn_wide.2 SX).inRound l').mono ?_⟩
    clear SX cA
    rintro e Z ⟨⟨_, rfl⟩, g⟩
    have BZ := FY.out.low ((Below.refl _ Y).grown g FY.out.grown.size (fun k e => (row_lt4 OY.out e).1))
    have d3 : Z.cell? ⟨w5.heap.size, 0, none⟩ = some (.int .i64 (pre.length : Nat)) := by simp [World.cell?, BZ.box]
    have d4 : Z.frozen? ⟨w5.heap.size, 0, none⟩ = false := by simp [World.frozen?, BZ.box]
    have hw1 : IntKind.i64.wrap ((pre.length : Int) + 1) = ((pre.length + 1 : Nat) : Int) := by rw [IntKind.wrap_i64]; have := HLT.out; have := HV.out.tw.1; have := EM.out; have := HMm.out; omega
    have NX : Hid (FrN w5 w6 (Z.setCell ⟨w5.heap.size, 0, none⟩ (.int .i64 ((pre.length + 1 : Nat) : Int))) w5.heap.size (pre.length + 1)) := FY.out.next OY.out g _
    have KX : Hid (KeepsFrom w6.heap.size X (Z.setCell ⟨w5.heap.size, 0, none⟩ (.int .i64 ((pre.length + 1 : Nat) : Int))) ∧ KcA w6.heap.size X (Z.setCell ⟨w5.heap.size, 0, none⟩ (.int .i64 ((pre.length + 1 : Nat) : Int)))) :=
      ⟨(kf_of_below HY.out).trans (FY.out.keeps OY.out g _).1, (KcA.of_below HY.out).tr (FY.out.keeps OY.out g _).2⟩
    clear g BZ
    gi_wp2
    have e1 : ((pre.length : Int) + 1) = ((pre.length + 1 : Nat) : Int) := by simp
    rw [e1]
    refine ⟨KX.out.1, KX.out.2, ?_, ?_⟩
    · rw [List.length_append]; exact HLT.out
    · rw [List.length_append]; exact NX.out
  case done =>
    rintro D xs X hD hS ⟨h1, h2⟩ hK
    have BX : Below V.heap.size V X := B5.out.trans (h2.all.mono B5.out.size)
    have hxl : xs.length = ms.length := hS.trans HV.out.tw.1
    rw [hxl] at h2
    have qC := (BX.block _ (Array.getElem?_eq_some_iff.1 CC.out).1).trans CC.out
    have HBX : Hid (Below V.heap.size V X) := BX
    have HKD : Hid (X.heap[D]? = some (.deferred (some []))) := hK
    have HDV : Hid (V.heap.size ≤ D) := Nat.le_trans B5.out.size (Nat.le_trans F0.out.bel.size hD)
    have HI2 : Hid (X.heap[w5.heap.size]? = some (.cells #[.int .i64 (ms.length : Nat)] 3 (0, 0))) := h2.box
    have HQC : Hid (X.heap[C]? = some (.cells #[.bool false] 4 (0, 0))) := qC
    clear h1 h2 hD hS hK BX qC hxl
    repeat
      (fail_if_success (guard_target =~ (Code.region 18 _ _).wp _ _ _ _)
       first | go_values | go_skip | go_guarded | go_step | go_upon | go_back | go_simp)
    refine na_r18 w0 X N R T B C w5.heap.size L ms _ _ _ _ _ _ _ _ _ _ _ _ _ _ _ _ _ _ _ _ _ _ _ _ _ _ _ _ _ _ _ _ _ _ _ _ _ _ _ _ _ _ _ _ _ _ _ _ _ _ _ _ _ _ _ _ _ _ _ _ _ _ _ _ _ _ _ _ _ _ _ _ _ _ _ _ _ _ _ _ _ _ _ _ _ _ _ _ _ _ _ _ _ _ _ _ _ _ _ _ _ _ _ _ _ _ (HV.out.below HBX.out) ((HBX.out.block _ (Array.getElem?_eq_some_iff.1 CB.out).1).trans CB.out) HI2.out HQC.out _ _ _ ?_
    intro u102 u103 u104 u105 u106 u107 u108
    have hCD : C < V.heap.size := (Array.getElem?_eq_some_iff.1 CC.out).1
    have KD : Hid ((X.drew.setCell ⟨C, 0, none⟩ (.bool true)).heap[D]? = some (.deferred (some []))) := by
      show (X.drew.setCell ⟨C, 0, none⟩ (.bool true)).heap[D]? = _
      rw [Below.heap_setCell _ _ _ D (fun e => by have e' : D = C := (by simpa using e); have := HDV.out; omega)]
      exact HKD.out
    have ZZ : Hid (Below W.heap.size W (X.drew.setCell ⟨C, 0, none⟩ (.bool true))) := (BV.out.trans (HBX.out.drew.mono BV.out.size)).setCell (p := ⟨C, 0, none⟩) HCW.out _
    have Q2 : Hid ((X.drew.setCell ⟨C, 0, none⟩ (.bool true)).cell? ⟨C, 0, none⟩ = some (.bool true)) := World.cell?_setCell_same' _ _ _ (by
      show (X.cell? ⟨C, 0, none⟩).isSome = true
      simp only [World.cell?, HQC.out]; rfl)
    go_wp2
    refine ⟨by simp, .inl ⟨_, _, rfl, run_takeDeferred KD.out, ?_⟩⟩
    refine ⟨.bool true, results_boolN rfl _ _ C true rfl ?_, rfl, ?_⟩
    · exact cell_kept Q2.out (grownBy_putObj' _ D (.deferred none)) (fun r e => by cases e; exact ⟨_, KD.out, rfl⟩)
    · exact HW.out.below (ZZ.out.grown (grownBy_putObj' _ D (.deferred none)) ZZ.out.size (fun k e => by cases e; have := HDV.out; have := BV.out.size; omega))
end Go.Proofs.Ytccmehbdnnelhaa
