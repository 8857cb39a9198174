/- Package mover: Told. -/
import Derived.Test.YtcmhkeaimgppgaaMTold
namespace Go.Proofs.Ytcmhkeaimgppgaa
open Go.RowKit Go.Shelf
attribute [local go_sem] Oper.semAt_some
set_option linter.unusedVariables false

theorem heap_five (w : World) (o1 o2 o3 o4 o5 : Obj) : (((((w.alloc o1).alloc o2).alloc o3).alloc o4).alloc o5).heap[w.heap.size]? = some o1 ∧ (((((w.alloc o1).alloc o2).alloc o3).alloc o4).alloc o5).heap[w.heap.size + 1]? = some o2 ∧ (((((w.alloc o1).alloc o2).alloc o3).alloc o4).alloc o5).heap[w.heap.size + 2]? = some o3 ∧ (((((w.alloc o1).alloc o2).alloc o3).alloc o4).alloc o5).heap[w.heap.size + 3]? = some o4 ∧ (((((w.alloc o1).alloc o2).alloc o3).alloc o4).alloc o5).heap[w.heap.size + 4]? = some o5 ∧ Below w.heap.size w (((((w.alloc o1).alloc o2).alloc o3).alloc o4).alloc o5) := by
  refine ⟨?_, ?_, ?_, ?_, ?_, (((((Below.refl _ w).alloc (Nat.le_refl _) _).alloc (by simp) _).alloc (by simp <;> omega) _).alloc (by simp <;> omega) _).alloc (by simp <;> omega) _⟩
  · rw [Below.heap_alloc _ _ _ (by simp <;> omega), Below.heap_alloc _ _ _ (by simp <;> omega), Below.heap_alloc _ _ _ (by simp <;> omega), Below.heap_alloc _ _ _ (by simp), heap_alloc_new]
  · rw [Below.heap_alloc _ _ _ (by simp <;> omega), Below.heap_alloc _ _ _ (by simp <;> omega), Below.heap_alloc _ _ _ (by simp), heap_two]
  · rw [Below.heap_alloc _ _ _ (by simp <;> omega), Below.heap_alloc _ _ _ (by simp), heap_three]
  · rw [Below.heap_alloc _ _ _ (by simp)]
    simpa using heap_alloc_new (((w.alloc o1).alloc o2).alloc o3) o4
  · simpa using heap_alloc_new ((((w.alloc o1).alloc o2).alloc o3).alloc o4) o5
theorem wpIn_scope_wide {n : Nat} {P : Program} {c : Code} {Q : Exit → Act → World → Prop} {a : Act} {w : World} (h : c.wpIn Fence.wide n P (Exit.noGoto Q) a w) : (Code.scope c).wpIn Fence.wide n P Q a w :=
  wpIn_wide.2 (wp_scope_straight (wpIn_wide.1 h))
theorem told_nil (x : MvD) (C : List Value) (r : ResD) (w : World) : Calls Try.prog 14 #[.pointer none, .agg #[.int .i64 x.slot, .int .i64 x.fr, .int .i64 x.to, .int .i64 x.ep, .int .i64 x.ph, .int .i64 x.n], .agg C.toArray, .agg #[.int .i64 r.why, .bool r.wait, .int .i64 r.rw, .int .i64 r.ra, r.rows, .slice r.da r.l.length r.dc]] w fun e w' => e = .returned (.tuple #[.agg #[.int .i64 0, .int .i64 0, .int .i64 0, .int .i64 0, .int .i64 0], .bool false]) ∧ Below w.heap.size w w' := by
  obtain ⟨q1, q2, q3, q4, q5, bA⟩ := heap_five w (.cells #[.pointer none] 23) (.cells #[.int .i64 x.slot, .int .i64 x.fr, .int .i64 x.to, .int .i64 x.ep, .int .i64 x.ph, .int .i64 x.n] 47) (.cells C.toArray 54) (.cells #[.int .i64 r.why, .bool r.wait, .int .i64 r.rw, .int .i64 r.ra, r.rows, .slice r.da r.l.length r.dc] 57) (.cells #[.int .i64 0, .int .i64 0, .int .i64 0, .int .i64 0, .int .i64 0] 60)
  have x0 : (((((w.alloc (.cells #[.pointer none] 23)).alloc (.cells #[.int .i64 x.slot, .int .i64 x.fr, .int .i64 x.to, .int .i64 x.ep, .int .i64 x.ph, .int .i64 x.n] 47)).alloc (.cells C.toArray 54)).alloc (.cells #[.int .i64 r.why, .bool r.wait, .int .i64 r.rw, .int .i64 r.ra, r.rows, .slice r.da r.l.length r.dc] 57)).alloc (.cells #[.int .i64 0, .int .i64 0, .int .i64 0, .int .i64 0, .int .i64 0] 60)).cell? ⟨w.heap.size, 0, none⟩ = some (.pointer none) := by simp only [World.cell?, q1]; rfl
  have Q5 : Hid _ := q5
  have BA : Hid _ := bA
  clear q1 q2 q3 q4 q5 bA
  go_enter Try.func14, Try.ntmps14
  go_wp2
  refine wp_scope_straight ?_
  go_wp2_with (first | (refine wpList_store_row rfl 60 (.tmp 8) (.tmp 15) rfl (w.heap.size + 4) #[.int .i64 0, .int .i64 0, .int .i64 0, .int .i64 0, .int .i64 0] rfl rfl 60 _ Q5.out (by kernel_rfl) rfl (by simp [Value.oneCell']) ?_))
  try dsimp only [Exit.noGoto, Exit.then]
  exact bodyPost_ret (results_ct rfl _ _ (w.heap.size + 4) 60 _ _ _ rfl (setRow_self Q5.out) Try.underlying60 rfl (by kernel_rfl)) rfl ⟨rfl, below_row BA.out (by omega) _⟩
/-- What follows. -/
def toldC (b : Bool) (x : MvD) : Array Value := if b = true then #[.int .i64 2, .int .i64 0, .int .i64 0, .int .i64 x.n, .int .i64 x.ph] else #[.int .i64 0, .int .i64 0, .int .i64 0, .int .i64 0, .int .i64 0]
set_option maxRecDepth 100000 in
set_option maxHeartbeats 4000000 in
theorem told_any {w : World} {base : Bs} {G : Nat} {M : MD} (h : MvIn w base G M) (hb : base.ok w.heap.size) (x : MvD) (C : List Value) (q : AskI) (hC : AskC C q) (r : ResD) (hr : ResIn w r) :
    Calls Try.prog 14 #[.pointer (some ⟨G, 0, none⟩), .agg #[.int .i64 x.slot, .int .i64 x.fr, .int .i64 x.to, .int .i64 x.ep, .int .i64 x.ph, .int .i64 x.n], .agg C.toArray, .agg #[.int .i64 r.why, .bool r.wait, .int .i64 r.rw, .int .i64 r.ra, r.rows, .slice r.da r.l.length r.dc]] w fun e w' => e = .returned (.tuple #[.agg (toldC (toldM M x q r).2 x), .bool (toldM M x q r).2]) ∧ MvIn w' base G (toldM M x q r).1 ∧ OnlyR w w' G := by
  obtain ⟨q1, q2, q3, q4, q5, bA⟩ := heap_five w (.cells #[.pointer (some ⟨G, 0, none⟩)] 23) (.cells #[.int .i64 x.slot, .int .i64 x.fr, .int .i64 x.to, .int .i64 x.ep, .int .i64 x.ph, .int .i64 x.n] 47) (.cells C.toArray 54) (.cells #[.int .i64 r.why, .bool r.wait, .int .i64 r.rw, .int .i64 r.ra, r.rows, .slice r.da r.l.length r.dc] 57) (.cells #[.int .i64 0, .int .i64 0, .int .i64 0, .int .i64 0, .int .i64 0] 60)
  have x0 : (((((w.alloc (.cells #[.pointer (some ⟨G, 0, none⟩)] 23)).alloc (.cells #[.int .i64 x.slot, .int .i64 x.fr, .int .i64 x.to, .int .i64 x.ep, .int .i64 x.ph, .int .i64 x.n] 47)).alloc (.cells C.toArray 54)).alloc (.cells #[.int .i64 r.why, .bool r.wait, .int .i64 r.rw, .int .i64 r.ra, r.rows, .slice r.da r.l.length r.dc] 57)).alloc (.cells #[.int .i64 0, .int .i64 0, .int .i64 0, .int .i64 0, .int .i64 0] 60)).cell? ⟨w.heap.size, 0, none⟩ = some (.pointer (some ⟨G, 0, none⟩)) := by simp only [World.cell?, q1]; rfl
  have HKn := know_any (h.below bA) x
  have hlt := h.lt
  have HT : Hid (∀ w2, MvIn w2 base G (knowM M x) → OnlyR (((((w.alloc (.cells #[.pointer (some ⟨G, 0, none⟩)] 23)).alloc (.cells #[.int .i64 x.slot, .int .i64 x.fr, .int .i64 x.to, .int .i64 x.ep, .int .i64 x.ph, .int .i64 x.n] 47)).alloc (.cells C.toArray 54)).alloc (.cells #[.int .i64 r.why, .bool r.wait, .int .i64 r.rw, .int .i64 r.ra, r.rows, .slice r.da r.l.length r.dc] 57)).alloc (.cells #[.int .i64 0, .int .i64 0, .int .i64 0, .int .i64 0, .int .i64 0] 60)) w2 G → TI w (w2.alloc (.cells #[.bool false] 4)) base G w2.heap.size x C r (knowM M x, false)) := fun w2 h2 o2 => by
    have kb : ∀ {k : Nat} {ob : Obj}, (((((w.alloc (.cells #[.pointer (some ⟨G, 0, none⟩)] 23)).alloc (.cells #[.int .i64 x.slot, .int .i64 x.fr, .int .i64 x.to, .int .i64 x.ep, .int .i64 x.ph, .int .i64 x.n] 47)).alloc (.cells C.toArray 54)).alloc (.cells #[.int .i64 r.why, .bool r.wait, .int .i64 r.rw, .int .i64 r.ra, r.rows, .slice r.da r.l.length r.dc] 57)).alloc (.cells #[.int .i64 0, .int .i64 0, .int .i64 0, .int .i64 0, .int .i64 0] 60)).heap[k]? = some ob → k ≠ G → (w2.alloc (.cells #[.bool false] 4)).heap[k]? = some ob := fun hk hn => by
      have hl := (Array.getElem?_eq_some_iff.1 hk).1
      rw [Below.heap_alloc _ _ _ (Nat.lt_of_lt_of_le hl o2.size)]
      exact (o2.block _ hl hn).trans hk
    refine ⟨h2.alloc _, heap_alloc_new w2 _, kb q1 (by omega), kb q2 (by omega), kb q3 (by omega), kb q4 (by omega), kb q5 (by omega), ?_, ((OnlyR.of_below bA G).trans o2).alloc _, ?_⟩
    · exact ⟨(seen_only (hr.seen.below bA) (h.below bA) o2).below ((Below.refl _ w2).alloc (Nat.le_refl _) _), hr.nil, hr.len⟩
    · exact Nat.lt_of_lt_of_le (Array.getElem?_eq_some_iff.1 q5).1 o2.size
  have Q2 : Hid _ := q2
  have HG : Hid (G < w.heap.size) := hlt
  have HB : Hid (base.ok w.heap.size) := hb
  have HCC : Hid (AskC C q) := hC
  refine (callsIn_wide (n := 5)).1 ?_
  refine callsIn_of_wp_marks Try.func14 rfl trivial ?_ rfl
  simp only [Try.ntmps14, List.size_toArray, List.length_cons, List.length_nil, Nat.reduceAdd, Nat.reduceSub, Array.replicate_succ, Array.replicate_zero, List.push_toArray, List.append_toArray, List.nil_append, List.cons_append]
  clear h bA q1 q2 q3 q4 q5 hlt hb hC hr
  gi_wp2_with fail
  refine wpIn_scope_wide ?_
  gi_wp2_with (first | (refine listIn_row 47 (.tmp 5) (w.heap.size + 1) 47 _ (0, 0) _ rfl rfl rfl Q2.out Try.underlying47 rfl (by kernel_rfl) ?_))
  refine ⟨trivial, (callsIn_wide.2 HKn).mono ?_⟩
  rintro e w2 ⟨⟨kv, rfl⟩, h2, o2⟩
  have hI := HT.out w2 h2 o2
  have HI : Hid (TI w (w2.alloc (.cells #[.bool false] 4)) base G w2.heap.size x C r (knowM M x, false)) := hI
  have HD := duties_any x (w2.alloc (.cells #[.bool false] 4))
  have R5 : Hid _ := hI.b5
  have LW : Hid (w.heap.size ≤ w2.heap.size) := by show _ ≤ _; have := hI.lo; omega
  clear HKn HT h2 o2 hI Q2 x0
  gi_wp2_with fail
  refine wpIn_label ?_
  gi_wp2_with (first | (refine listIn_row 47 (.tmp 5) (w.heap.size + 1) 47 _ (0, 0) _ rfl rfl rfl R5.out Try.underlying47 rfl (by kernel_rfl) ?_))
  refine ⟨trivial, (callsIn_wide.2 HD).mono ?_⟩
  rintro e w4 ⟨rfl, hd4, b4⟩
  have hI4 := HI.out.below b4
  have HI4 : Hid (TI w w4 base G w2.heap.size x C r (knowM M x, false)) := hI4
  have HD4 : Hid (w4.heap[(w2.alloc (.cells #[.bool false] 4)).heap.size]? = some (.cells #[.int .i64 x.slot, .int .i64 x.fr, .int .i64 x.to, .int .i64 x.ep, .int .i64 x.ph, .int .i64 x.n] 47 (0, 0))) := hd4
  have LW4 : Hid (w.heap.size ≤ w4.heap.size) := by show _ ≤ _; have := hI4.ch.size; omega
  clear HD hd4 b4 hI4 HI R5
  generalize (w2.alloc (.cells #[.bool false] 4)).heap.size = Bd at *
  generalize w2.heap.size = E at *
  gi_wp2_with fail
  refine range_V (n := 5) (gf := 32) (lb := #[.pointer (some ⟨Bd, 0, none⟩)]) (w0 := w4) rfl (enters_of Try.func32 (by kernel_rfl) rfl)
    (duties1_seq (5 - 1) Bd x w4 HD4.out) KeepV.tr KeepV.bk (Below.refl _ _) (fun _ => rfl)
    (fun pre X => TI w X base G E x C r (stD (knowM M x) x q r pre) ∧ ∀ y ∈ pre, y.1 = q.kind → q.g = y.2 ∧ q.slot = x.slot ∧ q.ep = x.ep) (fun c pre X => c = .exit 0 ∧ toldM M x q r = (knowM M x, false) ∧ TI w X base G E x C r (knowM M x, false))
    (fun pre X Z h hb => ⟨h.1.below hb, h.2⟩) (fun c pre X Z h hb => ⟨h.1, h.2.1, h.2.2.below hb⟩)
    (fun pre X l o o' hl h ho hc => ⟨h.1.put o' (Nat.le_trans LW4.out hl) ho hc, h.2⟩) (fun c pre X l o o' hl h ho hc => ⟨h.1, h.2.1, h.2.2.put o' (Nat.le_trans LW4.out hl) ho hc⟩) ⟨HI4.out, fun y hy => by cases hy⟩
    (fun (pre : List (Int × Int)) (y : Int × Int) (act : Act) (X : World) => RD x pre y X ∧ act = { tmps := #[.pointer (some ⟨G, 0, none⟩), .agg #[.int .i64 x.slot, .int .i64 x.fr, .int .i64 x.to, .int .i64 x.ep, .int .i64 x.ph, .int .i64 x.n], .agg C.toArray, .agg #[.int .i64 r.why, .bool r.wait, .int .i64 r.rw, .int .i64 r.ra, r.rows, .slice r.da r.l.length r.dc], .pointer (some ⟨w.heap.size, 0, none⟩), .pointer (some ⟨w.heap.size + 1, 0, none⟩), .pointer (some ⟨w.heap.size + 2, 0, none⟩), .pointer (some ⟨w.heap.size + 3, 0, none⟩), .pointer (some ⟨w.heap.size + 4, 0, none⟩), .bool false, .pointer (some ⟨E, 0, none⟩), .int .i64 y.1, .int .i64 y.2, .pointer (some ⟨G, 0, none⟩), .bool false, undef, .pointer (some ⟨G, 0, none⟩), .agg #[.int .i64 x.slot, .int .i64 x.fr, .int .i64 x.to, .int .i64 x.ep, .int .i64 x.ph, .int .i64 x.n], kv, .agg #[.int .i64 x.slot, .int .i64 x.fr, .int .i64 x.to, .int .i64 x.ep, .int .i64 x.ph, .int .i64 x.n], .func (.func 32) #[] #[.pointer (some ⟨Bd, 0, none⟩)], .int .i64 y.1, .int .i64 y.2, undef, undef, undef, undef, undef, undef, undef, undef, undef, undef, undef, undef, undef, undef, undef, undef, undef, undef, undef, undef, undef, undef, undef, undef, undef, undef, undef, undef, undef, undef, undef, undef, undef, undef, undef, undef, undef, undef, undef, undef, undef, undef], defers := [] })
    ?hAx ?assign ?body ?done ?stop
  case hAx =>
    rintro pre y act _ X Z row h hg hrow
    exact h
  case assign =>
    rintro l' pre ⟨y1, y2⟩ X K hI hr hK
    dsimp only [encD]
    simp only [List.zip_toArray, List.zip_cons_cons, List.zip_nil_right, List.foldl_toArray, List.foldl_cons, List.foldl_nil, List.setIfInBounds_toArray, List.set_cons_zero, List.set_cons_succ]
    have HKK : Hid _ := hK
    have HII : Hid _ := hI
    have HRR : Hid _ := hr
    clear hK hI hr
    gi_wp2
    exact HKK.out _ _ (kf_of_below (Below.refl _ _)) (fun _ _ _ q => q) HII.out ⟨HRR.out, rfl⟩
  case body =>
    rintro l' pre ⟨y1, y2⟩ act X ⟨hI, hmet⟩ ⟨⟨rest, hrd⟩, rfl⟩
    have HMet : Hid (∀ y ∈ pre, y.1 = q.kind → q.g = y.2 ∧ q.slot = x.slot ∧ q.ep = x.ep) := hmet
    clear hmet
    dsimp only at *
    obtain ⟨o1, o2, o3⟩ := duty_once hrd
    have hcc := HCC.out
    have k0 : X.cell? ⟨w.heap.size + 2, 0, none⟩ = some (.int .i64 q.g) := by simp only [World.cell?, hI.b6]; simpa using hcc.c0
    have k1 : X.cell? ⟨w.heap.size + 2, 1, none⟩ = some (.int .i64 q.kind) := by simp only [World.cell?, hI.b6]; simpa using hcc.c1
    have k13 : X.cell? ⟨w.heap.size + 2, 13, none⟩ = some (.int .i64 q.slot) := by simp only [World.cell?, hI.b6]; simpa using hcc.c13
    have k14 : X.cell? ⟨w.heap.size + 2, 14, none⟩ = some (.int .i64 q.ep) := by simp only [World.cell?, hI.b6]; simpa using hcc.c14
    have x0 : X.cell? ⟨w.heap.size + 1, 0, none⟩ = some (.int .i64 x.slot) := by simp only [World.cell?, hI.b5]; rfl
    have x3 : X.cell? ⟨w.heap.size + 1, 3, none⟩ = some (.int .i64 x.ep) := by simp only [World.cell?, hI.b5]; rfl
    have x4 : X.cell? ⟨w.heap.size + 1, 4, none⟩ = some (.int .i64 x.ph) := by simp only [World.cell?, hI.b5]; rfl
    have m0 : X.cell? ⟨w.heap.size, 0, none⟩ = some (.pointer (some ⟨G, 0, none⟩)) := by simp only [World.cell?, hI.b4]; rfl
    have HII : Hid (TI w X base G E x C r (stD (knowM M x) x q r pre)) := hI
    by_cases hk : q.kind = y1
    · have hst : stD (knowM M x) x q r pre = (knowM M x, false) := by unfold stD; rw [hk, o1]; rfl
      have dk : (q.kind != y1) = false := by simpa using hk
      have htold : toldM M x q r = (if q.g = y2 ∧ q.slot = x.slot ∧ q.ep = x.ep then learnQ (knowM M x) x q r else (knowM M x, false)) := by unfold toldM dutyG; rw [hk, o3]; rfl
      rw [hst] at HII
      have miss : (¬ (q.g = y2 ∧ q.slot = x.slot ∧ q.ep = x.ep)) → Hid (Code.exit 0 = Code.exit 0 ∧ toldM M x q r = (knowM M x, false) ∧ TI w X base G E x C r (knowM M x, false)) := fun hn => ⟨rfl, by rw [htold, if_neg hn], HII.out⟩
      by_cases hg : q.g = y2
      · have dg : (q.g != y2) = false := by simpa using hg
        by_cases hs : q.slot = x.slot
        · have ds : (q.slot != x.slot) = false := by simpa using hs
          by_cases he : q.ep = x.ep
          · have de : (q.ep != x.ep) = false := by simpa using he
            rw [if_pos ⟨hg, hs, he⟩] at htold
            have hst2 : stD (knowM M x) x q r (pre ++ [(y1, y2)]) = learnQ (knowM M x) x q r := by unfold stD; rw [if_pos (by simp [hk])]
            have HL := learn_any HII.out.m (HB.out.mono HII.out.ch.size) x.ph (C.drop 1) q.kind q.cat q.last q.ca q.cn q.cc r HII.out.res (by simp [hcc.len]) (by rw [List.getElem?_drop]; exact hcc.c1) (by rw [List.getElem?_drop]; exact hcc.c15) (by rw [List.getElem?_drop]; exact hcc.c16) (by rw [List.getElem?_drop]; exact hcc.c17) hcc.bound
            have hrange : X.rangeAt (w.heap.size + 2) 1 (C.drop 1) := fun j v hv => by
              simp only [World.cell?, HII.out.b6]
              rw [List.getElem?_drop] at hv
              simpa using hv
            have hsz : (Try.prog.info? 52).map (·.size) = some (C.drop 1).length := by
              have : (Try.prog.info? 52).map (·.size) = some 17 := by kernel_rfl
              rw [this]
              simp [hcc.len]
            have HRG : Hid _ := hrange
            have HSZ : Hid _ := hsz
            have HR7 : Hid _ := HII.out.b7
            have HST : Hid _ := hst2
            have HM3 : Hid (∀ y ∈ pre ++ [(y1, y2)], y.1 = q.kind → q.g = y.2 ∧ q.slot = x.slot ∧ q.ep = x.ep) := fun y hy hyk => by
              rcases List.mem_append.1 hy with hy | hy
              · exact HMet.out y hy hyk
              · obtain rfl : y = (y1, y2) := by simpa using hy
                exact ⟨hg, hs, he⟩
            clear miss hst hst2 hrange hsz hI hcc o1 o2 o3 hrd htold hk hg hs he
            generalize C.drop 1 = C1 at *
            gi_wp2_with (first
              | (refine listIn_mid 52 (.tmp 53) (w.heap.size + 2) 1 C1 _ rfl rfl rfl HRG.out Try.underlying52 rfl HSZ.out ?_)
              | (refine listIn_row 57 (.tmp 7) (w.heap.size + 3) 57 _ (0, 0) _ rfl rfl rfl HR7.out Try.underlying57 rfl (by kernel_rfl) ?_))
            refine ⟨trivial, ((callsIn_wide.2 HL).inRound l').mono ?_⟩
            rintro e X2 ⟨rfl, hm2, oX2⟩
            obtain ⟨t1, t2, t3, t4, t5⟩ := HII.out.learn HG.out hm2 oX2 (learnM (knowM M x) x.ph q.kind q.cat q.cn q.last r).2
            have T1 : Hid _ := t1
            have T4 : Hid _ := t4
            have T5 : Hid _ := t5
            clear HL hm2 oX2 t1 t4 t5 k0 k1 k13 k14 x0 x3 x4 m0
            obtain ⟨lm, hlm⟩ : ∃ lm, lm = learnM (knowM M x) x.ph q.kind q.cat q.cn q.last r := ⟨_, rfl⟩
            have HST2 : Hid (stD (knowM M x) x q r (pre ++ [(y1, y2)]) = lm) := by show _ = _; rw [hlm]; exact HST.out
            rw [← hlm] at T1 T4 T5 ⊢
            clear HST hlm
            gi_wp2
            refine ⟨T5.out _, T4.out, ?_, HM3.out⟩
            rw [HST2.out]
            exact T1.out
          · have de : (q.ep != x.ep) = true := by simpa using he
            have HMs := miss (fun e => he e.2.2)
            clear miss hst hI hcc o1 o2 o3 hrd htold hk hg hs he
            gi_wp2
            exact ⟨kf_of_below (Below.refl _ _), rfl, HMs.out.2⟩
        · have ds : (q.slot != x.slot) = true := by simpa using hs
          have HMs := miss (fun e => hs e.2.1)
          clear miss hst hI hcc o1 o2 o3 hrd htold hk hg hs
          gi_wp2
          exact ⟨kf_of_below (Below.refl _ _), rfl, HMs.out.2⟩
      · have dg : (q.g != y2) = true := by simpa using hg
        have HMs := miss (fun e => hg e.1)
        clear miss hst hI hcc o1 o2 o3 hrd htold hk hg
        gi_wp2
        exact ⟨kf_of_below (Below.refl _ _), rfl, HMs.out.2⟩
    · have dk : (q.kind != y1) = true := by simpa using hk
      have hst2 : stD (knowM M x) x q r (pre ++ [(y1, y2)]) = stD (knowM M x) x q r pre := by
        unfold stD
        rw [List.any_append]
        have : ([(y1, y2)] : List (Int × Int)).any (fun y => y.1 == q.kind) = false := by simpa using Ne.symm hk
        rw [this, Bool.or_false]
      have HST : Hid _ := hst2
      have HM3 : Hid (∀ y ∈ pre ++ [(y1, y2)], y.1 = q.kind → q.g = y.2 ∧ q.slot = x.slot ∧ q.ep = x.ep) := fun y hy hyk => by
        rcases List.mem_append.1 hy with hy | hy
        · exact HMet.out y hy hyk
        · obtain rfl : y = (y1, y2) := by simpa using hy
          exact absurd hyk.symm hk
      clear hI hcc o1 o2 o3 hrd hk hst2
      gi_wp2
      refine ⟨kf_of_below (Below.refl _ _), fun _ _ _ z => z, ?_, HM3.out⟩
      rw [HST.out]
      exact HII.out
  case done =>
    rintro D xs X hD rfl ⟨hI, hmet⟩ hK
    have hfin : stD (knowM M x) x q r (dutiesL x) = toldM M x q r := by
      unfold stD toldM dutyG
      cases hf : (dutiesL x).find? (fun y => y.1 == q.kind) with
      | none =>
        rw [if_neg]
        · rfl
        · rw [List.find?_eq_none] at hf
          intro ha
          obtain ⟨y, hy, hy2⟩ := List.any_eq_true.1 ha
          exact hf y hy hy2
      | some y =>
        have h1 := List.mem_of_find?_eq_some hf
        have h2 := List.find?_some hf
        rw [if_pos (List.any_eq_true.2 ⟨y, h1, h2⟩)]
        have h3 := hmet y h1 (by simpa using h2)
        show _ = (if q.g = y.2 ∧ q.slot = x.slot ∧ q.ep = x.ep then _ else _)
        rw [if_pos h3]
    rw [hfin] at hI
    have e0 : X.cell? ⟨E, 0, none⟩ = some (.bool (toldM M x q r).2) := by simp only [World.cell?, hI.e]; rfl
    have x4 : X.cell? ⟨w.heap.size + 1, 4, none⟩ = some (.int .i64 x.ph) := by simp only [World.cell?, hI.b5]; rfl
    have x5 : X.cell? ⟨w.heap.size + 1, 5, none⟩ = some (.int .i64 x.n) := by simp only [World.cell?, hI.b5]; rfl
    have HII : Hid (TI w X base G E x C r (toldM M x q r)) := hI
    have HK : Hid (X.heap[D]? = some (.deferred (some []))) := hK
    have HDD : Hid (w4.heap.size ≤ D) := hD
    have HB8 : Hid _ := hI.b8
    clear hI hK hfin hmet hD
    obtain ⟨b, hb⟩ : ∃ b, (toldM M x q r).2 = b := ⟨_, rfl⟩
    rw [hb] at e0
    have HBB : Hid ((toldM M x q r).2 = b) := hb
    clear hb
    cases b
    · gi_wp2_with (first | (refine listIn_store_row 60 (.tmp 8) (.tmp 59) (w.heap.size + 4) #[.int .i64 0, .int .i64 0, .int .i64 0, .int .i64 0, .int .i64 0] 60 _ rfl rfl rfl rfl HB8.out (by kernel_rfl) rfl (by simp [Value.oneCell']) ?_))
      have hne : D ≠ w.heap.size + 4 := fun e2 => by
        have h8 := HB8.out
        rw [← e2, HK.out] at h8
        cases h8
      have hK2 : (X.setRow (w.heap.size + 4) #[.int .i64 0, .int .i64 0, .int .i64 0, .int .i64 0, .int .i64 0]).heap[D]? = some (.deferred (some [])) := (setRow_other _ _ _ _ hne).trans HK.out
      refine ⟨by simp, .inl ⟨_, _, rfl, run_takeDeferred hK2, ?_⟩⟩
      refine ⟨_, results_ct rfl _ _ (w.heap.size + 4) 60 _ _ _ rfl ((World.putObj_heap_other (Ne.symm hne)).trans (setRow_self HB8.out)) Try.underlying60 rfl (by kernel_rfl), ?_, ?_, ?_⟩
      · rw [HBB.out]; rfl
      · skip
        refine mvIn_keep (w := X.setRow (w.heap.size + 4) #[.int .i64 0, .int .i64 0, .int .i64 0, .int .i64 0, .int .i64 0]) (HII.out.m.other (Q := w.heap.size + 4) (by have := HG.out; omega) HB8.out (fun cur z e => ?_) (fun g hg _ => setRow_other _ _ _ _ hg)) (KeepC.bk _ hK2 rfl)
        injection e with _ e
        exact absurd e (by decide)
      · exact ⟨HII.out.ch.os, HII.out.ch.tape, HII.out.ch.output, by simpa using HII.out.ch.size, fun k hk hn => (World.putObj_heap_other (by have := HDD.out; have := LW4.out; omega)).trans ((setRow_other _ _ _ _ (by omega)).trans (HII.out.ch.block k hk hn))⟩
    · gi_wp2_with (first | (refine listIn_store_row 60 (.tmp 8) (.tmp 64) (w.heap.size + 4) #[.int .i64 2, .int .i64 0, .int .i64 0, .int .i64 x.n, .int .i64 x.ph] 60 _ rfl rfl rfl rfl HB8.out (by kernel_rfl) rfl (by simp [Value.oneCell']) ?_))
      have hne : D ≠ w.heap.size + 4 := fun e2 => by
        have h8 := HB8.out
        rw [← e2, HK.out] at h8
        cases h8
      have hK2 : (X.setRow (w.heap.size + 4) #[.int .i64 2, .int .i64 0, .int .i64 0, .int .i64 x.n, .int .i64 x.ph]).heap[D]? = some (.deferred (some [])) := (setRow_other _ _ _ _ hne).trans HK.out
      refine ⟨by simp, .inl ⟨_, _, rfl, run_takeDeferred hK2, ?_⟩⟩
      refine ⟨_, results_ct rfl _ _ (w.heap.size + 4) 60 _ _ _ rfl ((World.putObj_heap_other (Ne.symm hne)).trans (setRow_self HB8.out)) Try.underlying60 rfl (by kernel_rfl), ?_, ?_, ?_⟩
      · rw [HBB.out]; rfl
      · skip
        refine mvIn_keep (w := X.setRow (w.heap.size + 4) #[.int .i64 2, .int .i64 0, .int .i64 0, .int .i64 x.n, .int .i64 x.ph]) (HII.out.m.other (Q := w.heap.size + 4) (by have := HG.out; omega) HB8.out (fun cur z e => ?_) (fun g hg _ => setRow_other _ _ _ _ hg)) (KeepC.bk _ hK2 rfl)
        injection e with _ e
        exact absurd e (by decide)
      · exact ⟨HII.out.ch.os, HII.out.ch.tape, HII.out.ch.output, by simpa using HII.out.ch.size, fun k hk hn => (World.putObj_heap_other (by have := HDD.out; have := LW4.out; omega)).trans ((setRow_other _ _ _ _ (by omega)).trans (HII.out.ch.block k hk hn))⟩
  case stop =>
    rintro D c pre X hD _ ⟨rfl, htold, hI⟩ hK
    have e0 : X.cell? ⟨E, 0, none⟩ = some (.bool false) := by simp only [World.cell?, hI.e]; rfl
    have HII : Hid (TI w X base G E x C r (knowM M x, false)) := hI
    have HK : Hid (X.heap[D]? = some (.deferred (some []))) := hK
    have HDD : Hid (w4.heap.size ≤ D) := hD
    have HB8 : Hid _ := hI.b8
    have HTT : Hid (toldM M x q r = (knowM M x, false)) := htold
    clear hI hK htold hD
    gi_wp2_with (first | (refine listIn_store_row 60 (.tmp 8) (.tmp 59) (w.heap.size + 4) #[.int .i64 0, .int .i64 0, .int .i64 0, .int .i64 0, .int .i64 0] 60 _ rfl rfl rfl rfl HB8.out (by kernel_rfl) rfl (by simp [Value.oneCell']) ?_))
    try dsimp only [Exit.noGoto, Exit.then]
    have hne : D ≠ w.heap.size + 4 := fun e2 => by
      have h8 := HB8.out
      rw [← e2, HK.out] at h8
      cases h8
    have hK2 : (X.setRow (w.heap.size + 4) #[.int .i64 0, .int .i64 0, .int .i64 0, .int .i64 0, .int .i64 0]).heap[D]? = some (.deferred (some [])) := (setRow_other _ _ _ _ hne).trans HK.out
    refine ⟨by simp, .inl ⟨_, _, rfl, run_takeDeferred hK2, ?_⟩⟩
    refine ⟨_, results_ct rfl _ _ (w.heap.size + 4) 60 _ _ _ rfl ((World.putObj_heap_other (Ne.symm hne)).trans (setRow_self HB8.out)) Try.underlying60 rfl (by kernel_rfl), ?_, ?_, ?_⟩
    · rw [HTT.out]; rfl
    · rw [HTT.out]
      refine mvIn_keep (w := X.setRow (w.heap.size + 4) #[.int .i64 0, .int .i64 0, .int .i64 0, .int .i64 0, .int .i64 0]) (HII.out.m.other (Q := w.heap.size + 4) (by have := HG.out; omega) HB8.out (fun cur z e => ?_) (fun g hg _ => setRow_other _ _ _ _ hg)) (KeepC.bk _ hK2 rfl)
      injection e with _ e
      exact absurd e (by decide)
    · exact ⟨HII.out.ch.os, HII.out.ch.tape, HII.out.ch.output, by simpa using HII.out.ch.size, fun k hk hn => (World.putObj_heap_other (by have := HDD.out; have := LW4.out; omega)).trans ((setRow_other _ _ _ _ (by omega)).trans (HII.out.ch.block k hk hn))⟩
end Go.Proofs.Ytcmhkeaimgppgaa
