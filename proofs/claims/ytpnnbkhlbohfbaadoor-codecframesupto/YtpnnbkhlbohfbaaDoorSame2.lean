/- What the reference's SameEntries and SameMsg do. -/
import Derived.Test.YtpnnbkhlbohfbaaDoorMsg
import Derived.Test.YtpnnbkhlbohfbaaDoorSame
namespace Go.Proofs.YtpnnbkhlbohfbaaDoor
open Go.RowKit Cod
set_option linter.unusedVariables false

theorem sameEntries_len (aa ab : Option Addr) (la ca lb cb : Nat) (w : World) (hl : la ≠ lb) :
    Calls Tryd.prog 32 #[.slice aa la ca, .slice ab lb cb] w fun e w' => e = .returned (.bool false) ∧ ∃ n, w' = w.drewN n := by
  have hl' : ¬ ((la : Int) = lb) := by omega
  clear hl
  go_enter Tryd.func32, Tryd.ntmps32
  go_wp2
  go_ret
  exact ⟨rfl, 0, rfl⟩
set_option maxRecDepth 100000 in
set_option maxHeartbeats 1600000 in
theorem sameEntries_any (aa ab : Option Addr) (la ca lb cb : Nat) (A B : List (Int × List (BitVec 8))) (w : World) (hA : EntsAt w aa la A) (hB : EntsAt w ab lb B) (hm : la ≤ 140737488355328) :
    Calls Tryd.prog 32 #[.slice aa la ca, .slice ab lb cb] w fun e w' => e = .returned (.bool (decide (A = B))) ∧ ∃ n, w' = w.drewN n := by
  by_cases hl : la = lb
  · subst hl
    have hla : la = A.length := hA.1
    have hlb : la = B.length := hB.1
    have HA : Hid (EntsAt w aa la A) := hA
    have HB : Hid (EntsAt w ab la B) := hB
    clear hA hB
    go_enter Tryd.func32, Tryd.ntmps32
    go_wp2
    go_loopw [5] (fun i wr => ∃ k q : Nat, k ≤ la ∧ i = .int .i64 k ∧ A.take k = B.take k ∧ wr = w.drewN q) (fun i _ => la - (intOf i).toNat)
    case atStart => exact ⟨0, 0, Nat.zero_le _, rfl, rfl, rfl⟩
    case round =>
      obtain ⟨k, q, hk, rfl, ht, rfl⟩ := hrel
      by_cases hlt : k < la
      · obtain ⟨ba, oa, va, rfl, a1, a2, a3⟩ := HA.out.at (show k < A.length by omega)
        obtain ⟨bb, ob, vb, rfl, b1, b2, b3⟩ := HB.out.at (show k < B.length by omega)
        obtain ⟨pa, pc, rfl, ps, _⟩ := a3
        obtain ⟨ra, rc, rfl, rs, _⟩ := b3
        have hk1 : (k : Int) < (la : Int) := by omega
        have HT : Hid _ := ht
        by_cases he : A[k]'(by omega) = B[k]'(by omega)
        · have HS : Hid _ := takes_succ ht (by omega) (by omega) he
          rw [← he] at b1 b2 rs
          generalize A[k]'(by omega) = x at *
          clear he ht
          obtain ⟨xn, xp⟩ := x
          simp only at a1 a2 b1 b2 ps rs
          have t1 : ∀ q, (convert 22 9 (.slice pa xp.length pc)).run Tryd.prog (w.drewN q) = .ok (.string (textOf xp)) (w.drewN q) := fun q => run_to_text _ pa _ pc xp (ps.drewN q)
          have t2 : ∀ q, (convert 22 9 (.slice ra xp.length rc)).run Tryd.prog (w.drewN q) = .ok (.string (textOf xp)) (w.drewN q) := fun q => run_to_text _ ra _ rc xp (rs.drewN q)
          have hxs := text_self (textOf xp)
          clear ps rs
          go_wp2_with fail
          go_quiet (fail)
          go_wp2
          go_roundw
          case rel => exact ⟨k + 1, _, by omega, by go_num, HS.out, rfl⟩
          case measure => simp only [intOf]; omega
        · have HN : Hid (¬ A = B) := fun e => he (by subst e; rfl)
          generalize A[k]'(by omega) = x at *
          generalize B[k]'(by omega) = y at *
          obtain ⟨xn, xp⟩ := x
          obtain ⟨yn, yp⟩ := y
          simp only at a1 a2 b1 b2 ps rs
          by_cases hn : xn = yn
          · subst hn
            have hpp : xp ≠ yp := fun e => he (by rw [e])
            have t1 : ∀ q, (convert 22 9 (.slice pa xp.length pc)).run Tryd.prog (w.drewN q) = .ok (.string (textOf xp)) (w.drewN q) := fun q => run_to_text _ pa _ pc xp (ps.drewN q)
            have t2 : ∀ q, (convert 22 9 (.slice ra yp.length rc)).run Tryd.prog (w.drewN q) = .ok (.string (textOf yp)) (w.drewN q) := fun q => run_to_text _ ra _ rc yp (rs.drewN q)
            have hxs := text_ne (fun e => hpp (textOf_inj e))
            clear he ht ps rs hpp
            go_wp2_with fail
            go_quiet (fail)
            go_wp2
            go_ret
            rw [decide_eq_false HN.out]
            exact ⟨rfl, q + nq, by simp [World.drewN, Nat.add_assoc]⟩
          · have hn' : ((xn == yn) : Bool) = false := by rw [beq_eq_false_iff_ne]; exact hn
            clear he ht ps rs
            go_wp2_with fail
            go_quiet (fail)
            go_wp2
            go_ret
            rw [decide_eq_false HN.out]
            exact ⟨rfl, q + nq, by simp [World.drewN, Nat.add_assoc]⟩
      · obtain rfl : k = la := by omega
        have HE : Hid (A = B) := by
          show A = B
          have := ht
          rwa [List.take_of_length_le (by omega), List.take_of_length_le (by omega)] at this
        clear ht
        go_wp2
        go_ret
        rw [decide_eq_true HE.out]
        exact ⟨rfl, q, rfl⟩
  · refine (sameEntries_len aa ab la ca lb cb w hl).mono ?_
    rintro e w' ⟨rfl, hw⟩
    have : ¬ A = B := fun e => hl (by rw [hA.1, hB.1, e])
    rw [decide_eq_false this]
    exact ⟨rfl, hw⟩
set_option maxRecDepth 100000 in
set_option maxHeartbeats 3200000 in
theorem sameMsg_any (hA hB : HeadD) (ea fa : Option Addr) (en ec fn fc : Nat) (A B : List (Int × List (BitVec 8))) (da ga : Option Addr) (dn dc gn gc : Nat) (data more : List (BitVec 8)) (w : World) (hE : EntsAt w ea en A) (hF : EntsAt w fa fn B) (hm : en ≤ 140737488355328) (hD : Seen w da dn data) (hG : Seen w ga gn more) :
    Calls Tryd.prog 9 #[hA.val (.slice ea en ec) (.slice da dn dc), hB.val (.slice fa fn fc) (.slice ga gn gc)] w fun e w' => ∃ r : Bool, e = .returned (.bool r) ∧ (r = true ↔ hA = hB ∧ A = B ∧ data = more) ∧ Below w.heap.size w w' := by
  obtain ⟨x0, x1, x2, x3, x4, x5, x6, x7, xo⟩ := hA
  obtain ⟨y0, y1, y2, y3, y4, y5, y6, y7, yo⟩ := hB
  obtain rfl : dn = data.length := hD.1
  obtain rfl : gn = more.length := hG.1
  show Calls Tryd.prog 9 #[.agg #[.int .i64 x0, .int .i64 x1, .int .i64 x2, .int .i64 x3, .int .i64 x4, .int .i64 x5, .int .i64 x6, .int .i64 x7, .bool xo, .slice ea en ec, .slice da data.length dc], .agg #[.int .i64 y0, .int .i64 y1, .int .i64 y2, .int .i64 y3, .int .i64 y4, .int .i64 y5, .int .i64 y6, .int .i64 y7, .bool yo, .slice fa fn fc, .slice ga more.length gc]] w _
  generalize hw1 : (w.alloc (.cells #[.int .i64 x0, .int .i64 x1, .int .i64 x2, .int .i64 x3, .int .i64 x4, .int .i64 x5, .int .i64 x6, .int .i64 x7, .bool xo, .slice ea en ec, .slice da data.length dc] 29)).alloc (.cells #[.int .i64 y0, .int .i64 y1, .int .i64 y2, .int .i64 y3, .int .i64 y4, .int .i64 y5, .int .i64 y6, .int .i64 y7, .bool yo, .slice fa fn fc, .slice ga more.length gc] 29) = w1
  have b1 : Below w.heap.size w w1 := by rw [← hw1]; exact ((Below.refl _ w).alloc (Nat.le_refl _) _).alloc (by simp) _
  have sz1 : w1.heap.size = w.heap.size + 2 := by rw [← hw1]; simp
  have hO : w1.heap[w.heap.size]? = some (.cells #[.int .i64 x0, .int .i64 x1, .int .i64 x2, .int .i64 x3, .int .i64 x4, .int .i64 x5, .int .i64 x6, .int .i64 x7, .bool xo, .slice ea en ec, .slice da data.length dc] 29 (0, 0)) := by
    rw [← hw1, Below.heap_alloc _ _ _ (by simp)]; exact heap_alloc_new w _
  have hP : w1.heap[w.heap.size + 1]? = some (.cells #[.int .i64 y0, .int .i64 y1, .int .i64 y2, .int .i64 y3, .int .i64 y4, .int .i64 y5, .int .i64 y6, .int .i64 y7, .bool yo, .slice fa fn fc, .slice ga more.length gc] 29 (0, 0)) := by
    rw [← hw1]; exact heap_alloc2_new w _ _
  have CS : Hid (Calls Tryd.prog 32 #[.slice ea en ec, .slice fa fn fc] w1 fun e w' => e = .returned (.bool (decide (A = B))) ∧ ∃ n, w' = w1.drewN n) := sameEntries_any ea fa en ec fn fc A B w1 (hE.below b1) (hF.below b1) hm
  have q0 : ∀ n, (w1.drewN n).cell? ⟨w.heap.size, 10, none⟩ = some (.slice da data.length dc) := fun n => by simp [World.cell?, World.drewN, hO]
  have q1 : ∀ n, (w1.drewN n).cell? ⟨w.heap.size + 1, 10, none⟩ = some (.slice ga more.length gc) := fun n => by simp [World.cell?, World.drewN, hP]
  have t1 : ∀ n, (convert 22 9 (.slice da data.length dc)).run Tryd.prog (w1.drewN n) = .ok (.string (textOf data)) (w1.drewN n) := fun n => run_to_text _ da _ dc data ((hD.below b1).drewN n)
  have t2 : ∀ n, (convert 22 9 (.slice ga more.length gc)).run Tryd.prog (w1.drewN n) = .ok (.string (textOf more)) (w1.drewN n) := fun n => run_to_text _ ga _ gc more ((hG.below b1).drewN n)
  have HB1 : Hid (Below w.heap.size w w1) := b1
  have HW : Hid _ := hw1
  clear hE hF hD hG b1 hw1 hO hP hm
  by_cases e0 : x0 = y0
  case neg =>
    have n0 : ((x0 == y0) : Bool) = false := by rw [beq_eq_false_iff_ne]; exact e0
    have HX : Hid (¬ (((⟨x0, x1, x2, x3, x4, x5, x6, x7, xo⟩ : HeadD) = ⟨y0, y1, y2, y3, y4, y5, y6, y7, yo⟩) ∧ A = B ∧ data = more)) := by
      refine (fun h => e0 ?_)
      have := h.1
      injection this
    clear e0 q0 q1 t1 t2
    go_enter Tryd.func9, Tryd.ntmps9
    go_wp2
    go_ret
    rw [HW.out]
    exact ⟨false, rfl, ⟨(fun h => by cases h), fun h => absurd h HX.out⟩, HB1.out⟩
  subst e0
  by_cases e1 : x1 = y1
  case neg =>
    have n1 : ((x1 == y1) : Bool) = false := by rw [beq_eq_false_iff_ne]; exact e1
    have HX : Hid (¬ (((⟨x0, x1, x2, x3, x4, x5, x6, x7, xo⟩ : HeadD) = ⟨x0, y1, y2, y3, y4, y5, y6, y7, yo⟩) ∧ A = B ∧ data = more)) := by
      refine (fun h => e1 ?_)
      have := h.1
      injection this
    clear e1 q0 q1 t1 t2
    go_enter Tryd.func9, Tryd.ntmps9
    go_wp2
    go_ret
    rw [HW.out]
    exact ⟨false, rfl, ⟨(fun h => by cases h), fun h => absurd h HX.out⟩, HB1.out⟩
  subst e1
  by_cases e2 : x2 = y2
  case neg =>
    have n2 : ((x2 == y2) : Bool) = false := by rw [beq_eq_false_iff_ne]; exact e2
    have HX : Hid (¬ (((⟨x0, x1, x2, x3, x4, x5, x6, x7, xo⟩ : HeadD) = ⟨x0, x1, y2, y3, y4, y5, y6, y7, yo⟩) ∧ A = B ∧ data = more)) := by
      refine (fun h => e2 ?_)
      have := h.1
      injection this
    clear e2 q0 q1 t1 t2
    go_enter Tryd.func9, Tryd.ntmps9
    go_wp2
    go_ret
    rw [HW.out]
    exact ⟨false, rfl, ⟨(fun h => by cases h), fun h => absurd h HX.out⟩, HB1.out⟩
  subst e2
  by_cases e3 : x3 = y3
  case neg =>
    have n3 : ((x3 == y3) : Bool) = false := by rw [beq_eq_false_iff_ne]; exact e3
    have HX : Hid (¬ (((⟨x0, x1, x2, x3, x4, x5, x6, x7, xo⟩ : HeadD) = ⟨x0, x1, x2, y3, y4, y5, y6, y7, yo⟩) ∧ A = B ∧ data = more)) := by
      refine (fun h => e3 ?_)
      have := h.1
      injection this
    clear e3 q0 q1 t1 t2
    go_enter Tryd.func9, Tryd.ntmps9
    go_wp2
    go_ret
    rw [HW.out]
    exact ⟨false, rfl, ⟨(fun h => by cases h), fun h => absurd h HX.out⟩, HB1.out⟩
  subst e3
  by_cases e4 : x4 = y4
  case neg =>
    have n4 : ((x4 == y4) : Bool) = false := by rw [beq_eq_false_iff_ne]; exact e4
    have HX : Hid (¬ (((⟨x0, x1, x2, x3, x4, x5, x6, x7, xo⟩ : HeadD) = ⟨x0, x1, x2, x3, y4, y5, y6, y7, yo⟩) ∧ A = B ∧ data = more)) := by
      refine (fun h => e4 ?_)
      have := h.1
      injection this
    clear e4 q0 q1 t1 t2
    go_enter Tryd.func9, Tryd.ntmps9
    go_wp2
    go_ret
    rw [HW.out]
    exact ⟨false, rfl, ⟨(fun h => by cases h), fun h => absurd h HX.out⟩, HB1.out⟩
  subst e4
  by_cases e5 : x5 = y5
  case neg =>
    have n5 : ((x5 == y5) : Bool) = false := by rw [beq_eq_false_iff_ne]; exact e5
    have HX : Hid (¬ (((⟨x0, x1, x2, x3, x4, x5, x6, x7, xo⟩ : HeadD) = ⟨x0, x1, x2, x3, x4, y5, y6, y7, yo⟩) ∧ A = B ∧ data = more)) := by
      refine (fun h => e5 ?_)
      have := h.1
      injection this
    clear e5 q0 q1 t1 t2
    go_enter Tryd.func9, Tryd.ntmps9
    go_wp2
    go_ret
    rw [HW.out]
    exact ⟨false, rfl, ⟨(fun h => by cases h), fun h => absurd h HX.out⟩, HB1.out⟩
  subst e5
  by_cases e6 : x6 = y6
  case neg =>
    have n6 : ((x6 == y6) : Bool) = false := by rw [beq_eq_false_iff_ne]; exact e6
    have HX : Hid (¬ (((⟨x0, x1, x2, x3, x4, x5, x6, x7, xo⟩ : HeadD) = ⟨x0, x1, x2, x3, x4, x5, y6, y7, yo⟩) ∧ A = B ∧ data = more)) := by
      refine (fun h => e6 ?_)
      have := h.1
      injection this
    clear e6 q0 q1 t1 t2
    go_enter Tryd.func9, Tryd.ntmps9
    go_wp2
    go_ret
    rw [HW.out]
    exact ⟨false, rfl, ⟨(fun h => by cases h), fun h => absurd h HX.out⟩, HB1.out⟩
  subst e6
  by_cases e7 : x7 = y7
  case neg =>
    have n7 : ((x7 == y7) : Bool) = false := by rw [beq_eq_false_iff_ne]; exact e7
    have HX : Hid (¬ (((⟨x0, x1, x2, x3, x4, x5, x6, x7, xo⟩ : HeadD) = ⟨x0, x1, x2, x3, x4, x5, x6, y7, yo⟩) ∧ A = B ∧ data = more)) := by
      refine (fun h => e7 ?_)
      have := h.1
      injection this
    clear e7 q0 q1 t1 t2
    go_enter Tryd.func9, Tryd.ntmps9
    go_wp2
    go_ret
    rw [HW.out]
    exact ⟨false, rfl, ⟨(fun h => by cases h), fun h => absurd h HX.out⟩, HB1.out⟩
  subst e7
  by_cases eo : xo = yo
  case neg =>
    have no : ((xo == yo) : Bool) = false := by rw [beq_eq_false_iff_ne]; exact eo
    have HX : Hid (¬ (((⟨x0, x1, x2, x3, x4, x5, x6, x7, xo⟩ : HeadD) = ⟨x0, x1, x2, x3, x4, x5, x6, x7, yo⟩) ∧ A = B ∧ data = more)) := by
      refine (fun h => eo ?_)
      have := h.1
      injection this
    clear eo q0 q1 t1 t2
    go_enter Tryd.func9, Tryd.ntmps9
    go_wp2
    go_ret
    rw [HW.out]
    exact ⟨false, rfl, ⟨(fun h => by cases h), fun h => absurd h HX.out⟩, HB1.out⟩
  subst eo
  by_cases ee : A = B
  case neg =>
    have HX : Hid (¬ (((⟨x0, x1, x2, x3, x4, x5, x6, x7, xo⟩ : HeadD) = ⟨x0, x1, x2, x3, x4, x5, x6, x7, xo⟩) ∧ A = B ∧ data = more)) := fun h => ee h.2.1
    rw [decide_eq_false ee] at CS
    clear ee
    go_enter Tryd.func9, Tryd.ntmps9
    go_wp2_with fail
    rw [HW.out]
    refine CS.out.mono ?_
    rintro e w3 ⟨rfl, n3, rfl⟩
    go_wp2
    go_ret
    exact ⟨false, rfl, ⟨(fun h => by cases h), fun h => absurd h HX.out⟩, below_drewN' HB1.out n3⟩
  rw [decide_eq_true ee] at CS
  by_cases ed : data = more
  case neg =>
    have HX : Hid (¬ (((⟨x0, x1, x2, x3, x4, x5, x6, x7, xo⟩ : HeadD) = ⟨x0, x1, x2, x3, x4, x5, x6, x7, xo⟩) ∧ A = B ∧ data = more)) := fun h => ed h.2.2
    have hxs := text_ne (fun e => ed (textOf_inj e))
    clear ed ee
    go_enter Tryd.func9, Tryd.ntmps9
    go_wp2_with fail
    rw [HW.out]
    refine CS.out.mono ?_
    rintro e w3 ⟨rfl, n3, rfl⟩
    go_wp2
    go_ret
    exact ⟨false, rfl, ⟨(fun h => by cases h), fun h => absurd h HX.out⟩, below_drewN' HB1.out n3⟩
  have HX : Hid (((⟨x0, x1, x2, x3, x4, x5, x6, x7, xo⟩ : HeadD) = ⟨x0, x1, x2, x3, x4, x5, x6, x7, xo⟩) ∧ A = B ∧ data = more) := ⟨rfl, ee, ed⟩
  subst ed
  have hxs := text_self (textOf data)
  clear ee
  go_enter Tryd.func9, Tryd.ntmps9
  go_wp2_with fail
  rw [HW.out]
  refine CS.out.mono ?_
  rintro e w3 ⟨rfl, n3, rfl⟩
  go_wp2
  go_ret
  exact ⟨true, rfl, ⟨fun _ => HX.out, fun _ => rfl⟩, below_drewN' HB1.out n3⟩
end Go.Proofs.YtpnnbkhlbohfbaaDoor
