/- BookSums. -/
import Derived.Test.YtabhgdmmljhpcaaDoorBSumsM
namespace Go.Proofs.YtabhgdmmljhpcaaDoor
open Go.RowKit Cod
attribute [local go_sem] Oper.semAt_some
set_option linter.unusedVariables false

theorem intu {a b : Int} (h : a = b) : Value.int .u64 a = .int .u64 b := by rw [h]
theorem neg_row {L : List Acc} (h : Fit L) {r : RowB} (hr : r ∈ rowsOf (-1) L) : 0 ≤ r.2 := by
  unfold rowsOf at hr
  obtain ⟨p, hp, rfl⟩ := List.mem_map.1 hr
  exact (h.amt p (List.mem_filter.1 hp).1).1
theorem sumR_take (l : List RowB) (k : Nat) (hk : k < l.length) : sumR (l.take (k + 1)) = sumR (l.take k) + l[k].2 := by
  rw [List.take_succ_eq_append_getElem hk, sumR_snoc]
set_option maxRecDepth 100000 in
set_option maxHeartbeats 20000000 in
theorem bookSums_any (a : Option Addr) (len cap : Nat) (os : List OpB) (w : World) (hO : OpsB w a len os) (hT : Tabs w) :
    Calls Tryd.prog 4 #[.slice a len cap] w fun e w' => e = .returned (.bool true) ∧ Below w.heap.size w w' := by
  have HO : Hid (OpsB w a len os) := hO
  have HT : Hid (Tabs w) := hT
  clear hO hT
  go_enter Tryd.func4, Tryd.ntmps4
  go_wp2_with fail
  refine (my_new (Below.refl _ w)).mono ?_
  rintro e w1 ⟨N, rfl, h1⟩
  have H1 : Hid (MyB w w1 N []) := h1
  clear h1
  go_wp2
  go_loopw [4, 5] (fun s i wr => ∃ (k : Nat) (L : List Acc), k ≤ len ∧ k ≤ 120 ∧ i = .int .i64 k ∧ s = .int .u64 (md (sumA L)) ∧ Hid (MyB w wr N L)) (fun _ i _ => 120 - (intOf i).toNat)
  case atStart => exact ⟨0, [], Nat.zero_le _, by omega, rfl, rfl, H1⟩
  case round =>
    clear H1
    obtain ⟨k, L, hk, hk120, rfl, rfl, HI⟩ := hrel
    by_cases hlt : k < len ∧ k < 120
    · obtain ⟨hl1, hl2⟩ := hlt
      have hj : k < os.length := by have := HO.out.1; omega
      obtain ⟨g, off, ea, q0, q1, q2, q3, q4⟩ := HO.out.at (W := wr) HI.out.bel hj
      subst ea
      have hok := HO.out.2.1 _ (List.getElem_mem hj)
      generalize os[k]'hj = ob at q0 q1 q2 q3 q4 hok
      obtain ⟨sv, hd⟩ := HI.out.box ob
      have HD : Hid (MyK w _ N sv L wr.heap.size ob) := hd
      have HOK : Hid ob.ok := hok
      have HFit : Hid (Fit L) := HI.out.fit
      clear hd hok HI
      obtain ⟨kd, nm, by_, n, slot⟩ := ob
      simp only at q0 q1 q2 q3 q4 HD
      have hl1' : (k : Int) < (len : Int) := by omega
      have hl2' : (k : Int) < 120 := by omega
      obtain ⟨S, eS⟩ : ∃ S, md (sumA L) = S := ⟨_, rfl⟩
      have ES : Hid (md (sumA L) = S) := eS
      rw [eS]
      clear eS
      by_cases e0 : kd = 0
      · subst e0
        go_wp2_with fail
        refine (kx_open HD.out nm HOK.out.nm).mono ?_
        rintro e w2 ⟨rfl, sv2, d2⟩
        have EL : Hid (sumA (putP L nm 0).2 = sumA L) := sum_open L nm
        generalize (putP L nm 0).2 = L2 at d2 EL
        generalize (putP L nm 0).1 = c2 at *
        have D2 : Hid (MyK w w2 N sv2 L2 wr.heap.size ⟨0, nm, by_, n, slot⟩) := d2
        clear d2 q0 q1 q2 q3 q4 HD
        obtain ⟨k0, k1, k2, k3, k4⟩ := D2.out.cells
        simp only at k0 k1 k2 k3 k4
        go_wp2
        go_roundw
        case rel => exact ⟨k + 1, L2, by omega, by omega, by go_num, intu (by rw [EL.out, ES.out]), D2.out.my⟩
        case measure => simp only [intOf]; omega
      by_cases e1 : kd = 1
      · subst e1
        go_wp2_with fail
        refine (kx_open HD.out nm HOK.out.nm).mono ?_
        rintro e w2 ⟨rfl, sv2, d2⟩
        have EL : Hid (sumA (putP L nm 0).2 = sumA L) := sum_open L nm
        generalize (putP L nm 0).2 = L2 at d2 EL
        generalize (putP L nm 0).1 = c2 at *
        have D2 : Hid (MyK w w2 N sv2 L2 wr.heap.size ⟨1, nm, by_, n, slot⟩) := d2
        clear d2 q0 q1 q2 q3 q4 HD
        obtain ⟨k0, k1, k2, k3, k4⟩ := D2.out.cells
        simp only at k0 k1 k2 k3 k4
        go_wp2
        go_roundw
        case rel => exact ⟨k + 1, L2, by omega, by omega, by go_num, intu (by rw [EL.out, ES.out]), D2.out.my⟩
        case measure => simp only [intOf]; omega
      by_cases e2 : kd = 2
      · subst e2
        have EL := sum_add HFit.out.srt nm n
        have HC := kx_add HD.out nm n HOK.out.n
        obtain ⟨c2, ec⟩ : ∃ c, (onP L nm (addP n)).1 = c := ⟨_, rfl⟩
        rw [ec] at EL HC
        generalize (onP L nm (addP n)).2 = L2 at EL HC
        clear ec
        by_cases hz : c2 = 0
        · subst hz
          rw [if_pos rfl] at EL
          have EL' : Hid (sumA L2 = sumA L + n) := EL
          clear EL
          go_wp2_with fail
          refine HC.mono ?_
          rintro e w2 ⟨rfl, sv2, d2⟩
          clear HC
          have D2 : Hid (MyK w w2 N sv2 L2 wr.heap.size ⟨2, nm, by_, n, slot⟩) := d2
          clear d2 q0 q1 q2 q3 q4 HD
          obtain ⟨k0, k1, k2, k3, k4⟩ := D2.out.cells
          simp only at k0 k1 k2 k3 k4
          go_wp2
          go_roundw
          case rel => exact ⟨k + 1, L2, by omega, by omega, by go_num, intu (by rw [EL'.out, ← ES.out]; first | exact md_add _ _ | exact md_add' _ _ | (simp only [IntKind.wrap_u64, md]; omega)), D2.out.my⟩
          case measure => simp only [intOf]; omega
        · rw [if_neg hz] at EL
          have EL' : Hid (sumA L2 = sumA L) := EL
          have hz2 : (c2 == 0) = false := by simpa using hz
          clear EL
          go_wp2_with fail
          refine HC.mono ?_
          rintro e w2 ⟨rfl, sv2, d2⟩
          clear HC
          have D2 : Hid (MyK w w2 N sv2 L2 wr.heap.size ⟨2, nm, by_, n, slot⟩) := d2
          clear d2 q0 q1 q2 q3 q4 HD
          obtain ⟨k0, k1, k2, k3, k4⟩ := D2.out.cells
          simp only at k0 k1 k2 k3 k4
          go_wp2
          go_roundw
          case rel => exact ⟨k + 1, L2, by omega, by omega, by go_num, intu (by rw [EL'.out, ES.out]), D2.out.my⟩
          case measure => simp only [intOf]; omega
      by_cases e3 : kd = 3
      · subst e3
        have EL := sum_add HFit.out.srt nm n
        have HC := kx_add HD.out nm n HOK.out.n
        obtain ⟨c2, ec⟩ : ∃ c, (onP L nm (addP n)).1 = c := ⟨_, rfl⟩
        rw [ec] at EL HC
        generalize (onP L nm (addP n)).2 = L2 at EL HC
        clear ec
        by_cases hz : c2 = 0
        · subst hz
          rw [if_pos rfl] at EL
          have EL' : Hid (sumA L2 = sumA L + n) := EL
          clear EL
          go_wp2_with fail
          refine HC.mono ?_
          rintro e w2 ⟨rfl, sv2, d2⟩
          clear HC
          have D2 : Hid (MyK w w2 N sv2 L2 wr.heap.size ⟨3, nm, by_, n, slot⟩) := d2
          clear d2 q0 q1 q2 q3 q4 HD
          obtain ⟨k0, k1, k2, k3, k4⟩ := D2.out.cells
          simp only at k0 k1 k2 k3 k4
          go_wp2
          go_roundw
          case rel => exact ⟨k + 1, L2, by omega, by omega, by go_num, intu (by rw [EL'.out, ← ES.out]; first | exact md_add _ _ | exact md_add' _ _ | (simp only [IntKind.wrap_u64, md]; omega)), D2.out.my⟩
          case measure => simp only [intOf]; omega
        · rw [if_neg hz] at EL
          have EL' : Hid (sumA L2 = sumA L) := EL
          have hz2 : (c2 == 0) = false := by simpa using hz
          clear EL
          go_wp2_with fail
          refine HC.mono ?_
          rintro e w2 ⟨rfl, sv2, d2⟩
          clear HC
          have D2 : Hid (MyK w w2 N sv2 L2 wr.heap.size ⟨3, nm, by_, n, slot⟩) := d2
          clear d2 q0 q1 q2 q3 q4 HD
          obtain ⟨k0, k1, k2, k3, k4⟩ := D2.out.cells
          simp only at k0 k1 k2 k3 k4
          go_wp2
          go_roundw
          case rel => exact ⟨k + 1, L2, by omega, by omega, by go_num, intu (by rw [EL'.out, ES.out]), D2.out.my⟩
          case measure => simp only [intOf]; omega
      by_cases e4 : kd = 4
      · subst e4
        have EL := sum_take HFit.out.srt nm n
        have HC := kx_take HD.out nm n HOK.out.n
        obtain ⟨c2, ec⟩ : ∃ c, (onP L nm (takeP n)).1 = c := ⟨_, rfl⟩
        rw [ec] at EL HC
        generalize (onP L nm (takeP n)).2 = L2 at EL HC
        clear ec
        by_cases hz : c2 = 0
        · subst hz
          rw [if_pos rfl] at EL
          have EL' : Hid (sumA L2 = sumA L - n) := EL
          clear EL
          go_wp2_with fail
          refine HC.mono ?_
          rintro e w2 ⟨rfl, sv2, d2⟩
          clear HC
          have D2 : Hid (MyK w w2 N sv2 L2 wr.heap.size ⟨4, nm, by_, n, slot⟩) := d2
          clear d2 q0 q1 q2 q3 q4 HD
          obtain ⟨k0, k1, k2, k3, k4⟩ := D2.out.cells
          simp only at k0 k1 k2 k3 k4
          go_wp2
          go_roundw
          case rel => exact ⟨k + 1, L2, by omega, by omega, by go_num, intu (by rw [EL'.out, ← ES.out]; first | exact md_sub _ _ | exact md_sub' _ _ | (simp only [IntKind.wrap_u64, md]; omega)), D2.out.my⟩
          case measure => simp only [intOf]; omega
        · rw [if_neg hz] at EL
          have EL' : Hid (sumA L2 = sumA L) := EL
          have hz2 : (c2 == 0) = false := by simpa using hz
          clear EL
          go_wp2_with fail
          refine HC.mono ?_
          rintro e w2 ⟨rfl, sv2, d2⟩
          clear HC
          have D2 : Hid (MyK w w2 N sv2 L2 wr.heap.size ⟨4, nm, by_, n, slot⟩) := d2
          clear d2 q0 q1 q2 q3 q4 HD
          obtain ⟨k0, k1, k2, k3, k4⟩ := D2.out.cells
          simp only at k0 k1 k2 k3 k4
          go_wp2
          go_roundw
          case rel => exact ⟨k + 1, L2, by omega, by omega, by go_num, intu (by rw [EL'.out, ES.out]), D2.out.my⟩
          case measure => simp only [intOf]; omega
      by_cases e5 : kd = 5
      · subst e5
        have EL := sum_take HFit.out.srt nm n
        have HC := kx_take HD.out nm n HOK.out.n
        obtain ⟨c2, ec⟩ : ∃ c, (onP L nm (takeP n)).1 = c := ⟨_, rfl⟩
        rw [ec] at EL HC
        generalize (onP L nm (takeP n)).2 = L2 at EL HC
        clear ec
        by_cases hz : c2 = 0
        · subst hz
          rw [if_pos rfl] at EL
          have EL' : Hid (sumA L2 = sumA L - n) := EL
          clear EL
          go_wp2_with fail
          refine HC.mono ?_
          rintro e w2 ⟨rfl, sv2, d2⟩
          clear HC
          have D2 : Hid (MyK w w2 N sv2 L2 wr.heap.size ⟨5, nm, by_, n, slot⟩) := d2
          clear d2 q0 q1 q2 q3 q4 HD
          obtain ⟨k0, k1, k2, k3, k4⟩ := D2.out.cells
          simp only at k0 k1 k2 k3 k4
          go_wp2
          go_roundw
          case rel => exact ⟨k + 1, L2, by omega, by omega, by go_num, intu (by rw [EL'.out, ← ES.out]; first | exact md_sub _ _ | exact md_sub' _ _ | (simp only [IntKind.wrap_u64, md]; omega)), D2.out.my⟩
          case measure => simp only [intOf]; omega
        · rw [if_neg hz] at EL
          have EL' : Hid (sumA L2 = sumA L) := EL
          have hz2 : (c2 == 0) = false := by simpa using hz
          clear EL
          go_wp2_with fail
          refine HC.mono ?_
          rintro e w2 ⟨rfl, sv2, d2⟩
          clear HC
          have D2 : Hid (MyK w w2 N sv2 L2 wr.heap.size ⟨5, nm, by_, n, slot⟩) := d2
          clear d2 q0 q1 q2 q3 q4 HD
          obtain ⟨k0, k1, k2, k3, k4⟩ := D2.out.cells
          simp only at k0 k1 k2 k3 k4
          go_wp2
          go_roundw
          case rel => exact ⟨k + 1, L2, by omega, by omega, by go_num, intu (by rw [EL'.out, ES.out]), D2.out.my⟩
          case measure => simp only [intOf]; omega
      by_cases e8 : kd = 8
      · subst e8
        have EL := sum_put L nm n
        have HC := kx_put HD.out nm n HOK.out.n HOK.out.nm
        obtain ⟨c2, ec⟩ : ∃ c, (putP L nm n).1 = c := ⟨_, rfl⟩
        rw [ec] at EL HC
        generalize (putP L nm n).2 = L2 at EL HC
        clear ec
        by_cases hz : c2 = 0
        · subst hz
          rw [if_pos rfl] at EL
          have EL' : Hid (sumA L2 = sumA L + n) := EL
          clear EL
          go_wp2_with fail
          refine HC.mono ?_
          rintro e w2 ⟨rfl, sv2, d2⟩
          clear HC
          have D2 : Hid (MyK w w2 N sv2 L2 wr.heap.size ⟨8, nm, by_, n, slot⟩) := d2
          clear d2 q0 q1 q2 q3 q4 HD
          obtain ⟨k0, k1, k2, k3, k4⟩ := D2.out.cells
          simp only at k0 k1 k2 k3 k4
          go_wp2
          go_roundw
          case rel => exact ⟨k + 1, L2, by omega, by omega, by go_num, intu (by rw [EL'.out, ← ES.out]; first | exact md_add _ _ | exact md_add' _ _ | (simp only [IntKind.wrap_u64, md]; omega)), D2.out.my⟩
          case measure => simp only [intOf]; omega
        · rw [if_neg hz] at EL
          have EL' : Hid (sumA L2 = sumA L) := EL
          have hz2 : (c2 == 0) = false := by simpa using hz
          clear EL
          go_wp2_with fail
          refine HC.mono ?_
          rintro e w2 ⟨rfl, sv2, d2⟩
          clear HC
          have D2 : Hid (MyK w w2 N sv2 L2 wr.heap.size ⟨8, nm, by_, n, slot⟩) := d2
          clear d2 q0 q1 q2 q3 q4 HD
          obtain ⟨k0, k1, k2, k3, k4⟩ := D2.out.cells
          simp only at k0 k1 k2 k3 k4
          go_wp2
          go_roundw
          case rel => exact ⟨k + 1, L2, by omega, by omega, by go_num, intu (by rw [EL'.out, ES.out]), D2.out.my⟩
          case measure => simp only [intOf]; omega
      by_cases e9 : kd = 9
      · subst e9
        go_wp2_with fail
        refine (my_rows HD.out.my HT.out slot).mono ?_
        rintro e w2 ⟨a2, c2, rfl, r2, b2, _⟩
        have D2 : Hid (MyK w w2 N sv L wr.heap.size ⟨9, nm, by_, n, slot⟩) := HD.out.below b2
        have R2 : Hid (RowsAt w2 a2 (rowsOf slot L).length (rowsOf slot L)) := r2
        clear r2 b2 HD q0 q1 q2 q3 q4
        obtain ⟨k0, k1, k2, k3, k4⟩ := D2.out.cells
        simp only at k0 k1 k2 k3 k4
        have hrl : (rowsOf slot L).length ≤ 200 := by have := rowsOf_len slot L; have := HFit.out.len; omega
        by_cases hsl : 0 ≤ slot
        · have ES2 : Hid (sumA (stay slot L) = sumA L - sumR (rowsOf slot L)) := sum_stay L slot hsl
          generalize erl : rowsOf slot L = R at R2 hrl ES2
          clear erl
          have HDr := kx_drop D2.out HT.out slot
          go_wp2
          go_loop [4, 8] (fun s i => ∃ q : Nat, q ≤ R.length ∧ i = .int .i64 q ∧ s = .int .u64 (md (sumA L - sumR (R.take q)))) (fun _ i => R.length - (intOf i).toNat)
          case atStart => exact ⟨0, Nat.zero_le _, rfl, intu (by rw [← ES.out]; simp [sumR])⟩
          case round =>
            obtain ⟨q, hq, rfl, rfl⟩ := hrel
            by_cases hql : q < R.length
            · obtain ⟨b, of2, ea2, x1, x2⟩ := R2.out.at hql
              subst ea2
              have hst := sumR_take R q hql
              generalize R[q]'hql = r at x1 x2 hst
              obtain ⟨rn, ra⟩ := r
              simp only at x1 x2 hst
              have HS : Hid (sumR (R.take (q + 1)) = sumR (R.take q) + ra) := hst
              clear hst
              obtain ⟨Y, eY⟩ : ∃ Y, sumA L - sumR (R.take q) = Y := ⟨_, rfl⟩
              have EY : Hid (sumA L - sumR (R.take q) = Y) := eY
              rw [eY]
              clear eY
              go_wp2
              go_round
              case rel => exact ⟨q + 1, by omega, by go_num, intu (by rw [HS.out, show sumA L - (sumR (R.take q) + ra) = Y - ra by have := EY.out; omega]; first | exact md_sub _ _ | exact md_sub' _ _ | (simp only [IntKind.wrap_u64, md]; omega))⟩
              case measure => simp only [intOf]; omega
            · obtain rfl : q = R.length := by omega
              rw [List.take_length]
              obtain ⟨Y, eY⟩ : ∃ Y, md (sumA L - sumR R) = Y := ⟨_, rfl⟩
              have EY : Hid (md (sumA L - sumR R) = Y) := eY
              rw [eY]
              clear eY
              go_wp2_with fail
              refine HDr.mono ?_
              rintro e w3 ⟨rfl, sv3, d3⟩
              clear HDr
              have D3 : Hid (MyK w w3 N sv3 (stay slot L) wr.heap.size ⟨9, nm, by_, n, slot⟩) := d3
              clear d3 k0 k1 k2 k3 k4
              go_wp2
              go_roundw
              case rel => exact ⟨k + 1, stay slot L, by omega, by omega, by go_num, intu (by rw [ES2.out, EY.out]), D3.out.my⟩
              case measure => simp only [intOf]; omega
        · have hsl' : slot < 0 := by omega
          have HDr := kx_drop D2.out HT.out slot
          rw [stay_all L slot hsl'] at HDr
          go_wp2_with fail
          refine HDr.mono ?_
          rintro e w3 ⟨rfl, sv3, d3⟩
          clear HDr
          have D3 : Hid (MyK w w3 N sv3 L wr.heap.size ⟨9, nm, by_, n, slot⟩) := d3
          clear d3 k0 k1 k2 k3 k4
          go_wp2
          go_roundw
          case rel => exact ⟨k + 1, L, by omega, by omega, by go_num, intu (by rw [ES.out]), D3.out.my⟩
          case measure => simp only [intOf]; omega
      have f0 : (kd == 0) = false := by simpa using e0
      have f1 : (kd == 1) = false := by simpa using e1
      have f2 : (kd == 2) = false := by simpa using e2
      have f3 : (kd == 3) = false := by simpa using e3
      have f4 : (kd == 4) = false := by simpa using e4
      have f5 : (kd == 5) = false := by simpa using e5
      have f8 : (kd == 8) = false := by simpa using e8
      have f9 : (kd == 9) = false := by simpa using e9
      go_wp2
      go_roundw
      case rel => exact ⟨k + 1, L, by omega, by omega, by go_num, intu (by rw [ES.out]), HD.out.my⟩
      case measure => simp only [intOf]; omega
    · by_cases hl1 : k < len
      · have hl1' : (k : Int) < (len : Int) := by omega
        have hl2' : ¬ (k : Int) < 120 := by omega
        go_wp2_with fail
        refine (my_rows HI.out HT.out (-1)).mono ?_
        rintro e w2 ⟨a2, c2, rfl, r2, b2, m2⟩
        have M2 : Hid (MyB w w2 N L) := m2
        have R2 : Hid (RowsAt w2 a2 (rowsOf (-1) L).length (rowsOf (-1) L)) := r2
        have HP : Hid (∀ r ∈ rowsOf (-1) L, 0 ≤ r.2) := fun r hr => neg_row HI.out.fit hr
        have hrl : (rowsOf (-1) L).length ≤ 200 := by have := rowsOf_len (-1) L; have := HI.out.fit.len; omega
        have HSA : Hid (sumR (rowsOf (-1) L) = sumA L) := sumR_all L
        clear r2 b2 m2 HI
        generalize erl : rowsOf (-1) L = R at R2 hrl HSA HP
        clear erl
        rw [← HSA.out]
        obtain ⟨S, eS⟩ : ∃ S, md (sumR R) = S := ⟨_, rfl⟩
        have ES : Hid (md (sumR R) = S) := eS
        rw [eS]
        clear eS
        go_wp2
        go_loop [9, 11] (fun s i => ∃ q : Nat, q ≤ R.length ∧ i = .int .i64 q ∧ s = .int .u64 (md (sumR (R.take q)))) (fun _ i => R.length - (intOf i).toNat)
        case atStart => exact ⟨0, Nat.zero_le _, rfl, rfl⟩
        case round =>
          obtain ⟨q, hq, rfl, rfl⟩ := hrel
          by_cases hql : q < R.length
          · obtain ⟨b, of2, ea2, x1, x2⟩ := R2.out.at hql
            subst ea2
            have hst := sumR_take R q hql
            have hpos := HP.out _ (List.getElem_mem hql)
            generalize R[q]'hql = r at x1 x2 hst hpos
            obtain ⟨rn, ra⟩ := r
            simp only at x1 x2 hst hpos
            have HS : Hid (sumR (R.take (q + 1)) = sumR (R.take q) + ra) := hst
            clear hst
            have hneg : ¬ ra < 0 := by omega
            obtain ⟨Y, eY⟩ : ∃ Y, sumR (R.take q) = Y := ⟨_, rfl⟩
            have EY : Hid (sumR (R.take q) = Y) := eY
            rw [eY]
            clear eY
            go_wp2
            go_round
            case rel => exact ⟨q + 1, by omega, by go_num, intu (by rw [HS.out, EY.out]; first | exact md_add _ _ | exact md_add' _ _ | (simp only [IntKind.wrap_u64, md]; omega))⟩
            case measure => simp only [intOf]; omega
          · obtain rfl : q = R.length := by omega
            rw [List.take_length, ES.out]
            go_wp2_with fail
            refine (knownB_any w2).mono ?_
            rintro e wK ⟨rfl, bK⟩
            have BK : Hid (Below w.heap.size w wK) := M2.out.bel.trans (bK.mono M2.out.bel.size)
            clear bK
            go_wp2
            go_ret
            exact ⟨rfl, BK.out⟩
      · have hl1' : ¬ (k : Int) < (len : Int) := by omega
        go_wp2_with fail
        refine (my_rows HI.out HT.out (-1)).mono ?_
        rintro e w2 ⟨a2, c2, rfl, r2, b2, m2⟩
        have M2 : Hid (MyB w w2 N L) := m2
        have R2 : Hid (RowsAt w2 a2 (rowsOf (-1) L).length (rowsOf (-1) L)) := r2
        have HP : Hid (∀ r ∈ rowsOf (-1) L, 0 ≤ r.2) := fun r hr => neg_row HI.out.fit hr
        have hrl : (rowsOf (-1) L).length ≤ 200 := by have := rowsOf_len (-1) L; have := HI.out.fit.len; omega
        have HSA : Hid (sumR (rowsOf (-1) L) = sumA L) := sumR_all L
        clear r2 b2 m2 HI
        generalize erl : rowsOf (-1) L = R at R2 hrl HSA HP
        clear erl
        rw [← HSA.out]
        obtain ⟨S, eS⟩ : ∃ S, md (sumR R) = S := ⟨_, rfl⟩
        have ES : Hid (md (sumR R) = S) := eS
        rw [eS]
        clear eS
        go_wp2
        go_loop [9, 11] (fun s i => ∃ q : Nat, q ≤ R.length ∧ i = .int .i64 q ∧ s = .int .u64 (md (sumR (R.take q)))) (fun _ i => R.length - (intOf i).toNat)
        case atStart => exact ⟨0, Nat.zero_le _, rfl, rfl⟩
        case round =>
          obtain ⟨q, hq, rfl, rfl⟩ := hrel
          by_cases hql : q < R.length
          · obtain ⟨b, of2, ea2, x1, x2⟩ := R2.out.at hql
            subst ea2
            have hst := sumR_take R q hql
            have hpos := HP.out _ (List.getElem_mem hql)
            generalize R[q]'hql = r at x1 x2 hst hpos
            obtain ⟨rn, ra⟩ := r
            simp only at x1 x2 hst hpos
            have HS : Hid (sumR (R.take (q + 1)) = sumR (R.take q) + ra) := hst
            clear hst
            have hneg : ¬ ra < 0 := by omega
            obtain ⟨Y, eY⟩ : ∃ Y, sumR (R.take q) = Y := ⟨_, rfl⟩
            have EY : Hid (sumR (R.take q) = Y) := eY
            rw [eY]
            clear eY
            go_wp2
            go_round
            case rel => exact ⟨q + 1, by omega, by go_num, intu (by rw [HS.out, EY.out]; first | exact md_add _ _ | exact md_add' _ _ | (simp only [IntKind.wrap_u64, md]; omega))⟩
            case measure => simp only [intOf]; omega
          · obtain rfl : q = R.length := by omega
            rw [List.take_length, ES.out]
            go_wp2_with fail
            refine (knownB_any w2).mono ?_
            rintro e wK ⟨rfl, bK⟩
            have BK : Hid (Below w.heap.size w wK) := M2.out.bel.trans (bK.mono M2.out.bel.size)
            clear bK
            go_wp2
            go_ret
            exact ⟨rfl, BK.out⟩
end Go.Proofs.YtabhgdmmljhpcaaDoor
