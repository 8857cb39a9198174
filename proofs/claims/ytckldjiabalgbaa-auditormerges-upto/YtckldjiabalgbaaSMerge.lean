/- slices' symMerge at rows. -/
import Derived.Test.YtckldjiabalgbaaSGenP
import Derived.Deep.Cut
import Derived.Deep.CutBlock
namespace Go.Proofs.Ytckldjiabalgbaa
open Go.Shelf Go.RowKit Go.Lib Go.Sort
set_option linter.unusedVariables false
variable {P : Program} {k : Nat} {α : Type} [Inhabited α] {enc : α → List Value}
set_option maxHeartbeats 8000000 in
set_option maxRecDepth 1000000 in
theorem symMerge_any (L : SL P k) {cf : α → α → Int} (hO : SWO (ltOf cf)) {g : Nat} {cb : Array Value} {blk off cap : Nat} {d0 : Array α} {w0 : World}
    (eg : ∀ args w, (callFunc g args).run P w = .ok (.enter g args) w) (hcmp : CmpLays P g cb enc k cf blk off d0.size w0) (R : RowK enc k w0 blk off d0) : ∀ (N a m b : Nat) (d : Array α) (w : World), b - a ≤ N → d0.size = d.size → SWK enc k w0 blk off d w → a < m → m < b → b ≤ d.size → d.size < 4611686018427387904 → SortedIn (ltOf cf) a m d → SortedIn (ltOf cf) m b d →
    Calls P 32 #[.slice (some ⟨blk, off, none⟩) d.size cap, .int .i64 a, .int .i64 m, .int .i64 b, .func (.func g) #[] cb] w fun e w' =>
      e = .returned (.tuple #[]) ∧ ∃ d', SWK enc k w0 blk off d' w' ∧ Mrg (ltOf cf) d d' a b ∧ SortedIn (ltOf cf) a b d' := by
  intro N
  induction N with
  | zero => intro a m b d w hN; omega
  | succ N ih =>
  intro a m b d w hN hs S ham hmb hb hsz h1 h2
  by_cases hm : m = a + 1
  · exact symMerge_one L hO eg hcmp R hs S ham hmb hb hsz h1 h2 hm
  by_cases hb1 : b = m + 1
  · exact symMerge_two L hO eg hcmp R hs S ham hmb hb hsz h1 h2 hm hb1
  have IH : Hid (∀ (a m b : Nat) (d : Array α) (w : World), b - a ≤ N → d0.size = d.size → SWK enc k w0 blk off d w → a < m → m < b → b ≤ d.size → d.size < 4611686018427387904 → SortedIn (ltOf cf) a m d → SortedIn (ltOf cf) m b d →
    Calls P 32 #[.slice (some ⟨blk, off, none⟩) d.size cap, .int .i64 a, .int .i64 m, .int .i64 b, .func (.func g) #[] cb] w fun e w' =>
      e = .returned (.tuple #[]) ∧ ∃ d', SWK enc k w0 blk off d' w' ∧ Mrg (ltOf cf) d d' a b ∧ SortedIn (ltOf cf) a b d' ) := ih
  clear ih
  have mixed := L.mixed; have aE := L.aE; have zE := L.zE; have t0 := L.t0; have a0 := L.a0; have z0 := L.z0; have v0 := L.v0; have t3 := L.t3; have a3 := L.a3; have z3 := L.z3; have v3 := L.v3; have t4 := L.t4; have a4 := L.a4; have z4 := L.z4; have v4 := L.v4; have t84 := L.t84; have a84 := L.a84; have z84 := L.z84; have v84 := L.v84; have t22 := L.t22; have a22 := L.a22; have z22 := L.z22; have v22 := L.v22; have t63 := L.t63; have a63 := L.a63; have z63 := L.z63; have v63 := L.v63
  have u22 := run_underlying L.t22
  have e32 : ∀ args w, (callFunc 32 args).run P w = .ok (.enter 32 args) w := enters_of L.f32 (by kernel_rfl) rfl
  have e35 : ∀ args w, (callFunc 35 args).run P w = .ok (.enter 35 args) w := enters_of L.f35 (by kernel_rfl) rfl
  have S0 : Aside (SWK enc k w0 blk off d w) := S
  have HC : Aside (CmpLays P g cb enc k cf blk off d0.size w0) := hcmp
  have H1 : Hid (SortedIn (ltOf cf) a m d) := h1
  have H2 : Hid (SortedIn (ltOf cf) m b d) := h2
  have HO : Hid (SWO (ltOf cf)) := hO
  have em : ((m : Int) - (a : Int) == 1) = false := by simp; omega
  have eb : ((b : Int) - (m : Int) == 1) = false := by simp; omega
  obtain ⟨mid, emid⟩ : ∃ x : Nat, x = (a + b) / 2 := ⟨_, rfl⟩
  have emz : ((a : Int) + (b : Int)) / 2 = (mid : Int) := by omega
  have g1 : 2 * mid ≤ a + b := by omega
  have g2 : a + b ≤ 2 * mid + 1 := by omega
  clear S hcmp h1 h2 hO hm hb1 emid
  go_enter L.f32, Try.ntmps32
  go_upto_if 140 with fail
  go_cut [20, 21] from 25 (fun s20 s21 wx => wx = w ∧ ∃ s0 r0 : Nat, s20 = .int .i64 s0 ∧ s21 = .int .i64 r0 ∧ Hid (FromTo a m b mid s0 r0))
  case first => as_aux_lemma =>
    by_cases hc : mid < m
    · have hcz : (mid : Int) < (m : Int) := by omega
      go_wp2_with fail
      go_meet
      case rel => exact ⟨rfl, mid + m - b, mid, by go_num, rfl, .inl ⟨hc, rfl, rfl⟩⟩
    · have hcz : ¬ (mid : Int) < (m : Int) := by omega
      go_wp2_with fail
      go_meet
      case rel => exact ⟨rfl, a, m, rfl, rfl, .inr ⟨by omega, rfl, rfl⟩⟩
  case rest =>
  obtain ⟨rfl, s0, r0, rfl, rfl, FT⟩ := hcut
  have BL : Hid (∀ s, s0 ≤ s → s ≤ r0 → Bnd a m b mid s) := fun s x y => bnd_of FT.out g1 g2 ham hmb x y
  have hsr : s0 ≤ r0 := by rcases FT.out with ⟨u, v, z⟩ | ⟨u, v, z⟩ <;> omega
  go_wp2_with fail
  go_loopg [20, 21] (r0 - s0) (fun kx s20 s21 wr => ∃ (s r : Nat), s20 = .int .i64 s ∧ s21 = .int .i64 r ∧ s0 ≤ s ∧ s ≤ r ∧ r ≤ r0 ∧ r - s ≤ kx ∧ Aside (SWK enc k w0 blk off d wr) ∧ Hid (Sch (ltOf cf) d (mid + m) s0 s r r0))
  case atStart => exact ⟨s0, r0, rfl, rfl, Nat.le_refl _, hsr, Nat.le_refl _, Nat.le_refl _, S0, fun q x y => by omega, fun q x y => by omega⟩
  case round =>
    clear S0
    obtain ⟨s, r, rfl, rfl, hs0, hrr, hr0, hkx, S1, HS⟩ := hrel
    by_cases hlt : s < r
    · have hltz : (s : Int) < (r : Int) := by omega
      obtain ⟨c, ec⟩ : ∃ h : Nat, h = (s + r) / 2 := ⟨_, rfl⟩
      have ecz : ((s : Int) + (r : Int)) / 2 = (c : Int) := by omega
      have hc1 : s ≤ c := by omega
      have hc2 : c < r := by omega
      clear ec
      have Bc := BL.out c (by omega) (by omega)
      have Bc1 := BL.out (c + 1) (by omega) (by omega)
      have b1 : c < m := by have := Bc1.q2; omega
      have b2 : mid + m - 1 - c < b := by have := Bc.q6; omega
      have b3 : c + 1 ≤ mid + m := by have := Bc1.q3; omega
      clear Bc Bc1
      obtain ⟨v, ev⟩ : ∃ v : Nat, v = mid + m - 1 - c := ⟨_, rfl⟩
      have evz : (mid : Int) + (m : Int) - 1 - (c : Int) = (v : Int) := by omega
      have evw : IntKind.i64.wrap ((mid : Int) + (m : Int) - 1 - (c : Int)) = (v : Int) := by rw [IntKind.wrap_i64]; omega
      have b4 : v < b := by omega
      have EV : Hid (v = mid + m - 1 - c) := ev
      clear ev b2
      cases hlv : ltOf cf d[v]! d[c]! with
      | true =>
        have ea35 : ((v : Int)).toNat = v := by omega
        have pa35 : (0 : Int) ≤ (v : Int) := by omega
        have ba35 : (v : Int) < (d.size : Int) := by omega
        have ra35 : IntKind.i64.wrap ((v : Int)) = (v : Int) := by rw [IntKind.wrap_i64]; omega
        have ec35 : ((c : Int)).toNat = c := by omega
        have pc35 : (0 : Int) ≤ (c : Int) := by omega
        have bc35 : (c : Int) < (d.size : Int) := by omega
        have rc35 : IntKind.i64.wrap ((c : Int)) = (c : Int) := by rw [IntKind.wrap_i64]; omega
        obtain ⟨x35, hx35⟩ : ∃ x, x = d[v]! := ⟨_, rfl⟩
        obtain ⟨y35, hy35⟩ : ∃ x, x = d[c]! := ⟨_, rfl⟩
        have l35a := S1.out.ld R (by omega) P (v) (by omega)
        have l35b := S1.out.ld R (by omega) P (c) (by omega)
        rw [← hx35] at l35a
        rw [← hy35] at l35b
        have hc35 := S1.out.cmp HC.out (by omega) x35 y35
        have hv35 : cf x35 y35 < 0 := by rw [hx35, hy35]; exact of_decide_eq_true hlv
        have hd35 : decide (cf x35 y35 < 0) = true := decide_eq_true hv35
        clear hx35 hy35
        go_wp2_with fail
        go_quiet_grown (first | (go_at_fn g; refine Calls.grown_of (hc35 _ _)))
        have S2 : Aside (SWK enc k w0 blk off d (grow (wr.drewN nq) osq)) := S1.out.grown nq osq
        clear l35a l35b hc35 S1
        generalize grow (wr.drewN nq) osq = w2 at S2 ⊢
        clear nq osq
        go_wp2
        go_roundg (c - s)
        case measure => omega
        case rel => exact ⟨s, c, rfl, rfl, hs0, hc1, by omega, Nat.le_refl _, S2, HS.out.yes HO.out FT.out g1 g2 ham hmb H1.out H2.out (by omega) (by omega) (EV.out ▸ hlv)⟩
      | false =>
        have ea35 : ((v : Int)).toNat = v := by omega
        have pa35 : (0 : Int) ≤ (v : Int) := by omega
        have ba35 : (v : Int) < (d.size : Int) := by omega
        have ra35 : IntKind.i64.wrap ((v : Int)) = (v : Int) := by rw [IntKind.wrap_i64]; omega
        have ec35 : ((c : Int)).toNat = c := by omega
        have pc35 : (0 : Int) ≤ (c : Int) := by omega
        have bc35 : (c : Int) < (d.size : Int) := by omega
        have rc35 : IntKind.i64.wrap ((c : Int)) = (c : Int) := by rw [IntKind.wrap_i64]; omega
        obtain ⟨x35, hx35⟩ : ∃ x, x = d[v]! := ⟨_, rfl⟩
        obtain ⟨y35, hy35⟩ : ∃ x, x = d[c]! := ⟨_, rfl⟩
        have l35a := S1.out.ld R (by omega) P (v) (by omega)
        have l35b := S1.out.ld R (by omega) P (c) (by omega)
        rw [← hx35] at l35a
        rw [← hy35] at l35b
        have hc35 := S1.out.cmp HC.out (by omega) x35 y35
        have hv35 : ¬ cf x35 y35 < 0 := by rw [hx35, hy35]; exact of_decide_eq_false hlv
        have hd35 : decide (cf x35 y35 < 0) = false := decide_eq_false hv35
        clear hx35 hy35
        go_wp2_with fail
        go_quiet_grown (first | (go_at_fn g; refine Calls.grown_of (hc35 _ _)))
        have S2 : Aside (SWK enc k w0 blk off d (grow (wr.drewN nq) osq)) := S1.out.grown nq osq
        clear l35a l35b hc35 S1
        generalize grow (wr.drewN nq) osq = w2 at S2 ⊢
        clear nq osq
        go_wp2
        go_roundg (r - (c + 1))
        case measure => omega
        case rel => exact ⟨c + 1, r, by go_num, rfl, by omega, by omega, hr0, Nat.le_refl _, S2, HS.out.no HO.out FT.out g1 g2 ham hmb H1.out H2.out (by omega) (by omega) (EV.out ▸ hlv)⟩
    · obtain rfl : s = r := by omega
      have hltz : ¬ (s : Int) < (s : Int) := by omega
      have B := BL.out s hs0 hr0
      obtain ⟨e, ee⟩ : ∃ e : Nat, e = mid + m - s := ⟨_, rfl⟩
      obtain ⟨q1, q2, q3, q4, q5, q6⟩ := B
      rw [← ee] at q4 q5 q6
      have eez : (mid : Int) + (m : Int) - (s : Int) = (e : Int) := by omega
      have EE : Hid (e = mid + m - s) := ee
      clear ee hkx BL
      go_upto_region 39 with fail
      go_cut [185] from 25 (fun s185 wx => wx = wr ∧ s185 = .bool (decide (s < m ∧ m < e)))
      case first => as_aux_lemma =>
        by_cases c1 : s < m
        · have c1z : (s : Int) < (m : Int) := by omega
          by_cases c2 : m < e
          · have c2z : (m : Int) < (e : Int) := by omega
            go_wp2_with fail
            go_meet
            case rel => exact ⟨rfl, by rw [decide_eq_true (⟨c1, c2⟩ : s < m ∧ m < e)]⟩
          · have c2z : ¬ (m : Int) < (e : Int) := by omega
            go_wp2_with fail
            go_meet
            case rel => exact ⟨rfl, by rw [decide_eq_false (fun h : s < m ∧ m < e => c2 h.2)]⟩
        · have c1z : ¬ (s : Int) < (m : Int) := by omega
          go_wp2_with fail
          go_meet
          case rel => exact ⟨rfl, by rw [decide_eq_false (fun h : s < m ∧ m < e => c1 h.1)]⟩
      case rest =>
      obtain ⟨rfl, rfl⟩ := hcut
      go_upto_if 185 with fail
      go_cut [] from 25 (fun wx => ∃ d1, Aside (SWK enc k w0 blk off d1 wx) ∧ Hid (Cut (ltOf cf) d1 a s mid e b ∧ Mrg (ltOf cf) d d1 a b))
      case first => as_aux_lemma =>
        by_cases c1 : s < m ∧ m < e
        · have cz : decide (s < m ∧ m < e) = true := decide_eq_true c1
          have hc := rotate_any L (cap := cap) (a := s) (m := m) (b := e) (A := a) (B := b) (fv := .func (.func g) #[] cb) R hs S1.out c1.1 c1.2 q1 q6 hb hsz
          clear S1
          go_wp2_with (go_at_fn 35; refine hc.mono ?_; rintro e1 w1 ⟨rfl, d1, S2, p2, r2⟩)
          go_meet
          case rel => exact ⟨d1, S2, by rw [EE.out] at r2 ⊢; exact HS.out.cut HO.out FT.out g1 g2 ham hmb hb hs0 hr0 H1.out H2.out p2 r2⟩
        · have cz : decide (s < m ∧ m < e) = false := decide_eq_false c1
          go_wp2_with fail
          go_meet
          case rel => exact ⟨d, S1, by have r2 := rot_none (d := d) (s := s) (m := m) (e := e) (by omega); rw [EE.out] at r2 ⊢; exact HS.out.cut HO.out FT.out g1 g2 ham hmb hb hs0 hr0 H1.out H2.out (permIn_refl _ _ _) r2⟩
      case rest => as_aux_lemma =>
      clear S1 HS FT
      obtain ⟨d1, S1, HD⟩ := hcut
      have hz1 : d1.size = d.size := HD.out.2.size
      go_upto_region 41 with fail
      go_cut [199] from 25 (fun s199 wx => wx = wc ∧ s199 = .bool (decide (a < s ∧ s < mid)))
      case first => as_aux_lemma =>
        by_cases c1 : a < s
        · have c1z : (a : Int) < (s : Int) := by omega
          by_cases c2 : s < mid
          · have c2z : (s : Int) < (mid : Int) := by omega
            go_wp2_with fail
            go_meet
            case rel => exact ⟨rfl, by rw [decide_eq_true (⟨c1, c2⟩ : a < s ∧ s < mid)]⟩
          · have c2z : ¬ (s : Int) < (mid : Int) := by omega
            go_wp2_with fail
            go_meet
            case rel => exact ⟨rfl, by rw [decide_eq_false (fun h : a < s ∧ s < mid => c2 h.2)]⟩
        · have c1z : ¬ (a : Int) < (s : Int) := by omega
          go_wp2_with fail
          go_meet
          case rel => exact ⟨rfl, by rw [decide_eq_false (fun h : a < s ∧ s < mid => c1 h.1)]⟩
      case rest =>
      obtain ⟨rfl, rfl⟩ := hcut
      go_upto_if 199 with fail
      go_cut [] from 25 (fun wx => ∃ d2, Aside (SWK enc k w0 blk off d2 wx) ∧ Hid (St2 (ltOf cf) d d2 a mid e b))
      case first => as_aux_lemma =>
        by_cases c1 : a < s ∧ s < mid
        · have cz : decide (a < s ∧ s < mid) = true := decide_eq_true c1
          have hc := IH.out a s mid d1 _ (by omega) (by omega) S1.out c1.1 c1.2 (by omega) (by omega) HD.out.1.s1 HD.out.1.s2
          rw [hz1] at hc
          clear S1 IH
          go_wp2_with (go_at_fn 32; refine hc.mono ?_; rintro e1 w1 ⟨rfl, d2, S2, m2, t2⟩)
          go_meet
          case rel => exact ⟨d2, S2, St2.call HD.out.1 HD.out.2 m2 t2 q5 q6 hb⟩
        · have cz : decide (a < s ∧ s < mid) = false := decide_eq_false c1
          go_wp2_with fail
          go_meet
          case rel => exact ⟨d1, S1, St2.skip HD.out.1 HD.out.2 (by omega)⟩
      case rest => as_aux_lemma =>
      clear S1 HD hz1
      obtain ⟨d2, S1, HD⟩ := hcut
      have hz1 : d2.size = d.size := HD.out.mg.size
      go_upto_region 43 with fail
      go_cut [213] from 25 (fun s213 wx => wx = wc ∧ s213 = .bool (decide (mid < e ∧ e < b)))
      case first => as_aux_lemma =>
        by_cases c1 : mid < e
        · have c1z : (mid : Int) < (e : Int) := by omega
          by_cases c2 : e < b
          · have c2z : (e : Int) < (b : Int) := by omega
            go_wp2_with fail
            go_meet
            case rel => exact ⟨rfl, by rw [decide_eq_true (⟨c1, c2⟩ : mid < e ∧ e < b)]⟩
          · have c2z : ¬ (e : Int) < (b : Int) := by omega
            go_wp2_with fail
            go_meet
            case rel => exact ⟨rfl, by rw [decide_eq_false (fun h : mid < e ∧ e < b => c2 h.2)]⟩
        · have c1z : ¬ (mid : Int) < (e : Int) := by omega
          go_wp2_with fail
          go_meet
          case rel => exact ⟨rfl, by rw [decide_eq_false (fun h : mid < e ∧ e < b => c1 h.1)]⟩
      case rest =>
      obtain ⟨rfl, rfl⟩ := hcut
      by_cases c1 : mid < e ∧ e < b
      · have cz : decide (mid < e ∧ e < b) = true := decide_eq_true c1
        have hc := IH.out mid e b d2 _ (by omega) (by omega) S1.out c1.1 c1.2 (by omega) (by omega) HD.out.s2 HD.out.s3
        rw [hz1] at hc
        clear S1 IH
        go_wp2_with (go_at_fn 32; refine hc.mono ?_; rintro e1 w1 ⟨rfl, d3, S2, m2, t2⟩)
        go_end0
        exact ⟨rfl, d3, S2, HD.out.fin m2 t2 (by omega) hb⟩
      · have cz : decide (mid < e ∧ e < b) = false := decide_eq_false c1
        go_wp2_with fail
        go_end0
        exact ⟨rfl, d2, S1.out, HD.out.done (by omega)⟩
end Go.Proofs.Ytckldjiabalgbaa
