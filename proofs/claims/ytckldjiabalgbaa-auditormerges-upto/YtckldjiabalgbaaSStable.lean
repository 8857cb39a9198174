/- slices' stable sort at rows: the whole. -/
import Derived.Test.YtckldjiabalgbaaSMerge
namespace Go.Proofs.Ytckldjiabalgbaa
open Go.Shelf Go.RowKit Go.Lib Go.Sort
set_option linter.unusedVariables false
variable {P : Program} {k : Nat} {α : Type} [Inhabited α] {enc : α → List Value}
theorem sorted_none {lt : α → α → Bool} (a : Nat) (d : Array α) : SortedIn lt a a d := fun i j h1 h2 h3 => by omega
theorem mrg_ins {lt : α → α → Bool} (hO : SWO lt) {a b n : Nat} {d dk : Array α} (h : Mrg lt d dk 0 n) (hab : a ≤ b) (hb : b ≤ n) (hn : n = d.size) : Mrg lt d (insertionSort lt dk a b) 0 n ∧ SortedIn lt a b (insertionSort lt dk a b) ∧ ∀ i, i < a → (insertionSort lt dk a b)[i]! = dk[i]! := by
  have hz := h.size
  have hi := insertionSort_holds hO dk a b hab (by omega)
  exact ⟨h.trans ⟨permIn_mono _ _ _ _ _ _ (Nat.zero_le _) hb (by omega) hi.1, srt_insertionSort hO dk a b (by omega)⟩, hi.2, fun i x => hi.1.2.1 i (.inl x)⟩
theorem runs_end {lt : α → α → Bool} {s n : Nat} {d : Array α} (h : Runs lt s n d 0) (hs : n ≤ s) : SortedIn lt 0 n d := by
  by_cases hn : 0 < n
  · have := (h.take hn).1
    rwa [show min (0 + s) n = n by omega] at this
  · obtain rfl : n = 0 := by omega
    exact sorted_none _ _

set_option maxHeartbeats 8000000 in
set_option maxRecDepth 1000000 in
theorem stable_any (L : SL P k) {cf : α → α → Int} (hO : SWO (ltOf cf)) {g : Nat} {cb : Array Value} {blk off cap : Nat} {d0 d : Array α} {w0 w : World}
    (eg : ∀ args w, (callFunc g args).run P w = .ok (.enter g args) w) (hcmp : CmpLays P g cb enc k cf blk off d0.size w0) (R : RowK enc k w0 blk off d0) (hs : d0.size = d.size) (S : SWK enc k w0 blk off d w) (hsz : d.size < 1152921504606846976)
    (hins : ∀ (a b : Nat) (dk : Array α) (w : World), d0.size = dk.size → SWK enc k w0 blk off dk w → a ≤ b → b ≤ dk.size → Calls P 31 #[.slice (some ⟨blk, off, none⟩) dk.size cap, .int .i64 a, .int .i64 b, .func (.func g) #[] cb] w fun e w' => e = .returned (.tuple #[]) ∧ SWK enc k w0 blk off (Sort.insertionSort (ltOf cf) dk a b) w') :
    Calls P 25 #[.slice (some ⟨blk, off, none⟩) d.size cap, .int .i64 d.size, .func (.func g) #[] cb] w fun e w' =>
      e = .returned (.tuple #[]) ∧ ∃ d', SWK enc k w0 blk off d' w' ∧ d'.size = d.size ∧ d'.toList = srt (ltOf cf) d.toList := by
  have mixed := L.mixed; have aE := L.aE; have zE := L.zE; have t0 := L.t0; have a0 := L.a0; have z0 := L.z0; have v0 := L.v0; have t3 := L.t3; have a3 := L.a3; have z3 := L.z3; have v3 := L.v3; have t4 := L.t4; have a4 := L.a4; have z4 := L.z4; have v4 := L.v4; have t84 := L.t84; have a84 := L.a84; have z84 := L.z84; have v84 := L.v84; have t22 := L.t22; have a22 := L.a22; have z22 := L.z22; have v22 := L.v22; have t63 := L.t63; have a63 := L.a63; have z63 := L.z63; have v63 := L.v63
  have u22 := run_underlying L.t22
  have e31 : ∀ args w, (callFunc 31 args).run P w = .ok (.enter 31 args) w := enters_of L.f31 (by kernel_rfl) rfl
  have e32 : ∀ args w, (callFunc 32 args).run P w = .ok (.enter 32 args) w := enters_of L.f32 (by kernel_rfl) rfl
  obtain ⟨n, hn⟩ : ∃ n, n = d.size := ⟨_, rfl⟩
  have HI : Hid (∀ (a b : Nat) (dk : Array α) (w : World), d0.size = dk.size → SWK enc k w0 blk off dk w → a ≤ b → b ≤ dk.size → Calls P 31 #[.slice (some ⟨blk, off, none⟩) dk.size cap, .int .i64 a, .int .i64 b, .func (.func g) #[] cb] w fun e w' => e = .returned (.tuple #[]) ∧ SWK enc k w0 blk off (Sort.insertionSort (ltOf cf) dk a b) w') := hins
  have HM : Hid (∀ (a m b : Nat) (dk : Array α) (w : World), d0.size = dk.size → SWK enc k w0 blk off dk w → a < m → m < b → b ≤ dk.size → SortedIn (ltOf cf) a m dk → SortedIn (ltOf cf) m b dk → Calls P 32 #[.slice (some ⟨blk, off, none⟩) dk.size cap, .int .i64 a, .int .i64 m, .int .i64 b, .func (.func g) #[] cb] w fun e w' =>
      e = .returned (.tuple #[]) ∧ ∃ d', SWK enc k w0 blk off d' w' ∧ Mrg (ltOf cf) dk d' a b ∧ SortedIn (ltOf cf) a b d') := fun a m b dk w x1 x2 x3 x4 x5 x6 x7 => symMerge_any L hO eg hcmp R _ a m b dk w (Nat.le_refl _) x1 x2 x3 x4 x5 (by omega) x6 x7
  have HO : Hid (SWO (ltOf cf)) := hO
  have S0 : Aside (SWK enc k w0 blk off d w) := S
  have HN : Hid (n = d.size) := hn
  have H0 : Hid (d0.size = n) := hs.trans hn.symm
  rw [← hn] at hsz ⊢
  clear S hins hcmp hO hn hs
  go_enter L.f25, Try.ntmps25
  go_wp2
  go_loopg [7, 8] n (fun kx s7 s8 wr => ∃ (a : Nat) (dk : Array α), s7 = .int .i64 a ∧ s8 = .int .i64 ((a : Int) + 20) ∧ a ≤ n ∧ n - a ≤ kx ∧ Aside (SWK enc k w0 blk off dk wr) ∧ Hid (Upto (ltOf cf) 20 dk a ∧ Mrg (ltOf cf) d dk 0 n))
  case atStart => exact ⟨0, d, rfl, by go_num, Nat.zero_le _, Nat.le_refl _, S0, .zero, Mrg.refl _ _ _⟩
  case round =>
    clear S0
    obtain ⟨a, dk, rfl, rfl, han, hkx, S1, HU⟩ := hrel
    have hz : Hid (dk.size = n) := (show dk.size = n by have := HU.out.2.size; have := HN.out; omega)
    by_cases hlt : a + 20 ≤ n
    · have hltz : (a : Int) + 20 ≤ (n : Int) := by omega
      have hc := HI.out a (a + 20) dk wr (H0.out.trans hz.out.symm) S1.out (by omega) (by rw [hz.out]; omega)
      rw [hz.out, show ((a + 20 : Nat) : Int) = (a : Int) + 20 by omega] at hc
      have HX := mrg_ins HO.out HU.out.2 (a := a) (b := a + 20) (by omega) hlt HN.out
      have HY : Hid (Upto (ltOf cf) 20 (insertionSort (ltOf cf) dk a (a + 20)) (a + 20) ∧ Mrg (ltOf cf) d (insertionSort (ltOf cf) dk a (a + 20)) 0 n) := ⟨(HU.out.1.same HX.2.2).snoc HX.2.1, HX.1⟩
      generalize insertionSort (ltOf cf) dk a (a + 20) = d2 at hc HY
      clear HX HU S1 hz
      go_wp2_with (go_at_fn 31; refine hc.mono ?_; rintro e1 w1 ⟨rfl, S2⟩)
      have S3 : Aside (SWK enc k w0 blk off d2 w1) := S2
      clear S2 hc
      go_roundg (n - (a + 20))
      case measure => omega
      case rel => exact ⟨a + 20, d2, by go_num, by go_num, hlt, Nat.le_refl _, S3, HY⟩
    · have hltz : ¬ (a : Int) + 20 ≤ (n : Int) := by omega
      have hc := HI.out a n dk wr (H0.out.trans hz.out.symm) S1.out han (by rw [hz.out]; exact Nat.le_refl _)
      rw [hz.out] at hc
      have HX := mrg_ins HO.out HU.out.2 (a := a) (b := n) han (Nat.le_refl _) HN.out
      have HY : Hid (Runs (ltOf cf) 20 n (insertionSort (ltOf cf) dk a n) 0 ∧ Mrg (ltOf cf) d (insertionSort (ltOf cf) dk a n) 0 n) := ⟨(HU.out.1.same HX.2.2).runs han (by omega) (by
        by_cases hq : a < n
        · exact .step hq (by rw [show min (a + 20) n = n by omega]; exact HX.2.1) (.done (by omega))
        · exact .done (by omega)), HX.1⟩
      generalize insertionSort (ltOf cf) dk a n = d2 at hc HY
      clear HX HU S1 hz hkx
      go_wp2_with (go_at_fn 31; refine hc.mono ?_; rintro e1 w1 ⟨rfl, S2⟩)
      have S3 : Aside (SWK enc k w0 blk off d2 w1) := S2
      clear S2 hc
      go_loopg [6] n (fun kx s6 wr => ∃ (s : Nat) (dk : Array α), s6 = .int .i64 s ∧ 0 < s ∧ n - s ≤ kx ∧ Aside (SWK enc k w0 blk off dk wr) ∧ Hid (Runs (ltOf cf) s n dk 0 ∧ Mrg (ltOf cf) d dk 0 n))
      case atStart => exact ⟨20, d2, rfl, by omega, by omega, S3, HY⟩
      case round =>
        clear S3 HY
        obtain ⟨s, dq, rfl, hs0, hkx, S1, HR⟩ := hrel
        by_cases hsn : s < n
        · have hsnz : (s : Int) < (n : Int) := by omega
          go_wp2
          go_loopg [7, 8] n (fun kx s7 s8 wr => ∃ (q : Nat) (dk : Array α), s7 = .int .i64 q ∧ s8 = .int .i64 ((q : Int) + 2 * (s : Int)) ∧ q ≤ n ∧ n - q ≤ kx ∧ Aside (SWK enc k w0 blk off dk wr) ∧ Hid (Upto (ltOf cf) (2 * s) dk q ∧ Runs (ltOf cf) s n dk q ∧ Mrg (ltOf cf) d dk 0 n))
          case atStart => exact ⟨0, dq, rfl, by go_num, Nat.zero_le _, Nat.le_refl _, S1, .zero, HR.out⟩
          case round =>
            clear S1 HR
            obtain ⟨q, dk, rfl, rfl, hqn, hkq, S1, HU⟩ := hrel
            have hz : Hid (dk.size = n) := (show dk.size = n by have := HU.out.2.2.size; have := HN.out; omega)
            by_cases hlt : q + 2 * s ≤ n
            · have hltz2 : (q : Int) + 2 * (s : Int) ≤ (n : Int) := by omega
              have t1 := HU.out.2.1.take (by omega)
              have t2 := t1.2.take (by omega)
              rw [show min (q + s) n = q + s by omega] at t1
              rw [show min (q + s + s) n = q + 2 * s by omega] at t2
              have hc := HM.out q (q + s) (q + 2 * s) dk wr (H0.out.trans hz.out.symm) S1.out (by omega) (by omega) (by rw [hz.out]; omega) t1.1 t2.1
              rw [hz.out, show ((q + s : Nat) : Int) = (q : Int) + (s : Int) by omega, show ((q + 2 * s : Nat) : Int) = (q : Int) + 2 * (s : Int) by omega] at hc
              have HT : Hid (Runs (ltOf cf) s n dk (q + s + s)) := t2.2
              clear t1 t2 S1
              go_wp2_with (go_at_fn 32; refine hc.mono ?_; rintro e1 w1 ⟨rfl, d3, S2, m2, t2⟩)
              have S3 : Aside (SWK enc k w0 blk off d3 w1) := S2
              have HY : Hid (Upto (ltOf cf) (2 * s) d3 (q + 2 * s) ∧ Runs (ltOf cf) s n d3 (q + 2 * s) ∧ Mrg (ltOf cf) d d3 0 n) := ⟨(HU.out.1.same fun i x => m2.out (.inl x)).snoc t2, (show q + s + s = q + 2 * s by omega) ▸ (HT.out.same fun i x => m2.out (.inr (by omega))), HU.out.2.2.trans (m2.mono (Nat.zero_le _) hlt (by rw [hz.out]; exact Nat.le_refl _))⟩
              clear S2 m2 t2 hc HT HU hz
              go_roundg (n - (q + 2 * s))
              case measure => omega
              case rel => exact ⟨q + 2 * s, d3, by go_num, by go_num, hlt, Nat.le_refl _, S3, HY⟩
            · have hltz2 : ¬ (q : Int) + 2 * (s : Int) ≤ (n : Int) := by omega
              by_cases hm : q + s < n
              · have hmz : (q : Int) + (s : Int) < (n : Int) := by omega
                have t1 := HU.out.2.1.take (by omega)
                have t2 := t1.2.take (by omega)
                rw [show min (q + s) n = q + s by omega] at t1
                rw [show min (q + s + s) n = n by omega] at t2
                have hc := HM.out q (q + s) n dk wr (H0.out.trans hz.out.symm) S1.out (by omega) hm (by rw [hz.out]; exact Nat.le_refl _) t1.1 t2.1
                rw [hz.out, show ((q + s : Nat) : Int) = (q : Int) + (s : Int) by omega] at hc
                clear t1 t2 S1
                go_wp2_with (go_at_fn 32; refine hc.mono ?_; rintro e1 w1 ⟨rfl, d3, S2, m2, t2⟩)
                have S3 : Aside (SWK enc k w0 blk off d3 w1) := S2
                have HY : Hid (Runs (ltOf cf) (2 * s) n d3 0 ∧ Mrg (ltOf cf) d d3 0 n) := ⟨(HU.out.1.same fun i x => m2.out (.inl x)).runs hqn (by omega) (.step (by omega) (by rw [show min (q + 2 * s) n = n by omega]; exact t2) (.done (by omega))), HU.out.2.2.trans (m2.mono (Nat.zero_le _) (Nat.le_refl _) (by rw [hz.out]; exact Nat.le_refl _))⟩
                clear S2 m2 t2 hc HU hz
                go_roundg (n - 2 * s)
                case measure => omega
                case rel => exact ⟨2 * s, d3, by go_num, by omega, Nat.le_refl _, S3, HY⟩
              · have hmz : ¬ (q : Int) + (s : Int) < (n : Int) := by omega
                have HY : Hid (Runs (ltOf cf) (2 * s) n dk 0 ∧ Mrg (ltOf cf) d dk 0 n) := ⟨HU.out.1.runs hqn (by omega) (by
                  by_cases hq : q < n
                  · have t1 := HU.out.2.1.take hq
                    rw [show min (q + s) n = n by omega] at t1
                    exact .step hq (by rw [show min (q + 2 * s) n = n by omega]; exact t1.1) (.done (by omega))
                  · exact .done (by omega)), HU.out.2.2⟩
                clear HU hz
                go_wp2_with fail
                go_roundg (n - 2 * s)
                case measure => omega
                case rel => exact ⟨2 * s, dk, by go_num, by omega, Nat.le_refl _, S1, HY⟩
        · have hsnz : ¬ (s : Int) < (n : Int) := by omega
          go_wp2_with fail
          go_end0
          have hz := HR.out.2.size
          have hn := HN.out
          exact ⟨rfl, dq, S1.out, by omega, srt_done (by have := runs_end HR.out.1 (by omega); rwa [hn, ← hz] at this) HR.out.2.same⟩
end Go.Proofs.Ytckldjiabalgbaa
