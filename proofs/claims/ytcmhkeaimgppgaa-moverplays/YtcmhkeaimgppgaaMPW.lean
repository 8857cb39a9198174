/- MoverPlays: the walk. -/
import Derived.Test.YtcmhkeaimgppgaaMPt
namespace Go.Proofs.Ytcmhkeaimgppgaa
open Go.RowKit Go.Shelf
attribute [local go_sem] Oper.semAt_some
set_option linter.unusedVariables false

set_option maxRecDepth 100000 in
set_option maxHeartbeats 16000000 in
theorem moverPlays_any (a : Option Addr) (n cap : Nat) (l : List MopV) (w : World) (h : MopsAt w a n l) (hm : n ≤ maxLen) : Calls Try.prog 3 #[.slice a n cap] w fun e w' => e = .returned (.bool true) ∧ Below w.heap.size w w' := by
  have HN := mnew_any w
  have HA : Hid (MopsAt w a n l) := h
  have HLN : Hid (n = l.length) := h.1.1
  clear h
  go_enter Try.func3, Try.ntmps3
  go_wp2_with fail
  refine HN.mono ?_
  rintro e w1 ⟨rfl, m1, b1⟩
  have bV : Below w1.heap.size w1 ((w1.alloc (.cells #[.int .i64 0, .bool false, .slice none 0 0, .int .i64 0] 28)).alloc (.cells #[.int .i64 0, .int .i64 0, .int .i64 0, .string ⟨#[]⟩, .string ⟨#[]⟩, .int .i64 0, .string ⟨#[]⟩, .int .i64 0, .int .i64 0, .string ⟨#[]⟩, .string ⟨#[]⟩, .int .i64 0, .int .i64 0, .int .i64 0, .int .i64 0, .int .i64 0, .bool false, .slice none 0 0] 35)) := ((Below.refl _ w1).alloc (Nat.le_refl _) _).alloc (by simp) _
  have q1 : ((w1.alloc (.cells #[.int .i64 0, .bool false, .slice none 0 0, .int .i64 0] 28)).alloc (.cells #[.int .i64 0, .int .i64 0, .int .i64 0, .string ⟨#[]⟩, .string ⟨#[]⟩, .int .i64 0, .string ⟨#[]⟩, .int .i64 0, .int .i64 0, .string ⟨#[]⟩, .string ⟨#[]⟩, .int .i64 0, .int .i64 0, .int .i64 0, .int .i64 0, .int .i64 0, .bool false, .slice none 0 0] 35)).heap[w1.heap.size]? = some (.cells #[.int .i64 0, .bool false, .slice none 0 0, .int .i64 0] 28 (0, 0)) := by rw [Below.heap_alloc _ _ _ (by simp), heap_alloc_new]
  have q2 := heap_two w1 (.cells #[.int .i64 0, .bool false, .slice none 0 0, .int .i64 0] 28) (.cells #[.int .i64 0, .int .i64 0, .int .i64 0, .string ⟨#[]⟩, .string ⟨#[]⟩, .int .i64 0, .string ⟨#[]⟩, .int .i64 0, .int .i64 0, .string ⟨#[]⟩, .string ⟨#[]⟩, .int .i64 0, .int .i64 0, .int .i64 0, .int .i64 0, .int .i64 0, .bool false, .slice none 0 0] 35)
  obtain ⟨V, eV⟩ : ∃ V, ((w1.alloc (.cells #[.int .i64 0, .bool false, .slice none 0 0, .int .i64 0] 28)).alloc (.cells #[.int .i64 0, .int .i64 0, .int .i64 0, .string ⟨#[]⟩, .string ⟨#[]⟩, .int .i64 0, .string ⟨#[]⟩, .int .i64 0, .int .i64 0, .string ⟨#[]⟩, .string ⟨#[]⟩, .int .i64 0, .int .i64 0, .int .i64 0, .int .i64 0, .int .i64 0, .bool false, .slice none 0 0] 35)) = V := ⟨_, rfl⟩
  rw [eV] at bV q1 q2
  have P0 : Hid (PI w (fun _ => True) V w.heap.size w1.heap.size (w1.heap.size + 1) MD.zero MD.zero MopV.none) :=
    ⟨(m1.below bV).sub (Nat.le_refl _) (fun _ _ _ => trivial), ⟨⟨none, 0, q1, OwnB.nil _ _⟩, b1.size, Nat.le_refl _, by simp [MD.zero]⟩, q2, World.ownsRow_nil _ _ _ _, by simp [MopV.none], b1.trans (bV.mono b1.size), Nat.le_succ_of_le b1.size⟩
  have EV : Hid (_ = V) := eV
  have S0 : Hid (w.heap.size ≤ w1.heap.size) := b1.size
  clear HN m1 b1 bV q1 q2 eV
  go_wp2_with fail
  try rw [show _ = V from EV.out]
  clear EV
  generalize hG1 : w.heap.size = G1 at P0 ⊢
  generalize hG2 : w1.heap.size = G2 at P0 ⊢
  generalize hL : G2 + 1 = L at P0 ⊢
  have HG : Hid (w.heap.size = G1) := hG1
  clear hG1 hG2 hL S0
  go_loopw [6] (fun y wr => ∃ i : Nat, i ≤ n ∧ y = .int .i64 i ∧ Hid (∃ M R c, PI w (fun _ => True) wr G1 G2 L M R c ∧ Sim M R)) (fun y _ => n - (intOf y).toNat)
  case atStart => exact ⟨0, Nat.zero_le _, rfl, ⟨_, _, _, P0.out, Sim.zero⟩⟩
  case round =>
    clear P0
    obtain ⟨i, hi, rfl, hD⟩ := hrel
    by_cases hin : i < n
    · by_cases h100 : i < 100
      · obtain ⟨M, R, c, pi, sim⟩ := hD.out
        have hil : i < l.length := by have := HLN.out; omega
        have ain := HA.out.2 l[i] (List.getElem_mem hil)
        obtain ⟨gb, off, rfl, hc⟩ := RecsAt.at HA.out.1 hil
        have lgb : gb < w.heap.size := World.block_lt_of_cell? w _ (hc 0 _ rfl)
        generalize l[i] = act at ain hc
        have RG : Hid (wr.rangeAt gb (off + i * 31) act.cells) := fun j v hv => (pi.be.cell (p := ⟨gb, off + i * 31 + j, none⟩) lgb).trans (hc j v hv)
        obtain ⟨bV9, q7, q70, l7⟩ := box_new (X := wr) #[.int .i64 0, .int .i64 0, .int .i64 0, .int .i64 0, .int .i64 0, .int .i64 0, .int .i64 0, .int .i64 0, .int .i64 0, .int .i64 0, .string ⟨#[]⟩, .string ⟨#[]⟩, .int .i64 0, .string ⟨#[]⟩, .int .i64 0, .int .i64 0, .string ⟨#[]⟩, .string ⟨#[]⟩, .int .i64 0, .int .i64 0, .int .i64 0, .int .i64 0, .int .i64 0, .bool false, .slice none 0 0, .int .i64 0, .bool false, .int .i64 0, .int .i64 0, .slice none 0 0, .slice none 0 0] 44 act.cells.toArray
        obtain ⟨V9, e9⟩ : ∃ V9, (wr.alloc (.cells #[.int .i64 0, .int .i64 0, .int .i64 0, .int .i64 0, .int .i64 0, .int .i64 0, .int .i64 0, .int .i64 0, .int .i64 0, .int .i64 0, .string ⟨#[]⟩, .string ⟨#[]⟩, .int .i64 0, .string ⟨#[]⟩, .int .i64 0, .int .i64 0, .string ⟨#[]⟩, .string ⟨#[]⟩, .int .i64 0, .int .i64 0, .int .i64 0, .int .i64 0, .int .i64 0, .bool false, .slice none 0 0, .int .i64 0, .bool false, .int .i64 0, .int .i64 0, .slice none 0 0, .slice none 0 0] 44)).setRow wr.heap.size act.cells.toArray = V9 := ⟨_, rfl⟩
        rw [e9] at bV9 q7 l7
        have k0 : V9.cell? ⟨wr.heap.size, 0, none⟩ = some (.int .i64 act.k) := (mop_box q7).1
        have E9 : Hid (_ = V9) := e9
        have Q70 : Hid _ := q70
        have Q7 : Hid (V9.heap[wr.heap.size]? = some (.cells act.cells.toArray 44 (0, 0))) := q7
        have PV : Hid (PI w (fun _ => True) V9 G1 G2 L M R c) := pi.below bV9
        have SM : Hid (Sim M R) := sim
        have AIN : Hid (act.In w) := ain
        have HIN : Hid (i + 1 ≤ n) := hin
        have C1 : Hid ((Try.prog.info? 44).map (·.size) = some act.cells.toArray.size) := by
          have e1 : (Try.prog.info? 44).map (·.size) = some 31 := by kernel_rfl
          show _ = _
          rw [e1]
          rfl
        have C2 : Hid ((#[.int .i64 0, .int .i64 0, .int .i64 0, .int .i64 0, .int .i64 0, .int .i64 0, .int .i64 0, .int .i64 0, .int .i64 0, .int .i64 0, .string ⟨#[]⟩, .string ⟨#[]⟩, .int .i64 0, .string ⟨#[]⟩, .int .i64 0, .int .i64 0, .string ⟨#[]⟩, .string ⟨#[]⟩, .int .i64 0, .int .i64 0, .int .i64 0, .int .i64 0, .int .i64 0, .bool false, .slice none 0 0, .int .i64 0, .bool false, .int .i64 0, .int .i64 0, .slice none 0 0, .slice none 0 0] : Array Value).size = act.cells.toArray.size) := by show _ = _; rfl
        have C3 : Hid (act.cells.toArray.all (·.oneCell') = true) := by show _ = _; simp [MopV.cells, Value.oneCell']; exact ain.one
        have C4 : Hid ((Try.prog.info? 44).map (·.size) = some act.cells.length) := by
          have e1 : (Try.prog.info? 44).map (·.size) = some 31 := by kernel_rfl
          show _ = _
          rw [e1]
          rfl
        have hwi : wrap64 ((i : Int) + 1) = ((i + 1 : Nat) : Int) := by unfold wrap64; omega
        have HWI : Hid _ := hwi
        have hii : (i : Int) < (n : Int) := by omega
        have hi1 : (i : Int) < 100 := by omega
        clear pi sim ain hc lgb e9 bV9 q7 q70 l7 hD hin hil hi hwi
        repeat
          (fail_if_success (guard_target =~ (Code.region 10 _ _).wp _ _ _ _)
           first
            | (refine wpList_load_mid rfl 44 (.tmp 34) rfl gb (off + i * 31) rfl act.cells _ RG.out Try.underlying44 rfl C4.out ?_)
            | (refine wpList_store_row rfl 44 (.tmp 7) (.tmp 35) rfl wr.heap.size act.cells.toArray rfl rfl 44 _ Q70.out C1.out C2.out C3.out ?_; rw [show _ = V9 from E9.out])
            | go_values | go_skip | go_guarded | go_step | go_upon | go_back)
        generalize hB7 : wr.heap.size = B7 at k0 Q7 ⊢
        clear hB7 E9 Q70 C1 C2 C3 C4 RG
        by_cases e0 : act.k = 0
        · have t0 : (act.k == 0) = true := by simp [e0]
          clear e0
          have HM := moving_any act.x V9
          have G7 : Hid (V9.rangeAt B7 1 [.int .i64 act.x.slot, .int .i64 act.x.fr, .int .i64 act.x.to, .int .i64 act.x.ep, .int .i64 act.x.ph, .int .i64 act.x.n]) := (mop_box Q7.out).2.1
          go_wp2_with (refine wpList_load_mid rfl 37 (.tmp 41) rfl B7 1 rfl [.int .i64 act.x.slot, .int .i64 act.x.fr, .int .i64 act.x.to, .int .i64 act.x.ep, .int .i64 act.x.ph, .int .i64 act.x.n] _ G7.out Try.underlying37 rfl (by kernel_rfl) ?_)
          refine HM.mono ?_
          rintro e w1 ⟨rfl, b1⟩
          have P1 : Hid (PI w (fun g => g < w1.heap.size) w1 G1 G2 L M R c) := (PV.out.below b1).sub (fun g hg _ => hg)
          have Q71 : Hid (w1.heap[B7]? = some (.cells act.cells.toArray 44 (0, 0))) := (b1.block _ (Array.getElem?_eq_some_iff.1 Q7.out).1).trans Q7.out
          have HAs := asks_any P1.out.m act.x
          clear HM G7 Q7 PV b1 k0
          go_wp2_with fail
          refine HAs.mono ?_
          rintro e w2 ⟨v, rfl, told, m2, o2⟩
          have P2 : Hid (PI w (fun g => g < w1.heap.size) w2 G1 G2 L (knowM M act.x) R c) := P1.out.m1 o2 m2
          obtain ⟨gc1, hg1⟩ := P1.out.g1
          have Q72 : Hid (w2.heap[B7]? = some (.cells act.cells.toArray 44 (0, 0))) := o2.box hg1 Q71.out (by decide)
          have G72 : Hid (w2.rangeAt B7 1 [.int .i64 act.x.slot, .int .i64 act.x.fr, .int .i64 act.x.to, .int .i64 act.x.ep, .int .i64 act.x.ph, .int .i64 act.x.n]) := (mop_box Q72.out).2.1
          have S12 : Hid (w1.heap.size ≤ w2.heap.size ∧ w.heap.size ≤ w1.heap.size) := ⟨o2.size, P1.out.be.size⟩
          have TD : Hid (AsksTold (askP (knowM M act.x) act.x) w1.heap.size v w2) := told
          have HRs := rasks_any P2.out.r act.x
          have SK : Hid (Sim (knowM M act.x) (rknowM R act.x)) := (SM.out.know act.x).1
          rw [← Sim.ask SK.out act.x] at HRs
          clear HAs told m2 o2 P1 Q71 hg1 Q72 SM
          go_wp2_with (refine wpList_load_mid rfl 37 (.tmp 46) rfl B7 1 rfl [.int .i64 act.x.slot, .int .i64 act.x.fr, .int .i64 act.x.to, .int .i64 act.x.ep, .int .i64 act.x.ph, .int .i64 act.x.n] _ G72.out Try.underlying37 rfl (by kernel_rfl) ?_)
          refine HRs.mono ?_
          rintro e w3 ⟨v2, rfl, told2, r3, o3⟩
          have P3 : Hid (PI w (fun g => g < w1.heap.size) w3 G1 G2 L (knowM M act.x) (rknowM R act.x) c) := P2.out.r1 o3 r3
          obtain ⟨gc2, hg2⟩ := P2.out.g2
          have O3 : Hid (OnlyR w2 w3 G2) := o3
          have HG2 : Hid _ := hg2
          have PLn : Hid (∀ p, askP (knowM M act.x) act.x = some p → p.l.length ≤ 140737488351232) := fun p e => Nat.le_trans (askP_len e) P3.out.m.len
          have LT : Hid (L < w2.heap.size) := (Array.getElem?_eq_some_iff.1 P2.out.lc).1
          have S13 : Hid (w1.heap.size ≤ w3.heap.size) := Nat.le_trans S12.out.1 o3.size
          have TD2 : Hid (RAsked (askP (knowM M act.x) act.x) w2.heap.size v2 w3) := told2
          clear HRs told2 r3 o3 P2 hg2 G72
          generalize knowM M act.x = M' at *
          generalize rknowM R act.x = R' at *
          generalize askP M' act.x = o at *
          cases o with
          | none =>
            have tr := TD.out
            have tr2 := TD2.out
            dsimp only [AsksTold, RAsked] at tr tr2
            obtain ⟨va, vc, rfl, _⟩ := row_form tr
            subst tr2
            clear PLn LT S13 tr TD TD2 O3 HG2 S12
            go_wp2_with fail
            go_loopw [10] (fun y wx => y = .int .i64 0 ∧ wx = w3) (fun _ _ => 0)
            case atStart => exact ⟨rfl, rfl⟩
            case round =>
              obtain ⟨rfl, rfl⟩ := hrel
              have PA : Hid (PI w (fun _ => True) wr G1 G2 L M' R' c) := P3.out.sub (fun _ _ _ => trivial)
              clear P3
              go_wp2_with fail
              refine mp_r37 w _ (fun _ => True) G1 G2 L M' R' c _ _ _ _ _ _ _ _ _ _ _ _ _ _ _ _ _ _ _ _ _ _ _ _ _ _ _ _ _ _ _ _ _ _ _ _ _ _ _ _ _ _ _ _ _ _ _ _ _ _ _ _ _ _ _ _ _ _ _ _ _ _ _ _ _ _ _ _ _ _ _ _ _ _ _ _ _ _ _ _ _ _ _ _ _ _ _ _ _ _ _ _ _ _ _ _ _ _ _ _ _ _ _ _ _ _ _ _ _ _ _ _ _ _ _ _ _ _ _ _ _ _ _ _ _ _ _ _ _ _ _ _ _ _ _ _ _ _ _ _ _ _ _ _ _ _ _ _ _ _ _ _ _ _ _ _ _ _ _ _ _ _ _ _ _ _ _ _ _ _ _ _ _ _ _ _ _ _ _ _ _ _ _ _ _ _ _ _ _ _ _ _ _ _ _ PA.out SK.out _ _ ?_
              intro u182 u183 u184 u185 u186 u187 u188 u189 u190 u191 u192 u193 u194 YF bF
              have PF : Hid (PI w (fun _ => True) YF G1 G2 L M' R' c) := PA.out.below bF
              clear bF
              go_wp2_with fail
              go_roundw
              case rel => exact ⟨i + 1, HIN.out, by first | rfl | rw [HWI.out], ⟨_, _, _, PF.out, SK.out⟩⟩
              case measure => have := HIN.out; simp only [intOf]; omega
          | some p =>
            have tr := TD.out
            have tr2 := TD2.out
            dsimp only [AsksTold, RAsked] at tr tr2
            obtain ⟨u, tr1, hu⟩ := tr
            obtain ⟨g, gcap, rfl, hgr, hg1, hg2, gcur, hgc⟩ := told_row tr1 (by obtain ⟨pg, pk, psl, pep, pat, pla, pl⟩ := p; rfl)
            obtain ⟨ua, uc, rfl, hun, _⟩ := row_form hu
            obtain ⟨B, va, vc, rfl, hB, hBc, hv⟩ := tr2
            obtain ⟨pg, pk, psl, pep, pat, pla, pl⟩ := p
            simp only [PAsk.v, mAsk_cells] at hgr hBc
            dsimp only at hu hv
            have hpl : pl.length ≤ 140737488351232 := PLn.out _ rfl
            have hu3 := O3.out.own HG2.out hu (by decide)
            have hgc3 := O3.out.box HG2.out hgc (by decide)
            have hgr3 : w3.rangeAt g 0 [.int .i64 pg, .int .i64 pk, .int .i64 0, .string ⟨#[]⟩, .string ⟨#[]⟩, .int .i64 0, .string ⟨#[]⟩, .int .i64 0, .int .i64 0, .string ⟨#[]⟩, .string ⟨#[]⟩, .int .i64 0, .int .i64 0, .int .i64 psl, .int .i64 pep, .int .i64 pat, .bool pla, .slice ua pl.length uc] := fun j x hx => by
              have e1 := hgr j x hx
              simp only [World.cell?] at e1 ⊢
              rw [hgc3]
              rw [hgc] at e1
              exact e1
            have GR : Hid _ := hgr3
            have GC : Hid (w3.heap[g]? = some (.cells gcur 54 (0, 0))) := hgc3
            have HU : Hid (w3.ownsRow w1.heap.size 5 1 (.slice ua pl.length uc) pl.length (cellsOf pl)) := hu3
            have HV : Hid (w3.ownsRow w2.heap.size 5 1 (.slice va pl.length vc) pl.length (cellsOf pl)) := hv
            have HBC : Hid (w3.heap[B]? = some (.cells #[.int .i64 pg, .int .i64 pk, .int .i64 0, .string ⟨#[]⟩, .string ⟨#[]⟩, .int .i64 0, .string ⟨#[]⟩, .int .i64 0, .int .i64 0, .string ⟨#[]⟩, .string ⟨#[]⟩, .int .i64 0, .int .i64 0, .int .i64 psl, .int .i64 pep, .int .i64 pat, .bool pla, .slice va pl.length vc] 35 (0, 0))) := hBc
            have HBL : Hid (B ≠ L) := fun e2 => by have := LT.out; omega
            have HPL : Hid (pl.length ≤ 140737488351232) := hpl
            clear PLn LT tr1 hu hgr hg1 hg2 hgc hB hBc hv hu3 hgc3 hgr3 hun hpl TD TD2 O3 HG2
            go_wp2_with fail
            go_loopw [10] (fun y wx => ∃ j : Nat, j ≤ 1 ∧ y = .int .i64 (j : Int) ∧ Hid ((j = 0 ∧ wx = w3) ∨ (j = 1 ∧ ∃ c', PI w (fun _ => True) wx G1 G2 L M' R' c'))) (fun y _ => 1 - (intOf y).toNat)
            case atStart => exact ⟨0, Nat.zero_le _, rfl, .inl ⟨rfl, rfl⟩⟩
            case round =>
              obtain ⟨j, hj, rfl, hS⟩ := hrel
              rcases hS.out with ⟨rfl, hwx⟩ | ⟨rfl, c', pA⟩
              · subst hwx
                clear hS hj
                go_wp2_with fail
                obtain ⟨ua', uc', eu, su, hun, _⟩ := owned_seen HU.out (by have := HPL.out; unfold maxLen; omega)
                obtain ⟨va', vc', ev, sv, hvn, _⟩ := owned_seen HV.out (by have := HPL.out; unfold maxLen; omega)
                cases eu
                cases ev
                have SV : Hid (Seen _ va pl.length pl) := sv
                have VN : Hid (va = none → vc = 0) := hvn
                refine mp_r19 _ g gcap B pg pk psl pep pat pla pl ua uc va vc _ _ _ _ _ _ _ _ _ _ _ _ _ _ _ _ _ _ _ _ _ _ _ _ _ _ _ _ _ _ _ _ _ _ _ _ _ _ _ _ _ _ _ _ _ _ _ _ _ _ _ _ _ _ _ _ _ _ _ _ _ _ _ _ _ _ _ _ _ _ _ _ _ _ _ _ _ _ _ _ _ _ _ _ _ _ _ _ _ _ _ _ _ _ _ _ _ _ _ _ _ _ _ _ _ _ _ _ _ _ _ _ _ _ _ _ _ _ _ _ _ _ _ _ _ _ _ _ _ _ _ _ _ _ _ _ _ _ _ _ _ _ _ _ _ _ _ _ _ _ _ _ _ _ _ _ _ _ _ _ _ _ _ _ _ _ _ _ _ _ _ _ _ _ _ _ _ _ _ _ _ _ _ _ _ _ _ _ _ _ _ _ _ _ GR.out HBC.out (Array.getElem?_eq_some_iff.1 GC.out).1 su sv _ _ ?_
                intro u60 u61 u62 u63 u64 u65 u66 u67 u68 u69 u70 u71 u72 u73 u74 u75 u76 Y bY
                have PY : Hid (PI w (fun g => g < w1.heap.size) Y G1 G2 L M' R' c) := P3.out.below bY
                have GR2 : Hid (Y.rangeAt g 0 [.int .i64 pg, .int .i64 pk, .int .i64 0, .string ⟨#[]⟩, .string ⟨#[]⟩, .int .i64 0, .string ⟨#[]⟩, .int .i64 0, .int .i64 0, .string ⟨#[]⟩, .string ⟨#[]⟩, .int .i64 0, .int .i64 0, .int .i64 psl, .int .i64 pep, .int .i64 pat, .bool pla, .slice ua pl.length uc]) := fun j x hx => by
                  have e1 := GR.out j x hx
                  rw [Nat.zero_add] at e1 ⊢
                  exact (bY.cell (p := ⟨g, j, none⟩) (Array.getElem?_eq_some_iff.1 GC.out).1).trans e1
                have GC2 : Hid (Y.heap[g]? = some (.cells gcur 54 (0, 0))) := (bY.block _ (Array.getElem?_eq_some_iff.1 GC.out).1).trans GC.out
                have HU2 : Hid (Y.ownsRow w1.heap.size 5 1 (.slice ua pl.length uc) pl.length (cellsOf pl)) := owns_kept HU.out (fun q e => bY.block q (row_kind HU.out e).2.1)
                have HV2 : Hid (Y.ownsRow w2.heap.size 5 1 (.slice va pl.length vc) pl.length (cellsOf pl)) := owns_kept HV.out (fun q e => bY.block q (row_kind HV.out e).2.1)
                have SY : Hid (w1.heap.size ≤ Y.heap.size) := Nat.le_trans S13.out bY.size
                have HBC2 : Hid (Y.heap[B]? = some (.cells #[.int .i64 pg, .int .i64 pk, .int .i64 0, .string ⟨#[]⟩, .string ⟨#[]⟩, .int .i64 0, .string ⟨#[]⟩, .int .i64 0, .int .i64 0, .string ⟨#[]⟩, .string ⟨#[]⟩, .int .i64 0, .int .i64 0, .int .i64 psl, .int .i64 pep, .int .i64 pat, .bool pla, .slice va pl.length vc] 35 (0, 0))) := (bY.block _ (Array.getElem?_eq_some_iff.1 HBC.out).1).trans HBC.out
                obtain ⟨Y1, e1⟩ : ∃ Y1, Y.setRow L #[.int .i64 pg, .int .i64 pk, .int .i64 0, .string ⟨#[]⟩, .string ⟨#[]⟩, .int .i64 0, .string ⟨#[]⟩, .int .i64 0, .int .i64 0, .string ⟨#[]⟩, .string ⟨#[]⟩, .int .i64 0, .int .i64 0, .int .i64 psl, .int .i64 pep, .int .i64 pat, .bool pla, .slice va pl.length vc] = Y1 := ⟨_, rfl⟩
                have lY1 : Y1.heap[L]? = some (.cells #[.int .i64 pg, .int .i64 pk, .int .i64 0, .string ⟨#[]⟩, .string ⟨#[]⟩, .int .i64 0, .string ⟨#[]⟩, .int .i64 0, .int .i64 0, .string ⟨#[]⟩, .string ⟨#[]⟩, .int .i64 0, .int .i64 0, .int .i64 psl, .int .i64 pep, .int .i64 pat, .bool pla, .slice va pl.length vc] 35 (0, 0)) := by rw [← e1]; exact setRow_self PY.out.lc
                have oY1 : OnlyR Y Y1 L := by rw [← e1]; exact (OnlyR.refl Y L).setRow _
                have c17 : Y1.cell? ⟨L, 17, none⟩ = some (.slice va pl.length vc) := by simp only [World.cell?, lY1]; rfl
                have f17 : Y1.frozen? ⟨L, 17, none⟩ = false := by simp [World.frozen?, lY1]
                obtain ⟨Y2, e2⟩ : ∃ Y2, Y1.setCell ⟨L, 17, none⟩ (.slice none 0 0) = Y2 := ⟨_, rfl⟩
                have lY2 : Y2.heap[L]? = some (.cells #[.int .i64 pg, .int .i64 pk, .int .i64 0, .string ⟨#[]⟩, .string ⟨#[]⟩, .int .i64 0, .string ⟨#[]⟩, .int .i64 0, .int .i64 0, .string ⟨#[]⟩, .string ⟨#[]⟩, .int .i64 0, .int .i64 0, .int .i64 psl, .int .i64 pep, .int .i64 pat, .bool pla, .slice none 0 0] 35 (0, 0)) := by
                  rw [← e2, setCell_eq_setRow Y1 L 17 _ _ _ _ lY1]
                  exact setRow_self lY1
                have oY2 : OnlyR Y Y2 L := by rw [← e2]; exact oY1.set 17 _
                have P2' : Hid (PI w (fun g => g < w1.heap.size) Y2 G1 G2 L M' R' (PAsk.mop ⟨pg, pk, psl, pep, pat, pla, pl⟩ none 0 [])) := PY.out.put oY2 lY2 (World.ownsRow_nil _ _ _ _) (by simp [PAsk.mop])
                have lcY := PY.out.lc
                have LCY : Hid _ := lcY
                have E1 : Hid (_ = Y1) := e1
                have E2 : Hid (_ = Y2) := e2
                have HLY2 : Hid _ := lY2
                have OY2 : Hid (OnlyR Y Y2 L) := oY2
                have HU3 : Hid (Y2.ownsRow w1.heap.size 5 1 (.slice ua pl.length uc) pl.length (cellsOf pl)) := oY2.own lcY HU2.out (by decide)
                have SV3 : Hid (Seen Y2 va pl.length pl) := by
                  obtain ⟨va', vc', ev, sv, _, _⟩ := owned_seen (oY2.own lcY HV2.out (by decide)) (by have := HPL.out; unfold maxLen; omega)
                  cases ev
                  exact sv
                have HBC3 : Hid (Y2.heap[B]? = some (.cells #[.int .i64 pg, .int .i64 pk, .int .i64 0, .string ⟨#[]⟩, .string ⟨#[]⟩, .int .i64 0, .string ⟨#[]⟩, .int .i64 0, .int .i64 0, .string ⟨#[]⟩, .string ⟨#[]⟩, .int .i64 0, .int .i64 0, .int .i64 psl, .int .i64 pep, .int .i64 pat, .bool pla, .slice va pl.length vc] 35 (0, 0))) := (oY2.block _ (Array.getElem?_eq_some_iff.1 HBC2.out).1 HBL.out).trans HBC2.out
                have GC3 : Hid (Y2.heap[g]? = some (.cells gcur 54 (0, 0))) := oY2.box lcY GC2.out (by decide)
                clear su sv hun hvn bY e1 e2 lY1 oY1 lY2 oY2 lcY GR HU SV HV HBC P3 HV2 S13
                repeat
                  (fail_if_success (guard_target =~ (Code.region 23 _ _).wp _ _ _ _)
                   first
                    | (refine wpList_load_row rfl 35 (.tmp 80) rfl B rfl 35 #[.int .i64 pg, .int .i64 pk, .int .i64 0, .string ⟨#[]⟩, .string ⟨#[]⟩, .int .i64 0, .string ⟨#[]⟩, .int .i64 0, .int .i64 0, .string ⟨#[]⟩, .string ⟨#[]⟩, .int .i64 0, .int .i64 0, .int .i64 psl, .int .i64 pep, .int .i64 pat, .bool pla, .slice va pl.length vc] (0, 0) _ HBC2.out Try.underlying35 rfl (by kernel_rfl) ?_)
                    | (refine wpList_store_row rfl 35 (.tmp 5) (.tmp 81) rfl L #[.int .i64 pg, .int .i64 pk, .int .i64 0, .string ⟨#[]⟩, .string ⟨#[]⟩, .int .i64 0, .string ⟨#[]⟩, .int .i64 0, .int .i64 0, .string ⟨#[]⟩, .string ⟨#[]⟩, .int .i64 0, .int .i64 0, .int .i64 psl, .int .i64 pep, .int .i64 pat, .bool pla, .slice va pl.length vc] rfl rfl 35 _ LCY.out (by kernel_rfl) rfl (by simp [Value.oneCell']) ?_; rw [show _ = Y1 from E1.out])
                    | go_values | go_skip | go_guarded | go_step | go_upon | go_back)
                try rw [show _ = Y2 from E2.out]
                refine mp_r23 Y2 L B pg pk psl pep pat pla pl va vc _ _ _ _ _ _ _ _ _ _ _ _ _ _ _ _ _ _ _ _ _ _ _ _ _ _ _ _ _ _ _ _ _ _ _ _ _ _ _ _ _ _ _ _ _ _ _ _ _ _ _ _ _ _ _ _ _ _ _ _ _ _ _ _ _ _ _ _ _ _ _ _ _ _ _ _ _ _ _ _ _ _ _ _ _ _ _ _ _ _ _ _ _ _ _ _ _ _ _ _ _ _ _ _ _ _ _ _ _ _ _ _ _ _ _ _ _ _ _ _ _ _ _ _ _ _ _ _ _ _ _ _ _ _ _ _ _ _ _ _ _ _ _ _ _ _ _ _ _ _ _ _ _ _ _ _ _ _ _ _ _ _ _ _ _ _ _ _ _ _ _ _ _ _ _ _ _ _ _ _ _ _ _ _ _ _ _ _ _ _ _ _ _ _ HLY2.out HBC3.out HBL.out SV3.out VN.out HPL.out _ _ ?_
                intro u84 u85 u86 u87 u88 u89 u90 u91 u92 u93 u94 u95 na nc Z oZ lZ hZ
                have PZ : Hid (PI w (fun g => g < w1.heap.size) Z G1 G2 L M' R' (PAsk.mop ⟨pg, pk, psl, pep, pat, pla, pl⟩ na nc pl)) := P2'.out.put oZ lZ (ownsRow_low hZ P2'.out.be.size) HPL.out
                have HUZ : Hid (Z.ownsRow w1.heap.size 5 1 (.slice ua pl.length uc) pl.length (cellsOf pl)) := oZ.own HLY2.out HU3.out (by decide)
                have HLZ : Hid (∀ q, (Value.slice na pl.length nc).ownBlock = some q → Y2.heap.size ≤ q) := fun q e => (row_kind hZ e).1
                have gc4 : Z.heap[g]? = some (.cells gcur 54 (0, 0)) := oZ.box HLY2.out GC3.out (by decide)
                have cg : Z.cell? ⟨g, 17, none⟩ = some (.slice ua pl.length uc) := by
                  have e1 := GR2.out 17 _ rfl
                  simp only [World.cell?] at e1 ⊢
                  rw [gc4]
                  rw [GC2.out] at e1
                  exact e1
                have HSp := spoil_row w1.heap.size (.slice ua pl.length uc) pl.length pl Z HUZ.out (Nat.le_trans SY.out (Nat.le_trans OY2.out.size oZ.size)) (by have := HPL.out; omega)
                clear oZ lZ hZ gc4 P2' HLY2 OY2 SV3 HBC3 GC3 PY GR2 GC2 HU2 HBC2 E1 E2 LCY c17 f17 VN
                go_wp2_with fail
                refine HSp.mono ?_
                rintro e Z' ⟨⟨uu, rfl⟩, hg⟩
                have PN : Hid (PI w (fun _ => True) Z' G1 G2 L M' R' (PAsk.mop ⟨pg, pk, psl, pep, pat, pla, pl⟩ na nc pl)) := ask_spoil PZ.out S12.out.2 HU3.out HUZ.out HLZ.out hg
                clear HSp hg PZ HUZ HLZ HU3 cg
                go_wp2_with fail
                go_roundw
                case rel => exact ⟨1, Nat.le_refl _, rfl, .inr ⟨rfl, _, PN.out⟩⟩
                case measure => simp only [intOf]; omega
              · have PA : Hid (PI w (fun _ => True) wr G1 G2 L M' R' c') := pA
                clear pA hS hj P3 HU HV HBC GR GC
                go_wp2_with fail
                refine mp_r37 w _ (fun _ => True) G1 G2 L M' R' c' _ _ _ _ _ _ _ _ _ _ _ _ _ _ _ _ _ _ _ _ _ _ _ _ _ _ _ _ _ _ _ _ _ _ _ _ _ _ _ _ _ _ _ _ _ _ _ _ _ _ _ _ _ _ _ _ _ _ _ _ _ _ _ _ _ _ _ _ _ _ _ _ _ _ _ _ _ _ _ _ _ _ _ _ _ _ _ _ _ _ _ _ _ _ _ _ _ _ _ _ _ _ _ _ _ _ _ _ _ _ _ _ _ _ _ _ _ _ _ _ _ _ _ _ _ _ _ _ _ _ _ _ _ _ _ _ _ _ _ _ _ _ _ _ _ _ _ _ _ _ _ _ _ _ _ _ _ _ _ _ _ _ _ _ _ _ _ _ _ _ _ _ _ _ _ _ _ _ _ _ _ _ _ _ _ _ _ _ _ _ _ _ _ _ _ PA.out SK.out _ _ ?_
                intro u182 u183 u184 u185 u186 u187 u188 u189 u190 u191 u192 u193 u194 YF bF
                have PF : Hid (PI w (fun _ => True) YF G1 G2 L M' R' c') := PA.out.below bF
                clear bF
                go_wp2_with fail
                go_roundw
                case rel => exact ⟨i + 1, HIN.out, by first | rfl | rw [HWI.out], ⟨_, _, _, PF.out, SK.out⟩⟩
                case measure => have := HIN.out; simp only [intOf]; omega
        have t0 : (act.k == 0) = false := by simp [e0]
        by_cases e1 : act.k = 1
        · have t1 : (act.k == 1) = true := by simp [e1]
          clear e0
          have bA := box_new (X := V9) #[.int .i64 0, .int .i64 0, .int .i64 0, .string ⟨#[]⟩, .string ⟨#[]⟩, .int .i64 0, .string ⟨#[]⟩, .int .i64 0, .int .i64 0, .string ⟨#[]⟩, .string ⟨#[]⟩, .int .i64 0, .int .i64 0, .int .i64 0, .int .i64 0, .int .i64 0, .bool false, .slice none 0 0] 35 act.ask.toArray
          obtain ⟨V11, e11⟩ : ∃ V11, (V9.alloc (.cells #[.int .i64 0, .int .i64 0, .int .i64 0, .string ⟨#[]⟩, .string ⟨#[]⟩, .int .i64 0, .string ⟨#[]⟩, .int .i64 0, .int .i64 0, .string ⟨#[]⟩, .string ⟨#[]⟩, .int .i64 0, .int .i64 0, .int .i64 0, .int .i64 0, .int .i64 0, .bool false, .slice none 0 0] 35)).setRow V9.heap.size act.ask.toArray = V11 := ⟨_, rfl⟩
          rw [e11] at bA
          obtain ⟨b11, q11, q110, _⟩ := bA
          have k011 : V11.cell? ⟨B7, 0, none⟩ = some (.int .i64 act.k) := (mop_box ((b11.block _ (Array.getElem?_eq_some_iff.1 Q7.out).1).trans Q7.out)).1
          have G7A : Hid (V9.rangeAt B7 7 act.ask) := (mop_box Q7.out).2.2.1
          have Q110 : Hid _ := q110
          have E11 : Hid (_ = V11) := e11
          obtain ⟨V12, e12⟩ : ∃ V12, V11 = V12 := ⟨_, rfl⟩
          subst e12
          have b12 := b11
          have q12 := q11
          have P12 : Hid (PI w (fun _ => True) V11 G1 G2 L M R c) := PV.out.below b12
          have Q712 : Hid (V11.heap[B7]? = some (.cells act.cells.toArray 44 (0, 0))) := (b12.block _ (Array.getElem?_eq_some_iff.1 Q7.out).1).trans Q7.out
          have G725 : Hid (V11.rangeAt B7 25 [.int .i64 act.r.why, .bool act.r.wait, .int .i64 act.r.rw, .int .i64 act.r.ra, act.r.rows, .slice act.r.da act.r.l.length act.r.dc]) := (mop_box Q712.out).2.2.2
          have Q12 : Hid (V11.heap[V9.heap.size]? = some (.cells act.ask.toArray 35 (0, 0))) := q12
          have HRs := result_any act.r.why act.r.wait act.r.rw act.r.ra act.r.rows act.r.da act.r.dc act.r.l V11 (AIN.out.res.seen.below (P12.out.be.mono (Nat.le_refl _))) AIN.out.res.nil AIN.out.res.len
          have K18 : Hid ((Try.prog.info? 35).map (·.size) = some act.ask.toArray.size ∧ (#[.int .i64 0, .int .i64 0, .int .i64 0, .string ⟨#[]⟩, .string ⟨#[]⟩, .int .i64 0, .string ⟨#[]⟩, .int .i64 0, .int .i64 0, .string ⟨#[]⟩, .string ⟨#[]⟩, .int .i64 0, .int .i64 0, .int .i64 0, .int .i64 0, .int .i64 0, .bool false, .slice none 0 0] : Array Value).size = act.ask.toArray.size ∧ act.ask.toArray.all (·.oneCell') = true ∧ (Try.prog.info? 35).map (·.size) = some act.ask.length ∧ (Try.prog.info? 35).map (·.size) = some c.ask.toArray.size ∧ act.ask.toArray.size = c.ask.toArray.size ∧ c.ask.toArray.all (·.oneCell') = true) := by
            have e1 : (Try.prog.info? 35).map (·.size) = some 18 := by kernel_rfl
            rw [e1]
            exact ⟨rfl, rfl, by simp [MopV.ask, Value.oneCell'], rfl, rfl, rfl, by simp [MopV.ask, Value.oneCell']⟩
          have gt1 : ¬ (1 : Int) < act.k := by omega
          clear q110 q11 q12 b12 e11 b11 e1 Q7 PV
          go_wp2_with (first
            | (refine wpList_load_mid rfl 35 (.tmp 107) rfl B7 7 rfl act.ask _ G7A.out Try.underlying35 rfl K18.out.2.2.2.1 ?_)
            | (refine wpList_store_row rfl 35 (.tmp 11) (.tmp 108) rfl V9.heap.size act.ask.toArray rfl rfl 35 _ Q110.out K18.out.1 K18.out.2.1 K18.out.2.2.1 ?_; rw [show _ = V11 from E11.out])
            | (refine wpList_load_mid rfl 42 (.tmp 113) rfl B7 25 rfl [.int .i64 act.r.why, .bool act.r.wait, .int .i64 act.r.rw, .int .i64 act.r.ra, act.r.rows, .slice act.r.da act.r.l.length act.r.dc] _ G725.out Try.underlying42 rfl (by kernel_rfl) ?_))
          refine HRs.mono ?_
          rintro e x4 ⟨oa, oc, rfl, ho4, b4⟩
          dsimp only
          generalize hB11 : V9.heap.size = B11 at Q12 ⊢
          clear k0 k011 hB11 E11 Q110 G7A HRs K18 gt1 t0 t1 G725
          have P4 : Hid (PI w (fun g => (Value.slice oa act.r.l.length oc).ownBlock ≠ some g) x4 G1 G2 L M R c) := (P12.out.sub (fun g hg _ e => by have := (row_kind ho4 e).1; omega)).below b4
          have bB := box_new (X := x4) #[.int .i64 0, .bool false, .int .i64 0, .int .i64 0, .slice none 0 0, .slice none 0 0] 57 #[.int .i64 act.r.why, .bool act.r.wait, .int .i64 0, .int .i64 0, .slice none 0 0, .slice oa act.r.l.length oc]
          obtain ⟨V14, e14⟩ : ∃ V14, (x4.alloc (.cells #[.int .i64 0, .bool false, .int .i64 0, .int .i64 0, .slice none 0 0, .slice none 0 0] 57)).setRow x4.heap.size #[.int .i64 act.r.why, .bool act.r.wait, .int .i64 0, .int .i64 0, .slice none 0 0, .slice oa act.r.l.length oc] = V14 := ⟨_, rfl⟩
          rw [e14] at bB
          obtain ⟨b14, q14, q140, l14⟩ := bB
          have Q140 : Hid _ := q140
          have Q14 : Hid (V14.heap[x4.heap.size]? = some (.cells #[.int .i64 act.r.why, .bool act.r.wait, .int .i64 0, .int .i64 0, .slice none 0 0, .slice oa act.r.l.length oc] 57 (0, 0))) := q14
          have E14 : Hid (_ = V14) := e14
          have P14 : Hid (PI w (fun g => (Value.slice oa act.r.l.length oc).ownBlock ≠ some g) V14 G1 G2 L M R c) := P4.out.below b14
          have O14 : Hid (V14.ownsRow V11.heap.size 5 1 (.slice oa act.r.l.length oc) act.r.l.length (cellsOf act.r.l)) := owns_kept ho4 (fun q e => b14.block q (row_kind ho4 e).2.1)
          have Q714 : Hid (V14.heap[B7]? = some (.cells act.cells.toArray 44 (0, 0))) := by
            have e1 := (b4.block _ (Array.getElem?_eq_some_iff.1 Q712.out).1).trans Q712.out
            exact (b14.block _ (Array.getElem?_eq_some_iff.1 e1).1).trans e1
          have Q114 : Hid (V14.heap[B11]? = some (.cells act.ask.toArray 35 (0, 0))) := by
            have e1 := (b4.block _ (Array.getElem?_eq_some_iff.1 Q12.out).1).trans Q12.out
            exact (b14.block _ (Array.getElem?_eq_some_iff.1 e1).1).trans e1
          have HDD : Hid (∀ g, V14.heap.size ≤ g → (Value.slice oa act.r.l.length oc).ownBlock ≠ some g) := fun g hg e => by have := (row_kind O14.out e).2.1; omega
          have AI14 : Hid (act.AskIn V14) := AIN.out.askIn.below (P14.out.be.mono (Nat.le_refl _))
          have RI14 : Hid (ResIn V14 ⟨act.r.why, act.r.wait, 0, 0, .slice none 0 0, oa, oc, act.r.l⟩) := by
            obtain ⟨a', c', e1, s1, n1, _⟩ := owned_seen O14.out (by have := AIN.out.res.len; unfold maxLen; omega)
            cases e1
            exact ⟨s1, n1, AIN.out.res.len⟩
          have HWL : Hid (w.heap.size ≤ V11.heap.size ∧ ∀ g, (Value.slice c.da c.dl.length c.dc).ownBlock = some g → g < V11.heap.size) := ⟨P12.out.be.size, P12.out.own_lt⟩
          have HV14 : Hid (V11.heap.size ≤ V14.heap.size) := Nat.le_trans b4.size b14.size
          clear b14 q14 q140 l14 e14 ho4 b4 Q712 Q12 P12 P4
          repeat
            (fail_if_success (guard_target =~ (Code.region 32 _ _).wp _ _ _ _)
             first
              | (refine wpList_store_row rfl 57 (.tmp 12) (.tmp 115) rfl x4.heap.size #[.int .i64 act.r.why, .bool act.r.wait, .int .i64 0, .int .i64 0, .slice none 0 0, .slice oa act.r.l.length oc] rfl rfl 57 _ Q140.out (by kernel_rfl) rfl (by simp [Value.oneCell']) ?_; rw [show _ = V14 from E14.out])
              | go_values | go_skip | go_guarded | go_step | go_upon | go_back)
          generalize hB12 : x4.heap.size = B12 at Q14 ⊢
          clear hB12 Q140 E14
          obtain ⟨TMx, hTM⟩ : ∃ TMx, toldM M act.x act.q act.r = TMx := ⟨_, rfl⟩
          have HTR := Sim.told SM.out act.x act.q act.r
          rw [hTM] at HTR
          obtain ⟨TRx, hTR⟩ : ∃ TRx, toldR R act.x act.q act.r = TRx := ⟨_, rfl⟩
          rw [hTR] at HTR
          have ST : Hid (Sim TMx.1 TRx.1 ∧ TMx.2 = TRx.2) := HTR
          have HTRx : Hid (toldR R act.x act.q act.r = TRx) := hTR
          have q7 : B7 < V14.heap.size ∧ B7 ≠ G1 := ⟨(Array.getElem?_eq_some_iff.1 Q714.out).1, by obtain ⟨_, e1⟩ := P14.out.g1; exact cells_ne Q714.out e1 (by decide)⟩
          clear HTR hTR SM
          refine mp_r32 w V14 (fun g => (Value.slice oa act.r.l.length oc).ownBlock ≠ some g) G1 G2 L B7 B11 B12 M R c act act.x act.r.why act.r.wait oa oc act.r.l TMx _ _ _ _ _ _ _ _ _ _ _ _ _ _ _ _ _ _ _ _ _ _ _ _ _ _ _ _ _ _ _ _ _ _ _ _ _ _ _ _ _ _ _ _ _ _ _ _ _ _ _ _ _ _ _ _ _ _ _ _ _ _ _ _ _ _ _ _ _ _ _ _ _ _ _ _ _ _ _ _ _ _ _ _ _ _ _ _ _ _ _ _ _ _ _ _ _ _ _ _ _ _ _ _ _ _ _ _ _ _ _ _ _ _ _ _ _ _ _ _ _ _ _ _ _ _ _ _ _ _ _ _ _ _ _ _ _ _ _ _ _ _ _ _ _ _ _ _ _ _ _ _ _ _ _ _ _ _ _ _ _ _ _ _ _ _ _ _ _ _ _ _ _ _ _ _ _ _ _ _ _ _ _ _ _ _ _ _ _ _ _ _ _ P14.out HDD.out (mop_box Q714.out).2.1 Q114.out Q14.out q7 AI14.out RI14.out ((told_res M act.x act.q oa oc act.r).trans hTM) _ _ ?_
          clear hTM q7
          intro u116 u117 u118 u119 u120 u121 u122 u123 u124 u125 u126 u127 u128 u129 u130 Bc Y mY oY qY lY
          obtain ⟨gc1, hg1⟩ := P14.out.g1
          have PY : Hid (PI w (fun g => (Value.slice oa act.r.l.length oc).ownBlock ≠ some g) Y G1 G2 L TMx.1 R c) := P14.out.m1 oY mY
          have Q7Y : Hid (Y.heap[B7]? = some (.cells act.cells.toArray 44 (0, 0))) := oY.box hg1 Q714.out (by decide)
          have Q11Y : Hid (Y.heap[B11]? = some (.cells act.ask.toArray 35 (0, 0))) := oY.box hg1 Q114.out (by decide)
          have Q12Y : Hid (Y.heap[B12]? = some (.cells #[.int .i64 act.r.why, .bool act.r.wait, .int .i64 0, .int .i64 0, .slice none 0 0, .slice oa act.r.l.length oc] 57 (0, 0))) := oY.box hg1 Q14.out (by decide)
          have OWY : Hid (Y.ownsRow V11.heap.size 5 1 (.slice oa act.r.l.length oc) act.r.l.length (cellsOf act.r.l)) := oY.own hg1 O14.out (by decide)
          have HVY : Hid (V11.heap.size ≤ Y.heap.size) := Nat.le_trans HV14.out oY.size
          have HDY : Bs.ok ⟨w.heap.size, fun g => (Value.slice oa act.r.l.length oc).ownBlock ≠ some g⟩ Y.heap.size := ⟨PY.out.be.size, fun g hg => HDD.out g (Nat.le_trans oY.size hg)⟩
          have AIY : act.AskIn Y := AIN.out.askIn.below (PY.out.be.mono (Nat.le_refl _))
          have HRt := rtold_any PY.out.r HDY act.x act.ask act.q AIY.askC act.ask_one act.r (AIN.out.res.below (PY.out.be.mono (Nat.le_refl _)))
          rw [HTRx.out] at HRt
          have GM : Hid (Y.rangeAt B7 1 [.int .i64 act.x.slot, .int .i64 act.x.fr, .int .i64 act.x.to, .int .i64 act.x.ep, .int .i64 act.x.ph, .int .i64 act.x.n]) := (mop_box Q7Y.out).2.1
          have GR : Hid (Y.rangeAt B7 25 [.int .i64 act.r.why, .bool act.r.wait, .int .i64 act.r.rw, .int .i64 act.r.ra, act.r.rows, .slice act.r.da act.r.l.length act.r.dc]) := (mop_box Q7Y.out).2.2.2
          have QCY : Hid (Y.heap[Bc]? = some (.cells (toldC TMx.2 act.x) 60 (0, 0))) := qY
          have K18 : Hid ((Try.prog.info? 35).map (·.size) = some act.ask.toArray.size) := by
            have e1 : (Try.prog.info? 35).map (·.size) = some 18 := by kernel_rfl
            show _ = _
            rw [e1]
            rfl
          clear mY oY qY lY hg1 HDY AIY P14 Q714 Q114 Q14 O14 HDD AI14 RI14 HTRx Q7Y
          go_wp2_with (first
            | (refine wpList_load_mid rfl 37 (.tmp 133) rfl B7 1 rfl [.int .i64 act.x.slot, .int .i64 act.x.fr, .int .i64 act.x.to, .int .i64 act.x.ep, .int .i64 act.x.ph, .int .i64 act.x.n] _ GM.out Try.underlying37 rfl (by kernel_rfl) ?_)
            | (refine wpList_load_row rfl 35 (.tmp 11) rfl B11 rfl 35 act.ask.toArray (0, 0) _ Q11Y.out Try.underlying35 rfl K18.out ?_)
            | (refine wpList_load_mid rfl 42 (.tmp 136) rfl B7 25 rfl [.int .i64 act.r.why, .bool act.r.wait, .int .i64 act.r.rw, .int .i64 act.r.ra, act.r.rows, .slice act.r.da act.r.l.length act.r.dc] _ GR.out Try.underlying42 rfl (by kernel_rfl) ?_))
          refine HRt.mono ?_
          rintro e Y2 ⟨rfl, rY, o2⟩
          obtain ⟨gc2, hg2⟩ := PY.out.g2
          have P2 : Hid (PI w (fun g => (Value.slice oa act.r.l.length oc).ownBlock ≠ some g) Y2 G1 G2 L TMx.1 TRx.1 c) := PY.out.r1 o2 rY
          have Q122 : Hid (Y2.heap[B12]? = some (.cells #[.int .i64 act.r.why, .bool act.r.wait, .int .i64 0, .int .i64 0, .slice none 0 0, .slice oa act.r.l.length oc] 57 (0, 0))) := o2.box hg2 Q12Y.out (by decide)
          have QC2 : Hid (Y2.heap[Bc]? = some (.cells (toldC TMx.2 act.x) 60 (0, 0))) := o2.box hg2 QCY.out (by decide)
          have OW2 : Hid (Y2.ownsRow V11.heap.size 5 1 (.slice oa act.r.l.length oc) act.r.l.length (cellsOf act.r.l)) := o2.own hg2 OWY.out (by decide)
          have S2 : Hid (Sim TMx.1 TRx.1) := ST.out.1
          have HVS : Hid (V11.heap.size ≤ Y2.heap.size) := Nat.le_trans HVY.out o2.size
          have n1 : (act.x.n != act.x.n) = false := by simp
          have n2 : (act.x.ph != act.x.ph) = false := by simp
          clear HRt rY o2 hg2 PY Q11Y Q12Y OWY GM GR QCY K18
          have ST2 := ST.out.2
          clear ST
          obtain ⟨TM1, tm2⟩ := TMx
          obtain ⟨TR1, tr2⟩ := TRx
          dsimp only at ST2 P2 QC2 S2 ⊢
          subst ST2
          cases tm2 with
          | false =>
            have qc : Y2.heap[Bc]? = some (.cells #[.int .i64 0, .int .i64 0, .int .i64 0, .int .i64 0, .int .i64 0] 60 (0, 0)) := QC2.out
            dsimp only [toldV]
            have bC : Below Y2.heap.size Y2 (Y2.alloc (.cells #[.int .i64 0, .int .i64 0, .int .i64 0, .int .i64 0, .int .i64 0] 64)) := (Below.refl _ Y2).alloc (Nat.le_refl _) _
            have q15 := heap_alloc_new Y2 (.cells #[.int .i64 0, .int .i64 0, .int .i64 0, .int .i64 0, .int .i64 0] 64)
            obtain ⟨Y3, e3⟩ : ∃ Y3, Y2.alloc (.cells #[.int .i64 0, .int .i64 0, .int .i64 0, .int .i64 0, .int .i64 0] 64) = Y3 := ⟨_, rfl⟩
            rw [e3] at bC q15
            have P3 : Hid (PI w (fun g => (Value.slice oa act.r.l.length oc).ownBlock ≠ some g) Y3 G1 G2 L TM1 TR1 c) := P2.out.below bC
            have Q123 := (bC.block _ (Array.getElem?_eq_some_iff.1 Q122.out).1).trans Q122.out
            have QC3 : Hid (Y3.heap[Bc]? = some (.cells #[.int .i64 0, .int .i64 0, .int .i64 0, .int .i64 0, .int .i64 0] 60 (0, 0))) := (bC.block _ (Array.getElem?_eq_some_iff.1 qc).1).trans qc
            have OW3 : Hid (Y3.ownsRow V11.heap.size 5 1 (.slice oa act.r.l.length oc) act.r.l.length (cellsOf act.r.l)) := owns_kept OW2.out (fun q e => bC.block q (row_kind OW2.out e).2.1)
            have c5 : Y3.cell? ⟨B12, 5, none⟩ = some (.slice oa act.r.l.length oc) := by simp only [World.cell?, Q123]; rfl
            have HSp := spoil_row V11.heap.size (.slice oa act.r.l.length oc) act.r.l.length act.r.l Y3 OW3.out (Nat.le_trans HVS.out bC.size) (by have := AIN.out.res.len; omega)
            have Q15 : Hid (Y3.heap[Y2.heap.size]? = some (.cells #[.int .i64 0, .int .i64 0, .int .i64 0, .int .i64 0, .int .i64 0] 64 (0, 0))) := q15
            have E3 : Hid (_ = Y3) := e3
            clear bC q15 e3 Q123 qc QC2 Q122 OW2 P2
            repeat
              (fail_if_success (guard_target =~ (Code.region 34 _ _).wp _ _ _ _)
               first | go_values | go_skip | go_guarded | go_step | go_upon | go_back)
            rw [show _ = Y3 from E3.out]
            clear E3
            go_wp2_with fail
            generalize hB15 : Y2.heap.size = B15 at Q15 ⊢
            clear hB15
            refine HSp.mono ?_
            rintro e Y4 ⟨⟨uu, rfl⟩, hg⟩
            have hrw : ∀ g, (Value.slice oa act.r.l.length oc).ownBlock = some g → ∃ cur, Y3.heap[g]? = some (.cells cur 5 (0, 0)) := fun g e => (row_kind OW3.out e).2.2
            have qc4 := grown_box hg hrw QC3.out (by decide)
            have q154 := grown_box hg hrw Q15.out (by decide)
            have P4 : Hid (PI w (fun _ => True) Y4 G1 G2 L TM1 TR1 c) := told_spoil P3.out HWL.out.1 OW3.out HWL.out.2 hg
            have d0 : Y4.cell? ⟨Bc, 0, none⟩ = some (.int .i64 0) := by simp only [World.cell?, qc4]; rfl
            have f0 : Y4.cell? ⟨B15, 0, none⟩ = some (.int .i64 0) := by simp only [World.cell?, q154]; rfl
            have d1 : Y4.cell? ⟨Bc, 1, none⟩ = some (.int .i64 0) := by simp only [World.cell?, qc4]; rfl
            have f1 : Y4.cell? ⟨B15, 1, none⟩ = some (.int .i64 0) := by simp only [World.cell?, q154]; rfl
            have d2 : Y4.cell? ⟨Bc, 2, none⟩ = some (.int .i64 0) := by simp only [World.cell?, qc4]; rfl
            have f2 : Y4.cell? ⟨B15, 2, none⟩ = some (.int .i64 0) := by simp only [World.cell?, q154]; rfl
            have d3 : Y4.cell? ⟨Bc, 3, none⟩ = some (.int .i64 0) := by simp only [World.cell?, qc4]; rfl
            have f3 : Y4.cell? ⟨B15, 3, none⟩ = some (.int .i64 0) := by simp only [World.cell?, q154]; rfl
            have d4 : Y4.cell? ⟨Bc, 4, none⟩ = some (.int .i64 0) := by simp only [World.cell?, qc4]; rfl
            have f4 : Y4.cell? ⟨B15, 4, none⟩ = some (.int .i64 0) := by simp only [World.cell?, q154]; rfl
            clear HSp hg hrw qc4 q154 P3 QC3 Q15 OW3 c5
            go_wp2_with fail
            refine mp_r37 w Y4 (fun _ => True) G1 G2 L TM1 TR1 c _ _ _ _ _ _ _ _ _ _ _ _ _ _ _ _ _ _ _ _ _ _ _ _ _ _ _ _ _ _ _ _ _ _ _ _ _ _ _ _ _ _ _ _ _ _ _ _ _ _ _ _ _ _ _ _ _ _ _ _ _ _ _ _ _ _ _ _ _ _ _ _ _ _ _ _ _ _ _ _ _ _ _ _ _ _ _ _ _ _ _ _ _ _ _ _ _ _ _ _ _ _ _ _ _ _ _ _ _ _ _ _ _ _ _ _ _ _ _ _ _ _ _ _ _ _ _ _ _ _ _ _ _ _ _ _ _ _ _ _ _ _ _ _ _ _ _ _ _ _ _ _ _ _ _ _ _ _ _ _ _ _ _ _ _ _ _ _ _ _ _ _ _ _ _ _ _ _ _ _ _ _ _ _ _ _ _ _ _ _ _ _ _ _ _ P4.out S2.out _ _ ?_
            intro u182 u183 u184 u185 u186 u187 u188 u189 u190 u191 u192 u193 u194 YF bF
            have PF : Hid (PI w (fun _ => True) YF G1 G2 L TM1 TR1 c) := P4.out.below bF
            clear bF
            go_wp2_with fail
            go_roundw
            case rel => exact ⟨i + 1, HIN.out, by first | rfl | rw [HWI.out], ⟨_, _, _, PF.out, S2.out⟩⟩
            case measure => have := HIN.out; simp only [intOf]; omega
          | true =>
            have qc : Y2.heap[Bc]? = some (.cells #[.int .i64 2, .int .i64 0, .int .i64 0, .int .i64 act.x.n, .int .i64 act.x.ph] 60 (0, 0)) := QC2.out
            dsimp only [toldV]
            have bC : Below Y2.heap.size Y2 (Y2.alloc (.cells #[.int .i64 2, .int .i64 0, .int .i64 0, .int .i64 act.x.n, .int .i64 act.x.ph] 64)) := (Below.refl _ Y2).alloc (Nat.le_refl _) _
            have q15 := heap_alloc_new Y2 (.cells #[.int .i64 2, .int .i64 0, .int .i64 0, .int .i64 act.x.n, .int .i64 act.x.ph] 64)
            obtain ⟨Y3, e3⟩ : ∃ Y3, Y2.alloc (.cells #[.int .i64 2, .int .i64 0, .int .i64 0, .int .i64 act.x.n, .int .i64 act.x.ph] 64) = Y3 := ⟨_, rfl⟩
            rw [e3] at bC q15
            have P3 : Hid (PI w (fun g => (Value.slice oa act.r.l.length oc).ownBlock ≠ some g) Y3 G1 G2 L TM1 TR1 c) := P2.out.below bC
            have Q123 := (bC.block _ (Array.getElem?_eq_some_iff.1 Q122.out).1).trans Q122.out
            have QC3 : Hid (Y3.heap[Bc]? = some (.cells #[.int .i64 2, .int .i64 0, .int .i64 0, .int .i64 act.x.n, .int .i64 act.x.ph] 60 (0, 0))) := (bC.block _ (Array.getElem?_eq_some_iff.1 qc).1).trans qc
            have OW3 : Hid (Y3.ownsRow V11.heap.size 5 1 (.slice oa act.r.l.length oc) act.r.l.length (cellsOf act.r.l)) := owns_kept OW2.out (fun q e => bC.block q (row_kind OW2.out e).2.1)
            have c5 : Y3.cell? ⟨B12, 5, none⟩ = some (.slice oa act.r.l.length oc) := by simp only [World.cell?, Q123]; rfl
            have HSp := spoil_row V11.heap.size (.slice oa act.r.l.length oc) act.r.l.length act.r.l Y3 OW3.out (Nat.le_trans HVS.out bC.size) (by have := AIN.out.res.len; omega)
            have Q15 : Hid (Y3.heap[Y2.heap.size]? = some (.cells #[.int .i64 2, .int .i64 0, .int .i64 0, .int .i64 act.x.n, .int .i64 act.x.ph] 64 (0, 0))) := q15
            have E3 : Hid (_ = Y3) := e3
            clear bC q15 e3 Q123 qc QC2 Q122 OW2 P2
            repeat
              (fail_if_success (guard_target =~ (Code.region 34 _ _).wp _ _ _ _)
               first | go_values | go_skip | go_guarded | go_step | go_upon | go_back)
            rw [show _ = Y3 from E3.out]
            clear E3
            go_wp2_with fail
            generalize hB15 : Y2.heap.size = B15 at Q15 ⊢
            clear hB15
            refine HSp.mono ?_
            rintro e Y4 ⟨⟨uu, rfl⟩, hg⟩
            have hrw : ∀ g, (Value.slice oa act.r.l.length oc).ownBlock = some g → ∃ cur, Y3.heap[g]? = some (.cells cur 5 (0, 0)) := fun g e => (row_kind OW3.out e).2.2
            have qc4 := grown_box hg hrw QC3.out (by decide)
            have q154 := grown_box hg hrw Q15.out (by decide)
            have P4 : Hid (PI w (fun _ => True) Y4 G1 G2 L TM1 TR1 c) := told_spoil P3.out HWL.out.1 OW3.out HWL.out.2 hg
            have d0 : Y4.cell? ⟨Bc, 0, none⟩ = some (.int .i64 2) := by simp only [World.cell?, qc4]; rfl
            have f0 : Y4.cell? ⟨B15, 0, none⟩ = some (.int .i64 2) := by simp only [World.cell?, q154]; rfl
            have d1 : Y4.cell? ⟨Bc, 1, none⟩ = some (.int .i64 0) := by simp only [World.cell?, qc4]; rfl
            have f1 : Y4.cell? ⟨B15, 1, none⟩ = some (.int .i64 0) := by simp only [World.cell?, q154]; rfl
            have d2 : Y4.cell? ⟨Bc, 2, none⟩ = some (.int .i64 0) := by simp only [World.cell?, qc4]; rfl
            have f2 : Y4.cell? ⟨B15, 2, none⟩ = some (.int .i64 0) := by simp only [World.cell?, q154]; rfl
            have d3 : Y4.cell? ⟨Bc, 3, none⟩ = some (.int .i64 act.x.n) := by simp only [World.cell?, qc4]; rfl
            have f3 : Y4.cell? ⟨B15, 3, none⟩ = some (.int .i64 act.x.n) := by simp only [World.cell?, q154]; rfl
            have d4 : Y4.cell? ⟨Bc, 4, none⟩ = some (.int .i64 act.x.ph) := by simp only [World.cell?, qc4]; rfl
            have f4 : Y4.cell? ⟨B15, 4, none⟩ = some (.int .i64 act.x.ph) := by simp only [World.cell?, q154]; rfl
            clear HSp hg hrw qc4 q154 P3 QC3 Q15 OW3 c5
            go_wp2_with fail
            refine mp_r37 w Y4 (fun _ => True) G1 G2 L TM1 TR1 c _ _ _ _ _ _ _ _ _ _ _ _ _ _ _ _ _ _ _ _ _ _ _ _ _ _ _ _ _ _ _ _ _ _ _ _ _ _ _ _ _ _ _ _ _ _ _ _ _ _ _ _ _ _ _ _ _ _ _ _ _ _ _ _ _ _ _ _ _ _ _ _ _ _ _ _ _ _ _ _ _ _ _ _ _ _ _ _ _ _ _ _ _ _ _ _ _ _ _ _ _ _ _ _ _ _ _ _ _ _ _ _ _ _ _ _ _ _ _ _ _ _ _ _ _ _ _ _ _ _ _ _ _ _ _ _ _ _ _ _ _ _ _ _ _ _ _ _ _ _ _ _ _ _ _ _ _ _ _ _ _ _ _ _ _ _ _ _ _ _ _ _ _ _ _ _ _ _ _ _ _ _ _ _ _ _ _ _ _ _ _ _ _ _ _ P4.out S2.out _ _ ?_
            intro u182 u183 u184 u185 u186 u187 u188 u189 u190 u191 u192 u193 u194 YF bF
            have PF : Hid (PI w (fun _ => True) YF G1 G2 L TM1 TR1 c) := P4.out.below bF
            clear bF
            go_wp2_with fail
            go_roundw
            case rel => exact ⟨i + 1, HIN.out, by first | rfl | rw [HWI.out], ⟨_, _, _, PF.out, S2.out⟩⟩
            case measure => have := HIN.out; simp only [intOf]; omega
        have t1 : (act.k == 1) = false := by simp [e1]
        by_cases e2 : act.k = 2
        · have t2 : (act.k == 2) = true := by simp [e2]
          clear e0
          have bA := box_new (X := V9) #[.int .i64 0, .int .i64 0, .int .i64 0, .string ⟨#[]⟩, .string ⟨#[]⟩, .int .i64 0, .string ⟨#[]⟩, .int .i64 0, .int .i64 0, .string ⟨#[]⟩, .string ⟨#[]⟩, .int .i64 0, .int .i64 0, .int .i64 0, .int .i64 0, .int .i64 0, .bool false, .slice none 0 0] 35 act.ask.toArray
          obtain ⟨V11, e11⟩ : ∃ V11, (V9.alloc (.cells #[.int .i64 0, .int .i64 0, .int .i64 0, .string ⟨#[]⟩, .string ⟨#[]⟩, .int .i64 0, .string ⟨#[]⟩, .int .i64 0, .int .i64 0, .string ⟨#[]⟩, .string ⟨#[]⟩, .int .i64 0, .int .i64 0, .int .i64 0, .int .i64 0, .int .i64 0, .bool false, .slice none 0 0] 35)).setRow V9.heap.size act.ask.toArray = V11 := ⟨_, rfl⟩
          rw [e11] at bA
          obtain ⟨b11, q11, q110, _⟩ := bA
          have k011 : V11.cell? ⟨B7, 0, none⟩ = some (.int .i64 act.k) := (mop_box ((b11.block _ (Array.getElem?_eq_some_iff.1 Q7.out).1).trans Q7.out)).1
          have G7A : Hid (V9.rangeAt B7 7 act.ask) := (mop_box Q7.out).2.2.1
          have Q110 : Hid _ := q110
          have E11 : Hid (_ = V11) := e11
          have lc11 : V11.heap[L]? = some (.cells c.ask.toArray 35 (0, 0)) := (b11.block _ (Array.getElem?_eq_some_iff.1 PV.out.lc).1).trans PV.out.lc
          have LC11 : Hid _ := lc11
          have Q11 : Hid _ := q11
          obtain ⟨V12, e12⟩ : ∃ V12, V11.setRow V9.heap.size c.ask.toArray = V12 := ⟨_, rfl⟩
          have E12 : Hid (_ = V12) := e12
          have b12 : Below V9.heap.size V9 V12 := by rw [← e12]; exact below_row b11 (Nat.le_refl _) _
          have q12 : V12.heap[V9.heap.size]? = some (.cells c.ask.toArray 35 (0, 0)) := by rw [← e12]; exact setRow_self q11
          clear e12 lc11
          have P12 : Hid (PI w (fun _ => True) V12 G1 G2 L M R c) := PV.out.below b12
          have Q712 : Hid (V12.heap[B7]? = some (.cells act.cells.toArray 44 (0, 0))) := (b12.block _ (Array.getElem?_eq_some_iff.1 Q7.out).1).trans Q7.out
          have G725 : Hid (V12.rangeAt B7 25 [.int .i64 act.r.why, .bool act.r.wait, .int .i64 act.r.rw, .int .i64 act.r.ra, act.r.rows, .slice act.r.da act.r.l.length act.r.dc]) := (mop_box Q712.out).2.2.2
          have Q12 : Hid (V12.heap[V9.heap.size]? = some (.cells c.ask.toArray 35 (0, 0))) := q12
          have HRs := result_any act.r.why act.r.wait act.r.rw act.r.ra act.r.rows act.r.da act.r.dc act.r.l V12 (AIN.out.res.seen.below (P12.out.be.mono (Nat.le_refl _))) AIN.out.res.nil AIN.out.res.len
          have K18 : Hid ((Try.prog.info? 35).map (·.size) = some act.ask.toArray.size ∧ (#[.int .i64 0, .int .i64 0, .int .i64 0, .string ⟨#[]⟩, .string ⟨#[]⟩, .int .i64 0, .string ⟨#[]⟩, .int .i64 0, .int .i64 0, .string ⟨#[]⟩, .string ⟨#[]⟩, .int .i64 0, .int .i64 0, .int .i64 0, .int .i64 0, .int .i64 0, .bool false, .slice none 0 0] : Array Value).size = act.ask.toArray.size ∧ act.ask.toArray.all (·.oneCell') = true ∧ (Try.prog.info? 35).map (·.size) = some act.ask.length ∧ (Try.prog.info? 35).map (·.size) = some c.ask.toArray.size ∧ act.ask.toArray.size = c.ask.toArray.size ∧ c.ask.toArray.all (·.oneCell') = true) := by
            have e1 : (Try.prog.info? 35).map (·.size) = some 18 := by kernel_rfl
            rw [e1]
            exact ⟨rfl, rfl, by simp [MopV.ask, Value.oneCell'], rfl, rfl, rfl, by simp [MopV.ask, Value.oneCell']⟩
          have gt1 : (1 : Int) < act.k := by omega
          clear q110 q11 q12 b12 e11 b11 e2 Q7 PV
          go_wp2_with (first
            | (refine wpList_load_mid rfl 35 (.tmp 107) rfl B7 7 rfl act.ask _ G7A.out Try.underlying35 rfl K18.out.2.2.2.1 ?_)
            | (refine wpList_store_row rfl 35 (.tmp 11) (.tmp 108) rfl V9.heap.size act.ask.toArray rfl rfl 35 _ Q110.out K18.out.1 K18.out.2.1 K18.out.2.2.1 ?_; rw [show _ = V11 from E11.out])
            | (refine wpList_load_row rfl 35 (.tmp 5) rfl L rfl 35 c.ask.toArray (0, 0) _ LC11.out Try.underlying35 rfl K18.out.2.2.2.2.1 ?_)
            | (refine wpList_store_row rfl 35 (.tmp 11) (.tmp 112) rfl V9.heap.size c.ask.toArray rfl rfl 35 _ Q11.out K18.out.2.2.2.2.1 K18.out.2.2.2.2.2.1 K18.out.2.2.2.2.2.2 ?_; rw [show _ = V12 from E12.out])
            | (refine wpList_load_mid rfl 42 (.tmp 113) rfl B7 25 rfl [.int .i64 act.r.why, .bool act.r.wait, .int .i64 act.r.rw, .int .i64 act.r.ra, act.r.rows, .slice act.r.da act.r.l.length act.r.dc] _ G725.out Try.underlying42 rfl (by kernel_rfl) ?_))
          refine HRs.mono ?_
          rintro e x4 ⟨oa, oc, rfl, ho4, b4⟩
          dsimp only
          generalize hB11 : V9.heap.size = B11 at Q12 ⊢
          clear k0 k011 hB11 E11 Q110 G7A HRs K18 gt1 t0 t1 t2 LC11 Q11 E12 G725
          have P4 : Hid (PI w (fun g => (Value.slice oa act.r.l.length oc).ownBlock ≠ some g) x4 G1 G2 L M R c) := (P12.out.sub (fun g hg _ e => by have := (row_kind ho4 e).1; omega)).below b4
          have bB := box_new (X := x4) #[.int .i64 0, .bool false, .int .i64 0, .int .i64 0, .slice none 0 0, .slice none 0 0] 57 #[.int .i64 act.r.why, .bool act.r.wait, .int .i64 0, .int .i64 0, .slice none 0 0, .slice oa act.r.l.length oc]
          obtain ⟨V14, e14⟩ : ∃ V14, (x4.alloc (.cells #[.int .i64 0, .bool false, .int .i64 0, .int .i64 0, .slice none 0 0, .slice none 0 0] 57)).setRow x4.heap.size #[.int .i64 act.r.why, .bool act.r.wait, .int .i64 0, .int .i64 0, .slice none 0 0, .slice oa act.r.l.length oc] = V14 := ⟨_, rfl⟩
          rw [e14] at bB
          obtain ⟨b14, q14, q140, l14⟩ := bB
          have Q140 : Hid _ := q140
          have Q14 : Hid (V14.heap[x4.heap.size]? = some (.cells #[.int .i64 act.r.why, .bool act.r.wait, .int .i64 0, .int .i64 0, .slice none 0 0, .slice oa act.r.l.length oc] 57 (0, 0))) := q14
          have E14 : Hid (_ = V14) := e14
          have P14 : Hid (PI w (fun g => (Value.slice oa act.r.l.length oc).ownBlock ≠ some g) V14 G1 G2 L M R c) := P4.out.below b14
          have O14 : Hid (V14.ownsRow V12.heap.size 5 1 (.slice oa act.r.l.length oc) act.r.l.length (cellsOf act.r.l)) := owns_kept ho4 (fun q e => b14.block q (row_kind ho4 e).2.1)
          have Q714 : Hid (V14.heap[B7]? = some (.cells act.cells.toArray 44 (0, 0))) := by
            have e1 := (b4.block _ (Array.getElem?_eq_some_iff.1 Q712.out).1).trans Q712.out
            exact (b14.block _ (Array.getElem?_eq_some_iff.1 e1).1).trans e1
          have Q114 : Hid (V14.heap[B11]? = some (.cells c.ask.toArray 35 (0, 0))) := by
            have e1 := (b4.block _ (Array.getElem?_eq_some_iff.1 Q12.out).1).trans Q12.out
            exact (b14.block _ (Array.getElem?_eq_some_iff.1 e1).1).trans e1
          have HDD : Hid (∀ g, V14.heap.size ≤ g → (Value.slice oa act.r.l.length oc).ownBlock ≠ some g) := fun g hg e => by have := (row_kind O14.out e).2.1; omega
          have AI14 : Hid (c.AskIn V14) := P14.out.askIn
          have RI14 : Hid (ResIn V14 ⟨act.r.why, act.r.wait, 0, 0, .slice none 0 0, oa, oc, act.r.l⟩) := by
            obtain ⟨a', c', e1, s1, n1, _⟩ := owned_seen O14.out (by have := AIN.out.res.len; unfold maxLen; omega)
            cases e1
            exact ⟨s1, n1, AIN.out.res.len⟩
          have HWL : Hid (w.heap.size ≤ V12.heap.size ∧ ∀ g, (Value.slice c.da c.dl.length c.dc).ownBlock = some g → g < V12.heap.size) := ⟨P12.out.be.size, P12.out.own_lt⟩
          have HV14 : Hid (V12.heap.size ≤ V14.heap.size) := Nat.le_trans b4.size b14.size
          clear b14 q14 q140 l14 e14 ho4 b4 Q712 Q12 P12 P4
          repeat
            (fail_if_success (guard_target =~ (Code.region 32 _ _).wp _ _ _ _)
             first
              | (refine wpList_store_row rfl 57 (.tmp 12) (.tmp 115) rfl x4.heap.size #[.int .i64 act.r.why, .bool act.r.wait, .int .i64 0, .int .i64 0, .slice none 0 0, .slice oa act.r.l.length oc] rfl rfl 57 _ Q140.out (by kernel_rfl) rfl (by simp [Value.oneCell']) ?_; rw [show _ = V14 from E14.out])
              | go_values | go_skip | go_guarded | go_step | go_upon | go_back)
          generalize hB12 : x4.heap.size = B12 at Q14 ⊢
          clear hB12 Q140 E14
          obtain ⟨TMx, hTM⟩ : ∃ TMx, toldM M act.x c.q act.r = TMx := ⟨_, rfl⟩
          have HTR := Sim.told SM.out act.x c.q act.r
          rw [hTM] at HTR
          obtain ⟨TRx, hTR⟩ : ∃ TRx, toldR R act.x c.q act.r = TRx := ⟨_, rfl⟩
          rw [hTR] at HTR
          have ST : Hid (Sim TMx.1 TRx.1 ∧ TMx.2 = TRx.2) := HTR
          have HTRx : Hid (toldR R act.x c.q act.r = TRx) := hTR
          have q7 : B7 < V14.heap.size ∧ B7 ≠ G1 := ⟨(Array.getElem?_eq_some_iff.1 Q714.out).1, by obtain ⟨_, e1⟩ := P14.out.g1; exact cells_ne Q714.out e1 (by decide)⟩
          clear HTR hTR SM
          refine mp_r32 w V14 (fun g => (Value.slice oa act.r.l.length oc).ownBlock ≠ some g) G1 G2 L B7 B11 B12 M R c c act.x act.r.why act.r.wait oa oc act.r.l TMx _ _ _ _ _ _ _ _ _ _ _ _ _ _ _ _ _ _ _ _ _ _ _ _ _ _ _ _ _ _ _ _ _ _ _ _ _ _ _ _ _ _ _ _ _ _ _ _ _ _ _ _ _ _ _ _ _ _ _ _ _ _ _ _ _ _ _ _ _ _ _ _ _ _ _ _ _ _ _ _ _ _ _ _ _ _ _ _ _ _ _ _ _ _ _ _ _ _ _ _ _ _ _ _ _ _ _ _ _ _ _ _ _ _ _ _ _ _ _ _ _ _ _ _ _ _ _ _ _ _ _ _ _ _ _ _ _ _ _ _ _ _ _ _ _ _ _ _ _ _ _ _ _ _ _ _ _ _ _ _ _ _ _ _ _ _ _ _ _ _ _ _ _ _ _ _ _ _ _ _ _ _ _ _ _ _ _ _ _ _ _ _ _ P14.out HDD.out (mop_box Q714.out).2.1 Q114.out Q14.out q7 AI14.out RI14.out ((told_res M act.x c.q oa oc act.r).trans hTM) _ _ ?_
          clear hTM q7
          intro u116 u117 u118 u119 u120 u121 u122 u123 u124 u125 u126 u127 u128 u129 u130 Bc Y mY oY qY lY
          obtain ⟨gc1, hg1⟩ := P14.out.g1
          have PY : Hid (PI w (fun g => (Value.slice oa act.r.l.length oc).ownBlock ≠ some g) Y G1 G2 L TMx.1 R c) := P14.out.m1 oY mY
          have Q7Y : Hid (Y.heap[B7]? = some (.cells act.cells.toArray 44 (0, 0))) := oY.box hg1 Q714.out (by decide)
          have Q11Y : Hid (Y.heap[B11]? = some (.cells c.ask.toArray 35 (0, 0))) := oY.box hg1 Q114.out (by decide)
          have Q12Y : Hid (Y.heap[B12]? = some (.cells #[.int .i64 act.r.why, .bool act.r.wait, .int .i64 0, .int .i64 0, .slice none 0 0, .slice oa act.r.l.length oc] 57 (0, 0))) := oY.box hg1 Q14.out (by decide)
          have OWY : Hid (Y.ownsRow V12.heap.size 5 1 (.slice oa act.r.l.length oc) act.r.l.length (cellsOf act.r.l)) := oY.own hg1 O14.out (by decide)
          have HVY : Hid (V12.heap.size ≤ Y.heap.size) := Nat.le_trans HV14.out oY.size
          have HDY : Bs.ok ⟨w.heap.size, fun g => (Value.slice oa act.r.l.length oc).ownBlock ≠ some g⟩ Y.heap.size := ⟨PY.out.be.size, fun g hg => HDD.out g (Nat.le_trans oY.size hg)⟩
          have AIY : c.AskIn Y := PY.out.askIn
          have HRt := rtold_any PY.out.r HDY act.x c.ask c.q AIY.askC c.ask_one act.r (AIN.out.res.below (PY.out.be.mono (Nat.le_refl _)))
          rw [HTRx.out] at HRt
          have GM : Hid (Y.rangeAt B7 1 [.int .i64 act.x.slot, .int .i64 act.x.fr, .int .i64 act.x.to, .int .i64 act.x.ep, .int .i64 act.x.ph, .int .i64 act.x.n]) := (mop_box Q7Y.out).2.1
          have GR : Hid (Y.rangeAt B7 25 [.int .i64 act.r.why, .bool act.r.wait, .int .i64 act.r.rw, .int .i64 act.r.ra, act.r.rows, .slice act.r.da act.r.l.length act.r.dc]) := (mop_box Q7Y.out).2.2.2
          have QCY : Hid (Y.heap[Bc]? = some (.cells (toldC TMx.2 act.x) 60 (0, 0))) := qY
          have K18 : Hid ((Try.prog.info? 35).map (·.size) = some c.ask.toArray.size) := by
            have e1 : (Try.prog.info? 35).map (·.size) = some 18 := by kernel_rfl
            show _ = _
            rw [e1]
            rfl
          clear mY oY qY lY hg1 HDY AIY P14 Q714 Q114 Q14 O14 HDD AI14 RI14 HTRx Q7Y
          go_wp2_with (first
            | (refine wpList_load_mid rfl 37 (.tmp 133) rfl B7 1 rfl [.int .i64 act.x.slot, .int .i64 act.x.fr, .int .i64 act.x.to, .int .i64 act.x.ep, .int .i64 act.x.ph, .int .i64 act.x.n] _ GM.out Try.underlying37 rfl (by kernel_rfl) ?_)
            | (refine wpList_load_row rfl 35 (.tmp 11) rfl B11 rfl 35 c.ask.toArray (0, 0) _ Q11Y.out Try.underlying35 rfl K18.out ?_)
            | (refine wpList_load_mid rfl 42 (.tmp 136) rfl B7 25 rfl [.int .i64 act.r.why, .bool act.r.wait, .int .i64 act.r.rw, .int .i64 act.r.ra, act.r.rows, .slice act.r.da act.r.l.length act.r.dc] _ GR.out Try.underlying42 rfl (by kernel_rfl) ?_))
          refine HRt.mono ?_
          rintro e Y2 ⟨rfl, rY, o2⟩
          obtain ⟨gc2, hg2⟩ := PY.out.g2
          have P2 : Hid (PI w (fun g => (Value.slice oa act.r.l.length oc).ownBlock ≠ some g) Y2 G1 G2 L TMx.1 TRx.1 c) := PY.out.r1 o2 rY
          have Q122 : Hid (Y2.heap[B12]? = some (.cells #[.int .i64 act.r.why, .bool act.r.wait, .int .i64 0, .int .i64 0, .slice none 0 0, .slice oa act.r.l.length oc] 57 (0, 0))) := o2.box hg2 Q12Y.out (by decide)
          have QC2 : Hid (Y2.heap[Bc]? = some (.cells (toldC TMx.2 act.x) 60 (0, 0))) := o2.box hg2 QCY.out (by decide)
          have OW2 : Hid (Y2.ownsRow V12.heap.size 5 1 (.slice oa act.r.l.length oc) act.r.l.length (cellsOf act.r.l)) := o2.own hg2 OWY.out (by decide)
          have S2 : Hid (Sim TMx.1 TRx.1) := ST.out.1
          have HVS : Hid (V12.heap.size ≤ Y2.heap.size) := Nat.le_trans HVY.out o2.size
          have n1 : (act.x.n != act.x.n) = false := by simp
          have n2 : (act.x.ph != act.x.ph) = false := by simp
          clear HRt rY o2 hg2 PY Q11Y Q12Y OWY GM GR QCY K18
          have ST2 := ST.out.2
          clear ST
          obtain ⟨TM1, tm2⟩ := TMx
          obtain ⟨TR1, tr2⟩ := TRx
          dsimp only at ST2 P2 QC2 S2 ⊢
          subst ST2
          cases tm2 with
          | false =>
            have qc : Y2.heap[Bc]? = some (.cells #[.int .i64 0, .int .i64 0, .int .i64 0, .int .i64 0, .int .i64 0] 60 (0, 0)) := QC2.out
            dsimp only [toldV]
            have bC : Below Y2.heap.size Y2 (Y2.alloc (.cells #[.int .i64 0, .int .i64 0, .int .i64 0, .int .i64 0, .int .i64 0] 64)) := (Below.refl _ Y2).alloc (Nat.le_refl _) _
            have q15 := heap_alloc_new Y2 (.cells #[.int .i64 0, .int .i64 0, .int .i64 0, .int .i64 0, .int .i64 0] 64)
            obtain ⟨Y3, e3⟩ : ∃ Y3, Y2.alloc (.cells #[.int .i64 0, .int .i64 0, .int .i64 0, .int .i64 0, .int .i64 0] 64) = Y3 := ⟨_, rfl⟩
            rw [e3] at bC q15
            have P3 : Hid (PI w (fun g => (Value.slice oa act.r.l.length oc).ownBlock ≠ some g) Y3 G1 G2 L TM1 TR1 c) := P2.out.below bC
            have Q123 := (bC.block _ (Array.getElem?_eq_some_iff.1 Q122.out).1).trans Q122.out
            have QC3 : Hid (Y3.heap[Bc]? = some (.cells #[.int .i64 0, .int .i64 0, .int .i64 0, .int .i64 0, .int .i64 0] 60 (0, 0))) := (bC.block _ (Array.getElem?_eq_some_iff.1 qc).1).trans qc
            have OW3 : Hid (Y3.ownsRow V12.heap.size 5 1 (.slice oa act.r.l.length oc) act.r.l.length (cellsOf act.r.l)) := owns_kept OW2.out (fun q e => bC.block q (row_kind OW2.out e).2.1)
            have c5 : Y3.cell? ⟨B12, 5, none⟩ = some (.slice oa act.r.l.length oc) := by simp only [World.cell?, Q123]; rfl
            have HSp := spoil_row V12.heap.size (.slice oa act.r.l.length oc) act.r.l.length act.r.l Y3 OW3.out (Nat.le_trans HVS.out bC.size) (by have := AIN.out.res.len; omega)
            have Q15 : Hid (Y3.heap[Y2.heap.size]? = some (.cells #[.int .i64 0, .int .i64 0, .int .i64 0, .int .i64 0, .int .i64 0] 64 (0, 0))) := q15
            have E3 : Hid (_ = Y3) := e3
            clear bC q15 e3 Q123 qc QC2 Q122 OW2 P2
            repeat
              (fail_if_success (guard_target =~ (Code.region 34 _ _).wp _ _ _ _)
               first | go_values | go_skip | go_guarded | go_step | go_upon | go_back)
            rw [show _ = Y3 from E3.out]
            clear E3
            go_wp2_with fail
            generalize hB15 : Y2.heap.size = B15 at Q15 ⊢
            clear hB15
            refine HSp.mono ?_
            rintro e Y4 ⟨⟨uu, rfl⟩, hg⟩
            have hrw : ∀ g, (Value.slice oa act.r.l.length oc).ownBlock = some g → ∃ cur, Y3.heap[g]? = some (.cells cur 5 (0, 0)) := fun g e => (row_kind OW3.out e).2.2
            have qc4 := grown_box hg hrw QC3.out (by decide)
            have q154 := grown_box hg hrw Q15.out (by decide)
            have P4 : Hid (PI w (fun _ => True) Y4 G1 G2 L TM1 TR1 c) := told_spoil P3.out HWL.out.1 OW3.out HWL.out.2 hg
            have d0 : Y4.cell? ⟨Bc, 0, none⟩ = some (.int .i64 0) := by simp only [World.cell?, qc4]; rfl
            have f0 : Y4.cell? ⟨B15, 0, none⟩ = some (.int .i64 0) := by simp only [World.cell?, q154]; rfl
            have d1 : Y4.cell? ⟨Bc, 1, none⟩ = some (.int .i64 0) := by simp only [World.cell?, qc4]; rfl
            have f1 : Y4.cell? ⟨B15, 1, none⟩ = some (.int .i64 0) := by simp only [World.cell?, q154]; rfl
            have d2 : Y4.cell? ⟨Bc, 2, none⟩ = some (.int .i64 0) := by simp only [World.cell?, qc4]; rfl
            have f2 : Y4.cell? ⟨B15, 2, none⟩ = some (.int .i64 0) := by simp only [World.cell?, q154]; rfl
            have d3 : Y4.cell? ⟨Bc, 3, none⟩ = some (.int .i64 0) := by simp only [World.cell?, qc4]; rfl
            have f3 : Y4.cell? ⟨B15, 3, none⟩ = some (.int .i64 0) := by simp only [World.cell?, q154]; rfl
            have d4 : Y4.cell? ⟨Bc, 4, none⟩ = some (.int .i64 0) := by simp only [World.cell?, qc4]; rfl
            have f4 : Y4.cell? ⟨B15, 4, none⟩ = some (.int .i64 0) := by simp only [World.cell?, q154]; rfl
            clear HSp hg hrw qc4 q154 P3 QC3 Q15 OW3 c5
            go_wp2_with fail
            refine mp_r37 w Y4 (fun _ => True) G1 G2 L TM1 TR1 c _ _ _ _ _ _ _ _ _ _ _ _ _ _ _ _ _ _ _ _ _ _ _ _ _ _ _ _ _ _ _ _ _ _ _ _ _ _ _ _ _ _ _ _ _ _ _ _ _ _ _ _ _ _ _ _ _ _ _ _ _ _ _ _ _ _ _ _ _ _ _ _ _ _ _ _ _ _ _ _ _ _ _ _ _ _ _ _ _ _ _ _ _ _ _ _ _ _ _ _ _ _ _ _ _ _ _ _ _ _ _ _ _ _ _ _ _ _ _ _ _ _ _ _ _ _ _ _ _ _ _ _ _ _ _ _ _ _ _ _ _ _ _ _ _ _ _ _ _ _ _ _ _ _ _ _ _ _ _ _ _ _ _ _ _ _ _ _ _ _ _ _ _ _ _ _ _ _ _ _ _ _ _ _ _ _ _ _ _ _ _ _ _ _ _ P4.out S2.out _ _ ?_
            intro u182 u183 u184 u185 u186 u187 u188 u189 u190 u191 u192 u193 u194 YF bF
            have PF : Hid (PI w (fun _ => True) YF G1 G2 L TM1 TR1 c) := P4.out.below bF
            clear bF
            go_wp2_with fail
            go_roundw
            case rel => exact ⟨i + 1, HIN.out, by first | rfl | rw [HWI.out], ⟨_, _, _, PF.out, S2.out⟩⟩
            case measure => have := HIN.out; simp only [intOf]; omega
          | true =>
            have qc : Y2.heap[Bc]? = some (.cells #[.int .i64 2, .int .i64 0, .int .i64 0, .int .i64 act.x.n, .int .i64 act.x.ph] 60 (0, 0)) := QC2.out
            dsimp only [toldV]
            have bC : Below Y2.heap.size Y2 (Y2.alloc (.cells #[.int .i64 2, .int .i64 0, .int .i64 0, .int .i64 act.x.n, .int .i64 act.x.ph] 64)) := (Below.refl _ Y2).alloc (Nat.le_refl _) _
            have q15 := heap_alloc_new Y2 (.cells #[.int .i64 2, .int .i64 0, .int .i64 0, .int .i64 act.x.n, .int .i64 act.x.ph] 64)
            obtain ⟨Y3, e3⟩ : ∃ Y3, Y2.alloc (.cells #[.int .i64 2, .int .i64 0, .int .i64 0, .int .i64 act.x.n, .int .i64 act.x.ph] 64) = Y3 := ⟨_, rfl⟩
            rw [e3] at bC q15
            have P3 : Hid (PI w (fun g => (Value.slice oa act.r.l.length oc).ownBlock ≠ some g) Y3 G1 G2 L TM1 TR1 c) := P2.out.below bC
            have Q123 := (bC.block _ (Array.getElem?_eq_some_iff.1 Q122.out).1).trans Q122.out
            have QC3 : Hid (Y3.heap[Bc]? = some (.cells #[.int .i64 2, .int .i64 0, .int .i64 0, .int .i64 act.x.n, .int .i64 act.x.ph] 60 (0, 0))) := (bC.block _ (Array.getElem?_eq_some_iff.1 qc).1).trans qc
            have OW3 : Hid (Y3.ownsRow V12.heap.size 5 1 (.slice oa act.r.l.length oc) act.r.l.length (cellsOf act.r.l)) := owns_kept OW2.out (fun q e => bC.block q (row_kind OW2.out e).2.1)
            have c5 : Y3.cell? ⟨B12, 5, none⟩ = some (.slice oa act.r.l.length oc) := by simp only [World.cell?, Q123]; rfl
            have HSp := spoil_row V12.heap.size (.slice oa act.r.l.length oc) act.r.l.length act.r.l Y3 OW3.out (Nat.le_trans HVS.out bC.size) (by have := AIN.out.res.len; omega)
            have Q15 : Hid (Y3.heap[Y2.heap.size]? = some (.cells #[.int .i64 2, .int .i64 0, .int .i64 0, .int .i64 act.x.n, .int .i64 act.x.ph] 64 (0, 0))) := q15
            have E3 : Hid (_ = Y3) := e3
            clear bC q15 e3 Q123 qc QC2 Q122 OW2 P2
            repeat
              (fail_if_success (guard_target =~ (Code.region 34 _ _).wp _ _ _ _)
               first | go_values | go_skip | go_guarded | go_step | go_upon | go_back)
            rw [show _ = Y3 from E3.out]
            clear E3
            go_wp2_with fail
            generalize hB15 : Y2.heap.size = B15 at Q15 ⊢
            clear hB15
            refine HSp.mono ?_
            rintro e Y4 ⟨⟨uu, rfl⟩, hg⟩
            have hrw : ∀ g, (Value.slice oa act.r.l.length oc).ownBlock = some g → ∃ cur, Y3.heap[g]? = some (.cells cur 5 (0, 0)) := fun g e => (row_kind OW3.out e).2.2
            have qc4 := grown_box hg hrw QC3.out (by decide)
            have q154 := grown_box hg hrw Q15.out (by decide)
            have P4 : Hid (PI w (fun _ => True) Y4 G1 G2 L TM1 TR1 c) := told_spoil P3.out HWL.out.1 OW3.out HWL.out.2 hg
            have d0 : Y4.cell? ⟨Bc, 0, none⟩ = some (.int .i64 2) := by simp only [World.cell?, qc4]; rfl
            have f0 : Y4.cell? ⟨B15, 0, none⟩ = some (.int .i64 2) := by simp only [World.cell?, q154]; rfl
            have d1 : Y4.cell? ⟨Bc, 1, none⟩ = some (.int .i64 0) := by simp only [World.cell?, qc4]; rfl
            have f1 : Y4.cell? ⟨B15, 1, none⟩ = some (.int .i64 0) := by simp only [World.cell?, q154]; rfl
            have d2 : Y4.cell? ⟨Bc, 2, none⟩ = some (.int .i64 0) := by simp only [World.cell?, qc4]; rfl
            have f2 : Y4.cell? ⟨B15, 2, none⟩ = some (.int .i64 0) := by simp only [World.cell?, q154]; rfl
            have d3 : Y4.cell? ⟨Bc, 3, none⟩ = some (.int .i64 act.x.n) := by simp only [World.cell?, qc4]; rfl
            have f3 : Y4.cell? ⟨B15, 3, none⟩ = some (.int .i64 act.x.n) := by simp only [World.cell?, q154]; rfl
            have d4 : Y4.cell? ⟨Bc, 4, none⟩ = some (.int .i64 act.x.ph) := by simp only [World.cell?, qc4]; rfl
            have f4 : Y4.cell? ⟨B15, 4, none⟩ = some (.int .i64 act.x.ph) := by simp only [World.cell?, q154]; rfl
            clear HSp hg hrw qc4 q154 P3 QC3 Q15 OW3 c5
            go_wp2_with fail
            refine mp_r37 w Y4 (fun _ => True) G1 G2 L TM1 TR1 c _ _ _ _ _ _ _ _ _ _ _ _ _ _ _ _ _ _ _ _ _ _ _ _ _ _ _ _ _ _ _ _ _ _ _ _ _ _ _ _ _ _ _ _ _ _ _ _ _ _ _ _ _ _ _ _ _ _ _ _ _ _ _ _ _ _ _ _ _ _ _ _ _ _ _ _ _ _ _ _ _ _ _ _ _ _ _ _ _ _ _ _ _ _ _ _ _ _ _ _ _ _ _ _ _ _ _ _ _ _ _ _ _ _ _ _ _ _ _ _ _ _ _ _ _ _ _ _ _ _ _ _ _ _ _ _ _ _ _ _ _ _ _ _ _ _ _ _ _ _ _ _ _ _ _ _ _ _ _ _ _ _ _ _ _ _ _ _ _ _ _ _ _ _ _ _ _ _ _ _ _ _ _ _ _ _ _ _ _ _ _ _ _ _ _ P4.out S2.out _ _ ?_
            intro u182 u183 u184 u185 u186 u187 u188 u189 u190 u191 u192 u193 u194 YF bF
            have PF : Hid (PI w (fun _ => True) YF G1 G2 L TM1 TR1 c) := P4.out.below bF
            clear bF
            go_wp2_with fail
            go_roundw
            case rel => exact ⟨i + 1, HIN.out, by first | rfl | rw [HWI.out], ⟨_, _, _, PF.out, S2.out⟩⟩
            case measure => have := HIN.out; simp only [intOf]; omega
        have t2 : (act.k == 2) = false := by simp [e2]
        by_cases e3 : act.k = 3
        · have t3 : (act.k == 3) = true := by simp [e3]
          clear e0
          have bA := box_new (X := V9) #[.int .i64 0, .int .i64 0, .int .i64 0, .string ⟨#[]⟩, .string ⟨#[]⟩, .int .i64 0, .string ⟨#[]⟩, .int .i64 0, .int .i64 0, .string ⟨#[]⟩, .string ⟨#[]⟩, .int .i64 0, .int .i64 0, .int .i64 0, .int .i64 0, .int .i64 0, .bool false, .slice none 0 0] 35 act.ask.toArray
          obtain ⟨V11, e11⟩ : ∃ V11, (V9.alloc (.cells #[.int .i64 0, .int .i64 0, .int .i64 0, .string ⟨#[]⟩, .string ⟨#[]⟩, .int .i64 0, .string ⟨#[]⟩, .int .i64 0, .int .i64 0, .string ⟨#[]⟩, .string ⟨#[]⟩, .int .i64 0, .int .i64 0, .int .i64 0, .int .i64 0, .int .i64 0, .bool false, .slice none 0 0] 35)).setRow V9.heap.size act.ask.toArray = V11 := ⟨_, rfl⟩
          rw [e11] at bA
          obtain ⟨b11, q11, q110, _⟩ := bA
          have k011 : V11.cell? ⟨B7, 0, none⟩ = some (.int .i64 act.k) := (mop_box ((b11.block _ (Array.getElem?_eq_some_iff.1 Q7.out).1).trans Q7.out)).1
          have G7A : Hid (V9.rangeAt B7 7 act.ask) := (mop_box Q7.out).2.2.1
          have Q110 : Hid _ := q110
          have E11 : Hid (_ = V11) := e11
          have lc11 : V11.heap[L]? = some (.cells c.ask.toArray 35 (0, 0)) := (b11.block _ (Array.getElem?_eq_some_iff.1 PV.out.lc).1).trans PV.out.lc
          have LC11 : Hid _ := lc11
          have Q11 : Hid _ := q11
          obtain ⟨V12, e12⟩ : ∃ V12, V11.setRow V9.heap.size c.ask.toArray = V12 := ⟨_, rfl⟩
          have E12 : Hid (_ = V12) := e12
          have b12 : Below V9.heap.size V9 V12 := by rw [← e12]; exact below_row b11 (Nat.le_refl _) _
          have q12 : V12.heap[V9.heap.size]? = some (.cells c.ask.toArray 35 (0, 0)) := by rw [← e12]; exact setRow_self q11
          clear e12 lc11
          have P12 : Hid (PI w (fun _ => True) V12 G1 G2 L M R c) := PV.out.below b12
          have Q712 : Hid (V12.heap[B7]? = some (.cells act.cells.toArray 44 (0, 0))) := (b12.block _ (Array.getElem?_eq_some_iff.1 Q7.out).1).trans Q7.out
          have G725 : Hid (V12.rangeAt B7 25 [.int .i64 act.r.why, .bool act.r.wait, .int .i64 act.r.rw, .int .i64 act.r.ra, act.r.rows, .slice act.r.da act.r.l.length act.r.dc]) := (mop_box Q712.out).2.2.2
          have Q12 : Hid (V12.heap[V9.heap.size]? = some (.cells c.ask.toArray 35 (0, 0))) := q12
          have HRs := result_any act.r.why act.r.wait act.r.rw act.r.ra act.r.rows act.r.da act.r.dc act.r.l V12 (AIN.out.res.seen.below (P12.out.be.mono (Nat.le_refl _))) AIN.out.res.nil AIN.out.res.len
          have K18 : Hid ((Try.prog.info? 35).map (·.size) = some act.ask.toArray.size ∧ (#[.int .i64 0, .int .i64 0, .int .i64 0, .string ⟨#[]⟩, .string ⟨#[]⟩, .int .i64 0, .string ⟨#[]⟩, .int .i64 0, .int .i64 0, .string ⟨#[]⟩, .string ⟨#[]⟩, .int .i64 0, .int .i64 0, .int .i64 0, .int .i64 0, .int .i64 0, .bool false, .slice none 0 0] : Array Value).size = act.ask.toArray.size ∧ act.ask.toArray.all (·.oneCell') = true ∧ (Try.prog.info? 35).map (·.size) = some act.ask.length ∧ (Try.prog.info? 35).map (·.size) = some c.ask.toArray.size ∧ act.ask.toArray.size = c.ask.toArray.size ∧ c.ask.toArray.all (·.oneCell') = true) := by
            have e1 : (Try.prog.info? 35).map (·.size) = some 18 := by kernel_rfl
            rw [e1]
            exact ⟨rfl, rfl, by simp [MopV.ask, Value.oneCell'], rfl, rfl, rfl, by simp [MopV.ask, Value.oneCell']⟩
          have gt1 : (1 : Int) < act.k := by omega
          clear q110 q11 q12 b12 e11 b11 e3 Q7 PV
          go_wp2_with (first
            | (refine wpList_load_mid rfl 35 (.tmp 107) rfl B7 7 rfl act.ask _ G7A.out Try.underlying35 rfl K18.out.2.2.2.1 ?_)
            | (refine wpList_store_row rfl 35 (.tmp 11) (.tmp 108) rfl V9.heap.size act.ask.toArray rfl rfl 35 _ Q110.out K18.out.1 K18.out.2.1 K18.out.2.2.1 ?_; rw [show _ = V11 from E11.out])
            | (refine wpList_load_row rfl 35 (.tmp 5) rfl L rfl 35 c.ask.toArray (0, 0) _ LC11.out Try.underlying35 rfl K18.out.2.2.2.2.1 ?_)
            | (refine wpList_store_row rfl 35 (.tmp 11) (.tmp 112) rfl V9.heap.size c.ask.toArray rfl rfl 35 _ Q11.out K18.out.2.2.2.2.1 K18.out.2.2.2.2.2.1 K18.out.2.2.2.2.2.2 ?_; rw [show _ = V12 from E12.out])
            | (refine wpList_load_mid rfl 42 (.tmp 113) rfl B7 25 rfl [.int .i64 act.r.why, .bool act.r.wait, .int .i64 act.r.rw, .int .i64 act.r.ra, act.r.rows, .slice act.r.da act.r.l.length act.r.dc] _ G725.out Try.underlying42 rfl (by kernel_rfl) ?_))
          refine HRs.mono ?_
          rintro e x4 ⟨oa, oc, rfl, ho4, b4⟩
          dsimp only
          generalize hB11 : V9.heap.size = B11 at Q12 ⊢
          clear k0 k011 hB11 E11 Q110 G7A HRs K18 gt1 t0 t1 t2 t3 LC11 Q11 E12 G725
          have P4 : Hid (PI w (fun g => (Value.slice oa act.r.l.length oc).ownBlock ≠ some g) x4 G1 G2 L M R c) := (P12.out.sub (fun g hg _ e => by have := (row_kind ho4 e).1; omega)).below b4
          have bB := box_new (X := x4) #[.int .i64 0, .bool false, .int .i64 0, .int .i64 0, .slice none 0 0, .slice none 0 0] 57 #[.int .i64 act.r.why, .bool act.r.wait, .int .i64 0, .int .i64 0, .slice none 0 0, .slice oa act.r.l.length oc]
          obtain ⟨V14, e14⟩ : ∃ V14, (x4.alloc (.cells #[.int .i64 0, .bool false, .int .i64 0, .int .i64 0, .slice none 0 0, .slice none 0 0] 57)).setRow x4.heap.size #[.int .i64 act.r.why, .bool act.r.wait, .int .i64 0, .int .i64 0, .slice none 0 0, .slice oa act.r.l.length oc] = V14 := ⟨_, rfl⟩
          rw [e14] at bB
          obtain ⟨b14, q14, q140, l14⟩ := bB
          have Q140 : Hid _ := q140
          have Q14 : Hid (V14.heap[x4.heap.size]? = some (.cells #[.int .i64 act.r.why, .bool act.r.wait, .int .i64 0, .int .i64 0, .slice none 0 0, .slice oa act.r.l.length oc] 57 (0, 0))) := q14
          have E14 : Hid (_ = V14) := e14
          have P14 : Hid (PI w (fun g => (Value.slice oa act.r.l.length oc).ownBlock ≠ some g) V14 G1 G2 L M R c) := P4.out.below b14
          have O14 : Hid (V14.ownsRow V12.heap.size 5 1 (.slice oa act.r.l.length oc) act.r.l.length (cellsOf act.r.l)) := owns_kept ho4 (fun q e => b14.block q (row_kind ho4 e).2.1)
          have Q714 : Hid (V14.heap[B7]? = some (.cells act.cells.toArray 44 (0, 0))) := by
            have e1 := (b4.block _ (Array.getElem?_eq_some_iff.1 Q712.out).1).trans Q712.out
            exact (b14.block _ (Array.getElem?_eq_some_iff.1 e1).1).trans e1
          have Q114 : Hid (V14.heap[B11]? = some (.cells c.ask.toArray 35 (0, 0))) := by
            have e1 := (b4.block _ (Array.getElem?_eq_some_iff.1 Q12.out).1).trans Q12.out
            exact (b14.block _ (Array.getElem?_eq_some_iff.1 e1).1).trans e1
          have HDD : Hid (∀ g, V14.heap.size ≤ g → (Value.slice oa act.r.l.length oc).ownBlock ≠ some g) := fun g hg e => by have := (row_kind O14.out e).2.1; omega
          have AI14 : Hid (c.AskIn V14) := P14.out.askIn
          have RI14 : Hid (ResIn V14 ⟨act.r.why, act.r.wait, 0, 0, .slice none 0 0, oa, oc, act.r.l⟩) := by
            obtain ⟨a', c', e1, s1, n1, _⟩ := owned_seen O14.out (by have := AIN.out.res.len; unfold maxLen; omega)
            cases e1
            exact ⟨s1, n1, AIN.out.res.len⟩
          have HWL : Hid (w.heap.size ≤ V12.heap.size ∧ ∀ g, (Value.slice c.da c.dl.length c.dc).ownBlock = some g → g < V12.heap.size) := ⟨P12.out.be.size, P12.out.own_lt⟩
          have HV14 : Hid (V12.heap.size ≤ V14.heap.size) := Nat.le_trans b4.size b14.size
          clear b14 q14 q140 l14 e14 ho4 b4 Q712 Q12 P12 P4
          repeat
            (fail_if_success (guard_target =~ (Code.region 32 _ _).wp _ _ _ _)
             first
              | (refine wpList_store_row rfl 57 (.tmp 12) (.tmp 115) rfl x4.heap.size #[.int .i64 act.r.why, .bool act.r.wait, .int .i64 0, .int .i64 0, .slice none 0 0, .slice oa act.r.l.length oc] rfl rfl 57 _ Q140.out (by kernel_rfl) rfl (by simp [Value.oneCell']) ?_; rw [show _ = V14 from E14.out])
              | go_values | go_skip | go_guarded | go_step | go_upon | go_back)
          generalize hB12 : x4.heap.size = B12 at Q14 ⊢
          clear hB12 Q140 E14
          obtain ⟨TMx, hTM⟩ : ∃ TMx, toldM M act.x c.q act.r = TMx := ⟨_, rfl⟩
          have HTR := Sim.told SM.out act.x c.q act.r
          rw [hTM] at HTR
          obtain ⟨TRx, hTR⟩ : ∃ TRx, toldR R act.x c.q act.r = TRx := ⟨_, rfl⟩
          rw [hTR] at HTR
          have ST : Hid (Sim TMx.1 TRx.1 ∧ TMx.2 = TRx.2) := HTR
          have HTRx : Hid (toldR R act.x c.q act.r = TRx) := hTR
          have q7 : B7 < V14.heap.size ∧ B7 ≠ G1 := ⟨(Array.getElem?_eq_some_iff.1 Q714.out).1, by obtain ⟨_, e1⟩ := P14.out.g1; exact cells_ne Q714.out e1 (by decide)⟩
          clear HTR hTR SM
          refine mp_r32 w V14 (fun g => (Value.slice oa act.r.l.length oc).ownBlock ≠ some g) G1 G2 L B7 B11 B12 M R c c act.x act.r.why act.r.wait oa oc act.r.l TMx _ _ _ _ _ _ _ _ _ _ _ _ _ _ _ _ _ _ _ _ _ _ _ _ _ _ _ _ _ _ _ _ _ _ _ _ _ _ _ _ _ _ _ _ _ _ _ _ _ _ _ _ _ _ _ _ _ _ _ _ _ _ _ _ _ _ _ _ _ _ _ _ _ _ _ _ _ _ _ _ _ _ _ _ _ _ _ _ _ _ _ _ _ _ _ _ _ _ _ _ _ _ _ _ _ _ _ _ _ _ _ _ _ _ _ _ _ _ _ _ _ _ _ _ _ _ _ _ _ _ _ _ _ _ _ _ _ _ _ _ _ _ _ _ _ _ _ _ _ _ _ _ _ _ _ _ _ _ _ _ _ _ _ _ _ _ _ _ _ _ _ _ _ _ _ _ _ _ _ _ _ _ _ _ _ _ _ _ _ _ _ _ _ P14.out HDD.out (mop_box Q714.out).2.1 Q114.out Q14.out q7 AI14.out RI14.out ((told_res M act.x c.q oa oc act.r).trans hTM) _ _ ?_
          clear hTM q7
          intro u116 u117 u118 u119 u120 u121 u122 u123 u124 u125 u126 u127 u128 u129 u130 Bc Y mY oY qY lY
          obtain ⟨gc1, hg1⟩ := P14.out.g1
          have PY : Hid (PI w (fun g => (Value.slice oa act.r.l.length oc).ownBlock ≠ some g) Y G1 G2 L TMx.1 R c) := P14.out.m1 oY mY
          have Q7Y : Hid (Y.heap[B7]? = some (.cells act.cells.toArray 44 (0, 0))) := oY.box hg1 Q714.out (by decide)
          have Q11Y : Hid (Y.heap[B11]? = some (.cells c.ask.toArray 35 (0, 0))) := oY.box hg1 Q114.out (by decide)
          have Q12Y : Hid (Y.heap[B12]? = some (.cells #[.int .i64 act.r.why, .bool act.r.wait, .int .i64 0, .int .i64 0, .slice none 0 0, .slice oa act.r.l.length oc] 57 (0, 0))) := oY.box hg1 Q14.out (by decide)
          have OWY : Hid (Y.ownsRow V12.heap.size 5 1 (.slice oa act.r.l.length oc) act.r.l.length (cellsOf act.r.l)) := oY.own hg1 O14.out (by decide)
          have HVY : Hid (V12.heap.size ≤ Y.heap.size) := Nat.le_trans HV14.out oY.size
          have HDY : Bs.ok ⟨w.heap.size, fun g => (Value.slice oa act.r.l.length oc).ownBlock ≠ some g⟩ Y.heap.size := ⟨PY.out.be.size, fun g hg => HDD.out g (Nat.le_trans oY.size hg)⟩
          have AIY : c.AskIn Y := PY.out.askIn
          have HRt := rtold_any PY.out.r HDY act.x c.ask c.q AIY.askC c.ask_one act.r (AIN.out.res.below (PY.out.be.mono (Nat.le_refl _)))
          rw [HTRx.out] at HRt
          have GM : Hid (Y.rangeAt B7 1 [.int .i64 act.x.slot, .int .i64 act.x.fr, .int .i64 act.x.to, .int .i64 act.x.ep, .int .i64 act.x.ph, .int .i64 act.x.n]) := (mop_box Q7Y.out).2.1
          have GR : Hid (Y.rangeAt B7 25 [.int .i64 act.r.why, .bool act.r.wait, .int .i64 act.r.rw, .int .i64 act.r.ra, act.r.rows, .slice act.r.da act.r.l.length act.r.dc]) := (mop_box Q7Y.out).2.2.2
          have QCY : Hid (Y.heap[Bc]? = some (.cells (toldC TMx.2 act.x) 60 (0, 0))) := qY
          have K18 : Hid ((Try.prog.info? 35).map (·.size) = some c.ask.toArray.size) := by
            have e1 : (Try.prog.info? 35).map (·.size) = some 18 := by kernel_rfl
            show _ = _
            rw [e1]
            rfl
          clear mY oY qY lY hg1 HDY AIY P14 Q714 Q114 Q14 O14 HDD AI14 RI14 HTRx Q7Y
          go_wp2_with (first
            | (refine wpList_load_mid rfl 37 (.tmp 133) rfl B7 1 rfl [.int .i64 act.x.slot, .int .i64 act.x.fr, .int .i64 act.x.to, .int .i64 act.x.ep, .int .i64 act.x.ph, .int .i64 act.x.n] _ GM.out Try.underlying37 rfl (by kernel_rfl) ?_)
            | (refine wpList_load_row rfl 35 (.tmp 11) rfl B11 rfl 35 c.ask.toArray (0, 0) _ Q11Y.out Try.underlying35 rfl K18.out ?_)
            | (refine wpList_load_mid rfl 42 (.tmp 136) rfl B7 25 rfl [.int .i64 act.r.why, .bool act.r.wait, .int .i64 act.r.rw, .int .i64 act.r.ra, act.r.rows, .slice act.r.da act.r.l.length act.r.dc] _ GR.out Try.underlying42 rfl (by kernel_rfl) ?_))
          refine HRt.mono ?_
          rintro e Y2 ⟨rfl, rY, o2⟩
          obtain ⟨gc2, hg2⟩ := PY.out.g2
          have P2 : Hid (PI w (fun g => (Value.slice oa act.r.l.length oc).ownBlock ≠ some g) Y2 G1 G2 L TMx.1 TRx.1 c) := PY.out.r1 o2 rY
          have Q122 : Hid (Y2.heap[B12]? = some (.cells #[.int .i64 act.r.why, .bool act.r.wait, .int .i64 0, .int .i64 0, .slice none 0 0, .slice oa act.r.l.length oc] 57 (0, 0))) := o2.box hg2 Q12Y.out (by decide)
          have QC2 : Hid (Y2.heap[Bc]? = some (.cells (toldC TMx.2 act.x) 60 (0, 0))) := o2.box hg2 QCY.out (by decide)
          have OW2 : Hid (Y2.ownsRow V12.heap.size 5 1 (.slice oa act.r.l.length oc) act.r.l.length (cellsOf act.r.l)) := o2.own hg2 OWY.out (by decide)
          have S2 : Hid (Sim TMx.1 TRx.1) := ST.out.1
          have HVS : Hid (V12.heap.size ≤ Y2.heap.size) := Nat.le_trans HVY.out o2.size
          have n1 : (act.x.n != act.x.n) = false := by simp
          have n2 : (act.x.ph != act.x.ph) = false := by simp
          clear HRt rY o2 hg2 PY Q11Y Q12Y OWY GM GR QCY K18
          have ST2 := ST.out.2
          clear ST
          obtain ⟨TM1, tm2⟩ := TMx
          obtain ⟨TR1, tr2⟩ := TRx
          dsimp only at ST2 P2 QC2 S2 ⊢
          subst ST2
          cases tm2 with
          | false =>
            have qc : Y2.heap[Bc]? = some (.cells #[.int .i64 0, .int .i64 0, .int .i64 0, .int .i64 0, .int .i64 0] 60 (0, 0)) := QC2.out
            dsimp only [toldV]
            have bC : Below Y2.heap.size Y2 (Y2.alloc (.cells #[.int .i64 0, .int .i64 0, .int .i64 0, .int .i64 0, .int .i64 0] 64)) := (Below.refl _ Y2).alloc (Nat.le_refl _) _
            have q15 := heap_alloc_new Y2 (.cells #[.int .i64 0, .int .i64 0, .int .i64 0, .int .i64 0, .int .i64 0] 64)
            obtain ⟨Y3, e3⟩ : ∃ Y3, Y2.alloc (.cells #[.int .i64 0, .int .i64 0, .int .i64 0, .int .i64 0, .int .i64 0] 64) = Y3 := ⟨_, rfl⟩
            rw [e3] at bC q15
            have P3 : Hid (PI w (fun g => (Value.slice oa act.r.l.length oc).ownBlock ≠ some g) Y3 G1 G2 L TM1 TR1 c) := P2.out.below bC
            have Q123 := (bC.block _ (Array.getElem?_eq_some_iff.1 Q122.out).1).trans Q122.out
            have QC3 : Hid (Y3.heap[Bc]? = some (.cells #[.int .i64 0, .int .i64 0, .int .i64 0, .int .i64 0, .int .i64 0] 60 (0, 0))) := (bC.block _ (Array.getElem?_eq_some_iff.1 qc).1).trans qc
            have OW3 : Hid (Y3.ownsRow V12.heap.size 5 1 (.slice oa act.r.l.length oc) act.r.l.length (cellsOf act.r.l)) := owns_kept OW2.out (fun q e => bC.block q (row_kind OW2.out e).2.1)
            have c5 : Y3.cell? ⟨B12, 5, none⟩ = some (.slice oa act.r.l.length oc) := by simp only [World.cell?, Q123]; rfl
            have HSp := spoil_row V12.heap.size (.slice oa act.r.l.length oc) act.r.l.length act.r.l Y3 OW3.out (Nat.le_trans HVS.out bC.size) (by have := AIN.out.res.len; omega)
            have Q15 : Hid (Y3.heap[Y2.heap.size]? = some (.cells #[.int .i64 0, .int .i64 0, .int .i64 0, .int .i64 0, .int .i64 0] 64 (0, 0))) := q15
            have E3 : Hid (_ = Y3) := e3
            clear bC q15 e3 Q123 qc QC2 Q122 OW2 P2
            repeat
              (fail_if_success (guard_target =~ (Code.region 34 _ _).wp _ _ _ _)
               first | go_values | go_skip | go_guarded | go_step | go_upon | go_back)
            rw [show _ = Y3 from E3.out]
            clear E3
            go_wp2_with fail
            generalize hB15 : Y2.heap.size = B15 at Q15 ⊢
            clear hB15
            refine HSp.mono ?_
            rintro e Y4 ⟨⟨uu, rfl⟩, hg⟩
            have hrw : ∀ g, (Value.slice oa act.r.l.length oc).ownBlock = some g → ∃ cur, Y3.heap[g]? = some (.cells cur 5 (0, 0)) := fun g e => (row_kind OW3.out e).2.2
            have qc4 := grown_box hg hrw QC3.out (by decide)
            have q154 := grown_box hg hrw Q15.out (by decide)
            have P4 : Hid (PI w (fun _ => True) Y4 G1 G2 L TM1 TR1 c) := told_spoil P3.out HWL.out.1 OW3.out HWL.out.2 hg
            have d0 : Y4.cell? ⟨Bc, 0, none⟩ = some (.int .i64 0) := by simp only [World.cell?, qc4]; rfl
            have f0 : Y4.cell? ⟨B15, 0, none⟩ = some (.int .i64 0) := by simp only [World.cell?, q154]; rfl
            have d1 : Y4.cell? ⟨Bc, 1, none⟩ = some (.int .i64 0) := by simp only [World.cell?, qc4]; rfl
            have f1 : Y4.cell? ⟨B15, 1, none⟩ = some (.int .i64 0) := by simp only [World.cell?, q154]; rfl
            have d2 : Y4.cell? ⟨Bc, 2, none⟩ = some (.int .i64 0) := by simp only [World.cell?, qc4]; rfl
            have f2 : Y4.cell? ⟨B15, 2, none⟩ = some (.int .i64 0) := by simp only [World.cell?, q154]; rfl
            have d3 : Y4.cell? ⟨Bc, 3, none⟩ = some (.int .i64 0) := by simp only [World.cell?, qc4]; rfl
            have f3 : Y4.cell? ⟨B15, 3, none⟩ = some (.int .i64 0) := by simp only [World.cell?, q154]; rfl
            have d4 : Y4.cell? ⟨Bc, 4, none⟩ = some (.int .i64 0) := by simp only [World.cell?, qc4]; rfl
            have f4 : Y4.cell? ⟨B15, 4, none⟩ = some (.int .i64 0) := by simp only [World.cell?, q154]; rfl
            clear HSp hg hrw qc4 q154 P3 QC3 Q15 OW3 c5
            go_wp2_with fail
            refine mp_r37 w Y4 (fun _ => True) G1 G2 L TM1 TR1 c _ _ _ _ _ _ _ _ _ _ _ _ _ _ _ _ _ _ _ _ _ _ _ _ _ _ _ _ _ _ _ _ _ _ _ _ _ _ _ _ _ _ _ _ _ _ _ _ _ _ _ _ _ _ _ _ _ _ _ _ _ _ _ _ _ _ _ _ _ _ _ _ _ _ _ _ _ _ _ _ _ _ _ _ _ _ _ _ _ _ _ _ _ _ _ _ _ _ _ _ _ _ _ _ _ _ _ _ _ _ _ _ _ _ _ _ _ _ _ _ _ _ _ _ _ _ _ _ _ _ _ _ _ _ _ _ _ _ _ _ _ _ _ _ _ _ _ _ _ _ _ _ _ _ _ _ _ _ _ _ _ _ _ _ _ _ _ _ _ _ _ _ _ _ _ _ _ _ _ _ _ _ _ _ _ _ _ _ _ _ _ _ _ _ _ P4.out S2.out _ _ ?_
            intro u182 u183 u184 u185 u186 u187 u188 u189 u190 u191 u192 u193 u194 YF bF
            have PF : Hid (PI w (fun _ => True) YF G1 G2 L TM1 TR1 c) := P4.out.below bF
            clear bF
            go_wp2_with fail
            go_roundw
            case rel => exact ⟨i + 1, HIN.out, by first | rfl | rw [HWI.out], ⟨_, _, _, PF.out, S2.out⟩⟩
            case measure => have := HIN.out; simp only [intOf]; omega
          | true =>
            have qc : Y2.heap[Bc]? = some (.cells #[.int .i64 2, .int .i64 0, .int .i64 0, .int .i64 act.x.n, .int .i64 act.x.ph] 60 (0, 0)) := QC2.out
            dsimp only [toldV]
            have bC : Below Y2.heap.size Y2 (Y2.alloc (.cells #[.int .i64 2, .int .i64 0, .int .i64 0, .int .i64 act.x.n, .int .i64 act.x.ph] 64)) := (Below.refl _ Y2).alloc (Nat.le_refl _) _
            have q15 := heap_alloc_new Y2 (.cells #[.int .i64 2, .int .i64 0, .int .i64 0, .int .i64 act.x.n, .int .i64 act.x.ph] 64)
            obtain ⟨Y3, e3⟩ : ∃ Y3, Y2.alloc (.cells #[.int .i64 2, .int .i64 0, .int .i64 0, .int .i64 act.x.n, .int .i64 act.x.ph] 64) = Y3 := ⟨_, rfl⟩
            rw [e3] at bC q15
            have P3 : Hid (PI w (fun g => (Value.slice oa act.r.l.length oc).ownBlock ≠ some g) Y3 G1 G2 L TM1 TR1 c) := P2.out.below bC
            have Q123 := (bC.block _ (Array.getElem?_eq_some_iff.1 Q122.out).1).trans Q122.out
            have QC3 : Hid (Y3.heap[Bc]? = some (.cells #[.int .i64 2, .int .i64 0, .int .i64 0, .int .i64 act.x.n, .int .i64 act.x.ph] 60 (0, 0))) := (bC.block _ (Array.getElem?_eq_some_iff.1 qc).1).trans qc
            have OW3 : Hid (Y3.ownsRow V12.heap.size 5 1 (.slice oa act.r.l.length oc) act.r.l.length (cellsOf act.r.l)) := owns_kept OW2.out (fun q e => bC.block q (row_kind OW2.out e).2.1)
            have c5 : Y3.cell? ⟨B12, 5, none⟩ = some (.slice oa act.r.l.length oc) := by simp only [World.cell?, Q123]; rfl
            have HSp := spoil_row V12.heap.size (.slice oa act.r.l.length oc) act.r.l.length act.r.l Y3 OW3.out (Nat.le_trans HVS.out bC.size) (by have := AIN.out.res.len; omega)
            have Q15 : Hid (Y3.heap[Y2.heap.size]? = some (.cells #[.int .i64 2, .int .i64 0, .int .i64 0, .int .i64 act.x.n, .int .i64 act.x.ph] 64 (0, 0))) := q15
            have E3 : Hid (_ = Y3) := e3
            clear bC q15 e3 Q123 qc QC2 Q122 OW2 P2
            repeat
              (fail_if_success (guard_target =~ (Code.region 34 _ _).wp _ _ _ _)
               first | go_values | go_skip | go_guarded | go_step | go_upon | go_back)
            rw [show _ = Y3 from E3.out]
            clear E3
            go_wp2_with fail
            generalize hB15 : Y2.heap.size = B15 at Q15 ⊢
            clear hB15
            refine HSp.mono ?_
            rintro e Y4 ⟨⟨uu, rfl⟩, hg⟩
            have hrw : ∀ g, (Value.slice oa act.r.l.length oc).ownBlock = some g → ∃ cur, Y3.heap[g]? = some (.cells cur 5 (0, 0)) := fun g e => (row_kind OW3.out e).2.2
            have qc4 := grown_box hg hrw QC3.out (by decide)
            have q154 := grown_box hg hrw Q15.out (by decide)
            have P4 : Hid (PI w (fun _ => True) Y4 G1 G2 L TM1 TR1 c) := told_spoil P3.out HWL.out.1 OW3.out HWL.out.2 hg
            have d0 : Y4.cell? ⟨Bc, 0, none⟩ = some (.int .i64 2) := by simp only [World.cell?, qc4]; rfl
            have f0 : Y4.cell? ⟨B15, 0, none⟩ = some (.int .i64 2) := by simp only [World.cell?, q154]; rfl
            have d1 : Y4.cell? ⟨Bc, 1, none⟩ = some (.int .i64 0) := by simp only [World.cell?, qc4]; rfl
            have f1 : Y4.cell? ⟨B15, 1, none⟩ = some (.int .i64 0) := by simp only [World.cell?, q154]; rfl
            have d2 : Y4.cell? ⟨Bc, 2, none⟩ = some (.int .i64 0) := by simp only [World.cell?, qc4]; rfl
            have f2 : Y4.cell? ⟨B15, 2, none⟩ = some (.int .i64 0) := by simp only [World.cell?, q154]; rfl
            have d3 : Y4.cell? ⟨Bc, 3, none⟩ = some (.int .i64 act.x.n) := by simp only [World.cell?, qc4]; rfl
            have f3 : Y4.cell? ⟨B15, 3, none⟩ = some (.int .i64 act.x.n) := by simp only [World.cell?, q154]; rfl
            have d4 : Y4.cell? ⟨Bc, 4, none⟩ = some (.int .i64 act.x.ph) := by simp only [World.cell?, qc4]; rfl
            have f4 : Y4.cell? ⟨B15, 4, none⟩ = some (.int .i64 act.x.ph) := by simp only [World.cell?, q154]; rfl
            clear HSp hg hrw qc4 q154 P3 QC3 Q15 OW3 c5
            go_wp2_with fail
            refine mp_r37 w Y4 (fun _ => True) G1 G2 L TM1 TR1 c _ _ _ _ _ _ _ _ _ _ _ _ _ _ _ _ _ _ _ _ _ _ _ _ _ _ _ _ _ _ _ _ _ _ _ _ _ _ _ _ _ _ _ _ _ _ _ _ _ _ _ _ _ _ _ _ _ _ _ _ _ _ _ _ _ _ _ _ _ _ _ _ _ _ _ _ _ _ _ _ _ _ _ _ _ _ _ _ _ _ _ _ _ _ _ _ _ _ _ _ _ _ _ _ _ _ _ _ _ _ _ _ _ _ _ _ _ _ _ _ _ _ _ _ _ _ _ _ _ _ _ _ _ _ _ _ _ _ _ _ _ _ _ _ _ _ _ _ _ _ _ _ _ _ _ _ _ _ _ _ _ _ _ _ _ _ _ _ _ _ _ _ _ _ _ _ _ _ _ _ _ _ _ _ _ _ _ _ _ _ _ _ _ _ _ P4.out S2.out _ _ ?_
            intro u182 u183 u184 u185 u186 u187 u188 u189 u190 u191 u192 u193 u194 YF bF
            have PF : Hid (PI w (fun _ => True) YF G1 G2 L TM1 TR1 c) := P4.out.below bF
            clear bF
            go_wp2_with fail
            go_roundw
            case rel => exact ⟨i + 1, HIN.out, by first | rfl | rw [HWI.out], ⟨_, _, _, PF.out, S2.out⟩⟩
            case measure => have := HIN.out; simp only [intOf]; omega
        have t3 : (act.k == 3) = false := by simp [e3]
        clear e0 e1 e2 e3 Q7
        go_wp2_with fail
        refine mp_r37 w V9 (fun _ => True) G1 G2 L M R c _ _ _ _ _ _ _ _ _ _ _ _ _ _ _ _ _ _ _ _ _ _ _ _ _ _ _ _ _ _ _ _ _ _ _ _ _ _ _ _ _ _ _ _ _ _ _ _ _ _ _ _ _ _ _ _ _ _ _ _ _ _ _ _ _ _ _ _ _ _ _ _ _ _ _ _ _ _ _ _ _ _ _ _ _ _ _ _ _ _ _ _ _ _ _ _ _ _ _ _ _ _ _ _ _ _ _ _ _ _ _ _ _ _ _ _ _ _ _ _ _ _ _ _ _ _ _ _ _ _ _ _ _ _ _ _ _ _ _ _ _ _ _ _ _ _ _ _ _ _ _ _ _ _ _ _ _ _ _ _ _ _ _ _ _ _ _ _ _ _ _ _ _ _ _ _ _ _ _ _ _ _ _ _ _ _ _ _ _ _ _ _ _ _ _ PV.out SM.out _ _ ?_
        intro u182 u183 u184 u185 u186 u187 u188 u189 u190 u191 u192 u193 u194 YF bF
        have PF : Hid (PI w (fun _ => True) YF G1 G2 L M R c) := PV.out.below bF
        clear bF
        go_wp2_with fail
        go_roundw
        case rel => exact ⟨i + 1, HIN.out, by first | rfl | rw [HWI.out], ⟨_, _, _, PF.out, SM.out⟩⟩
        case measure => have := HIN.out; simp only [intOf]; omega
      · have h2 : ¬ ((i : Int) < 100) := by omega
        have hii : (i : Int) < (n : Int) := by omega
        obtain ⟨M, R, c, pi, sim⟩ := hD.out
        have HK := knownM_any wr
        have BW : Hid (Below w.heap.size w wr) := pi.be
        clear pi sim hD hi hin h100
        go_wp2_with fail
        refine HK.mono ?_
        rintro e w9 ⟨rfl, b9⟩
        have BF : Hid (Below w.heap.size w w9) := BW.out.trans (b9.mono BW.out.size)
        clear HK b9 BW
        go_wp2
        go_ret
        exact ⟨rfl, BF.out⟩
    · have h2 : ¬ ((i : Int) < (n : Int)) := by omega
      obtain ⟨M, R, c, pi, sim⟩ := hD.out
      have HK := knownM_any wr
      have BW : Hid (Below w.heap.size w wr) := pi.be
      clear pi sim hD hi hin
      go_wp2_with fail
      refine HK.mono ?_
      rintro e w9 ⟨rfl, b9⟩
      have BF : Hid (Below w.heap.size w w9) := BW.out.trans (b9.mono BW.out.size)
      clear HK b9 BW
      go_wp2
      go_ret
      exact ⟨rfl, BF.out⟩
end Go.Proofs.Ytcmhkeaimgppgaa
