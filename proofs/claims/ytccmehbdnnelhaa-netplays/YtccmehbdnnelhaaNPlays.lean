/- NetPlays: the law. -/
import Derived.Test.YtccmehbdnnelhaaNAlike
import Derived.Test.YtccmehbdnnelhaaNStep
import Derived.Test.YtccmehbdnnelhaaNKeeps
import Derived.Deep.MidRow
namespace Go.Proofs.Ytccmehbdnnelhaa
open Go.RowKit Go.Maps Go.Shelf
attribute [local go_sem] Oper.semAt_some
set_option linter.unusedVariables false
theorem i64_kwf {k : Int} (h : kwf k) : -9223372036854775808 ≤ k ∧ k ≤ 9223372036854775807 := by
  have : (Lit.int .i64 k).wf = true := h
  simpa [Lit.wf, IntKind.min, IntKind.max, IntKind.bits, IntKind.signed] using this
set_option maxRecDepth 100000 in
set_option maxHeartbeats 8000000 in
theorem netPlays_any (la : Option Addr) (ln lc : Nat) (os : List OpN) (w : World) (h : OpsN w la ln os) (hb : ∀ o ∈ os, o.b.length ≤ 140737488351232) : Calls Try.prog 3 #[.slice la ln lc] w fun e w' => e = .returned (.bool true) ∧ Below w.heap.size w w' := by
  have HO : Hid (OpsN w la ln os) := h
  have HBn : Hid (∀ o ∈ os, o.b.length ≤ 140737488351232) := hb
  clear h hb
  go_enter Try.func3, Try.ntmps3
  go_wp2_with fail
  refine (new_any w).mono ?_
  rintro e w1 ⟨rfl, n1, b1⟩
  have bR := (Below.refl _ w1).alloc (Nat.le_refl _) (.cells #[.slice none 0 0] 28)
  have qR := heap_alloc_new w1 (.cells #[.slice none 0 0] 28)
  obtain ⟨V, eV⟩ : ∃ V, w1.alloc (.cells #[.slice none 0 0] 28) = V := ⟨_, rfl⟩
  rw [eV] at bR qR
  have HEV : Hid _ := eV
  obtain ⟨N, eN⟩ : ∃ N, w.heap.size = N := ⟨_, rfl⟩
  obtain ⟨R, eR⟩ : ∃ R, w1.heap.size = R := ⟨_, rfl⟩
  have HD0 : Hid (Du w V N R 0 [] []) := by
    rw [← eN, ← eR]
    exact ⟨⟨fun p hp => (by cases hp), .inl ⟨n1.below bR, rfl, rfl⟩⟩, ⟨_, ⟨qR, b1.size, World.ownsRow_nil _ _ _ _, fun q hq => (by cases hq), Nat.zero_le _⟩⟩, Twin.nil, b1.trans (bR.mono b1.size)⟩
  have ER : Hid (w1.heap.size = R) := eR
  rw [eN]
  clear n1 b1 bR qR eV eN eR
  repeat
    (fail_if_success (guard_target =~ (Code.region 5 _ _).wp _ _ _ _)
     first | go_values | go_skip | go_guarded | go_step | go_upon | go_back | go_simp)
  rw [show _ = V from HEV.out, ER.out]
  clear HEV ER
  go_wp2_with fail
  go_loopw [5] (fun iv wr => ∃ (k T : Nat) (L : List Post) (ms : List OpN), iv = .int .i64 (k : Int) ∧ Hid (k ≤ 120 ∧ k ≤ os.length ∧ T ≤ k * 20000) ∧ Hid (Du w wr N R T L ms)) (fun iv _ => os.length - (intOf iv).toNat)
  case atStart => exact ⟨0, 0, [], [], rfl, ⟨by omega, by omega, by omega⟩, HD0.out⟩
  case round =>
    clear HD0
    obtain ⟨k, T, L, ms, rfl, hk, hD⟩ := hrel
    have hln : ln = os.length := HO.out.1
    by_cases hlt : k < os.length ∧ k < 120
    · obtain ⟨b, off, rfl, oa, o0, o1, o2, o3⟩ := HO.out.at hlt.1
      have hbn := HBn.out _ (List.getElem_mem hlt.1)
      obtain ⟨o, eo⟩ : ∃ o, os[k] = o := ⟨_, rfl⟩
      rw [eo] at oa o0 o1 o2 o3 hbn
      obtain ⟨ok, of_, on_, oaa, oc, ob⟩ := o
      simp only at oa o0 o1 o2 o3 hbn
      have OA : Hid (OpN.At w ⟨ok, of_, on_, oaa, oc, ob⟩) := oa
      have CC : Hid (∀ X, Below w.heap.size w X → X.rangeAt b (off + k * 4) [.int .i64 ok, .int .i64 of_, .int .i64 on_, .slice oaa ob.length oc]) := fun X hX j v hv => by
        have k0 := fun (q : Nat) v (h : w.cell? ⟨b, q, none⟩ = some v) => (hX.cell (p := ⟨b, q, none⟩) (World.block_lt_of_cell? w _ h)).trans h
        match j, hv with
        | 0, hv => rw [Nat.add_zero, k0 _ _ o0]; exact hv
        | 1, hv => rw [k0 _ _ o1]; exact hv
        | 2, hv => rw [k0 _ _ o2]; exact hv
        | 3, hv => rw [k0 _ _ o3]; exact hv
      have h1 : (k : Int) < (ln : Int) := by omega
      have h2 : (k : Int) < 120 := by omega
      have hkl : k < ln := by omega
      have HK : Hid (k < os.length ∧ k < 120) := hlt
      have HSt := step_any w wr N R T L ms ok of_ on_ oaa oc ob hD.out oa.hb oa.hbn (by omega) (i64_kwf oa.hn) (by have := hk.out; omega)
      have HBn2 : Hid (ob.length ≤ 140737488351232) := hbn
      have R0 : Hid (wr.rangeAt b (off + k * 4) [.int .i64 ok, .int .i64 of_, .int .i64 on_, .slice oaa ob.length oc]) := CC.out _ hD.out.bel
      have wk : IntKind.i64.wrap ((k : Int) + 1) = (k : Int) + 1 := by rw [IntKind.wrap_i64]; omega
      have C2 : Hid (∀ X, Below w.heap.size w X → X.cell? ⟨b, off + k * 4 + 2, none⟩ = some (.int .i64 on_)) := fun X hX => CC.out X hX 2 _ rfl
      obtain ⟨bn, ebn⟩ : ∃ bn, ob.length = bn := ⟨_, rfl⟩
      rw [ebn] at R0 HSt CC
      clear hlt oa o0 o1 o2 o3 eo hln hbn ebn
      go_wp2_with (first
        | (refine wpList_load_mid rfl 32 (.tmp 25) rfl b (off + k * 4) rfl [.int .i64 ok, .int .i64 of_, .int .i64 on_, .slice oaa bn oc] _ R0.out Try.underlying32 rfl (by kernel_rfl) ?_))
      refine HSt.mono ?_
      rintro e w2 ⟨L2, ms2, T2, rfl, hT2, hD2⟩
      clear HSt
      have D2 : Hid (Du w w2 N R T2 L2 ms2) := hD2
      have HT2 : Hid (T2 ≤ T + 20000) := hT2
      have c2 := C2.out _ hD2.bel
      have HAl := alike_any w w2 N R T2 L2 ms2 on_ hD2 OA.out.hn (by have := hk.out; omega)
      clear hD2 hT2
      go_wp2_with fail
      refine HAl.mono ?_
      rintro e w3 ⟨rfl, hD3⟩
      have D3 : Hid (Du w w3 N R T2 L2 ms2) := hD3
      clear HAl hD3 c2
      go_wp2
      go_roundw
      case rel => exact ⟨k + 1, T2, L2, ms2, by go_num, ⟨by have := HK.out; omega, by have := HK.out; omega, by have := HT2.out; have := hk.out; omega⟩, D3.out⟩
      case measure => simp only [intOf]; have := HK.out; omega
    · have DD : Hid (Below w.heap.size w wr) := hD.out.bel
      have KN := knownN_any wr
      by_cases hlt2 : k < os.length
      · have h1 : (k : Int) < (ln : Int) := by omega
        have h2 : ¬ (k : Int) < 120 := by omega
        go_wp2_with fail
        refine KN.mono ?_
        rintro e w3 ⟨rfl, b3⟩
        have FIN : Hid (Below w.heap.size w w3) := DD.out.trans (b3.mono DD.out.size)
        clear KN b3
        go_wp2_with fail
        go_ret
        exact ⟨rfl, FIN.out⟩
      · have h1 : ¬ (k : Int) < (ln : Int) := by omega
        go_wp2_with fail
        refine KN.mono ?_
        rintro e w3 ⟨rfl, b3⟩
        have FIN : Hid (Below w.heap.size w w3) := DD.out.trans (b3.mono DD.out.size)
        clear KN b3
        go_wp2_with fail
        go_ret
        exact ⟨rfl, FIN.out⟩
end Go.Proofs.Ytccmehbdnnelhaa
