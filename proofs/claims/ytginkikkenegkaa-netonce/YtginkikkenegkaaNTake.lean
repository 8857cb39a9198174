/- Package net: Look, Take, Double. -/
import Derived.Test.YtginkikkenegkaaNCalls
namespace Go.Proofs.Ytginkikkenegkaa
open Go.RowKit Go.Maps
attribute [local go_sem] Oper.semAt_some
set_option linter.unusedVariables false

/-- What Look answers. -/
def LookTold (L : List Post) (k : Int) (w' : World) (e : Ending) : Prop :=
  ((k < 0 ∨ (L.length : Int) ≤ k) ∧ e = .returned (.tuple #[.agg #[.int .i64 0, .int .i64 0, .slice none 0 0], .int .i64 1])) ∨
  ∃ (i : Nat) (hi : i < L.length) (v : Value), k = (i : Int) ∧ e = .returned (.tuple #[.agg #[.int .i64 L[i].fr, .int .i64 L[i].to, v], .int .i64 0]) ∧ DataAt w' v L[i].b
def Small (L : List Post) : Prop := ∀ p ∈ L, p.b.length ≤ 1048576
set_option maxRecDepth 100000 in
set_option maxHeartbeats 4000000 in
theorem look_any {w : World} {base N B T : Nat} {bx : Int → Value} {L : List Post} (h : NetIn w base N B bx L T) (hs : Small L) (k : Int) (hT : T ≤ 1000000000000) : Calls Try.prog 14 #[.pointer (some ⟨N, 0, none⟩), .int .i64 k] w fun e w' => LookTold L k w' e ∧ Below w.heap.size w w' := by
  have bA := (Below.refl w.heap.size w).alloc (Nat.le_refl _) (.cells #[.int .i64 0, .int .i64 0, .slice none 0 0] 40)
  have r0 := row3 w (.int .i64 0) (.int .i64 0) (.slice none 0 0)
  have hA := h.below bA
  obtain ⟨wA, eA⟩ : ∃ wA, w.alloc (.cells #[.int .i64 0, .int .i64 0, .slice none 0 0] 40) = wA := ⟨_, rfl⟩
  rw [eA] at bA r0 hA
  have HF := find_any hA k hT
  have HA : Hid (NetIn wA base N B bx L T) := hA
  have R0 : Hid (wA.heap[w.heap.size]? = some (.cells #[.int .i64 0, .int .i64 0, .slice none 0 0] 40 (0, 0))) := r0
  have BA : Hid (Below w.heap.size w wA) := bA
  have HSm : Hid (Small L) := hs
  obtain ⟨S0, eS0⟩ : ∃ S0, w.heap.size = S0 := ⟨_, rfl⟩
  rw [eS0] at R0
  have ES : Hid (w.heap.size = S0) := eS0
  clear h hA bA r0 hs hT
  go_enter Try.func14, Try.ntmps14
  go_wp2_with (first | (rw [eA]) | fail)
  try rw [eA]
  refine HF.mono ?_
  rintro e w1 ⟨ft, b1⟩
  clear HF
  try rw [eS0]
  clear eA eS0
  rcases ft with ⟨hk, rfl⟩ | ⟨i, hi, rfl, rfl⟩
  · have bS := (Below.refl _ w1).alloc (Nat.le_refl _) (.cells #[.int .i64 0, .int .i64 0] 65)
    have r1 : (w1.alloc (.cells #[.int .i64 0, .int .i64 0] 65)).heap[S0]? = some (.cells #[.int .i64 0, .int .i64 0, .slice none 0 0] 40 (0, 0)) := by
      have lt := (Array.getElem?_eq_some_iff.1 R0.out).1
      rw [bS.block S0 (Nat.lt_of_lt_of_le lt b1.size), b1.block S0 lt]
      exact R0.out
    have R1 : Hid _ := r1
    have BS : Hid (Below w.heap.size w (w1.alloc (.cells #[.int .i64 0, .int .i64 0] 65))) := (BA.out.trans (b1.mono BA.out.size)).trans (bS.mono (BA.out.trans (b1.mono BA.out.size)).size)
    clear r1 bS b1
    go_wp2_with (first | (refine wpList_store_row rfl 40 (.tmp 4) (.tmp 16) rfl S0 #[.int .i64 0, .int .i64 0, .slice none 0 0] rfl rfl 40 _ R1.out (by kernel_rfl) rfl (by simp [Value.oneCell']) ?_))
    exact bodyPost_ret (results_rowN rfl _ _ S0 40 _ _ _ rfl (setRow_heap _ _ _ _ _ _ R1.out) Try.underlying40 rfl (by kernel_rfl)) rfl ⟨.inl ⟨hk, rfl⟩, rowN_below BS.out (by rw [← ES.out]; exact Nat.le_refl _)⟩
  · have HI : Hid (∃ h : i < L.length, True) := ⟨hi, trivial⟩
    have bS := (Below.refl _ w1).alloc (Nat.le_refl _) (.cells #[.int .i64 L[i].to, .int .i64 (spotOf L i : Nat)] 65)
    have h1 := HA.out.below b1
    have hS := h1.below bS
    have HL := letter_any hS hi
    obtain ⟨p, ep⟩ : ∃ p, L[i] = p := ⟨_, rfl⟩
    have dp := hS.dat L[i] (List.getElem_mem hi)
    have sp := HSm.out L[i] (List.getElem_mem hi)
    rw [ep] at HL dp sp bS hS
    rw [ep]
    obtain ⟨at_, eat⟩ : ∃ at_, spotOf L i = at_ := ⟨_, rfl⟩
    rw [eat] at HL dp bS hS
    rw [eat]
    obtain ⟨ws, ews⟩ : ∃ ws, w1.alloc (.cells #[.int .i64 p.to, .int .i64 (at_ : Int)] 65) = ws := ⟨_, rfl⟩
    rw [ews] at HL dp bS hS
    have c0 : ws.cell? ⟨w1.heap.size, 0, none⟩ = some (.int .i64 p.to) := by have q := heap_alloc_new w1 (.cells #[.int .i64 p.to, .int .i64 (at_ : Int)] 65); rw [ews] at q; unfold World.cell?; simp only [q]; rfl
    have c1 : ws.cell? ⟨w1.heap.size, 1, none⟩ = some (.int .i64 (at_ : Int)) := by have q := heap_alloc_new w1 (.cells #[.int .i64 p.to, .int .i64 (at_ : Int)] 65); rw [ews] at q; unfold World.cell?; simp only [q]; rfl
    have EP : Hid (∀ h : i < L.length, L[i] = p) := fun _ => ep
    have DP : Hid (DataAt ws p.dv p.b) := dp
    have SPp : Hid (p.b.length ≤ 1048576) := sp
    have lt0 := (Array.getElem?_eq_some_iff.1 R0.out).1
    have RS : Hid (ws.heap[S0]? = some (.cells #[.int .i64 0, .int .i64 0, .slice none 0 0] 40 (0, 0))) := by
      show _ = _
      rw [bS.block S0 (Nat.lt_of_lt_of_le lt0 b1.size), b1.block S0 lt0]
      exact R0.out
    have BS : Hid (Below w.heap.size w ws) := (BA.out.trans (b1.mono BA.out.size)).trans (bS.mono (BA.out.trans (b1.mono BA.out.size)).size)
    clear h1 hS bS b1 dp sp ep eat lt0
    go_wp2_with (first | (rw [ews]) | fail)
    try rw [ews]
    refine HL.mono ?_
    rintro e w2 ⟨rfl, b2⟩
    have HC := copied_any p.fr p.to p.dv p.b w2 (DP.out.below b2) (by have := SPp.out; omega)
    have R2 : Hid (w2.heap[S0]? = some (.cells #[.int .i64 0, .int .i64 0, .slice none 0 0] 40 (0, 0))) := (b2.block S0 (Array.getElem?_eq_some_iff.1 RS.out).1).trans RS.out
    have B2 : Hid (Below w.heap.size w w2) := BS.out.trans (b2.mono BS.out.size)
    clear HL b2 c0 c1 ews
    go_wp2_with fail
    refine HC.mono ?_
    rintro e w3 ⟨v, rfl, d3, b3⟩
    have R3 : Hid (w3.heap[S0]? = some (.cells #[.int .i64 0, .int .i64 0, .slice none 0 0] 40 (0, 0))) := (b3.block S0 (Array.getElem?_eq_some_iff.1 R2.out).1).trans R2.out
    have B3 : Hid (Below w.heap.size w w3) := B2.out.trans (b3.mono B2.out.size)
    have D3 : Hid (DataAt w3 v p.b) := d3
    obtain ⟨a', c', rfl, s', n', u'⟩ := d3
    clear HC b3 s' n' u'
    go_wp2_with (first | (refine wpList_store_row rfl 40 (.tmp 4) (.tmp 21) rfl S0 #[.int .i64 p.fr, .int .i64 p.to, .slice a' p.b.length c'] rfl rfl 40 _ R3.out (by kernel_rfl) rfl (by simp [Value.oneCell']) ?_))
    refine bodyPost_ret (results_rowN rfl _ _ S0 40 _ _ _ rfl (setRow_heap _ _ _ _ _ _ R3.out) Try.underlying40 rfl (by kernel_rfl)) rfl ⟨.inr ?_, rowN_below B3.out (by rw [← ES.out]; exact Nat.le_refl _)⟩
    obtain ⟨hi, _⟩ := HI.out
    refine ⟨i, hi, .slice a' p.b.length c', rfl, by rw [EP.out hi]; rfl, ?_⟩
    rw [EP.out hi]
    refine D3.out.keep fun g ⟨cs, z, e⟩ => setRow_other _ _ _ _ (fun eq => ?_)
    rw [eq, R3.out] at e
    injection e with e
    injection e with _ e _
    exact absurd e (by decide)
end Go.Proofs.Ytginkikkenegkaa
