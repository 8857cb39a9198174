/- Package net: copied, with where the bytes lie. -/
import Derived.Test.YtccmehbdnnelhaaNOwn
namespace Go.Proofs.Ytccmehbdnnelhaa
open Go.RowKit Go.Maps
attribute [local go_sem] Oper.semAt_some
set_option linter.unusedVariables false

set_option maxRecDepth 100000 in
set_option maxHeartbeats 4000000 in
theorem copiedS_any (fr to : Int) (dv : Value) (b : List (BitVec 8)) (w : World) (hd : DataAt w dv b) (hb : b.length ≤ 10000000) : Calls Try.prog 34 #[.agg #[.int .i64 fr, .int .i64 to, dv]] w fun e w' => ∃ v, e = .returned (.agg #[.int .i64 fr, .int .i64 to, v]) ∧ OwnAt w.heap.size w' v b ∧ Below w.heap.size w w' := by
  have b1 := (Below.refl w.heap.size w).alloc (Nat.le_refl _) (.cells #[.int .i64 fr, .int .i64 to, dv] 45)
  have b2 := b1.alloc (by simp) (.cells #[.int .i64 0, .int .i64 0, .slice none 0 0] 45)
  have r1 := row3 w (.int .i64 fr) (.int .i64 to) dv
  have r2 := row3 (w.alloc (.cells #[.int .i64 fr, .int .i64 to, dv] 45)) (.int .i64 0) (.int .i64 0) (.slice none 0 0)
  have r1' := (((Below.refl _ (w.alloc (.cells #[.int .i64 fr, .int .i64 to, dv] 45))).alloc (Nat.le_refl _) (.cells #[.int .i64 0, .int .i64 0, .slice none 0 0] 45)).block w.heap.size (by simp)).trans r1
  rw [show (w.alloc (.cells #[.int .i64 fr, .int .i64 to, dv] 45)).heap.size = w.heap.size + 1 by simp] at r2
  have hd2 := hd.below b2
  obtain ⟨wA, eA⟩ : ∃ wA, (w.alloc (.cells #[.int .i64 fr, .int .i64 to, dv] 45)).alloc (.cells #[.int .i64 0, .int .i64 0, .slice none 0 0] 45) = wA := ⟨_, rfl⟩
  have szA : wA.heap.size = w.heap.size + 2 := by rw [← eA]; simp
  have SZ : Hid (wA.heap.size = w.heap.size + 2) := szA
  rw [eA] at r1' r2 hd2 b2
  obtain ⟨a, c, rfl, s, hnil, u⟩ := hd2
  have HC := clone_any a b.length c b wA s hnil (by omega)
  have c2 : wA.cell? ⟨w.heap.size, 2, none⟩ = some (.slice a b.length c) := by unfold World.cell?; simp only [r1']; rfl
  have R1 : Hid (wA.heap[w.heap.size]? = some (.cells #[.int .i64 fr, .int .i64 to, .slice a b.length c] 45 (0, 0))) := r1'
  have R2 : Hid (wA.heap[w.heap.size + 1]? = some (.cells #[.int .i64 0, .int .i64 0, .slice none 0 0] 45 (0, 0))) := r2
  have BA : Hid (Below w.heap.size w wA) := b2
  have HB : Hid (b.length ≤ 10000000) := hb
  clear r1 r1' r2 b1 b2 hd u s hnil hb szA
  go_enter Try.func34, Try.ntmps34
  go_wp2_with (first | (rw [eA]) | fail)
  try rw [eA]
  refine HC.mono ?_
  rintro e w1 ⟨v, rfl, o1, bb⟩
  have d1 : OwnAt wA.heap.size w1 v b := o1
  have R1' : Hid (w1.heap[w.heap.size]? = some (.cells #[.int .i64 fr, .int .i64 to, .slice a b.length c] 45 (0, 0))) := (bb.block _ (Array.getElem?_eq_some_iff.1 R1.out).1).trans R1.out
  have R2' : Hid (w1.heap[w.heap.size + 1]? = some (.cells #[.int .i64 0, .int .i64 0, .slice none 0 0] 45 (0, 0))) := (bb.block _ (Array.getElem?_eq_some_iff.1 R2.out).1).trans R2.out
  obtain ⟨a', c', rfl⟩ := d1.form
  have DD : Hid (OwnAt wA.heap.size w1 (.slice a' b.length c') b) := d1
  have BB : Hid (Below w.heap.size w w1) := BA.out.trans (bb.mono BA.out.size)
  have q2 : w1.cell? ⟨w.heap.size, 2, none⟩ = some (.slice a b.length c) := by have := R1'.out; unfold World.cell?; simp only [this]; rfl
  have f2 : w1.frozen? ⟨w.heap.size, 2, none⟩ = false := by have := R1'.out; simp [World.frozen?, this]
  have h1 : (w1.setCell ⟨w.heap.size, 2, none⟩ (.slice a' b.length c')).heap[w.heap.size]? = some (.cells #[.int .i64 fr, .int .i64 to, .slice a' b.length c'] 45 (0, 0)) := by
    have := blockN_put R1'.out 2 (.slice a' b.length c')
    simpa using this
  have h2 : (w1.setCell ⟨w.heap.size, 2, none⟩ (.slice a' b.length c')).heap[w.heap.size + 1]? = some (.cells #[.int .i64 0, .int .i64 0, .slice none 0 0] 45 (0, 0)) := by
    rw [Below.heap_setCell _ _ _ _ (fun e => by simp at e)]
    exact R2'.out
  have H1 : Hid _ := h1
  have H2 : Hid _ := h2
  clear HC c2 R1 R2 o1 bb d1 h1 h2 BA
  go_wp2_with (first | (refine wpList_load_row rfl 45 (.tmp 1) rfl w.heap.size rfl 45 #[.int .i64 fr, .int .i64 to, .slice a' b.length c'] (0, 0) _ H1.out Try.underlying45 rfl (by kernel_rfl) ?_) | (refine wpList_store_row rfl 45 (.tmp 2) (.tmp 7) rfl (w.heap.size + 1) #[.int .i64 fr, .int .i64 to, .slice a' b.length c'] rfl rfl 45 _ H2.out (by kernel_rfl) rfl (by simp [Value.oneCell']) ?_))
  refine bodyPost_ret (results_cell_row rfl _ _ (w.heap.size + 1) 45 _ _ _ rfl (setRow_heap _ _ _ _ _ _ H2.out) Try.underlying45 rfl (by kernel_rfl)) rfl ⟨_, rfl, ?_, rowN_below (BB.out.setCell (by simp) _) (by omega)⟩
  refine (DD.out.mono (by rw [SZ.out]; omega)).keep fun g hg hl h8 => ?_
  obtain ⟨cs, z, e⟩ := h8
  have n1 : g ≠ w.heap.size := fun eq => by
    rw [eq, R1'.out] at e
    injection e with e
    injection e with _ e _
    exact absurd e (by decide)
  have n2 : g ≠ w.heap.size + 1 := fun eq => by
    rw [eq, R2'.out] at e
    injection e with e
    injection e with _ e _
    exact absurd e (by decide)
  rw [setRow_other _ _ _ _ n2, Below.heap_setCell _ _ _ _ (fun e => n1 (by simpa using e))]
end Go.Proofs.Ytccmehbdnnelhaa

namespace Go.Proofs.Ytccmehbdnnelhaa
open Go.RowKit Go.Maps
attribute [local go_sem] Oper.semAt_some
set_option linter.unusedVariables false

def LookToldS (B : Nat) (L : List Post) (k : Int) (w' : World) (e : Ending) : Prop :=
  ((k < 0 ∨ (L.length : Int) ≤ k) ∧ e = .returned (.tuple #[.agg #[.int .i64 0, .int .i64 0, .slice none 0 0], .int .i64 1])) ∨
  ∃ (i : Nat) (hi : i < L.length) (v : Value), k = (i : Int) ∧ e = .returned (.tuple #[.agg #[.int .i64 L[i].fr, .int .i64 L[i].to, v], .int .i64 0]) ∧ OwnAt B w' v L[i].b
set_option maxRecDepth 100000 in
set_option maxHeartbeats 4000000 in
theorem lookS_any {w : World} {base N B T : Nat} {bx : Int → Value} {L : List Post} (h : NetIn w base N B bx L T) (hs : Small L) (k : Int) (hT : T ≤ 1000000000000) : Calls Try.prog 21 #[.pointer (some ⟨N, 0, none⟩), .int .i64 k] w fun e w' => LookToldS w.heap.size L k w' e ∧ Below w.heap.size w w' := by
  have bA := (Below.refl w.heap.size w).alloc (Nat.le_refl _) (.cells #[.int .i64 0, .int .i64 0, .slice none 0 0] 45)
  have r0 := row3 w (.int .i64 0) (.int .i64 0) (.slice none 0 0)
  have hA := h.below bA
  obtain ⟨wA, eA⟩ : ∃ wA, w.alloc (.cells #[.int .i64 0, .int .i64 0, .slice none 0 0] 45) = wA := ⟨_, rfl⟩
  rw [eA] at bA r0 hA
  have HF := find_any hA k hT
  have HA : Hid (NetIn wA base N B bx L T) := hA
  have R0 : Hid (wA.heap[w.heap.size]? = some (.cells #[.int .i64 0, .int .i64 0, .slice none 0 0] 45 (0, 0))) := r0
  have BA : Hid (Below w.heap.size w wA) := bA
  have HSm : Hid (Small L) := hs
  obtain ⟨S0, eS0⟩ : ∃ S0, w.heap.size = S0 := ⟨_, rfl⟩
  rw [eS0] at R0
  have ES : Hid (w.heap.size = S0) := eS0
  clear h hA bA r0 hs hT
  go_enter Try.func21, Try.ntmps21
  go_wp2_with (first | (rw [eA]) | fail)
  try rw [eA]
  refine HF.mono ?_
  rintro e w1 ⟨ft, b1⟩
  clear HF
  try rw [eS0]
  clear eA eS0
  rcases ft with ⟨hk, rfl⟩ | ⟨i, hi, rfl, rfl⟩
  · have bS := (Below.refl _ w1).alloc (Nat.le_refl _) (.cells #[.int .i64 0, .int .i64 0] 63)
    have r1 : (w1.alloc (.cells #[.int .i64 0, .int .i64 0] 63)).heap[S0]? = some (.cells #[.int .i64 0, .int .i64 0, .slice none 0 0] 45 (0, 0)) := by
      have lt := (Array.getElem?_eq_some_iff.1 R0.out).1
      rw [bS.block S0 (Nat.lt_of_lt_of_le lt b1.size), b1.block S0 lt]
      exact R0.out
    have R1 : Hid _ := r1
    have BS : Hid (Below w.heap.size w (w1.alloc (.cells #[.int .i64 0, .int .i64 0] 63))) := (BA.out.trans (b1.mono BA.out.size)).trans (bS.mono (BA.out.trans (b1.mono BA.out.size)).size)
    clear r1 bS b1
    go_wp2_with (first | (refine wpList_store_row rfl 45 (.tmp 4) (.tmp 16) rfl S0 #[.int .i64 0, .int .i64 0, .slice none 0 0] rfl rfl 45 _ R1.out (by kernel_rfl) rfl (by simp [Value.oneCell']) ?_))
    exact bodyPost_ret (results_rowN rfl _ _ S0 45 _ _ _ rfl (setRow_heap _ _ _ _ _ _ R1.out) Try.underlying45 rfl (by kernel_rfl)) rfl ⟨.inl ⟨hk, rfl⟩, rowN_below BS.out (by rw [← ES.out]; exact Nat.le_refl _)⟩
  · have HI : Hid (∃ h : i < L.length, True) := ⟨hi, trivial⟩
    have bS := (Below.refl _ w1).alloc (Nat.le_refl _) (.cells #[.int .i64 L[i].to, .int .i64 (spotOf L i : Nat)] 63)
    have h1 := HA.out.below b1
    have hS := h1.below bS
    have HL := letter_any hS hi
    obtain ⟨p, ep⟩ : ∃ p, L[i] = p := ⟨_, rfl⟩
    have dp := hS.dat L[i] (List.getElem_mem hi)
    have sp := HSm.out L[i] (List.getElem_mem hi)
    rw [ep] at HL dp sp bS hS
    rw [ep]
    obtain ⟨at_, eat⟩ : ∃ at_, spotOf L i = at_ := ⟨_, rfl⟩
    rw [eat] at HL dp bS hS
    rw [eat]
    obtain ⟨ws, ews⟩ : ∃ ws, w1.alloc (.cells #[.int .i64 p.to, .int .i64 (at_ : Int)] 63) = ws := ⟨_, rfl⟩
    rw [ews] at HL dp bS hS
    have c0 : ws.cell? ⟨w1.heap.size, 0, none⟩ = some (.int .i64 p.to) := by have q := heap_alloc_new w1 (.cells #[.int .i64 p.to, .int .i64 (at_ : Int)] 63); rw [ews] at q; unfold World.cell?; simp only [q]; rfl
    have c1 : ws.cell? ⟨w1.heap.size, 1, none⟩ = some (.int .i64 (at_ : Int)) := by have q := heap_alloc_new w1 (.cells #[.int .i64 p.to, .int .i64 (at_ : Int)] 63); rw [ews] at q; unfold World.cell?; simp only [q]; rfl
    have EP : Hid (∀ h : i < L.length, L[i] = p) := fun _ => ep
    have DP : Hid (DataAt ws p.dv p.b) := dp
    have SPp : Hid (p.b.length ≤ 1048576) := sp
    have lt0 := (Array.getElem?_eq_some_iff.1 R0.out).1
    have RS : Hid (ws.heap[S0]? = some (.cells #[.int .i64 0, .int .i64 0, .slice none 0 0] 45 (0, 0))) := by
      show _ = _
      rw [bS.block S0 (Nat.lt_of_lt_of_le lt0 b1.size), b1.block S0 lt0]
      exact R0.out
    have BS : Hid (Below w.heap.size w ws) := (BA.out.trans (b1.mono BA.out.size)).trans (bS.mono (BA.out.trans (b1.mono BA.out.size)).size)
    clear h1 hS bS b1 dp sp ep eat lt0
    go_wp2_with (first | (rw [ews]) | fail)
    try rw [ews]
    refine HL.mono ?_
    rintro e w2 ⟨rfl, b2⟩
    have HC := copiedS_any p.fr p.to p.dv p.b w2 (DP.out.below b2) (by have := SPp.out; omega)
    have R2 : Hid (w2.heap[S0]? = some (.cells #[.int .i64 0, .int .i64 0, .slice none 0 0] 45 (0, 0))) := (b2.block S0 (Array.getElem?_eq_some_iff.1 RS.out).1).trans RS.out
    have B2 : Hid (Below w.heap.size w w2) := BS.out.trans (b2.mono BS.out.size)
    clear HL b2 c0 c1 ews
    go_wp2_with fail
    refine HC.mono ?_
    rintro e w3 ⟨v, rfl, d3, b3⟩
    have R3 : Hid (w3.heap[S0]? = some (.cells #[.int .i64 0, .int .i64 0, .slice none 0 0] 45 (0, 0))) := (b3.block S0 (Array.getElem?_eq_some_iff.1 R2.out).1).trans R2.out
    have B3 : Hid (Below w.heap.size w w3) := B2.out.trans (b3.mono B2.out.size)
    have D3 : Hid (OwnAt w2.heap.size w3 v p.b) := d3
    obtain ⟨a', c', rfl⟩ := d3.form
    clear HC b3 d3
    go_wp2_with (first | (refine wpList_store_row rfl 45 (.tmp 4) (.tmp 21) rfl S0 #[.int .i64 p.fr, .int .i64 p.to, .slice a' p.b.length c'] rfl rfl 45 _ R3.out (by kernel_rfl) rfl (by simp [Value.oneCell']) ?_))
    refine bodyPost_ret (results_rowN rfl _ _ S0 45 _ _ _ rfl (setRow_heap _ _ _ _ _ _ R3.out) Try.underlying45 rfl (by kernel_rfl)) rfl ⟨.inr ?_, rowN_below B3.out (by rw [← ES.out]; exact Nat.le_refl _)⟩
    obtain ⟨hi, _⟩ := HI.out
    refine ⟨i, hi, .slice a' p.b.length c', rfl, by rw [EP.out hi]; rfl, ?_⟩
    rw [EP.out hi]
    have lt2 := (Array.getElem?_eq_some_iff.1 R2.out).1
    refine (D3.out.keep fun g hg hl h8 => setRow_other _ _ _ _ (by omega)).mono B2.out.size
end Go.Proofs.Ytccmehbdnnelhaa

namespace Go.Proofs.Ytccmehbdnnelhaa
open Go.RowKit Go.Maps
attribute [local go_sem] Oper.semAt_some
set_option linter.unusedVariables false

def TakeToldS (base N B T : Nat) (L : List Post) (k : Int) (w w' : World) (e : Ending) : Prop :=
  ((k < 0 ∨ (L.length : Int) ≤ k) ∧ e = .returned (.tuple #[.agg #[.int .i64 0, .int .i64 0, .slice none 0 0], .int .i64 1]) ∧ Below w.heap.size w w') ∨
  ∃ (i : Nat) (hi : i < L.length) (v : Value), k = (i : Int) ∧ e = .returned (.tuple #[.agg #[.int .i64 L[i].fr, .int .i64 L[i].to, v], .int .i64 0]) ∧ OwnAt w.heap.size w' v L[i].b ∧ ∃ bx', NetIn w' base N B bx' (L.eraseIdx i) T ∧ NKeep base w w'
set_option maxRecDepth 100000 in
set_option maxHeartbeats 4000000 in
theorem takeS_any {w : World} {base N B T : Nat} {bx : Int → Value} {L : List Post} (h : NetIn w base N B bx L T) (hs : Small L) (k : Int) (hT : T ≤ 1000000000000) : Calls Try.prog 13 #[.pointer (some ⟨N, 0, none⟩), .int .i64 k] w fun e w' => TakeToldS base N B T L k w w' e := by
  have bA := (Below.refl w.heap.size w).alloc (Nat.le_refl _) (.cells #[.int .i64 0, .int .i64 0, .slice none 0 0] 45)
  have r0 := row3 w (.int .i64 0) (.int .i64 0) (.slice none 0 0)
  have hA := h.below bA
  have hbs : base ≤ w.heap.size := Nat.le_of_lt (Nat.lt_of_le_of_lt h.bN h.ltN)
  obtain ⟨wA, eA⟩ : ∃ wA, w.alloc (.cells #[.int .i64 0, .int .i64 0, .slice none 0 0] 45) = wA := ⟨_, rfl⟩
  rw [eA] at bA r0 hA
  have HF := lookS_any hA hs k hT
  have HA : Hid (NetIn wA base N B bx L T) := hA
  have R0 : Hid (wA.heap[w.heap.size]? = some (.cells #[.int .i64 0, .int .i64 0, .slice none 0 0] 45 (0, 0))) := r0
  have BA : Hid (Below w.heap.size w wA ∧ base ≤ w.heap.size) := ⟨bA, hbs⟩
  have HT : Hid (T ≤ 1000000000000) := hT
  obtain ⟨S0, eS0⟩ : ∃ S0, w.heap.size = S0 := ⟨_, rfl⟩
  rw [eS0] at R0
  have ES : Hid (w.heap.size = S0) := eS0
  clear h hA bA r0 hs hT hbs
  go_enter Try.func13, Try.ntmps13
  go_wp2_with (first | (rw [eA]) | fail)
  try rw [eA]
  refine HF.mono ?_
  rintro e w1 ⟨ft, b1⟩
  clear HF
  try rw [eS0]
  clear eA eS0
  have lt0 := (Array.getElem?_eq_some_iff.1 R0.out).1
  rcases ft with ⟨hk, rfl⟩ | ⟨i, hi, v, rfl, rfl, dv⟩
  · have bS := (Below.refl _ w1).alloc (Nat.le_refl _) (.cells #[.int .i64 0, .int .i64 0, .slice none 0 0] 45)
    have r1 : (w1.alloc (.cells #[.int .i64 0, .int .i64 0, .slice none 0 0] 45)).heap[S0]? = some (.cells #[.int .i64 0, .int .i64 0, .slice none 0 0] 45 (0, 0)) := by
      rw [bS.block S0 (Nat.lt_of_lt_of_le lt0 b1.size), b1.block S0 lt0]
      exact R0.out
    have R1 : Hid _ := r1
    have BS : Hid (Below w.heap.size w (w1.alloc (.cells #[.int .i64 0, .int .i64 0, .slice none 0 0] 45))) := (BA.out.1.trans (b1.mono BA.out.1.size)).trans (bS.mono (BA.out.1.trans (b1.mono BA.out.1.size)).size)
    clear r1 bS b1 lt0
    go_wp2_with (first | (refine wpList_store_row rfl 45 (.tmp 4) (.tmp 16) rfl S0 #[.int .i64 0, .int .i64 0, .slice none 0 0] rfl rfl 45 _ R1.out (by kernel_rfl) rfl (by simp [Value.oneCell']) ?_))
    exact bodyPost_ret (results_rowN rfl _ _ S0 45 _ _ _ rfl (setRow_heap _ _ _ _ _ _ R1.out) Try.underlying45 rfl (by kernel_rfl)) rfl (.inl ⟨hk, rfl, rowN_below BS.out (by rw [← ES.out]; exact Nat.le_refl _)⟩)
  · have HI : Hid (∃ h : i < L.length, True) := ⟨hi, trivial⟩
    obtain ⟨p, ep⟩ : ∃ p, L[i] = p := ⟨_, rfl⟩
    rw [ep] at dv
    rw [ep]
    have EP : Hid (∀ h : i < L.length, L[i] = p) := fun _ => ep
    obtain ⟨fr, to, pv, b, pt⟩ := p
    simp only at dv
    obtain ⟨va, vc, rfl⟩ := OwnAt.form dv
    have dv' : OwnAt wA.heap.size w1 (.slice va b.length vc) b := dv
    have bS := (Below.refl _ w1).alloc (Nat.le_refl _) (.cells #[.int .i64 fr, .int .i64 to, .slice va b.length vc] 45)
    have r1 := row3 w1 (.int .i64 fr) (.int .i64 to) (.slice va b.length vc)
    have h1 := (HA.out.below b1).below bS
    have hdS := dv'.below bS
    have bW : Below w.heap.size w (w1.alloc (.cells #[.int .i64 fr, .int .i64 to, .slice va b.length vc] 45)) := (BA.out.1.trans (b1.mono BA.out.1.size)).trans (bS.mono (BA.out.1.trans (b1.mono BA.out.1.size)).size)
    have r0 : (w1.alloc (.cells #[.int .i64 fr, .int .i64 to, .slice va b.length vc] 45)).heap[S0]? = some (.cells #[.int .i64 0, .int .i64 0, .slice none 0 0] 45 (0, 0)) := by
      rw [bS.block S0 (Nat.lt_of_lt_of_le lt0 b1.size), b1.block S0 lt0]
      exact R0.out
    have ne : w1.heap.size ≠ S0 := fun e => by have := b1.size; omega
    obtain ⟨S1, eS1⟩ : ∃ S1, w1.heap.size = S1 := ⟨_, rfl⟩
    rw [eS1] at r1 ne
    obtain ⟨vn, evn⟩ : ∃ vn, b.length = vn := ⟨_, rfl⟩
    rw [evn] at r1 hdS bW r0 h1 bS
    rw [evn]
    obtain ⟨ws, ews⟩ : ∃ ws, w1.alloc (.cells #[.int .i64 fr, .int .i64 to, .slice va vn vc] 45) = ws := ⟨_, rfl⟩
    rw [ews] at r1 hdS bW r0 h1
    have NE : Hid (S1 ≠ S0) := ne
    have R1 : Hid (ws.drew.heap[S1]? = some (.cells #[.int .i64 fr, .int .i64 to, .slice va vn vc] 45 (0, 0))) := r1
    have kW : NKeep base w ws.drew := NKeep.of_below (bW.trans ((Below.refl _ ws).drew.mono bW.size)) BA.out.2
    have hd0 := drop_any (w := ws.drew) (h1.below (Below.refl _ ws).drew) (i : Int) HT.out
    have hdr : Calls Try.prog 17 #[.pointer (some ⟨N, 0, none⟩), .int .i64 (i : Int)] ws.drew fun e w' => e = .returned (.int .i64 0) ∧ w'.heap[S1]? = some (.cells #[.int .i64 fr, .int .i64 to, .slice va vn vc] 45 (0, 0)) ∧ w'.heap[S0]? = some (.cells #[.int .i64 0, .int .i64 0, .slice none 0 0] 45 (0, 0)) ∧
        ∃ bx', NetIn w' base N B bx' (L.eraseIdx i) T ∧ NKeep base w w' ∧ OwnAt wA.heap.size w' (.slice va vn vc) b := hd0.mono fun e w' hh => by
      rcases hh with ⟨hk, _⟩ | ⟨j, hj, ej, he, bx', hn, hk⟩
      · have := hi; omega
      · obtain rfl : i = j := by omega
        exact ⟨he, (hk.2.2 S1 _ _ _ r1 tLP tLN).trans r1, (hk.2.2 S0 _ _ _ r0 tLP tLN).trans r0, bx', hn, kW.trans hk, (hdS.below (Below.refl _ ws).drew).nk hk⟩
    clear hd0 kW hdS bW r0 r1 h1 bS dv' dv b1 lt0 ne ep evn
    go_wp2_with (first | (rw [ews]) | fail)
    try rw [ews]
    try rw [eS1]
    refine wp_region_held_drew (S := fun X => X.heap[S1]? = some (.cells #[.int .i64 fr, .int .i64 to, .slice va vn vc] 45 (0, 0))) (by kernel_rfl) R1.out (fun hHeld => ?_)
    refine take_row (i := 0) (oi := { dst := some 18, op := Go.Op.load 45 (Go.Operand.tmp 6), type := 45, pos := "net.go:153", after := #[], guard := none }) rfl (by kernel_rfl) (by kernel_rfl) (by kernel_rfl) 45 (.tmp 6) S1 45 #[.int .i64 fr, .int .i64 to, .slice va vn vc] (0, 0) _ (fun _ _ _ h => h) (by rfl) rfl (by go_simp <;> with_reducible rfl) (fun X hX => hX) Try.underlying45 rfl (by kernel_rfl) hHeld ?_
    try simp only [Act.put, List.setIfInBounds_toArray, List.set_cons_zero, List.set_cons_succ]
    refine take_run (i := 1) (oi := { dst := some 19, op := Go.Op.move (Go.Operand.tmp 0), type := 23, pos := "net.go:153", after := #[], guard := none }) (v := .pointer (some ⟨N, 0, none⟩)) rfl (by kernel_rfl) (by kernel_rfl) (by kernel_rfl) (fun _ _ _ h => h) (by rfl) ?_ hHeld ?_
    · (intro wq hSw; go_simp <;> with_reducible rfl)
    try simp only [Act.put, List.setIfInBounds_toArray, List.set_cons_zero, List.set_cons_succ]
    refine take_run (i := 2) (oi := { dst := some 20, op := Go.Op.move (Go.Operand.tmp 1), type := 3, pos := "net.go:153", after := #[], guard := none }) (v := .int .i64 (i : Int)) rfl (by kernel_rfl) (by kernel_rfl) (by kernel_rfl) (fun _ _ _ h => h) (by rfl) ?_ hHeld ?_
    · (intro wq hSw; go_simp <;> with_reducible rfl)
    try simp only [Act.put, List.setIfInBounds_toArray, List.set_cons_zero, List.set_cons_succ]
    refine take_call (i := 3) (oi := { dst := some 21, op := Go.Op.call { callee := Go.Callee.value (Go.Operand.func 17), args := #[Go.Operand.tmp 19, Go.Operand.tmp 20], argTypes := #[23, 3] }, type := 40, pos := "net.go:153", after := #[{ on := 1, ground := Go.Ground.data }, { on := 2, ground := Go.Ground.data }], guard := none }) rfl (by kernel_rfl) (by rfl) 17 _ (by go_simp <;> with_reducible rfl) ?_
    refine (hdr).mono ?_
    rintro e w3 ⟨rfl, q1, q0, q2⟩
    refine ⟨.int .i64 0, rfl, q1, ?_⟩
    try simp only [Act.put, List.setIfInBounds_toArray, List.set_cons_zero, List.set_cons_succ]
    have Q0 : Hid (w3.heap[S0]? = some (.cells #[.int .i64 0, .int .i64 0, .slice none 0 0] 45 (0, 0))) := q0
    have Q1 : Hid _ := q1
    have Q2 : Hid _ := q2
    clear q0 q2
    refine take_eff (i := 4) (oi := { dst := none, op := Go.Op.store 45 (Go.Operand.tmp 4) (Go.Operand.tmp 18), type := 0, pos := "net.go:153", after := #[{ on := 0, ground := Go.Ground.data }, { on := 3, ground := Go.Ground.chain }, { on := 0, ground := Go.Ground.phase }, { on := 1, ground := Go.Ground.textOnly Go.Departure.lateStores }, { on := 2, ground := Go.Ground.textOnly Go.Departure.lateStores }, { on := 3, ground := Go.Ground.textOnly Go.Departure.lateStoresUnsure }], guard := none }) rfl (by kernel_rfl) (by rfl) (exec_storeN 45 (.tmp 4) (.tmp 18) rfl S0 #[.int .i64 fr, .int .i64 to, .slice va vn vc] rfl rfl 45 _ Q0.out (by kernel_rfl) rfl (by simp [Value.oneCell'])) (by rw [setRow_other _ _ _ _ (fun e => NE.out e)]; exact Q1.out) ?_
    try simp only [Act.put]
    refine take_run (i := 5) (oi := { dst := some 5, op := Go.Op.assign (Go.Operand.tmp 21), type := 40, pos := "net.go:153", after := #[{ on := 3, ground := Go.Ground.data }, { on := 4, ground := Go.Ground.chain }, { on := 0, ground := Go.Ground.phase }, { on := 1, ground := Go.Ground.phase }, { on := 2, ground := Go.Ground.phase }, { on := 3, ground := Go.Ground.phase }, { on := 4, ground := Go.Ground.phase }], guard := none }) (v := .int .i64 0) rfl (by kernel_rfl) (by kernel_rfl) (by kernel_rfl) (fun _ _ _ h => h) (by rfl) ?_ (by rw [setRow_other _ _ _ _ (fun e => NE.out e)]; exact Q1.out) ?_
    · (intro wq hSw; go_simp <;> with_reducible rfl)
    try simp only [Act.put, List.setIfInBounds_toArray, List.set_cons_zero, List.set_cons_succ]
    refine wpAnyH_done (by kernel_rfl) ?_ _
    have hh : (w3.setRow S0 #[.int .i64 fr, .int .i64 to, .slice va vn vc]).heap[S0]? = some (.cells #[.int .i64 fr, .int .i64 to, .slice va vn vc] 45 (0, 0)) := setRow_heap _ _ _ _ _ _ Q0.out
    have HH : Hid _ := hh
    clear hh hHeld q1 hdr
    go_wp2_with fail
    refine bodyPost_ret (results_rowN rfl _ _ S0 45 _ _ _ rfl HH.out Try.underlying45 rfl (by kernel_rfl)) rfl (.inr ?_)
    obtain ⟨hi, _⟩ := HI.out
    obtain ⟨bx', hn, hk, hd⟩ := Q2.out
    refine ⟨i, hi, .slice va vn vc, rfl, by rw [EP.out hi]; rfl, ?_, bx', netIn_row hn Q0.out, hk.1.trans ?_, Nat.le_trans hk.2.1 (by simp), fun g cs t z e h1 h2 => ?_⟩
    · rw [EP.out hi]
      refine (hd.keep fun g hg hl h8 => setRow_other _ _ _ _ (fun eq => ?_)).mono BA.out.1.size
      obtain ⟨cs, z, e⟩ := h8
      rw [eq, Q0.out] at e
      injection e with e
      injection e with _ e _
      exact absurd e (by decide)
    · exact rowN_below (Below.refl base w3) (by have := BA.out.2; have := ES.out; omega)
    · have hlt := (Array.getElem?_eq_some_iff.1 e).1
      rw [setRow_other _ _ _ _ (fun eq => by have := ES.out; omega)]
      exact hk.2.2 g cs t z e h1 h2
end Go.Proofs.Ytccmehbdnnelhaa
