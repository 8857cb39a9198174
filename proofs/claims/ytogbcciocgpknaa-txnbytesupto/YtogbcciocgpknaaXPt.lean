/- A result as bytes. Written by gen_xpr.py. -/
import Derived.Test.YtogbcciocgpknaaTaS
namespace Go.Proofs.Ytogbcciocgpknaa
open Go.RowKit Cod
attribute [local go_sem] Oper.semAt_some
set_option linter.unusedVariables false
section
variable (y : Int) (wt : Bool) (rw_ rm : Int) (rows : List (ByteArray × Int)) (el : List (BitVec 8))
/-- A result's bytes; whether it is refused; what is answered. -/
def resH : List (BitVec 8) := (([] ++ enc (zig y)) ++ [bit8 wt]) ++ (enc (zig rw_) ++ enc (zig rm) ++ enc rows.length ++ rowsB rows)
def resB : List (BitVec 8) := resH y wt rw_ rm rows ++ sz el
def resX : Prop := 65536 < el.length ∨ 600 < rows.length ∨ 1048576 < (resB y wt rw_ rm rows el).length
open Classical in
noncomputable def resW : Int := if resX y wt rw_ rm rows el then 3 else 0
open Classical in
noncomputable def resL : List (BitVec 8) := if resX y wt rw_ rm rows el then [] else resB y wt rw_ rm rows el
def Put (w w' : World) (e : Ending) : Prop := ∃ v, e = .returned (.tuple #[v, .int .i64 (resW y wt rw_ rm rows el)]) ∧ Got w' v (resL y wt rw_ rm rows el) ∧ Below w.heap.size w w'
end
theorem put_no {w w' : World} {y : Int} {wt : Bool} {rw_ rm : Int} {rows : List (ByteArray × Int)} {el : List (BitVec 8)} (h : resX y wt rw_ rm rows el) (b : Below w.heap.size w w') : Put y wt rw_ rm rows el w w' (.returned (.tuple #[.slice none 0 0, .int .i64 3])) := by
  refine ⟨.slice none 0 0, ?_, ?_, b⟩
  · unfold resW; rw [if_pos h]
  · unfold resL; rw [if_pos h]; exact got_nil w'
theorem put_yes {w w' : World} {y : Int} {wt : Bool} {rw_ rm : Int} {rows : List (ByteArray × Int)} {el : List (BitVec 8)} {v : Value} (h : ¬ resX y wt rw_ rm rows el) (q : Got w' v (resB y wt rw_ rm rows el)) (b : Below w.heap.size w w') : Put y wt rw_ rm rows el w w' (.returned (.tuple #[v, .int .i64 0])) := by
  refine ⟨v, ?_, ?_, b⟩
  · unfold resW; rw [if_neg h]
  · unfold resL; rw [if_neg h]; exact q
theorem resH_le {y : Int} {wt : Bool} {rw_ rm : Int} {rows : List (ByteArray × Int)} (h1 : i64ok y) (h2 : i64ok rw_) (h3 : i64ok rm) (hr : ∀ r ∈ rows, i64ok r.2) (hz : rowsSize rows ≤ 70000000000000) : (resH y wt rw_ rm rows).length ≤ rowsSize rows + 100 := by
  have e1 := enc_zigX h1
  have e2 := replyX_le rw_ rm rows h2 h3 hr (by omega)
  simp only [resH, List.length_append, List.length_nil, List.length_cons] at e2 ⊢
  omega
set_option maxRecDepth 100000 in
set_option maxHeartbeats 4000000 in
theorem tPut_any (y : Int) (wt : Bool) (rw_ rm : Int) (qa : Option Addr) (qc : Nat) (rows : List (ByteArray × Int)) (ea : Option Addr) (ec : Nat) (el : List (BitVec 8)) (w : World) (h1 : i64ok y) (h2 : i64ok rw_) (h3 : i64ok rm) (hr : ∀ r ∈ rows, i64ok r.2) (hR : RowsAt w qa rows.length rows) (hd : Got w (.slice ea el.length ec) el) (hz : rowsSize rows ≤ 70000000000000) :
    Calls Try.prog 7 #[.agg #[.int .i64 y, .bool wt, .int .i64 rw_, .int .i64 rm, .slice qa rows.length qc, .slice ea el.length ec]] w fun e w' => Put y wt rw_ rm rows el w w' e := by
  have b0 : Below w.heap.size w (w.alloc (.cells #[.int .i64 y, .bool wt, .int .i64 rw_, .int .i64 rm, .slice qa rows.length qc, .slice ea el.length ec] 43)) := (Below.refl _ w).alloc (Nat.le_refl _) _
  have p0 : (w.alloc (.cells #[.int .i64 y, .bool wt, .int .i64 rw_, .int .i64 rm, .slice qa rows.length qc, .slice ea el.length ec] 43)).heap[w.heap.size]? = some (.cells #[.int .i64 y, .bool wt, .int .i64 rw_, .int .i64 rm, .slice qa rows.length qc, .slice ea el.length ec] 43 (0, 0)) := heap_alloc_new w _
  obtain ⟨wA, eA⟩ : ∃ x, w.alloc (.cells #[.int .i64 y, .bool wt, .int .i64 rw_, .int .i64 rm, .slice qa rows.length qc, .slice ea el.length ec] 43) = x := ⟨_, rfl⟩
  obtain ⟨P, eP⟩ : ∃ x, w.heap.size = x := ⟨_, rfl⟩
  have HD0 := hd.below b0
  have HR0 := hR.below b0
  rw [eA] at p0 b0 HD0 HR0
  rw [eP] at p0
  have hp : P < wA.heap.size := (Array.getElem?_eq_some_iff.1 p0).1
  have NO : Hid (resX y wt rw_ rm rows el → ∀ w', Below w.heap.size w w' → Put y wt rw_ rm rows el w w' (.returned (.tuple #[.slice none 0 0, .int .i64 3]))) := fun h w' b => put_no h b
  have YES : Hid (¬ resX y wt rw_ rm rows el → ∀ w' v, Got w' v (resB y wt rw_ rm rows el) → Below w.heap.size w w' → Put y wt rw_ rm rows el w w' (.returned (.tuple #[v, .int .i64 0]))) := fun h w' v q b => put_yes h q b
  have EA : Hid _ := eA
  have EP : Hid (w.heap.size = P) := eP
  have OK : Hid (i64ok y ∧ i64ok rw_ ∧ i64ok rm ∧ (∀ r ∈ rows, i64ok r.2) ∧ rowsSize rows ≤ 70000000000000) := ⟨h1, h2, h3, hr, hz⟩
  have HD : Hid (Got wA (.slice ea el.length ec) el) := HD0
  have HR : Hid (RowsAt wA qa rows.length rows) := HR0
  have BA : Hid (Below w.heap.size w wA) := b0
  have AT : Hid (∀ w', Below wA.heap.size wA w' → ∀ j v, (#[.int .i64 y, .bool wt, .int .i64 rw_, .int .i64 rm, .slice qa rows.length qc, .slice ea el.length ec] : Array Value)[j]? = some v → w'.cell? ⟨P, j, none⟩ = some v) := fun w' b j v hv => by
    have := (b.block P hp).trans p0
    simp only [World.cell?, this]
    exact hv
  have y5 : wA.cell? ⟨P, 5, none⟩ = some (.slice ea el.length ec) := AT.out wA (Below.refl _ _) 5 _ rfl
  have y4 : wA.cell? ⟨P, 4, none⟩ = some (.slice qa rows.length qc) := AT.out wA (Below.refl _ _) 4 _ rfl
  have y0 : wA.cell? ⟨P, 0, none⟩ = some (.int .i64 y) := AT.out wA (Below.refl _ _) 0 _ rfl
  clear eA eP p0 b0 HD0 HR0 hp h1 h2 h3 hr hR hd hz
  go_enter Try.func7, Try.ntmps7
  by_cases h0 : 65536 < el.length
  · have LH : Hid (65536 < el.length) := h0
    have q0 : (65536 : Int) < (el.length : Int) := by omega
    have r0 : decide ((65536 : Int) < (el.length : Int)) = true := decide_eq_true q0
    clear h0
    go_wp2_with (rw [EA.out, EP.out])
    go_ret2
    exact NO.out (.inl LH.out) wA BA.out
  have EL : Hid (¬ 65536 < el.length) := h0
  have q0 : ¬ (65536 : Int) < (el.length : Int) := by omega
  have r0 : decide ((65536 : Int) < (el.length : Int)) = false := decide_eq_false q0
  clear h0
  by_cases h1 : 600 < rows.length
  · have LH : Hid (600 < rows.length) := h1
    have q1 : (600 : Int) < (rows.length : Int) := by omega
    have r1 : decide ((600 : Int) < (rows.length : Int)) = true := decide_eq_true q1
    clear h1
    go_wp2_with (rw [EA.out, EP.out])
    go_ret2
    exact NO.out (.inr (.inl LH.out)) wA BA.out
  have RL : Hid (¬ 600 < rows.length) := h1
  have q1 : ¬ (600 : Int) < (rows.length : Int) := by omega
  have r1 : decide ((600 : Int) < (rows.length : Int)) = false := decide_eq_false q1
  clear h1
  have HX := int_got (got_nil wA) y OK.out.1 (by simp)
  go_wp2_with (rw [EA.out, EP.out])
  refine HX.mono ?_
  clear HX y0 y4 y5 q0 r0 q1 r1
  rintro e w1 ⟨v1, rfl, g1, b1⟩
  have y1 : w1.cell? ⟨P, 1, none⟩ = some (.bool wt) := AT.out w1 b1 1 _ rfl
  have HX := bool_got g1 wt (by have := enc_zigX OK.out.1; simp only [List.length_append, List.length_nil]; omega)
  have B1 : Hid (Below wA.heap.size wA w1) := b1
  clear g1 b1
  go_wp2_with fail
  refine HX.mono ?_
  clear HX y1
  rintro e w2 ⟨v2, rfl, g2, b2⟩
  have B2 : Hid (Below wA.heap.size wA w2) := B1.out.trans (b2.mono B1.out.size)
  have RG : Hid (w2.rangeAt P 2 [.int .i64 rw_, .int .i64 rm, .slice qa rows.length qc]) := fun j v hv => by
    have := AT.out w2 B2.out (2 + j) v
    match j, hv with
    | 0, hv => exact this hv
    | 1, hv => exact this hv
    | 2, hv => exact this hv
    | j + 3, hv => cases hv
  have HX := putReply_got g2 rw_ rm qa qc rows OK.out.2.1 OK.out.2.2.1 OK.out.2.2.2.1 (HR.out.below B2.out) (by have := enc_zigX OK.out.1; have := OK.out.2.2.2.2; simp only [List.length_append, List.length_nil, List.length_cons]; omega)
  clear g2 b2 B1
  go_wp2_with (refine wpList_load_mid rfl 32 (.tmp 24) rfl P 2 rfl [.int .i64 rw_, .int .i64 rm, .slice qa rows.length qc] _ RG.out Try.underlying32 rfl (by kernel_rfl) ?_)
  refine HX.mono ?_
  clear HX RG
  rintro e w3 ⟨v3, rfl, g3, b3⟩
  have B3 : Hid (Below wA.heap.size wA w3) := B2.out.trans (b3.mono B2.out.size)
  have y5 : w3.cell? ⟨P, 5, none⟩ = some (.slice ea el.length ec) := AT.out w3 B3.out 5 _ rfl
  have hl := resH_le (wt := wt) OK.out.1 OK.out.2.1 OK.out.2.2.1 OK.out.2.2.2.1 OK.out.2.2.2.2
  have g3' : Got w3 v3 (resH y wt rw_ rm rows) := g3
  have HX := bytes_got g3' (HD.out.below B3.out) (by have := EL.out; have := OK.out.2.2.2.2; omega)
  rw [show resH y wt rw_ rm rows ++ sz el = resB y wt rw_ rm rows el from rfl] at HX
  clear g3 b3 B2 g3' hl
  go_wp2_with fail
  refine HX.mono ?_
  clear HX y5
  rintro e w4 ⟨v4, rfl, g4, b4⟩
  have B4 : Hid (Below w.heap.size w w4) := BA.out.trans ((B3.out.trans (b4.mono B3.out.size)).mono BA.out.size)
  have G4 : Hid (Got w4 v4 (resB y wt rw_ rm rows el)) := g4
  clear b4
  obtain ⟨a4, c4, rfl, _⟩ := g4
  obtain ⟨nb, enb⟩ : ∃ n, (resB y wt rw_ rm rows el).length = n := ⟨_, rfl⟩
  have NB : Hid ((resB y wt rw_ rm rows el).length = nb) := enb
  have G5 : Hid (Got w4 (.slice a4 nb c4) (resB y wt rw_ rm rows el)) := by rw [← enb]; exact G4.out
  rw [enb]
  skip
  clear enb G4 
  by_cases hb : 1048576 < nb
  · have HB : Hid (1048576 < nb) := hb
    have q7 : (1048576 : Int) < (nb : Int) := by omega
    have r7 : decide ((1048576 : Int) < (nb : Int)) = true := decide_eq_true q7
    clear hb
    go_wp2
    go_ret2
    exact NO.out (.inr (.inr (by rw [NB.out]; exact HB.out))) w4 B4.out
  · have HB : Hid (¬ 1048576 < nb) := hb
    have q7 : ¬ (1048576 : Int) < (nb : Int) := by omega
    have r7 : decide ((1048576 : Int) < (nb : Int)) = false := decide_eq_false q7
    clear hb
    go_wp2
    go_ret2
    exact YES.out (fun h => by
      rcases h with h | h | h
      · exact EL.out h
      · exact RL.out h
      · rw [NB.out] at h; exact HB.out h) w4 _ G5.out B4.out
set_option maxRecDepth 100000 in
set_option maxHeartbeats 4000000 in
theorem rtPut_any (y : Int) (wt : Bool) (rw_ rm : Int) (qa : Option Addr) (qc : Nat) (rows : List (ByteArray × Int)) (ea : Option Addr) (ec : Nat) (el : List (BitVec 8)) (w : World) (h1 : i64ok y) (h2 : i64ok rw_) (h3 : i64ok rm) (hr : ∀ r ∈ rows, i64ok r.2) (hR : RowsAt w qa rows.length rows) (hd : Got w (.slice ea el.length ec) el) (hz : rowsSize rows ≤ 70000000000000) :
    Calls Try.prog 9 #[.agg #[.int .i64 y, .bool wt, .int .i64 rw_, .int .i64 rm, .slice qa rows.length qc, .slice ea el.length ec]] w fun e w' => Put y wt rw_ rm rows el w w' e := by
  have b0 : Below w.heap.size w (w.alloc (.cells #[.int .i64 y, .bool wt, .int .i64 rw_, .int .i64 rm, .slice qa rows.length qc, .slice ea el.length ec] 34)) := (Below.refl _ w).alloc (Nat.le_refl _) _
  have p0 : (w.alloc (.cells #[.int .i64 y, .bool wt, .int .i64 rw_, .int .i64 rm, .slice qa rows.length qc, .slice ea el.length ec] 34)).heap[w.heap.size]? = some (.cells #[.int .i64 y, .bool wt, .int .i64 rw_, .int .i64 rm, .slice qa rows.length qc, .slice ea el.length ec] 34 (0, 0)) := heap_alloc_new w _
  obtain ⟨wA, eA⟩ : ∃ x, w.alloc (.cells #[.int .i64 y, .bool wt, .int .i64 rw_, .int .i64 rm, .slice qa rows.length qc, .slice ea el.length ec] 34) = x := ⟨_, rfl⟩
  obtain ⟨P, eP⟩ : ∃ x, w.heap.size = x := ⟨_, rfl⟩
  have HD0 := hd.below b0
  have HR0 := hR.below b0
  rw [eA] at p0 b0 HD0 HR0
  rw [eP] at p0
  have hp : P < wA.heap.size := (Array.getElem?_eq_some_iff.1 p0).1
  have NO : Hid (resX y wt rw_ rm rows el → ∀ w', Below w.heap.size w w' → Put y wt rw_ rm rows el w w' (.returned (.tuple #[.slice none 0 0, .int .i64 3]))) := fun h w' b => put_no h b
  have YES : Hid (¬ resX y wt rw_ rm rows el → ∀ w' v, Got w' v (resB y wt rw_ rm rows el) → Below w.heap.size w w' → Put y wt rw_ rm rows el w w' (.returned (.tuple #[v, .int .i64 0]))) := fun h w' v q b => put_yes h q b
  have EA : Hid _ := eA
  have EP : Hid (w.heap.size = P) := eP
  have OK : Hid (i64ok y ∧ i64ok rw_ ∧ i64ok rm ∧ (∀ r ∈ rows, i64ok r.2) ∧ rowsSize rows ≤ 70000000000000) := ⟨h1, h2, h3, hr, hz⟩
  have HD : Hid (Got wA (.slice ea el.length ec) el) := HD0
  have HR : Hid (RowsAt wA qa rows.length rows) := HR0
  have BA : Hid (Below w.heap.size w wA) := b0
  have AT : Hid (∀ w', Below wA.heap.size wA w' → ∀ j v, (#[.int .i64 y, .bool wt, .int .i64 rw_, .int .i64 rm, .slice qa rows.length qc, .slice ea el.length ec] : Array Value)[j]? = some v → w'.cell? ⟨P, j, none⟩ = some v) := fun w' b j v hv => by
    have := (b.block P hp).trans p0
    simp only [World.cell?, this]
    exact hv
  have y5 : wA.cell? ⟨P, 5, none⟩ = some (.slice ea el.length ec) := AT.out wA (Below.refl _ _) 5 _ rfl
  have y4 : wA.cell? ⟨P, 4, none⟩ = some (.slice qa rows.length qc) := AT.out wA (Below.refl _ _) 4 _ rfl
  have y0 : wA.cell? ⟨P, 0, none⟩ = some (.int .i64 y) := AT.out wA (Below.refl _ _) 0 _ rfl
  clear eA eP p0 b0 HD0 HR0 hp h1 h2 h3 hr hR hd hz
  go_enter Try.func9, Try.ntmps9
  by_cases h0 : 65536 < el.length
  · have LH : Hid (65536 < el.length) := h0
    have q0 : (65536 : Int) < (el.length : Int) := by omega
    have r0 : decide ((65536 : Int) < (el.length : Int)) = true := decide_eq_true q0
    clear h0
    go_wp2_with (rw [EA.out, EP.out])
    go_ret2
    exact NO.out (.inl LH.out) wA BA.out
  have EL : Hid (¬ 65536 < el.length) := h0
  have q0 : ¬ (65536 : Int) < (el.length : Int) := by omega
  have r0 : decide ((65536 : Int) < (el.length : Int)) = false := decide_eq_false q0
  clear h0
  by_cases h1 : 600 < rows.length
  · have LH : Hid (600 < rows.length) := h1
    have q1 : (600 : Int) < (rows.length : Int) := by omega
    have r1 : decide ((600 : Int) < (rows.length : Int)) = true := decide_eq_true q1
    clear h1
    go_wp2_with (rw [EA.out, EP.out])
    go_ret2
    exact NO.out (.inr (.inl LH.out)) wA BA.out
  have RL : Hid (¬ 600 < rows.length) := h1
  have q1 : ¬ (600 : Int) < (rows.length : Int) := by omega
  have r1 : decide ((600 : Int) < (rows.length : Int)) = false := decide_eq_false q1
  clear h1
  have HX := refInt_got (got_nil wA) y OK.out.1 (by simp)
  go_wp2_with (rw [EA.out, EP.out])
  refine HX.mono ?_
  clear HX y0 y4 y5 q0 r0 q1 r1
  rintro e w1 ⟨v1, rfl, g1, b1⟩
  have y1 : w1.cell? ⟨P, 1, none⟩ = some (.bool wt) := AT.out w1 b1 1 _ rfl
  have HX := refBool_got g1 wt (by have := enc_zigX OK.out.1; simp only [List.length_append, List.length_nil]; omega)
  have B1 : Hid (Below wA.heap.size wA w1) := b1
  clear g1 b1
  go_wp2_with fail
  refine HX.mono ?_
  clear HX y1
  rintro e w2 ⟨v2, rfl, g2, b2⟩
  have B2 : Hid (Below wA.heap.size wA w2) := B1.out.trans (b2.mono B1.out.size)
  have RG : Hid (w2.rangeAt P 2 [.int .i64 rw_, .int .i64 rm, .slice qa rows.length qc]) := fun j v hv => by
    have := AT.out w2 B2.out (2 + j) v
    match j, hv with
    | 0, hv => exact this hv
    | 1, hv => exact this hv
    | 2, hv => exact this hv
    | j + 3, hv => cases hv
  obtain ⟨L2, eL2⟩ : ∃ L, ([] ++ enc (zig y)) ++ [bit8 wt] = L := ⟨_, rfl⟩
  have hL2 : L2.length ≤ 11 := by
    have := enc_zigX OK.out.1
    rw [← eL2]
    simp only [List.length_append, List.length_nil, List.length_cons]
    omega
  rw [eL2] at g2
  obtain ⟨a2, c2, rfl, s2, n2⟩ := g2
  obtain ⟨k2, ek2⟩ : ∃ k, L2.length = k := ⟨_, rfl⟩
  rw [ek2] at s2 hL2
  rw [ek2]
  have HX := refPutReply_any a2 k2 c2 L2 rw_ rm qa rows.length qc rows OK.out.2.1 OK.out.2.2.1 OK.out.2.2.2.1 w2 s2 n2 (HR.out.below B2.out) (by have := OK.out.2.2.2.2; omega)
  have E2 : Hid (([] ++ enc (zig y)) ++ [bit8 wt] = L2) := eL2
  clear eL2 ek2 hL2
  clear s2 n2 b2 B1
  go_wp2_with (refine wpList_load_mid rfl 32 (.tmp 24) rfl P 2 rfl [.int .i64 rw_, .int .i64 rm, .slice qa rows.length qc] _ RG.out Try.underlying32 rfl (by kernel_rfl) ?_)
  refine HX.mono ?_
  clear HX RG
  rintro e w3 ⟨v3, rfl, o3, b3⟩
  have B3 : Hid (Below wA.heap.size wA w3) := B2.out.trans (b3.mono B2.out.size)
  rw [show L2 ++ (enc (zig rw_) ++ enc (zig rm) ++ enc rows.length ++ rowsB rows) = resH y wt rw_ rm rows from by rw [← E2.out]; rfl] at o3
  have O3 : Hid (w3.ownsRow w2.heap.size 5 1 v3 _ (cellsOf (resH y wt rw_ rm rows)) ∧ w2.heap.size ≤ w3.heap.size) := ⟨o3, b3.size⟩
  have S2 : Hid (wA.heap.size ≤ w2.heap.size) := B2.out.size
  have y5 : w3.cell? ⟨P, 5, none⟩ = some (.slice ea el.length ec) := AT.out w3 B3.out 5 _ rfl
  have HX := refBytes_got (got_nil w3) (HD.out.below B3.out) (by have := EL.out; simp only [List.length_nil]; omega)
  rw [List.nil_append] at HX
  clear o3 b3 B2
  go_wp2_with fail
  refine HX.mono ?_
  clear HX y5
  rintro e w4 ⟨v4, rfl, g4, b4⟩
  obtain ⟨pa, pc, rfl, p2, p3⟩ := g4
  have hl := resH_le (wt := wt) OK.out.1 OK.out.2.1 OK.out.2.2.1 OK.out.2.2.2.1 OK.out.2.2.2.2
  have hs := sz_length_le el (by have := EL.out; omega)
  have o4 := owns_belowX O3.out.1 b4
  have ol := o4.1
  rw [cellsOf_length] at ol
  obtain ⟨v5, w5, hr5, o5, g5⟩ := run_append_bytes 25 w4 w2.heap.size v3 _ _ o4 pa _ pc _ p2 p3 (by have := EL.out; have := OK.out.2.2.2.2; omega) (Nat.le_trans O3.out.2 b4.size)
  have b4' : Below w.heap.size w w4 := BA.out.trans ((B3.out.trans (b4.mono B3.out.size)).mono BA.out.size)
  have B4 : Hid (Below w.heap.size w w5) := b4'.trans ((Below.refl _ w4).grown g5 b4'.size (fun k e => Nat.le_trans (Nat.le_trans BA.out.size S2.out) (o4.lt _ e).1))
  have G4 : Hid (Got w5 v5 (resB y wt rw_ rm rows el)) := got_owned o5 (by have := EL.out; have := OK.out.2.2.2.2; unfold maxLen; omega)
  clear p2 p3 hl hs o4 ol o5 g5 b4' b4 O3 B3
  have g4 := G4.out
  obtain ⟨a4, c4, rfl, _⟩ := g4
  obtain ⟨nb, enb⟩ : ∃ n, (resB y wt rw_ rm rows el).length = n := ⟨_, rfl⟩
  have NB : Hid ((resB y wt rw_ rm rows el).length = nb) := enb
  have G5 : Hid (Got w5 (.slice a4 nb c4) (resB y wt rw_ rm rows el)) := by rw [← enb]; exact G4.out
  rw [enb] at hr5
  have RR : Hid _ := hr5
  clear enb G4 hr5
  by_cases hb : 1048576 < nb
  · have HB : Hid (1048576 < nb) := hb
    have q7 : (1048576 : Int) < (nb : Int) := by omega
    have r7 : decide ((1048576 : Int) < (nb : Int)) = true := decide_eq_true q7
    clear hb
    go_wp2_with (at_builtin; refine wpList_append_known rfl (.tmp 27) (.tmp 30) 25 25 rfl _ _ rfl rfl _ _ RR.out ?_)
    go_ret2
    exact NO.out (.inr (.inr (by rw [NB.out]; exact HB.out))) w5 B4.out
  · have HB : Hid (¬ 1048576 < nb) := hb
    have q7 : ¬ (1048576 : Int) < (nb : Int) := by omega
    have r7 : decide ((1048576 : Int) < (nb : Int)) = false := decide_eq_false q7
    clear hb
    go_wp2_with (at_builtin; refine wpList_append_known rfl (.tmp 27) (.tmp 30) 25 25 rfl _ _ rfl rfl _ _ RR.out ?_)
    go_ret2
    exact YES.out (fun h => by
      rcases h with h | h | h
      · exact EL.out h
      · exact RL.out h
      · rw [NB.out] at h; exact HB.out h) w5 _ G5.out B4.out
end Go.Proofs.Ytogbcciocgpknaa
