/- The reference's book: Bytes. -/
import Derived.Test.YtdchnfggmkokhaaGreatDoorGJ
import Derived.Test.YtdchnfggmkokhaaGreatDoorRefW
namespace Go.Proofs.YtdchnfggmkokhaaGreatDoor
open Go.RowKit Cod
attribute [local go_sem] Oper.semAt_some
set_option linter.unusedVariables false

/-- Bytes that are made, behind a world. -/
structure MadeB (w W : World) (l : List (BitVec 8)) (a : Option Addr) (c : Nat) : Prop where
  bel : Below w.heap.size w W
  row : W.ownsRow w.heap.size 5 1 (.slice a l.length c) l.length (cellsOf l)
/-- Bytes of a call's own are put behind them. -/
theorem MadeB.more {w W W2 : World} {l q : List (BitVec 8)} {a : Option Addr} {c : Nat} (h : MadeB w W l a c) {v2 : Value} (o2 : W2.ownsRow W.heap.size 5 1 v2 q.length (cellsOf q)) (b2 : Below W.heap.size W W2) (hl : l.length ≤ 100000000) (hq : q.length ≤ 70000) :
    ∃ a2 c2 a3 c3 W3, v2 = .slice a2 q.length c2 ∧ (Builtin.append_ #[31, 31] 31 #[.slice a l.length c, .slice a2 q.length c2]).run Tryz.prog W2 = .ok (.slice a3 (l.length + q.length) c3) W3 ∧ MadeB w W3 (l ++ q) a3 c3 := by
  obtain ⟨a2, c2, e2, q2, n2, _⟩ := owned_seen o2 (by unfold maxLen; omega)
  have O2 : W2.ownsRow w.heap.size 5 1 (.slice a l.length c) l.length (cellsOf l) := owns_kept h.row (fun g e => b2.block g (row_kind h.row e).2.1)
  have B2 : Below w.heap.size w W2 := h.bel.trans (b2.mono h.bel.size)
  obtain ⟨v3, w3, r3, o3, g3⟩ := run_append_bytes 31 W2 w.heap.size _ l.length l O2 a2 _ c2 _ q2 n2 (by omega) B2.size
  obtain ⟨a3, c3, e3, _⟩ := row_form o3
  subst e3
  refine ⟨a2, c2, a3, c3, w3, e2, r3, grown_below B2 g3 (fun k e => (row_kind O2 e).1), ?_⟩
  rw [List.length_append]
  exact o3
section
variable {w : World} {base N : Nat} {sv : Value} {L : List Acc}
theorem accB_parts {p : Acc} (h1 : p.nm.size ≤ 24) (h2 : p.by_.size ≤ 65536) (h3 : 0 ≤ p.amt ∧ p.amt ≤ 9223372036854775807) : (sz (bytesL p.nm)).length ≤ 70000 ∧ (enc (zig p.amt)).length ≤ 70000 ∧ (sz (bytesL p.by_)).length ≤ 70000 := by
  have l1 := enc_ten (n := p.nm.size) (by omega)
  have l2 := enc_ten (n := zig p.amt) (zig_lt p.amt (by omega))
  have l3 := enc_ten (n := p.by_.size) (by omega)
  have s1 := sz_len p.nm
  have s2 := sz_len p.by_
  omega
set_option maxRecDepth 100000 in
set_option maxHeartbeats 4000000 in
theorem qto_any (h : RefB w base N sv L) : Calls Tryz.prog 79 #[.pointer (some ⟨N, 0, none⟩), .slice none 0 0] w fun e w' => ∃ a c, e = .returned (.slice a (bookB L).length c) ∧ MadeB w w' (bookB L) a c := by
  obtain ⟨a, cap, esv, _⟩ := h.sv_form
  have H : Hid (RefB w base N sv L) := h
  have ES : Hid (sv = .slice a L.length cap) := esv
  have hl : L.length ≤ 200 := h.fit.len
  obtain ⟨n, en⟩ : ∃ n, L.length = n := ⟨_, rfl⟩
  have EN : Hid (L.length = n) := en
  have HC : Hid (∀ W, Below w.heap.size w W → W.cell? ⟨N, 0, none⟩ = some (.slice a n cap)) := fun W b => by
    rw [← EN.out, ← ES.out]; exact (H.out.below b).c0
  rw [en] at hl
  have k0 := HC.out w (Below.refl _ _)
  have HU := refUint_any none 0 0 [] n (by omega) w ⟨rfl, by simp, .inl rfl⟩ (fun _ => rfl) (by omega)
  rw [List.nil_append, Nat.zero_add] at HU
  have hcv : IntKind.u64.wrap (n : Int) = (n : Int) := by rw [IntKind.wrap_u64]; omega
  have H10 : Hid ((enc n).length ≤ 10) := enc_ten (by omega)
  clear h esv en
  go_enter Tryz.func79, Tryz.ntmps79
  go_wp2_with fail
  refine HU.mono ?_
  clear HU
  rintro e w1 ⟨v1, rfl, o1, b1⟩
  obtain ⟨a1, c1, e1, _⟩ := row_form o1
  subst e1
  have M1 : Hid (MadeB w w1 (enc n) a1 c1) := ⟨b1, o1⟩
  clear o1 b1 k0 hcv
  generalize hB : enc n = E at *
  obtain ⟨e, ee⟩ : ∃ e, E.length = e := ⟨_, rfl⟩
  have EE : Hid (E.length = e) := ee
  rw [ee]
  clear ee
  go_wp2
  go_loopw [1, 5] (fun sv1 i wr => ∃ (k : Nat) (a5 : Option Addr) (c5 : Nat), k ≤ n ∧ i = .int .i64 k ∧ sv1 = .slice a5 (E ++ accsB (L.take k)).length c5 ∧ Hid (MadeB w wr (E ++ accsB (L.take k)) a5 c5)) (fun _ i _ => n - (intOf i).toNat)
  case atStart =>
    have e0 : E ++ accsB (L.take 0) = E := by simp [accsB]
    exact ⟨0, a1, c1, Nat.zero_le _, rfl, by rw [e0, EE.out], by rw [e0]; exact M1⟩
  case round =>
    clear M1
    obtain ⟨k, a5, c5, hk, rfl, rfl, HM⟩ := hrel
    have k0 := HC.out wr HM.out.bel
    by_cases hlt : k < n
    · have hk2 : k < L.length := by rw [EN.out]; exact hlt
      obtain ⟨g, cp, e2, y0, y1, y2⟩ := qrow_at H.out.row rfl hk2
      rw [ES.out] at e2
      injection e2 with e3 e4 e5
      subst e3
      clear e4 e5
      have HY : Hid (∀ W, Below w.heap.size w W → W.cell? ⟨g, k * 3, none⟩ = some (.string (L[k]'hk2).nm) ∧ W.cell? ⟨g, k * 3 + 1, none⟩ = some (.int .i64 (L[k]'hk2).amt) ∧ W.cell? ⟨g, k * 3 + 2, none⟩ = some (.string (L[k]'hk2).by_)) := fun W b =>
        ⟨(b.cell (p := ⟨g, k * 3, none⟩) (World.block_lt_of_cell? w _ y0)).trans y0, (b.cell (p := ⟨g, k * 3 + 1, none⟩) (World.block_lt_of_cell? w _ y1)).trans y1, (b.cell (p := ⟨g, k * 3 + 2, none⟩) (World.block_lt_of_cell? w _ y2)).trans y2⟩
      clear y0 y1 y2
      have HSN : Hid (E ++ accsB (L.take (k + 1)) = E ++ accsB (L.take k) ++ sz (bytesL (L[k]'hk2).nm) ++ enc (zig (L[k]'hk2).amt) ++ sz (bytesL (L[k]'hk2).by_)) := by
        show E ++ accsB (L.take (k + 1)) = _
        rw [List.take_succ_eq_append_getElem hk2, accsB_snoc]
        simp [accB]
      have hbd : (E ++ accsB (L.take k)).length ≤ 90000000 := by
        rw [List.length_append]
        have := H.out.fit.bytes k
        have := H10.out
        omega
      obtain ⟨p1, p2, p3, _⟩ := H.out.fit.acc (List.getElem_mem hk2)
      obtain ⟨z1, z2, z3⟩ := accB_parts p1 p2 p3
      generalize L[k]'hk2 = p at HY HSN p1 p2 p3 z1 z2 z3
      obtain ⟨nm, amt, by_⟩ := p
      simp only at HY HSN p1 p2 p3 z1 z2 z3
      have HT1 : Hid (∀ W, Calls Tryz.prog 95 #[.slice none 0 0, .string nm] W fun e w' => ∃ v', e = .returned v' ∧ w'.ownsRow W.heap.size 5 1 v' (sz (bytesL nm)).length (cellsOf (sz (bytesL nm))) ∧ Below W.heap.size W w') := fun W => by
        have := refText_any none 0 0 [] nm W ⟨rfl, by simp, .inl rfl⟩ (fun _ => rfl) (by omega)
        rwa [List.nil_append, Nat.zero_add] at this
      have HT2 : Hid (∀ W, Calls Tryz.prog 96 #[.slice none 0 0, .int .i64 amt] W fun e w' => ∃ v', e = .returned v' ∧ w'.ownsRow W.heap.size 5 1 v' (enc (zig amt)).length (cellsOf (enc (zig amt))) ∧ Below W.heap.size W w') := fun W => by
        have := refInt_any none 0 0 [] amt (by unfold i64ok; omega) W ⟨rfl, by simp, .inl rfl⟩ (fun _ => rfl) (by omega)
        rwa [List.nil_append, Nat.zero_add] at this
      have HT3 : Hid (∀ W, Calls Tryz.prog 95 #[.slice none 0 0, .string by_] W fun e w' => ∃ v', e = .returned v' ∧ w'.ownsRow W.heap.size 5 1 v' (sz (bytesL by_)).length (cellsOf (sz (bytesL by_))) ∧ Below W.heap.size W w') := fun W => by
        have := refText_any none 0 0 [] by_ W ⟨rfl, by simp, .inl rfl⟩ (fun _ => rfl) (by omega)
        rwa [List.nil_append, Nat.zero_add] at this
      generalize sz (bytesL nm) = S1 at *
      generalize enc (zig amt) = S2 at *
      generalize sz (bytesL by_) = S3 at *
      generalize E ++ accsB (L.take k) = M at *
      clear p1 p2 p3
      obtain ⟨m, em⟩ : ∃ m, M.length = m := ⟨_, rfl⟩
      have EM : Hid (M.length = m) := em
      have HL1 : Hid (M.length ≤ 100000000) := by show M.length ≤ _; omega
      have HL2 : Hid ((M ++ S1).length ≤ 100000000) := by show (M ++ S1).length ≤ _; rw [List.length_append]; omega
      have HL3 : Hid ((M ++ S1 ++ S2).length ≤ 100000000) := by show (M ++ S1 ++ S2).length ≤ _; rw [List.length_append, List.length_append]; omega
      have Z1 : Hid (S1.length ≤ 70000) := z1
      have Z2 : Hid (S2.length ≤ 70000) := z2
      have Z3 : Hid (S3.length ≤ 70000) := z3
      rw [em]
      clear em hbd z1 z2 z3
      obtain ⟨y0, y1, y2⟩ := HY.out wr HM.out.bel
      obtain ⟨s1, es1⟩ : ∃ s, S1.length = s := ⟨_, rfl⟩
      have hcall := HT1.out wr
      rw [es1] at hcall
      go_wp2_with fail
      refine hcall.mono ?_
      clear hcall
      rintro e1' v1w ⟨v1, rfl, o1, b1⟩
      rw [← es1] at o1
      obtain ⟨ax1, cx1, an1, cn1, wn1, rfl, x1, M1n⟩ := HM.out.more o1 b1 HL1.out Z1.out
      rw [EM.out] at x1
      have X1 : Hid _ := x1
      have HM1 : Hid (MadeB w wn1 (M ++ S1) an1 cn1) := M1n
      rw [es1] at X1 ⊢
      have EM1 : Hid ((M ++ S1).length = m + s1) := by show (M ++ S1).length = _; rw [List.length_append, EM.out, es1]
      clear o1 b1 x1 M1n
      clear k0 y0 y1 y2
      have k0 := HC.out wn1 HM1.out.bel
      obtain ⟨y0, y1, y2⟩ := HY.out wn1 HM1.out.bel
      clear es1
      go_wp2_with (first | (at_builtin; refine wpList_append_known rfl (.tmp 23) (.tmp 32) 31 31 rfl _ _ rfl rfl _ _ X1.out ?_) | fail)
      obtain ⟨s2, es2⟩ : ∃ s, S2.length = s := ⟨_, rfl⟩
      have hcall := HT2.out wn1
      rw [es2] at hcall
      go_wp2_with fail
      refine hcall.mono ?_
      clear hcall
      rintro e2' v2w ⟨v2, rfl, o2, b2⟩
      rw [← es2] at o2
      obtain ⟨ax2, cx2, an2, cn2, wn2, rfl, x2, M2n⟩ := HM1.out.more o2 b2 HL2.out Z2.out
      rw [EM1.out] at x2
      have X2 : Hid _ := x2
      have HM2 : Hid (MadeB w wn2 (M ++ S1 ++ S2) an2 cn2) := M2n
      rw [es2] at X2 ⊢
      have EM2 : Hid ((M ++ S1 ++ S2).length = m + s1 + s2) := by show (M ++ S1 ++ S2).length = _; rw [List.length_append, EM1.out, es2]
      clear o2 b2 x2 M2n
      clear k0 y0 y1 y2
      have k0 := HC.out wn2 HM2.out.bel
      obtain ⟨y0, y1, y2⟩ := HY.out wn2 HM2.out.bel
      clear es2
      go_wp2_with (first | (at_builtin; refine wpList_append_known rfl (.tmp 34) (.tmp 43) 31 31 rfl _ _ rfl rfl _ _ X2.out ?_) | fail)
      obtain ⟨s3, es3⟩ : ∃ s, S3.length = s := ⟨_, rfl⟩
      have hcall := HT3.out wn2
      rw [es3] at hcall
      go_wp2_with fail
      refine hcall.mono ?_
      clear hcall
      rintro e3' v3w ⟨v3, rfl, o3, b3⟩
      rw [← es3] at o3
      obtain ⟨ax3, cx3, an3, cn3, wn3, rfl, x3, M3n⟩ := HM2.out.more o3 b3 HL3.out Z3.out
      rw [EM2.out] at x3
      have X3 : Hid _ := x3
      have HM3 : Hid (MadeB w wn3 (M ++ S1 ++ S2 ++ S3) an3 cn3) := M3n
      rw [es3] at X3 ⊢
      have EM3 : Hid ((M ++ S1 ++ S2 ++ S3).length = m + s1 + s2 + s3) := by show (M ++ S1 ++ S2 ++ S3).length = _; rw [List.length_append, EM2.out, es3]
      clear o3 b3 x3 M3n
      clear k0 y0 y1 y2
      have k0 := HC.out wn3 HM3.out.bel
      obtain ⟨y0, y1, y2⟩ := HY.out wn3 HM3.out.bel
      clear es3
      go_wp2_with (at_builtin; refine wpList_append_known rfl (.tmp 45) (.tmp 54) 31 31 rfl _ _ rfl rfl _ _ X3.out ?_)
      go_roundw
      case rel => exact ⟨k + 1, an3, cn3, by omega, by go_num, by rw [HSN.out, EM3.out], by rw [HSN.out]; exact HM3⟩
      case measure => simp only [intOf]; omega
    · obtain rfl : k = n := by omega
      have HTk : Hid (E ++ accsB (L.take k) = bookB L) := by
        show E ++ accsB (L.take k) = bookB L
        rw [← EN.out, List.take_length, ← hB, ← EN.out]; rfl
      rw [HTk.out] at HM ⊢
      obtain ⟨BL, hBL⟩ : ∃ BL, bookB L = BL := ⟨_, rfl⟩
      have HBL : Hid (bookB L = BL) := hBL
      rw [hBL] at HM ⊢
      clear hBL
      go_wp2
      go_ret
      exact ⟨a5, c5, by rw [HBL.out]; rfl, by rw [HBL.out]; exact HM.out⟩
/-- The reference's Bytes. -/
theorem qbytes_any (h : RefB w base N sv L) : Calls Tryz.prog 48 #[.pointer (some ⟨N, 0, none⟩)] w fun e w' => ∃ a c, e = .returned (.slice a (bookB L).length c) ∧ MadeB w w' (bookB L) a c := by
  have HC := qto_any h
  clear h
  obtain ⟨m, em⟩ : ∃ m, (bookB L).length = m := ⟨_, rfl⟩
  rw [em] at HC ⊢
  clear em
  go_enter Tryz.func48, Tryz.ntmps48
  go_wp2_with fail
  refine HC.mono ?_
  rintro e w2 ⟨a, c, rfl, q⟩
  have Q : Hid _ := q
  clear q HC
  go_wp2
  go_ret
  exact ⟨a, c, rfl, Q.out⟩
end
end Go.Proofs.YtdchnfggmkokhaaGreatDoor
