/- What Msg does. -/
import Derived.Test.YtfdlgiomnmnhgaaDoorHead
import Derived.Test.YtfdlgiomnmnhgaaDoorPutReply
namespace Go.Proofs.YtfdlgiomnmnhgaaDoor
open Go.RowKit Cod
set_option linter.unusedVariables false

/-- Bytes in memory, as a value. -/
def BytesV (w : World) (v : Value) (p : List (BitVec 8)) : Prop := ∃ a c, v = .slice a p.length c ∧ Seen w a p.length p ∧ (a = none → c = 0)
/-- Entries of a message in memory. -/
def EntsAt (w : World) (a : Option Addr) (n : Nat) (ents : List (Int × List (BitVec 8))) : Prop :=
  n = ents.length ∧ (n = 0 ∨ ∃ b off, a = some ⟨b, off, none⟩ ∧ ∀ j (hj : j < ents.length), w.cell? ⟨b, off + j * 2, none⟩ = some (.int .i64 ents[j].1) ∧ ∃ v, w.cell? ⟨b, off + j * 2 + 1, none⟩ = some v ∧ BytesV w v ents[j].2)
theorem BytesV.below {w w' : World} {v : Value} {p : List (BitVec 8)} (h : BytesV w v p) (hb : Below w.heap.size w w') : BytesV w' v p := by
  obtain ⟨a, c, h1, h2, h3⟩ := h
  exact ⟨a, c, h1, h2.below hb, h3⟩
theorem EntsAt.below {w w' : World} {a : Option Addr} {n : Nat} {ents : List (Int × List (BitVec 8))} (h : EntsAt w a n ents) (hb : Below w.heap.size w w') : EntsAt w' a n ents := by
  obtain ⟨h1, h3⟩ := h
  refine ⟨h1, ?_⟩
  rcases h3 with h3 | ⟨b, off, ha, hc⟩
  · exact .inl h3
  · refine .inr ⟨b, off, ha, fun j hj => ?_⟩
    obtain ⟨c1, v, c2, c3⟩ := hc j hj
    rw [hb.cell (p := ⟨b, off + j * 2, none⟩) (World.block_lt_of_cell? w _ c1), hb.cell (p := ⟨b, off + j * 2 + 1, none⟩) (World.block_lt_of_cell? w _ c2)]
    exact ⟨c1, v, c2, c3.below hb⟩
theorem EntsAt.at {w : World} {a : Option Addr} {n : Nat} {ents : List (Int × List (BitVec 8))} (h : EntsAt w a n ents) {k : Nat} (hk : k < ents.length) :
    ∃ b off v, a = some ⟨b, off, none⟩ ∧ w.cell? ⟨b, off + k * 2, none⟩ = some (.int .i64 ents[k].1) ∧ w.cell? ⟨b, off + k * 2 + 1, none⟩ = some v ∧ BytesV w v ents[k].2 := by
  rcases h.2 with h3 | ⟨b, off, ha, hc⟩
  · have := h.1; omega
  · obtain ⟨c1, v, c2, c3⟩ := hc k hk
    exact ⟨b, off, v, ha, c1, c2, c3⟩
def entB (e : Int × List (BitVec 8)) : List (BitVec 8) := enc (zig e.1) ++ sz e.2
def entsB (ents : List (Int × List (BitVec 8))) : List (BitVec 8) := (ents.map entB).flatten
theorem entsB_take {ents : List (Int × List (BitVec 8))} {k : Nat} (hk : k < ents.length) : entsB (ents.take (k + 1)) = entsB (ents.take k) ++ entB ents[k] := by
  rw [List.take_add_one, List.getElem?_eq_getElem hk]
  simp only [entsB, List.map_append, List.flatten_append, Option.toList_some, List.map_cons, List.map_nil, List.flatten_cons, List.flatten_nil, List.append_nil]
theorem entsB_split (ents : List (Int × List (BitVec 8))) (k : Nat) : entsB ents = entsB (ents.take k) ++ entsB (ents.drop k) := by
  conv => lhs; rw [← List.take_append_drop k ents]
  simp only [entsB, List.map_append, List.flatten_append]
/-- A message's bytes. -/
def msgB (h : HeadD) (ents : List (Int × List (BitVec 8))) (data : List (BitVec 8)) : List (BitVec 8) := h.bytes ++ enc ents.length ++ entsB ents ++ sz data
/-- Whether a message can be written. -/
def msgFits (h : HeadD) (ents : List (Int × List (BitVec 8))) (data : List (BitVec 8)) : Prop :=
  ents.length ≤ 4096 ∧ data.length ≤ 65536 ∧ (∀ e ∈ ents, e.2.length ≤ 65536) ∧ (msgB h ents data).length ≤ 1048576
/-- What Msg answers. -/
def MsgTold (w0 w : World) (h : HeadD) (ents : List (Int × List (BitVec 8))) (data : List (BitVec 8)) (e : Ending) : Prop :=
  (msgFits h ents data ∧ ∃ v, e = .returned (.tuple #[v, .int .i64 0]) ∧ w.ownsRow w0.heap.size 5 1 v (msgB h ents data).length (cellsOf (msgB h ents data))) ∨ (¬ msgFits h ents data ∧ e = .returned (.tuple #[.slice none 0 0, .int .i64 3]))
theorem owned_form {w : World} {base n : Nat} {v : Value} {xs : List Value} (h : w.ownsRow base 5 1 v n xs) : ∃ a c, v = .slice a n c ∧ (a = none → c = 0) := by
  rcases h.2 with ⟨rfl, rfl⟩ | ⟨g, c, cur, rfl, _⟩
  · exact ⟨none, 0, rfl, fun _ => rfl⟩
  · exact ⟨_, c, rfl, fun e => by cases e⟩
set_option maxRecDepth 100000 in
set_option maxHeartbeats 3200000 in
theorem msg_any (h : HeadD) (hf : h.fine) (ea : Option Addr) (en ec : Nat) (ents : List (Int × List (BitVec 8))) (hti : ∀ e ∈ ents, i64ok e.1) (da : Option Addr) (dn dc : Nat) (data : List (BitVec 8)) (w : World) (hE : EntsAt w ea en ents) (hD : Seen w da dn data) (hdn : da = none → dc = 0) :
    Calls Tryd.prog 12 #[h.val (.slice ea en ec) (.slice da dn dc)] w fun e w' => MsgTold w w' h ents data e ∧ Below w.heap.size w w' := by
  obtain rfl : en = ents.length := hE.1
  obtain rfl : dn = data.length := hD.1
  have HF : Hid (h.fine) := hf
  have HL : Hid (h.bytes.length ≤ 81) := h.len hf
  generalize hw1 : w.alloc (.cells #[.int .i64 h.kind, .int .i64 h.group, .int .i64 h.src, .int .i64 h.dst, .int .i64 h.term, .int .i64 h.index, .int .i64 h.logTerm, .int .i64 h.commit, .bool h.ok, .slice ea ents.length ec, .slice da data.length dc] 32) = w1
  have b1 : Below w.heap.size w w1 := by rw [← hw1]; exact (Below.refl _ w).alloc (Nat.le_refl _) _
  have sz1 : w1.heap.size = w.heap.size + 1 := by rw [← hw1]; simp
  have hh : w1.heap[w.heap.size]? = some (.cells #[.int .i64 h.kind, .int .i64 h.group, .int .i64 h.src, .int .i64 h.dst, .int .i64 h.term, .int .i64 h.index, .int .i64 h.logTerm, .int .i64 h.commit, .bool h.ok, .slice ea ents.length ec, .slice da data.length dc] 32 (0, 0)) := by rw [← hw1]; exact heap_alloc_new w _
  have CC : Hid (∀ w', Below w1.heap.size w1 w' → w'.cell? ⟨w.heap.size, 0, none⟩ = some (.int .i64 h.kind) ∧ w'.cell? ⟨w.heap.size, 1, none⟩ = some (.int .i64 h.group) ∧ w'.cell? ⟨w.heap.size, 2, none⟩ = some (.int .i64 h.src) ∧ w'.cell? ⟨w.heap.size, 3, none⟩ = some (.int .i64 h.dst) ∧ w'.cell? ⟨w.heap.size, 4, none⟩ = some (.int .i64 h.term) ∧ w'.cell? ⟨w.heap.size, 5, none⟩ = some (.int .i64 h.index) ∧ w'.cell? ⟨w.heap.size, 6, none⟩ = some (.int .i64 h.logTerm) ∧ w'.cell? ⟨w.heap.size, 7, none⟩ = some (.int .i64 h.commit) ∧ w'.cell? ⟨w.heap.size, 8, none⟩ = some (.bool h.ok) ∧ w'.cell? ⟨w.heap.size, 9, none⟩ = some (.slice ea ents.length ec) ∧ w'.cell? ⟨w.heap.size, 10, none⟩ = some (.slice da data.length dc)) := fun w' hb => by
    have hq : w'.heap[w.heap.size]? = w1.heap[w.heap.size]? := hb.block _ (by omega)
    refine ⟨?_, ?_, ?_, ?_, ?_, ?_, ?_, ?_, ?_, ?_, ?_⟩ <;> simp [World.cell?, hq, hh]
  have HB1 : Hid (Below w.heap.size w w1) := b1
  have HW : Hid _ := hw1
  have HE : Hid (EntsAt w1 ea ents.length ents) := hE.below b1
  have HD : Hid (Seen w1 da data.length data) := hD.below b1
  have HDN : Hid _ := hdn
  have HTI : Hid _ := hti
  have CH : Hid (Calls Tryd.prog 57 #[.slice none 0 0, h.val (.slice ea ents.length ec) (.slice da data.length dc)] w1 fun e w' => ∃ v', e = .returned v' ∧ w'.ownsRow w1.heap.size 5 1 v' h.bytes.length (cellsOf h.bytes) ∧ Below w1.heap.size w1 w') := by
    have := addHead_any w1.heap.size (.slice none 0 0) 0 [] h hf (.slice ea ents.length ec) (.slice da data.length dc) w1 (World.ownsRow_nil _ _ _ _) (Nat.le_refl _) (by omega)
    simp only [Nat.zero_add, List.nil_append] at this
    exact this
  clear hE hD hdn hti hf hw1 b1 hh
  show Calls Tryd.prog 12 #[.agg #[.int .i64 h.kind, .int .i64 h.group, .int .i64 h.src, .int .i64 h.dst, .int .i64 h.term, .int .i64 h.index, .int .i64 h.logTerm, .int .i64 h.commit, .bool h.ok, .slice ea ents.length ec, .slice da data.length dc]] w _
  by_cases g1 : (4096 : Int) < (ents.length : Int)
  · have HNo : Hid (¬ msgFits h ents data) := fun hm => by have := hm.1; omega
    go_enter Tryd.func12, Tryd.ntmps12
    go_wp2
    go_ret2
    rw [HW.out]
    exact ⟨.inr ⟨HNo.out, rfl⟩, HB1.out⟩
  by_cases g2 : (65536 : Int) < (data.length : Int)
  · have HNo : Hid (¬ msgFits h ents data) := fun hm => by have := hm.2.1; omega
    go_enter Tryd.func12, Tryd.ntmps12
    go_wp2
    go_ret2
    rw [HW.out]
    exact ⟨.inr ⟨HNo.out, rfl⟩, HB1.out⟩
  have H1 : Hid (ents.length ≤ 4096) := by show _ ≤ _; omega
  have H2 : Hid (data.length ≤ 65536) := by show _ ≤ _; omega
  have hwe : IntKind.u64.wrap (ents.length : Int) = ents.length := by rw [IntKind.wrap_u64]; omega
  go_enter Tryd.func12, Tryd.ntmps12
  go_wp2_with fail
  rw [HW.out]
  refine CH.out.mono ?_
  rintro e w2 ⟨v2, rfl, o2, b2⟩
  have O2 : Hid (w2.ownsRow w1.heap.size 5 1 v2 h.bytes.length (cellsOf h.bytes)) := o2
  have B2 : Hid (Below w1.heap.size w1 w2) := b2
  clear o2 b2 CH
  obtain ⟨q0, q1, q2, q3, q4, q5, q6, q7, q8, q9, q10⟩ := CC.out w2 B2.out
  clear q0 q1 q2 q3 q4 q5 q6 q7 q8 q10
  go_wp2_with fail
  refine (addUint_any w1.heap.size v2 _ _ ents.length (by omega) w2 O2.out B2.out.size (by have := HL.out; omega)).mono ?_
  clear q9
  rintro e w3 ⟨v3, rfl, o3, b3⟩
  obtain ⟨N, hN⟩ : ∃ N, h.bytes.length + (enc ents.length).length = N := ⟨_, rfl⟩
  obtain ⟨L, hL⟩ : ∃ L, h.bytes ++ enc ents.length = L := ⟨_, rfl⟩
  have hN91 : N ≤ 91 := by have h1 := HL.out; have h2 := enc_ten (n := ents.length) (by omega); omega
  rw [hN, hL] at o3
  have HNN : Hid (N = L.length) := by show N = L.length; rw [← hN, ← hL, List.length_append]
  have HMB : Hid (∀ k, msgB h ents data = L ++ entsB (ents.take k) ++ entsB (ents.drop k) ++ sz data) := fun k => by rw [msgB, hL, entsB_split ents k, ← List.append_assoc]
  have O3 : Hid (w3.ownsRow w1.heap.size 5 1 v3 N (cellsOf L)) := o3
  have B3 : Hid (Below w1.heap.size w1 w3) := B2.out.trans b3
  clear o3 b3 hN hL O2 B2
  obtain ⟨q0, q1, q2, q3, q4, q5, q6, q7, q8, q9, q10⟩ := CC.out w3 B3.out
  clear q0 q1 q2 q3 q4 q5 q6 q7 q8 q10
  go_wp2
  clear q9
  go_loopw [4, 28] (fun v i wr => ∃ k : Nat, k ≤ ents.length ∧ i = .int .i64 k ∧ wr.ownsRow w1.heap.size 5 1 v (N + (entsB (ents.take k)).length) (cellsOf (L ++ entsB (ents.take k))) ∧ N + (entsB (ents.take k)).length ≤ 1200000 ∧ (∀ e ∈ ents.take k, e.2.length ≤ 65536) ∧ Below w1.heap.size w1 wr)
    (fun _ i _ => ents.length - (intOf i).toNat)
  case atStart => exact ⟨0, Nat.zero_le _, rfl, by simpa [entsB] using O3.out, by simp [entsB]; omega, (fun e he => by simp at he), B3.out⟩
  case round =>
    obtain ⟨k, hk, rfl, ho, hN2, hall, hb⟩ := hrel
    obtain ⟨va, vc, rfl, hvn⟩ := owned_form ho
    have OO : Hid (wr.ownsRow w1.heap.size 5 1 (.slice va (N + (entsB (ents.take k)).length) vc) (N + (entsB (ents.take k)).length) (cellsOf (L ++ entsB (ents.take k)))) := ho
    have BB : Hid (Below w1.heap.size w1 wr) := hb
    have HAll : Hid (∀ e ∈ ents.take k, e.2.length ≤ 65536) := hall
    obtain ⟨NK, hNK⟩ : ∃ NK, N + (entsB (ents.take k)).length = NK := ⟨_, rfl⟩
    rw [hNK] at OO hN2 ⊢
    have HNK : Hid _ := hNK
    have HBig : Hid (1048576 < NK → ¬ msgFits h ents data) := fun hbig hm => by
      have h1 := hm.2.2.2
      rw [HMB.out k] at h1
      have h2 := HNN.out
      simp only [List.length_append] at h1
      omega
    clear ho hb hall hvn hNK
    by_cases hlt : k < ents.length
    · obtain ⟨b, off, v, rfl, c1, c2, hv⟩ := HE.out.at hlt
      obtain ⟨pa, pc, rfl, ps, pn⟩ := hv
      have c1' : wr.cell? ⟨b, off + k * 2, none⟩ = some (.int .i64 ents[k].1) := (BB.out.cell (p := ⟨b, off + k * 2, none⟩) (World.block_lt_of_cell? w1 _ c1)).trans c1
      have c2' : wr.cell? ⟨b, off + k * 2 + 1, none⟩ = some (.slice pa ents[k].2.length pc) := (BB.out.cell (p := ⟨b, off + k * 2 + 1, none⟩) (World.block_lt_of_cell? w1 _ c2)).trans c2
      clear c1 c2
      have c1 := c1'
      have c2 := c2'
      clear c1' c2'
      have HT : Hid _ := entsB_take hlt
      have hmem : ents[k] ∈ ents := List.getElem_mem hlt
      have HI : Hid (i64ok ents[k].1) := HTI.out _ hmem
      have HA2 : Hid (ents[k].2.length ≤ 65536 → ∀ e ∈ ents.take (k + 1), e.2.length ≤ 65536) := fun h0 e he => by
        rw [List.take_add_one, List.getElem?_eq_getElem hlt] at he
        rcases List.mem_append.1 he with h | h
        · exact HAll.out e h
        · simp at h
          subst h
          exact h0
      have HNo : Hid (65536 < ents[k].2.length → ¬ msgFits h ents data) := fun hbig hm => by have := hm.2.2.1 _ hmem; omega
      have hlt' : (k : Int) < ents.length := by omega
      clear hmem
      generalize ents[k] = en at *
      obtain ⟨et, ep⟩ := en
      simp only at c1 c2 ps HI HA2 HNo HT
      have HPS : Hid (∀ w', Below w1.heap.size w1 w' → Seen w' pa ep.length ep) := fun w' hb => ps.below hb
      have PN : Hid _ := pn
      clear ps pn
      by_cases g3 : (65536 : Int) < (ep.length : Int)
      · have HX : Hid (¬ msgFits h ents data) := HNo.out (by omega)
        go_wp2
        go_ret2
        refine ⟨.inr ⟨HX.out, rfl⟩, ?_⟩
        exact HB1.out.trans ((BB.out.alloc BB.out.size _).mono HB1.out.size)
      · by_cases g4 : (1048576 : Int) < (NK : Int)
        · have HX : Hid (¬ msgFits h ents data) := HBig.out (by omega)
          go_wp2
          go_ret2
          refine ⟨.inr ⟨HX.out, rfl⟩, ?_⟩
          exact HB1.out.trans ((BB.out.alloc BB.out.size _).mono HB1.out.size)
        · have OA : Hid ((wr.alloc (.cells #[.int .i64 et, .slice pa ep.length pc] 85)).ownsRow w1.heap.size 5 1 (.slice va NK vc) NK (cellsOf (L ++ entsB (ents.take k)))) := OO.out.alloc _
          have BA : Hid (Below w1.heap.size w1 (wr.alloc (.cells #[.int .i64 et, .slice pa ep.length pc] 85))) := BB.out.alloc BB.out.size _
          go_wp2_with fail
          refine (addInt_keep w1.heap.size (.slice va NK vc) NK _ et HI.out _ OA.out BA.out.size (by omega)).mono ?_
          rintro e w5 ⟨v5, rfl, o5, b5, t5⟩
          have hb5 : w5.heap[wr.heap.size]? = some (.cells #[.int .i64 et, .slice pa ep.length pc] 85 (0, 0)) := t5 _ _ _ _ (heap_alloc_new wr _) (by decide)
          have d1 : w5.cell? ⟨wr.heap.size, 1, none⟩ = some (.slice pa ep.length pc) := by simp [World.cell?, hb5]
          have B5 : Hid (Below w1.heap.size w1 w5) := BA.out.trans b5
          have O5 : Hid (w5.ownsRow w1.heap.size 5 1 v5 (NK + (enc (zig et)).length) (cellsOf (L ++ entsB (ents.take k) ++ enc (zig et)))) := o5
          have m5 := enc_ten (zig_lt et HI.out)
          have M5 : Hid (NK + (enc (zig et)).length + 10 + ep.length ≤ 140737488355328) := by show _ ≤ _; omega
          have M6 : Hid (NK + (enc (zig et)).length + (sz ep).length ≤ 1200000) := by
            have := sz_length_le ep (by omega)
            show _ ≤ _
            omega
          clear o5 b5 t5 hb5 OA BA c1 c2
          go_wp2_with fail
          refine (addBytes_any w1.heap.size v5 _ _ pa ep.length pc ep w5 O5.out B5.out.size (fun w' hb' => HPS.out w' (B5.out.trans hb')) PN.out M5.out).mono ?_
          clear d1 m5
          rintro e w6 ⟨v6, rfl, o6, b6⟩
          have B6 : Hid (Below w1.heap.size w1 w6) := B5.out.trans b6
          have O6 : Hid (w6.ownsRow w1.heap.size 5 1 v6 (NK + (enc (zig et)).length + (sz ep).length) (cellsOf (L ++ entsB (ents.take k) ++ enc (zig et) ++ sz ep))) := o6
          clear o6 b6
          go_wp2
          go_roundw
          case rel =>
            have e1 : N + (entsB (ents.take (k + 1))).length = NK + (enc (zig et)).length + (sz ep).length := by
              rw [HT.out, ← HNK.out]; simp only [entB, List.length_append]; omega
            have e2 : L ++ entsB (ents.take (k + 1)) = L ++ entsB (ents.take k) ++ enc (zig et) ++ sz ep := by
              rw [HT.out]; simp only [entB, List.append_assoc]
            refine ⟨k + 1, by omega, by go_num, ?_, ?_, HA2.out (by omega), B6.out⟩
            · rw [e1, e2]; exact O6.out
            · rw [e1]; exact M6.out
          case measure => simp only [intOf]; omega
    · obtain rfl : k = ents.length := by omega
      obtain ⟨q0, q1, q2, q3, q4, q5, q6, q7, q8, q9, q10⟩ := CC.out wr BB.out
      clear q0 q1 q2 q3 q4 q5 q6 q7 q8 q9
      have hs := sz_length_le data (by omega)
      go_wp2_with fail
      refine (addBytes_any w1.heap.size (.slice va NK vc) NK _ da data.length dc data wr OO.out BB.out.size (fun w' hb' => HD.out.below (BB.out.trans hb')) HDN.out (by omega)).mono ?_
      clear q10
      rintro e w6 ⟨v6, rfl, o6, b6⟩
      have B6 : Hid (Below w1.heap.size w1 w6) := BB.out.trans b6
      have hmb := HMB.out ents.length
      rw [List.take_length] at o6 hmb
      have hTL : N + (entsB ents).length = NK := by have := HNK.out; rwa [List.take_length] at this
      have e1 : NK + (sz data).length = (msgB h ents data).length := by
        rw [hmb, ← hTL, HNN.out]; simp [entsB]; omega
      have e2 : L ++ entsB ents ++ sz data = msgB h ents data := by rw [hmb]; simp [entsB]
      rw [e1, e2] at o6
      obtain ⟨xa, xc, rfl, _⟩ := owned_form o6
      have O6 : Hid (w6.ownsRow w1.heap.size 5 1 (.slice xa (msgB h ents data).length xc) (msgB h ents data).length (cellsOf (msgB h ents data))) := o6
      have HA3 : Hid (∀ e ∈ ents, e.2.length ≤ 65536) := by have := HAll.out; rw [List.take_length] at this; exact this
      clear o6 b6 hs hmb hTL e1 e2
      by_cases g5 : (1048576 : Int) < ((msgB h ents data).length : Int)
      · have HX : Hid (¬ msgFits h ents data) := fun hm => by have := hm.2.2.2; omega
        generalize (msgB h ents data).length = ML at *
        go_wp2
        go_ret2
        exact ⟨.inr ⟨HX.out, rfl⟩, HB1.out.trans (B6.out.mono HB1.out.size)⟩
      · have HX : Hid (msgFits h ents data) := ⟨H1.out, H2.out, HA3.out, by omega⟩
        have O7 : Hid (w6.ownsRow w.heap.size 5 1 (.slice xa (msgB h ents data).length xc) (msgB h ents data).length (cellsOf (msgB h ents data))) := owns_mono' O6.out HB1.out.size
        go_wp2
        go_ret2
        exact ⟨.inl ⟨HX.out, _, rfl, O7.out⟩, HB1.out.trans (B6.out.mono HB1.out.size)⟩
end Go.Proofs.YtfdlgiomnmnhgaaDoor
