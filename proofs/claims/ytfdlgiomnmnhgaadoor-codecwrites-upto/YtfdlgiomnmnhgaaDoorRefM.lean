/- What the reference's Msg does. -/
import Derived.Test.YtfdlgiomnmnhgaaDoorRefR
import Derived.Test.YtfdlgiomnmnhgaaDoorRefS
namespace Go.Proofs.YtfdlgiomnmnhgaaDoor
open Go.RowKit Cod
set_option linter.unusedVariables false

def entSum (E : List (Int × List (BitVec 8))) : Nat := (E.map fun e => e.2.length).sum
theorem entSum_take (E : List (Int × List (BitVec 8))) (k : Nat) : entSum (E.take k) ≤ entSum E := by
  have : entSum E = entSum (E.take k) + entSum (E.drop k) := by
    conv => lhs; rw [← List.take_append_drop k E]
    simp only [entSum, List.map_append, List.sum_append]
  omega
theorem entSum_succ {E : List (Int × List (BitVec 8))} {k : Nat} (hk : k < E.length) : entSum (E.take (k + 1)) = entSum (E.take k) + E[k].2.length := by
  rw [List.take_add_one, List.getElem?_eq_getElem hk]
  simp only [entSum, List.map_append, List.sum_append, Option.toList_some, List.map_cons, List.map_nil, List.sum_cons, List.sum_nil, Nat.add_zero]
theorem entSum_le : ∀ (E : List (Int × List (BitVec 8))), entSum E ≤ (entsB E).length
  | [] => by simp [entSum]
  | e :: rest => by
    have ih := entSum_le rest
    simp only [entSum, entsB, List.map_cons, List.sum_cons, List.flatten_cons, List.length_append, entB, sz] at ih ⊢
    omega
theorem entsB_len : ∀ (E : List (Int × List (BitVec 8))), (∀ e ∈ E, i64ok e.1 ∧ e.2.length ≤ 65536) → (entsB E).length ≤ entSum E + 20 * E.length
  | [], _ => by simp [entsB]
  | e :: rest, h => by
    have ih := entsB_len rest (fun x hx => h x (List.mem_cons_of_mem _ hx))
    have h0 := h e List.mem_cons_self
    have e1 := enc_ten (zig_lt e.1 h0.1)
    have e2 := sz_length_le e.2 (by omega)
    simp only [entSum, entsB, List.map_cons, List.sum_cons, List.flatten_cons, List.length_append, entB, List.length_cons] at ih ⊢
    omega
theorem owns_keepB {w w' : World} {base n size : Nat} {e : TypeId} {v : Value} {xs : List Value} (h : w.ownsRow base e size v n xs) (hb : Below w.heap.size w w') : w'.ownsRow base e size v n xs := by
  refine ⟨h.1, h.2.imp id ?_⟩
  rintro ⟨g, cap, cur, e1, e2, e3, e4⟩
  exact ⟨g, cap, cur, e1, e2, by rw [hb.block g (Array.getElem?_eq_some_iff.1 e3).1]; exact e3, e4⟩
/-- append(b, r...), where r is a row of the call's own. -/
theorem own_append {w1 w w' : World} {a : Option Addr} {n c : Nat} {L R : List (BitVec 8)} {v : Value} {m : Nat} (h : Own w1 w a n c L) (hr : w'.ownsRow w.heap.size 5 1 v m (cellsOf R)) (hb : Below w.heap.size w w') (hm : n + m ≤ 140737488355328) :
    ∃ a' c' a2 c2 w'', v = .slice a2 m c2 ∧ (Builtin.append_ #[22, 22] 22 #[.slice a n c, .slice a2 m c2]).run Tryd.prog w' = .ok (.slice a' (n + m) c') w'' ∧ Own w1 w'' a' (n + m) c' (L ++ R) := by
  obtain ⟨a2, c2, rfl, s2, n2, _⟩ := owned_seen hr (by unfold maxLen; omega)
  have hbs : w1.heap.size ≤ w'.heap.size := Nat.le_trans h.below.size hb.size
  obtain ⟨v', w'', hrun, ho, hg⟩ := run_append_bytes 22 w' w1.heap.size (.slice a n c) n L (owns_keepB h.own hb) a2 m c2 R s2 n2 hm hbs
  obtain ⟨a', c', rfl, s', n', _⟩ := owned_seen ho (by unfold maxLen; omega)
  refine ⟨a', c', a2, c2, w'', rfl, hrun, ho, s', n', ?_⟩
  exact (h.below.trans (hb.mono h.below.size)).trans ((Below.refl _ w').grown hg hbs (fun k e => ((owns_keepB h.own hb).lt _ e).1))
set_option maxRecDepth 100000 in
set_option maxHeartbeats 6400000 in
theorem refMsg_any (h : HeadD) (hf : h.fine) (ea : Option Addr) (en ec : Nat) (E : List (Int × List (BitVec 8))) (hti : ∀ e ∈ E, i64ok e.1) (hel : ∀ e ∈ E, e.2.length ≤ 140737488355328) (da : Option Addr) (dn dc : Nat) (D : List (BitVec 8)) (w : World) (hE : EntsAt w ea en E) (hem : en ≤ 140737488355328) (hD : Seen w da dn D) (hdn : da = none → dc = 0) :
    Calls Tryd.prog 13 #[h.val (.slice ea en ec) (.slice da dn dc)] w fun e w' => MsgTold w w' h E D e ∧ Below w.heap.size w w' := by
  obtain rfl : en = E.length := hE.1
  obtain rfl : dn = D.length := hD.1
  generalize hw1 : w.alloc (.cells #[.int .i64 h.kind, .int .i64 h.group, .int .i64 h.src, .int .i64 h.dst, .int .i64 h.term, .int .i64 h.index, .int .i64 h.logTerm, .int .i64 h.commit, .bool h.ok, .slice ea E.length ec, .slice da D.length dc] 32) = w1
  have b1 : Below w.heap.size w w1 := by rw [← hw1]; exact (Below.refl _ w).alloc (Nat.le_refl _) _
  have hh : w1.heap[w.heap.size]? = some (.cells #[.int .i64 h.kind, .int .i64 h.group, .int .i64 h.src, .int .i64 h.dst, .int .i64 h.term, .int .i64 h.index, .int .i64 h.logTerm, .int .i64 h.commit, .bool h.ok, .slice ea E.length ec, .slice da D.length dc] 32 (0, 0)) := by rw [← hw1]; exact heap_alloc_new w _
  have CC : Hid (∀ w', Below w1.heap.size w1 w' → w'.heap[w.heap.size]? = some (.cells #[.int .i64 h.kind, .int .i64 h.group, .int .i64 h.src, .int .i64 h.dst, .int .i64 h.term, .int .i64 h.index, .int .i64 h.logTerm, .int .i64 h.commit, .bool h.ok, .slice ea E.length ec, .slice da D.length dc] 32 (0, 0))) := fun w' hb => (hb.block _ (Array.getElem?_eq_some_iff.1 hh).1).trans hh
  have HB1 : Hid (Below w.heap.size w w1) := b1
  have HW : Hid _ := hw1
  have HE : Hid (EntsAt w1 ea E.length E) := hE.below b1
  have HD : Hid (Seen w1 da D.length D) := hD.below b1
  have HDN : Hid _ := hdn
  have HTI : Hid _ := hti
  have HEL : Hid _ := hel
  have HF : Hid h.fine := hf
  have HEM : Hid (E.length ≤ 140737488355328) := hem
  have HDL : Hid (D.length ≤ maxLen) := hD.2.1
  have hc9 : w1.cell? ⟨w.heap.size, 9, none⟩ = some (.slice ea E.length ec) := by simp [World.cell?, hh]
  have hc10 : w1.cell? ⟨w.heap.size, 10, none⟩ = some (.slice da D.length dc) := by simp [World.cell?, hh]
  clear hE hD hdn hti hel hw1 b1 hh hf
  show Calls Tryd.prog 13 #[.agg #[.int .i64 h.kind, .int .i64 h.group, .int .i64 h.src, .int .i64 h.dst, .int .i64 h.term, .int .i64 h.index, .int .i64 h.logTerm, .int .i64 h.commit, .bool h.ok, .slice ea E.length ec, .slice da D.length dc]] w _
  by_cases g1 : (4096 : Int) < (E.length : Int)
  · have HNo : Hid (¬ msgFits h E D) := fun hm => by have := hm.1; omega
    go_enter Tryd.func13, Tryd.ntmps13
    go_wp2
    go_loopw [4, 5, 6] (fun s b i wr => b = .bool true ∧ i = .int .i64 0 ∧ wr = w1) (fun _ _ _ _ => 0)
    case atStart => exact ⟨rfl, rfl, HW.out⟩
    case round =>
      obtain ⟨rfl, rfl, hwr⟩ := hrel
      subst hwr
      go_wp2
      go_ret2
      exact ⟨.inr ⟨HNo.out, rfl⟩, HB1.out⟩
  by_cases g2 : (65536 : Int) < (D.length : Int)
  · have HNo : Hid (¬ msgFits h E D) := fun hm => by have := hm.2.1; omega
    go_enter Tryd.func13, Tryd.ntmps13
    go_wp2
    go_loopw [4, 5, 6] (fun s b i wr => b = .bool true ∧ i = .int .i64 0 ∧ wr = w1) (fun _ _ _ _ => 0)
    case atStart => exact ⟨rfl, rfl, HW.out⟩
    case round =>
      obtain ⟨rfl, rfl, hwr⟩ := hrel
      subst hwr
      by_cases g3 : (0 : Int) < (E.length : Int)
      · go_wp2
        go_ret2
        exact ⟨.inr ⟨HNo.out, rfl⟩, HB1.out⟩
      · go_wp2
        go_ret2
        exact ⟨.inr ⟨HNo.out, rfl⟩, HB1.out⟩
  have H1 : Hid (E.length ≤ 4096) := by show _ ≤ _; omega
  have H2 : Hid (D.length ≤ 65536) := by show _ ≤ _; omega
  go_enter Tryd.func13, Tryd.ntmps13
  go_wp2
  go_loopw [4, 5, 6] (fun s b i wr => ∃ (k : Nat) (bd : Bool), k ≤ E.length ∧ s = .int .i64 (D.length + entSum (E.take k) : Nat) ∧ b = .bool bd ∧ i = .int .i64 k ∧ wr = w1 ∧ (bd = false → (∀ e ∈ E.take k, e.2.length ≤ 65536) ∧ D.length + entSum (E.take k) ≤ 1048576) ∧ (bd = true → ¬ msgFits h E D)) (fun _ _ i _ => E.length - (intOf i).toNat)
  case atStart => exact ⟨0, false, Nat.zero_le _, by simp [entSum], rfl, rfl, HW.out, fun _ => ⟨fun e he => by simp at he, by simp [entSum]; have := H2.out; omega⟩, fun e => by cases e⟩
  case round =>
    obtain ⟨k, bd, hk, rfl, rfl, rfl, hwr, hok, hbad⟩ := hrel
    have hwr' := hwr.symm
    clear hwr
    subst hwr'
    cases bd
    · obtain ⟨hall, hsum⟩ := hok rfl
      by_cases hlt : k < E.length
      · obtain ⟨b, off, v, rfl, c1, c2, pa, pc, rfl, ps, pn⟩ := HE.out.at hlt
        have hlp : E[k].2.length ≤ 140737488355328 := HEL.out _ (List.getElem_mem hlt)
        have hS := entSum_succ hlt
        have hS2 := entSum_take E (k + 1)
        have hmem : E[k] ∈ E := List.getElem_mem hlt
        have HA : Hid (E[k].2.length ≤ 65536 → ∀ e ∈ E.take (k + 1), e.2.length ≤ 65536) := fun h0 e he => by
          rw [List.take_add_one, List.getElem?_eq_getElem hlt] at he
          rcases List.mem_append.1 he with h | h
          · exact hall e h
          · simp at h
            subst h
            exact h0
        have HN1 : Hid (65536 < E[k].2.length → ¬ msgFits h E D) := fun hbig hm => by have := hm.2.2.1 _ hmem; omega
        have HN2 : Hid (1048576 < D.length + entSum (E.take (k + 1)) → ¬ msgFits h E D) := fun hbig hm => by
          have h1 := hm.2.2.2
          have h2 := entSum_le E
          simp only [msgB, sz, List.length_append] at h1
          omega
        have HS : Hid (D.length + entSum (E.take (k + 1)) = D.length + entSum (E.take k) + E[k].2.length) := by show _ = _; omega
        have hlt' : (k : Int) < E.length := by omega
        have hem' := HEM.out
        clear hmem hall hok hbad hS hS2 c1 ps pn
        generalize E[k] = en at *
        obtain ⟨et, ep⟩ := en
        simp only at c2 hlp HA HN1 HS
        generalize hSS : D.length + entSum (E.take k) = S at *
        have hw : IntKind.i64.wrap (((S : Nat) : Int) + (ep.length : Int)) = ((S + ep.length : Nat) : Int) := by rw [IntKind.wrap_i64]; omega
        have HS' : Hid (D.length + entSum (E.take (k + 1)) = S + ep.length) := HS.out
        clear HS hSS
        by_cases g3 : (65536 : Int) < (ep.length : Int)
        · have HX : Hid (¬ msgFits h E D) := HN1.out (by omega)
          go_wp2
          go_roundw
          case rel => exact ⟨k + 1, true, by omega, by simp [HS'.out], rfl, by go_num, trivial, (fun e => by cases e), fun _ => HX.out⟩
          case measure => simp only [intOf]; omega
        · by_cases g4 : (1048576 : Int) < (((S + ep.length : Nat)) : Int)
          · have HX : Hid (¬ msgFits h E D) := HN2.out (by have := HS'.out; omega)
            generalize hT : S + ep.length = T at *
            go_wp2
            go_roundw
            case rel => exact ⟨k + 1, true, by omega, by simp [HS'.out], rfl, by go_num, trivial, (fun e => by cases e), fun _ => HX.out⟩
            case measure => simp only [intOf]; omega
          · have HX : Hid (∀ e ∈ E.take (k + 1), e.2.length ≤ 65536) := HA.out (by omega)
            have HY : Hid (S + ep.length ≤ 1048576) := by show _ ≤ _; omega
            generalize hT : S + ep.length = T at *
            go_wp2
            go_roundw
            case rel => exact ⟨k + 1, false, by omega, by simp [HS'.out], rfl, by go_num, trivial, (fun _ => ⟨HX.out, by rw [HS'.out]; exact HY.out⟩), fun e => by cases e⟩
            case measure => simp only [intOf]; omega
      · obtain rfl : k = E.length := by omega
        rw [List.take_length] at hall hsum ⊢
        have HALL : Hid (∀ e ∈ E, e.2.length ≤ 65536) := hall
        have HSUM : Hid (D.length + entSum E ≤ 1048576) := hsum
        have HEB : Hid ((entsB E).length ≤ 1200000) := by have := entsB_len E (fun e he => ⟨HTI.out e he, hall e he⟩); have := H1.out; show _ ≤ _; omega
        have hwl : IntKind.u64.wrap (E.length : Int) = E.length := by have := H1.out; rw [IntKind.wrap_u64]; omega
        generalize D.length + entSum E = S at *
        have S0 : Hid (Own w1 w1 none 0 0 []) := ⟨World.ownsRow_nil _ _ _ _, ⟨rfl, by simp, .inl rfl⟩, (fun _ => rfl), Below.refl _ _⟩
        have q0 : w1.cell? ⟨w.heap.size, 0, none⟩ = some (.int .i64 h.kind) := by simp [World.cell?, CC.out w1 S0.out.below]
        have hl0 : (0 : Nat) ≤ 0 := Nat.le_refl _
        clear hall hsum hok hbad
        go_wp2_with fail
        refine (refInt_any none 0 0 ([]) h.kind HF.out.kind w1 S0.out.seen S0.out.nil (by omega)).mono ?_
        clear q0
        rintro e x1 ⟨v, rfl, ov, bv⟩
        have le1 := enc_ten (zig_lt h.kind HF.out.kind)
        obtain ⟨a1, c1, rfl, s1⟩ := own_next S0.out.below ov bv (by omega)
        obtain ⟨n1, hn1⟩ : ∃ n, 0 + (enc (zig h.kind)).length = n := ⟨_, rfl⟩
        obtain ⟨L1, hL1⟩ : ∃ L, [] ++ enc (zig h.kind) = L := ⟨_, rfl⟩
        rw [hn1, hL1] at s1
        rw [hn1]
        have S1 : Hid (Own w1 x1 a1 n1 c1 L1) := s1
        have HL1 : Hid _ := hL1
        have HN1 : Hid _ := hn1
        have hl1 : n1 ≤ 10 := by omega
        have q1 : x1.cell? ⟨w.heap.size, 1, none⟩ = some (.int .i64 h.group) := by simp [World.cell?, CC.out x1 S1.out.below]
        clear ov bv s1 hn1 hL1 le1 S0 hl0
        go_wp2_with fail
        refine (refInt_any a1 n1 c1 (L1) h.group HF.out.group x1 S1.out.seen S1.out.nil (by omega)).mono ?_
        clear q1
        rintro e x2 ⟨v, rfl, ov, bv⟩
        have le2 := enc_ten (zig_lt h.group HF.out.group)
        obtain ⟨a2, c2, rfl, s2⟩ := own_next S1.out.below ov bv (by omega)
        obtain ⟨n2, hn2⟩ : ∃ n, n1 + (enc (zig h.group)).length = n := ⟨_, rfl⟩
        obtain ⟨L2, hL2⟩ : ∃ L, L1 ++ enc (zig h.group) = L := ⟨_, rfl⟩
        rw [hn2, hL2] at s2
        rw [hn2]
        have S2 : Hid (Own w1 x2 a2 n2 c2 L2) := s2
        have HL2 : Hid _ := hL2
        have HN2 : Hid _ := hn2
        have hl2 : n2 ≤ 20 := by omega
        have q2 : x2.cell? ⟨w.heap.size, 2, none⟩ = some (.int .i64 h.src) := by simp [World.cell?, CC.out x2 S2.out.below]
        clear ov bv s2 hn2 hL2 le2 S1 hl1
        go_wp2_with fail
        refine (refInt_any a2 n2 c2 (L2) h.src HF.out.src x2 S2.out.seen S2.out.nil (by omega)).mono ?_
        clear q2
        rintro e x3 ⟨v, rfl, ov, bv⟩
        have le3 := enc_ten (zig_lt h.src HF.out.src)
        obtain ⟨a3, c3, rfl, s3⟩ := own_next S2.out.below ov bv (by omega)
        obtain ⟨n3, hn3⟩ : ∃ n, n2 + (enc (zig h.src)).length = n := ⟨_, rfl⟩
        obtain ⟨L3, hL3⟩ : ∃ L, L2 ++ enc (zig h.src) = L := ⟨_, rfl⟩
        rw [hn3, hL3] at s3
        rw [hn3]
        have S3 : Hid (Own w1 x3 a3 n3 c3 L3) := s3
        have HL3 : Hid _ := hL3
        have HN3 : Hid _ := hn3
        have hl3 : n3 ≤ 30 := by omega
        have q3 : x3.cell? ⟨w.heap.size, 3, none⟩ = some (.int .i64 h.dst) := by simp [World.cell?, CC.out x3 S3.out.below]
        clear ov bv s3 hn3 hL3 le3 S2 hl2
        go_wp2_with fail
        refine (refInt_any a3 n3 c3 (L3) h.dst HF.out.dst x3 S3.out.seen S3.out.nil (by omega)).mono ?_
        clear q3
        rintro e x4 ⟨v, rfl, ov, bv⟩
        have le4 := enc_ten (zig_lt h.dst HF.out.dst)
        obtain ⟨a4, c4, rfl, s4⟩ := own_next S3.out.below ov bv (by omega)
        obtain ⟨n4, hn4⟩ : ∃ n, n3 + (enc (zig h.dst)).length = n := ⟨_, rfl⟩
        obtain ⟨L4, hL4⟩ : ∃ L, L3 ++ enc (zig h.dst) = L := ⟨_, rfl⟩
        rw [hn4, hL4] at s4
        rw [hn4]
        have S4 : Hid (Own w1 x4 a4 n4 c4 L4) := s4
        have HL4 : Hid _ := hL4
        have HN4 : Hid _ := hn4
        have hl4 : n4 ≤ 40 := by omega
        have q4 : x4.cell? ⟨w.heap.size, 4, none⟩ = some (.int .i64 h.term) := by simp [World.cell?, CC.out x4 S4.out.below]
        clear ov bv s4 hn4 hL4 le4 S3 hl3
        go_wp2_with fail
        refine (refInt_any a4 n4 c4 (L4) h.term HF.out.term x4 S4.out.seen S4.out.nil (by omega)).mono ?_
        clear q4
        rintro e x5 ⟨v, rfl, ov, bv⟩
        have le5 := enc_ten (zig_lt h.term HF.out.term)
        obtain ⟨a5, c5, rfl, s5⟩ := own_next S4.out.below ov bv (by omega)
        obtain ⟨n5, hn5⟩ : ∃ n, n4 + (enc (zig h.term)).length = n := ⟨_, rfl⟩
        obtain ⟨L5, hL5⟩ : ∃ L, L4 ++ enc (zig h.term) = L := ⟨_, rfl⟩
        rw [hn5, hL5] at s5
        rw [hn5]
        have S5 : Hid (Own w1 x5 a5 n5 c5 L5) := s5
        have HL5 : Hid _ := hL5
        have HN5 : Hid _ := hn5
        have hl5 : n5 ≤ 50 := by omega
        have q5 : x5.cell? ⟨w.heap.size, 5, none⟩ = some (.int .i64 h.index) := by simp [World.cell?, CC.out x5 S5.out.below]
        clear ov bv s5 hn5 hL5 le5 S4 hl4
        go_wp2_with fail
        refine (refInt_any a5 n5 c5 (L5) h.index HF.out.index x5 S5.out.seen S5.out.nil (by omega)).mono ?_
        clear q5
        rintro e x6 ⟨v, rfl, ov, bv⟩
        have le6 := enc_ten (zig_lt h.index HF.out.index)
        obtain ⟨a6, c6, rfl, s6⟩ := own_next S5.out.below ov bv (by omega)
        obtain ⟨n6, hn6⟩ : ∃ n, n5 + (enc (zig h.index)).length = n := ⟨_, rfl⟩
        obtain ⟨L6, hL6⟩ : ∃ L, L5 ++ enc (zig h.index) = L := ⟨_, rfl⟩
        rw [hn6, hL6] at s6
        rw [hn6]
        have S6 : Hid (Own w1 x6 a6 n6 c6 L6) := s6
        have HL6 : Hid _ := hL6
        have HN6 : Hid _ := hn6
        have hl6 : n6 ≤ 60 := by omega
        have q6 : x6.cell? ⟨w.heap.size, 6, none⟩ = some (.int .i64 h.logTerm) := by simp [World.cell?, CC.out x6 S6.out.below]
        clear ov bv s6 hn6 hL6 le6 S5 hl5
        go_wp2_with fail
        refine (refInt_any a6 n6 c6 (L6) h.logTerm HF.out.logTerm x6 S6.out.seen S6.out.nil (by omega)).mono ?_
        clear q6
        rintro e x7 ⟨v, rfl, ov, bv⟩
        have le7 := enc_ten (zig_lt h.logTerm HF.out.logTerm)
        obtain ⟨a7, c7, rfl, s7⟩ := own_next S6.out.below ov bv (by omega)
        obtain ⟨n7, hn7⟩ : ∃ n, n6 + (enc (zig h.logTerm)).length = n := ⟨_, rfl⟩
        obtain ⟨L7, hL7⟩ : ∃ L, L6 ++ enc (zig h.logTerm) = L := ⟨_, rfl⟩
        rw [hn7, hL7] at s7
        rw [hn7]
        have S7 : Hid (Own w1 x7 a7 n7 c7 L7) := s7
        have HL7 : Hid _ := hL7
        have HN7 : Hid _ := hn7
        have hl7 : n7 ≤ 70 := by omega
        have q7 : x7.cell? ⟨w.heap.size, 7, none⟩ = some (.int .i64 h.commit) := by simp [World.cell?, CC.out x7 S7.out.below]
        clear ov bv s7 hn7 hL7 le7 S6 hl6
        go_wp2_with fail
        refine (refInt_any a7 n7 c7 (L7) h.commit HF.out.commit x7 S7.out.seen S7.out.nil (by omega)).mono ?_
        clear q7
        rintro e x8 ⟨v, rfl, ov, bv⟩
        have le8 := enc_ten (zig_lt h.commit HF.out.commit)
        obtain ⟨a8, c8, rfl, s8⟩ := own_next S7.out.below ov bv (by omega)
        obtain ⟨n8, hn8⟩ : ∃ n, n7 + (enc (zig h.commit)).length = n := ⟨_, rfl⟩
        obtain ⟨L8, hL8⟩ : ∃ L, L7 ++ enc (zig h.commit) = L := ⟨_, rfl⟩
        rw [hn8, hL8] at s8
        rw [hn8]
        have S8 : Hid (Own w1 x8 a8 n8 c8 L8) := s8
        have HL8 : Hid _ := hL8
        have HN8 : Hid _ := hn8
        have hl8 : n8 ≤ 80 := by omega
        have q8 : x8.cell? ⟨w.heap.size, 8, none⟩ = some (.bool h.ok) := by simp [World.cell?, CC.out x8 S8.out.below]
        clear ov bv s8 hn8 hL8 le8 S7 hl7
        go_wp2_with fail
        refine (refBool_any a8 n8 c8 L8 h.ok x8 S8.out.seen S8.out.nil (by omega)).mono ?_
        clear q8
        rintro e x9 ⟨v, rfl, ov, bv⟩
        obtain ⟨a9, c9, rfl, s9⟩ := own_next S8.out.below ov bv (by omega)
        obtain ⟨n9, hn9⟩ : ∃ n, n8 + 1 = n := ⟨_, rfl⟩
        obtain ⟨L9, hL9⟩ : ∃ L, L8 ++ [bit8 h.ok] = L := ⟨_, rfl⟩
        rw [hn9, hL9] at s9
        rw [hn9]
        have S9 : Hid (Own w1 x9 a9 n9 c9 L9) := s9
        have HL9 : Hid _ := hL9
        have HN9 : Hid _ := hn9
        have hl9 : n9 ≤ 81 := by omega
        have q9 : x9.cell? ⟨w.heap.size, 9, none⟩ = some (.slice ea E.length ec) := by simp [World.cell?, CC.out x9 S9.out.below]
        clear ov bv s9 hn9 hL9 S8 hl8
        go_wp2_with fail
        refine (refUint_any a9 n9 c9 L9 E.length (by have := H1.out; omega) x9 S9.out.seen S9.out.nil (by omega)).mono ?_
        clear q9
        rintro e x10 ⟨v, rfl, ov, bv⟩
        have le10 := enc_ten (n := E.length) (by have := H1.out; omega)
        obtain ⟨a10, c10, rfl, s10⟩ := own_next S9.out.below ov bv (by omega)
        obtain ⟨N, hN⟩ : ∃ n, n9 + (enc E.length).length = n := ⟨_, rfl⟩
        obtain ⟨L, hL⟩ : ∃ L, L9 ++ enc E.length = L := ⟨_, rfl⟩
        rw [hN, hL] at s10
        rw [hN]
        have S10 : Hid (Own w1 x10 a10 N c10 L) := s10
        have HLB : Hid (L = h.bytes ++ enc E.length) := by
          show _ = _
          rw [← hL, ← HL9.out, ← HL8.out, ← HL7.out, ← HL6.out, ← HL5.out, ← HL4.out, ← HL3.out, ← HL2.out, ← HL1.out]
          simp [HeadD.bytes]
        have hN91 : N ≤ 91 := by omega
        have q10 : x10.cell? ⟨w.heap.size, 9, none⟩ = some (.slice ea E.length ec) := by simp [World.cell?, CC.out x10 S10.out.below]
        clear ov bv s10 hN hL S9 hl9 le10 HL1 HL2 HL3 HL4 HL5 HL6 HL7 HL8 HL9 HN1 HN2 HN3 HN4 HN5 HN6 HN7 HN8 HN9 hwl
        go_wp2
        clear q10
        go_loopw [7, 8] (fun v i wr => ∃ (k : Nat) (va : Option Addr) (vc : Nat), k ≤ E.length ∧ i = .int .i64 k ∧ v = .slice va (N + (entsB (E.take k)).length) vc ∧ Own w1 wr va (N + (entsB (E.take k)).length) vc (L ++ entsB (E.take k)))
          (fun _ i _ => E.length - (intOf i).toNat)
        case atStart => exact ⟨0, a10, c10, Nat.zero_le _, rfl, by simp [entsB], by simpa [entsB] using S10.out⟩
        case round =>
          obtain ⟨k, va, vc, hk, rfl, rfl, ho⟩ := hrel
          obtain ⟨NK, hNK⟩ : ∃ NK, N + (entsB (E.take k)).length = NK := ⟨_, rfl⟩
          rw [hNK] at ho ⊢
          have HNK : Hid _ := hNK
          have OO : Hid (Own w1 wr va NK vc (L ++ entsB (E.take k))) := ho
          have q9 : wr.cell? ⟨w.heap.size, 9, none⟩ = some (.slice ea E.length ec) := by simp [World.cell?, CC.out wr OO.out.below]
          have hsp := congrArg List.length (entsB_split E k)
          rw [List.length_append] at hsp
          have hNKb : NK ≤ 1200100 := by have := HEB.out; omega
          clear ho S10
          by_cases hlt : k < E.length
          · obtain ⟨b, off, v, rfl, c1, c2, pa, pc, rfl, ps, pn⟩ := HE.out.at hlt
            have HT : Hid _ := entsB_take hlt
            have hmem : E[k] ∈ E := List.getElem_mem hlt
            have HI : Hid (i64ok E[k].1) := HTI.out _ hmem
            have hpl : E[k].2.length ≤ 65536 := HALL.out _ hmem
            have PS : Hid (∀ w', Below w1.heap.size w1 w' → Seen w' pa E[k].2.length E[k].2) := fun w' hb => ps.below hb
            have C2 : Hid (∀ w', Below w1.heap.size w1 w' → w'.cell? ⟨b, off + k * 2 + 1, none⟩ = some (.slice pa E[k].2.length pc)) := fun w' hb => (hb.cell (p := ⟨b, off + k * 2 + 1, none⟩) (World.block_lt_of_cell? w1 _ c2)).trans c2
            have c1' : wr.cell? ⟨b, off + k * 2, none⟩ = some (.int .i64 E[k].1) := (OO.out.below.cell (p := ⟨b, off + k * 2, none⟩) (World.block_lt_of_cell? w1 _ c1)).trans c1
            clear c1
            have c1 := c1'
            clear c1'
            have PN : Hid _ := pn
            have hlt' : (k : Int) < E.length := by omega
            have hE4 := H1.out
            clear hmem ps pn c2 hsp hNK
            generalize E[k] = en at *
            obtain ⟨et, ep⟩ := en
            simp only at c1 C2 PS HI hpl HT
            have le1 := enc_ten (zig_lt et HI.out)
            have le2 := sz_length_le ep (by omega)
            go_wp2_with fail
            refine (refInt_any none 0 0 [] et HI.out wr ⟨rfl, by simp, .inl rfl⟩ (fun _ => rfl) (by omega)).mono ?_
            clear c1 q9
            rintro e y1 ⟨v1, rfl, o1, b1⟩
            rw [Nat.zero_add, List.nil_append] at o1
            obtain ⟨a2, c2, ra, rc, y2, rfl, hr, S2'⟩ := own_append OO.out o1 b1 (by omega)
            obtain ⟨l1, hl1⟩ : ∃ l1, (enc (zig et)).length = l1 := ⟨_, rfl⟩
            rw [hl1] at hr S2' ⊢
            obtain ⟨n2, hn2⟩ : ∃ n2, NK + l1 = n2 := ⟨_, rfl⟩
            rw [hn2] at hr S2'
            have HR : Hid _ := hr
            have S2 : Hid (Own w1 y2 a2 n2 c2 (L ++ entsB (E.take k) ++ enc (zig et))) := S2'
            have HN2 : Hid _ := hn2
            have HL1 : Hid _ := hl1
            have hn2b : n2 ≤ 1200110 := by omega
            have q9 : y2.cell? ⟨w.heap.size, 9, none⟩ = some (.slice (some ⟨b, off, none⟩) E.length ec) := by simp [World.cell?, CC.out y2 S2.out.below]
            have d2 := C2.out y2 S2.out.below
            clear o1 b1 hr S2' hn2 hl1 le1
            go_wp2_with (at_builtin; refine wpList_append_known rfl (.tmp 103) (.tmp 110) 22 22 rfl _ _ rfl rfl _ _ HR.out ?_)
            refine (refBytes_any none 0 0 [] pa ep.length pc ep y2 ⟨rfl, by simp, .inl rfl⟩ (fun _ => rfl) (PS.out y2 S2.out.below) PN.out (by omega)).mono ?_
            clear d2 q9
            rintro e y3 ⟨v3, rfl, o3, b3⟩
            rw [Nat.zero_add, List.nil_append] at o3
            obtain ⟨a4, c4, ra', rc', y4, rfl, hr, S4'⟩ := own_append S2.out o3 b3 (by omega)
            obtain ⟨l3, hl3⟩ : ∃ l3, (sz ep).length = l3 := ⟨_, rfl⟩
            rw [hl3] at hr S4' ⊢
            obtain ⟨n4, hn4⟩ : ∃ n4, n2 + l3 = n4 := ⟨_, rfl⟩
            rw [hn4] at hr S4'
            have HR4 : Hid _ := hr
            have S4 : Hid (Own w1 y4 a4 n4 c4 (L ++ entsB (E.take k) ++ enc (zig et) ++ sz ep)) := S4'
            have eN : Hid (n4 = N + (entsB (E.take (k + 1))).length) := by
              show _ = _
              rw [HT.out, ← hn4, ← hl3, ← HN2.out, ← HL1.out, ← HNK.out]
              simp only [entB, List.length_append]
              omega
            have eL : Hid (L ++ entsB (E.take k) ++ enc (zig et) ++ sz ep = L ++ entsB (E.take (k + 1))) := by
              show _ = _
              rw [HT.out]
              simp only [entB, List.append_assoc]
            clear o3 b3 hr S4' hn4 hl3 S2 HR HN2 HL1 le2
            go_wp2_with (at_builtin; refine wpList_append_known rfl (.tmp 112) (.tmp 119) 22 22 rfl _ _ rfl rfl _ _ HR4.out ?_)
            go_roundw
            case rel =>
              have h6 := S4.out
              rw [eL.out, eN.out] at h6
              exact ⟨k + 1, a4, c4, by omega, by go_num, by rw [← eN.out], h6⟩
            case measure => simp only [intOf]; omega
          · obtain rfl : k = E.length := by omega
            have q10 : wr.cell? ⟨w.heap.size, 10, none⟩ = some (.slice da D.length dc) := by simp [World.cell?, CC.out wr OO.out.below]
            rw [List.take_length] at OO HNK hsp
            have hd := H2.out
            have le2 := sz_length_le D (by omega)
            clear hsp hNK
            go_wp2_with fail
            refine (refBytes_any none 0 0 [] da D.length dc D wr ⟨rfl, by simp, .inl rfl⟩ (fun _ => rfl) (HD.out.below OO.out.below) HDN.out (by omega)).mono ?_
            clear q9 q10
            rintro e y3 ⟨v3, rfl, o3, b3⟩
            rw [Nat.zero_add, List.nil_append] at o3
            obtain ⟨a4, c4, ra', rc', y4, rfl, hr, S4'⟩ := own_append OO.out o3 b3 (by omega)
            obtain ⟨l3, hl3⟩ : ∃ l3, (sz D).length = l3 := ⟨_, rfl⟩
            rw [hl3] at hr S4' ⊢
            obtain ⟨n4, hn4⟩ : ∃ n4, NK + l3 = n4 := ⟨_, rfl⟩
            rw [hn4] at hr S4'
            have HR4 : Hid _ := hr
            have eL : Hid (L ++ entsB E ++ sz D = msgB h E D) := by
              show _ = _
              rw [HLB.out]
              simp only [msgB]
            have eN : Hid (n4 = (msgB h E D).length) := by
              have := S4'.seen.1
              rw [this, eL.out]
              rfl
            have S4 : Hid (Own w1 y4 a4 n4 c4 (msgB h E D)) := by have := S4'; rw [eL.out] at this; exact this
            have HA3 := HALL.out
            clear o3 b3 hr S4' hn4 hl3 OO le2
            by_cases g5 : (1048576 : Int) < (n4 : Int)
            · have HX : Hid (¬ msgFits h E D) := fun hm => by have := hm.2.2.2; have := eN.out; omega
              clear HA3
              go_wp2_with (at_builtin; refine wpList_append_known rfl (.tmp 121) (.tmp 124) 22 22 rfl _ _ rfl rfl _ _ HR4.out ?_)
              go_ret2
              exact ⟨.inr ⟨HX.out, rfl⟩, HB1.out.trans (S4.out.below.mono HB1.out.size)⟩
            · have HX : Hid (msgFits h E D) := ⟨H1.out, H2.out, HA3, by have := eN.out; omega⟩
              have OZ : Hid (y4.ownsRow w.heap.size 5 1 (.slice a4 n4 c4) (msgB h E D).length (cellsOf (msgB h E D))) := by
                rw [← eN.out]; exact owns_mono' S4.out.own HB1.out.size
              clear HA3
              go_wp2_with (at_builtin; refine wpList_append_known rfl (.tmp 121) (.tmp 124) 22 22 rfl _ _ rfl rfl _ _ HR4.out ?_)
              go_ret2
              exact ⟨.inl ⟨HX.out, _, rfl, OZ.out⟩, HB1.out.trans (S4.out.below.mono HB1.out.size)⟩
    · have HNo : Hid (¬ msgFits h E D) := hbad rfl
      clear hok hbad
      generalize hSS : D.length + entSum (E.take k) = S at *
      by_cases g3 : (k : Int) < (E.length : Int)
      · go_wp2
        go_ret2
        exact ⟨.inr ⟨HNo.out, rfl⟩, HB1.out⟩
      · go_wp2
        go_ret2
        exact ⟨.inr ⟨HNo.out, rfl⟩, HB1.out⟩
end Go.Proofs.YtfdlgiomnmnhgaaDoor
