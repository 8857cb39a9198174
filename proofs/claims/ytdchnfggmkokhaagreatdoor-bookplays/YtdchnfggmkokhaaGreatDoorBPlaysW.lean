/- BookPlays: the walk. -/
import Derived.Test.YtdchnfggmkokhaaGreatDoorBStep
import Derived.Test.YtdchnfggmkokhaaGreatDoorBLoadM
import Derived.Test.YtdchnfggmkokhaaGreatDoorBLent
import Derived.Test.YtdchnfggmkokhaaGreatDoorBCopy
import Derived.Test.YtdchnfggmkokhaaGreatDoorBEqual
namespace Go.Proofs.YtdchnfggmkokhaaGreatDoor
open Go.RowKit Cod
set_option linter.unusedVariables false

theorem wpList_load_rowB {P : Program} {ops : Array Oper} {rest : List Oper} {o : Oper} {a : Act} {w : World} {Q : Exit → Act → World → Prop} (hgd : Region.wanted o (yielded ops a.tmps) = true) (ty : TypeId) (x : Operand) (ho : o.op = .load ty x)
    (g : Nat) (hx : a.eval x = .pointer (some ⟨g, 0, none⟩)) (t : TypeId) (cs : Array Value) (fr : Nat × Nat) (d : TypeDesc) (hg : w.heap[g]? = some (.cells cs t fr))
    (hu : P.underlying ty = some d) (hd : (match d with | .struct _ | .array _ _ => true | _ => false) = true) (hi : (P.info? ty).map (·.size) = some cs.size)
    (h : wpList P ops Q rest (a.put o.dst (.agg cs)) w) : wpList P ops Q (o :: rest) a w :=
  wpList_step fun K hK => by rw [if_pos hgd]; exact wp_load_row ty x ho g hx t cs fr d hg hu hd hi (hK _ _ h)
/-- A book's own bytes are that book. -/
theorem ld_back {L : List Acc} (hL : Fit L) : ldWhy (bookB L) = 0 ∧ ldL (bookB L) = L := by
  have hb : (bookB L).drop 0 = enc L.length ++ accsB L := by rw [List.drop_zero]; rfl
  have r1 : ldN (bookB L) = (L.length, (enc L.length).length, 0) := by
    have := rC_back (most := 200) (Nat.zero_le _) hb (by have := hL.len; omega) (by have := hL.len; omega) (accsB_more _)
    rw [Nat.zero_add] at this
    exact this
  have hd : (bookB L).drop (enc L.length).length = accsB L ++ [] := by
    rw [List.append_nil]
    unfold bookB
    rw [List.drop_left]
  have hla : (enc L.length).length ≤ (bookB L).length := by unfold bookB; rw [List.length_append]; omega
  have hk := ak_back L hla hd (fun p hp => ⟨by have := (hL.acc hp).1; omega, (hL.acc hp).2.1, ⟨by have := (hL.acc hp).2.2.1.1; omega, by have := (hL.acc hp).2.2.1.2; omega⟩⟩) L.length (Nat.le_refl _)
  rw [List.take_length] at hk
  have e1 : ldL (bookB L) = L := by
    simp only [ldL, r1, rdK_ak, hk]
    have := fold_fit L [] (by simpa using hL)
    simpa using this
  have e2 : ldEnd (bookB L) = 0 := by
    simp only [ldEnd, r1, rdK_ak, hk]
    unfold rEnd
    rw [if_neg (fun h => h rfl), if_neg (by unfold bookB; rw [List.length_append]; omega)]
  exact ⟨by unfold ldWhy; rw [if_neg (fun h => h e2), if_pos (by rw [e1])], e1⟩
theorem put_turns (L : List Acc) (t : ByteArray) (n : Int) : ((putP L t n).1 = 0 ∧ (putP L t n).2 ≠ L) ∨ ((putP L t n).1 ≠ 0 ∧ (putP L t n).2 = L) := by
  unfold putP
  split
  · exact .inr ⟨by show (_ : Int) ≠ 0; simp, rfl⟩
  · split
    · exact .inr ⟨by show (_ : Int) ≠ 0; simp, rfl⟩
    · split
      · exact .inr ⟨by show (_ : Int) ≠ 0; simp, rfl⟩
      · split
        · exact .inr ⟨by show (_ : Int) ≠ 0; simp, rfl⟩
        · exact .inl ⟨rfl, fun e => by have h := congrArg List.length e; rw [ins_length] at h; omega⟩
theorem same_nilB (w : World) (N : Nat) : Calls Tryz.prog 8 #[.pointer (some ⟨N, 0, none⟩), .pointer none] w fun e w' => e = .returned (.bool false) ∧ ∃ n, w' = w.drewN n := by
  go_enter Tryz.func8, Tryz.ntmps8
  go_wp2
  go_ret
  exact ⟨rfl, 0, rfl⟩
theorem own_lessP {w : World} {base g c n : Nat} {l : List (BitVec 8)} {x : BitVec 8} (h : w.ownsRow base 5 1 (.slice (some ⟨g, 0, none⟩) (n + 1) c) (n + 1) (cellsOf (l ++ [x]))) (hl : l.length = n) : w.ownsRow base 5 1 (.slice (some ⟨g, 0, none⟩) n c) n (cellsOf l) := by
  rcases h.2 with ⟨e, _⟩ | ⟨g', c', cur, e, hb, hg, hnc, hcm, hcs, ht⟩
  · cases e
  · injection e with e1 _ e3
    injection e1 with e1
    injection e1 with e1
    subst e1
    subst e3
    refine ⟨by rw [cellsOf_length, hl, Nat.mul_one], .inr ⟨g, c, cur, rfl, hb, hg, by omega, hcm, hcs, ?_⟩⟩
    have := congrArg (List.take (n * 1)) ht
    rw [List.take_take, Nat.min_eq_left (by omega), cellsOf_append, List.take_append_of_le_length (by rw [cellsOf_length, hl, Nat.mul_one]; exact Nat.le_refl _), show List.take (n * 1) (cellsOf l) = cellsOf l from List.take_of_length_le (by rw [cellsOf_length, hl, Nat.mul_one]; exact Nat.le_refl _)] at this
    exact this
section
variable {w0 w w' : World} {N N' : Nat} {L L' : List Acc} {B0 : Option (Nat × Array Value)}
theorem Two.alike (h : Two w0 w N N' L L B0) (ok on slot : Int) (nm oby : ByteArray) : Calls Tryz.prog 11 #[.pointer (some ⟨N, 0, none⟩), .pointer (some ⟨N', 0, none⟩), .agg #[.int .i64 ok, .string nm, .string oby, .int .i64 on, .int .i64 slot]] w fun e w' => e = .returned (.bool true) ∧ Two w0 w' N N' L L B0 := by
  obtain ⟨b1, s1, h1, e1⟩ := h.b
  obtain ⟨b2, s2, h2, e2⟩ := h.q
  exact (alike_any ⟨h1, h2, h.tab⟩ ok on slot nm oby).mono (by rintro e w' ⟨rfl, k⟩; exact ⟨rfl, h.below k⟩)
/-- Bytes that are neither's have changed. -/
theorem Two.aside5 (h : Two w0 w N N' L L' B0) {g : Nat} {cs : Array Value} {z : Nat × Nat} (k : w.grownBy w' (some g)) (hg : w.heap[g]? = some (.cells cs 5 z)) (hl : w0.heap.size ≤ g) : Two w0 w' N N' L L' B0 := by
  have ne : ∀ (j : Nat) (C : Array Value) (t : TypeId) (y : Nat × Nat), w.heap[j]? = some (.cells C t y) → t ≠ 5 → w'.heap[j]? = w.heap[j]? := fun j C t y hj ht => k.block j (Array.getElem?_eq_some_iff.1 hj).1 (fun e => by
    have e2 := Option.some.inj e
    rw [e2, hg] at hj
    injection hj with hj
    injection hj with _ hj
    exact ht hj.symm)
  obtain ⟨b1, s1, h1, e1⟩ := h.b
  obtain ⟨b2, s2, h2, e2⟩ := h.q
  refine ⟨⟨b1, s1, h1.keep (ne _ _ _ _ h1.hN (by decide)) (fun g2 e => ?_), e1⟩, ⟨b2, s2, h2.keep (ne _ _ _ _ h2.hN (by decide)) (fun g2 e => ?_), e2⟩, h.t, h.bel.grown k h.bel.size (fun j e => by have := Option.some.inj e; omega), fun j C e => (ne _ _ _ _ (h.ob j C e) (by decide)).trans (h.ob j C e)⟩
  · obtain ⟨_, _, cur, h3⟩ := row_kind h1.row e
    exact ne _ _ _ _ h3 (by decide)
  · obtain ⟨_, _, cur, h3⟩ := row_kind h2.row e
    exact ne _ _ _ _ h3 (by decide)
end
set_option maxRecDepth 100000 in
set_option maxHeartbeats 16000000 in
theorem bookPlays_any (a : Option Addr) (len cap : Nat) (os : List OpB) (w : World) (hO : OpsB w a len os) (hT : Tabs w) :
    Calls Tryz.prog 3 #[.slice a len cap] w fun e w' => e = .returned (.bool true) ∧ Below w.heap.size w w' := by
  have HO : Hid (OpsB w a len os) := hO
  have HT : Hid (Tabs w) := hT
  have NB := new_any w
  clear hO hT
  go_enter Tryz.func3, Tryz.ntmps3
  go_wp2_with fail
  refine NB.mono ?_
  clear NB
  rintro e w1 ⟨rfl, b1, k1⟩
  have B1 : Hid (Below w.heap.size w w1) := b1
  have K1 : Hid (BookIn w1 w.heap.size w.heap.size (.slice none 0 0) []) := k1
  clear b1 k1
  obtain ⟨w2, hw2⟩ : ∃ w2, w1.alloc (.cells #[.slice none 0 0] 28) = w2 := ⟨_, rfl⟩
  have b2 : Below w1.heap.size w1 w2 := by rw [← hw2]; exact (Below.refl _ w1).alloc (Nat.le_refl _) _
  have x2 : w2.heap[w1.heap.size]? = some (.cells #[.slice none 0 0] 28 (0, 0)) := by rw [← hw2]; exact heap_alloc_new w1 _
  have T2 : Hid (Two w w2 w.heap.size w1.heap.size [] [] none) := ⟨⟨_, _, K1.out.below b2, Nat.le_refl _⟩, ⟨_, _, ⟨x2, World.ownsRow_nil _ _ _ _, Nat.le_refl _, Fit.nil⟩, B1.out.size⟩, HT.out, B1.out.trans (b2.mono B1.out.size), fun k C e => by cases e⟩
  clear b2 x2 K1 B1
  obtain ⟨N1, hN1⟩ : ∃ N1, w.heap.size = N1 := ⟨_, rfl⟩
  obtain ⟨N', hN'⟩ : ∃ N', w1.heap.size = N' := ⟨_, rfl⟩
  go_wp2_with fail
  rw [hN1, hN'] at T2
  go_loopw [3, 5] (fun bv i wr => ∃ (k N : Nat) (L : List Acc), k ≤ len ∧ k ≤ 120 ∧ bv = .pointer (some ⟨N, 0, none⟩) ∧ i = .int .i64 k ∧ Hid (Two w wr N N' L L none)) (fun _ i _ => 120 - (intOf i).toNat)
  case atStart => exact ⟨0, N1, [], Nat.zero_le _, by omega, rfl, rfl, T2⟩
  case round =>
    clear T2
    obtain ⟨k, N, L, hk, hk120, rfl, rfl, HI⟩ := hrel
    by_cases hlt : k < len ∧ k < 120
    · obtain ⟨hl1, hl2⟩ := hlt
      have hj : k < os.length := by have := HO.out.1; omega
      obtain ⟨g, off, ea, q0, q1, q2, q3, q4⟩ := HO.out.at (W := wr) HI.out.bel hj
      subst ea
      have hok := HO.out.2.1 _ (List.getElem_mem hj)
      generalize os[k]'hj = ob at q0 q1 q2 q3 q4 hok
      have HOK : Hid ob.ok := hok
      obtain ⟨kd, nm, oby, on, slot⟩ := ob
      simp only at q0 q1 q2 q3 q4
      have hl1' : (k : Int) < (len : Int) := by omega
      have hl2' : (k : Int) < 120 := by omega
      have HNo : Hid (-9223372036854775808 ≤ on ∧ on ≤ 9223372036854775807) := HOK.out.n
      have HSo : Hid (nm.size ≤ maxLen) := HOK.out.nm
      obtain ⟨w3, hw3⟩ : ∃ w3, wr.alloc (.cells #[.int .i64 kd, .string nm, .string oby, .int .i64 on, .int .i64 slot] 30) = w3 := ⟨_, rfl⟩
      have b3 : Below wr.heap.size wr w3 := by rw [← hw3]; exact (Below.refl _ wr).alloc (Nat.le_refl _) _
      have x3 : w3.heap[wr.heap.size]? = some (.cells #[.int .i64 kd, .string nm, .string oby, .int .i64 on, .int .i64 slot] 30 (0, 0)) := by rw [← hw3]; exact heap_alloc_new wr _
      have T3 : Hid (Two w w3 N N' L L (some (wr.heap.size, #[.int .i64 kd, .string nm, .string oby, .int .i64 on, .int .i64 slot]))) := by
        have h0 := HI.out.below b3
        exact ⟨h0.b, h0.q, h0.t, h0.bel, fun j C e => by cases e; exact x3⟩
      have c3 : w3.cell? ⟨wr.heap.size, 0, none⟩ = some (.int .i64 kd) := by simp [World.cell?, x3]
      clear hok b3 HI x3
      generalize hKK : wr.heap.size = K at *
      by_cases e10 : kd = 10
      · subst e10
        obtain ⟨base, sv, hb, hl⟩ := T3.out.b
        have HB : Hid (BookIn w3 base N sv L) := hb
        have HL : Hid (w.heap.size ≤ base) := hl
        have LB := ld_back hb.fit
        have HLB : Hid _ := LB
        have HLen : Hid ((bookB L).length + 1 ≤ 140737488355328) := by
          have h1 := hb.fit.bytes L.length
          rw [List.take_length] at h1
          have h10 := enc_ten (n := L.length) (by have := hb.fit.len; omega)
          show _ ≤ _
          unfold bookB
          rw [List.length_append]
          omega
        have BB := bytes_any hb
        clear hb hl LB
        go_wp2_with fail
        refine BB.mono ?_
        clear BB
        rintro e w4 ⟨xa, xc, rfl, xo, b4⟩
        have HB4 : Hid (Below w3.heap.size w3 w4) := b4
        have HW34 : Hid (w3.heap.size ≤ w4.heap.size) := b4.size
        obtain ⟨_, _, e1, xs, xn, _⟩ := owned_seen xo (bytes_low HB.out.fit)
        cases e1
        have LT := lent_any xa (bookB L).length xc (bookB L) w4 xs xn HLen.out
        clear xo b4 xs xn
        go_wp2_with fail
        refine LT.mono ?_
        clear LT
        rintro e w5 ⟨g2, c2, rfl, o5, b5⟩
        have HB5 : Hid (Below w3.heap.size w3 w5) := HB4.out.trans (b5.mono HB4.out.size)
        have O5 : Hid (w5.ownsRow w4.heap.size 5 1 (.slice (some ⟨g2, 0, none⟩) ((bookB L).length + 1) c2) ((bookB L).length + 1) (cellsOf (bookB L ++ [167#8]))) := o5
        obtain ⟨_, _, es1, ss1, _, _⟩ := owned_seen o5 (by have := HLen.out; unfold maxLen; omega)
        cases es1
        have S5 : Seen w5 (some ⟨g2, 0, none⟩) (bookB L).length (bookB L) := by
          have := ss1.take (bookB L).length (by simp)
          rwa [List.take_left] at this
        have LD := load_any (some ⟨g2, 0, none⟩) (bookB L).length c2 (bookB L) w5 S5 (fun e => by cases e) (by have := HLen.out; omega)
        clear o5 b5 ss1 S5 HB4
        go_wp2_with fail
        refine LD.mono ?_
        clear LD
        rintro e w6 ⟨t6, b6⟩
        rcases t6 with ⟨h0, _⟩ | ⟨_, N2, sv2, rfl, h6⟩
        · exact absurd HLB.out.1 h0
        rw [HLB.out.2] at h6
        have HB6 : Hid (Below w3.heap.size w3 w6) := HB5.out.trans (b6.mono HB5.out.size)
        have H6 : Hid (BookIn w6 w5.heap.size N2 sv2 L) := h6
        have O6 : Hid (w6.ownsRow w4.heap.size 5 1 (.slice (some ⟨g2, 0, none⟩) ((bookB L).length + 1) c2) ((bookB L).length + 1) (cellsOf (bookB L ++ [167#8]))) := owns_kept O5.out (fun j e => b6.block j (row_kind O5.out e).2.1)
        have B6 : Hid (BookIn w6 base N sv L) := HB.out.below HB6.out
        have S1 := same_any H6.out B6.out
        rw [decide_eq_true rfl] at S1
        clear h6 b6 O5 HB
        go_wp2_with fail
        refine S1.mono ?_
        clear S1
        rintro e w7 ⟨rfl, n7, e7⟩
        have b7 : Below w6.heap.size w6 w7 := by rw [e7]; exact below_drewN' (Below.refl _ w6) n7
        have S2 := same_any (B6.out.below b7) (H6.out.below b7)
        rw [decide_eq_true rfl] at S2
        have HB7 : Hid (Below w6.heap.size w6 w7) := b7
        clear b7 e7
        go_wp2_with fail
        refine S2.mono ?_
        clear S2
        rintro e w8 ⟨rfl, n8, e8⟩
        have b68 : Below w6.heap.size w6 w8 := by
          rw [e8]
          exact below_drewN' HB7.out n8
        have O8 := owns_kept O6.out (fun j e => b68.block j (row_kind O6.out e).2.1)
        have HB8 : Hid (Below w3.heap.size w3 w8) := HB6.out.trans (b68.mono HB6.out.size)
        have t8 : Two w w8 N N' L L (some (K, #[.int .i64 10, .string nm, .string oby, .int .i64 on, .int .i64 slot])) := T3.out.below HB8.out
        have T8 : Hid (Two w w8 N2 N' L L (some (K, #[.int .i64 10, .string nm, .string oby, .int .i64 on, .int .i64 slot]))) := ⟨⟨_, sv2, H6.out.below b68, Nat.le_trans T3.out.bel.size HB5.out.size⟩, t8.q, t8.t, t8.bel, t8.ob⟩
        obtain ⟨lg1, lg2, cur8, hc8⟩ := row_kind O8 (g := g2) rfl
        have SP := spoil_row w4.heap.size (.slice (some ⟨g2, 0, none⟩) (bookB L).length c2) (bookB L).length (bookB L) w8 (own_lessP O8 rfl) (by omega) HLen.out
        have HLG : Hid (w.heap.size ≤ g2) := by have h1 := T3.out.bel.size; have h2 := HW34.out; show _ ≤ _; omega
        have HC8 : Hid (w8.heap[g2]? = some (.cells cur8 5 (0, 0))) := hc8
        clear b68 O8 t8 lg1 lg2 hc8 e8 HB8 HB7 H6 B6 O6 HB6 HB5 T3
        go_wp2_with fail
        refine SP.mono ?_
        clear SP
        rintro e w9 ⟨⟨u, rfl⟩, g9⟩
        have T9 : Hid (Two w w9 N2 N' L L (some (K, #[.int .i64 10, .string nm, .string oby, .int .i64 on, .int .i64 slot]))) := T8.out.aside5 g9 HC8.out HLG.out
        clear g9 T8 HC8
        have XB : Hid (w9.heap[K]? = some (.cells #[.int .i64 10, .string nm, .string oby, .int .i64 on, .int .i64 slot] 30 (0, 0))) := T9.out.ob K _ rfl
        have ST := bstep_any T9.out 10 on slot nm oby HNo.out HSo.out
        go_wp2_with (first | (refine wpList_load_row rfl 30 (.tmp 6) rfl K rfl 30 _ (0, 0) _ XB.out Tryz.underlying30 rfl (by kernel_rfl) ?_))
        refine ST.mono ?_
        clear ST XB T9
        rintro e v6 ⟨rfl, L1, t6⟩
        have XB6 : Hid (v6.heap[K]? = some (.cells #[.int .i64 10, .string nm, .string oby, .int .i64 on, .int .i64 slot] 30 (0, 0))) := t6.ob K _ rfl
        have AL := t6.alike 10 on slot nm oby
        clear t6
        go_wp2_with (first | (refine wpList_load_rowB (by rfl) 30 (.tmp 6) rfl K rfl 30 _ (0, 0) _ XB6.out Tryz.underlying30 rfl (by kernel_rfl) ?_))
        refine AL.mono ?_
        clear AL XB6
        rintro e v7 ⟨rfl, t7⟩
        have T7 : Hid (Two w v7 N2 N' L1 L1 none) := ⟨t7.b, t7.q, t7.t, t7.bel, fun j C e => by cases e⟩
        clear t7
        go_wp2
        go_roundw
        case rel => exact ⟨k + 1, N2, L1, by omega, by omega, rfl, by go_num, T7⟩
        case measure => simp only [intOf]; omega
      · have g10 : (kd == 10) = false := by rw [beq_eq_false_iff_ne]; exact e10
        clear e10
        have XB : Hid (w3.heap[K]? = some (.cells #[.int .i64 kd, .string nm, .string oby, .int .i64 on, .int .i64 slot] 30 (0, 0))) := T3.out.ob K _ rfl
        have ST := bstep_any T3.out kd on slot nm oby HNo.out HSo.out
        go_wp2_with (first | (refine wpList_load_row rfl 30 (.tmp 6) rfl K rfl 30 _ (0, 0) _ XB.out Tryz.underlying30 rfl (by kernel_rfl) ?_))
        refine ST.mono ?_
        clear ST XB T3
        rintro e v6 ⟨rfl, L1, t6⟩
        have XB6 : Hid (v6.heap[K]? = some (.cells #[.int .i64 kd, .string nm, .string oby, .int .i64 on, .int .i64 slot] 30 (0, 0))) := t6.ob K _ rfl
        have AL := t6.alike kd on slot nm oby
        clear t6
        go_wp2_with (first | (refine wpList_load_rowB (by rfl) 30 (.tmp 6) rfl K rfl 30 _ (0, 0) _ XB6.out Tryz.underlying30 rfl (by kernel_rfl) ?_))
        refine AL.mono ?_
        clear AL XB6
        rintro e v7 ⟨rfl, t7⟩
        have T7 : Hid (Two w v7 N N' L1 L1 none) := ⟨t7.b, t7.q, t7.t, t7.bel, fun j C e => by cases e⟩
        clear t7
        go_wp2
        go_roundw
        case rel => exact ⟨k + 1, N, L1, by omega, by omega, rfl, by go_num, T7⟩
        case measure => simp only [intOf]; omega
    · have hcond : ((k : Int) < (len : Int) ∧ ¬ (k : Int) < 120) ∨ ¬ (k : Int) < (len : Int) := by omega
      clear hlt hk hk120
      obtain ⟨base, sv, hb, hl⟩ := HI.out.b
      have HB : Hid (BookIn wr base N sv L) := hb
      have CP := copy_any hb
      have hnk : nameOk (⟨#[111, 116, 104, 101, 114, 95, 111, 110, 101, 95, 109, 111, 114, 101]⟩ : ByteArray) = true := by decide
      clear hb hl
      rcases hcond with ⟨p1, p2⟩ | p1
      all_goals
        go_wp2_with fail
        refine CP.mono ?_
        clear CP
        rintro e w4 ⟨N3, sv3, rfl, b4, h4⟩
        have H4 : Hid (BookIn w4 wr.heap.size N3 sv3 L) := h4
        have B4 : Hid (Below wr.heap.size wr w4) := b4
        have S1 := same_any h4 (HB.out.below b4)
        rw [decide_eq_true rfl] at S1
        clear h4 b4
        go_wp2_with fail
        refine S1.mono ?_
        clear S1
        rintro e w5 ⟨rfl, n5, e5⟩
        have b5 : Below w4.heap.size w4 w5 := by rw [e5]; exact below_drewN' (Below.refl _ w4) n5
        have HB5 : Hid (Below w4.heap.size w4 w5) := b5
        have SN := same_nilB w5 N
        clear b5 e5
        go_wp2_with fail
        refine SN.mono ?_
        clear SN
        rintro e w6 ⟨rfl, n6, e6⟩
        have b6 : Below w4.heap.size w4 w6 := by rw [e6]; exact below_drewN' HB5.out n6
        have H6 : Hid (BookIn w6 wr.heap.size N3 sv3 L) := H4.out.below b6
        have B6 : Hid (Below wr.heap.size wr w6) := B4.out.trans (b6.mono B4.out.size)
        have OP := open_any H6.out ⟨#[111, 116, 104, 101, 114, 95, 111, 110, 101, 95, 109, 111, 114, 101]⟩ (by decide)
        obtain ⟨pc, pl, hp⟩ : ∃ pc pl, putP L ⟨#[111, 116, 104, 101, 114, 95, 111, 110, 101, 95, 109, 111, 114, 101]⟩ 0 = (pc, pl) := ⟨_, _, rfl⟩
        have PT := put_turns L ⟨#[111, 116, 104, 101, 114, 95, 111, 110, 101, 95, 109, 111, 114, 101]⟩ 0
        rw [hp] at OP PT
        simp only at OP PT
        have HPT : Hid _ := PT
        clear b6 e6 hp PT H4 B4 HB5
        go_wp2_with fail
        refine OP.mono ?_
        clear OP
        rintro e w7 ⟨rfl, sv7, h7, c7, _⟩
        have B7 : Hid (Below wr.heap.size wr w7) := B6.out.trans (H6.out.chg_below c7)
        have S2 := same_any h7 (HB.out.below B7.out)
        clear h7 c7 H6 B6
        rcases HPT.out with ⟨hc1, hc2⟩ | ⟨hc1, hc2⟩
        · rw [decide_eq_false hc2] at S2
          subst hc1
          clear hc2
          go_wp2_with fail
          refine S2.mono ?_
          clear S2
          rintro e w8 ⟨rfl, n8, e8⟩
          have T8 : Hid (Two w w8 N N' L L none) := HI.out.below (by rw [e8]; exact below_drewN' B7.out n8)
          clear e8 B7
          have AL := T8.out.alike 0 0 0 ⟨#[]⟩ ⟨#[]⟩
          clear T8
          go_wp2_with fail
          refine AL.mono ?_
          clear AL
          rintro e w9 ⟨rfl, t9⟩
          have T9 : Hid _ := t9
          have KN := knownB_any w9
          clear t9
          go_wp2_with fail
          refine KN.mono ?_
          clear KN
          rintro e w10 ⟨rfl, b10⟩
          have B10 : Hid (Below w.heap.size w w10) := (Two.bel T9.out).trans (b10.mono (Two.bel T9.out).size)
          clear b10
          go_wp2
          go_ret
          exact ⟨rfl, B10.out⟩
        · rw [decide_eq_true hc2] at S2
          have hc3 : (pc == 0) = false := by rw [beq_eq_false_iff_ne]; exact hc1
          clear hc1 hc2
          go_wp2_with fail
          refine S2.mono ?_
          clear S2
          rintro e w8 ⟨rfl, n8, e8⟩
          have T8 : Hid (Two w w8 N N' L L none) := HI.out.below (by rw [e8]; exact below_drewN' B7.out n8)
          clear e8 B7
          have AL := T8.out.alike 0 0 0 ⟨#[]⟩ ⟨#[]⟩
          clear T8
          go_wp2_with fail
          refine AL.mono ?_
          clear AL
          rintro e w9 ⟨rfl, t9⟩
          have T9 : Hid _ := t9
          have KN := knownB_any w9
          clear t9
          go_wp2_with fail
          refine KN.mono ?_
          clear KN
          rintro e w10 ⟨rfl, b10⟩
          have B10 : Hid (Below w.heap.size w w10) := (Two.bel T9.out).trans (b10.mono (Two.bel T9.out).size)
          clear b10
          go_wp2
          go_ret
          exact ⟨rfl, B10.out⟩
end Go.Proofs.YtdchnfggmkokhaaGreatDoor
