/- RlogParts: the walk. -/
import Derived.Test.YtikedglcicgdhaaLLaw
namespace Go.Proofs.Ytikedglcicgdhaa
open Go.RowKit
attribute [local go_sem] Oper.semAt_some
set_option linter.unusedVariables false

/-- Count: a number from 0 to one less than m. -/
theorem count_any (n m : Int) (w : World) (h0 : -9223372036854775808 ≤ n) (h1 : n ≤ 9223372036854775807) (hm : 0 < m) (hm2 : m ≤ 4611686018427387904) :
    Calls Try.prog 23 #[.int .i64 n, .int .i64 m] w fun e w' => e = .returned (.int .i64 (n % m)) ∧ w' = w := by
  have hq := Int.tmod_add_mul_tdiv n m
  have hb1 : (n.tmod m).natAbs < m.natAbs := by rw [Int.natAbs_tmod]; exact Nat.mod_lt _ (by omega)
  have hb2 : -m < n.tmod m := by omega
  have hb3 : n.tmod m < m := by omega
  generalize n.tdiv m = q at *
  obtain ⟨t, ht⟩ : ∃ t, n.tmod m = t := ⟨_, rfl⟩
  rw [ht] at hq hb2 hb3
  clear hb1
  rcases Int.lt_or_le t 0 with h | h
  · have he : Hid (n % m = t + m) := by
      show n % m = t + m
      rw [← hq, Int.add_mul_emod_self_left, ← Int.add_emod_right]
      exact Int.emod_eq_of_lt (by omega) (by omega)
    clear hq
    go_enter Try.func23, Try.ntmps23
    go_wp2
    go_ret
    rw [he.out]
    exact ⟨rfl, rfl⟩
  · have he : Hid (n % m = t) := by
      show n % m = t
      rw [← hq, Int.add_mul_emod_self_left]
      exact Int.emod_eq_of_lt (by omega) (by omega)
    clear hq
    go_enter Try.func23, Try.ntmps23
    go_wp2
    go_ret
    rw [he.out]
    exact ⟨rfl, rfl⟩
theorem lastT_bounds {w : World} {base N : Nat} {B T : Int} {sv : Value} {L : List EntV} (h : LogIn w base N B T sv L) : 0 ≤ lastT T L ∧ lastT T L ≤ 1152921504606846976 := by
  unfold lastT
  cases hl : L.getLast? with
  | none => exact h.bT
  | some e =>
    have := h.bE e (List.mem_of_getLast? hl)
    simp only
    omega
/-- Entries behind entries of the call's own. -/
theorem grow_ents {w : World} {base b : Nat} {ra a4 : Option Addr} {k n4 rc c4 : Nat} {gs fs : List EntV} (o : w.ownsRow base 50 2 (.slice ra k rc) k (entCells gs)) (hk : gs.length = k) (d : ∀ e ∈ gs, DataAt w e.2 e.1.2) (o4 : w.ownsRow b 50 2 (.slice a4 n4 c4) n4 (entCells fs)) (hn : fs.length = n4) (d4 : ∀ e ∈ fs, DataAt w e.2 e.1.2) (hl : k + n4 ≤ 4096) (hb : base ≤ w.heap.size) :
    ∃ a5 c5 w5, (Builtin.append_ #[22, 22] 22 #[.slice ra k rc, .slice a4 n4 c4]).run Try.prog w = .ok (.slice a5 (k + n4) c5) w5 ∧ w5.ownsRow base 50 2 (.slice a5 (k + n4) c5) (k + n4) (entCells (gs ++ fs)) ∧ (∀ e ∈ gs ++ fs, DataAt w5 e.2 e.1.2) ∧ Below base w w5 ∧ w.grownBy w5 (Value.slice ra k rc).ownBlock := by
  obtain ⟨a, c, e, r, hnil, _⟩ := row_raw (es := fs) (by rw [hn]; exact o4)
  rw [hn] at e
  cases e
  obtain ⟨v5, w5, hr, o5, g5, _⟩ := run_append_ents 22 w base (.slice ra k rc) k gs o a4 n4 c4 fs hn.symm r (fun e he => (d4 e he).1.one) hnil (by omega) hb
  obtain ⟨a5, c5, hv, _⟩ := row_form o5
  rw [hv] at hr o5
  have ok : ∀ y, B8At w y → w5.heap[y]? = w.heap[y]? := fun y ⟨cs, z, e⟩ => g5.block y (Array.getElem?_eq_some_iff.1 e).1 (fun e2 => by
    obtain ⟨_, _, cur, e3⟩ := row_kind o e2.symm
    rw [e] at e3
    injection e3 with e3
    injection e3 with _ e4
    exact absurd e4 (by decide))
  refine ⟨a5, c5, w5, hr, o5, fun e he => ?_, (Below.refl _ w).grown g5 hb (fun y e => (row_kind o e).1), g5⟩
  rcases List.mem_append.1 he with he | he
  · exact (d e he).keep ok
  · exact (d4 e he).keep ok
/-- A log stays where rows behind it grow. -/
theorem LogIn.grown {w w5 : World} {base N b : Nat} {B T : Int} {sv v : Value} {L gs : List EntV} {k : Nat} (h : LogIn w base N B T sv L) (o : w.ownsRow b 50 2 v k (entCells gs)) (hN : N < b) (hs : ∀ y, sv.ownBlock = some y → y < b) (g5 : w.grownBy w5 v.ownBlock) : LogIn w5 base N B T sv L :=
  { h with
    hN := (g5.block N h.ltN (fun e => by have := (row_kind o e.symm).1; omega)).trans h.hN
    row := owns_kept h.row (fun y e => g5.block y (row_kind h.row e).2.1 (fun e2 => by have := (row_kind o e2.symm).1; have := hs y e; omega))
    dat := fun e he => (h.dat e he).keep fun y ⟨cs, z, e2⟩ => g5.block y (Array.getElem?_eq_some_iff.1 e2).1 (fun e3 => by
      obtain ⟨_, _, cur, e4⟩ := row_kind o e3.symm
      rw [e2] at e4
      injection e4 with e4
      injection e4 with _ e5
      exact absurd e5 (by decide)) }
set_option maxRecDepth 100000 in
set_option maxHeartbeats 8000000 in
theorem rlogParts_any (B T : Int) (a : Option Addr) (len cap : Nat) (l : List Ent) (cut : Int) (w : World) (hBl : -9223372036854775808 ≤ B) (hBh : B ≤ 9223372036854775807) (he : EntsAt w a len l) (hnil : a = none → cap = 0) (hm : len ≤ 4398046511104) (hlo : -9223372036854775808 ≤ cut) (hhi : cut ≤ 9223372036854775807) :
    Calls Try.prog 6 #[.int .i64 B, .int .i64 T, .slice a len cap, .int .i64 cut] w fun e w' => e = .returned (.bool true) ∧ Below w.heap.size w w' := by
  have HN := new_any B T ⟨hBl, hBh⟩ a len cap l w he hnil hm
  have HE : Hid (EntsAt w a len l) := he
  have HLN : Hid (len = l.length) := he.1
  have HHI : Hid (-9223372036854775808 ≤ cut ∧ cut ≤ 9223372036854775807) := ⟨hlo, hhi⟩
  clear he hnil hm hlo hhi hBl hBh
  go_enter Try.func6, Try.ntmps6
  go_wp2_with fail
  refine HN.mono ?_
  clear HN
  rintro e w1 ⟨b1, (⟨_, why, hwhy, rfl⟩ | ⟨hcb, _, hcan, rfl, sv, fs, f1, l1⟩)⟩
  · have hw0 : (why == 0) = false := by rcases hwhy with rfl | rfl <;> rfl
    have hw1 : (why != 0) = true := by rcases hwhy with rfl | rfl <;> rfl
    clear hwhy
    go_wp2_with fail
    refine (knownL_any w1).mono ?_
    rintro e w2 ⟨rfl, b2⟩
    go_wp2
    go_ret
    exact ⟨rfl, b1.trans (b2.mono b1.size)⟩
  by_cases h60 : 60 < len
  · go_wp2_with fail
    refine (knownL_any w1).mono ?_
    rintro e w2 ⟨rfl, b2⟩
    go_wp2
    go_ret
    exact ⟨rfl, b1.trans (b2.mono b1.size)⟩
  have q0 : ¬ 60 < len := h60
  have H60 : Hid (len ≤ 60) := by show _ ≤ _; omega
  obtain ⟨N, eN⟩ : ∃ N, w.heap.size = N := ⟨_, rfl⟩
  have EN : Hid (w.heap.size = N) := eN
  rw [eN] at l1
  rw [eN]
  have HFL : Hid (fs.length = len) := by
    show fs.length = len
    rw [HLN.out, ← f1, List.length_map]
  have F1 : Hid (fs.map Prod.fst = l) := f1
  have L1 : Hid (LogIn w1 N N B T sv fs) := l1
  have B1 : Hid (Below N w w1) := by rw [← eN]; exact b1
  have HB : Hid (0 ≤ B ∧ B ≤ 1152921504606846976) := by unfold canBase at hcb; show _ ∧ _; omega
  obtain ⟨k, ek⟩ : ∃ k : Nat, (k : Int) = cut % ((len + 1 : Nat) : Int) := ⟨(cut % ((len + 1 : Nat) : Int)).toNat, by have := Int.emod_nonneg cut (show ((len + 1 : Nat) : Int) ≠ 0 by omega); omega⟩
  have HK : Hid (k ≤ len) := by have := Int.emod_lt_of_pos cut (show 0 < ((len + 1 : Nat) : Int) by omega); show k ≤ len; omega
  have HCt : Calls Try.prog 23 #[.int .i64 cut, .int .i64 ((len + 1 : Nat) : Int)] w1 _ := count_any cut ((len + 1 : Nat) : Int) w1 HHI.out.1 HHI.out.2 (by omega) (by have := H60.out; omega)
  rw [← ek] at HCt
  have APT : Hid (N < w1.heap.size ∧ (∀ y, sv.ownBlock = some y → y < w1.heap.size)) := ⟨L1.out.ltN, fun y e => (row_kind L1.out.row e).2.1⟩
  have qB1 : wrap64 (B + 1) = B + 1 := by unfold wrap64; have := HB.out; omega
  obtain ⟨p1, ep1⟩ : ∃ p1 : Int, B + 1 = p1 := ⟨_, rfl⟩
  have qp1 : wrap64 (B + 1) = p1 := by rw [qB1]; exact ep1
  have EP1 : Hid (B + 1 = p1) := ep1
  have qpk : wrap64 (p1 + (k : Int)) = p1 + k := by unfold wrap64; have := HB.out; have := HK.out; have := H60.out; omega
  obtain ⟨p2, ep2⟩ : ∃ p2 : Int, p1 + (k : Int) = p2 := ⟨_, rfl⟩
  have qp2 : wrap64 (p1 + (k : Int)) = p2 := by rw [qpk]; exact ep2
  have EP2 : Hid (B + 1 + (k : Int) = p2) := by show _ = _; rw [EP1.out]; exact ep2
  have HP2H : Hid (p2 ≤ 9223372036854775807 ∧ p1 ≤ 9223372036854775807) := by show _ ∧ _; have := EP2.out; have := EP1.out; have := HB.out; have := HK.out; have := H60.out; omega
  clear l1 f1 b1 eN hcan hcb qB1 ep1 qpk ep2 ek
  go_wp2_with fail
  refine HCt.mono ?_
  clear HCt
  rintro e w2 ⟨rfl, rfl⟩
  by_cases hk0 : k = 0
  · subst hk0
    have S1 : Hid (w2.ownsRow w2.heap.size 50 2 (.slice none 0 0) 0 (entCells [])) := World.ownsRow_nil _ _ _ _
    have D1 : Hid (∀ e ∈ ([] : List EntV), DataAt w2 e.2 e.1.2) := fun e he => by cases he
    have P1 : Hid (([] : List EntV).map Prod.fst = l.take 0 ∧ ([] : List EntV).length = 0) := ⟨by simp, rfl⟩
    have X1 : Hid (w2.heap.size ≤ w2.heap.size ∧ LogIn w2 N N B T sv fs ∧ Below N w w2) := ⟨Nat.le_refl _, L1.out, B1.out⟩
    have qk : decide ((0 : Int) < ((0 : Nat) : Int)) = false := rfl
    obtain ⟨SZ, eSZ⟩ : ∃ SZ, w2.heap.size = SZ := ⟨_, rfl⟩
    have AP2 : Hid (N < SZ ∧ (∀ y, sv.ownBlock = some y → y < SZ)) := by rw [← eSZ]; exact APT.out
    have S1' : Hid (w2.ownsRow SZ 50 2 (.slice none 0 0) 0 (entCells [])) := by rw [← eSZ]; exact S1.out
    have X1' : Hid (SZ ≤ w2.heap.size ∧ LogIn w2 N N B T sv fs ∧ Below N w w2) := by rw [← eSZ]; exact X1.out
    clear S1 X1 eSZ APT L1 B1
    try simp only [Int.add_zero, Int.ofNat_zero] at qp2
    have HPa := part_any X1'.out.2.1 p2 99 HP2H.out.1
    rw [F1.out] at HPa
    go_wp2_with fail
    refine HPa.mono ?_
    clear HPa
    rintro e x1 ⟨a1, c1, ps, rfl, f1, o1, d1, y1⟩
    have hpl : partL B l p2 99 = l.drop 0 := by rw [← EP2.out]; exact partL_all l B (by rw [← HLN.out]; have := H60.out; omega) 0
    rw [hpl] at f1 o1
    rw [hpl]
    have hdl : (l.drop 0).length = len - 0 := by rw [List.length_drop, ← HLN.out]
    rw [hdl] at o1
    rw [hdl]
    obtain ⟨oo, dd⟩ := rows_below y1 S1'.out D1.out
    have lx := X1'.out.2.1.below y1
    obtain ⟨a5, c5, w5, hr, o5, d5, b5, g5⟩ := grow_ents oo P1.out.2 dd o1 (by rw [← hdl, ← f1, List.length_map]) d1 (by have := H60.out; have := HK.out; omega) (Nat.le_trans X1'.out.1 y1.size)
    have hkl : 0 + (len - 0) = len := by have := HK.out; omega
    rw [hkl] at hr o5
    have HR : Hid _ := hr
    have L5 : Hid (LogIn w5 N N B T sv fs) := lx.grown oo AP2.out.1 AP2.out.2 g5
    have B5 : Hid (Below N w w5) := (X1'.out.2.2.trans (y1.mono X1'.out.2.1.size)).trans (b5.mono (Nat.le_of_lt AP2.out.1))
    have hall : (([] : List EntV) ++ ps).map Prod.fst = l := by rw [List.map_append, P1.out.1, f1, List.take_append_drop]
    have e5 := rows_ents o5 (by rw [← List.length_map (f := Prod.fst), hall, ← HLN.out]) d5
    rw [hall] at e5
    have HSm := sameEntries_any a5 a len c5 len cap l l w5 e5 (HE.out.below (by rw [EN.out]; exact B5.out)) (by have := H60.out; omega)
    rw [decide_eq_true rfl] at HSm
    clear hr o5 d5 b5 g5 e5 hall oo dd lx o1 d1 f1 y1 hpl hdl hkl S1' X1' D1 P1 AP2
    go_wp2_with (first | (at_builtin; refine wpList_append_known rfl (.tmp 48) (.tmp 54) 22 22 rfl _ _ rfl rfl _ _ HR.out ?_) | fail)
    refine HSm.mono ?_
    clear HSm HR
    rintro e w6 ⟨rfl, q, rfl⟩
    have L6 : Hid (LogIn (w5.drewN q) N N B T sv fs) := L5.out.drewN q
    have B6 : Hid (Below N w (w5.drewN q)) := below_drewN' B5.out q
    obtain ⟨w6, e6⟩ : ∃ w6, w5.drewN q = w6 := ⟨_, rfl⟩
    rw [e6] at L6 B6
    rw [e6]
    clear e6 L5 B5
    go_wp2_with fail
    go_loopw [12] (fun i wr => ∃ (j : Nat), j ≤ len ∧ i = .int .i64 (j : Int) ∧ Hid (Below w6.heap.size w6 wr)) (fun i _ => len - (intOf i).toNat)
    case atStart => exact ⟨0, Nat.zero_le _, rfl, Below.refl _ _⟩
    case round =>
      obtain ⟨j, hj, rfl, BW⟩ := hrel
      by_cases hlt : j < len
      · have hjl : j < l.length := by rw [← HLN.out]; exact hlt
        have hjf : j < fs.length := by rw [HFL.out]; exact hlt
        have hs := stand_entry B T fs j hjf
        have hfe : fs[j].1 = l[j] := by
          have := List.getElem_map (f := Prod.fst) (l := fs) (i := j) (h := by simpa using hjf)
          rw [← this]
          simp only [F1.out]
        rw [hfe, EP1.out] at hs
        have lr := L6.out.below BW.out
        have HT := term_some lr (p1 + (j : Int)) (by have := EP1.out; have := HB.out; have := H60.out; omega) _ hs
        have q2 : wrap64 (p1 + (j : Int)) = p1 + (j : Int) := by unfold wrap64; have := EP1.out; have := HB.out; have := H60.out; omega
        obtain ⟨pj, epj⟩ : ∃ pj : Int, p1 + (j : Int) = pj := ⟨_, rfl⟩
        have q3 : wrap64 (p1 + (j : Int)) = pj := by rw [q2]; exact epj
        rw [epj] at HT
        clear q2 epj hs hfe lr
        obtain ⟨bb, off, v, rfl, c1, c2, _⟩ := (HE.out.below (by rw [EN.out]; exact B6.out.trans (BW.out.mono (by have := B6.out.size; rw [← EN.out]; exact this)))).at hjl
        have C1 : Hid _ := c1
        have q4 : (j : Int) < (len : Int) := by omega
        have q5 : j < 100 := by have := H60.out; omega
        go_wp2_with fail
        refine HT.mono ?_
        clear HT
        rintro e x2 ⟨rfl, y2⟩
        have c3 : x2.cell? ⟨bb, off + j * 2, none⟩ = some (.int .i64 l[j].1) := by rw [y2.cell (p := ⟨bb, off + j * 2, none⟩) (World.block_lt_of_cell? wr _ C1.out)]; exact C1.out
        have B2 : Hid (Below w6.heap.size w6 x2) := BW.out.trans (y2.mono BW.out.size)
        clear c1 c2 y2
        generalize l[j].1 = tt at *
        go_wp2
        go_roundw
        case rel => exact ⟨j + 1, by omega, by go_num, B2⟩
        case measure => simp only [intOf]; omega
      · obtain rfl : j = len := by omega
        have lr := L6.out.below BW.out
        have HL := last_any lr
        rw [HFL.out] at HL
        have hlb := lastT_bounds lr
        have HN1 := fun (x : World) (hx : Below wr.heap.size wr x) (at_ t : Int) => newer_any (lr.below hx) at_ t
        rw [HFL.out] at HN1
        obtain ⟨u, eu⟩ : ∃ u, lastT T fs = u := ⟨_, rfl⟩
        rw [eu] at HL hlb HN1
        obtain ⟨z, ez⟩ : ∃ z : Int, B + (j : Int) = z := ⟨_, rfl⟩
        rw [ez] at HL HN1
        have HZ : Hid (0 ≤ z ∧ z ≤ 1152921504606847036) := by have := HB.out; have := H60.out; show _ ∧ _; omega
        have r1 : wrap64 (B + (j : Int)) = z := by rw [← ez]; unfold wrap64; have := HB.out; have := H60.out; omega
        have r2 : wrap64 (z - 1) = z - 1 := by unfold wrap64; have := HZ.out; omega
        have r3 : wrap64 (u + 1) = u + 1 := by unfold wrap64; omega
        have r4 : wrap64 (z + 5) = z + 5 := by unfold wrap64; have := HZ.out; omega
        have r5 : wrap64 (u - 1) = u - 1 := by unfold wrap64; omega
        have n1 : newer z u z u = true := by unfold newer; simp
        have n2 : newer (z - 1) u z u = false := by unfold newer; simp; omega
        have n3 : newer 0 (u + 1) z u = true := by unfold newer; simp; omega
        have n4 : newer (z + 5) (u - 1) z u = false := by unfold newer; simp; omega
        have H1 := fun x hx => (n1 ▸ HN1 x hx z u : Calls Try.prog 22 #[.pointer (some ⟨N, 0, none⟩), .int .i64 z, .int .i64 u] x fun e w' => e = .returned (.bool true) ∧ Below x.heap.size x w')
        have H2 := fun x hx => (n2 ▸ HN1 x hx (z - 1) u : Calls Try.prog 22 #[.pointer (some ⟨N, 0, none⟩), .int .i64 (z - 1), .int .i64 u] x fun e w' => e = .returned (.bool false) ∧ Below x.heap.size x w')
        have H3 := fun x hx => (n3 ▸ HN1 x hx 0 (u + 1) : Calls Try.prog 22 #[.pointer (some ⟨N, 0, none⟩), .int .i64 0, .int .i64 (u + 1)] x fun e w' => e = .returned (.bool true) ∧ Below x.heap.size x w')
        have H4 := fun x hx => (n4 ▸ HN1 x hx (z + 5) (u - 1) : Calls Try.prog 22 #[.pointer (some ⟨N, 0, none⟩), .int .i64 (z + 5), .int .i64 (u - 1)] x fun e w' => e = .returned (.bool false) ∧ Below x.heap.size x w')
        obtain ⟨zm, ezm⟩ : ∃ zm : Int, z - 1 = zm := ⟨_, rfl⟩
        obtain ⟨up, eup⟩ : ∃ up : Int, u + 1 = up := ⟨_, rfl⟩
        obtain ⟨zp, ezp⟩ : ∃ zp : Int, z + 5 = zp := ⟨_, rfl⟩
        obtain ⟨um, eum⟩ : ∃ um : Int, u - 1 = um := ⟨_, rfl⟩
        rw [ezm] at H2
        rw [eup] at H3
        rw [ezp, eum] at H4
        have s2 : wrap64 (z - 1) = zm := by rw [r2]; exact ezm
        have s3 : wrap64 (u + 1) = up := by rw [r3]; exact eup
        have s4 : wrap64 (z + 5) = zp := by rw [r4]; exact ezp
        have s5 : wrap64 (u - 1) = um := by rw [r5]; exact eum
        have K1 : Hid _ := H1
        have K2 : Hid _ := H2
        have K3 : Hid _ := H3
        have K4 : Hid _ := H4
        clear lr hlb HN1 n1 n2 n3 n4 r2 r3 r4 r5 ezm eup ezp eum eu ez H1 H2 H3 H4 hj hlt
        go_wp2_with fail
        refine HL.mono ?_
        clear HL
        rintro e x1 ⟨rfl, y1⟩
        go_wp2_with fail
        refine (K1.out x1 y1).mono ?_
        rintro e x2 ⟨rfl, y2⟩
        have z2 := y1.trans (y2.mono y1.size)
        go_wp2_with fail
        refine (K2.out x2 z2).mono ?_
        rintro e x3 ⟨rfl, y3⟩
        have z3 := z2.trans (y3.mono z2.size)
        go_wp2_with fail
        refine (K3.out x3 z3).mono ?_
        rintro e x4 ⟨rfl, y4⟩
        have z4 := z3.trans (y4.mono z3.size)
        go_wp2_with fail
        refine (K4.out x4 z4).mono ?_
        rintro e x5 ⟨rfl, y5⟩
        have z5 := z4.trans (y5.mono z4.size)
        go_wp2_with fail
        refine (knownL_any x5).mono ?_
        rintro e x6 ⟨rfl, y6⟩
        go_wp2
        go_ret
        have z6 := z5.trans (y6.mono z5.size)
        have t1 := BW.out.trans (z6.mono BW.out.size)
        exact ⟨rfl, by rw [EN.out]; exact B6.out.trans (t1.mono (by have := B6.out.size; rw [← EN.out]; exact this))⟩
  · have HPa := part_any L1.out p1 (k : Int) HP2H.out.2
    rw [F1.out] at HPa
    have hpl : partL B l p1 (k : Int) = l.take k := by
      unfold partL
      rw [if_pos ⟨by omega, by have := EP1.out; omega⟩, show (p1 - B - 1).toNat = 0 by have := EP1.out; omega]
      simp
    rw [hpl] at HPa
    have hkl : (l.take k).length = k := by rw [List.length_take, ← HLN.out]; have := HK.out; omega
    have qk : decide ((0 : Int) < (k : Int)) = true := decide_eq_true (by omega)
    have qk' : 0 < k := by omega
    go_wp2_with fail
    refine HPa.mono ?_
    clear HPa
    rintro e x0 ⟨a0, c0, ps0, rfl, f0, o0, d0, y0⟩
    rw [hkl] at o0
    rw [hkl]
    obtain ⟨ga, gc, w7, hr, o7, d7, b7, g7⟩ := grow_ents (World.ownsRow_nil x0 w2.heap.size 50 2) (gs := []) rfl (fun e he => by cases he) o0 (by rw [← hkl, ← f0, List.length_map]) d0 (by have := H60.out; have := HK.out; omega) y0.size
    rw [Nat.zero_add] at hr o7
    have HR0 : Hid _ := hr
    obtain ⟨SZ, eSZ⟩ : ∃ SZ, w2.heap.size = SZ := ⟨_, rfl⟩
    have AP2 : Hid (N < SZ ∧ (∀ y, sv.ownBlock = some y → y < SZ)) := by rw [← eSZ]; exact APT.out
    have S1' : Hid (w7.ownsRow SZ 50 2 (.slice ga k gc) k (entCells ([] ++ ps0))) := by rw [← eSZ]; exact o7
    have D1 : Hid (∀ e ∈ [] ++ ps0, DataAt w7 e.2 e.1.2) := d7
    have P1 : Hid (([] ++ ps0).map Prod.fst = l.take k ∧ ([] ++ ps0).length = k) := ⟨f0, by rw [← hkl, ← f0]; simp⟩
    have X1' : Hid (SZ ≤ w7.heap.size ∧ LogIn w7 N N B T sv fs ∧ Below N w w7) := by
      have lx := (L1.out.below y0).below (w' := w7) ⟨g7.os, g7.tape, g7.output, g7.size, fun y hy => g7.block y hy (fun e => by cases e)⟩
      refine ⟨by rw [← eSZ]; exact Nat.le_trans y0.size b7.size, lx, (B1.out.trans (y0.mono L1.out.size)).trans (b7.mono L1.out.size)⟩
    clear hr o7 d7 b7 g7 o0 d0 f0 y0 hpl hkl eSZ APT L1 B1
    go_wp2_with (first | (at_builtin; refine wpList_append_known rfl (.tmp 41) (.tmp 46) 22 22 rfl _ _ rfl rfl _ _ HR0.out ?_) | fail)
    have HPa := part_any X1'.out.2.1 p2 99 HP2H.out.1
    rw [F1.out] at HPa
    refine HPa.mono ?_
    clear HPa HR0
    rintro e x1 ⟨a1, c1, ps, rfl, f1, o1, d1, y1⟩
    have hpl : partL B l p2 99 = l.drop k := by rw [← EP2.out]; exact partL_all l B (by rw [← HLN.out]; have := H60.out; omega) k
    rw [hpl] at f1 o1
    rw [hpl]
    have hdl : (l.drop k).length = len - k := by rw [List.length_drop, ← HLN.out]
    rw [hdl] at o1
    rw [hdl]
    obtain ⟨oo, dd⟩ := rows_below y1 S1'.out D1.out
    have lx := X1'.out.2.1.below y1
    obtain ⟨a5, c5, w5, hr, o5, d5, b5, g5⟩ := grow_ents oo P1.out.2 dd o1 (by rw [← hdl, ← f1, List.length_map]) d1 (by have := H60.out; have := HK.out; omega) (Nat.le_trans X1'.out.1 y1.size)
    have hkl : k + (len - k) = len := by have := HK.out; omega
    rw [hkl] at hr o5
    have HR : Hid _ := hr
    have L5 : Hid (LogIn w5 N N B T sv fs) := lx.grown oo AP2.out.1 AP2.out.2 g5
    have B5 : Hid (Below N w w5) := (X1'.out.2.2.trans (y1.mono X1'.out.2.1.size)).trans (b5.mono (Nat.le_of_lt AP2.out.1))
    have hall : (([] ++ ps0) ++ ps).map Prod.fst = l := by rw [List.map_append, P1.out.1, f1, List.take_append_drop]
    have e5 := rows_ents o5 (by rw [← List.length_map (f := Prod.fst), hall, ← HLN.out]) d5
    rw [hall] at e5
    have HSm := sameEntries_any a5 a len c5 len cap l l w5 e5 (HE.out.below (by rw [EN.out]; exact B5.out)) (by have := H60.out; omega)
    rw [decide_eq_true rfl] at HSm
    clear hr o5 d5 b5 g5 e5 hall oo dd lx o1 d1 f1 y1 hpl hdl hkl S1' X1' D1 P1 AP2
    go_wp2_with (first | (at_builtin; refine wpList_append_known rfl (.tmp 48) (.tmp 54) 22 22 rfl _ _ rfl rfl _ _ HR.out ?_) | fail)
    refine HSm.mono ?_
    clear HSm HR
    rintro e w6 ⟨rfl, q, rfl⟩
    have L6 : Hid (LogIn (w5.drewN q) N N B T sv fs) := L5.out.drewN q
    have B6 : Hid (Below N w (w5.drewN q)) := below_drewN' B5.out q
    obtain ⟨w6, e6⟩ : ∃ w6, w5.drewN q = w6 := ⟨_, rfl⟩
    rw [e6] at L6 B6
    rw [e6]
    clear e6 L5 B5
    go_wp2_with fail
    go_loopw [12] (fun i wr => ∃ (j : Nat), j ≤ len ∧ i = .int .i64 (j : Int) ∧ Hid (Below w6.heap.size w6 wr)) (fun i _ => len - (intOf i).toNat)
    case atStart => exact ⟨0, Nat.zero_le _, rfl, Below.refl _ _⟩
    case round =>
      obtain ⟨j, hj, rfl, BW⟩ := hrel
      by_cases hlt : j < len
      · have hjl : j < l.length := by rw [← HLN.out]; exact hlt
        have hjf : j < fs.length := by rw [HFL.out]; exact hlt
        have hs := stand_entry B T fs j hjf
        have hfe : fs[j].1 = l[j] := by
          have := List.getElem_map (f := Prod.fst) (l := fs) (i := j) (h := by simpa using hjf)
          rw [← this]
          simp only [F1.out]
        rw [hfe, EP1.out] at hs
        have lr := L6.out.below BW.out
        have HT := term_some lr (p1 + (j : Int)) (by have := EP1.out; have := HB.out; have := H60.out; omega) _ hs
        have q2 : wrap64 (p1 + (j : Int)) = p1 + (j : Int) := by unfold wrap64; have := EP1.out; have := HB.out; have := H60.out; omega
        obtain ⟨pj, epj⟩ : ∃ pj : Int, p1 + (j : Int) = pj := ⟨_, rfl⟩
        have q3 : wrap64 (p1 + (j : Int)) = pj := by rw [q2]; exact epj
        rw [epj] at HT
        clear q2 epj hs hfe lr
        obtain ⟨bb, off, v, rfl, c1, c2, _⟩ := (HE.out.below (by rw [EN.out]; exact B6.out.trans (BW.out.mono (by have := B6.out.size; rw [← EN.out]; exact this)))).at hjl
        have C1 : Hid _ := c1
        have q4 : (j : Int) < (len : Int) := by omega
        have q5 : j < 100 := by have := H60.out; omega
        go_wp2_with fail
        refine HT.mono ?_
        clear HT
        rintro e x2 ⟨rfl, y2⟩
        have c3 : x2.cell? ⟨bb, off + j * 2, none⟩ = some (.int .i64 l[j].1) := by rw [y2.cell (p := ⟨bb, off + j * 2, none⟩) (World.block_lt_of_cell? wr _ C1.out)]; exact C1.out
        have B2 : Hid (Below w6.heap.size w6 x2) := BW.out.trans (y2.mono BW.out.size)
        clear c1 c2 y2
        generalize l[j].1 = tt at *
        go_wp2
        go_roundw
        case rel => exact ⟨j + 1, by omega, by go_num, B2⟩
        case measure => simp only [intOf]; omega
      · obtain rfl : j = len := by omega
        have lr := L6.out.below BW.out
        have HL := last_any lr
        rw [HFL.out] at HL
        have hlb := lastT_bounds lr
        have HN1 := fun (x : World) (hx : Below wr.heap.size wr x) (at_ t : Int) => newer_any (lr.below hx) at_ t
        rw [HFL.out] at HN1
        obtain ⟨u, eu⟩ : ∃ u, lastT T fs = u := ⟨_, rfl⟩
        rw [eu] at HL hlb HN1
        obtain ⟨z, ez⟩ : ∃ z : Int, B + (j : Int) = z := ⟨_, rfl⟩
        rw [ez] at HL HN1
        have HZ : Hid (0 ≤ z ∧ z ≤ 1152921504606847036) := by have := HB.out; have := H60.out; show _ ∧ _; omega
        have r1 : wrap64 (B + (j : Int)) = z := by rw [← ez]; unfold wrap64; have := HB.out; have := H60.out; omega
        have r2 : wrap64 (z - 1) = z - 1 := by unfold wrap64; have := HZ.out; omega
        have r3 : wrap64 (u + 1) = u + 1 := by unfold wrap64; omega
        have r4 : wrap64 (z + 5) = z + 5 := by unfold wrap64; have := HZ.out; omega
        have r5 : wrap64 (u - 1) = u - 1 := by unfold wrap64; omega
        have n1 : newer z u z u = true := by unfold newer; simp
        have n2 : newer (z - 1) u z u = false := by unfold newer; simp; omega
        have n3 : newer 0 (u + 1) z u = true := by unfold newer; simp; omega
        have n4 : newer (z + 5) (u - 1) z u = false := by unfold newer; simp; omega
        have H1 := fun x hx => (n1 ▸ HN1 x hx z u : Calls Try.prog 22 #[.pointer (some ⟨N, 0, none⟩), .int .i64 z, .int .i64 u] x fun e w' => e = .returned (.bool true) ∧ Below x.heap.size x w')
        have H2 := fun x hx => (n2 ▸ HN1 x hx (z - 1) u : Calls Try.prog 22 #[.pointer (some ⟨N, 0, none⟩), .int .i64 (z - 1), .int .i64 u] x fun e w' => e = .returned (.bool false) ∧ Below x.heap.size x w')
        have H3 := fun x hx => (n3 ▸ HN1 x hx 0 (u + 1) : Calls Try.prog 22 #[.pointer (some ⟨N, 0, none⟩), .int .i64 0, .int .i64 (u + 1)] x fun e w' => e = .returned (.bool true) ∧ Below x.heap.size x w')
        have H4 := fun x hx => (n4 ▸ HN1 x hx (z + 5) (u - 1) : Calls Try.prog 22 #[.pointer (some ⟨N, 0, none⟩), .int .i64 (z + 5), .int .i64 (u - 1)] x fun e w' => e = .returned (.bool false) ∧ Below x.heap.size x w')
        obtain ⟨zm, ezm⟩ : ∃ zm : Int, z - 1 = zm := ⟨_, rfl⟩
        obtain ⟨up, eup⟩ : ∃ up : Int, u + 1 = up := ⟨_, rfl⟩
        obtain ⟨zp, ezp⟩ : ∃ zp : Int, z + 5 = zp := ⟨_, rfl⟩
        obtain ⟨um, eum⟩ : ∃ um : Int, u - 1 = um := ⟨_, rfl⟩
        rw [ezm] at H2
        rw [eup] at H3
        rw [ezp, eum] at H4
        have s2 : wrap64 (z - 1) = zm := by rw [r2]; exact ezm
        have s3 : wrap64 (u + 1) = up := by rw [r3]; exact eup
        have s4 : wrap64 (z + 5) = zp := by rw [r4]; exact ezp
        have s5 : wrap64 (u - 1) = um := by rw [r5]; exact eum
        have K1 : Hid _ := H1
        have K2 : Hid _ := H2
        have K3 : Hid _ := H3
        have K4 : Hid _ := H4
        clear lr hlb HN1 n1 n2 n3 n4 r2 r3 r4 r5 ezm eup ezp eum eu ez H1 H2 H3 H4 hj hlt
        go_wp2_with fail
        refine HL.mono ?_
        clear HL
        rintro e x1 ⟨rfl, y1⟩
        go_wp2_with fail
        refine (K1.out x1 y1).mono ?_
        rintro e x2 ⟨rfl, y2⟩
        have z2 := y1.trans (y2.mono y1.size)
        go_wp2_with fail
        refine (K2.out x2 z2).mono ?_
        rintro e x3 ⟨rfl, y3⟩
        have z3 := z2.trans (y3.mono z2.size)
        go_wp2_with fail
        refine (K3.out x3 z3).mono ?_
        rintro e x4 ⟨rfl, y4⟩
        have z4 := z3.trans (y4.mono z3.size)
        go_wp2_with fail
        refine (K4.out x4 z4).mono ?_
        rintro e x5 ⟨rfl, y5⟩
        have z5 := z4.trans (y5.mono z4.size)
        go_wp2_with fail
        refine (knownL_any x5).mono ?_
        rintro e x6 ⟨rfl, y6⟩
        go_wp2
        go_ret
        have z6 := z5.trans (y6.mono z5.size)
        have t1 := BW.out.trans (z6.mono BW.out.size)
        exact ⟨rfl, by rw [EN.out]; exact B6.out.trans (t1.mono (by have := B6.out.size; rw [← EN.out]; exact this))⟩
end Go.Proofs.Ytikedglcicgdhaa
