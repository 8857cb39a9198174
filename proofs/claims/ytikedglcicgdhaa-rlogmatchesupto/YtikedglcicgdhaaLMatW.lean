/- RlogMatches: the walk. -/
import Derived.Test.YtikedglcicgdhaaLMats
namespace Go.Proofs.Ytikedglcicgdhaa
open Go.RowKit
attribute [local go_sem] Oper.semAt_some
set_option linter.unusedVariables false

section
variable {w w' : World} {base N b : Nat} {B T : Int} {sv : Value} {L : List EntV} {fs : List EntV} {a : Option Addr} {n c : Nat}
/-- Rows that are not a log's own are as they were, whatever it does. -/
theorem rows_chg2 (h : LogIn w base N B T sv L) (g : Chg w w' N sv.ownBlock) (hs : ∀ y, sv.ownBlock = some y → (Value.slice a n c).ownBlock ≠ some y) (o : w.ownsRow b 50 2 (.slice a n c) n (entCells fs)) (d : ∀ e ∈ fs, DataAt w e.2 e.1.2) :
    w'.ownsRow b 50 2 (.slice a n c) n (entCells fs) ∧ (∀ e ∈ fs, DataAt w' e.2 e.1.2) :=
  ⟨owns_kept o (fun y e => by
    obtain ⟨q1, q2, cur, q3⟩ := row_kind o e
    refine g.block y q2 (fun x => ?_) (fun e2 => hs y e2.symm e)
    subst x
    rw [h.hN] at q3
    injection q3 with q3
    injection q3 with _ q4
    exact absurd q4 (by decide)), fun e he => (d e he).keep (h.bytes g)⟩
theorem args_apart2 (h : LogIn w base N B T sv L) (hs : ∀ y, sv.ownBlock = some y → (Value.slice a n c).ownBlock ≠ some y) (o : w.ownsRow b 50 2 (.slice a n c) n (entCells fs)) (hl : fs.length = n) (d : ∀ e ∈ fs, DataAt w e.2 e.1.2) :
    (∀ w', Chg w w' N sv.ownBlock → EntsAt w' a n (fs.map Prod.fst)) ∧ (a = none → c = 0) ∧ n ≤ c ∧ ∀ x, a = some x → x = ⟨x.block, x.off, none⟩ := by
  obtain ⟨a', c', e, h1, h2, _, h3⟩ := row_form o
  cases e
  refine ⟨fun w' g => ?_, h1, h2, fun x ex => by rw [(h3 x ex).1]⟩
  obtain ⟨o', d'⟩ := rows_chg2 h g hs o d
  exact rows_ents o' hl d'
/-- Another log that lies behind is as it was. -/
theorem LogIn.beside {base' M : Nat} {B' T' : Int} {sw : Value} {K : List EntV} (h' : LogIn w base' M B' T' sw K) (h : LogIn w base N B T sv L) (g : Chg w w' N sv.ownBlock) (hN : N < base') (hs : ∀ y, sv.ownBlock = some y → y < base') : LogIn w' base' M B' T' sw K :=
  h'.keep (fun y h1 h2 => g.block y h2 (by omega) (fun e => by have := hs y e.symm; omega)) (h.bytes g)
end
/-- What RlogMatches' first Match leaves. -/
theorem match_told {w w' : World} {base N : Nat} {sv : Value} {L M : List EntV} {s a b : List Ent} {m : Nat} {t : Int} {e : Ending} (hL : L.map Prod.fst = s ++ a) (hM : M.map Prod.fst = s ++ b) (hl : L.length ≤ 60) (hp : (b.take m).length ≤ 60) (ht : stand 0 0 M (s.length : Int) = some t) (h0 : LogIn w base N 0 0 sv L)
    (h : MatchTold w w' base N 0 0 sv L (s.length : Int) t (b.take m) e) :
    (e = .returned (.tuple #[.int .i64 0, .int .i64 0, .int .i64 1]) ∧ Below base w w') ∨
    ∃ (ch : Int) (sv' : Value) (K : List EntV), e = .returned (.tuple #[.int .i64 ((s.length + (b.take m).length : Nat) : Int), .int .i64 ch, .int .i64 0]) ∧ LogIn w' base N 0 0 sv' K ∧ Chg w w' N sv.ownBlock ∧ AsFar K M (s.length + (b.take m).length) ∧ (∀ k, sv'.ownBlock = some k → sv.ownBlock = some k ∨ w.heap.size ≤ k) := by
  have hst : stand 0 0 L (s.length : Int) = some t := by rw [asFar_prefix hL hM s.length (Nat.le_refl _)]; exact ht
  have m1 : meetL 0 0 L (s.length : Int) t (b.take m) = some ((s.length : Int), b.take m) := by
    unfold meetL
    rw [if_neg (by omega), if_pos hst]
  unfold MatchTold at h
  rw [m1] at h
  simp only at h
  obtain ⟨kk, ekk⟩ : ∃ kk, passed (stand 0 0 L) (s.length : Int) (b.take m) = kk := ⟨_, rfl⟩
  rw [ekk] at h
  rcases h with ⟨h1, rfl, bb⟩ | ⟨h1, kept, hk, hkl, u, hu, (⟨why, hw, rfl, bb⟩ | ⟨hc, rfl, sv', fs, l', f', g', s'⟩)⟩
  · refine .inr ⟨0, sv, L, ?_, h0.below bb, Chg.of_below bb _ _, ?_, fun k e => .inl e⟩
    · rw [Int.natCast_add]
    · exact asFar_part hL hM m (b.take m).length (Nat.le_refl _) (by omega)
  · rcases hw with ⟨_, hw⟩ | ⟨rfl, _⟩
    · omega
    · exact .inl ⟨rfl, bb.mono h0.size⟩
  · refine .inr ⟨(s.length : Int) + kk + 1, sv', L.take kept ++ fs, ?_, l', g', ?_, s'⟩
    · rw [Int.natCast_add]
    · exact asFar_put hL hM m kk kept ekk h1 (by omega) hkl f'
theorem match_again {w w' : World} {base N : Nat} {sv : Value} {K M : List EntV} {s b : List Ent} {m : Nat} {t : Int} {e : Ending} (hM : M.map Prod.fst = s ++ b) (ht : stand 0 0 M (s.length : Int) = some t) (hK : AsFar K M (s.length + (b.take m).length))
    (h : MatchTold w w' base N 0 0 sv K (s.length : Int) t (b.take m) e) :
    e = .returned (.tuple #[.int .i64 ((s.length + (b.take m).length : Nat) : Int), .int .i64 0, .int .i64 0]) ∧ Below w.heap.size w w' := by
  have m1 : meetL 0 0 K (s.length : Int) t (b.take m) = some ((s.length : Int), b.take m) := by
    unfold meetL
    rw [if_neg (by omega), if_pos (by rw [hK s.length (by omega)]; exact ht)]
  unfold MatchTold at h
  rw [m1] at h
  simp only [asFar_again hM m hK] at h
  rcases h with ⟨_, rfl, bb⟩ | ⟨h1, _⟩
  · exact ⟨by rw [Int.natCast_add], bb⟩
  · omega
/-- Two appends to nothing. -/
theorem two_appends (w : World) (base : Nat) (hb : base ≤ w.heap.size) (a1 a2 : Option Addr) (n1 c1 n2 c2 : Nat) (es1 es2 : List EntV) (h1 : es1.length = n1) (h2 : es2.length = n2) (r1 : RawAt w a1 es1) (r2 : RawAt w a2 es2) (o1 : ∀ e ∈ es1, BytesV w e.2 e.1.2) (o2 : ∀ e ∈ es2, BytesV w e.2 e.1.2) (k1 : a1 = none → c1 = 0) (k2 : a2 = none → c2 = 0) (hl : n1 + n2 ≤ 1048576) (hbase : w.heap.size ≤ base) :
    ∃ v1 w1 x c w2, (Builtin.append_ #[22, 22] 22 #[.slice none 0 0, .slice a1 n1 c1]).run Try.prog w = .ok v1 w1 ∧ (Builtin.append_ #[22, 22] 22 #[v1, .slice a2 n2 c2]).run Try.prog w1 = .ok (.slice x (n1 + n2) c) w2 ∧
      Below w.heap.size w w2 ∧ w2.ownsRow base 50 2 (.slice x (n1 + n2) c) (n1 + n2) (entCells (es1 ++ es2)) := by
  obtain ⟨v1, w1, hr1, w1o, g1, _⟩ := run_append_ents 22 w base (.slice none 0 0) 0 [] (World.ownsRow_nil _ _ _ _) a1 n1 c1 es1 h1.symm r1 (fun e he => (o1 e he).one) k1 (by omega) hb
  rw [List.nil_append, Nat.zero_add] at w1o
  have b1 : Below w.heap.size w w1 := ⟨g1.os, g1.tape, g1.output, g1.size, fun y hy => g1.block y hy (fun e => by cases e)⟩
  obtain ⟨v2, w2, hr2, w2o, g2, _⟩ := run_append_ents 22 w1 base v1 n1 es1 w1o a2 n2 c2 es2 h2.symm (r2.below b1) (fun e he => (o2 e he).one) k2 (by omega) (Nat.le_trans hb g1.size)
  obtain ⟨x, c, hv, _⟩ := row_form w2o
  rw [hv] at hr2 w2o
  refine ⟨v1, w1, x, c, w2, hr1, hr2, ?_, w2o⟩
  exact b1.grown g2 g1.size (fun y e => Nat.le_trans hbase (row_kind w1o e).1)
set_option maxRecDepth 100000 in
set_option maxHeartbeats 8000000 in
theorem rlogMatches_any (a0 a1 a2 : Option Addr) (n0 n1 n2 k0 k1 k2 : Nat) (s a b : List Ent) (most : Int) (w : World) (e0 : EntsAt w a0 n0 s) (e1 : EntsAt w a1 n1 a) (e2 : EntsAt w a2 n2 b) (z0 : a0 = none → k0 = 0) (z1 : a1 = none → k1 = 0) (z2 : a2 = none → k2 = 0) (h1 : n0 + n1 ≤ 1048576) (h2 : n0 + n2 ≤ 1048576) :
    Calls Try.prog 3 #[.slice a0 n0 k0, .slice a1 n1 k1, .slice a2 n2 k2, .int .i64 most] w fun e w' => e = .returned (.bool true) ∧ Below w.heap.size w w' := by
  obtain ⟨es0, f0, g0, r0, o0⟩ := e0.raw
  obtain ⟨es1, f1, g1, r1, o1⟩ := e1.raw
  obtain ⟨es2, f2, g2, r2, o2⟩ := e2.raw
  obtain ⟨v1, w1, x2, c2, w2, hr1, hr2, b2, w2o⟩ := two_appends w w.heap.size (Nat.le_refl _) a0 a1 n0 k0 n1 k1 es0 es1 g0 g1 r0 r1 o0 o1 z0 z1 h1 (Nat.le_refl _)
  obtain ⟨v3, w3, x4, c4, w4, hr3, hr4, b4, w4o⟩ := two_appends w2 w2.heap.size (Nat.le_refl _) a0 a2 n0 k0 n2 k2 es0 es2 g0 g2 (r0.below b2) (r2.below b2) (fun e he => (o0 e he).below b2) (fun e he => (o2 e he).below b2) z0 z2 h2 (Nat.le_refl _)
  have bb : Below w.heap.size w w4 := b2.trans (b4.mono b2.size)
  have le : EntsAt w4 x2 (n0 + n1) (s ++ a) := by
    have o := owns_kept w2o (w' := w4) (fun y e => b4.block y (row_kind w2o e).2.1)
    obtain ⟨_, _, e, he, _⟩ := row_ents (es := es0 ++ es1) (by rw [List.length_append, g0, g1]; exact o) (fun e he => by
      rcases List.mem_append.1 he with he | he
      · exact (o0 e he).below bb
      · exact (o1 e he).below bb)
    rw [List.length_append, g0, g1] at e he
    cases e
    rw [List.map_append, f0, f1] at he
    exact he
  have me : EntsAt w4 x4 (n0 + n2) (s ++ b) := by
    obtain ⟨_, _, e, he, _⟩ := row_ents (es := es0 ++ es2) (by rw [List.length_append, g0, g2]; exact w4o) (fun e he => by
      rcases List.mem_append.1 he with he | he
      · exact (o0 e he).below bb
      · exact (o2 e he).below bb)
    rw [List.length_append, g0, g2] at e he
    cases e
    rw [List.map_append, f0, f2] at he
    exact he
  have lz : x2 = none → c2 = 0 := by obtain ⟨_, _, e, h, _⟩ := row_form w2o; cases e; exact h
  have mz : x4 = none → c4 = 0 := by obtain ⟨_, _, e, h, _⟩ := row_form w4o; cases e; exact h
  have R1 : Hid _ := hr1
  have R2 : Hid _ := hr2
  have R3 : Hid _ := hr3
  have R4 : Hid _ := hr4
  have BB : Hid (Below w.heap.size w w4) := bb
  have ME : Hid (EntsAt w4 x4 (n0 + n2) (s ++ b)) := me
  have MZ : Hid (x4 = none → c4 = 0) := mz
  have HNg := new_any 0 0 (by omega) x2 (n0 + n1) c2 (s ++ a) w4 le lz (by omega)
  have HS0 : Hid (n0 = s.length ∧ n1 = a.length ∧ n2 = b.length) := ⟨e0.1, e1.1, e2.1⟩
  have HH : Hid (n0 + n1 ≤ 1048576 ∧ n0 + n2 ≤ 1048576) := ⟨h1, h2⟩
  obtain ⟨nl, enl⟩ : ∃ nl, n0 + n1 = nl := ⟨_, rfl⟩
  obtain ⟨nm, enm⟩ : ∃ nm, n0 + n2 = nm := ⟨_, rfl⟩
  rw [enl] at R2 HNg
  rw [enm] at R4 ME
  have ENL : Hid (n0 + n1 = nl ∧ n0 + n2 = nm) := ⟨enl, enm⟩
  clear e0 e1 e2 z0 z1 z2 h1 h2 f0 g0 r0 o0 f1 g1 r1 o1 f2 g2 r2 o2 hr1 hr2 b2 w2o hr3 hr4 b4 w4o bb le me lz mz enl enm
  go_enter Try.func3, Try.ntmps3
  go_wp2_with (first
    | (at_builtin; refine wpList_append_known rfl (.tmp 30) (.tmp 31) 22 22 rfl _ _ rfl rfl _ _ R1.out ?_)
    | (at_builtin; refine wpList_append_known rfl (.tmp 33) (.tmp 34) 22 22 rfl _ _ rfl rfl _ _ R2.out ?_)
    | (at_builtin; refine wpList_append_known rfl (.tmp 36) (.tmp 37) 22 22 rfl _ _ rfl rfl _ _ R3.out ?_)
    | (at_builtin; refine wpList_append_known rfl (.tmp 39) (.tmp 40) 22 22 rfl _ _ rfl rfl _ _ R4.out ?_)
    | fail)
  refine HNg.mono ?_
  clear HNg R1 R2 R3 R4
  rintro e w5 ⟨b5, (⟨_, why, hwhy, rfl⟩ | ⟨_, _, _, rfl, sv, fs, f1, l1⟩)⟩
  · have hw0 : (why == 0) = false := by rcases hwhy with rfl | rfl <;> rfl
    have hw1 : (why != 0) = true := by rcases hwhy with rfl | rfl <;> rfl
    have HNh := new_any 0 0 (by omega) x4 nm c4 (s ++ b) w5 (ME.out.below b5) MZ.out (by have := HH.out; have := ENL.out; omega)
    have B5 : Hid (Below w.heap.size w w5) := BB.out.trans (b5.mono BB.out.size)
    clear hwhy b5
    go_wp2_with fail
    refine HNh.mono ?_
    clear HNh
    rintro e w6 ⟨b6, (⟨_, why2, _, rfl⟩ | ⟨_, _, _, rfl, _⟩)⟩
    all_goals
      have B6 : Hid (Below w.heap.size w w6) := B5.out.trans (b6.mono B5.out.size)
      clear b6
      go_wp2_with fail
      refine (knownL_any w6).mono ?_
      rintro e w7 ⟨rfl, b7⟩
      go_wp2
      go_ret
      exact ⟨rfl, B6.out.trans (b7.mono B6.out.size)⟩
  have HNh := new_any 0 0 (by omega) x4 nm c4 (s ++ b) w5 (ME.out.below b5) MZ.out (by have := HH.out; have := ENL.out; omega)
  have B5 : Hid (Below w.heap.size w w5) := BB.out.trans (b5.mono BB.out.size)
  obtain ⟨N, eN⟩ : ∃ N, w4.heap.size = N := ⟨_, rfl⟩
  rw [eN] at l1
  rw [eN]
  have EN : Hid (w4.heap.size = N) := eN
  have L5 : Hid (LogIn w5 N N 0 0 sv fs) := l1
  have F1 : Hid (fs.map Prod.fst = s ++ a) := f1
  have SN : Hid (w.heap.size ≤ N) := by show _ ≤ _; rw [← eN]; exact BB.out.size
  clear b5 l1 f1 eN BB ME MZ
  go_wp2_with fail
  refine HNh.mono ?_
  clear HNh
  rintro e w6 ⟨b6, (⟨_, why2, hwhy, rfl⟩ | ⟨_, _, _, rfl, sw, gs, f2, l2⟩)⟩
  · have hw0 : (why2 == 0) = false := by rcases hwhy with rfl | rfl <;> rfl
    have hw1 : (why2 != 0) = true := by rcases hwhy with rfl | rfl <;> rfl
    have B6 : Hid (Below w.heap.size w w6) := B5.out.trans (b6.mono B5.out.size)
    clear b6 hwhy
    go_wp2_with fail
    refine (knownL_any w6).mono ?_
    rintro e w7 ⟨rfl, b7⟩
    go_wp2
    go_ret
    exact ⟨rfl, B6.out.trans (b7.mono B6.out.size)⟩
  have B6 : Hid (Below w.heap.size w w6) := B5.out.trans (b6.mono B5.out.size)
  by_cases hnl : 60 < nl
  · clear b6
    go_wp2_with fail
    refine (knownL_any w6).mono ?_
    rintro e w7 ⟨rfl, b7⟩
    go_wp2
    go_ret
    exact ⟨rfl, B6.out.trans (b7.mono B6.out.size)⟩
  by_cases hnm : 60 < nm
  · clear b6
    go_wp2_with fail
    refine (knownL_any w6).mono ?_
    rintro e w7 ⟨rfl, b7⟩
    go_wp2
    go_ret
    exact ⟨rfl, B6.out.trans (b7.mono B6.out.size)⟩
  have HSZ : Hid (nl ≤ 60 ∧ nm ≤ 60) := by show _ ∧ _; omega
  have dl : decide ((60 : Int) < (nl : Int)) = false := decide_eq_false (by omega)
  have dm : decide ((60 : Int) < (nm : Int)) = false := decide_eq_false (by omega)
  clear hnl hnm
  have L6 : Hid (LogIn w6 N N 0 0 sv fs) := L5.out.below b6
  obtain ⟨M, eM⟩ : ∃ M, w5.heap.size = M := ⟨_, rfl⟩
  rw [eM] at l2
  rw [eM]
  have M6 : Hid (LogIn w6 M M 0 0 sw gs) := l2
  have F2 : Hid (gs.map Prod.fst = s ++ b) := f2
  have APT : Hid (N < M ∧ ∀ y, sv.ownBlock = some y → y < M) := by
    show _ ∧ _
    rw [← eM]
    exact ⟨L5.out.ltN, fun y e => (row_kind L5.out.row e).2.1⟩
  obtain ⟨t, ht⟩ := stand_some 0 0 gs n0 (by have h := congrArg List.length f2; rw [List.length_map, List.length_append] at h; have := HS0.out; omega)
  rw [Int.zero_add] at ht
  have HT : Hid (stand 0 0 gs (n0 : Int) = some t) := ht
  have HTm := term_some l2 (n0 : Int) (by have := HSZ.out; have := ENL.out; omega) t ht
  have hn0 : n0 < 100 := by have := HSZ.out; have := ENL.out; omega
  clear b6 l2 f2 eM ht B5 L5
  go_wp2_with fail
  refine HTm.mono ?_
  clear HTm
  rintro e w7 ⟨rfl, b7⟩
  have HPt := part_any (M6.out.below b7) ((n0 : Int) + 1) most (by omega)
  obtain ⟨m, em⟩ := part_is s b most
  rw [F2.out, show (n0 : Int) = (s.length : Int) by rw [HS0.out.1], em] at HPt
  rw [show (s.length : Int) = (n0 : Int) by rw [HS0.out.1]] at HPt
  have L7 : Hid (LogIn w7 N N 0 0 sv fs) := L6.out.below b7
  have M7 : Hid (LogIn w7 M M 0 0 sw gs) := M6.out.below b7
  have B7 : Hid (Below w.heap.size w w7) := B6.out.trans (b7.mono B6.out.size)
  clear b7 em L6 M6 B6
  go_wp2_with fail
  refine HPt.mono ?_
  clear HPt
  rintro e w8 ⟨a8, c8, ps, rfl, f8, o8, d8, b8⟩
  have hpl : (b.take m).length ≤ 60 := by rw [List.length_take]; have := HS0.out; have := HSZ.out; have := ENL.out; omega
  obtain ⟨np, enp⟩ : ∃ np, (b.take m).length = np := ⟨_, rfl⟩
  rw [enp] at o8 hpl
  rw [enp]
  have ENP : Hid ((b.take m).length = np ∧ np ≤ 60) := ⟨enp, hpl⟩
  have L8 : Hid (LogIn w8 N N 0 0 sv fs) := L7.out.below b8
  have M8 : Hid (LogIn w8 M M 0 0 sw gs) := M7.out.below b8
  have B8 : Hid (Below w.heap.size w w8) := B7.out.trans (b8.mono B7.out.size)
  have O8 : Hid (w8.ownsRow w7.heap.size 50 2 (.slice a8 np c8) np (entCells ps)) := o8
  have D8 : Hid (∀ e ∈ ps, DataAt w8 e.2 e.1.2) := d8
  have P8 : Hid (ps.map Prod.fst = b.take m ∧ ps.length = np) := ⟨f8, by rw [← enp, ← f8, List.length_map]⟩
  have hsep : ∀ y, sv.ownBlock = some y → (Value.slice a8 np c8).ownBlock ≠ some y := fun y e1 e2 => by
    have h1 := (row_kind L7.out.row e1).2.1
    have h2 := (row_kind o8 e2).1
    omega
  obtain ⟨j1, j2, j3, j4⟩ := args_apart2 L8.out hsep o8 P8.out.2 d8
  rw [f8] at j1
  have ht0 : 0 ≤ t := by
    have := HT.out
    rcases stand_cases 0 0 gs (n0 : Int) with ⟨_, q⟩ | ⟨k, hk, _, q⟩ | ⟨_, q⟩
    · rw [this] at q; cases q; omega
    · rw [this] at q; cases q; have := M8.out.bE _ (List.getElem_mem hk); omega
    · rw [this] at q; cases q
  have HMt := match_any L8.out (by unfold canBase; omega) (n0 : Int) t (by omega) (by omega) ht0 a8 np c8 (b.take m) j1 j2 j3 j4 (by omega)
  have HSEP : Hid (∀ y, sv.ownBlock = some y → (Value.slice a8 np c8).ownBlock ≠ some y) := hsep
  have HT0 : Hid (0 ≤ t) := ht0
  clear o8 d8 f8 b8 hpl enp hsep j1 j2 j3 j4 ht0 L7 M7 B7
  go_wp2_with fail
  refine HMt.mono ?_
  clear HMt
  intro e w9 hmt
  have hfl : fs.length ≤ 60 := by have h := congrArg List.length F1.out; rw [List.length_map, List.length_append] at h; have := HS0.out; have := HSZ.out; have := ENL.out; omega
  rw [show (n0 : Int) = (s.length : Int) by rw [HS0.out.1]] at hmt
  rcases match_told F1.out F2.out hfl (by rw [ENP.out.1]; exact ENP.out.2) (by rw [← HS0.out.1]; exact HT.out) L8.out hmt with ⟨he, b9⟩ | ⟨ch, sv9, K, he, l9, g9, far, s9⟩
  · rw [he]
    have B9 : Hid (Below w.heap.size w w9) := B8.out.trans (b9.mono SN.out)
    clear hmt he b9 hfl
    go_wp2_with fail
    refine (knownL_any w9).mono ?_
    rintro e x ⟨rfl, bx⟩
    go_wp2
    go_ret
    exact ⟨rfl, B9.out.trans (bx.mono B9.out.size)⟩
  · rw [ENP.out.1, ← HS0.out.1] at he far
    rw [he]
    have B9 : Hid (Below w.heap.size w w9) := B8.out.trans ((L8.out.chg_below g9).mono SN.out)
    have L9 : Hid (LogIn w9 N N 0 0 sv9 K) := l9
    have M9 : Hid (LogIn w9 M M 0 0 sw gs) := M8.out.beside L8.out g9 APT.out.1 APT.out.2
    have FAR : Hid (AsFar K gs (n0 + np)) := far
    obtain ⟨o9, d9⟩ := rows_chg2 L8.out g9 HSEP.out O8.out D8.out
    have O9 : Hid (w9.ownsRow w7.heap.size 50 2 (.slice a8 np c8) np (entCells ps)) := o9
    have D9 : Hid (∀ e ∈ ps, DataAt w9 e.2 e.1.2) := d9
    have SEP9 : Hid (∀ y, sv9.ownBlock = some y → (Value.slice a8 np c8).ownBlock ≠ some y) := fun y e1 e2 => by
      rcases s9 y e1 with q | q
      · exact HSEP.out y q e2
      · have := (row_kind O8.out e2).2.1
        omega
    obtain ⟨z, ez⟩ : ∃ z, n0 + np = z := ⟨_, rfl⟩
    have EZ : Hid (n0 + np = z ∧ z ≤ 120) := by show _ ∧ _; have := ENP.out; have := HSZ.out; have := ENL.out; omega
    have q1 : wrap64 ((n0 : Int) + (np : Int)) = (z : Int) := by unfold wrap64; have := EZ.out; omega
    rw [ez] at FAR
    rw [ez]
    have hz : z ≤ 120 := EZ.out.2
    clear hmt he l9 g9 far s9 hfl o9 d9 ez L8 M8 B8 O8 D8 HSEP
    go_wp2_with fail
    rw [q1]
    clear q1
    go_loopw [22] (fun i wr => ∃ (k : Nat), k ≤ z + 1 ∧ i = .int .i64 (k : Int) ∧ Hid (Below w9.heap.size w9 wr)) (fun i _ => z + 1 - (intOf i).toNat)
    case atStart => exact ⟨0, Nat.zero_le _, rfl, Below.refl _ _⟩
    case round =>
      obtain ⟨k, hk, rfl, BW⟩ := hrel
      by_cases hle : k ≤ z
      · obtain ⟨u, hu⟩ := stand_some 0 0 gs k (by
          have h := congrArg List.length F2.out
          rw [List.length_map, List.length_append] at h
          have := HS0.out
          have h3 := ENP.out.1
          rw [List.length_take] at h3
          have := EZ.out
          omega)
        rw [Int.zero_add] at hu
        have hu2 : stand 0 0 K (k : Int) = some u := by rw [FAR.out k hle]; exact hu
        have lr := L9.out.below BW.out
        have HT1 := term_some lr (k : Int) (by omega) u hu2
        have q2 : (k : Int) ≤ (z : Int) := by omega
        have q3 : k < 200 := by omega
        go_wp2_with fail
        refine HT1.mono ?_
        clear HT1
        rintro e y1 ⟨rfl, c1⟩
        have HT2 := term_some ((M9.out.below BW.out).below c1) (k : Int) (by omega) u hu
        clear hu hu2 lr
        go_wp2_with fail
        refine HT2.mono ?_
        clear HT2
        rintro e y2 ⟨rfl, c2⟩
        have B2 : Hid (Below w9.heap.size w9 y2) := (BW.out.trans (c1.mono BW.out.size)).trans (c2.mono (BW.out.trans (c1.mono BW.out.size)).size)
        clear c1 c2 BW
        go_wp2
        go_roundw
        case rel => exact ⟨k + 1, by omega, by go_num, B2⟩
        case measure => simp only [intOf]; omega
      · obtain rfl : k = z + 1 := by omega
        have q2 : ¬ ((z + 1 : Nat) : Int) ≤ (z : Int) := by omega
        have lr := L9.out.below BW.out
        obtain ⟨or, dr⟩ := rows_below BW.out O9.out D9.out
        obtain ⟨j1, j2, j3, j4⟩ := args_apart2 lr SEP9.out or P8.out.2 dr
        rw [P8.out.1] at j1
        have HMt := match_any lr (by unfold canBase; omega) (n0 : Int) t (by omega) (by omega) HT0.out a8 np c8 (b.take m) j1 j2 j3 j4 (by have := ENP.out; omega)
        clear j1 j2 j3 j4 or dr hle
        go_wp2_with fail
        refine HMt.mono ?_
        clear HMt
        intro e y1 hmt
        rw [show (n0 : Int) = (s.length : Int) by rw [HS0.out.1]] at hmt
        obtain ⟨he, c1⟩ := match_again F2.out (by rw [← HS0.out.1]; exact HT.out) (by rw [ENP.out.1, ← HS0.out.1, EZ.out.1]; exact FAR.out) hmt
        rw [ENP.out.1, ← HS0.out.1, EZ.out.1] at he
        rw [he]
        clear hmt he lr
        go_wp2_with fail
        refine (knownL_any y1).mono ?_
        rintro e y2 ⟨rfl, c2⟩
        go_wp2
        go_ret
        have t1 := BW.out.trans (c1.mono BW.out.size)
        have t2 := t1.trans (c2.mono t1.size)
        exact ⟨rfl, B9.out.trans (t2.mono B9.out.size)⟩
end Go.Proofs.Ytikedglcicgdhaa
