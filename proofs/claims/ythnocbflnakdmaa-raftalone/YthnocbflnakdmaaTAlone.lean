/- RaftAlone: the walk. -/
import Derived.Test.YthnocbflnakdmaaTKnown
import Derived.Test.YthnocbflnakdmaaTAl0
import Derived.Test.YthnocbflnakdmaaTLAt
namespace Go.Proofs.Ythnocbflnakdmaa
open Go.RowKit
attribute [local go_sem] Oper.semAt_some
set_option linter.unusedVariables false
theorem al_room {n k : Nat} (h : n ≤ 51 + k) (hk : k < 50) : n < 4096 := by omega
theorem al_next {n k : Nat} (h : n ≤ 51 + k) : n ≤ 51 + (k + 1) := by omega
theorem al_term {u t1 t : Int} (h1 : u = t1) (h2 : t + 1 = t1) (h3 : 0 ≤ t) (h4 : t < 1152921504606846976) : t1 ≤ t1 ∧ 1 ≤ t1 ∧ t1 ≤ 1152921504606846976 := by omega
theorem al_len {n : Nat} (h : ¬ 1900 < n) : n ≤ 1900 ∧ n ≤ 140737488355328 := by omega
theorem al_ne {bb lg base s : Nat} (h1 : bb < s) (h2 : s ≤ base) (h3 : base ≤ lg) : bb ≠ lg := by omega
theorem al_no {bb base s : Nat} (h1 : bb < s) (h2 : s ≤ base) (h3 : base ≤ bb) : False := by omega
theorem al_hi {n k : Nat} {n2 : Int} (h : n ≤ 51 + k) (hk : k < 50) (h2 : (n : Int) + 1 = n2) : n2 ≤ 9223372036854775807 := by omega
theorem al_k {k bn : Nat} (h : k < bn ∧ k < 50) : k + 1 ≤ 50 ∧ k + 1 ≤ bn := by omega
theorem al_L6 {n6 n k : Nat} {n2 : Int} (h6 : (n6 : Int) = n2) (h2 : (n : Int) + 1 = n2) (h : n ≤ 51 + k) : n6 ≤ 51 + (k + 1) := by omega
theorem al_drop {n : Nat} {n2 : Int} (h2 : (n : Int) + 1 = n2) : (0 < (1 : Int) ∧ 0 < n2) ∧ (n2 - 0 - 1).toNat = n := by omega
set_option maxRecDepth 100000 in
set_option maxHeartbeats 4000000 in
theorem alone_any (a : Option Addr) (len cap : Nat) (l : List Ent) (t : Int) (b : Option Addr) (bn bc : Nat) (ps : List (List (BitVec 8))) (w : World) (he : EntsAt w a len l) (hnil : a = none → cap = 0) (hm : len ≤ 4398046511104) (hp : LAtR w b bn ps) :
    Calls Try.prog 7 #[.slice a len cap, .int .i64 t, .slice b bn bc] w fun e w' => e = .returned (.bool true) ∧ Below w.heap.size w w' := by
  have HN := new_any 0 0 (by omega) a len cap l w he hnil hm
  have LN : Hid (len = l.length) := he.1
  have HP : Hid (LAtR w b bn ps) := hp
  clear he hnil hm hp
  go_enter Try.func7, Try.ntmps7
  go_wp2_with fail
  refine HN.mono ?_
  clear HN
  rintro e w2 ⟨b2, (⟨_, why, hw, rfl⟩ | ⟨_, _, _, rfl, sv2, fs, f2, l2⟩)⟩
  · have B2 : Hid _ := b2
    clear b2
    rcases hw with rfl | rfl
    all_goals
      go_wp2_with fail
      refine (knownR_any _).mono ?_
      rintro e w3 ⟨rfl, b3⟩
      have B3 : Hid _ := And.intro b3 trivial
      clear b3
      go_wp2
      go_ret
      exact ⟨rfl, B2.out.trans (B3.out.1.mono B2.out.size)⟩
  have B2 : Hid (Below w.heap.size w w2) := b2
  have L2 : Hid (fs.map Prod.fst = l ∧ LogIn w2 w.heap.size w.heap.size 0 0 sv2 fs) := ⟨f2, l2⟩
  clear b2 f2 l2
  by_cases h50 : 50 < len
  · have q1 : (50 : Int) < (len : Int) := by omega
    have q2 : decide ((50 : Int) < (len : Int)) = true := decide_eq_true q1
    go_wp2_with fail
    refine (knownR_any _).mono ?_
    rintro e w3 ⟨rfl, b3⟩
    have B3 : Hid _ := And.intro b3 trivial
    clear b3
    go_wp2
    go_ret
    exact ⟨rfl, B2.out.trans (B3.out.1.mono B2.out.size)⟩
  have q1 : ¬ (50 : Int) < (len : Int) := by omega
  have q2 : decide ((50 : Int) < (len : Int)) = false := decide_eq_false q1
  by_cases hbad : t < lastT 0 fs ∨ 1152921504606846976 < t
  · have HR := new_refused L2.out.2 t hbad
    go_wp2_with fail
    refine HR.mono ?_
    clear HR
    rintro e w3 ⟨rfl, b3⟩
    have B3 : Hid (Below w.heap.size w w3) := B2.out.trans (b3.mono B2.out.size)
    clear b3
    go_wp2_with fail
    refine (knownR_any _).mono ?_
    rintro e w4 ⟨rfl, b4⟩
    have B4 : Hid (Below w.heap.size w w4) := B3.out.trans (b4.mono B3.out.size)
    clear b4
    go_wp2
    go_ret
    exact ⟨rfl, B4.out⟩
  have HR := new_one L2.out.2 0 t (.inl rfl) (by omega)
  have T0 : Hid (lastT 0 fs ≤ t ∧ t ≤ 1152921504606846976 ∧ 0 ≤ t) := ⟨by omega, by omega, by have := lastT_in L2.out.2; omega⟩
  clear hbad
  go_wp2_with fail
  refine HR.mono ?_
  clear HR
  rintro e w3 ⟨R, lg, base, sv3, rfl, z3, s3, b3⟩
  have S3 : Hid (Solo w3 base R lg (freshD 0 t) sv3 fs ∧ Below w.heap.size w w3) := ⟨s3, B2.out.trans (b3.mono B2.out.size)⟩
  have Z3 : Hid (w.heap.size ≤ base) := Nat.le_trans B2.out.size z3
  clear z3 s3 b3
  by_cases ht : 1152921504606846976 ≤ t
  · have q3 : decide (1152921504606846976 ≤ t) = true := decide_eq_true ht
    go_wp2_with fail
    refine (knownR_any _).mono ?_
    rintro e w4 ⟨rfl, b4⟩
    have B4 : Hid (Below w.heap.size w w4) := S3.out.2.trans (b4.mono S3.out.2.size)
    clear b4
    go_wp2
    go_ret
    exact ⟨rfl, B4.out⟩
  have q3 : decide (1152921504606846976 ≤ t) = false := decide_eq_false ht
  obtain ⟨t1, et1⟩ : ∃ t1, t + 1 = t1 := ⟨_, rfl⟩
  obtain ⟨n1, en1⟩ : ∃ n1 : Int, (len : Int) + 1 = n1 := ⟨_, rfl⟩
  have qt : wrap64 (t + 1) = t1 := by rw [← et1]; unfold wrap64; have := T0.out; omega
  have qn : wrap64 ((len : Int) + 1) = n1 := by rw [← en1]; unfold wrap64; omega
  have FL : Hid (fs.length = len) := by have h1 := congrArg List.length L2.out.1; rw [List.length_map] at h1; exact h1.trans LN.out.symm
  have ET : Hid (t + 1 = t1 ∧ (len : Int) + 1 = n1 ∧ t < 1152921504606846976 ∧ len ≤ 50) := ⟨et1, en1, by omega, by omega⟩
  clear et1 en1
  go_wp2_with fail
  go_loopw [11] (fun i wr => ∃ k : Nat, k ≤ 10 ∧ i = .int .i64 (k : Int) ∧ Hid (∃ d sv L, Solo wr base R lg d sv L ∧ Below w.heap.size w wr ∧ ((k < 10 ∧ d = { freshD 0 t with el := ((k : Nat) : Int) } ∧ L = fs) ∨ (k = 10 ∧ d.term = t1 ∧ d.role = 2 ∧ d.leader = 0 ∧ d.commit = n1 ∧ L.map Prod.fst = fs.map Prod.fst ++ [(t1, [])])))) (fun i _ => 10 - (intOf i).toNat)
  case atStart => exact ⟨0, by omega, rfl, ⟨_, sv3, fs, S3.out.1, S3.out.2, .inl ⟨by omega, rfl, rfl⟩⟩⟩
  case round =>
    obtain ⟨k, hk, rfl, SS⟩ := hrel
    clear S3
    by_cases h9 : k < 9
    · have q5 : (k : Int) < 10 := by omega
      have q6 : decide ((k : Int) < 10) = true := decide_eq_true q5
      have q7 : wrap64 ((k : Int) + 1) = ((k + 1 : Nat) : Int) := by unfold wrap64; omega
      obtain ⟨d, sv, L, s2, b2, (⟨_, rfl, hL⟩ | ⟨x, _⟩)⟩ := SS.out
      case inr => omega
      rw [hL] at s2
      clear hL
      have HT := tick_idle s2 (by simp [freshD]) (by show (0:Int) ≤ (k:Int); omega) (by show (k:Int) + 1 < 10; omega) rfl
      have C2 : Hid (Below w.heap.size w wr) := b2
      have HK : Hid (k < 9) := h9
      clear s2 b2 SS hk h9
      go_wp2_with fail
      refine HT.mono ?_
      clear HT
      rintro e w4 ⟨rfl, s4, b4⟩
      have F4 : Hid (∃ d sv L, Solo w4 base R lg d sv L ∧ Below w.heap.size w w4 ∧ ((k + 1 < 10 ∧ d = { freshD 0 t with el := ((k + 1 : Nat) : Int) } ∧ L = fs) ∨ (k + 1 = 10 ∧ d.term = t1 ∧ d.role = 2 ∧ d.leader = 0 ∧ d.commit = n1 ∧ L.map Prod.fst = fs.map Prod.fst ++ [(t1, [])]))) := ⟨_, sv, _, s4, C2.out.trans (b4.mono Z3.out), .inl ⟨by have := HK.out; omega, by simp, rfl⟩⟩
      clear s4 b4
      go_wp2
      go_roundw
      case rel => exact ⟨k + 1, by have := HK.out; omega, by simp, F4⟩
      case measure => simp only [intOf]; omega
    · by_cases h10 : k = 9
      · subst h10
        obtain ⟨d, sv, L, s2, b2, (⟨_, rfl, hL⟩ | ⟨x, _⟩)⟩ := SS.out
        case inr => omega
        rw [hL] at s2
        clear hL
        have HT := tick_elect s2 (by simp [freshD]) rfl rfl (by have := FL.out; have := ET.out; omega) ⟨T0.out.1, T0.out.2.2, ET.out.2.2.1⟩ (by simp [freshD])
        have C2 : Hid (Below w.heap.size w wr) := b2
        clear s2 b2 SS hk h9
        go_wp2_with fail
        refine HT.mono ?_
        clear HT
        rintro e w4 ⟨rfl, d3, sv4, L3, s4, b4, f4, x1, x2, x3, x4⟩
        have F4 : Hid (∃ d sv L, Solo w4 base R lg d sv L ∧ Below w.heap.size w w4 ∧ ((10 < 10 ∧ d = { freshD 0 t with el := ((10 : Nat) : Int) } ∧ L = fs) ∨ (10 = 10 ∧ d.term = t1 ∧ d.role = 2 ∧ d.leader = 0 ∧ d.commit = n1 ∧ L.map Prod.fst = fs.map Prod.fst ++ [(t1, [])]))) := ⟨d3, sv4, L3, s4, C2.out.trans (b4.mono Z3.out), .inr ⟨rfl, x1.trans ET.out.1, x2, x3, by have := FL.out; have := ET.out.2.1; omega, by rw [f4]; show _ ++ [(t + 1, [])] = _; rw [ET.out.1]⟩⟩
        clear s4 b4 f4 x1 x2 x3 x4
        go_wp2
        go_roundw
        case rel => exact ⟨10, by omega, rfl, by obtain ⟨d, sv, L, a, b, c⟩ := F4.out; exact ⟨d, sv, L, a, b, by simpa using c⟩⟩
        case measure => simp [intOf]
      · obtain rfl : k = 10 := by omega
        obtain ⟨d, sv, L, s2, b2, (⟨x, _⟩ | ⟨_, y1, y2, y3, y4, y5⟩)⟩ := SS.out
        · omega
        have HI := info_one s2
        obtain ⟨dv, edv⟩ : ∃ dv, d.voted = dv := ⟨_, rfl⟩
        rw [y1, y2, y3, y4, edv] at HI
        clear edv
        have LL : L.length = len + 1 := by have h := congrArg List.length y5; have := FL.out; simp only [List.length_map, List.length_append, List.length_cons, List.length_nil] at h; omega
        have S5 : Hid (∃ d sv L, Solo wr base R lg d sv L ∧ Below w.heap.size w wr ∧ d.term = t1 ∧ d.role = 2 ∧ d.commit = L.length ∧ lastT 0 L = t1 ∧ L.length ≤ 51 + 0) := ⟨d, sv, L, s2, b2, y1, y2, by have := ET.out.2.1; omega, lastT_snoc y5 0, by have := ET.out; omega⟩
        clear s2 b2 SS hk h9 h10 y1 y2 y3 y4 y5 LL
        go_wp2_with fail
        refine HI.mono ?_
        clear HI
        rintro e w5 ⟨rfl, b5⟩
        have bI := b5.alloc b5.size (.cells #[.int .i64 t1, .int .i64 dv, .int .i64 2, .int .i64 0, .int .i64 n1] 35)
        have S6 : Hid (∃ d sv L, Solo (w5.alloc (.cells #[.int .i64 t1, .int .i64 dv, .int .i64 2, .int .i64 0, .int .i64 n1] 35)) base R lg d sv L ∧ Below w.heap.size w (w5.alloc (.cells #[.int .i64 t1, .int .i64 dv, .int .i64 2, .int .i64 0, .int .i64 n1] 35)) ∧ d.term = t1 ∧ d.role = 2 ∧ d.commit = L.length ∧ lastT 0 L = t1 ∧ L.length ≤ 51 + 0) := by
          obtain ⟨d', sv', L', s', b', x1, x2, x3, x4, x5⟩ := S5.out
          exact ⟨d', sv', L', s'.below bI, b'.trans (bI.mono b'.size), x1, x2, x3, x4, x5⟩
        clear b5 bI S5
        have qn3 : (n1 != (len : Int) + 1) = false := by rw [ET.out.2.1]; simp
        go_wp2_with fail
        clear qn3 qn
        try simp only [qt]
        go_loopw [13] (fun i wq => ∃ k : Nat, k ≤ 50 ∧ k ≤ bn ∧ i = .int .i64 (k : Int) ∧ Hid (∃ d sv L, Solo wq base R lg d sv L ∧ Below w.heap.size w wq ∧ d.term = t1 ∧ d.role = 2 ∧ d.commit = L.length ∧ lastT 0 L = t1 ∧ L.length ≤ 51 + k)) (fun i _ => 50 - (intOf i).toNat)
        case atStart => exact ⟨0, by omega, by omega, rfl, S6⟩
        case round =>
          obtain ⟨k, hk, hkb, rfl, SS⟩ := hrel
          clear S6
          by_cases hlt : k < bn ∧ k < 50
          · obtain ⟨blk, off, rfl, hcell⟩ : ∃ blk off, b = some ⟨blk, off, none⟩ ∧ ∀ j (hj : j < ps.length), ∃ a' c', w.cell? ⟨blk, off + j, none⟩ = some (.slice a' ps[j].length c') ∧ Seen w a' ps[j].length ps[j] ∧ (a' = none → c' = 0) := by
              rcases HP.out.2 with h | h
              · omega
              · exact h
            have hpk : k < ps.length := by have := HP.out.1; omega
            obtain ⟨p, epk⟩ : ∃ p, ps[k] = p := ⟨_, rfl⟩
            have hck := hcell k hpk
            rw [epk] at hck
            obtain ⟨a', c', e1, e2, e3⟩ := hck
            obtain ⟨d, sv, L, s2, b2, y1, y2, y3, y4, y5⟩ := SS.out
            have d1 : wr.cell? ⟨blk, off + k, none⟩ = some (.slice a' p.length c') := by rw [b2.cell (p := ⟨blk, off + k, none⟩) (World.block_lt_of_cell? w _ e1)]; exact e1
            have E1 : Hid (w.cell? ⟨blk, off + k, none⟩ = some (.slice a' p.length c') ∧ Seen w a' p.length p) := ⟨e1, e2⟩
            have h1 : (k : Int) < (bn : Int) := by omega
            have h2 : (k : Int) < 50 := by omega
            have hkl : k < bn := hlt.1
            have h1' : decide ((k : Int) < (bn : Int)) = true := decide_eq_true h1
            have h2' : decide ((k : Int) < 50) = true := decide_eq_true h2
            have wk : wrap64 ((k : Int) + 1) = ((k + 1 : Nat) : Int) := by unfold wrap64; omega
            have HK : Hid (k < bn ∧ k < 50) := hlt
            by_cases h19 : 1900 < p.length
            · have l1 : (1900 : Int) < (p.length : Int) := by omega
              have l2 : decide ((1900 : Int) < (p.length : Int)) = true := decide_eq_true l1
              have F : Hid (∃ d sv L, Solo wr base R lg d sv L ∧ Below w.heap.size w wr ∧ d.term = t1 ∧ d.role = 2 ∧ d.commit = L.length ∧ lastT 0 L = t1 ∧ L.length ≤ 51 + (k + 1)) := ⟨d, sv, L, s2, b2, y1, y2, y3, y4, al_next y5⟩
              clear s2 b2 y1 y2 y3 y4 y5 SS hk hkb hlt hcell hpk epk e1 e2 e3 h19
              go_wp2
              go_roundw
              case rel => exact ⟨k + 1, (al_k HK.out).1, (al_k HK.out).2, by simp, F⟩
              case measure => simp only [intOf]; omega
            · have l1 : ¬ (1900 : Int) < (p.length : Int) := by omega
              have l2 : decide ((1900 : Int) < (p.length : Int)) = false := decide_eq_false l1
              obtain ⟨n2, en2⟩ : ∃ n2 : Int, (L.length : Int) + 1 = n2 := ⟨_, rfl⟩
              have HPr := propose_one s2 y2 (al_room y5 hlt.2) (by rw [y4, y1]; exact al_term rfl ET.out.1 T0.out.2.2 ET.out.2.2.1) (by rw [y3]; exact Int.le_refl _) a' p.length c' p ⟨a', c', rfl, e2.below b2, e3, (al_len h19).2⟩ (fun x ex hne => by
                rcases e2.2.2 with h0 | ⟨bb, oo, eb, hb⟩
                · exact absurd (List.length_eq_zero_iff.1 h0) hne
                · have hlt0 := World.block_lt_of_cell? w _ (hb 0 (List.length_pos_iff.2 hne))
                  rw [ex] at eb
                  injection eb with eb
                  subst eb
                  have z1 := s2.log.bN
                  have z2 := Z3.out
                  have hlt1 : bb < w.heap.size := hlt0
                  refine ⟨al_ne hlt1 z2 z1, fun e => ?_⟩
                  have := (row_kind s2.log.row e.symm).1
                  have hlt2 : base ≤ bb := this
                  exact al_no hlt1 z2 hlt2) (al_len h19).1
              rw [en2, y1] at HPr
              have Y : Hid (d.role = 2 ∧ L.length ≤ 51 + k ∧ (L.length : Int) + 1 = n2 ∧ Below w.heap.size w wr) := ⟨y2, y5, en2, b2⟩
              clear s2 b2 y1 y2 y3 y4 y5 SS hk hkb hlt hcell hpk epk e1 e2 e3 h19 en2
              go_wp2_with fail
              refine HPr.mono ?_
              clear HPr
              rintro e w6 ⟨rfl, sv6, L6, s6, b6, f6, _⟩
              have L6l : Hid ((L6.length : Int) = n2 ∧ lastT 0 L6 = t1 ∧ L6.map Prod.fst = L.map Prod.fst ++ [(t1, p)]) := ⟨by have h := congrArg List.length f6; have := Y.out.2.2.1; simp only [List.length_map, List.length_append, List.length_cons, List.length_nil] at h; omega, lastT_snoc f6 0, f6⟩
              have HLg := log_one s6
              have S6 : Hid _ := And.intro s6 (Y.out.2.2.2.trans (b6.mono Z3.out))
              clear s6 b6 f6
              go_wp2_with fail
              refine HLg.mono ?_
              clear HLg
              rintro e w7 ⟨N7, sv7, rfl, l7, b7⟩
              have s7 := S6.out.1.below b7
              have HI := info_one s7
              have S7 : Hid _ := And.intro s7 (And.intro l7 (S6.out.2.trans (b7.mono S6.out.2.size)))
              clear s7 l7 b7 S6
              go_wp2_with fail
              refine HI.mono ?_
              clear HI
              rintro e w8 ⟨rfl, b8⟩
              have S8 : Hid _ := And.intro (S7.out.1.below b8) (And.intro (S7.out.2.1.below b8) (S7.out.2.2.trans (b8.mono S7.out.2.2.size)))
              clear S7 b8
              have fo : ∀ (v0 v1 v2 v3 v4 : Value) (x : World), (Instr.field 35 (.agg #[v0, v1, v2, v3, v4]) 4).run Try.prog x = .ok v4 x := fun v0 v1 v2 v3 v4 x => by kernel_rfl
              have HPt := part_any S8.out.2.1 n2 1 (al_hi Y.out.2.1 HK.out.2 Y.out.2.2.1)
              have hpl : partL 0 (L6.map Prod.fst) n2 1 = [(t1, p)] := by
                have h3 := Y.out.2.2.1
                unfold partL
                rw [if_pos (al_drop h3).1, L6l.out.2.2, show (n2 - 0 - 1).toNat = (L.map Prod.fst).length by rw [List.length_map]; exact (al_drop h3).2, List.drop_left]
                rfl
              rw [hpl] at HPt
              clear hpl
              go_wp2_with fail
              refine HPt.mono ?_
              clear HPt
              rintro e w9 ⟨pa, pc, gs, rfl, g9, o9, d9, b9⟩
              have lg9 : gs.length = 1 := by have := congrArg List.length g9; simpa using this
              have o9' : w9.ownsRow w8.heap.size 52 2 (.slice pa 1 pc) gs.length (entCells gs) := by rw [lg9]; exact o9
              obtain ⟨a2, c2, ev, hE, hnz⟩ := row_ents o9' (fun e he => (d9 e he).1)
              rw [lg9] at ev hE
              cases ev
              rw [g9] at hE
              obtain ⟨hl1, (h0 | ⟨pb, po, rfl, hc⟩)⟩ := hE
              · omega
              obtain ⟨m0, v9, m1, bv⟩ := hc 0 (by simp)
              obtain ⟨va, vc, rfl, vs, hx9⟩ := bv
              simp only [Nat.zero_mul, Nat.add_zero, List.getElem_cons_zero] at m0 m1 vs
              have BB : Below w.heap.size w w9 := S8.out.2.2.trans (b9.mono S8.out.2.2.size)
              have d2 : w9.cell? ⟨blk, off + k, none⟩ = some (.slice a' p.length c') := by rw [BB.cell (p := ⟨blk, off + k, none⟩) (World.block_lt_of_cell? w _ E1.out.1)]; exact E1.out.1
              have cv1 : ∀ q, (convert 37 9 (.slice va p.length vc)).run Try.prog (w9.drewN q) = .ok (.string (textOf p)) (w9.drewN q) := fun q => run_to_text _ va _ vc p (vs.drewN q)
              have cv2 : ∀ q, (convert 37 9 (.slice a' p.length c')).run Try.prog (w9.drewN q) = .ok (.string (textOf p)) (w9.drewN q) := fun q => run_to_text _ a' _ c' p ((E1.out.2.below BB).drewN q)
              have F9 : Hid (∃ d sv L, Solo w9 base R lg d sv L ∧ Below w.heap.size w w9 ∧ d.term = t1 ∧ d.role = 2 ∧ d.commit = L.length ∧ lastT 0 L = t1 ∧ L.length ≤ 51 + (k + 1)) := ⟨_, sv6, L6, S8.out.1.below b9, BB, rfl, Y.out.1, L6l.out.1.symm, L6l.out.2.1, al_L6 L6l.out.1 Y.out.2.2.1 Y.out.2.1⟩
              clear lg9 o9' o9 d9 g9 hnz hc BB b9 vs hl1 hx9 fo
              go_wp2
              go_quiet (fail)
              go_wp2
              go_roundw
              case rel => exact ⟨k + 1, (al_k HK.out).1, (al_k HK.out).2, by simp, by obtain ⟨d, sv, L, a, b, c⟩ := F9.out; exact ⟨d, sv, L, a.drewN _, below_drewN' b _, c⟩⟩
              case measure => simp only [intOf]; omega
          · have HK : Hid (¬ (k < bn ∧ k < 50)) := hlt
            obtain ⟨d, sv, L, s2, b2, y⟩ := SS.out
            have B9 : Hid (Below w.heap.size w wr) := b2
            clear s2 b2 y SS
            by_cases h1 : k < bn
            · have h1a : (k : Int) < (bn : Int) := by omega
              have h1' : decide ((k : Int) < (bn : Int)) = true := decide_eq_true h1a
              have h2 : ¬ (k : Int) < 50 := by omega
              have h2' : decide ((k : Int) < 50) = false := decide_eq_false h2
              clear hk hkb hlt h1
              go_wp2_with fail
              refine (knownR_any _).mono ?_
              rintro e x1 ⟨rfl, b1⟩
              have C1 : Hid (Below w.heap.size w x1) := B9.out.trans (b1.mono B9.out.size)
              clear b1
              go_wp2
              go_ret
              exact ⟨rfl, C1.out⟩
            · have h1a : ¬ (k : Int) < (bn : Int) := by omega
              have h1' : decide ((k : Int) < (bn : Int)) = false := decide_eq_false h1a
              clear hk hkb hlt h1
              go_wp2_with fail
              refine (knownR_any _).mono ?_
              rintro e x1 ⟨rfl, b1⟩
              have C1 : Hid (Below w.heap.size w x1) := B9.out.trans (b1.mono B9.out.size)
              clear b1
              go_wp2
              go_ret
              exact ⟨rfl, C1.out⟩
end Go.Proofs.Ythnocbflnakdmaa
