/- Package rlog: meet, passOver. -/
import Derived.Test.YtikedglcicgdhaaLCut2
namespace Go.Proofs.Ytikedglcicgdhaa
open Go.RowKit
attribute [local go_sem] Oper.semAt_some
set_option linter.unusedVariables false

theorem mth_entry (k : Nat) (v : Value) (w : World) : (method (k + 1) 74 v "almoner/rlog.term").run Try.prog w = .ok (55, v) w := by kernel_rfl
theorem mth_base (k : Nat) (v : Value) (w : World) : (method (k + 1) 72 v "almoner/rlog.term").run Try.prog w = .ok (54, v) w := by kernel_rfl
theorem call_entry (v : Array Value) (w : World) : (callFunc 55 v).run Try.prog w = .ok (.enter 55 v) w := by kernel_rfl
theorem call_base (v : Array Value) (w : World) : (callFunc 54 v).run Try.prog w = .ok (.enter 54 v) w := by kernel_rfl
/-- How many entries stand behind a place with their terms. -/
def passed (f : Int → Option Int) : Int → List Ent → Nat
  | _, [] => 0
  | at_, e :: l => if f (at_ + 1) = some e.1 then passed f (at_ + 1) l + 1 else 0
theorem passed_le (f : Int → Option Int) : ∀ (l : List Ent) (at_ : Int), passed f at_ l ≤ l.length
  | [], _ => Nat.le_refl _
  | e :: l, at_ => by
    unfold passed
    split
    · have := passed_le f l (at_ + 1)
      simp
      omega
    · exact Nat.zero_le _
theorem passed_drop (f : Int → Option Int) (at_ : Int) (l : List Ent) (k : Nat) (hk : k < l.length) : passed f at_ (l.drop k) = if f (at_ + 1) = some l[k].1 then passed f (at_ + 1) (l.drop (k + 1)) + 1 else 0 := by
  rw [List.drop_eq_getElem_cons hk]
  rfl
/-- A slice that is a part of another one. -/
def Within (a a' : Option Addr) (n n' c' : Nat) (l l' : List Ent) : Prop := (∀ W, EntsAt W a n l → EntsAt W a' n' l') ∧ (a' = none → c' = 0) ∧ n' ≤ c' ∧ n' ≤ n
section
variable {w : World} {base N : Nat} {B T : Int} {sv : Value} {L : List EntV}
set_option maxRecDepth 100000 in
set_option maxHeartbeats 1200000 in
theorem passOver_any (h : LogIn w base N B T sv L) (at0 : Int) (h0 : B ≤ at0) (h1 : at0 ≤ B + L.length) (a : Option Addr) (len cap : Nat) (l : List Ent) (he : EntsAt w a len l) (hnil : a = none → cap = 0) (hcap : len ≤ cap) (hm : len ≤ 4398046511104) (k0 : Nat) (hk0 : passed (stand B T L) at0 l = k0) :
    Calls Try.prog 30 #[.pointer (some ⟨N, 0, none⟩), .int .i64 at0, .slice a len cap] w fun e w' => Below w.heap.size w w' ∧
      ((k0 = len ∧ e = .returned (.tuple #[.int .i64 (at0 + len), .slice none 0 0])) ∨
       (k0 < len ∧ ∃ a' c', e = .returned (.tuple #[.int .i64 (at0 + k0 + 1), .slice a' (len - k0) c']) ∧ Within a a' len (len - k0) c' l (l.drop k0))) := by
  have hB := h.bB
  have hl := h.len
  have H : Hid (LogIn w base N B T sv L) := h
  have HE : Hid (EntsAt w a len l) := he
  have HN : Hid (len = l.length) := he.1
  have HK : Hid (passed (stand B T L) at0 l = k0) := hk0
  have i1 := inv_entry
  have e1 := eql_entry
  have e2 := eql_nil
  have mt := mth_entry
  have ct := call_entry
  have HZ : Hid ((B ≤ at0 ∧ at0 ≤ B + L.length) ∧ (0 ≤ B ∧ B ≤ 2305843009213693952) ∧ L.length ≤ 4096) := ⟨⟨h0, h1⟩, hB, hl⟩
  clear h he hk0 h0 h1 hB hl
  go_enter Try.func30, Try.ntmps30
  go_wp2
  go_loopw [1, 13] (fun p i wr => ∃ (k : Nat), k ≤ len ∧ i = .int .i64 k ∧ p = .int .i64 (at0 + k) ∧ Hid (k0 = k + passed (stand B T L) (at0 + k) (l.drop k)) ∧ Hid (Below w.heap.size w wr) ∧ Hid (at0 + (k : Int) ≤ B + L.length)) (fun _ i _ => len - (intOf i).toNat)
  case atStart => exact ⟨0, Nat.zero_le _, rfl, by simp, by show k0 = _; rw [← HK.out]; simp, Below.refl _ _, by show _ ≤ _; have := HZ.out.1.2; omega⟩
  case round =>
    obtain ⟨k, hk, rfl, rfl, HP, BW, HA⟩ := hrel
    by_cases hlt : k < len
    · have hk' : k < l.length := by rw [← HN.out]; exact hlt
      obtain ⟨b, off, v, hab, c1, c2, c3⟩ := (HE.out.below BW.out).at hk'
      obtain ⟨pa, pc, rfl, _⟩ := c3
      subst hab
      have hpd := passed_drop (stand B T L) (at0 + k) l k hk'
      have HP2 : Hid _ := And.intro HP.out hpd
      have B2 : Hid (Below w.heap.size w (wr.alloc (.cells #[.int .i64 l[k].1, .slice pa l[k].2.length pc] 50))) := BW.out.alloc BW.out.size _
      have q5 : wrap64 (at0 + (k : Int) + 1) = at0 + (k : Int) + 1 := by unfold wrap64; have := HA.out; have := HZ.out; omega
      obtain ⟨m, em⟩ : ∃ m : Int, at0 + (k : Int) + 1 = m := ⟨_, rfl⟩
      have q6 : wrap64 (at0 + (k : Int) + 1) = m := by rw [q5]; exact em
      have EM : Hid (at0 + (k : Int) + 1 = m) := em
      rw [em] at HP2
      have hmhi : Hid (m ≤ 9223372036854775807) := by have := HA.out; have := HZ.out; show m ≤ _; omega
      have hk4 : k < 4398046511104 := by omega
      have hki : (k : Int) < (len : Int) := by omega
      have l2 := H.out.below B2.out
      clear HP hpd q5 em
      rcases stand_cases B T L m with ⟨em1, s1⟩ | ⟨kk, hkk, em1, s1⟩ | ⟨em1, s1⟩
      · exact absurd em1 (by have := EM.out; have := HZ.out; omega)
      · have HS := stands_entry l2 kk hkk m em1
        by_cases hte : L[kk].1.1 = l[k].1
        · have HP3 : Hid (k0 = (k + 1) + passed (stand B T L) m (l.drop (k + 1))) := by
            obtain ⟨y1, y2⟩ := HP2.out
            rw [s1, if_pos (by rw [hte])] at y2
            show k0 = _
            omega
          have HA3 : Hid (m ≤ B + L.length) := by show m ≤ _; omega
          clear HP2 l2 hmhi em1 s1
          rw [hte] at HS
          generalize l[k] = x at *
          obtain ⟨xt, xp⟩ := x
          simp only at c1 c2 B2 HS
          clear hte
          go_wp2_with fail
          refine HS.mono ?_
          clear HS
          rintro e w2 ⟨rfl, b2⟩
          unfold entP
          have bx := heap_alloc_new wr (.cells #[.int .i64 xt, .slice pa xp.length pc] 50)
          have BX : Hid _ := (b2.block wr.heap.size (by simp)).trans bx
          have x0 : w2.cell? ⟨wr.heap.size, 0, none⟩ = some (.int .i64 xt) := by simp [World.cell?, BX.out]
          have B3 : Hid (Below w.heap.size w w2) := B2.out.trans (b2.mono B2.out.size)
          have HT : Hid (Calls Try.prog 55 #[.agg #[.int .i64 (kk : Int), .int .i64 xt]] w2.drew fun e w' => e = .returned (.int .i64 xt) ∧ Below w2.heap.size w2 w' ∧ w'.cell? ⟨wr.heap.size, 0, none⟩ = some (.int .i64 xt)) := (term_entryB kk xt w2.drew).mono (by
            rintro e w' ⟨rfl, b⟩
            have lt : wr.heap.size < w2.heap.size := (Array.getElem?_eq_some_iff.1 BX.out).1
            exact ⟨rfl, ⟨b.os, b.tape, b.output, b.size, b.block⟩, by rw [b.cell (p := ⟨wr.heap.size, 0, none⟩) lt]; exact x0⟩)
          clear bx
          go_wp2
          go_region_law (go_simp; go_at_call 55; refine HT.out.mono ?_; rintro e w3 ⟨rfl, b3, x3⟩)
          all_goals
            have B4 : Hid (Below w.heap.size w w3) := B3.out.trans (b3.mono B3.out.size)
            clear b3 b2 x3 x0 BX
            go_wp2
            go_roundw
            case rel =>
              have em2 : at0 + ((k + 1 : Nat) : Int) = m := by
                have := EM.out
                omega
              exact ⟨k + 1, by omega, by go_num, by rw [em2], by rw [em2]; exact HP3, B4, by rw [em2]; exact HA3⟩
            case measure => simp only [intOf]; omega
        · have HP3 : Hid (k0 = k) := by
            obtain ⟨y1, y2⟩ := HP2.out
            rw [s1, if_neg (fun x => hte (Option.some.inj x))] at y2
            show k0 = k
            omega
          clear HP2 l2 hmhi em1 s1
          obtain ⟨tt, ett⟩ : ∃ tt, L[kk].1.1 = tt := ⟨_, rfl⟩
          rw [ett] at HS hte
          generalize l[k] = x at *
          obtain ⟨xt, xp⟩ := x
          simp only at c1 c2 B2 HS hte
          have z1 : (tt == xt) = false := by simpa using hte
          have z2 : (tt != xt) = true := by simpa using hte
          clear hte ett
          go_wp2_with fail
          refine HS.mono ?_
          clear HS
          rintro e w2 ⟨rfl, b2⟩
          unfold entP
          have bx := heap_alloc_new wr (.cells #[.int .i64 xt, .slice pa xp.length pc] 50)
          have BX : Hid _ := (b2.block wr.heap.size (by simp)).trans bx
          have x0 : w2.cell? ⟨wr.heap.size, 0, none⟩ = some (.int .i64 xt) := by simp [World.cell?, BX.out]
          have B3 : Hid (Below w.heap.size w w2) := B2.out.trans (b2.mono B2.out.size)
          have HT : Hid (Calls Try.prog 55 #[.agg #[.int .i64 (kk : Int), .int .i64 tt]] w2.drew fun e w' => e = .returned (.int .i64 tt) ∧ Below w2.heap.size w2 w' ∧ w'.cell? ⟨wr.heap.size, 0, none⟩ = some (.int .i64 xt)) := (term_entryB kk tt w2.drew).mono (by
            rintro e w' ⟨rfl, b⟩
            have lt : wr.heap.size < w2.heap.size := (Array.getElem?_eq_some_iff.1 BX.out).1
            exact ⟨rfl, ⟨b.os, b.tape, b.output, b.size, b.block⟩, by rw [b.cell (p := ⟨wr.heap.size, 0, none⟩) lt]; exact x0⟩)
          clear bx
          go_wp2
          go_region_law (go_simp; go_at_call 55; refine HT.out.mono ?_; rintro e w3 ⟨rfl, b3, x3⟩)
          all_goals
            have B4 : Hid (Below w.heap.size w w3) := B3.out.trans (b3.mono B3.out.size)
            clear b3 b2 x3 x0 BX HT
            have r1 : (k : Int) ≤ (cap : Int) := by omega
            have r2 : (k : Int) ≤ (len : Int) := by omega
            have r3 : ¬ cap = k := by omega
            have r4 : k ≤ len := by omega
            have r5 : (len : Int) ≤ (cap : Int) := by omega
            go_wp2
            go_quiet (fail)
            go_wp2
            go_ret2
            refine ⟨below_drewN' B4.out _, .inr ⟨by rw [HP3.out]; exact hlt, some ⟨b, off + k * 2, none⟩, cap - k, ?_, ?_, (fun e => by cases e), by rw [HP3.out]; omega, by omega⟩⟩
            · rw [HP3.out, EM.out]; rfl
            · rw [HP3.out]
              intro W hW
              exact hW.drop k hk (fun _ b' off' e => by cases e; rfl)
      · have HS := stands_none l2 m hmhi.out em1
        have HP3 : Hid (k0 = k) := by
          obtain ⟨y1, y2⟩ := HP2.out
          rw [s1, if_neg (fun x => by cases x)] at y2
          show k0 = k
          omega
        clear HP2 l2 hmhi em1 s1
        generalize l[k] = x at *
        obtain ⟨xt, xp⟩ := x
        simp only at c1 c2 B2 HS
        go_wp2_with fail
        refine HS.mono ?_
        clear HS
        rintro e w2 ⟨rfl, b2⟩
        have B3 : Hid (Below w.heap.size w w2) := B2.out.trans (b2.mono B2.out.size)
        have r1 : (k : Int) ≤ (cap : Int) := by omega
        have r2 : (k : Int) ≤ (len : Int) := by omega
        have r3 : ¬ cap = k := by omega
        have r4 : k ≤ len := by omega
        have r5 : (len : Int) ≤ (cap : Int) := by omega
        clear b2
        go_wp2
        go_quiet (fail)
        go_wp2
        go_quiet (fail)
        go_wp2
        go_ret2
        refine ⟨below_drewN' (below_drewN' B3.out _) _, .inr ⟨by rw [HP3.out]; exact hlt, some ⟨b, off + k * 2, none⟩, cap - k, ?_, ?_, (fun e => by cases e), by rw [HP3.out]; omega, by omega⟩⟩
        · rw [HP3.out, EM.out]; rfl
        · rw [HP3.out]
          intro W hW
          exact hW.drop k hk (fun _ b' off' e => by cases e; rfl)
    · obtain rfl : k = len := by omega
      have HP3 : Hid (k0 = k) := by
        have := HP.out
        rw [List.drop_of_length_le (by rw [← HN.out]; exact Nat.le_refl _)] at this
        exact this
      clear HP
      go_wp2
      go_ret2
      exact ⟨BW.out, .inl ⟨HP3.out, rfl⟩⟩
end
end Go.Proofs.Ytikedglcicgdhaa
