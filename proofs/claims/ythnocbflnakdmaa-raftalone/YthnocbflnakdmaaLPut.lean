/- Package rlog: put. -/
import Derived.Test.YthnocbflnakdmaaLKeep
import Derived.Test.YthnocbflnakdmaaLCan
namespace Go.Proofs.Ythnocbflnakdmaa
open Go.RowKit
attribute [local go_sem] Oper.semAt_some
set_option linter.unusedVariables false

/-- An append whose run is known, as one step of a region that draws. -/
theorem step_append_known {P : Program} {ops : Array Oper} {o : Oper} {a : Act} {w : World} {K : Act → World → Prop} {Q : Exit → Act → World → Prop} {E : Prop} (hgd : o.guard = none) (s x : Operand) (t : TypeId)
    (ho : o.op = .call { callee := .builtin .append, args := #[s, x], argTypes := #[t, t] }) (vs vx v' : Value) (w' : World) (hs : a.eval s = vs) (hx : a.eval x = vx)
    (hr : (Builtin.append_ #[t, t] o.type #[vs, vx]).run P w = .ok v' w') (hK : K (a.put o.dst v') w') : if Region.wanted o (yielded ops a.tmps) = true then Oper.wp P o a w K Q else E := by
  have hw : Region.wanted o (yielded ops a.tmps) = true := by simp [Region.wanted, hgd]
  rw [if_pos hw]
  unfold Oper.wp
  simp [execOp, ho, resolve, invoke, builtin, hs, hx, hr, Result.andThen]
  exact hK
/-- What comes of put. -/
def PutTold (w w' : World) (base N : Nat) (B T : Int) (sv : Value) (L : List EntV) (kept : Nat) (t : Int) (l : List Ent) (e : Ending) : Prop :=
  (4096 < kept + l.length ∧ e = .returned (.int .i64 4) ∧ Below w.heap.size w w') ∨
  (kept + l.length ≤ 4096 ∧ canBehind (max t 1) l = false ∧ e = .returned (.int .i64 1) ∧ Below w.heap.size w w') ∨
  (kept + l.length ≤ 4096 ∧ canBehind (max t 1) l = true ∧ e = .returned (.int .i64 0) ∧ ∃ sv' fs, LogIn w' base N B T sv' (L.take kept ++ fs) ∧ fs.map Prod.fst = l ∧ Chg w w' N sv.ownBlock ∧ (∀ k, sv'.ownBlock = some k → sv.ownBlock = some k ∨ w.heap.size ≤ k))
section
variable {w : World} {base N : Nat} {B T : Int} {sv : Value} {L : List EntV}
set_option maxRecDepth 100000 in
set_option maxHeartbeats 1600000 in
theorem put_full (h : LogIn w base N B T sv L) (kept : Nat) (hk : kept ≤ L.length) (a : Option Addr) (len cap : Nat) (hm : len ≤ 4398046511104) (hf : 4096 < kept + len) :
    Calls Try.prog 46 #[.pointer (some ⟨N, 0, none⟩), .int .i64 (kept : Int), .slice a len cap] w fun e w' => e = .returned (.int .i64 4) ∧ Below w.heap.size w w' := by
  have c0 := h.c0
  have hB := h.bB
  have hl := h.len
  have HS := stands_any h (B + kept) (by omega)
  have q1 : wrap64 (B + (kept : Int)) = B + kept := by unfold wrap64; omega
  have q2 : wrap64 ((kept : Int) + (len : Int)) = ((kept + len : Nat) : Int) := by unfold wrap64; omega
  have q3 : decide ((4096 : Int) < ((kept + len : Nat) : Int)) = true := decide_eq_true (by omega)
  obtain ⟨m, em⟩ : ∃ m : Int, B + (kept : Int) = m := ⟨_, rfl⟩
  have q1' : wrap64 (B + (kept : Int)) = m := by rw [← em]; exact q1
  rw [em] at HS
  clear h hB hl q1 em
  go_enter Try.func46, Try.ntmps46
  go_wp2_with fail
  refine HS.mono ?_
  rintro e w1 ⟨pv, rfl, b1, _⟩
  clear HS
  go_wp2
  go_ret
  exact ⟨rfl, b1⟩
set_option maxRecDepth 100000 in
set_option maxHeartbeats 1600000 in
theorem put_arg (h : LogIn w base N B T sv L) (hcb : canBase B T) (kept : Nat) (hk : kept ≤ L.length) (t : Int) (ht : stand B T L (B + kept) = some t) (a : Option Addr) (len cap : Nat) (l : List Ent) (he : EntsAt w a len l) (hm : len ≤ 4398046511104) (hf : kept + len ≤ 4096) (hc : canBehind (max t 1) l = false) :
    Calls Try.prog 46 #[.pointer (some ⟨N, 0, none⟩), .int .i64 (kept : Int), .slice a len cap] w fun e w' => e = .returned (.int .i64 1) ∧ Below w.heap.size w w' := by
  have hB := h.bB
  have hl := h.len
  have HS := stands_any h (B + kept) (by omega)
  unfold PlaceAt at HS
  rw [ht] at HS
  have q1 : wrap64 (B + (kept : Int)) = B + kept := by unfold wrap64; omega
  have q2 : wrap64 ((kept : Int) + (len : Int)) = ((kept + len : Nat) : Int) := by unfold wrap64; omega
  have q3 : decide ((4096 : Int) < ((kept + len : Nat) : Int)) = false := decide_eq_false (by omega)
  obtain ⟨m, em⟩ : ∃ m : Int, B + (kept : Int) = m := ⟨_, rfl⟩
  have q1' : wrap64 (B + (kept : Int)) = m := by rw [← em]; exact q1
  rw [em] at HS
  have H : Hid (LogIn w base N B T sv L) := h
  have HE : Hid (EntsAt w a len l) := he
  have HCB : Hid (canBase B T) := hcb
  have HC : Hid (canBehind (max t 1) l = false) := hc
  have c0 := h.c0
  clear h hB hl q1 em ht he hcb hc hk
  go_enter Try.func46, Try.ntmps46
  go_wp2_with fail
  refine HS.mono ?_
  rintro e w1 ⟨pv, rfl, b1, hp⟩
  clear HS
  have HP : Hid (PlaceIs pv t) := hp
  have h1 := H.out.below b1
  have k0 := h1.c0
  have k1 := h1.c1
  have HB : Hid (Calls Try.prog 68 #[.int .i64 B, .int .i64 T] w1.drew fun e w' => e = .returned (.bool true) ∧ w' = w1.drew) := by
    have := canBase_any B T w1.drew
    rw [decide_eq_true HCB.out] at this
    exact this
  have HD : Hid (Calls Try.prog 69 #[pv, .slice a len cap] w1.drew fun e w' => e = .returned (.bool false) ∧ Below w1.drew.heap.size w1.drew w') := by
    have := canBehind_any pv t HP.out a len cap l w1.drew ((HE.out.below b1).below (Below.refl _ _).drew) hm
    rw [HC.out] at this
    exact this
  clear hp h1 HP
  go_wp2
  go_region_law (first
    | (go_simp; go_at_call 68; refine HB.out.mono ?_; rintro e w2 ⟨rfl, rfl⟩)
    | (go_simp; go_at_call 69; refine HD.out.mono ?_; rintro e w2 ⟨rfl, b2⟩))
  all_goals
    go_wp2
    go_ret
    exact ⟨rfl, b1.trans (Below.trans ((Below.refl _ w1).drew.mono b1.size) (b2.mono b1.size))⟩
theorem copied_sl {w : World} {a : Option Addr} {len cap : Nat} {l : List Ent} (he : EntsAt w a len l) (hnil : a = none → cap = 0) (hm : len ≤ 4398046511104) :
    Calls Try.prog 38 #[.slice a len cap] w fun e w' => ∃ a' c' fs, e = .returned (.slice a' len c') ∧ fs.map Prod.fst = l ∧ w'.ownsRow w.heap.size 52 2 (.slice a' len c') len (entCells fs) ∧ (∀ e ∈ fs, DataAt w' e.2 e.1.2) ∧ Below w.heap.size w w' := by
  obtain ⟨es, e1, e2, e3, e4⟩ := he.raw
  refine (copied_any a len cap es w e2.symm e3 e4 hnil hm).mono ?_
  rintro e w' ⟨v, fs, rfl, hf, o, d, b⟩
  obtain ⟨a', c', hv, _⟩ := row_form o
  rw [hv] at o ⊢
  exact ⟨a', c', fs, rfl, hf.trans e1, o, d, b⟩
/-- The row behind the append of rows that were copied. -/
theorem append_sl {w3 w4 : World} {b4 : Nat} {sv : Value} {M fs : List EntV} {a4 : Option Addr} {n4 c4 : Nat} (h : LogIn w4 base N B T sv M) (o4 : w4.ownsRow b4 52 2 (.slice a4 n4 c4) n4 (entCells fs)) (hn : n4 = fs.length) (d4 : ∀ e ∈ fs, DataAt w4 e.2 e.1.2) (hl : M.length + fs.length ≤ 4096) :
    ∃ a5 c5 w5, (Builtin.append_ #[26, 26] 26 #[sv, .slice a4 n4 c4]).run Try.prog w4 = .ok (.slice a5 (M.length + n4) c5) w5 ∧ w5.ownsRow base 52 2 (.slice a5 (M.length + n4) c5) (M ++ fs).length (entCells (M ++ fs)) ∧ w4.grownBy w5 sv.ownBlock ∧ (∀ k, (Value.slice a5 (M.length + n4) c5).ownBlock = some k → sv.ownBlock = some k ∨ w4.heap.size ≤ k) := by
  subst hn
  obtain ⟨a, c, e, r, hnil, _⟩ := row_raw (es := fs) o4
  cases e
  obtain ⟨v5, w5, hr, o5, g5, hb⟩ := run_append_ents 26 w4 base sv M.length M h.row a4 fs.length c4 fs rfl r (fun e he => (d4 e he).1.one) hnil (by omega) h.size
  obtain ⟨a5, c5, hv, _⟩ := row_form o5
  rw [hv] at hr o5 hb
  refine ⟨a5, c5, w5, hr, ?_, g5, hb⟩
  rw [List.length_append]
  exact o5
theorem canBehind_bounds : ∀ (l : List Ent) (t : Int), 1 ≤ t → canBehind t l = true → ∀ e ∈ l, 1 ≤ e.1 ∧ e.1 ≤ 1152921504606846976
  | [], _, _, _ => fun e he => by cases he
  | x :: l, t, h1, hc => fun e he => by
    simp only [canBehind, Bool.and_eq_true, decide_eq_true_eq] at hc
    obtain ⟨⟨h2, h3⟩, h4⟩ := hc
    rcases List.mem_cons.1 he with rfl | he
    · exact ⟨by omega, h3⟩
    · exact canBehind_bounds l x.1 (by omega) h4 e he
set_option maxRecDepth 100000 in
set_option maxHeartbeats 3200000 in
theorem put_ok (h : LogIn w base N B T sv L) (hcb : canBase B T) (kept : Nat) (hk : kept ≤ L.length) (t : Int) (ht : stand B T L (B + kept) = some t) (a : Option Addr) (len cap : Nat) (l : List Ent) (he : ∀ w', Chg w w' N sv.ownBlock → EntsAt w' a len l) (hnil : a = none → cap = 0) (hm : len ≤ 4398046511104) (hf : kept + len ≤ 4096) (hc : canBehind (max t 1) l = true) :
    Calls Try.prog 46 #[.pointer (some ⟨N, 0, none⟩), .int .i64 (kept : Int), .slice a len cap] w fun e w' => e = .returned (.int .i64 0) ∧ ∃ sv' fs, LogIn w' base N B T sv' (L.take kept ++ fs) ∧ fs.map Prod.fst = l ∧ Chg w w' N sv.ownBlock ∧ (∀ k, sv'.ownBlock = some k → sv.ownBlock = some k ∨ w.heap.size ≤ k) := by
  have hB := h.bB
  have hl := h.len
  have HS := stands_any h (B + kept) (by omega)
  unfold PlaceAt at HS
  rw [ht] at HS
  have q1 : wrap64 (B + (kept : Int)) = B + kept := by unfold wrap64; omega
  have q2 : wrap64 ((kept : Int) + (len : Int)) = ((kept + len : Nat) : Int) := by unfold wrap64; omega
  have q3 : decide ((4096 : Int) < ((kept + len : Nat) : Int)) = false := decide_eq_false (by omega)
  obtain ⟨m, em⟩ : ∃ m : Int, B + (kept : Int) = m := ⟨_, rfl⟩
  have q1' : wrap64 (B + (kept : Int)) = m := by rw [← em]; exact q1
  rw [em] at HS
  have H : Hid (LogIn w base N B T sv L) := h
  have HE : Hid (∀ w', Chg w w' N sv.ownBlock → EntsAt w' a len l) := he
  have HCB : Hid (canBase B T) := hcb
  have HC : Hid (canBehind (max t 1) l = true) := hc
  have HK : Hid (kept ≤ L.length) := hk
  have HNL : Hid (a = none → cap = 0) := hnil
  have c0 := h.c0
  clear h hB hl q1 em ht he hcb hc hk hnil
  go_enter Try.func46, Try.ntmps46
  go_wp2_with fail
  refine HS.mono ?_
  rintro e w1 ⟨pv, rfl, b1, hp⟩
  clear HS
  have HP : Hid (PlaceIs pv t) := hp
  have h1 := H.out.below b1
  have k0 := h1.c0
  have k1 := h1.c1
  have HB : Hid (Calls Try.prog 68 #[.int .i64 B, .int .i64 T] w1.drew fun e w' => e = .returned (.bool true) ∧ w' = w1.drew) := by
    have := canBase_any B T w1.drew
    rw [decide_eq_true HCB.out] at this
    exact this
  have HD : Hid (Calls Try.prog 69 #[pv, .slice a len cap] w1.drew fun e w' => e = .returned (.bool true) ∧ Below w1.drew.heap.size w1.drew w') := by
    have := canBehind_any pv t HP.out a len cap l w1.drew ((HE.out w1 (Chg.of_below b1 _ _)).below (Below.refl _ _).drew) hm
    rw [HC.out] at this
    exact this
  clear hp h1 HP
  go_wp2
  go_region_law (first
    | (go_simp; go_at_call 68; refine HB.out.mono ?_; rintro e w2 ⟨rfl, rfl⟩)
    | (go_simp; go_at_call 69; refine HD.out.mono ?_; rintro e w2 ⟨rfl, b2⟩))
  all_goals
    clear HB HD k0 k1 c0
    have b2' : Below w.heap.size w w2 := b1.trans (Below.trans ((Below.refl _ w1).drew.mono b1.size) (b2.mono b1.size))
    have HKp := keep_any (H.out.below b2') kept HK.out
    clear b1 b2
    go_wp2_with fail
    refine HKp.mono ?_
    clear HKp
    rintro e w3 ⟨rfl, sv3, h3, g3, s3⟩
    have HH : Hid (LogIn w3 base N B T sv3 (L.take kept)) := h3
    have G3 : Hid (Chg w w3 N sv.ownBlock) := (Chg.of_below b2' _ _).trans g3 (fun g e => .inl e)
    have S3 : Hid (sv3.ownBlock = sv.ownBlock) := s3
    obtain ⟨a3, c3, hs3, _⟩ := h3.sv_form
    have k2 := h3.c2
    have x2 := h3.fz 2
    have HCp : Hid (Calls Try.prog 38 #[.slice a len cap] w3.drew _) := copied_sl (l := l) ((HE.out w3 G3.out).below (Below.refl _ _).drew) HNL.out hm
    have hlk : (L.take kept).length = kept := by rw [List.length_take]; exact Nat.min_eq_left HK.out
    have HLK : Hid ((L.take kept).length = kept) := hlk
    rw [hlk] at hs3
    clear h3 g3 s3 b2' hlk
    rw [hs3] at k2
    go_wp2
    go_region_law (first
      | (go_simp; go_at_call 38; refine HCp.out.mono ?_; rintro e w4 ⟨a4, c4, fs, rfl, f4, o4, d4, b4⟩; have h4 := HH.out.below ((Below.refl _ _).drew.trans b4); have k4 := h4.c2; have x4 := h4.fz 2; rw [hs3] at k4; obtain ⟨a5, c5, w5, r5, o5, g5, s5⟩ := append_sl (w3 := w3) h4 o4 (by have := congrArg List.length f4; have q := o4.1; rw [entCells_length] at q; omega) d4 (by have q := o4.1; rw [entCells_length] at q; have := HLK.out; omega); obtain ⟨k5, x5⟩ := h4.grown_c2 g5; rw [hs3, HLK.out] at r5; rw [HLK.out] at o5 s5)
      | (refine step_append_known (by rfl) _ _ _ (by rfl) _ _ _ _ (by rfl) (by rfl) r5 ?_))
    all_goals
      have hl5 : (L.take kept ++ fs).length ≤ 4096 := by
        have q := o4.1
        rw [entCells_length] at q
        have := HLK.out
        rw [List.length_append]
        omega
      have gg : w3.grownBy w5 sv3.ownBlock := (⟨b4.os, b4.tape, b4.output, b4.size, fun k hk _ => b4.block k hk⟩ : w3.grownBy w4 sv3.ownBlock).trans g5
      obtain ⟨z1, z2⟩ := HH.out.turn (sv' := .slice a5 (kept + len) c5) (L' := L.take kept ++ fs) gg o5 (fun e he => by
          rcases List.mem_append.1 he with he | he
          · exact (h4.dat e he).keep fun g hg => h4.bytes ⟨g5.os, g5.tape, g5.output, g5.size, fun k hk _ hn => g5.block k hk hn⟩ g hg
          · exact (d4 e he).keep fun g hg => h4.bytes ⟨g5.os, g5.tape, g5.output, g5.size, fun k hk _ hn => g5.block k hk hn⟩ g hg) hl5 (fun e he => by
          rcases List.mem_append.1 he with he | he
          · exact h4.bE e he
          · exact canBehind_bounds l (max t 1) (by omega) HC.out e.1 (by rw [← f4]; exact List.mem_map_of_mem he)) (fun k e => (s5 k e).imp id (fun q => Nat.le_trans b4.size q))
      rw [S3.out] at z2
      have z3 := G3.out.trans z2 (fun g e => .inl e)
      go_wp2
      go_ret
      refine ⟨rfl, _, fs, z1, f4, z3, fun k e => ?_⟩
      rcases s5 k e with q | q
      · rw [S3.out] at q
        exact .inl q
      · exact .inr (Nat.le_trans G3.out.size (Nat.le_trans b4.size q))
end
end Go.Proofs.Ythnocbflnakdmaa
