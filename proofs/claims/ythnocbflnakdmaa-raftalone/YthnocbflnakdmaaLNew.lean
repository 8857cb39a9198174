/- Package rlog: New, Append. -/
import Derived.Test.YthnocbflnakdmaaLPut
namespace Go.Proofs.Ythnocbflnakdmaa
open Go.RowKit
attribute [local go_sem] Oper.semAt_some
set_option linter.unusedVariables false

section
variable {w : World} {base N : Nat} {B T : Int} {sv : Value} {L : List EntV}
theorem put_any (h : LogIn w base N B T sv L) (hcb : canBase B T) (kept : Nat) (hk : kept ≤ L.length) (t : Int) (ht : stand B T L (B + kept) = some t) (a : Option Addr) (len cap : Nat) (l : List Ent) (he : ∀ w', Chg w w' N sv.ownBlock → EntsAt w' a len l) (hnil : a = none → cap = 0) (hm : len ≤ 4398046511104) :
    Calls Try.prog 46 #[.pointer (some ⟨N, 0, none⟩), .int .i64 (kept : Int), .slice a len cap] w fun e w' => PutTold w w' base N B T sv L kept t l e := by
  have hn := (he w (Chg.refl _ _ _)).1
  by_cases hf : kept + len ≤ 4096
  · by_cases hc : canBehind (max t 1) l = true
    · refine (put_ok h hcb kept hk t ht a len cap l he hnil hm hf hc).mono ?_
      rintro e w' ⟨rfl, q⟩
      exact .inr (.inr ⟨by omega, hc, rfl, q⟩)
    · have hc' : canBehind (max t 1) l = false := by simpa using hc
      refine (put_arg h hcb kept hk t ht a len cap l (he w (Chg.refl _ _ _)) hm hf hc').mono ?_
      rintro e w' ⟨rfl, q⟩
      exact .inr (.inl ⟨by omega, hc', rfl, q⟩)
  · refine (put_full h kept hk a len cap hm (by omega)).mono ?_
    rintro e w' ⟨rfl, q⟩
    exact .inl ⟨by omega, rfl, q⟩
set_option maxRecDepth 100000 in
set_option maxHeartbeats 1600000 in
theorem append_any (h : LogIn w base N B T sv L) (hcb : canBase B T) (a : Option Addr) (len cap : Nat) (l : List Ent) (he : ∀ w', Chg w w' N sv.ownBlock → EntsAt w' a len l) (hnil : a = none → cap = 0) (hm : len ≤ 4398046511104) :
    Calls Try.prog 33 #[.pointer (some ⟨N, 0, none⟩), .slice a len cap] w fun e w' => PutTold w w' base N B T sv L L.length (lastT T L) l e := by
  have HP := put_any h hcb L.length (Nat.le_refl _) _ (stand_last B T L) a len cap l he hnil hm
  have c2 := h.c2
  obtain ⟨a2, cc, e, _⟩ := h.sv_form
  rw [e] at c2
  clear h he hnil hm
  generalize L.length = n at *
  go_enter Try.func33, Try.ntmps33
  go_wp2_with fail
  refine HP.mono ?_
  clear HP
  rintro e w1 (⟨q1, rfl, q⟩ | ⟨q1, q2, rfl, q⟩ | ⟨q1, q2, rfl, q⟩)
  · go_wp2
    go_ret
    exact .inl ⟨q1, rfl, q⟩
  · go_wp2
    go_ret
    exact .inr (.inl ⟨q1, q2, rfl, q⟩)
  · go_wp2
    go_ret
    exact .inr (.inr ⟨q1, q2, rfl, q⟩)
set_option maxRecDepth 100000 in
set_option maxHeartbeats 1600000 in
theorem put_bad (hN : w.heap[N]? = some (.cells #[.int .i64 B, .int .i64 T, .slice none 0 0] 92 (0, 0))) (hB : -9223372036854775808 ≤ B ∧ B ≤ 9223372036854775807) (hcb : ¬ canBase B T) (a : Option Addr) (len cap : Nat) (hm : len ≤ 4398046511104) :
    Calls Try.prog 46 #[.pointer (some ⟨N, 0, none⟩), .int .i64 0, .slice a len cap] w fun e w' => Below w.heap.size w w' ∧ ((e = .returned (.int .i64 4)) ∨ e = .returned (.int .i64 1)) := by
  have c0 : w.cell? ⟨N, 0, none⟩ = some (.int .i64 B) := by simp [World.cell?, hN]
  have c1 : w.cell? ⟨N, 1, none⟩ = some (.int .i64 T) := by simp [World.cell?, hN]
  have HS := stands_base0 c0 c1
  have q1 : wrap64 B = B := by unfold wrap64; omega
  have Q1 : Hid (wrap64 B = B) := q1
  have q2 : wrap64 (len : Int) = (len : Int) := by unfold wrap64; omega
  have HN : Hid (w.heap[N]? = some (.cells #[.int .i64 B, .int .i64 T, .slice none 0 0] 92 (0, 0))) := hN
  have HCB : Hid (¬ canBase B T) := hcb
  have hq : ∀ x : Int, x = B → wrap64 (x + 0) = B := fun x e => by subst e; unfold wrap64; omega
  have q3 := hq B rfl
  clear hN hq q1 hcb q2
  by_cases hf : 4096 < len
  · have q4 : decide ((4096 : Int) < (len : Int)) = true := decide_eq_true (by omega)
    clear hf
    go_enter Try.func46, Try.ntmps46
    go_wp2_with fail
    try rw [Q1.out]
    refine HS.mono ?_
    rintro e w1 ⟨rfl, b1⟩
    clear HS
    go_wp2
    go_ret
    exact ⟨b1, .inl rfl⟩
  · have q4 : decide ((4096 : Int) < (len : Int)) = false := decide_eq_false (by omega)
    clear hf
    go_enter Try.func46, Try.ntmps46
    go_wp2_with fail
    try rw [Q1.out]
    refine HS.mono ?_
    rintro e w1 ⟨rfl, b1⟩
    clear HS
    have n1 := (b1.block N (Array.getElem?_eq_some_iff.1 HN.out).1).trans HN.out
    have k0 : w1.cell? ⟨N, 0, none⟩ = some (.int .i64 B) := by simp [World.cell?, n1]
    have k1 : w1.cell? ⟨N, 1, none⟩ = some (.int .i64 T) := by simp [World.cell?, n1]
    have HB : ∀ q, Hid (Calls Try.prog 68 #[.int .i64 B, .int .i64 T] (w1.drewN q) fun e w' => e = .returned (.bool false) ∧ w' = w1.drewN q) := fun q => by
      have := canBase_any B T (w1.drewN q)
      rw [decide_eq_false HCB.out] at this
      exact this
    clear n1 c0 c1
    go_wp2
    go_quiet (first | (go_at_call 68; refine Calls.quiet_of_same (HB _).out))
    go_wp2
    go_ret
    exact ⟨b1.trans ((below_drewN' (Below.refl _ w1) _).mono b1.size), .inr rfl⟩
end
/-- What comes of New. -/
def NewTold (w w' : World) (B T : Int) (l : List Ent) (e : Ending) : Prop :=
  (¬ (canBase B T ∧ l.length ≤ 4096 ∧ canBehind (max T 1) l = true) ∧ ∃ why : Int, (why = 4 ∨ why = 1) ∧ e = .returned (.tuple #[.pointer none, .int .i64 why])) ∨
  (canBase B T ∧ l.length ≤ 4096 ∧ canBehind (max T 1) l = true ∧ e = .returned (.tuple #[.pointer (some ⟨w.heap.size, 0, none⟩), .int .i64 0]) ∧ ∃ sv fs, fs.map Prod.fst = l ∧ LogIn w' w.heap.size w.heap.size B T sv fs)
theorem fresh_log (w : World) (B T : Int) (h : canBase B T) : LogIn (w.alloc (.cells #[.int .i64 B, .int .i64 T, .slice none 0 0] 92)) w.heap.size w.heap.size B T (.slice none 0 0) [] := by
  refine ⟨heap_alloc_new w _, World.ownsRow_nil _ _ _ _, (fun e he => by cases he), Nat.le_refl _, by simp, ?_, ?_, (fun e he => by cases he)⟩
  · unfold canBase at h; omega
  · unfold canBase at h; omega
set_option maxRecDepth 100000 in
set_option maxHeartbeats 1600000 in
theorem new_any (B T : Int) (hB : -9223372036854775808 ≤ B ∧ B ≤ 9223372036854775807) (a : Option Addr) (len cap : Nat) (l : List Ent) (w : World) (he : EntsAt w a len l) (hnil : a = none → cap = 0) (hm : len ≤ 4398046511104) :
    Calls Try.prog 30 #[.int .i64 B, .int .i64 T, .slice a len cap] w fun e w' => Below w.heap.size w w' ∧ NewTold w w' B T l e := by
  have bA := (Below.refl _ w).alloc (Nat.le_refl _) (.cells #[.int .i64 B, .int .i64 T, .slice none 0 0] 92)
  by_cases hcb : canBase B T
  · have f := fresh_log w B T hcb
    have HP := put_any f hcb 0 (Nat.zero_le _) T (by simpa using stand_base B T []) a len cap l (fun w' c => he.below (bA.trans (f.chg_below c))) hnil hm
    have HF : Hid (LogIn (w.alloc (.cells #[.int .i64 B, .int .i64 T, .slice none 0 0] 92)) w.heap.size w.heap.size B T (.slice none 0 0) []) := f
    have BA : Hid (Below w.heap.size w (w.alloc (.cells #[.int .i64 B, .int .i64 T, .slice none 0 0] 92))) := bA
    clear f bA he hnil
    go_enter Try.func30, Try.ntmps30
    go_wp2_with fail
    refine HP.mono ?_
    clear HP
    rintro e w1 (⟨q1, rfl, q⟩ | ⟨q1, q2, rfl, q⟩ | ⟨q1, q2, rfl, sv', fs, l1, f1, g1, _⟩)
    · have b1 : Below w.heap.size w w1 := BA.out.trans (q.mono BA.out.size)
      clear q
      go_wp2
      go_ret2
      exact ⟨b1, .inl ⟨fun x => by have := x.2.1; omega, 4, .inl rfl, rfl⟩⟩
    · have b1 : Below w.heap.size w w1 := BA.out.trans (q.mono BA.out.size)
      clear q
      go_wp2
      go_ret2
      exact ⟨b1, .inl ⟨fun x => by rw [q2] at x; exact Bool.noConfusion x.2.2, 1, .inr rfl, rfl⟩⟩
    · have b1 : Below w.heap.size w w1 := BA.out.trans (HF.out.chg_below g1)
      have L1 : Hid (LogIn w1 w.heap.size w.heap.size B T sv' fs) := by
        have := l1
        simp at this
        exact this
      clear l1 g1
      go_wp2
      go_ret2
      exact ⟨b1, .inr ⟨hcb, by omega, q2, rfl, sv', fs, f1, L1.out⟩⟩
  · have HP := put_bad (N := w.heap.size) (B := B) (T := T) (heap_alloc_new w _) hB hcb a len cap hm
    have BA : Hid (Below w.heap.size w (w.alloc (.cells #[.int .i64 B, .int .i64 T, .slice none 0 0] 92))) := bA
    clear bA he hnil
    go_enter Try.func30, Try.ntmps30
    go_wp2_with fail
    refine HP.mono ?_
    clear HP
    rintro e w1 ⟨q, (rfl | rfl)⟩
    · have b1 : Below w.heap.size w w1 := BA.out.trans (q.mono BA.out.size)
      clear q
      go_wp2
      go_ret2
      exact ⟨b1, .inl ⟨fun x => hcb x.1, 4, .inl rfl, rfl⟩⟩
    · have b1 : Below w.heap.size w w1 := BA.out.trans (q.mono BA.out.size)
      clear q
      go_wp2
      go_ret2
      exact ⟨b1, .inl ⟨fun x => hcb x.1, 1, .inr rfl, rfl⟩⟩
end Go.Proofs.Ythnocbflnakdmaa
