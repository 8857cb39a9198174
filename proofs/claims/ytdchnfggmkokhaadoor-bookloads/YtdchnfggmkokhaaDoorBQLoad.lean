/- The reference's Load; both sides' answers, side by side. -/
import Derived.Test.YtdchnfggmkokhaaDoorBQOf
namespace Go.Proofs.YtdchnfggmkokhaaDoor
open Go.RowKit Cod
set_option linter.unusedVariables false

/-- The accounts that bytes say. -/
def ldA (l : List (BitVec 8)) : List Acc := (ak l (ldN l).2.1 (ldN l).2.2 (ldN l).1).1
def QLdTold (w w' : World) (l : List (BitVec 8)) (e : Ending) : Prop :=
  (ldEnd l ≠ 0 ∧ e = .returned (.tuple #[.pointer none, .int .i64 (ldEnd l)])) ∨
  (ldEnd l = 0 ∧ ¬ Fit (ldA l) ∧ e = .returned (.tuple #[.pointer none, .int .i64 11])) ∨
  (ldEnd l = 0 ∧ ∃ N sv, e = .returned (.tuple #[.pointer (some ⟨N, 0, none⟩), .int .i64 0]) ∧ RefB w' w.heap.size N sv (ldA l))
theorem QB.below {w w' : World} {N k : Nat} {A : List Acc} {ok : Bool} (b : QB w N A ok k) (h : Below w.heap.size w w') : QB w' N A ok k := by
  rcases b with ⟨h1, sv, h2⟩ | ⟨h1, h2, s0, X0, q1, q2, q3⟩
  · exact .inl ⟨h1, sv, h2.below h⟩
  · exact .inr ⟨h1, h2, s0, X0, (h.block _ (Array.getElem?_eq_some_iff.1 q1).1).trans q1, owns_kept q2 (fun g e => h.block g (row_kind q2 e).2.1), q3⟩
set_option maxRecDepth 100000 in
set_option maxHeartbeats 4000000 in
theorem qload_any (pa : Option Addr) (len cap : Nat) (l : List (BitVec 8)) (w : World) (h : Seen w pa len l) (hnil : pa = none → cap = 0) (hm : len ≤ 140737488355328) :
    Calls Tryd.prog 6 #[.slice pa len cap] w fun e w' => QLdTold w w' l e ∧ Below w.heap.size w w' := by
  have RO := refOf_any pa len cap l w h hnil hm
  obtain ⟨n, a, y, hn⟩ : ∃ n a y, ldN l = (n, a, y) := ⟨_, _, _, rfl⟩
  have HN : Hid (ldN l = (n, a, y)) := hn
  have EE : Hid (ldEnd l = rEnd l (ak l a y n).2.1 (ak l a y n).2.2 ∧ ldA l = (ak l a y n).1) := by
    show _ ∧ _
    constructor
    · simp only [ldEnd, hn, rdK_ak]
    · simp only [ldA, hn]
  clear h hnil hm hn
  go_enter Tryd.func6, Tryd.ntmps6
  go_wp2_with fail
  refine RO.mono ?_
  clear RO
  rintro e w1 ⟨R, rfl, hR, r1, b1⟩
  have QO := qof_any (w0 := w) (w := w1) r1 hR r1.lt (Nat.le_refl _) b1 n a y HN.out
  clear hR r1 b1
  go_wp2_with fail
  refine QO.mono ?_
  clear QO
  rintro e w2 ⟨N, ok, rfl, hL, hQ⟩
  have HL : Hid _ := hL
  have HQ : Hid ((ak l a y n).2.2 = 0 → QB w2 N (ak l a y n).1 ok n) := hQ
  have RE := refREnd_any R _ _ l _ _ w2 hL.rdr
  rw [← EE.out.1] at RE
  clear hL hQ
  go_wp2_with fail
  refine RE.mono ?_
  clear RE
  rintro e w3 ⟨rfl, m3, rfl⟩
  have b3 : Below w2.heap.size w2 (w2.drewN m3) := below_drewN' (Below.refl _ w2) m3
  have B3 : Hid (Below w.heap.size w (w2.drewN m3)) := (QL.bel HL.out).trans (b3.mono (QL.bel HL.out).size)
  by_cases he : ldEnd l = 0
  · have hy : (ak l a y n).2.2 = 0 := by
      have := EE.out.1
      rw [he] at this
      unfold rEnd at this
      split at this
      · exact this.symm
      · rename_i hq; exact Decidable.not_not.1 hq
    have Q3 : Hid (QB (w2.drewN m3) N (ak l a y n).1 ok n) := (HQ.out hy).below b3
    have LB : Hid (w.heap.size ≤ N) := by have h1 := QL.lo HL.out; have h2 := QL.hR HL.out; have h3 := QL.hB HL.out; show _ ≤ _; omega
    have HE : Hid (ldEnd l = 0) := he
    rw [he]
    clear he hy b3
    generalize w2.drewN m3 = w3 at *
    rcases Q3.out with ⟨rfl, sv, hb⟩ | ⟨rfl, hnf, _⟩
    · have HB : Hid (RefB w3 N N sv (ak l a y n).1) := hb
      clear hb Q3
      go_wp2
      go_ret2
      exact ⟨.inr (.inr ⟨HE.out, N, sv, rfl, by rw [EE.out.2]; exact RefB.base_le HB.out LB.out⟩), B3.out⟩
    · have HF : Hid (¬ Fit (ldA l)) := by show ¬ _; rw [EE.out.2]; exact hnf
      clear hnf Q3
      go_wp2
      go_ret2
      exact ⟨.inr (.inl ⟨HE.out, HF.out, rfl⟩), B3.out⟩
  · have hne : ¬ (((ldEnd l : Nat) : Int) = 0) := by omega
    have HE : Hid (ldEnd l ≠ 0) := he
    clear he b3
    go_wp2
    go_ret2
    exact ⟨.inl ⟨HE.out, rfl⟩, B3.out⟩
theorem fit_put {L : List Acc} (h : Fit L) (t : ByteArray) (n : Int) (hn : i64ok n) : Fit (putP L t n).2 := by
  unfold putP
  split
  · exact h
  · split
    · exact h
    · split
      · exact h
      · split
        · exact h
        · rename_i q1 q2 q3 q4
          exact h.ins ⟨t, n, ⟨#[]⟩⟩ (by simpa using q3) (by omega) ⟨by show 0 ≤ n; omega, by show n ≤ _; have := hn.2; omega⟩ (by simpa using q1) (by show (0 : Nat) ≤ _; omega)
theorem fit_hold {L : List Acc} (h : Fit L) (t s : ByteArray) : Fit (onP L t (holdP s)).2 := by
  unfold onP
  cases hg : getA L t with
  | none => exact h
  | some p =>
    simp only
    by_cases hz : (holdP s p).1 = 0
    · rw [if_pos hz]
      obtain ⟨h1, h2, h3, h4, h5, h6⟩ := h.got hg
      obtain ⟨f1, f2, f3⟩ := holdP_fit s p h4 h5 h6 hz
      exact h.upd _ (by rw [f1]; exact (hasN_mem L p.nm).2 ⟨p, h1, rfl⟩) f2 f3
    · rw [if_neg hz]
      exact h
theorem fit_fold : ∀ (A : List Acc) (L : List Acc), Fit L → (∀ p ∈ A, i64ok p.amt) → Fit (A.foldl putAcc L)
  | [], _, h, _ => h
  | p :: A, L, h, ha => by
    rw [List.foldl_cons]
    refine fit_fold A _ ?_ (fun q hq => ha q (by simp [hq]))
    unfold putAcc
    split
    · exact fit_hold (fit_put h _ _ (ha p (by simp))) _ _
    · exact fit_put h _ _ (ha p (by simp))
theorem ak_amt (l : List (BitVec 8)) (a y k : Nat) : ∀ p ∈ (ak l a y k).1, i64ok p.amt := by
  induction k with
  | zero => rw [ak]; intro p hp; cases hp
  | succ k ih =>
    rw [ak_succ]
    intro p hp
    rcases List.mem_append.1 hp with h | h
    · exact ih p h
    · obtain rfl : p = _ := by simpa using h
      exact (rdA_short _ _ _).2.2
theorem ldL_fit (l : List (BitVec 8)) : Fit (ldL l) := by
  have e : ldL l = (ak l (ldN l).2.1 (ldN l).2.2 (ldN l).1).1.foldl putAcc [] := by simp only [ldL, rdK_ak]
  rw [e]
  exact fit_fold _ _ Fit.nil (ak_amt _ _ _ _)
/-- Both sides: refused alike, or both are the same book. -/
theorem ld_two {w w1 w' w1' : World} {l : List (BitVec 8)} {e e' : Ending} (h : LdTold w w1 l e) (h' : QLdTold w' w1' l e') :
    (∃ y : Int, y ≠ 0 ∧ e = .returned (.tuple #[.pointer none, .int .i64 y]) ∧ e' = .returned (.tuple #[.pointer none, .int .i64 y])) ∨
    (∃ N sv N' sv' L, e = .returned (.tuple #[.pointer (some ⟨N, 0, none⟩), .int .i64 0]) ∧ e' = .returned (.tuple #[.pointer (some ⟨N', 0, none⟩), .int .i64 0]) ∧ BookIn w1 w.heap.size N sv L ∧ RefB w1' w'.heap.size N' sv' L ∧ bookB L = l) := by
  have hf := ldL_fit l
  have hm : ldEnd l = 0 → (bookB (ldL l) = l ↔ Fit (ldA l)) ∧ (Fit (ldA l) → ldL l = ldA l) := fun h0 => ld_match (n := (ldN l).1) (a := (ldN l).2.1) (y := (ldN l).2.2) rfl h0 hf
  rcases h' with ⟨h0, rfl⟩ | ⟨h0, hn, rfl⟩ | ⟨h0, N', sv', rfl, hb'⟩
  · have hw : ldWhy l = ldEnd l := by unfold ldWhy; rw [if_pos h0]
    rcases h with ⟨_, rfl⟩ | ⟨h1, _⟩
    · exact .inl ⟨ldEnd l, by omega, by rw [hw], rfl⟩
    · rw [hw] at h1; exact absurd h1 h0
  · have hw : ldWhy l = 11 := by unfold ldWhy; rw [if_neg (fun q => q h0), if_neg (fun q => hn ((hm h0).1.1 q))]
    rcases h with ⟨_, rfl⟩ | ⟨h1, _⟩
    · exact .inl ⟨11, by decide, by rw [hw]; rfl, rfl⟩
    · rw [hw] at h1; cases h1
  · have hfa : Fit (ldA l) := hb'.fit
    have hq := (hm h0).1.2 hfa
    have hw : ldWhy l = 0 := by unfold ldWhy; rw [if_neg (fun q => q h0), if_pos hq]
    rcases h with ⟨h1, _⟩ | ⟨_, N, sv, rfl, hb⟩
    · exact absurd hw h1
    · exact .inr ⟨N, sv, N', sv', ldL l, rfl, rfl, hb, by rw [(hm h0).2 hfa]; exact hb', hq⟩
end Go.Proofs.YtdchnfggmkokhaaDoor
