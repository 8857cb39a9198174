/- The net and its reference side by side. -/
import Derived.Test.YtccmehbdnnelhaaNPair
import Derived.Test.YtccmehbdnnelhaaLent
import Derived.Test.YtccmehbdnnelhaaText
import Derived.Great.BuildSlice
import Derived.WalkSmall
namespace Go.Proofs.Ytccmehbdnnelhaa
open Go.RowKit Go.Maps
set_option linter.unusedVariables false
structure Du (w0 W : World) (N R T : Nat) (L : List Post) (ms : List OpN) : Prop where
  net : NetS W w0.heap.size N L T
  ref : ∃ v, RefIn W w0.heap.size R v ms
  tw : Twin L ms
  bel : Below w0.heap.size w0 W
def OffAll (X : Nat) (L : List Post) (ms : List OpN) : Prop := (∀ p ∈ L, Off X p.dv p.b) ∧ ∀ q ∈ ms, Off X (.slice q.a q.b.length q.c) q.b
section
variable {w0 W W' : World} {N R T X : Nat} {L : List Post} {ms : List OpN}
theorem Du.below (h : Du w0 W N R T L ms) (b : Below W.heap.size W W') : Du w0 W' N R T L ms := by
  obtain ⟨v, hr⟩ := h.ref
  exact ⟨h.net.below b, ⟨v, hr.below b⟩, h.tw, h.bel.trans (b.mono h.bel.size)⟩
theorem NetS.dat {base : Nat} (h : NetS W base N L T) : ∀ p ∈ L, DataAt W p.dv p.b := fun p hp => by
  rcases h.2 with ⟨_, e, _⟩ | ⟨B, bx, hn⟩
  · rw [e] at hp; cases hp
  · exact hn.dat p hp
theorem Du.off (h : Du w0 W N R T L ms) (hX : W.heap.size ≤ X) : OffAll X L ms := by
  obtain ⟨v, hr⟩ := h.ref
  exact ⟨fun p hp => (h.net.dat p hp).off hX, fun q hq => (hr.dat q hq).off hX⟩
theorem Du.spoilt (h : Du w0 W N R T L ms) {B n : Nat} {v : Value} {b : List (BitVec 8)} (o : W.ownsRow B 5 1 v n (cellsOf b)) (hB : w0.heap.size ≤ B) (g : W.grownBy W' v.ownBlock) (ho : ∀ X, v.ownBlock = some X → OffAll X L ms) : Du w0 W' N R T L ms := by
  obtain ⟨v', hr⟩ := h.ref
  cases hv : v.ownBlock with
  | none =>
    rw [hv] at g
    exact h.below ((Below.refl _ W).grown g (Nat.le_refl _) (fun k e => by cases e))
  | some X =>
    rw [hv] at g
    obtain ⟨cur, hc⟩ := row_kind o hv
    have h8 : B8At W X := ⟨cur, _, hc⟩
    have hX := (row_lt4 o hv).1
    obtain ⟨o1, o2⟩ := ho X hv
    exact ⟨h.net.spoilt h8 g o1, ⟨v', hr.spoilt h8 g o2⟩, h.tw, h.bel.grown g h.bel.size (fun k e => by cases e; omega)⟩
/-- Both are sent a letter. -/
theorem du_send {V w1 w2 w3 : World} {f n : Int} {b : List (BitVec 8)} (hV : Du w0 V N R T L ms) (b1 : Below V.heap.size V w1) (s2 : SentN w0.heap.size N T L f n b w1 w2) (s3 : SentR w0.heap.size R ms f n b w2 w3) :
    ∃ L' ms' T', T' ≤ T + 1 ∧ Du w0 w3 N R T' L' ms' ∧ (L'.length ≤ L.length + 1) ∧ (errS f n b L.length = 0 → L'.length = L.length + 1) ∧ ∀ X, V.heap.size ≤ X → X < w1.heap.size → OffAll X L' ms' := by
  have hoff := fun X (hX : V.heap.size ≤ X) => hV.off hX
  have bW1 : Below w0.heap.size w0 w1 := hV.bel.trans (b1.mono hV.bel.size)
  have el := hV.tw.1
  rcases s2 with ⟨e2, n2, k2⟩ | ⟨e2, dv, n2, k2, d2⟩
  · rcases s3 with ⟨e3, ⟨v3, r3⟩, k3⟩ | ⟨e3, _⟩
    · exact ⟨L, ms, T, by omega, ⟨n2.rk k3, ⟨v3, r3⟩, hV.tw, (bW1.trans k2.1).trans k3.1⟩, by omega, fun h => absurd h e2, fun X h1 _ => hoff X h1⟩
    · rw [el] at e2; exact absurd e3 e2
  · rcases s3 with ⟨e3, _⟩ | ⟨e3, v3, a, c, r3, k3, d3⟩
    · rw [el] at e2; exact absurd e2 e3
    · refine ⟨L ++ [⟨f, n, dv, b, T⟩], ms ++ [⟨0, f, n, a, c, b⟩], T + 1, Nat.le_refl _, ⟨n2.rk k3, ⟨v3, r3⟩, hV.tw.more rfl rfl rfl, (bW1.trans k2.1).trans k3.1⟩, by simp, fun _ => by simp, fun X h1 h2 => ⟨fun p hp => ?_, fun q hq => ?_⟩⟩
      · rcases List.mem_append.1 hp with hp | hp
        · exact (hoff X h1).1 p hp
        · rw [List.mem_singleton.1 hp]
          exact d2.off h2
      · rcases List.mem_append.1 hq with hq | hq
        · exact (hoff X h1).2 q hq
        · rw [List.mem_singleton.1 hq]
          exact d3.off (Nat.lt_of_lt_of_le h2 k2.2.1)
/-- A letter is at both no more. -/
theorem du_erase {V w1 w2 : World} {i : Nat} {v2 : Value} (hV : Du w0 V N R T L ms) (n1 : NetS w1 w0.heap.size N (L.eraseIdx i) T) (k1 : NKeep w0.heap.size V w1) (r2 : RefIn w2 w0.heap.size R v2 (ms.eraseIdx i)) (k2 : RKeep w0.heap.size w1 w2) : Du w0 w2 N R T (L.eraseIdx i) (ms.eraseIdx i) :=
  ⟨n1.rk k2, ⟨v2, r2⟩, hV.tw.erase i, (hV.bel.trans k1.1).trans k2.1⟩
theorem OffAll.erase (h : OffAll X L ms) (i : Nat) : OffAll X (L.eraseIdx i) (ms.eraseIdx i) := ⟨fun p hp => h.1 p (List.mem_of_mem_eraseIdx hp), fun q hq => h.2 q (List.mem_of_mem_eraseIdx hq)⟩
end
/-- The law's as. -/
theorem infoRLt : True := trivial
end Go.Proofs.Ytccmehbdnnelhaa

namespace Go.Proofs.Ytccmehbdnnelhaa
open Go.RowKit Go.Maps
attribute [local go_sem] Oper.semAt_some
set_option linter.unusedVariables false
set_option maxRecDepth 100000 in
set_option maxHeartbeats 4000000 in
theorem asN_any (f n : Int) (a : Option Addr) (m c : Nat) (w : World) : Calls Try.prog 16 #[.agg #[.int .i64 f, .int .i64 n, .slice a m c]] w fun e w' => e = .returned (.agg #[.int .i64 f, .int .i64 n, .slice a m c]) ∧ Below w.heap.size w w' := by
  have bA : Below w.heap.size w ((w.alloc (.cells #[.int .i64 f, .int .i64 n, .slice a m c] 45)).alloc (.cells #[.int .i64 0, .int .i64 0, .slice none 0 0] 48)) := ((Below.refl _ w).alloc (Nat.le_refl _) _).alloc (by simp) _
  have q2 : ((w.alloc (.cells #[.int .i64 f, .int .i64 n, .slice a m c] 45)).alloc (.cells #[.int .i64 0, .int .i64 0, .slice none 0 0] 48)).heap[w.heap.size + 1]? = some (.cells #[.int .i64 0, .int .i64 0, .slice none 0 0] 48 (0, 0)) := by
    have := heap_alloc_new (w.alloc (.cells #[.int .i64 f, .int .i64 n, .slice a m c] 45)) (.cells #[.int .i64 0, .int .i64 0, .slice none 0 0] 48)
    simpa using this
  have Q2 : Hid _ := q2
  have BA : Hid _ := bA
  clear q2 bA
  go_enter Try.func16, Try.ntmps16
  go_wp2_with (first
    | (refine wpList_buildTo rfl 48 _ rfl (some 9) rfl #[.int .i64 f, .int .i64 n, .slice a m c] (by kernel_rfl) ?_)
    | (refine wpList_store_row rfl 48 (.tmp 2) (.tmp 9) rfl (w.heap.size + 1) #[.int .i64 f, .int .i64 n, .slice a m c] rfl rfl 48 _ Q2.out (by kernel_rfl) rfl (by simp [Value.oneCell']) ?_))
  exact bodyPost_ret (results_cell_row rfl _ _ (w.heap.size + 1) 48 _ _ _ rfl (setRow_heap _ _ _ _ _ _ Q2.out) Try.underlying48 rfl (by kernel_rfl)) rfl ⟨rfl, rowN_below BA.out (by omega)⟩
set_option maxRecDepth 100000 in
set_option maxHeartbeats 4000000 in
theorem sameN_any (f n : Int) (a1 a2 : Option Addr) (c1 c2 : Nat) (b : List (BitVec 8)) (w : World) (h1 : Seen w a1 b.length b) (h2 : Seen w a2 b.length b) : Calls Try.prog 15 #[.agg #[.int .i64 f, .int .i64 n, .slice a1 b.length c1], .agg #[.int .i64 f, .int .i64 n, .slice a2 b.length c2]] w fun e w' => e = .returned (.bool true) ∧ Below w.heap.size w w' := by
  have bA : Below w.heap.size w ((w.alloc (.cells #[.int .i64 f, .int .i64 n, .slice a1 b.length c1] 48)).alloc (.cells #[.int .i64 f, .int .i64 n, .slice a2 b.length c2] 48)) := ((Below.refl _ w).alloc (Nat.le_refl _) _).alloc (by simp) _
  have t1 := run_to_text _ a1 b.length c1 b (h1.below bA)
  have t2 := run_to_text _ a2 b.length c2 b (h2.below bA)
  have t3 := text_self (textOf b)
  have BA : Hid _ := bA
  clear bA h1 h2
  go_enter Try.func15, Try.ntmps15
  go_wp2
  go_ret
  exact ⟨rfl, BA.out⟩
end Go.Proofs.Ytccmehbdnnelhaa

namespace Go.Proofs.Ytccmehbdnnelhaa
open Go.RowKit Go.Maps
set_option linter.unusedVariables false
def errT (k : Int) (m : Nat) : Int := if k < 0 ∨ (m : Int) ≤ k then 1 else 0
def errD (k : Int) (m : Nat) : Int := if k < 0 ∨ (m : Int) ≤ k then 1 else if 10000 ≤ m then 4 else 0
theorem errT_no {k : Int} {m : Nat} (h : k < 0 ∨ (m : Int) ≤ k) : errT k m = 1 := if_pos h
theorem errT_at {i m : Nat} (h : i < m) : errT (i : Int) m = 0 := if_neg (by omega)
theorem errD_no {k : Int} {m : Nat} (h : k < 0 ∨ (m : Int) ≤ k) : errD k m = 1 := if_pos h
theorem errD_full {i m : Nat} (h : i < m) (hf : 10000 ≤ m) : errD (i : Int) m = 4 := by unfold errD; rw [if_neg (by omega), if_pos hf]
theorem errD_ok {i m : Nat} (h : i < m) (hf : m < 10000) : errD (i : Int) m = 0 := by unfold errD; rw [if_neg (by omega), if_neg (by omega)]
/-- A letter of a list, by its number; the empty one if there is none. -/
def LetL (L : List Post) (k f n : Int) (b : List (BitVec 8)) : Prop := ((k < 0 ∨ (L.length : Int) ≤ k) ∧ f = 0 ∧ n = 0 ∧ b = []) ∨ ∃ (i : Nat) (hi : i < L.length), k = (i : Int) ∧ f = L[i].fr ∧ n = L[i].to ∧ b = L[i].b
def LetM (ms : List OpN) (k f n : Int) (b : List (BitVec 8)) : Prop := ((k < 0 ∨ (ms.length : Int) ≤ k) ∧ f = 0 ∧ n = 0 ∧ b = []) ∨ ∃ (i : Nat) (hi : i < ms.length), k = (i : Int) ∧ f = ms[i].f ∧ n = ms[i].n ∧ b = ms[i].b
theorem let_same {L : List Post} {ms : List OpN} (h : Twin L ms) {k f n f' n' : Int} {b b' : List (BitVec 8)} (h1 : LetL L k f n b) (h2 : LetM ms k f' n' b') : f = f' ∧ n = n' ∧ b = b' := by
  have el := h.1
  rcases h1 with ⟨g1, rfl, rfl, rfl⟩ | ⟨i, hi, rfl, rfl, rfl, rfl⟩
  · rcases h2 with ⟨_, rfl, rfl, rfl⟩ | ⟨j, hj, rfl, _⟩
    · exact ⟨rfl, rfl, rfl⟩
    · omega
  · rcases h2 with ⟨g2, _⟩ | ⟨j, hj, e, rfl, rfl, rfl⟩
    · omega
    · obtain rfl : i = j := by omega
      exact h.2 i hi hj
section
variable {w0 V w w1 w2 w3 : World} {base N R T : Nat} {L : List Post} {v : Value} {ms : List OpN}
def CutL (base N T : Nat) (L : List Post) (k : Int) (w w' : World) : Prop := ((k < 0 ∨ (L.length : Int) ≤ k) ∧ NetS w' base N L T ∧ NKeep base w w') ∨ ∃ (i : Nat) (_ : i < L.length), k = (i : Int) ∧ NetS w' base N (L.eraseIdx i) T ∧ NKeep base w w'
def CutM (base R : Nat) (ms : List OpN) (k : Int) (w w' : World) : Prop := ((k < 0 ∨ (ms.length : Int) ≤ k) ∧ (∃ v', RefIn w' base R v' ms) ∧ RKeep base w w') ∨ ∃ (i : Nat) (_ : i < ms.length), k = (i : Int) ∧ (∃ v', RefIn w' base R v' (ms.eraseIdx i)) ∧ RKeep base w w'
theorem CutL.keep {k : Int} (h : CutL base N T L k w w1) : NKeep base w w1 := by
  rcases h with ⟨_, _, h⟩ | ⟨_, _, _, _, h⟩ <;> exact h
theorem CutM.keep {k : Int} (h : CutM base R ms k w w1) : RKeep base w w1 := by
  rcases h with ⟨_, _, h⟩ | ⟨_, _, _, _, h⟩ <;> exact h
theorem takeD (h : NetS w base N L T) (k : Int) (hT : T ≤ 100000000000) : Calls Try.prog 13 #[.pointer (some ⟨N, 0, none⟩), .int .i64 k] w fun e w' =>
    ∃ f n a c b, e = .returned (.tuple #[.agg #[.int .i64 f, .int .i64 n, .slice a b.length c], .int .i64 (errT k L.length)]) ∧ OwnAt w.heap.size w' (.slice a b.length c) b ∧ LetL L k f n b ∧ CutL base N T L k w w' := by
  have sz := h.size
  refine (takeN h k hT).mono fun e w' q => ?_
  rcases q with ⟨hk, rfl, b⟩ | ⟨i, hi, v, rfl, rfl, o, hn, hk⟩
  · exact ⟨0, 0, none, 0, [], by rw [errT_no hk]; rfl, World.ownsRow_nil _ _ _ _, .inl ⟨hk, rfl, rfl, rfl⟩, .inl ⟨hk, h.below b, NKeep.of_below b sz⟩⟩
  · obtain ⟨a, c, rfl⟩ := o.form
    exact ⟨_, _, a, c, _, by rw [errT_at hi], o, .inr ⟨i, hi, rfl, rfl, rfl, rfl⟩, .inr ⟨i, hi, rfl, hn, hk⟩⟩
theorem rtakeD (h : RefIn w base R v ms) (k : Int) : Calls Try.prog 14 #[.pointer (some ⟨R, 0, none⟩), .int .i64 k] w fun e w' =>
    ∃ f n a c b, e = .returned (.tuple #[.agg #[.int .i64 f, .int .i64 n, .slice a b.length c], .int .i64 (errT k ms.length)]) ∧ DataAt w' (.slice a b.length c) b ∧ LetM ms k f n b ∧ CutM base R ms k w w' := by
  have sz : base ≤ w.heap.size := Nat.le_of_lt (Nat.lt_of_le_of_lt h.bR h.lt)
  refine (rtake_any h k).mono fun e w' q => ?_
  rcases q with ⟨hk, rfl, b⟩ | ⟨i, hi, rfl, rfl, v', hr, hk⟩
  · exact ⟨0, 0, none, 0, [], by rw [errT_no hk]; rfl, ⟨none, 0, rfl, ⟨rfl, by simp, .inl rfl⟩, fun _ => rfl, fun x e => by cases e⟩, .inl ⟨hk, rfl, rfl, rfl⟩, .inl ⟨hk, ⟨v, h.below b⟩, RKeep.of_below b sz⟩⟩
  · exact ⟨_, _, _, _, _, by rw [errT_at hi], dataAt_rk (h.dat _ (List.getElem_mem hi)) hk, .inr ⟨i, hi, rfl, rfl, rfl, rfl⟩, .inr ⟨i, hi, rfl, ⟨v', hr⟩, hk⟩⟩
theorem dropD (h : NetS w base N L T) (k : Int) (hT : T ≤ 100000000000) : Calls Try.prog 17 #[.pointer (some ⟨N, 0, none⟩), .int .i64 k] w fun e w' => e = .returned (.int .i64 (errT k L.length)) ∧ CutL base N T L k w w' := by
  have sz := h.size
  refine (dropN h k hT).mono fun e w' q => ?_
  rcases q with ⟨hk, rfl, b⟩ | ⟨i, hi, rfl, rfl, hn, hk⟩
  · exact ⟨by rw [errT_no hk], .inl ⟨hk, h.below b, NKeep.of_below b sz⟩⟩
  · exact ⟨by rw [errT_at hi], .inr ⟨i, hi, rfl, hn, hk⟩⟩
theorem lookD (h : NetS w base N L T) (k : Int) (hT : T ≤ 100000000000) : Calls Try.prog 21 #[.pointer (some ⟨N, 0, none⟩), .int .i64 k] w fun e w' =>
    ∃ f n a c b, e = .returned (.tuple #[.agg #[.int .i64 f, .int .i64 n, .slice a b.length c], .int .i64 (errT k L.length)]) ∧ OwnAt w.heap.size w' (.slice a b.length c) b ∧ LetL L k f n b ∧ Below w.heap.size w w' := by
  refine (lookN h k hT).mono fun e w' q => ?_
  obtain ⟨q, b⟩ := q
  rcases q with ⟨hk, rfl⟩ | ⟨i, hi, v, rfl, rfl, o⟩
  · exact ⟨0, 0, none, 0, [], by rw [errT_no hk]; rfl, World.ownsRow_nil _ _ _ _, .inl ⟨hk, rfl, rfl, rfl⟩, b⟩
  · obtain ⟨a, c, rfl⟩ := o.form
    exact ⟨_, _, a, c, _, by rw [errT_at hi], o, .inr ⟨i, hi, rfl, rfl, rfl, rfl⟩, b⟩
theorem rlookD (h : RefIn w base R v ms) (k : Int) : Calls Try.prog 22 #[.pointer (some ⟨R, 0, none⟩), .int .i64 k] w fun e w' =>
    ∃ f n a c b, e = .returned (.tuple #[.agg #[.int .i64 f, .int .i64 n, .slice a b.length c], .int .i64 (errT k ms.length)]) ∧ DataAt w' (.slice a b.length c) b ∧ LetM ms k f n b ∧ Below w.heap.size w w' := by
  refine (rlook_any h k).mono fun e w' q => ?_
  obtain ⟨q, b⟩ := q
  rcases q with ⟨hk, rfl⟩ | ⟨i, hi, rfl, rfl⟩
  · exact ⟨0, 0, none, 0, [], by rw [errT_no hk]; rfl, ⟨none, 0, rfl, ⟨rfl, by simp, .inl rfl⟩, fun _ => rfl, fun x e => by cases e⟩, .inl ⟨hk, rfl, rfl, rfl⟩, b⟩
  · exact ⟨_, _, _, _, _, by rw [errT_at hi], (h.dat _ (List.getElem_mem hi)).below b, .inr ⟨i, hi, rfl, rfl, rfl, rfl⟩, b⟩
def DblL (base N T : Nat) (L : List Post) (k : Int) (w w' : World) : Prop := (errD k L.length ≠ 0 ∧ NetS w' base N L T ∧ NKeep base w w') ∨ (errD k L.length = 0 ∧ ∃ (i : Nat) (hi : i < L.length), k = (i : Int) ∧ NetS w' base N (L ++ [⟨L[i].fr, L[i].to, L[i].dv, L[i].b, T⟩]) (T + 1) ∧ NKeep base w w')
def DblM (base R : Nat) (ms : List OpN) (k : Int) (w w' : World) : Prop := (errD k ms.length ≠ 0 ∧ (∃ v', RefIn w' base R v' ms) ∧ RKeep base w w') ∨ (errD k ms.length = 0 ∧ ∃ (i : Nat) (hi : i < ms.length), k = (i : Int) ∧ (∃ v', RefIn w' base R v' (ms ++ [ms[i]])) ∧ RKeep base w w')
theorem DblL.keep {k : Int} (h : DblL base N T L k w w1) : NKeep base w w1 := by
  rcases h with ⟨_, _, h⟩ | ⟨_, _, _, _, _, h⟩ <;> exact h
theorem DblM.keep {k : Int} (h : DblM base R ms k w w1) : RKeep base w w1 := by
  rcases h with ⟨_, _, h⟩ | ⟨_, _, _, _, _, h⟩ <;> exact h
theorem doubleD (h : NetS w base N L T) (k : Int) (hT : T ≤ 100000000000) : Calls Try.prog 18 #[.pointer (some ⟨N, 0, none⟩), .int .i64 k] w fun e w' => e = .returned (.int .i64 (errD k L.length)) ∧ DblL base N T L k w w' := by
  have sz := h.size
  refine (doubleN h k hT).mono fun e w' q => ?_
  rcases q with ⟨hk, rfl, b⟩ | ⟨i, hi, rfl, ⟨hf, rfl, b⟩ | ⟨hl, rfl, hn, hk⟩⟩
  · exact ⟨by rw [errD_no hk], .inl ⟨by rw [errD_no hk]; decide, h.below b, NKeep.of_below b sz⟩⟩
  · exact ⟨by rw [errD_full hi hf], .inl ⟨by rw [errD_full hi hf]; decide, h.below b, NKeep.of_below b sz⟩⟩
  · exact ⟨by rw [errD_ok hi hl], .inr ⟨errD_ok hi hl, i, hi, rfl, hn, hk⟩⟩
theorem rdoubleD (h : RefIn w base R v ms) (k : Int) : Calls Try.prog 19 #[.pointer (some ⟨R, 0, none⟩), .int .i64 k] w fun e w' => e = .returned (.int .i64 (errD k ms.length)) ∧ DblM base R ms k w w' := by
  have sz : base ≤ w.heap.size := Nat.le_of_lt (Nat.lt_of_le_of_lt h.bR h.lt)
  refine (rdouble_any h k).mono fun e w' q => ?_
  rcases q with ⟨hk, rfl, b⟩ | ⟨i, hi, rfl, ⟨hf, rfl, b⟩ | ⟨hl, rfl, v', hr, hk⟩⟩
  · exact ⟨by rw [errD_no hk], .inl ⟨by rw [errD_no hk]; decide, ⟨v, h.below b⟩, RKeep.of_below b sz⟩⟩
  · exact ⟨by rw [errD_full hi hf], .inl ⟨by rw [errD_full hi hf]; decide, ⟨v, h.below b⟩, RKeep.of_below b sz⟩⟩
  · exact ⟨by rw [errD_ok hi hl], .inr ⟨errD_ok hi hl, i, hi, rfl, ⟨v', hr⟩, hk⟩⟩
/-- Both lost one, or neither. -/
theorem du_cut {k : Int} (hV : Du w0 V N R T L ms) (c1 : CutL w0.heap.size N T L k V w1) (c2 : CutM w0.heap.size R ms k w1 w2) : ∃ L' ms', Du w0 w2 N R T L' ms' ∧ (∀ p ∈ L', p ∈ L) ∧ (∀ q ∈ ms', q ∈ ms) := by
  have el := hV.tw.1
  rcases c1 with ⟨g1, n1, k1⟩ | ⟨i, hi, rfl, n1, k1⟩
  · rcases c2 with ⟨g2, ⟨v2, r2⟩, k2⟩ | ⟨j, hj, e, _⟩
    · exact ⟨L, ms, ⟨n1.rk k2, ⟨v2, r2⟩, hV.tw, (hV.bel.trans k1.1).trans k2.1⟩, fun _ h => h, fun _ h => h⟩
    · omega
  · rcases c2 with ⟨g2, _⟩ | ⟨j, hj, e, ⟨v2, r2⟩, k2⟩
    · omega
    · obtain rfl : i = j := by omega
      exact ⟨_, _, du_erase hV n1 k1 r2 k2, fun p hp => List.mem_of_mem_eraseIdx hp, fun p hp => List.mem_of_mem_eraseIdx hp⟩
/-- The other order: the reference first. -/
theorem du_cut2 {k : Int} (hV : Du w0 V N R T L ms) (c1 : CutM w0.heap.size R ms k V w1) (c2 : CutL w0.heap.size N T L k w1 w2) : ∃ L' ms', Du w0 w2 N R T L' ms' := by
  have el := hV.tw.1
  rcases c1 with ⟨g1, ⟨v1, r1⟩, k1⟩ | ⟨i, hi, rfl, ⟨v1, r1⟩, k1⟩
  · rcases c2 with ⟨g2, n2, k2⟩ | ⟨j, hj, e, _⟩
    · exact ⟨L, ms, n2, ⟨v1, r1.nk k2⟩, hV.tw, (hV.bel.trans k1.1).trans k2.1⟩
    · omega
  · rcases c2 with ⟨g2, _⟩ | ⟨j, hj, e, n2, k2⟩
    · omega
    · obtain rfl : i = j := by omega
      exact ⟨_, _, n2, ⟨v1, r1.nk k2⟩, hV.tw.erase i, (hV.bel.trans k1.1).trans k2.1⟩
theorem du_dbl {k : Int} (hV : Du w0 V N R T L ms) (c1 : DblL w0.heap.size N T L k V w1) (c2 : DblM w0.heap.size R ms k w1 w2) : ∃ L' ms' T', T' ≤ T + 1 ∧ Du w0 w2 N R T' L' ms' := by
  have el := hV.tw.1
  rcases c1 with ⟨g1, n1, k1⟩ | ⟨g1, i, hi, rfl, n1, k1⟩
  · rcases c2 with ⟨g2, ⟨v2, r2⟩, k2⟩ | ⟨g2, _⟩
    · exact ⟨L, ms, T, by omega, n1.rk k2, ⟨v2, r2⟩, hV.tw, (hV.bel.trans k1.1).trans k2.1⟩
    · rw [el] at g1; exact absurd g2 g1
  · rcases c2 with ⟨g2, _⟩ | ⟨g2, j, hj, e, ⟨v2, r2⟩, k2⟩
    · rw [el] at g1; exact absurd g1 g2
    · obtain rfl : i = j := by omega
      obtain ⟨e1, e2, e3⟩ := hV.tw.2 i hi hj
      exact ⟨_, _, T + 1, Nat.le_refl _, n1.rk k2, ⟨v2, r2⟩, hV.tw.more e1 e2 e3, (hV.bel.trans k1.1).trans k2.1⟩
end
end Go.Proofs.Ytccmehbdnnelhaa
