/- Package mover: the function that Asks answers, as an iterator; the law's list. -/
import Derived.Test.YtfnjlnlmodhahaaMLin
namespace Go.Proofs.Ytfnjlnlmodhahaa
open Go.RowKit Go.Shelf
attribute [local go_sem] Oper.semAt_some
set_option linter.unusedVariables false

abbrev encA (x : AskV) : Array Value := #[.agg (AskV.cells x).toArray]
def AnyK (_ _ : World) : Prop := True
/-- What is handed on. -/
def RM (o : Option PAsk) (base : Nat) (pre : List AskV) (x : AskV) (W : World) : Prop := pre = [] ∧ ∃ p v, o = some p ∧ x = p.v v ∧ W.ownsRow base 5 1 v p.l.length (cellsOf p.l)
def SM (o : Option PAsk) (xs : List AskV) : Prop := (o = none ∧ xs = []) ∨ ∃ p v, o = some p ∧ xs = [p.v v]
set_option maxRecDepth 100000 in
set_option maxHeartbeats 1600000 in
theorem masks2_in (n L Bi Ba base : Nat) (o : Option PAsk) (J Jx : List AskV → World → Prop) (W : World) (hb : base ≤ W.heap.size) (hJ : UpB J)
    (hY : ∀ pre x W1, J pre W1 → RM o base pre x W1 → YieldAt Fence.wide (n - 1) Try.prog L (encA x) W1 fun e W' => KeepsFrom W.heap.size W1 W' ∧
      ((e = .returned (.bool true) ∧ J (pre ++ [x]) W' ∧ AnyK W1 W') ∨ (e = .returned (.bool false) ∧ Jx (pre ++ [x]) W')))
    (hf : AskFn W Bi Ba o) (h0 : J [] W) :
    CallsIn Fence.wide n Try.prog 30 #[.func (.yield L) #[] #[], .pointer (some ⟨Bi, 0, none⟩), .pointer (some ⟨Ba, 0, none⟩)] W fun e W' => (∃ v, e = .returned v) ∧
      ((∃ xs, SM o xs ∧ J xs W') ∨ (∃ pre, True ∧ Jx pre W')) := by
  have c1 : W.cell? ⟨Bi, 0, none⟩ = some (.bool o.isSome) := by simp only [World.cell?, hf.bi]; rfl
  cases ho : o with
  | none =>
    rw [ho] at c1
    have H0 : Hid (J [] W) := h0
    clear hY h0 hf
    refine callsIn_of_wp Try.func30 rfl trivial ?_ rfl
    simp only [Try.ntmps30, List.size_toArray, List.length_cons, List.length_nil, Nat.reduceAdd, Nat.reduceSub, Array.replicate_succ, Array.replicate_zero, List.push_toArray, List.append_toArray, List.nil_append, List.cons_append]
    gi_wp2
    go_end0
    exact ⟨⟨_, rfl⟩, .inl ⟨[], .inl ⟨rfl, rfl⟩, H0.out⟩⟩
  | some p =>
    rw [ho] at c1
    obtain ⟨pa, pc, h1, h2, h3, h4⟩ := hf.ba p ho
    have HC := ownAsk_any (p.v (.slice pa p.l.length pc)) pa p.l.length pc p.l W rfl h2 h3 (by omega)
    have hwd : ∀ v, withData (p.v (.slice pa p.l.length pc)) v = p.v v := fun v => rfl
    simp only [hwd] at HC
    have hsz : (Try.prog.info? 37).map (·.size) = some (AskV.cells (p.v (.slice pa p.l.length pc))).toArray.size := by kernel_rfl
    have HY : Hid (∀ v W1, J [] W1 → W1.ownsRow base 5 1 v p.l.length (cellsOf p.l) → YieldAt Fence.wide (n - 1) Try.prog L (encA (p.v v)) W1 fun e W' => KeepsFrom W.heap.size W1 W' ∧
      ((e = .returned (.bool true) ∧ J ([] ++ [p.v v]) W' ∧ AnyK W1 W') ∨ (e = .returned (.bool false) ∧ Jx ([] ++ [p.v v]) W'))) := fun v W1 a b => hY [] (p.v v) W1 a ⟨rfl, p, v, ho, rfl, b⟩
    have H0 : Hid (J [] W) := h0
    have HJ : Hid (UpB J) := hJ
    have HB : Hid (base ≤ W.heap.size) := hb
    clear hY h0 hf h2 h3 h4 hwd hJ hb
    generalize (AskV.cells (p.v (.slice pa p.l.length pc))) = C at *
    have H1 : Hid _ := h1
    have HS : Hid _ := hsz
    clear h1 hsz
    refine callsIn_of_wp Try.func30 rfl trivial ?_ rfl
    simp only [Try.ntmps30, List.size_toArray, List.length_cons, List.length_nil, Nat.reduceAdd, Nat.reduceSub, Array.replicate_succ, Array.replicate_zero, List.push_toArray, List.append_toArray, List.nil_append, List.cons_append]
    gi_wp2_with (first | (refine listIn_row 37 (.tmp 2) Ba 37 _ (0, 0) _ rfl rfl rfl H1.out Try.underlying37 rfl HS.out ?_))
    refine ⟨trivial, wide_room _, (callsIn_wide.2 HC).mono ?_⟩
    rintro e W2 ⟨v, rfl, o2, b2⟩
    clear HC
    have o3 : W2.ownsRow base 5 1 v p.l.length (cellsOf p.l) := ⟨o2.1, o2.2.imp id (fun ⟨g, cp, cur, e1, e2, e3⟩ => ⟨g, cp, cur, e1, Nat.le_trans HB.out e2, e3⟩)⟩
    obtain ⟨fn, tmps, assign, body, hyy, hR⟩ := HY.out v W2 (HJ.out _ _ _ H0.out b2) o3
    dsimp only [encA] at hyy
    have hSM : SM (some p) [p.v v] := .inr ⟨p, v, rfl, rfl⟩
    have HSM : Hid _ := hSM
    clear o2 o3 b2 HY H0 HJ HB hSM H1 HS
    generalize AskV.cells (p.v v) = C3 at *
    gi_wp2
    refine ⟨wide_room _, hR.mono ?_⟩
    rintro e W3 ⟨hkf, (⟨rfl, hJ3, hk3⟩ | ⟨rfl, hJx3⟩)⟩
    · gi_wp2
      go_end0
      exact ⟨⟨_, rfl⟩, .inl ⟨_, HSM.out, hJ3⟩⟩
    · gi_wp2
      go_end0
      exact ⟨⟨_, rfl⟩, .inr ⟨_, trivial, hJx3⟩⟩
theorem masks2_seq (n Bi Ba : Nat) (o : Option PAsk) (w : World) (hf : AskFn w Bi Ba o) :
    SeqV n Try.prog 30 #[.pointer (some ⟨Bi, 0, none⟩), .pointer (some ⟨Ba, 0, none⟩)] encA AnyK (RM o w.heap.size) (SM o) (fun _ => True) w := fun L J Jx W hW hJ hJx pJ pJx hY h0 =>
  masks2_in n L Bi Ba w.heap.size o J Jx W hW.size hJ hY (hf.below hW) h0
end Go.Proofs.Ytfnjlnlmodhahaa
