/- MoverSends: what is asked and told, plainly; the row of all pieces. -/
import Derived.Test.YtcmhkeaimgppgaaGaF
import Derived.Test.YtcmhkeaimgppgaaMSr18
namespace Go.Proofs.Ytcmhkeaimgppgaa
open Go.RowKit Go.Shelf
set_option linter.unusedVariables false

def XS : MvD := ⟨3, 1, 2, 4, 2, 7⟩
def K0 : MD := ⟨7, false, [], 0⟩
def KS (l : List (BitVec 8)) (k : Nat) : MD := ⟨7, true, l, k⟩
def endS (l : List (BitVec 8)) (k : Nat) : Nat := if l.length < k + 1000 then l.length else k + 1000
theorem f1 : knowM MD.zero XS = K0 := by simp [knowM, XS, MD.zero, K0]
theorem f2 : askP K0 XS = some ⟨1, 8, 3, 4, 0, false, []⟩ := rfl
theorem f3 (ua : Option Addr) (uc : Nat) (da : Option Addr) (dc : Nat) (l : List (BitVec 8)) : toldM K0 XS ⟨1, 8, 3, 4, 0, false, ua, 0, uc⟩ ⟨0, false, 0, 0, .slice none 0 0, da, dc, l⟩ = (KS l 0, false) := by
  simp [toldM, dutyG, dutiesL, XS, K0, knowM, learnQ, learnM, heldM, KS]
theorem f4 (l : List (BitVec 8)) (k : Nat) : knowM (KS l k) XS = KS l k := by simp [knowM, XS, KS]
theorem f5 (l : List (BitVec 8)) (k : Nat) : askP (KS l k) XS = some ⟨2, 9, 3, 4, k, decide (endS l k = l.length), (l.drop k).take (endS l k - k)⟩ := by
  unfold askP
  rw [if_neg (show ¬ XS.ph = 1 by simp [XS]), if_pos (show XS.ph = 2 from rfl), if_pos (show (KS l k).has = true from rfl)]
  rfl
theorem endS_ge (l : List (BitVec 8)) (k : Nat) (hk : k ≤ l.length) : k ≤ endS l k := by unfold endS; split <;> omega
theorem endS_le (l : List (BitVec 8)) (k : Nat) (hk : k ≤ l.length) : endS l k ≤ l.length := by unfold endS; split <;> omega
theorem endS_k (l : List (BitVec 8)) (k : Nat) : endS l k ≤ k + 1000 := by unfold endS; split <;> omega
theorem endS_len (l : List (BitVec 8)) (k : Nat) (hk : k ≤ l.length) : ((l.drop k).take (endS l k - k)).length = endS l k - k := by
  have := endS_le l k hk
  simp
  omega
theorem endS_app (l : List (BitVec 8)) (k : Nat) (hk : k ≤ l.length) : l.take k ++ (l.drop k).take (endS l k - k) = l.take (endS l k) := by
  have h1 := endS_ge l k hk
  have : endS l k = k + (endS l k - k) := by omega
  rw [this, List.take_add]
  congr 3
  omega
theorem f6 (l : List (BitVec 8)) (k : Nat) (hk : k ≤ l.length) (last : Bool) (ua : Option Addr) (uc : Nat) : toldM (KS l k) XS ⟨2, 9, 3, 4, k, last, ua, endS l k - k, uc⟩ R2 = (KS l (endS l k), last) := by
  have h1 := endS_ge l k hk
  have h2 := endS_le l k hk
  have e : (if l.length < k + (endS l k - k) then l.length else k + (endS l k - k)) = endS l k := by split <;> omega
  simp [toldM, dutyG, dutiesL, XS, KS, knowM, learnQ, learnM, installedM, R2, e]
theorem MvIn.sub {w : World} {b b' : Bs} {G : Nat} {M : MD} (h : MvIn w b G M) (hn : b'.n ≤ b.n) (hD : ∀ g, g < w.heap.size → b.D g → b'.D g) : MvIn w b' G M := by
  obtain ⟨a, c, h1, h2⟩ := h.ex
  exact ⟨⟨a, c, h1, ownsRow_low h2.1 hn, fun g e => hD g (row_kind h2.1 e).2.1 (h2.2 g e)⟩, Nat.le_trans hn h.bG, h.fits, h.len⟩
theorem MvIn.grown {w w' : World} {b : Bs} {G : Nat} {M : MD} {row : Option Nat} (h : MvIn w b G M) (hg : w.grownBy w' row) (hG : row ≠ some G) (hD : ∀ g, b.D g → row ≠ some g) : MvIn w' b G M := by
  obtain ⟨a, c, h1, h2⟩ := h.ex
  refine ⟨⟨a, c, (hg.block _ h.lt (fun e => hG e.symm)).trans h1, owns_kept h2.1 (fun g e => hg.block g (row_kind h2.1 e).2.1 (fun e2 => hD g (h2.2 g e) e2.symm)), h2.2⟩, h.bG, h.fits, h.len⟩
/-- append(v, a...), and where it lies then. -/
theorem run_append_bytes2 (ty : TypeId) (w : World) (base : Nat) (v : Value) (n : Nat) (l : List (BitVec 8)) (hown : w.ownsRow base 5 1 v n (cellsOf l)) (aa : Option Addr) (la ca : Nat) (A : List (BitVec 8)) (hA : Seen w aa la A) (hnil : aa = none → ca = 0)
    (hb : n + la ≤ 140737488355328) (hbase : base ≤ w.heap.size) :
    ∃ v' w', (Builtin.append_ #[26, 26] ty #[v, .slice aa la ca]).run Try.prog w = .ok v' w' ∧ w'.ownsRow base 5 1 v' (n + la) (cellsOf (l ++ A)) ∧ w.grownBy w' v.ownBlock ∧ (v'.ownBlock = v.ownBlock ∨ v'.ownBlock = some w.heap.size) := by
  obtain ⟨i0, hi, hz0, hz1, hz2⟩ := info_parts info5
  cases aa with
  | none =>
    obtain ⟨h1, h2, h3⟩ := hA
    have hla : la = 0 := by
      rcases h3 with h3 | ⟨b, off, h, _⟩
      · exact h3
      · cases h
    subst hla
    have hAn : A = [] := List.eq_nil_of_length_eq_zero h1.symm
    subst hAn
    rw [hnil rfl]
    have hr := run_append_owned_none (P := Try.prog) (w := w) base 26 ty 5 i0 1 Try.underlying26 hi v n _ hown
    refine ⟨v, w, hr, by simpa using hown, ⟨rfl, rfl, rfl, Nat.le_refl _, fun _ _ _ => rfl⟩, .inl rfl⟩
  | some x =>
    obtain ⟨v', Z, hr, q1, q2, _, q4⟩ := run_append_own_at (P := Try.prog) w base 26 ty 5 i0 (.int .u8 0) 1 1 Try.underlying26 hi hz0 hz1 hz2 rfl (by omega) v n (cellsOf l) hown x la ca (cellsOf A) (by rw [cellsOf_length, hA.1]; omega) (append_news hA x rfl) (one_cells' A) (by unfold maxLen; omega) (by omega) hbase
    exact ⟨v', Z, hr, by rw [cellsOf_append]; exact q1, q2, q4⟩
end Go.Proofs.Ytcmhkeaimgppgaa

namespace Go.Proofs.Ytcmhkeaimgppgaa
open Go.RowKit Go.Shelf
attribute [local go_sem] Oper.semAt_some
set_option linter.unusedVariables false

/-- The reference's mover in memory. -/
structure RvIn (w : World) (base : Bs) (G : Nat) (M : MD) : Prop where
  ex : ∃ a c, w.heap[G]? = some (.cells #[.int .i64 M.n, .bool M.has, .slice a M.d.length c, .int .i64 M.at_] 28 (0, 0)) ∧ OwnB w base (.slice a M.d.length c) M.d.length (cellsOf M.d)
  bG : base.n ≤ G
  fits : M.at_ ≤ M.d.length
  len : M.d.length ≤ 140737488351232
section
variable {w w' : World} {base : Bs} {G : Nat} {M : MD}
theorem RvIn.lt (h : RvIn w base G M) : G < w.heap.size := by obtain ⟨a, c, h1, _⟩ := h.ex; exact (Array.getElem?_eq_some_iff.1 h1).1
theorem RvIn.kept (h : RvIn w base G M) (k : ∀ g, g < w.heap.size → w'.heap[g]? = w.heap[g]?) : RvIn w' base G M := by
  obtain ⟨a, c, h1, h2⟩ := h.ex
  exact ⟨⟨a, c, (k _ h.lt).trans h1, owns_kept h2.1 (fun g e => k g (row_kind h2.1 e).2.1), h2.2⟩, h.bG, h.fits, h.len⟩
theorem RvIn.below (h : RvIn w base G M) (b : Below w.heap.size w w') : RvIn w' base G M := h.kept (fun g hg => b.block g hg)
theorem RvIn.alloc (h : RvIn w base G M) (o : Obj) : RvIn (w.alloc o) base G M := h.below ((Below.refl _ w).alloc (Nat.le_refl _) o)
theorem RvIn.drewN (h : RvIn w base G M) (q : Nat) : RvIn (w.drewN q) base G M := ⟨h.ex, h.bG, h.fits, h.len⟩
/-- Another block is changed that is no block of bytes. -/
theorem RvIn.other (h : RvIn w base G M) {Q : Nat} {o : Obj} (hQ : Q ≠ G) (ho : w.heap[Q]? = some o) (hn : ∀ cur z, o ≠ .cells cur 5 z) (k : ∀ g, g ≠ Q → g < w.heap.size → w'.heap[g]? = w.heap[g]?) : RvIn w' base G M := by
  obtain ⟨a, c, h1, h2⟩ := h.ex
  refine ⟨⟨a, c, (k _ (Ne.symm hQ) h.lt).trans h1, owns_kept h2.1 (fun g e => ?_), h2.2⟩, h.bG, h.fits, h.len⟩
  obtain ⟨_, hl, cur, hc⟩ := row_kind h2.1 e
  refine k g (fun e2 => ?_) hl
  subst e2
  rw [ho] at hc
  injection hc with hc
  exact hn _ _ hc
/-- Its own block is another row. -/
theorem RvIn.row (h : RvIn w base G M) (M' : MD) {a : Option Addr} {c : Nat} (hg : w'.heap[G]? = some (.cells #[.int .i64 M'.n, .bool M'.has, .slice a M'.d.length c, .int .i64 M'.at_] 28 (0, 0))) (ho : OwnB w' base (.slice a M'.d.length c) M'.d.length (cellsOf M'.d)) (hf : M'.at_ ≤ M'.d.length) (hl : M'.d.length ≤ 140737488351232) : RvIn w' base G M' :=
  ⟨⟨a, c, hg, ho⟩, h.bG, hf, hl⟩
theorem RvIn.zero (h : RvIn w base G M) (n : Int) (hg : w'.heap[G]? = some (.cells #[.int .i64 n, .bool false, .slice none 0 0, .int .i64 0] 28 (0, 0))) : RvIn w' base G { MD.zero with n := n } :=
  ⟨⟨none, 0, hg, OwnB.nil _ _⟩, h.bG, Nat.le_refl _, by simp [MD.zero]⟩
end
theorem rset_at {w : World} {base : Bs} {G : Nat} {M : MD} (h : RvIn w base G M) (nq k : Nat) (hk : k ≤ M.d.length) : RvIn ((w.drewN nq).setCell ⟨G, 3, none⟩ (.int .i64 (k : Int))) base G ⟨M.n, M.has, M.d, k⟩ := by
  obtain ⟨a, c, g1, w1⟩ := h.ex
  have g2 : (w.drewN nq).heap[G]? = _ := g1
  have w2 : (w.drewN nq).ownsRow base.n 5 1 (.slice a M.d.length c) M.d.length (cellsOf M.d) := w1.1
  rw [setCell_eq_setRow (w.drewN nq) G 3 _ _ _ _ g2]
  refine ⟨⟨a, c, setRow_self g2, owns_kept w2 (fun g e => setRow_other _ _ _ _ ?_), w1.2⟩, h.bG, hk, h.len⟩
  rintro rfl
  obtain ⟨_, _, cur, hc⟩ := row_kind w2 e
  rw [g2] at hc
  injection hc with hc
  injection hc with _ hc
  exact absurd hc (by decide)
theorem RvIn.sub {w : World} {b b' : Bs} {G : Nat} {M : MD} (h : RvIn w b G M) (hn : b'.n ≤ b.n) (hD : ∀ g, g < w.heap.size → b.D g → b'.D g) : RvIn w b' G M := by
  obtain ⟨a, c, h1, h2⟩ := h.ex
  exact ⟨⟨a, c, h1, ownsRow_low h2.1 hn, fun g e => hD g (row_kind h2.1 e).2.1 (h2.2 g e)⟩, Nat.le_trans hn h.bG, h.fits, h.len⟩
theorem RvIn.grown {w w' : World} {b : Bs} {G : Nat} {M : MD} {row : Option Nat} (h : RvIn w b G M) (hg : w.grownBy w' row) (hG : row ≠ some G) (hD : ∀ g, b.D g → row ≠ some g) : RvIn w' b G M := by
  obtain ⟨a, c, h1, h2⟩ := h.ex
  refine ⟨⟨a, c, (hg.block _ h.lt (fun e => hG e.symm)).trans h1, owns_kept h2.1 (fun g e => hg.block g (row_kind h2.1 e).2.1 (fun e2 => hD g (h2.2 g e) e2.symm)), h2.2⟩, h.bG, h.fits, h.len⟩
def rknowM (R : MD) (x : MvD) : MD := if R.n = x.n ∧ x.ph ≠ 0 then R else ⟨x.n, false, [], 0⟩
def toldR (R : MD) (x : MvD) (q : AskI) (r : ResD) : MD × Bool :=
  match dutyG x q.kind with
  | none => (rknowM R x, false)
  | some g => if q.g = g ∧ q.slot = x.slot ∧ q.ep = x.ep then learnQ (rknowM R x) x q r else (rknowM R x, false)
/-- Both movers are alike. -/
structure Sim (M R : MD) : Prop where
  has : M.has = R.has
  d : M.d = R.d
  at_ : M.at_ = R.at_
  n : M.n = R.n ∨ (M.has = false ∧ M.d = [] ∧ M.at_ = 0)
theorem Sim.zero : Sim MD.zero MD.zero := ⟨rfl, rfl, rfl, .inl rfl⟩
theorem Sim.know {M R : MD} (h : Sim M R) (x : MvD) : Sim (knowM M x) (rknowM R x) ∧ (x.ph ≠ 0 → knowM M x = rknowM R x) := by
  obtain ⟨mn, mh, md, ma⟩ := M
  obtain ⟨rn, rh, rd, ra⟩ := R
  obtain ⟨h1, h2, h3, h4⟩ := h
  dsimp only at *
  subst h1 h2 h3
  unfold knowM rknowM
  by_cases hp : x.ph = 0
  · rw [if_pos hp, if_neg (fun e => e.2 hp)]
    exact ⟨⟨rfl, rfl, rfl, .inr ⟨rfl, rfl, rfl⟩⟩, fun e => absurd hp e⟩
  · rw [if_neg hp]
    dsimp only
    rcases h4 with h4 | ⟨h4, h5, h6⟩
    · subst h4
      by_cases hn : x.n = mn
      · rw [if_pos hn, if_pos ⟨hn.symm, hp⟩]
        exact ⟨⟨rfl, rfl, rfl, .inl rfl⟩, fun _ => rfl⟩
      · rw [if_neg hn, if_neg (fun e => hn e.1.symm)]
        exact ⟨⟨rfl, rfl, rfl, .inl rfl⟩, fun _ => rfl⟩
    · subst h4 h5 h6
      by_cases hn : x.n = mn
      · rw [if_pos hn]
        by_cases hr : rn = x.n
        · rw [if_pos ⟨hr, hp⟩]
          subst hn hr
          exact ⟨⟨rfl, rfl, rfl, .inl rfl⟩, fun _ => rfl⟩
        · rw [if_neg (fun e => hr e.1)]
          subst hn
          exact ⟨⟨rfl, rfl, rfl, .inl rfl⟩, fun _ => rfl⟩
      · rw [if_neg hn]
        by_cases hr : rn = x.n
        · rw [if_pos ⟨hr, hp⟩]
          subst hr
          exact ⟨⟨rfl, rfl, rfl, .inl rfl⟩, fun _ => rfl⟩
        · rw [if_neg (fun e => hr e.1)]
          exact ⟨⟨rfl, rfl, rfl, .inl rfl⟩, fun _ => rfl⟩
theorem Sim.ask {M R : MD} (h : Sim M R) (x : MvD) : askP M x = askP R x := by
  obtain ⟨mn, mh, md, ma⟩ := M
  obtain ⟨rn, rh, rd, ra⟩ := R
  obtain ⟨h1, h2, h3, _⟩ := h
  dsimp only at *
  subst h1 h2 h3
  rfl
theorem duty_idle {x : MvD} (h : x.ph = 0) (k : Int) : dutyG x k = none := by
  unfold dutyG dutiesL
  rw [if_neg (by rw [h]; decide), if_neg (by rw [h]; decide), if_neg (by rw [h]; decide)]
  rfl
theorem Sim.told {M R : MD} (h : Sim M R) (x : MvD) (q : AskI) (r : ResD) : Sim (toldM M x q r).1 (toldR R x q r).1 ∧ (toldM M x q r).2 = (toldR R x q r).2 := by
  obtain ⟨h1, h2⟩ := h.know x
  by_cases hp : x.ph = 0
  · unfold toldM toldR
    rw [duty_idle hp]
    exact ⟨h1, rfl⟩
  · have e := h2 hp
    have e2 : toldM M x q r = toldR R x q r := by unfold toldM toldR; rw [e]; cases dutyG x q.kind <;> rfl
    rw [e2]
    exact ⟨⟨rfl, rfl, rfl, .inl rfl⟩, rfl⟩
end Go.Proofs.Ytcmhkeaimgppgaa

namespace Go.Proofs.Ytcmhkeaimgppgaa
open Go.RowKit Go.Shelf
attribute [local go_sem] Oper.semAt_some
set_option linter.unusedVariables false

theorem rcount_any {w : World} {base : Bs} {G : Nat} {R : MD} (h : RvIn w base G R) : Calls Try.prog 18 #[.pointer (some ⟨G, 0, none⟩)] w fun e w' => e = .returned (.int .i64 (if R.has = true then (R.d.length : Int) else -1)) ∧ w' = w := by
  obtain ⟨a, c, h1, _⟩ := h.ex
  have c1 : w.cell? ⟨G, 1, none⟩ = some (.bool R.has) := by simp [World.cell?, h1]
  have c2 : w.cell? ⟨G, 2, none⟩ = some (.slice a R.d.length c) := by simp [World.cell?, h1]
  clear h h1
  obtain ⟨n, has, d, at_⟩ := R
  dsimp only at c1 c2 ⊢
  generalize d.length = k at *
  go_enter Try.func18, Try.ntmps18
  cases has
  · go_wp2
    go_ret
    exact ⟨rfl, rfl⟩
  · go_wp2
    go_ret
    exact ⟨rfl, rfl⟩
set_option maxRecDepth 100000 in
set_option maxHeartbeats 1600000 in
theorem rknow_any {w : World} {base : Bs} {G : Nat} {R : MD} (h : RvIn w base G R) (x : MvD) : Calls Try.prog 22 #[.pointer (some ⟨G, 0, none⟩), .agg #[.int .i64 x.slot, .int .i64 x.fr, .int .i64 x.to, .int .i64 x.ep, .int .i64 x.ph, .int .i64 x.n]] w fun e w' => (∃ v, e = .returned v) ∧ RvIn w' base G (rknowM R x) ∧ OnlyR w w' G := by
  obtain ⟨sl, fr, to, ep, ph, n⟩ := x
  have hA := h.alloc (.cells #[.int .i64 sl, .int .i64 fr, .int .i64 to, .int .i64 ep, .int .i64 ph, .int .i64 n] 37)
  have hO := (OnlyR.refl w G).alloc (.cells #[.int .i64 sl, .int .i64 fr, .int .i64 to, .int .i64 ep, .int .i64 ph, .int .i64 n] 37)
  obtain ⟨a, c, g1, w1⟩ := hA.ex
  have h0 : ∀ (nq : Nat), ((w.alloc (.cells #[.int .i64 sl, .int .i64 fr, .int .i64 to, .int .i64 ep, .int .i64 ph, .int .i64 n] 37)).drewN nq).heap[G]? = some (.cells #[.int .i64 R.n, .bool R.has, .slice a R.d.length c, .int .i64 (R.at_ : Int)] 28 (0, 0)) := fun nq  => g1
  have z0 : ∀ (nq : Nat), ((w.alloc (.cells #[.int .i64 sl, .int .i64 fr, .int .i64 to, .int .i64 ep, .int .i64 ph, .int .i64 n] 37)).drewN nq).cell? ⟨G, 0, none⟩ = some (.int .i64 R.n) := fun nq  => by simp only [World.cell?, h0 nq ]; rfl
  have f0 : ∀ (nq : Nat), ((w.alloc (.cells #[.int .i64 sl, .int .i64 fr, .int .i64 to, .int .i64 ep, .int .i64 ph, .int .i64 n] 37)).drewN nq).frozen? ⟨G, 0, none⟩ = false := fun nq  => by simp only [World.frozen?, h0 nq ]; rfl
  have h1 : ∀ (nq : Nat) (v0 : Value), (((w.alloc (.cells #[.int .i64 sl, .int .i64 fr, .int .i64 to, .int .i64 ep, .int .i64 ph, .int .i64 n] 37)).drewN nq).setCell ⟨G, 0, none⟩ v0).heap[G]? = some (.cells #[v0, .bool R.has, .slice a R.d.length c, .int .i64 (R.at_ : Int)] 28 (0, 0)) := fun nq v0 => by rw [setCell_eq_setRow ((w.alloc (.cells #[.int .i64 sl, .int .i64 fr, .int .i64 to, .int .i64 ep, .int .i64 ph, .int .i64 n] 37)).drewN nq) G 0 _ _ _ _ (h0 nq )]; exact setRow_self (h0 nq )
  have z1 : ∀ (nq : Nat) (v0 : Value), (((w.alloc (.cells #[.int .i64 sl, .int .i64 fr, .int .i64 to, .int .i64 ep, .int .i64 ph, .int .i64 n] 37)).drewN nq).setCell ⟨G, 0, none⟩ v0).cell? ⟨G, 1, none⟩ = some (.bool R.has) := fun nq v0 => by simp only [World.cell?, h1 nq v0]; rfl
  have f1 : ∀ (nq : Nat) (v0 : Value), (((w.alloc (.cells #[.int .i64 sl, .int .i64 fr, .int .i64 to, .int .i64 ep, .int .i64 ph, .int .i64 n] 37)).drewN nq).setCell ⟨G, 0, none⟩ v0).frozen? ⟨G, 1, none⟩ = false := fun nq v0 => by simp only [World.frozen?, h1 nq v0]; rfl
  have h2 : ∀ (nq : Nat) (v0 v1 : Value), ((((w.alloc (.cells #[.int .i64 sl, .int .i64 fr, .int .i64 to, .int .i64 ep, .int .i64 ph, .int .i64 n] 37)).drewN nq).setCell ⟨G, 0, none⟩ v0).setCell ⟨G, 1, none⟩ v1).heap[G]? = some (.cells #[v0, v1, .slice a R.d.length c, .int .i64 (R.at_ : Int)] 28 (0, 0)) := fun nq v0 v1 => by rw [setCell_eq_setRow (((w.alloc (.cells #[.int .i64 sl, .int .i64 fr, .int .i64 to, .int .i64 ep, .int .i64 ph, .int .i64 n] 37)).drewN nq).setCell ⟨G, 0, none⟩ v0) G 1 _ _ _ _ (h1 nq v0)]; exact setRow_self (h1 nq v0)
  have z2 : ∀ (nq : Nat) (v0 v1 : Value), ((((w.alloc (.cells #[.int .i64 sl, .int .i64 fr, .int .i64 to, .int .i64 ep, .int .i64 ph, .int .i64 n] 37)).drewN nq).setCell ⟨G, 0, none⟩ v0).setCell ⟨G, 1, none⟩ v1).cell? ⟨G, 2, none⟩ = some (.slice a R.d.length c) := fun nq v0 v1 => by simp only [World.cell?, h2 nq v0 v1]; rfl
  have f2 : ∀ (nq : Nat) (v0 v1 : Value), ((((w.alloc (.cells #[.int .i64 sl, .int .i64 fr, .int .i64 to, .int .i64 ep, .int .i64 ph, .int .i64 n] 37)).drewN nq).setCell ⟨G, 0, none⟩ v0).setCell ⟨G, 1, none⟩ v1).frozen? ⟨G, 2, none⟩ = false := fun nq v0 v1 => by simp only [World.frozen?, h2 nq v0 v1]; rfl
  have h3 : ∀ (nq : Nat) (v0 v1 v2 : Value), (((((w.alloc (.cells #[.int .i64 sl, .int .i64 fr, .int .i64 to, .int .i64 ep, .int .i64 ph, .int .i64 n] 37)).drewN nq).setCell ⟨G, 0, none⟩ v0).setCell ⟨G, 1, none⟩ v1).setCell ⟨G, 2, none⟩ v2).heap[G]? = some (.cells #[v0, v1, v2, .int .i64 (R.at_ : Int)] 28 (0, 0)) := fun nq v0 v1 v2 => by rw [setCell_eq_setRow ((((w.alloc (.cells #[.int .i64 sl, .int .i64 fr, .int .i64 to, .int .i64 ep, .int .i64 ph, .int .i64 n] 37)).drewN nq).setCell ⟨G, 0, none⟩ v0).setCell ⟨G, 1, none⟩ v1) G 2 _ _ _ _ (h2 nq v0 v1)]; exact setRow_self (h2 nq v0 v1)
  have z3 : ∀ (nq : Nat) (v0 v1 v2 : Value), (((((w.alloc (.cells #[.int .i64 sl, .int .i64 fr, .int .i64 to, .int .i64 ep, .int .i64 ph, .int .i64 n] 37)).drewN nq).setCell ⟨G, 0, none⟩ v0).setCell ⟨G, 1, none⟩ v1).setCell ⟨G, 2, none⟩ v2).cell? ⟨G, 3, none⟩ = some (.int .i64 (R.at_ : Int)) := fun nq v0 v1 v2 => by simp only [World.cell?, h3 nq v0 v1 v2]; rfl
  have f3 : ∀ (nq : Nat) (v0 v1 v2 : Value), (((((w.alloc (.cells #[.int .i64 sl, .int .i64 fr, .int .i64 to, .int .i64 ep, .int .i64 ph, .int .i64 n] 37)).drewN nq).setCell ⟨G, 0, none⟩ v0).setCell ⟨G, 1, none⟩ v1).setCell ⟨G, 2, none⟩ v2).frozen? ⟨G, 3, none⟩ = false := fun nq v0 v1 v2 => by simp only [World.frozen?, h3 nq v0 v1 v2]; rfl
  have HZ : Hid (∀ nq, RvIn ((((((((w.alloc (.cells #[.int .i64 sl, .int .i64 fr, .int .i64 to, .int .i64 ep, .int .i64 ph, .int .i64 n] 37)).drewN nq).setCell ⟨G, 0, none⟩ (.int .i64 n)).setCell ⟨G, 1, none⟩ (.bool false)).setCell ⟨G, 2, none⟩ (.slice none 0 0))).setCell ⟨G, 3, none⟩ (.int .i64 0))) base G ⟨n, false, [], 0⟩ ∧ OnlyR w ((((((((w.alloc (.cells #[.int .i64 sl, .int .i64 fr, .int .i64 to, .int .i64 ep, .int .i64 ph, .int .i64 n] 37)).drewN nq).setCell ⟨G, 0, none⟩ (.int .i64 n)).setCell ⟨G, 1, none⟩ (.bool false)).setCell ⟨G, 2, none⟩ (.slice none 0 0))).setCell ⟨G, 3, none⟩ (.int .i64 0))) G) := fun nq => by
    refine ⟨hA.zero n ?_, ((((hO.drewN nq).set 0 _).set 1 _).set 2 _).set 3 _⟩
    rw [setCell_eq_setRow _ G 3 _ _ _ _ (h3 nq (.int .i64 n) (.bool false) (.slice none 0 0))]
    exact setRow_self (h3 nq (.int .i64 n) (.bool false) (.slice none 0 0))
  have y0 : (w.alloc (.cells #[.int .i64 sl, .int .i64 fr, .int .i64 to, .int .i64 ep, .int .i64 ph, .int .i64 n] 37)).cell? ⟨G, 0, none⟩ = some (.int .i64 R.n) := z0 0
  have HA : Hid (RvIn (w.alloc (.cells #[.int .i64 sl, .int .i64 fr, .int .i64 to, .int .i64 ep, .int .i64 ph, .int .i64 n] 37)) base G R) := hA
  have HO : Hid (OnlyR w (w.alloc (.cells #[.int .i64 sl, .int .i64 fr, .int .i64 to, .int .i64 ep, .int .i64 ph, .int .i64 n] 37)) G) := hO
  clear g1 w1 hA hO h h0 h1 h2 h3
  by_cases hn : R.n = n
  · have dn : (R.n != n) = false := by simpa using hn
    by_cases hp : ph = 0
    · have HE : Hid (rknowM R ⟨sl, fr, to, ep, ph, n⟩ = ⟨n, false, [], 0⟩) := by show _ = _; unfold rknowM; rw [if_neg (fun e => e.2 hp)]
      subst hp
      clear hn
      go_enter Try.func22, Try.ntmps22
      go_wp2
      go_quiet (fail)
      rename_i nq
      go_wp2
      go_end0
      exact ⟨⟨_, rfl⟩, by rw [HE.out]; exact (HZ.out nq).1, (HZ.out nq).2⟩
    · have dp : (ph == 0) = false := by simpa using hp
      have HE : Hid (rknowM R ⟨sl, fr, to, ep, ph, n⟩ = R) := by show _ = _; unfold rknowM; rw [if_pos ⟨hn, hp⟩]
      clear hn hp
      go_enter Try.func22, Try.ntmps22
      go_wp2
      go_quiet (fail)
      rename_i nq
      go_wp2
      go_end0
      exact ⟨⟨_, rfl⟩, by rw [HE.out]; exact HA.out.drewN nq, HO.out.drewN nq⟩
  · have dn : (R.n != n) = true := by simpa using hn
    have HE : Hid (rknowM R ⟨sl, fr, to, ep, ph, n⟩ = ⟨n, false, [], 0⟩) := by show _ = _; unfold rknowM; rw [if_neg (fun e => hn e.1)]
    clear hn
    go_enter Try.func22, Try.ntmps22
    go_wp2
    go_quiet (fail)
    rename_i nq
    go_wp2
    go_end0
    exact ⟨⟨_, rfl⟩, by rw [HE.out]; exact (HZ.out nq).1, (HZ.out nq).2⟩
end Go.Proofs.Ytcmhkeaimgppgaa
