/- Package journal: the ring, record behind record. -/
import Derived.Test.YtikpmaecbfebkaaDoorJKnL
namespace Go.Proofs.YtikpmaecbfebkaaDoor
open Go.RowKit Go.Shelf
set_option linter.unusedVariables false

/-- Nothing is right from a number on. -/
def Clear (d : DS) (fr sz nx : Nat) : Prop := ∀ s, nx ≤ s → ¬ rightP (atS d fr sz s) s
/-- From a number on these records stand, up to another number. -/
def Stand (d : DS) (fr sz st : Nat) : Nat → List (List (BitVec 8)) → Nat → Prop
  | s, [], e => s = e
  | s, b :: rs, e => ∃ m, recFrom d fr sz st s = some (b, m) ∧ Stand d fr sz st m rs e
theorem plc_turn (fr sz : Nat) {s : Nat} (q : Nat) (h : 1 ≤ s) : plc fr sz (s + q * sz) = plc fr sz s := by
  unfold plc
  rw [show s + q * sz - 1 = (s - 1) + q * sz by omega, Nat.add_mul_mod_self_right]
theorem appD_else {d : DS} {n fr sz nx : Nat} {b : List (BitVec 8)} (h : d.now.length = 256 * n) (hz : 1 ≤ sz) (hs : fr + sz ≤ n) {s : Nat} : ∀ k, (∀ i, i < k → plc fr sz (nx + i) ≠ plc fr sz s) → atS (appD fr sz nx b d k) fr sz s = atS d fr sz s
  | 0, _ => rfl
  | k + 1, hk => by
    have ih := appD_else (b := b) h hz hs (s := s) k (fun i hi => hk i (by omega))
    unfold atS at ih ⊢
    rw [← ih]
    exact read_wrote_ne (appD_length h hz hs k) (plc_lt hz hs) (secB_length (part_le _ _)) (hk k (by omega))
theorem clear_new (n fr sz nx : Nat) : Clear (newD n) fr sz nx := fun s _ => new_bad _ _ _
theorem Clear.sync {d : DS} {fr sz nx : Nat} (h : Clear d fr sz nx) : Clear (syncD d) fr sz nx := fun s hs => by rw [atS_sync]; exact h s hs
theorem Clear.app {d : DS} {n fr sz nx : Nat} {b : List (BitVec 8)} (h : Clear d fr sz nx) (hl : d.now.length = 256 * n) (hz : 1 ≤ sz) (hs : fr + sz ≤ n) (hn : 1 ≤ nx) (hx : nx + 5000 < 18446744073709551616) (hn2 : n ≤ 4096) {k : Nat} (hk : k ≤ sz) (hkb : k ≤ secs b.length) : Clear (appD fr sz nx b d k) fr sz (nx + k) := fun s hs' hr => by
  obtain ⟨r, hr1, q, rfl⟩ : ∃ r, r < sz ∧ ∃ q, s = (nx + r) + q * sz := ⟨(s - nx) % sz, Nat.mod_lt _ (by omega), (s - nx) / sz, by have := Nat.div_add_mod (s - nx) sz; rw [Nat.mul_comm] at this; omega⟩
  have e : atS (appD fr sz nx b d k) fr sz (nx + r + q * sz) = atS (appD fr sz nx b d k) fr sz (nx + r) := by unfold atS; rw [plc_turn fr sz q (by omega)]
  by_cases hrk : r < k
  · rw [e, appD_new hl hz hs hn k hrk hk] at hr
    have := hr.1
    rw [secB_num (by omega)] at this
    omega
  · rw [e, appD_else hl hz hs k (fun i hi => plc_ne (by omega) (by omega) (by omega))] at hr
    have e2 : atS d fr sz (nx + r) = atS d fr sz (nx + r + q * sz) := by unfold atS; rw [plc_turn fr sz q (by omega)]
    rw [e2] at hr
    exact h _ (by omega) hr
theorem Clear.none {d : DS} {fr sz nx : Nat} (h : Clear d fr sz nx) (st : Nat) {s : Nat} (hs : nx ≤ s) : recFrom d fr sz st s = none := by
  unfold recFrom
  generalize st + sz - s = c
  cases c with
  | zero => rfl
  | succ c => unfold recAt; rw [if_neg (fun q => h s hs q.1)]
theorem recAt_same {d d' : DS} {fr sz fm : Nat} (h : ∀ s, atS d' fr sz s = atS d fr sz s) : ∀ c s wh, recAt d' fr sz fm c s wh = recAt d fr sz fm c s wh
  | 0, s, wh => rfl
  | c + 1, s, wh => by unfold recAt; rw [h s]; simp only [recAt_same h c]
theorem recFrom_sync (d : DS) (fr sz st s : Nat) : recFrom (syncD d) fr sz st s = recFrom d fr sz st s := by
  unfold recFrom
  exact recAt_same (fun s => atS_sync d fr sz s) _ _ _
theorem Stand.sync {d : DS} {fr sz st : Nat} : ∀ {s : Nat} {rs : List (List (BitVec 8))} {e : Nat}, Stand d fr sz st s rs e → Stand (syncD d) fr sz st s rs e
  | s, [], e, h => h
  | s, b :: rs, e, h => by
    obtain ⟨m, h1, h2⟩ := h
    exact ⟨m, by rw [recFrom_sync]; exact h1, Stand.sync h2⟩
theorem Stand.le {d : DS} {fr sz st : Nat} : ∀ {s : Nat} {rs : List (List (BitVec 8))} {e : Nat}, Stand d fr sz st s rs e → s ≤ e
  | s, [], e, h => Nat.le_of_eq h
  | s, b :: rs, e, h => by
    obtain ⟨m, h1, h2⟩ := h
    have := (recAt_num h1).1
    have := Stand.le h2
    omega
/-- What stands still stands where its sectors are as they were. -/
theorem Stand.keeps {d d' : DS} {fr sz st : Nat} : ∀ {s : Nat} {rs : List (List (BitVec 8))} {e : Nat}, Stand d fr sz st s rs e → (∀ t, s ≤ t → t < e → atS d' fr sz t = atS d fr sz t) → Stand d' fr sz st s rs e
  | s, [], e, h, _ => h
  | s, b :: rs, e, h, hk => by
    obtain ⟨m, h1, h2⟩ := h
    have l1 := (recAt_num h1).1
    have l2 := Stand.le h2
    exact ⟨m, recAt_keeps h1 (fun t a b => hk t a (by omega)), Stand.keeps h2 (fun t a b => hk t (by omega) b)⟩
theorem Stand.snoc {d : DS} {fr sz st : Nat} : ∀ {s : Nat} {rs : List (List (BitVec 8))} {e m : Nat} {b : List (BitVec 8)}, Stand d fr sz st s rs e → recFrom d fr sz st e = some (b, m) → Stand d fr sz st s (rs ++ [b]) m
  | s, [], e, m, b, h, hb => by
    obtain rfl : s = e := h
    exact ⟨m, hb, rfl⟩
  | s, c :: rs, e, m, b, h, hb => by
    obtain ⟨q, h1, h2⟩ := h
    exact ⟨q, h1, Stand.snoc h2 hb⟩
theorem recFrom_app {d : DS} {n fr sz st nx : Nat} {b : List (BitVec 8)} (hl : d.now.length = 256 * n) (hz : 1 ≤ sz) (hs : fr + sz ≤ n) (hn : 1 ≤ nx) (hx : nx + 5000 < 18446744073709551616) (hb : b.length ≤ 8192) (hst : st ≤ nx) (hf : nx + secs b.length ≤ st + sz) :
    recFrom (appD fr sz nx b d (secs b.length)) fr sz st nx = some (b, nx + secs b.length) := by
  have h := recAt_stands (d := appD fr sz nx b d (secs b.length)) (fr := fr) (sz := sz) (nx := nx) (b := b) hb (by omega) (fun j hj => appD_new hl hz hs hn _ hj (by omega)) 0 (st + sz - nx) (by unfold secs; omega) (by omega)
  exact h
theorem Stand.app {d : DS} {n fr sz st nx : Nat} {rs : List (List (BitVec 8))} {b : List (BitVec 8)} (h : Stand d fr sz st st rs nx) (hl : d.now.length = 256 * n) (hz : 1 ≤ sz) (hs : fr + sz ≤ n) (h1 : 1 ≤ st) (hx : nx + 5000 < 18446744073709551616) (hb : b.length ≤ 8192) (hf : nx + secs b.length ≤ st + sz) :
    Stand (appD fr sz nx b d (secs b.length)) fr sz st st (rs ++ [b]) (nx + secs b.length) := by
  have hle := h.le
  exact Stand.snoc (h.keeps (fun t a c => appD_old hl hz hs (by omega) (by omega) c _ (by omega))) (recFrom_app hl hz hs (by omega) hx hb hle hf)
theorem numb_cons (s : Nat) (x : GotJ) (xs : List GotJ) : numb s (x :: xs) = numb x.b xs := by
  unfold numb
  rw [List.getLast?_cons]
  cases xs.getLast? <;> rfl
/-- The records that are told are those that stand. -/
theorem stand_told {d : DS} {fr sz st : Nat} : ∀ (xs : List GotJ) (s : Nat) (rs : List (List (BitVec 8))) (e : Nat), (∀ k (h : k < xs.length), recFrom d fr sz st (numb s (xs.take k)) = some (xs[k].l, xs[k].b)) → recFrom d fr sz st (numb s xs) = none → Stand d fr sz st s rs e → recFrom d fr sz st e = none → xs.map (·.l) = rs ∧ numb s xs = e
  | [], s, [], e, _, _, h, _ => ⟨rfl, h⟩
  | [], s, b :: rs, e, _, hn, h, _ => by
    obtain ⟨m, h1, _⟩ := h
    rw [numb_nil, h1] at hn
    cases hn
  | x :: xs, s, [], e, hc, _, h, he => by
    have h0 := hc 0 (by simp)
    obtain rfl : s = e := h
    rw [List.take_zero, numb_nil, he] at h0
    cases h0
  | x :: xs, s, b :: rs, e, hc, hn, h, he => by
    obtain ⟨m, h1, h2⟩ := h
    have h0 := hc 0 (by simp)
    rw [List.take_zero, numb_nil, h1] at h0
    have h0' : some (b, m) = some (x.l, x.b) := h0
    obtain ⟨rfl, rfl⟩ : b = x.l ∧ m = x.b := by simpa using h0'
    rw [numb_cons] at hn
    have ih := stand_told xs x.b rs e (fun k hk => by
      have := hc (k + 1) (by simp; omega)
      rw [List.take_succ_cons, numb_cons] at this
      exact this) hn h2 he
    exact ⟨by rw [List.map_cons, ih.1], by rw [numb_cons]; exact ih.2⟩
theorem ring_told {d : DS} {fr sz st nx : Nat} {rs : List (List (BitVec 8))} {xs : List GotJ} (hc : Chain d fr sz st xs) (hn : recFrom d fr sz st (numb st xs) = none) (h : Stand d fr sz st st rs nx) (hC : Clear d fr sz nx) : xs.map (·.l) = rs ∧ numb st xs = nx :=
  stand_told xs st rs nx hc hn h (hC.none st (Nat.le_refl _))
end Go.Proofs.YtikpmaecbfebkaaDoor
