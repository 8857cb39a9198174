/- The general case of a merge, plainly: what the search has found, and what the three steps behind it leave. -/
import Derived.Test.YtckldjiabalgbaaSTwo
namespace Go.Proofs.Ytckldjiabalgbaa
open Go.Sort
set_option linter.unusedVariables false
section
variable {α : Type} [Inhabited α] {lt : α → α → Bool}
/-- From where to where the search goes. -/
def FromTo (a m b mid s0 r0 : Nat) : Prop := (mid < m ∧ s0 = mid + m - b ∧ r0 = mid) ∨ (m ≤ mid ∧ s0 = a ∧ r0 = m)
/-- The bounds. -/
structure Bnd (a m b mid s : Nat) : Prop where
  q1 : a ≤ s
  q2 : s ≤ m
  q3 : s ≤ mid
  q4 : m ≤ mid + m - s
  q5 : mid ≤ mid + m - s
  q6 : mid + m - s ≤ b
theorem bnd_of {a m b mid s0 r0 s : Nat} (F : FromTo a m b mid s0 r0) (h1 : 2 * mid ≤ a + b) (h2 : a + b ≤ 2 * mid + 1) (ham : a < m) (hmb : m < b) (hs : s0 ≤ s) (hr : s ≤ r0) : Bnd a m b mid s := by
  rcases F with ⟨x, y, z⟩ | ⟨x, y, z⟩ <;> constructor <;> omega
structure Sch (lt : α → α → Bool) (d : Array α) (n s0 s r r0 : Nat) : Prop where
  lo : ∀ c, s0 ≤ c → c < s → lt d[n - 1 - c]! d[c]! = false
  hi : ∀ c, r ≤ c → c < r0 → lt d[n - 1 - c]! d[c]! = true
theorem Sch.yes (hO : SWO lt) {d : Array α} {a m b mid s0 s r r0 c : Nat} (h : Sch lt d (mid + m) s0 s r r0) (F : FromTo a m b mid s0 r0) (g1 : 2 * mid ≤ a + b) (g2 : a + b ≤ 2 * mid + 1) (ham : a < m) (hmb : m < b) (h1 : SortedIn lt a m d) (h2 : SortedIn lt m b d) (hc : s0 ≤ c) (hr : c < r0) (hl : lt d[mid + m - 1 - c]! d[c]! = true) : Sch lt d (mid + m) s0 s c r0 := by
  refine ⟨h.lo, fun q x y => ?_⟩
  have b1 : a ≤ c ∧ q < m ∧ m ≤ mid + m - 1 - q ∧ mid + m - 1 - c < b := by rcases F with ⟨u, v, w⟩ | ⟨u, v, w⟩ <;> (subst v w; omega)
  exact up_sorted hO h2 (h := mid + m - 1 - c) b1.2.2.2 (dn_sorted hO h1 b1.1 hl q x b1.2.1) _ b1.2.2.1 (by omega)
theorem Sch.no (hO : SWO lt) {d : Array α} {a m b mid s0 s r r0 c : Nat} (h : Sch lt d (mid + m) s0 s r r0) (F : FromTo a m b mid s0 r0) (g1 : 2 * mid ≤ a + b) (g2 : a + b ≤ 2 * mid + 1) (ham : a < m) (hmb : m < b) (h1 : SortedIn lt a m d) (h2 : SortedIn lt m b d) (hc : s0 ≤ c) (hr : c < r0) (hl : lt d[mid + m - 1 - c]! d[c]! = false) : Sch lt d (mid + m) s0 (c + 1) r r0 := by
  refine ⟨fun q x y => ?_, h.hi⟩
  have b1 : a ≤ q ∧ c < m ∧ m ≤ mid + m - 1 - c ∧ mid + m - 1 - q < b := by rcases F with ⟨u, v, w⟩ | ⟨u, v, w⟩ <;> (subst v w; omega)
  exact up_sorted' hO h2 b1.2.2.1 (dn_sorted' hO h1 b1.2.1 hl q b1.1 (by omega)) _ (by omega) b1.2.2.2
/-- The search has ended. -/
theorem Sch.cut (hO : SWO lt) {d d1 : Array α} {a m b mid s0 s r0 : Nat} (h : Sch lt d (mid + m) s0 s s r0) (F : FromTo a m b mid s0 r0) (g1 : 2 * mid ≤ a + b) (g2 : a + b ≤ 2 * mid + 1) (ham : a < m) (hmb : m < b) (hb : b ≤ d.size) (hs : s0 ≤ s) (hr : s ≤ r0) (h1 : SortedIn lt a m d) (h2 : SortedIn lt m b d)
    (P : PermIn a b d d1) (R : RotOf d d1 s m (mid + m - s)) : Cut lt d1 a s mid (mid + m - s) b ∧ Mrg lt d d1 a b := by
  have B := bnd_of F g1 g2 ham hmb hs hr
  have hi : ∀ u v, s ≤ u → u < m → m ≤ v → v < mid + m - s → lt d[v]! d[u]! = true := fun u v x y z t => by
    have hsr : s < r0 := by rcases F with ⟨p, q, w⟩ | ⟨p, q, w⟩ <;> (subst q w; omega)
    have e := h.hi s (Nat.le_refl _) hsr
    exact up_sorted hO h2 (h := mid + m - 1 - s) (by have := B.q6; omega) (dn_sorted hO h1 B.q1 e u x y) v z (by omega)
  refine ⟨cut_of hO (n := mid + m) ham hmb hb h1 h2 (by omega) rfl ⟨B.q1, B.q2, B.q3, B.q4, B.q5, B.q6⟩ (fun c x y z => ?_) hi R, P, srt_rotOf hO R B.q2 B.q4 (by have := B.q6; omega) hi⟩
  have hs0 : s0 < s := by rcases F with ⟨p, q, w⟩ | ⟨p, q, w⟩ <;> (subst q w; omega)
  have e := h.lo (s - 1) (by omega) (by omega)
  rw [show mid + m - 1 - (s - 1) = mid + m - s by omega] at e
  exact dn_sorted' hO h1 (h := s - 1) (by have := B.q2; omega) e c x (by omega)
theorem rot_none {d : Array α} {s m e : Nat} (h : s = m ∨ m = e) : RotOf d d s m e := by
  refine ⟨rfl, fun _ _ => rfl, fun i hi => ?_, fun i hi => ?_⟩
  · rcases h with rfl | rfl
    · rfl
    · omega
  · rcases h with rfl | rfl
    · omega
    · simp
/-- Behind the second step. -/
structure St2 (lt : α → α → Bool) (d d2 : Array α) (a mid e b : Nat) : Prop where
  mg : Mrg lt d d2 a b
  s1 : SortedIn lt a mid d2
  s2 : SortedIn lt mid e d2
  s3 : SortedIn lt e b d2
  ab : ∀ u v, a ≤ u → u < mid → mid ≤ v → v < b → lt d2[v]! d2[u]! = false
theorem St2.call {d d1 d2 : Array α} {a s mid e b : Nat} (c : Cut lt d1 a s mid e b) (m : Mrg lt d d1 a b) (hm : Mrg lt d1 d2 a mid) (hs : SortedIn lt a mid d2) (h1 : mid ≤ e) (h2 : e ≤ b) (hb : b ≤ d.size) : St2 lt d d2 a mid e b := by
  have hz := m.size
  refine ⟨m.trans (hm.mono (Nat.le_refl _) (by omega) (by omega)), hs, sortedSame c.s3 fun i x _ => hm.out (.inr x), sortedSame c.s4 fun i x _ => hm.out (.inr (by omega)), fun u v x y z t => ?_⟩
  rw [hm.out (.inr z)]
  exact hm.all (by omega) (fun q => lt d1[v]! q = false) (fun i p q => c.ab i v p q z t) u x y
theorem St2.skip {d d1 : Array α} {a s mid e b : Nat} (c : Cut lt d1 a s mid e b) (m : Mrg lt d d1 a b) (h : s = a ∨ s = mid) : St2 lt d d1 a mid e b := by
  refine ⟨m, ?_, c.s3, c.s4, c.ab⟩
  rcases h with rfl | rfl
  · exact c.s2
  · exact c.s1
theorem St2.fin {d d2 d3 : Array α} {a mid e b : Nat} (c : St2 lt d d2 a mid e b) (hm : Mrg lt d2 d3 mid b) (hs : SortedIn lt mid b d3) (ha : a ≤ mid) (hb : b ≤ d.size) : Mrg lt d d3 a b ∧ SortedIn lt a b d3 := by
  have hz := c.mg.size
  refine ⟨c.mg.trans (hm.mono ha (Nat.le_refl _) (by omega)), sortedJoin (sortedSame c.s1 fun i _ x => hm.out (.inl x)) hs fun u v x y z t => ?_⟩
  rw [hm.out (.inl y)]
  exact hm.all (by omega) (fun q => lt q d2[u]! = false) (fun i p q => c.ab u i x y p q) v z t
theorem St2.done {d d2 : Array α} {a mid e b : Nat} (c : St2 lt d d2 a mid e b) (h : e = mid ∨ e = b) : Mrg lt d d2 a b ∧ SortedIn lt a b d2 := by
  refine ⟨c.mg, sortedJoin c.s1 ?_ c.ab⟩
  rcases h with rfl | rfl
  · exact c.s3
  · exact c.s2
end
end Go.Proofs.Ytckldjiabalgbaa
