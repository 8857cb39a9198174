/- A disk, plainly: what is safe, what is read, what waits. -/
import Derived.Test.YtikpmaecbfebkaaDoorProg
namespace Go.Proofs.YtikpmaecbfebkaaDoor
set_option linter.unusedVariables false

/-- A disk. -/
structure DS where
  img : List (BitVec 8)
  now : List (BitVec 8)
  ws : List (Nat × List (BitVec 8))
  fa : Bool
  de : Bool
  fu : Bool
/-- Bytes from a sector's beginning on are others. -/
def patch (l : List (BitVec 8)) (n : Nat) (p : List (BitVec 8)) : List (BitVec 8) := l.take (256 * n) ++ p ++ l.drop (256 * n + p.length)
def sec (l : List (BitVec 8)) (n : Nat) : List (BitVec 8) := (l.drop (256 * n)).take 256
def pad (b : List (BitVec 8)) : List (BitVec 8) := b ++ List.replicate (256 - b.length) 0#8
theorem pad_length {b : List (BitVec 8)} (h : b.length ≤ 256) : (pad b).length = 256 := by simp [pad]; omega
theorem patch_length {l p : List (BitVec 8)} {n : Nat} (h : 256 * n + p.length ≤ l.length) : (patch l n p).length = l.length := by simp [patch]; omega
theorem sec_length {l : List (BitVec 8)} {n : Nat} (h : 256 * (n + 1) ≤ l.length) : (sec l n).length = 256 := by simp [sec]; omega
structure DS.ok (s : DS) (n : Nat) : Prop where
  n1 : 1 ≤ n
  n2 : n ≤ 4096
  li : s.img.length = 256 * n
  ln : s.now.length = 256 * n
  lw : ∀ x ∈ s.ws, x.1 < n ∧ x.2.length = 256
  lk : s.ws.length ≤ 1000000
def newD (n : Nat) : DS := ⟨List.replicate (256 * n) 0#8, List.replicate (256 * n) 0#8, [], false, false, false⟩
def loadD (l : List (BitVec 8)) : DS := ⟨l, l, [], false, false, false⟩
def readD (s : DS) (i : Nat) : List (BitVec 8) := sec s.now i
/-- What a write answers, and the disk behind it. -/
def whyW (n : Nat) (s : DS) (i : Int) (b : List (BitVec 8)) : Nat := if s.de then 21 else if ¬ (0 ≤ i ∧ i < n) then 1 else if 256 < b.length then 3 else if s.fu then 4 else 0
def wrote (s : DS) (i : Nat) (b : List (BitVec 8)) : DS := { s with now := patch s.now i (pad b), ws := s.ws ++ [(i, pad b)] }
def writeD (n : Nat) (s : DS) (i : Int) (b : List (BitVec 8)) : DS := if whyW n s i b = 0 then wrote s i.toNat b else s
def whyS (s : DS) : Nat := if s.de then 21 else if s.fa then 20 else 0
/-- All of them have reached an image. -/
def reachAll (l : List (BitVec 8)) (ws : List (Nat × List (BitVec 8))) : List (BitVec 8) := ws.foldl (fun m x => patch m x.1 x.2) l
def syncD (s : DS) : DS := if s.de then s else if s.fa then { s with de := true } else { s with img := reachAll s.img s.ws, ws := [] }
def clamp (k : Int) : Nat := (min (max k 0) 256).toNat
/-- Of each write so many bytes reach an image. -/
def reachSome (l : List (BitVec 8)) : List (Nat × List (BitVec 8)) → List Int → List (BitVec 8)
  | x :: ws, k :: ks => reachSome (patch l x.1 (x.2.take (clamp k))) ws ks
  | _, _ => l
/-- What is read is again what is safe. -/
def again (img now : List (BitVec 8)) (ws : List (Nat × List (BitVec 8))) : List (BitVec 8) := ws.foldl (fun m x => patch m x.1 (sec img x.1)) now
def crashD (s : DS) (kept : List Int) : DS :=
  let i := reachSome s.img s.ws kept
  ⟨i, again i s.now s.ws, [], false, false, false⟩
theorem clamp_le (k : Int) : clamp k ≤ 256 := by unfold clamp; omega
theorem patch_ok {l p : List (BitVec 8)} {n i : Nat} (h : l.length = 256 * n) (hi : i < n) (hp : p.length ≤ 256) : (patch l i p).length = 256 * n := by
  rw [patch_length (by omega), h]
theorem reachAll_length : ∀ (ws : List (Nat × List (BitVec 8))) (l : List (BitVec 8)) (n : Nat), l.length = 256 * n → (∀ x ∈ ws, x.1 < n ∧ x.2.length = 256) → (reachAll l ws).length = 256 * n
  | [], l, n, h, _ => h
  | x :: ws, l, n, h, hw => by
    have hx := hw x List.mem_cons_self
    exact reachAll_length ws (patch l x.1 x.2) n (patch_ok h hx.1 (by omega)) (fun y hy => hw y (List.mem_cons_of_mem _ hy))
theorem reachSome_length : ∀ (ws : List (Nat × List (BitVec 8))) (ks : List Int) (l : List (BitVec 8)) (n : Nat), l.length = 256 * n → (∀ x ∈ ws, x.1 < n ∧ x.2.length = 256) → (reachSome l ws ks).length = 256 * n
  | [], [], l, n, h, _ => h
  | [], _ :: _, l, n, h, _ => h
  | _ :: _, [], l, n, h, _ => h
  | x :: ws, k :: ks, l, n, h, hw => by
    have hx := hw x List.mem_cons_self
    exact reachSome_length ws ks _ n (patch_ok h hx.1 (by simp; omega)) (fun y hy => hw y (List.mem_cons_of_mem _ hy))
theorem again_length : ∀ (ws : List (Nat × List (BitVec 8))) (img l : List (BitVec 8)) (n : Nat), img.length = 256 * n → l.length = 256 * n → (∀ x ∈ ws, x.1 < n ∧ x.2.length = 256) → (again img l ws).length = 256 * n
  | [], img, l, n, _, h, _ => h
  | x :: ws, img, l, n, hi, h, hw => by
    have hx := hw x List.mem_cons_self
    exact again_length ws img _ n hi (patch_ok h hx.1 (by rw [sec_length (by omega)]; omega)) (fun y hy => hw y (List.mem_cons_of_mem _ hy))
theorem writeD_ok {s : DS} {n : Nat} (h : s.ok n) (i : Int) (b : List (BitVec 8)) (hk : s.ws.length < 1000000) : (writeD n s i b).ok n := by
  unfold writeD
  split
  · rename_i h0
    have hi : 0 ≤ i ∧ i < n := by
      unfold whyW at h0
      split at h0
      · cases h0
      · split at h0
        · cases h0
        · rename_i h2; exact Decidable.not_not.1 h2
    have hb : b.length ≤ 256 := by
      unfold whyW at h0
      rw [if_neg (by intro e; rw [if_pos e] at h0; cases h0), if_neg (by simp [hi])] at h0
      split at h0
      · cases h0
      · omega
    refine ⟨h.n1, h.n2, h.li, patch_ok h.ln (by omega) (by rw [pad_length hb]; omega), fun x hx => ?_, by show (s.ws ++ _).length ≤ _; simp; omega⟩
    rcases List.mem_append.1 hx with hx | hx
    · exact h.lw x hx
    · rw [List.mem_singleton.1 hx]
      exact ⟨by show i.toNat < n; omega, pad_length hb⟩
  · exact h
theorem syncD_ok {s : DS} {n : Nat} (h : s.ok n) : (syncD s).ok n := by
  unfold syncD
  split
  · exact h
  · split
    · exact ⟨h.n1, h.n2, h.li, h.ln, h.lw, h.lk⟩
    · exact ⟨h.n1, h.n2, reachAll_length _ _ _ h.li h.lw, h.ln, (fun x hx => by cases hx), by simp⟩
theorem crashD_ok {s : DS} {n : Nat} (h : s.ok n) (ks : List Int) : (crashD s ks).ok n :=
  ⟨h.n1, h.n2, reachSome_length _ _ _ _ h.li h.lw, again_length _ _ _ _ (reachSome_length _ _ _ _ h.li h.lw) h.ln h.lw, (fun x hx => by cases hx), by simp [crashD]⟩
theorem newD_ok {n : Nat} (h1 : 1 ≤ n) (h2 : n ≤ 4096) : (newD n).ok n := ⟨h1, h2, by simp [newD], by simp [newD], (fun x hx => by cases hx), by simp [newD]⟩
end Go.Proofs.YtikpmaecbfebkaaDoor
