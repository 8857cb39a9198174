/- A disk behind a crash reads what is safe. -/
import Derived.Test.YtikpmaecbfebkaaDoorDMath
namespace Go.Proofs.YtikpmaecbfebkaaDoor
set_option linter.unusedVariables false

theorem sec_at (l : List (BitVec 8)) (j k : Nat) : (sec l j)[k]? = if k < 256 then l[256 * j + k]? else none := by
  unfold sec
  rw [List.getElem?_take]
  split
  · rw [List.getElem?_drop]
  · rfl
theorem patch_at {l p : List (BitVec 8)} {i : Nat} (h : 256 * i + p.length ≤ l.length) (q : Nat) : (patch l i p)[q]? = if q < 256 * i then l[q]? else if q < 256 * i + p.length then p[q - 256 * i]? else l[q]? := by
  unfold patch
  have e : (l.take (256 * i)).length = 256 * i := by simp; omega
  by_cases h1 : q < 256 * i
  · rw [if_pos h1, List.append_assoc, List.getElem?_append_left (by omega), List.getElem?_take, if_pos h1]
  · rw [if_neg h1]
    by_cases h2 : q < 256 * i + p.length
    · rw [if_pos h2, List.append_assoc, List.getElem?_append_right (by omega), e, List.getElem?_append_left (by omega)]
    · rw [if_neg h2, List.getElem?_append_right (by simp; omega), List.getElem?_drop]
      congr 1
      simp
      omega
theorem sec_patch_same {l p : List (BitVec 8)} {i : Nat} (h : 256 * i + p.length ≤ l.length) (hp : p.length = 256) : sec (patch l i p) i = p := by
  refine List.ext_getElem? fun k => ?_
  rw [sec_at]
  split
  · rw [patch_at h, if_neg (by omega), if_pos (by omega)]
    congr 1
    omega
  · rw [List.getElem?_eq_none (by omega)]
theorem sec_patch_ne {l p : List (BitVec 8)} {i j : Nat} (h : 256 * i + p.length ≤ l.length) (hp : p.length ≤ 256) (hne : i ≠ j) : sec (patch l i p) j = sec l j := by
  refine List.ext_getElem? fun k => ?_
  rw [sec_at, sec_at]
  split
  · rw [patch_at h]
    split
    · rfl
    · rw [if_neg (by rcases Nat.lt_or_gt_of_ne hne with x | x <;> omega)]
  · rfl
theorem all_secs {a b : List (BitVec 8)} {n : Nat} (ha : a.length = 256 * n) (hb : b.length = 256 * n) (h : ∀ j, j < n → sec a j = sec b j) : a = b := by
  refine List.ext_getElem? fun q => ?_
  by_cases hq : q < 256 * n
  · have e := congrArg (fun l => l[q % 256]?) (h (q / 256) (by omega))
    simp only [sec_at, if_pos (Nat.mod_lt q (by decide : 256 > 0)), Nat.div_add_mod] at e
    exact e
  · rw [List.getElem?_eq_none (by omega), List.getElem?_eq_none (by omega)]
theorem reachAll_sec : ∀ (ws : List (Nat × List (BitVec 8))) (l : List (BitVec 8)) (n j : Nat), l.length = 256 * n → (∀ x ∈ ws, x.1 < n ∧ x.2.length = 256) → (∀ x ∈ ws, x.1 ≠ j) → sec (reachAll l ws) j = sec l j
  | [], l, n, j, _, _, _ => rfl
  | x :: ws, l, n, j, h, hw, hj => by
    have hx := hw x List.mem_cons_self
    show sec (reachAll (patch l x.1 x.2) ws) j = _
    rw [reachAll_sec ws _ n j (patch_ok h hx.1 (by omega)) (fun y hy => hw y (List.mem_cons_of_mem _ hy)) (fun y hy => hj y (List.mem_cons_of_mem _ hy)), sec_patch_ne (by omega) (by omega) (hj x List.mem_cons_self)]
theorem reachSome_sec : ∀ (ws : List (Nat × List (BitVec 8))) (ks : List Int) (l : List (BitVec 8)) (n j : Nat), l.length = 256 * n → (∀ x ∈ ws, x.1 < n ∧ x.2.length = 256) → (∀ x ∈ ws, x.1 ≠ j) → sec (reachSome l ws ks) j = sec l j
  | [], [], l, n, j, _, _, _ => rfl
  | [], _ :: _, l, n, j, _, _, _ => rfl
  | _ :: _, [], l, n, j, _, _, _ => rfl
  | x :: ws, k :: ks, l, n, j, h, hw, hj => by
    have hx := hw x List.mem_cons_self
    have hl : (x.2.take (clamp k)).length ≤ 256 := by simp; omega
    show sec (reachSome (patch l x.1 (x.2.take (clamp k))) ws ks) j = _
    rw [reachSome_sec ws ks _ n j (patch_ok h hx.1 hl) (fun y hy => hw y (List.mem_cons_of_mem _ hy)) (fun y hy => hj y (List.mem_cons_of_mem _ hy)), sec_patch_ne (by omega) hl (hj x List.mem_cons_self)]
theorem again_eq : ∀ (ws : List (Nat × List (BitVec 8))) (i l : List (BitVec 8)) (n : Nat), i.length = 256 * n → l.length = 256 * n → (∀ x ∈ ws, x.1 < n ∧ x.2.length = 256) → (∀ j, j < n → (∀ x ∈ ws, x.1 ≠ j) → sec l j = sec i j) → again i l ws = i
  | [], i, l, n, hi, hl, _, h => all_secs hl hi (fun j hj => h j hj (fun x hx => by cases hx))
  | x :: ws, i, l, n, hi, hl, hw, h => by
    have hx := hw x List.mem_cons_self
    have hs : (sec i x.1).length = 256 := sec_length (by omega)
    show again i (patch l x.1 (sec i x.1)) ws = i
    refine again_eq ws i _ n hi (patch_ok hl hx.1 (by omega)) (fun y hy => hw y (List.mem_cons_of_mem _ hy)) (fun j hj hn => ?_)
    by_cases e : x.1 = j
    · rw [← e, sec_patch_same (by omega) hs]
    · rw [sec_patch_ne (by omega) (by omega) e]
      exact h j hj (fun y hy => by
        rcases List.mem_cons.1 hy with r | r
        · rw [r]; exact e
        · exact hn y r)
/-- What is read is what is safe with all that waits. -/
def DS.even (s : DS) : Prop := s.now = reachAll s.img s.ws
theorem crashD_now {s : DS} {n : Nat} (h : s.ok n) (e : s.even) (ks : List Int) : (crashD s ks).now = (crashD s ks).img := by
  show again (reachSome s.img s.ws ks) s.now s.ws = reachSome s.img s.ws ks
  refine again_eq _ _ _ n (reachSome_length _ _ _ _ h.li h.lw) h.ln h.lw (fun j hj hn => ?_)
  have e' : s.now = reachAll s.img s.ws := e
  rw [e', reachAll_sec _ _ n j h.li h.lw hn, reachSome_sec _ _ _ n j h.li h.lw hn]
theorem crashD_even {s : DS} {n : Nat} (h : s.ok n) (e : s.even) (ks : List Int) : (crashD s ks).even := crashD_now h e ks
theorem crashD_none (s : DS) : (crashD s []).img = s.img := by
  show reachSome s.img s.ws [] = s.img
  cases s.ws <;> rfl
theorem writeD_even {s : DS} {n : Nat} (e : s.even) (i : Int) (b : List (BitVec 8)) : (writeD n s i b).even := by
  unfold writeD
  split
  · show patch s.now i.toNat (pad b) = reachAll s.img (s.ws ++ [(i.toNat, pad b)])
    have e' : s.now = reachAll s.img s.ws := e
    rw [e']
    simp [reachAll, List.foldl_append]
  · exact e
theorem newD_even (n : Nat) : (newD n).even := rfl
end Go.Proofs.YtikpmaecbfebkaaDoor
