/- Package journal: what is appended stands. -/
import Derived.Test.YtikpmaecbfebkaaDoorJOpen
import Derived.Test.YtikpmaecbfebkaaDoorDPureA
namespace Go.Proofs.YtikpmaecbfebkaaDoor
open Go.RowKit Go.Shelf
set_option linter.unusedVariables false

/-- A sector that the journal makes is right. -/
theorem secB_drop4 (s mk : Nat) (D : List (BitVec 8)) : (secB s mk D).drop 4 = restB s mk D := by
  unfold secB
  exact List.drop_left' (leB_length _ _)
theorem secB_take4 (s mk : Nat) (D : List (BitVec 8)) : (secB s mk D).take 4 = leB 4 (Crc.more 0#32 (restB s mk D)).toNat := by
  unfold secB
  exact List.take_left' (leB_length _ _)
theorem secB_at (s mk : Nat) (D : List (BitVec 8)) (i : Nat) : (secB s mk D).getD (12 + i) 0#8 = ([BitVec.ofNat 8 mk, BitVec.ofNat 8 D.length] ++ (D ++ List.replicate (242 - D.length) 0#8)).getD i 0#8 := by
  rw [List.getD_eq_getElem?_getD, List.getD_eq_getElem?_getD]
  unfold secB restB
  rw [← List.append_assoc, List.getElem?_append_right (by simp [leB_length]), List.length_append, leB_length, leB_length]
  congr 2
  omega
theorem secB_drop14 (s mk : Nat) (D : List (BitVec 8)) : (secB s mk D).drop 14 = D ++ List.replicate (242 - D.length) 0#8 := by
  unfold secB restB
  rw [← List.append_assoc, ← List.append_assoc]
  exact List.drop_left' (by simp [leB_length])
theorem secB_num {s mk : Nat} {D : List (BitVec 8)} (hs : s < 18446744073709551616) : le (((secB s mk D).drop 4).take 8) = s := by
  rw [secB_drop4]
  unfold restB
  rw [List.take_left' (leB_length _ _), le_leB]
  exact Nat.mod_eq_of_lt (by omega)
theorem secB_mk {s mk : Nat} {D : List (BitVec 8)} (hm : mk ≤ 3) : mkOf (secB s mk D) = mk := by
  have h := secB_at s mk D 0
  unfold mkOf
  rw [show (12 : Nat) = 12 + 0 from rfl, h]
  simp
  omega
theorem secB_len {s mk : Nat} {D : List (BitVec 8)} (hD : D.length ≤ 242) : ((secB s mk D).getD 13 0#8).toNat = D.length := by
  have h := secB_at s mk D 1
  rw [show (13 : Nat) = 12 + 1 from rfl, h]
  simp
  omega
theorem secB_data {s mk : Nat} {D : List (BitVec 8)} (hD : D.length ≤ 242) : dataOf (secB s mk D) = D := by
  unfold dataOf
  rw [secB_len hD, secB_drop14, List.take_left]
theorem secB_right {s mk : Nat} {D : List (BitVec 8)} (hs : s < 18446744073709551616) (hm : mk ≤ 3) (h1 : 1 ≤ D.length) (h2 : D.length ≤ 242) : rightP (secB s mk D) s := by
  refine ⟨secB_num hs, ?_, ?_, ?_, ?_⟩
  · have := secB_mk (s := s) (D := D) hm; unfold mkOf at this; omega
  · rw [secB_len h2]; exact h1
  · rw [secB_len h2]; exact h2
  · rw [secB_take4, secB_drop4, le_leB]
    exact Nat.mod_eq_of_lt (crc_lt _)
theorem plc_ne {fr sz s t : Nat} (h1 : 1 ≤ s) (h2 : s < t) (h3 : t < s + sz) : plc fr sz s ≠ plc fr sz t := by
  unfold plc
  intro e
  have e2 : (s - 1) % sz = (t - 1) % sz := by omega
  have e3 : t - 1 = (s - 1) + (t - s) := by omega
  have d1 := Nat.div_add_mod (s - 1) sz
  have d2 := Nat.div_add_mod (t - 1) sz
  rw [e2] at d1
  have hle : (s - 1) / sz ≤ (t - 1) / sz := Nat.div_le_div_right (by omega)
  obtain ⟨q, hq⟩ := Nat.exists_eq_add_of_le hle
  rw [hq, Nat.mul_add] at d2
  cases q with
  | zero => omega
  | succ q => rw [Nat.mul_succ] at d2; omega
theorem mrk_le (K j : Nat) : mrk K j ≤ 3 := by unfold mrk; split <;> split <;> omega
theorem part_le (b : List (BitVec 8)) (j : Nat) : (part b j).length ≤ 242 := by unfold part; rw [List.length_take]; omega
theorem part_pos {b : List (BitVec 8)} {j : Nat} (h : j < secs b.length) : 1 ≤ (part b j).length := by
  unfold secs at h
  rw [part_length]
  unfold pl
  omega
theorem wrote_now_length {d : DS} {n i : Nat} {B : List (BitVec 8)} (h : d.now.length = 256 * n) (hi : i < n) (hB : B.length = 256) : (wrote d i B).now.length = 256 * n := patch_ok h hi (by rw [pad_length (by omega)]; omega)
theorem pad_256 {B : List (BitVec 8)} (h : B.length = 256) : pad B = B := by unfold pad; rw [h]; simp
theorem read_wrote_same {d : DS} {n i : Nat} {B : List (BitVec 8)} (h : d.now.length = 256 * n) (hi : i < n) (hB : B.length = 256) : readD (wrote d i B) i = B := by
  unfold readD wrote
  show sec (patch d.now i (pad B)) i = B
  rw [pad_256 hB]
  exact sec_patch_same (by omega) hB
theorem read_wrote_ne {d : DS} {n i j : Nat} {B : List (BitVec 8)} (h : d.now.length = 256 * n) (hi : i < n) (hB : B.length = 256) (hne : i ≠ j) : readD (wrote d i B) j = readD d j := by
  unfold readD wrote
  show sec (patch d.now i (pad B)) j = _
  rw [pad_256 hB]
  exact sec_patch_ne (by omega) (by omega) hne
theorem appD_length {d : DS} {n fr sz nx : Nat} {b : List (BitVec 8)} (h : d.now.length = 256 * n) (hz : 1 ≤ sz) (hs : fr + sz ≤ n) : ∀ k, (appD fr sz nx b d k).now.length = 256 * n
  | 0 => h
  | k + 1 => wrote_now_length (appD_length h hz hs k) (plc_lt hz hs) (secB_length (part_le _ _))
/-- What was not written is as it was. -/
theorem appD_old {d : DS} {n fr sz nx : Nat} {b : List (BitVec 8)} (h : d.now.length = 256 * n) (hz : 1 ≤ sz) (hs : fr + sz ≤ n) (hn : 1 ≤ nx) {s : Nat} (h1 : 1 ≤ s) (h2 : s < nx) : ∀ k, nx + k ≤ s + sz → atS (appD fr sz nx b d k) fr sz s = atS d fr sz s
  | 0, _ => rfl
  | k + 1, hk => by
    have ih := appD_old (b := b) h hz hs hn h1 h2 k (by omega)
    unfold atS at ih ⊢
    rw [← ih]
    exact read_wrote_ne (appD_length h hz hs k) (plc_lt hz hs) (secB_length (part_le _ _)) (plc_ne h1 (by omega) (by omega)).symm
theorem appD_new {d : DS} {n fr sz nx : Nat} {b : List (BitVec 8)} (h : d.now.length = 256 * n) (hz : 1 ≤ sz) (hs : fr + sz ≤ n) (hn : 1 ≤ nx) {j : Nat} : ∀ k, j < k → k ≤ sz → atS (appD fr sz nx b d k) fr sz (nx + j) = secB (nx + j) (mrk (secs b.length) j) (part b j)
  | 0, hj, _ => by omega
  | k + 1, hj, hk => by
    by_cases e : j = k
    · subst e
      unfold atS
      exact read_wrote_same (appD_length h hz hs j) (plc_lt hz hs) (secB_length (part_le _ _))
    · have ih := appD_new (b := b) h hz hs hn (j := j) k (by omega) (by omega)
      unfold atS at ih ⊢
      rw [← ih]
      exact read_wrote_ne (appD_length h hz hs k) (plc_lt hz hs) (secB_length (part_le _ _)) (plc_ne (by omega) (by omega) (by omega)).symm
theorem mrk_first (K j : Nat) : (mrk K j &&& 1 ≠ 0) ↔ j = 0 := by
  unfold mrk
  by_cases h1 : j = 0
  · by_cases h2 : j + 1 = K
    · rw [if_pos h1, if_pos h2]; exact ⟨fun _ => h1, fun _ => by decide⟩
    · rw [if_pos h1, if_neg h2]; exact ⟨fun _ => h1, fun _ => by decide⟩
  · by_cases h2 : j + 1 = K
    · rw [if_neg h1, if_pos h2]; exact ⟨fun q => absurd rfl q, fun q => absurd q h1⟩
    · rw [if_neg h1, if_neg h2]; exact ⟨fun q => absurd rfl q, fun q => absurd q h1⟩
theorem mrk_last (K j : Nat) : (mrk K j &&& 2 ≠ 0) ↔ j + 1 = K := by
  unfold mrk
  by_cases h1 : j = 0
  · by_cases h2 : j + 1 = K
    · rw [if_pos h1, if_pos h2]; exact ⟨fun _ => h2, fun _ => by decide⟩
    · rw [if_pos h1, if_neg h2]; exact ⟨fun q => absurd rfl q, fun q => absurd q h2⟩
  · by_cases h2 : j + 1 = K
    · rw [if_neg h1, if_pos h2]; exact ⟨fun _ => h2, fun _ => by decide⟩
    · rw [if_neg h1, if_neg h2]; exact ⟨fun q => absurd rfl q, fun q => absurd q h2⟩
theorem wholeB_sound {b : List (BitVec 8)} (hb : b.length ≤ 8192) : sound (wholeB b) := by
  refine ⟨by rw [wholeB_length]; omega, by rw [wholeB_length]; omega, ?_⟩
  unfold wholeB
  rw [List.take_left' (leB_length _ _), List.drop_left' (leB_length _ _), le_leB]
  exact Nat.mod_eq_of_lt (crc_lt _)
theorem wholeB_drop (b : List (BitVec 8)) : (wholeB b).drop 4 = b := by unfold wholeB; exact List.drop_left' (leB_length _ _)
theorem part_join (b : List (BitVec 8)) (j : Nat) : (wholeB b).take (242 * j) ++ part b j = (wholeB b).take (242 * (j + 1)) := by
  unfold part
  rw [Nat.mul_add, Nat.mul_one, List.take_add]
/-- A record is read where its sectors stand. -/
theorem recAt_stands {d : DS} {fr sz nx : Nat} {b : List (BitVec 8)} (hb : b.length ≤ 8192) (hx : nx + 100 < 18446744073709551616)
    (hat : ∀ j, j < secs b.length → atS d fr sz (nx + j) = secB (nx + j) (mrk (secs b.length) j) (part b j)) : ∀ (i c : Nat), i < secs b.length → secs b.length - i ≤ c → recAt d fr sz nx c (nx + i) ((wholeB b).take (242 * i)) = some (b, nx + secs b.length) := by
  have hK : secs b.length ≤ 100 := by unfold secs; omega
  intro i c
  induction c generalizing i with
  | zero => intro h1 h2; omega
  | succ c ih =>
    intro h1 h2
    unfold recAt
    rw [hat i h1, secB_mk (mrk_le _ _), secB_data (part_le _ _), part_join]
    have hdec : decide (mrk (secs b.length) i &&& 1 ≠ 0) = decide (nx + i = nx) := by
      apply decide_eq_decide.2
      rw [mrk_first]
      omega
    rw [if_pos ⟨secB_right (by omega) (mrk_le _ _) (part_pos h1) (part_le _ _), hdec⟩]
    · by_cases hl : i + 1 = secs b.length
      · rw [if_pos ((mrk_last _ _).2 hl)]
        have hw : (wholeB b).take (242 * (i + 1)) = wholeB b := List.take_of_length_le (by rw [wholeB_length]; unfold secs at hl; omega)
        rw [hw, if_pos (wholeB_sound hb), wholeB_drop, ← hl, Nat.add_assoc]
      · rw [if_neg (fun q => hl ((mrk_last _ _).1 q))]
        exact ih (i + 1) (by omega) (by omega)
/-- What stands still stands where its sectors are as they were. -/
theorem recAt_keeps {d d' : DS} {fr sz fm : Nat} : ∀ {c s : Nat} {wh l : List (BitVec 8)} {b : Nat}, recAt d fr sz fm c s wh = some (l, b) → (∀ t, s ≤ t → t < b → atS d' fr sz t = atS d fr sz t) → recAt d' fr sz fm c s wh = some (l, b)
  | 0, s, wh, l, b, h, _ => by cases h
  | c + 1, s, wh, l, b, h, hk => by
    have hb := recAt_num h
    have e := hk s (Nat.le_refl _) (by omega)
    unfold recAt at h ⊢
    rw [e]
    split at h
    · rename_i h1
      rw [if_pos h1]
      split at h
      · rename_i h2
        rw [if_pos h2]
        exact h
      · rename_i h2
        rw [if_neg h2]
        exact recAt_keeps h (fun t h3 h4 => hk t (by omega) h4)
    · cases h
end Go.Proofs.YtikpmaecbfebkaaDoor
