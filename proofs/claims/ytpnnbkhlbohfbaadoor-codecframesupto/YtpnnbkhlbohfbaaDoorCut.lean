/- What cutFrame does: the frame that bytes begin with. -/
import Derived.Test.YtpnnbkhlbohfbaaDoorReader
import Derived.Test.YtpnnbkhlbohfbaaDoorWriters
import Derived.Laws.ResultCell
namespace Go.Proofs.YtpnnbkhlbohfbaaDoor
open Go.RowKit Cod
set_option linter.unusedVariables false

theorem cut_cell (w : World) (a : Option Addr) (cap : Nat) (l : List (BitVec 8)) (w2 : World)
    (g : ((w.alloc (.cells #[.slice none 0 0, .slice none 0 0, .slice none 0 0] 44)).alloc (.cells #[.slice a l.length cap, .int .i64 0, .int .i64 0] 51)).grownBy w2 (some (w.heap.size + 1))) :
    w2.heap[w.heap.size]? = some (.cells #[.slice none 0 0, .slice none 0 0, .slice none 0 0] 44 (0, 0)) ∧ w2.cell? ⟨w.heap.size, 0, none⟩ = some (.slice none 0 0) ∧ w2.cell? ⟨w.heap.size, 1, none⟩ = some (.slice none 0 0) ∧ w2.cell? ⟨w.heap.size, 2, none⟩ = some (.slice none 0 0) ∧ ∀ i, w2.frozen? ⟨w.heap.size, i, none⟩ = false := by
  have h : w2.heap[w.heap.size]? = some (.cells #[.slice none 0 0, .slice none 0 0, .slice none 0 0] 44 (0, 0)) := by
    rw [g.block w.heap.size (by simp; omega) (by simp), Below.heap_alloc _ _ _ (by simp), heap_alloc_new]
  exact ⟨h, by simp [World.cell?, h], by simp [World.cell?, h], by simp [World.cell?, h], fun i => by simp [World.frozen?, h]⟩
theorem cut_below (w : World) (a : Option Addr) (cap : Nat) (l : List (BitVec 8)) (w2 : World)
    (g : ((w.alloc (.cells #[.slice none 0 0, .slice none 0 0, .slice none 0 0] 44)).alloc (.cells #[.slice a l.length cap, .int .i64 0, .int .i64 0] 51)).grownBy w2 (some (w.heap.size + 1))) : Below w.heap.size w w2 :=
  (((Below.refl _ w).alloc (Nat.le_refl _) _).alloc (by simp) _).grown g (by simp; omega) (fun k e => by cases e; omega)
set_option maxHeartbeats 400000 in
theorem cut_bad (a : Option Addr) (len cap : Nat) (l : List (BitVec 8)) (w : World) (h : Seen w a len l) (hnil : a = none → cap = 0) (hk : len ≤ cap) (hm : len ≤ 140737488355328) (he : (num 0 0 l).2.2 ≠ 0) :
    Calls Tryd.prog 16 #[.slice a len cap] w fun e w' => e = .returned (.tuple #[.agg #[.slice none 0 0, .slice none 0 0, .slice none 0 0], .int .i64 ((num 0 0 l).2.2 : Nat)]) ∧ Below w.heap.size w w' := by
  obtain rfl : len = l.length := h.1
  have HS : Hid (Seen w a l.length l) := h
  have HNl : Hid _ := hnil
  have HK : Hid _ := hk
  have HM : Hid _ := hm
  have HE : Hid _ := he
  clear h hnil hk hm he
  go_enter Tryd.func16, Tryd.ntmps16
  go_wp2_with fail
  have hs1 : Seen (w.alloc (.cells #[.slice none 0 0, .slice none 0 0, .slice none 0 0] 44)) a l.length l := HS.out.below ((Below.refl _ w).alloc (Nat.le_refl _) _)
  have HC := rUint_any (w.heap.size + 1) l 0 0 _ (by simpa using rdr_new _ a cap l hs1 HNl.out HK.out HM.out)
  rw [show rU l 0 0 = num 0 0 l by simp [rU]] at HC
  refine HC.mono ?_
  rintro e w2 ⟨rfl, r2, g2⟩
  obtain ⟨n, wd, y, ht⟩ : ∃ n wd y, num 0 0 l = (n, wd, y) := ⟨_, _, _, rfl⟩
  rw [ht] at r2 HE ⊢
  simp only at r2 HE ⊢
  obtain ⟨fB, fb0, fb1, fb2, fz⟩ := cut_cell w a cap l w2 g2
  obtain ⟨a2, cap2, c0, c1, c2, f1, f2⟩ := r2.cells
  have hy2 : ¬ ((y : Int) = 0) := fun e => HE.out (by omega)
  have hy' : ((y : Int) == 0) = false := by simpa using hy2
  have B2 : Hid (Below w.heap.size w w2) := cut_below w a cap l w2 g2
  have HT : Hid _ := ht
  clear hs1 HC r2 g2 ht
  go_wp2
  go_region
  go_wp2
  (try simp only [Exit.inBlock, Exit.then])
  refine bodyPost_ret (v := .tuple #[.agg #[.slice none 0 0, .slice none 0 0, .slice none 0 0], .int .i64 y]) ?_ rfl ⟨by rw [HT.out], ?_⟩
  · rw [results_cell_tmp rfl]
    go_simp
  · exact Below.drew (((B2.out.setCell (Nat.le_refl _) _).setCell (Nat.le_refl _) _).setCell (Nat.le_refl _) _)

set_option maxHeartbeats 400000 in
theorem cut_big (a : Option Addr) (len cap : Nat) (l : List (BitVec 8)) (n wd : Nat) (w : World) (h : Seen w a len l) (hnil : a = none → cap = 0) (hk : len ≤ cap) (hm : len ≤ 140737488355328) (ht : num 0 0 l = (n, wd, 0)) (hn : 65536 < n) :
    Calls Tryd.prog 16 #[.slice a len cap] w fun e w' => e = .returned (.tuple #[.agg #[.slice none 0 0, .slice none 0 0, .slice none 0 0], .int .i64 3]) ∧ Below w.heap.size w w' := by
  obtain rfl : len = l.length := h.1
  have HS : Hid (Seen w a l.length l) := h
  have HNl : Hid _ := hnil
  have HK : Hid _ := hk
  have HM : Hid _ := hm
  have HT : Hid _ := ht
  have hn' : (65536 : Int) < n := by omega
  clear hn
  clear h hnil hk hm ht
  go_enter Tryd.func16, Tryd.ntmps16
  go_wp2_with fail
  have hs1 : Seen (w.alloc (.cells #[.slice none 0 0, .slice none 0 0, .slice none 0 0] 44)) a l.length l := HS.out.below ((Below.refl _ w).alloc (Nat.le_refl _) _)
  have HC := rUint_any (w.heap.size + 1) l 0 0 _ (by simpa using rdr_new _ a cap l hs1 HNl.out HK.out HM.out)
  rw [show rU l 0 0 = num 0 0 l by simp [rU], HT.out] at HC
  refine HC.mono ?_
  rintro e w2 ⟨rfl, r2, g2⟩
  obtain ⟨fB, fb0, fb1, fb2, fz⟩ := cut_cell w a cap l w2 g2
  obtain ⟨a2, cap2, c0, c1, c2, f1, f2⟩ := r2.cells
  have B2 : Hid (Below w.heap.size w w2) := cut_below w a cap l w2 g2
  clear hs1 HC r2 g2
  go_wp2
  (try simp only [Exit.inBlock, Exit.then])
  refine bodyPost_ret (v := .tuple #[.agg #[.slice none 0 0, .slice none 0 0, .slice none 0 0], .int .i64 3]) ?_ rfl ⟨rfl, ?_⟩
  · rw [results_cell_tmp rfl]
    go_simp
  · exact (((B2.out.setCell (Nat.le_refl _) _).setCell (Nat.le_refl _) _).setCell (Nat.le_refl _) _)

set_option maxHeartbeats 400000 in
theorem cut_short (x : Addr) (len cap : Nat) (l : List (BitVec 8)) (n wd : Nat) (w : World) (h : Seen w (some x) len l) (hnil : some x = none → cap = 0) (hk : len ≤ cap) (hm : len ≤ 140737488355328) (ht : num 0 0 l = (n, wd, 0)) (hn : n ≤ 65536) (hsh : l.length < wd + 4 + n) :
    Calls Tryd.prog 16 #[.slice (some x) len cap] w fun e w' => e = .returned (.tuple #[.agg #[.slice none 0 0, .slice none 0 0, .slice none 0 0], .int .i64 10]) ∧ Below w.heap.size w w' := by
  obtain rfl : len = l.length := h.1
  have hwd : wd ≤ l.length := by have := num_width l 0 0; rw [ht] at this; simpa using this
  obtain ⟨x2, hx2⟩ : ∃ x2, (if cap = wd then some x else some (x.add wd)) = some x2 := by split <;> exact ⟨_, rfl⟩
  have HS : Hid (Seen w (some x) l.length l) := h
  have HNl : Hid _ := hnil
  have HK : Hid _ := hk
  have HM : Hid _ := hm
  have HT : Hid _ := ht
  clear h hnil hk hm ht
  go_enter Tryd.func16, Tryd.ntmps16
  go_wp2_with fail
  have hs1 : Seen (w.alloc (.cells #[.slice none 0 0, .slice none 0 0, .slice none 0 0] 44)) (some x) l.length l := HS.out.below ((Below.refl _ w).alloc (Nat.le_refl _) _)
  have HC := rUint_any (w.heap.size + 1) l 0 0 _ (by simpa using rdr_new _ (some x) cap l hs1 HNl.out HK.out HM.out)
  rw [show rU l 0 0 = num 0 0 l by simp [rU], HT.out] at HC
  refine HC.mono ?_
  rintro e w2 ⟨rfl, r2, g2⟩
  obtain ⟨fB, fb0, fb1, fb2, fz⟩ := cut_cell w (some x) cap l w2 g2
  obtain ⟨a2, cap2, c0, c1, c2, f1, f2⟩ := r2.cells
  have B2 : Hid (Below w.heap.size w w2) := cut_below w (some x) cap l w2 g2
  clear hs1 HC r2 g2
  have hk1 := HK.out
  go_wp2
  (try simp only [Exit.inBlock, Exit.then])
  refine bodyPost_ret (v := .tuple #[.agg #[.slice none 0 0, .slice none 0 0, .slice none 0 0], .int .i64 10]) ?_ rfl ⟨rfl, ?_⟩
  · rw [results_cell_tmp rfl]
    go_simp
  · exact (((B2.out.setCell (Nat.le_refl _) _).setCell (Nat.le_refl _) _).setCell (Nat.le_refl _) _)

set_option maxHeartbeats 400000 in
theorem cut_ok (x : Addr) (len cap : Nat) (l : List (BitVec 8)) (n wd : Nat) (w : World) (h : Seen w (some x) len l) (hnil : some x = none → cap = 0) (hk : len ≤ cap) (hm : len ≤ 140737488355328) (ht : num 0 0 l = (n, wd, 0)) (hn : n ≤ 65536) (hsh : wd + 4 + n ≤ l.length) :
    Calls Tryd.prog 16 #[.slice (some x) len cap] w fun e w' => ∃ a2 a3 a4, e = .returned (.tuple #[.agg #[.slice a2 4 (cap - wd), .slice a3 n (cap - wd - 4), .slice a4 (l.length - wd - (4 + n)) (cap - wd - (4 + n))], .int .i64 0]) ∧ (Seen w a2 4 ((l.drop wd).take 4) ∧ a2 ≠ none) ∧ (Seen w a3 n ((l.drop (wd + 4)).take n) ∧ a3 ≠ none) ∧ (Seen w a4 (l.length - wd - (4 + n)) (l.drop (wd + 4 + n)) ∧ a4 ≠ none) ∧ Below w.heap.size w w' ∧ (∀ y, a2 = some y ∨ a3 = some y ∨ a4 = some y → y.block = x.block) := by
  obtain rfl : len = l.length := h.1
  have hwd : wd ≤ l.length := by have := num_width l 0 0; rw [ht] at this; simpa using this
  obtain ⟨b, off, rfl, _⟩ : ∃ b off, x = ⟨b, off, none⟩ ∧ True := by
    rcases h.2.2 with h3 | ⟨b, off, ha, _⟩
    · omega
    · exact ⟨b, off, Option.some.inj ha, trivial⟩
  have hcw : cap ≠ wd := by omega
  have S1 : Seen w (some ⟨b, off + wd, none⟩) (l.length - wd) (l.drop wd) := by have := h.drop wd cap (by omega) hk; rwa [if_neg hcw, Addr.add_lit] at this
  have S2 : Hid _ := S1.take 4 (by omega)
  obtain ⟨a3, hx3⟩ : ∃ a3, (if cap - wd = 4 then some (⟨b, off + wd, none⟩ : Addr) else some ⟨b, off + wd + 4, none⟩) = a3 := ⟨_, rfl⟩
  obtain ⟨a4, hx4⟩ : ∃ a4, (if cap - wd = 4 + n then some (⟨b, off + wd, none⟩ : Addr) else some ⟨b, off + wd + (4 + n), none⟩) = a4 := ⟨_, rfl⟩
  have hx4' : (if cap - wd = 4 + n then some (⟨b, off + wd, none⟩ : Addr) else some ((⟨b, off + wd, none⟩ : Addr).add (4 + n))) = a4 := by rw [Addr.add_lit]; exact hx4
  have BL : Hid (∀ y, some (⟨b, off + wd, none⟩ : Addr) = some y ∨ a3 = some y ∨ a4 = some y → y.block = b) := by
    show ∀ y, some (⟨b, off + wd, none⟩ : Addr) = some y ∨ a3 = some y ∨ a4 = some y → y.block = b
    rw [← hx3, ← hx4]
    rintro y (h | h | h)
    · cases h; rfl
    · split at h <;> (cases h; rfl)
    · split at h <;> (cases h; rfl)
  have N3 : Hid (a3 ≠ none) := by show a3 ≠ none; rw [← hx3]; split <;> simp
  have N4 : Hid (a4 ≠ none) := by show a4 ≠ none; rw [← hx4]; split <;> simp
  have S3 : Hid (Seen w a3 n ((l.drop (wd + 4)).take n)) := by
    have := (S1.drop 4 (cap - wd) (by omega) (by omega)).take n (by omega)
    rw [Addr.add_lit, hx3, List.drop_drop] at this
    exact this
  have S4 : Hid (Seen w a4 (l.length - wd - (4 + n)) (l.drop (wd + 4 + n))) := by
    have := S1.drop (4 + n) (cap - wd) (by omega) (by omega)
    rw [Addr.add_lit, hx4, List.drop_drop, ← Nat.add_assoc wd 4 n] at this
    exact this
  clear S1
  have HS : Hid (Seen w (some ⟨b, off, none⟩) l.length l) := h
  have HNl : Hid _ := hnil
  have HK : Hid _ := hk
  have HM : Hid _ := hm
  have HT : Hid _ := ht
  clear h hnil hk hm ht
  go_enter Tryd.func16, Tryd.ntmps16
  go_wp2_with fail
  have hs1 : Seen (w.alloc (.cells #[.slice none 0 0, .slice none 0 0, .slice none 0 0] 44)) (some ⟨b, off, none⟩) l.length l := HS.out.below ((Below.refl _ w).alloc (Nat.le_refl _) _)
  have HC := rUint_any (w.heap.size + 1) l 0 0 _ (by simpa using rdr_new _ (some ⟨b, off, none⟩) cap l hs1 HNl.out HK.out HM.out)
  rw [show rU l 0 0 = num 0 0 l by simp [rU], HT.out] at HC
  refine HC.mono ?_
  rintro e w2 ⟨rfl, r2, g2⟩
  obtain ⟨fB, fb0, fb1, fb2, fz⟩ := cut_cell w (some ⟨b, off, none⟩) cap l w2 g2
  obtain ⟨a2, cap2, c0, c1, c2, f1, f2⟩ := r2.cells
  have B2 : Hid (Below w.heap.size w w2) := cut_below w (some ⟨b, off, none⟩) cap l w2 g2
  clear hs1 HC r2 g2
  have hk1 := HK.out
  go_wp2
  go_region
  go_wp2
  all_goals (try simp only [Exit.inBlock, Exit.then])
  all_goals first
    | (refine bodyPost_ret (v := .tuple #[.agg #[.slice (some ⟨b, off + wd, none⟩) 4 (cap - wd), .slice a3 n (cap - wd - 4), .slice a4 (l.length - wd - (4 + n)) (cap - wd - (4 + n))], .int .i64 0]) ?_ rfl ⟨_, _, _, rfl, ⟨S2.out, by simp⟩, ⟨S3.out, N3.out⟩, ⟨S4.out, N4.out⟩, ?_, BL.out⟩
       · rw [results_cell_tmp rfl]
         go_simp
       · exact Below.drew (((B2.out.setCell (Nat.le_refl _) _).setCell (Nat.le_refl _) _).setCell (Nat.le_refl _) _))
    | (refine bodyPost_ret (v := .tuple #[.agg #[.slice (some ⟨b, off + wd, none⟩) 4 (4 + n), .slice a3 n n, .slice a4 (l.length - wd - (4 + n)) 0], .int .i64 0]) ?_ rfl ⟨_, _, _, rfl, ⟨S2.out, by simp⟩, ⟨S3.out, N3.out⟩, ⟨S4.out, N4.out⟩, ?_, BL.out⟩
       · rw [results_cell_tmp rfl]
         go_simp
       · exact Below.drew (((B2.out.setCell (Nat.le_refl _) _).setCell (Nat.le_refl _) _).setCell (Nat.le_refl _) _))
end Go.Proofs.YtpnnbkhlbohfbaaDoor
