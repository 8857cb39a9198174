/- What Lent and Kept of the reference do. -/
import Derived.Test.YtdohclbkdifafaaDoorAppends
import Derived.Laws.BytesArg
import Derived.Laws.IdiomStrings
import Derived.Lib.BufferRead
namespace Go.Proofs.YtdohclbkdifafaaDoor
open Go.RowKit
set_option linter.unusedVariables false

set_option maxRecDepth 100000 in
set_option maxHeartbeats 800000 in
theorem lent_any (aa : Option Addr) (la ca : Nat) (A : List (BitVec 8)) (w : World) (hA : Seen w aa la A) (hnil : aa = none → ca = 0) (hb : la + 1 ≤ 140737488355328) :
    Calls Tryd.prog 9 #[.slice aa la ca] w fun e w' => ∃ g cap, e = .returned (.slice (some ⟨g, 0, none⟩) la cap) ∧ la + 1 ≤ cap ∧ w'.ownsRow w.heap.size 5 1 (.slice (some ⟨g, 0, none⟩) (la + 1) cap) (la + 1) (cellsOf (A ++ [0xa7#8])) ∧ Below w.heap.size w w' := by
  obtain ⟨i0, hi, hz0, hz1, hz2⟩ := info_parts info5
  obtain ⟨v1, x1, hr1, own1, gr1⟩ := run_append_bytes 22 w w.heap.size (.slice none 0 0) 0 [] (World.ownsRow_nil _ _ _ _) aa la ca A hA hnil (by omega) (Nat.le_refl _)
  have bl1 : Below w.heap.size w x1 := (Below.refl _ _).grown gr1 (Nat.le_refl _) (fun k e => by cases e)
  simp only [List.nil_append, Nat.zero_add] at own1
  have HR1 : Hid _ := hr1
  have za := bl1.size
  have sn : Seen (x1.alloc (.cells #[.int .u8 167] 5)) (some ⟨x1.heap.size, 0, none⟩) 1 [0xa7#8] := seen_new x1 [0xa7#8] 5 (0, 0) (by decide)
  obtain ⟨v2, x2, hr2, own2, gr2⟩ := run_append_bytes 22 (x1.alloc (.cells #[.int .u8 167] 5)) w.heap.size v1 la A (own1.alloc _) (some ⟨x1.heap.size, 0, none⟩) 1 1 [0xa7#8] sn (fun e => by cases e) (by omega) (by simp; omega)
  have bl2 : Below w.heap.size w x2 := (bl1.alloc za _).grown gr2 (by simp; omega) (fun k e => (own1.lt _ e).1)
  obtain ⟨g, cap, rfl, hg1, hg2⟩ := own2.form (by omega)
  have hcap : la + 1 ≤ cap := by
    rcases own2.2 with ⟨hh, _⟩ | ⟨g', cap', cur, hh, _, _, hnc, _⟩
    · cases hh
    · cases hh; exact hnc
  have hcap' : (la : Int) ≤ (cap : Int) := by omega
  have HR2 : Hid _ := hr2
  have HO : Hid _ := own2
  clear hr1 gr1 hr2 gr2 own1 own2 sn
  go_enter Tryd.func9, Tryd.ntmps9
  go_wp2_with (first
    | (at_builtin; refine wpList_append_known rfl (.tmp 4) (.tmp 5) 22 22 rfl _ _ rfl rfl _ _ HR1.out ?_)
    | (at_builtin; refine wpList_append_known rfl (.tmp 7) (.tmp 8) 22 22 rfl _ _ rfl rfl _ _ HR2.out ?_))
  go_ret
  exact ⟨g, cap, rfl, hcap, HO.out, bl2⟩

/-- Bytes as a text. -/
def textOf (A : List (BitVec 8)) : ByteArray := ⟨(A.map UInt8.ofBitVec).toArray⟩
theorem run_to_text (w : World) (aa : Option Addr) (la ca : Nat) (A : List (BitVec 8)) (hA : Seen w aa la A) : (convert 22 9 (.slice aa la ca)).run Tryd.prog w = .ok (.string (textOf A)) w := by
  cases aa with
  | none =>
    obtain ⟨h1, h2, h3⟩ := hA
    have hla : la = 0 := by
      rcases h3 with h3 | ⟨b, off, h, _⟩
      · exact h3
      · cases h
    subst hla
    have hAn : A = [] := List.eq_nil_of_length_eq_zero h1.symm
    subst hAn
    exact Lib.run_convert_nil_bytes w 22 9 5 ca Tryd.underlying22 Tryd.underlying5 Tryd.underlying9
  | some x =>
    have hn := append_news hA x rfl
    have hl : (A.map UInt8.ofBitVec).length = la := by rw [List.length_map]; exact hA.1.symm
    have := run_convert_bytes_back (P := Tryd.prog) w 22 9 5 x ca (A.map UInt8.ofBitVec) Tryd.underlying22 Tryd.underlying5 Tryd.underlying9 (fun j hj => by
      have hj' : j < A.length := by simpa using hj
      rw [hn j (.int .u8 (V A[j])) (by simp [cellsOf, hj'])]
      simp [V])
    rw [hl] at this
    exact this
set_option maxRecDepth 100000 in
set_option maxHeartbeats 800000 in
theorem kept_any (g cap : Nat) (aa : Option Addr) (la ca : Nat) (A : List (BitVec 8)) (w : World) (hG : Seen w (some ⟨g, 0, none⟩) la A) (hA : Seen w aa la A) (hc : la + 1 ≤ cap) (hcm : la ≤ 140737488355328) (hm : w.cell? ⟨g, la, none⟩ = some (.int .u8 167)) :
    Calls Tryd.prog 18 #[.slice (some ⟨g, 0, none⟩) la cap, .slice aa la ca] w fun e w' => e = .returned (.bool true) ∧ w' = w := by
  have c1 := run_to_text w _ la cap A hG
  have c2 := run_to_text w _ la ca A hA
  generalize textOf A = s at *
  have e1 : (la : Int) + 1 ≤ (cap : Int) := by omega
  have e2 : (0 : Int) ≤ (la : Int) := by omega
  have e3 : (la : Int) ≤ 140737488355328 := by omega
  have hs : (s.toList == s.toList) = true := by simp
  clear hG hA hc hcm
  go_enter Tryd.func18, Tryd.ntmps18
  go_wp2
  go_ret
  exact ⟨rfl, rfl⟩
end Go.Proofs.YtdohclbkdifafaaDoor
