/- Frames, whole and cut: the plain functions. -/
import Derived.Test.YtpnnbkhlbohfbaaDoorUnframe
namespace Go.Proofs.YtpnnbkhlbohfbaaDoor
open Go.RowKit Cod
set_option linter.unusedVariables false

theorem num_frame (p r : List (BitVec 8)) (h : p.length ≤ 65536) : num 0 0 (frame p ++ r) = (p.length, (enc p.length).length, 0) := by
  have := num_enc0 (n := p.length) (by omega) (four (Crc.more 0#32 p) ++ (p ++ r))
  simpa [frame, List.append_assoc] using this
theorem four_length (r : Crc.W) : (four r).length = 4 := rfl
/-- A frame with something behind it. -/
theorem cut_frame (p r : List (BitVec 8)) (h : p.length ≤ 65536) : cutWhy (frame p ++ r) = 0 ∧ cutSum (frame p ++ r) = four (Crc.more 0#32 p) ∧ cutBody (frame p ++ r) = p ∧ cutRest (frame p ++ r) = r := by
  have hn := num_frame p r h
  have hl := frame_length p
  refine ⟨?_, ?_, ?_, ?_⟩
  · unfold cutWhy
    rw [hn]
    simp only [List.length_append]
    rw [if_neg (by simp), if_neg (by omega), if_neg (by omega)]
  · unfold cutSum
    rw [hn]
    have e : frame p ++ r = enc p.length ++ (four (Crc.more 0#32 p) ++ (p ++ r)) := by simp [frame, List.append_assoc]
    simp only
    rw [e, List.drop_left]
    have := List.take_left (l₁ := four (Crc.more 0#32 p)) (l₂ := p ++ r)
    rw [four_length] at this
    exact this
  · unfold cutBody
    rw [hn]
    have e : frame p ++ r = (enc p.length ++ four (Crc.more 0#32 p)) ++ (p ++ r) := by simp [frame, List.append_assoc]
    have e2 : (enc p.length).length + 4 = (enc p.length ++ four (Crc.more 0#32 p)).length := by rw [List.length_append, four_length]
    simp only
    rw [e, e2, List.drop_left, List.take_left]
  · unfold cutRest
    rw [hn]
    have e2 : (enc p.length).length + 4 + p.length = (frame p).length := by omega
    simp only
    rw [e2, List.drop_left]
theorem un_frame (p : List (BitVec 8)) (h : p.length ≤ 65536) : unWhy (frame p) = 0 ∧ cutBody (frame p) = p := by
  have hc := cut_frame p [] h
  rw [List.append_nil] at hc
  obtain ⟨h1, h2, h3, h4⟩ := hc
  refine ⟨?_, h3⟩
  unfold unWhy
  rw [if_neg (by simp [h1]), if_neg (by simp [h4]), h2, h3, if_pos rfl]
theorem cut_frame_cut (p : List (BitVec 8)) (h : p.length ≤ 65536) (k : Nat) (hk : k < (frame p).length) : cutWhy ((frame p).take k) = 10 := by
  have hl := frame_length p
  by_cases h1 : k < (enc p.length).length
  · have e : (frame p).take k = (enc p.length).take k := by
      rw [frame, List.append_assoc, List.take_append_of_le_length (by omega)]
    unfold cutWhy
    rw [e, num_cut0 (by omega) h1]
    simp
  · have e : (frame p).take k = enc p.length ++ (four (Crc.more 0#32 p) ++ p).take (k - (enc p.length).length) := by
      rw [frame, List.append_assoc, List.take_append, List.take_of_length_le (by omega)]
    have hn : num 0 0 ((frame p).take k) = (p.length, (enc p.length).length, 0) := by rw [e]; exact num_enc0 (by omega) _
    have hlen : ((frame p).take k).length = k := by rw [List.length_take]; omega
    unfold cutWhy
    rw [hn, hlen]
    simp only
    rw [if_neg (by simp), if_neg (by omega), if_pos (by omega)]
theorem un_frame_cut (p : List (BitVec 8)) (h : p.length ≤ 65536) (k : Nat) (hk : k < (frame p).length) : unWhy ((frame p).take k) = 10 := by
  unfold unWhy
  rw [cut_frame_cut p h k hk]
  simp
end Go.Proofs.YtpnnbkhlbohfbaaDoor
