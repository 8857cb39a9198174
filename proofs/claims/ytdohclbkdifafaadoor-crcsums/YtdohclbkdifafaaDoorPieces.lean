/- The statement CrcPieces: the sum of bytes in pieces; here the walk, for pieces of at most 2^40 bytes that are at most 2^47 together. -/
import Derived.Test.YtdohclbkdifafaaDoorNoughts
namespace Go.Proofs.YtdohclbkdifafaaDoor
open Go.RowKit
set_option linter.unusedVariables false

theorem more_later {w0 w : World} {a : Option Addr} {len : Nat} (cap : Nat) {l : List (BitVec 8)} (s r : Crc.W) (hb : Below w0.heap.size w0 w) (hT : Tabs w0) (h : Seen w0 a len l) (hr : Crc.more s l = r) :
    Calls Tryd.prog 14 #[.int .u32 (U s), .slice a len cap] w fun e w' => e = .returned (.int .u32 (U r)) ∧ Below w0.heap.size w0 w' := by
  subst hr
  refine (more_any s a len cap l w (hT.below hb hT.size) (h.below hb)).mono ?_
  rintro e w' ⟨he, n, rfl⟩
  exact ⟨he, below_drewN' hb n⟩
set_option maxRecDepth 100000 in
set_option maxHeartbeats 1600000 in
theorem pieces_walk (aa : Option Addr) (la ca : Nat) (A : List (BitVec 8)) (ab : Option Addr) (lb cb : Nat) (B : List (BitVec 8)) (w : World) (hT : Tabs w) (hA : Seen w aa la A) (hB : Seen w ab lb B) (na : aa = none → ca = 0) (nb : ab = none → cb = 0)
    (ha : la + lb ≤ 1099511627776) :
    Calls Tryd.prog 4 #[.slice aa la ca, .slice ab lb cb] w fun e w' => e = .returned (.bool true) ∧ Below w.heap.size w w' := by
  obtain ⟨v1, x1, hr1, own1, gr1⟩ := run_append_bytes 22 w w.heap.size (.slice none 0 0) 0 [] (World.ownsRow_nil _ _ _ _) aa la ca A hA na (by omega) (Nat.le_refl _)
  have bl1 : Below w.heap.size w x1 := (Below.refl _ _).grown gr1 (Nat.le_refl _) (fun k e => by cases e)
  obtain ⟨v2, x2, hr2, own2, gr2⟩ := run_append_bytes 22 x1 w.heap.size v1 (0 + la) ([] ++ A) own1 ab lb cb B (hB.below bl1) nb (by omega) bl1.size
  have bl2 : Below w.heap.size w x2 := bl1.grown gr2 bl1.size (fun k e => (own1.lt _ e).1)
  simp only [List.nil_append] at own2
  obtain ⟨a2, c2, rfl, sn2, _, _⟩ := owned_seen own2 (by unfold maxLen; omega)
  have T2 : Tabs x2 := hT.below bl2 hT.size
  have A2 := hA.below bl2
  have B2 := hB.below bl2
  have hla : 0 + la + lb = la + lb := by omega
  rw [hla] at sn2
  obtain ⟨s, hs⟩ : ∃ r, Crc.more 0#32 (A ++ B) = r := ⟨_, rfl⟩
  obtain ⟨sa, hsa⟩ : ∃ r, Crc.more 0#32 A = r := ⟨_, rfl⟩
  obtain ⟨sb, hsb⟩ : ∃ r, Crc.more 0#32 B = r := ⟨_, rfl⟩
  have hm1 : Crc.more sa B = s := by rw [← hsa, ← Crc.more_append, hs]
  have hj1 : Crc.past sa lb ^^^ sb = s := by
    have := Crc.join_sums sa B; rw [← hB.1, hsb] at this; rw [this, hm1]
  have hj2 : Crc.past sa 0 ^^^ 0#32 = sa := by simp [Crc.past, Crc.Tn]
  have hm2 : Crc.more s [] = s := by simp [Crc.more, Crc.run]
  have HR1 : Hid _ := hr1
  have HR2 : Hid _ := hr2
  have H1 : Hid _ := hs
  have H2 : Hid _ := hsa
  have H3 : Hid _ := hsb
  have H4 : Hid _ := hm1
  have H5 : Hid _ := hj1
  have H6 : Hid _ := hj2
  have H7 : Hid _ := hm2
  have CJ : ∀ w', Below x2.heap.size x2 w' → Hid (Calls Tryd.prog 10 #[.int .u32 (U sa), .int .u32 0, .int .i64 0] w' fun e w'' => e = .returned (.tuple #[.int .u32 (U sa), .int .i64 0]) ∧ Below x2.heap.size x2 w'') := fun w' h => join_later h sa 0#32 0 (by omega) sa hj2
  clear hs hsa hsb hm1 hj1 hj2 hm2 hr1 hr2 own1 own2 gr1 gr2 hla
  go_enter Tryd.func4, Tryd.ntmps4
  go_wp2_with (first
    | (at_builtin; refine wpList_append_known rfl (.tmp 11) (.tmp 12) 22 22 rfl _ _ rfl rfl _ _ HR1.out ?_)
    | (at_builtin; refine wpList_append_known rfl (.tmp 14) (.tmp 15) 22 22 rfl _ _ rfl rfl _ _ HR2.out ?_))
  refine (sum_later c2 (Below.refl _ _) T2 sn2 H1.out).mono ?_
  rintro e y1 ⟨rfl, by1⟩
  go_wp2_with fail
  refine (sum_later ca by1 T2 A2 H2.out).mono ?_
  rintro e y2 ⟨rfl, by2⟩
  go_wp2_with fail
  refine (sum_later cb by2 T2 B2 H3.out).mono ?_
  rintro e y3 ⟨rfl, by3⟩
  go_wp2_with fail
  refine (join_later by3 sa sb lb (by omega) s H5.out).mono ?_
  rintro e y4 ⟨rfl, by4⟩
  go_wp2_with fail
  refine (sum_later ca by4 T2 A2 H2.out).mono ?_
  rintro e y5 ⟨rfl, by5⟩
  go_wp2_with fail
  refine (CJ _ by5).out.mono ?_
  rintro e y6 ⟨rfl, by6⟩
  go_wp2_with fail
  refine (sum_later ca by6 T2 A2 H2.out).mono ?_
  rintro e y7 ⟨rfl, by7⟩
  go_wp2_with fail
  refine (more_later cb sa s by7 T2 B2 H4.out).mono ?_
  rintro e y8 ⟨rfl, by8⟩
  go_wp2_with fail
  refine (more_later 0 s s by8 T2 (⟨rfl, by simp, .inl rfl⟩ : Seen x2 none 0 []) H7.out).mono ?_
  rintro e y9 ⟨rfl, by9⟩
  go_wp2_with fail
  refine (sum_later ca by9 T2 A2 H2.out).mono ?_
  rintro e y10 ⟨rfl, by10⟩
  go_wp2_with fail
  refine (known_later by10 T2).mono ?_
  rintro e y11 ⟨rfl, by11⟩
  go_wp2
  go_ret
  exact ⟨rfl, bl2.trans (by11.mono bl2.size)⟩
end Go.Proofs.YtdohclbkdifafaaDoor
