/- The statement CrcNoughts: bytes with noughts behind them, joined in one step or two; here the walk. -/
import Derived.Test.YtdohclbkdifafaaDoorJoin
import Derived.Test.YtdohclbkdifafaaDoorAppends
import Derived.Test.YtdohclbkdifafaaDoorTells
import Derived.Deep.OwnRows
namespace Go.Proofs.YtdohclbkdifafaaDoor
open Go.RowKit
set_option linter.unusedVariables false

/-- make([]byte, n): the run. -/
theorem made_noughts (k : Nat) : madeCells #[Value.int .u8 0] k = (cellsOf (noughts k)).toArray := by
  apply Array.ext
  · simp [madeCells, cellsOf, noughts]
  · intro i h1 h2
    simp [madeCells, cellsOf, noughts, V, Nat.mod_one]
theorem run_make_noughts (k : Nat) (hk : k ≤ 1000) (w : World) : (Instr.makeSlice 22 (.int .i64 (k : Int)) (.int .i64 (k : Int))).run Tryd.prog w = .ok (.slice (some ⟨w.heap.size, 0, none⟩) k k) (w.alloc (.cells (cellsOf (noughts k)).toArray 5)) := by
  rw [← made_noughts]
  exact run_make_row' 22 5 (.int .u8 0) 1 Tryd.underlying22 info5 rfl .i64 .i64 k (by omega) (by omega) w
theorem sum_fresh {w0 y : World} (hb : Below w0.heap.size w0 y) (hT : Tabs w0) (k : Nat) (hk : k ≤ 1000) (r : Crc.W) (hr : Crc.more 0#32 (noughts k) = r) :
    Calls Tryd.prog 12 #[.slice (some ⟨y.heap.size, 0, none⟩) k k] (y.alloc (.cells (cellsOf (noughts k)).toArray 5)) fun e w' => e = .returned (.int .u32 (U r)) ∧ Below w0.heap.size w0 w' := by
  subst hr
  refine (sum_new y (noughts k) _ _ k k 5 (0, 0) (hT.below hb hT.size) rfl rfl (noughts_length k).symm (by rw [noughts_length]; unfold maxLen; omega)).mono ?_
  rintro e w' ⟨he, m, rfl⟩
  exact ⟨he, below_drewN' (hb.alloc hb.size _) m⟩
theorem join_later {w0 w : World} (hb : Below w0.heap.size w0 w) (a b : Crc.W) (n : Nat) (h : n ≤ 1099511627776) (r : Crc.W) (hr : Crc.past a n ^^^ b = r) :
    Calls Tryd.prog 10 #[.int .u32 (U a), .int .u32 (U b), .int .i64 (n : Int)] w fun e w' => e = .returned (.tuple #[.int .u32 (U r), .int .i64 0]) ∧ Below w0.heap.size w0 w' := by
  subst hr
  refine (join_yes a b n h w).mono ?_
  rintro e w' ⟨he, hb'⟩
  exact ⟨he, hb.trans (hb'.mono hb.size)⟩
theorem noughts_add (n m : Nat) : noughts n ++ noughts m = noughts (n + m) := by simp [noughts, List.replicate_append_replicate]
set_option maxRecDepth 100000 in
set_option maxHeartbeats 1600000 in
theorem noughts_walk (aa : Option Addr) (la ca : Nat) (A : List (BitVec 8)) (n0 m0 : Int) (w : World) (hT : Tabs w) (hA : Seen w aa la A) (hnil : aa = none → ca = 0) (ka : la ≤ ca) (ma : ca ≤ 140737488351232)
    (w1 : (Lit.int .i64 n0).wf = true) (w2 : (Lit.int .i64 m0).wf = true) :
    Calls Tryd.prog 7 #[.slice aa la ca, .int .i64 n0, .int .i64 m0] w fun e w' => e = .returned (.bool true) ∧ Below w.heap.size w w' := by
  have hn0 : -9223372036854775808 ≤ n0 ∧ n0 ≤ 9223372036854775807 := by simpa [Lit.wf, IntKind.min, IntKind.max, IntKind.bits, IntKind.signed] using w1
  have hm0 : -9223372036854775808 ≤ m0 ∧ m0 ≤ 9223372036854775807 := by simpa [Lit.wf, IntKind.min, IntKind.max, IntKind.bits, IntKind.signed] using w2
  obtain ⟨n, hn⟩ : ∃ s : Nat, n0 % 500 = (s : Int) := ⟨(n0 % 500).toNat, by omega⟩
  obtain ⟨m, hm⟩ : ∃ s : Nat, m0 % 500 = (s : Int) := ⟨(m0 % 500).toNat, by omega⟩
  have hn1 : n < 500 := by omega
  have hm1 : m < 500 := by omega
  have C1 : Hid (Calls Tryd.prog 20 #[.int .i64 n0, .int .i64 500] w fun e w' => e = .returned (.int .i64 (n : Int)) ∧ w' = w) := by
    have := count_any n0 500 w hn0.1 hn0.2 (by omega) (by omega)
    rw [hn] at this
    exact this
  have C2 : Hid (Calls Tryd.prog 20 #[.int .i64 m0, .int .i64 500] w fun e w' => e = .returned (.int .i64 (m : Int)) ∧ w' = w) := by
    have := count_any m0 500 w hm0.1 hm0.2 (by omega) (by omega)
    rw [hm] at this
    exact this
  obtain ⟨v1, x1, hr1, own1, gr1⟩ := run_append_bytes 22 w w.heap.size (.slice none 0 0) 0 [] (World.ownsRow_nil _ _ _ _) aa la ca A hA hnil (by omega) (Nat.le_refl _)
  have bl1 : Below w.heap.size w x1 := (Below.refl _ _).grown gr1 (Nat.le_refl _) (fun k e => by cases e)
  obtain ⟨v2, x2, hr2, own2, gr2⟩ := run_append_zeros 22 x1 w.heap.size v1 (0 + la) ([] ++ A) own1 (n + m) (by omega) bl1.size
  have bl2 : Below w.heap.size w x2 := bl1.grown gr2 bl1.size (fun k e => (own1.lt _ e).1)
  simp only [List.nil_append] at own2
  obtain ⟨a2, c2, rfl, sn2, _, _⟩ := owned_seen own2 (by unfold maxLen; omega)
  have ec : ((n + m : Nat) : Int) = (n : Int) + (m : Int) := by omega
  rw [ec] at hr2
  have HR1 : Hid _ := hr1
  have HR2 : Hid _ := hr2
  clear hn hm w1 w2 hn0 hm0 own1 own2 gr1 gr2 ec hr1 hr2
  go_enter Tryd.func7, Tryd.ntmps7
  go_wp2_with fail
  refine C1.out.mono ?_
  rintro e w1 ⟨rfl, rfl⟩
  go_wp2_with fail
  refine C2.out.mono ?_
  rintro e w1 ⟨rfl, rfl⟩
  clear C1 C2
  go_wp2_with (first
    | (at_builtin; refine wpList_append_known rfl (.tmp 19) (.tmp 20) 22 22 rfl _ _ rfl rfl _ _ HR1.out ?_)
    | (at_builtin; refine wpList_append_known rfl (.tmp 22) (.tmp 25) 22 3 rfl _ _ rfl rfl _ _ HR2.out ?_))
  obtain ⟨s, hs⟩ : ∃ r, Crc.more 0#32 A = r := ⟨_, rfl⟩
  obtain ⟨rn, hrn⟩ : ∃ r, Crc.more 0#32 (noughts n) = r := ⟨_, rfl⟩
  obtain ⟨rm, hrm⟩ : ∃ r, Crc.more 0#32 (noughts m) = r := ⟨_, rfl⟩
  obtain ⟨rnm, hrnm⟩ : ∃ r, Crc.more 0#32 (noughts (n + m)) = r := ⟨_, rfl⟩
  obtain ⟨x, hx⟩ : ∃ r, Crc.past s n ^^^ rn = r := ⟨_, rfl⟩
  obtain ⟨z, hz⟩ : ∃ r, Crc.past s (n + m) ^^^ rnm = r := ⟨_, rfl⟩
  have hz1 : Crc.more s (noughts (n + m)) = z := by
    have := Crc.join_sums s (noughts (n + m)); rw [noughts_length, hrnm, hz] at this; exact this.symm
  have hx1 : Crc.more s (noughts n) = x := by
    have := Crc.join_sums s (noughts n); rw [noughts_length, hrn, hx] at this; exact this.symm
  have hy : Crc.past x m ^^^ rm = z := by
    have := Crc.join_sums x (noughts m); rw [noughts_length, hrm] at this
    rw [this, ← hx1, ← Crc.more_append, noughts_add, hz1]
  have hall : Crc.more 0#32 (A ++ noughts (n + m)) = z := by rw [Crc.more_append, hs, hz1]
  have hm1' := fun w => run_make_noughts n (by omega) w
  have hm2' := fun w => run_make_noughts m (by omega) w
  have hm3' := fun w => run_make_noughts (n + m) (by omega) w
  have ec : ((n + m : Nat) : Int) = (n : Int) + (m : Int) := by omega
  rw [ec] at hm3'
  have CJ : ∀ w', Below x2.heap.size x2 w' → Hid (Calls Tryd.prog 10 #[.int .u32 (U s), .int .u32 (U rnm), .int .i64 ((n : Int) + (m : Int))] w' fun e w'' => e = .returned (.tuple #[.int .u32 (U z), .int .i64 0]) ∧ Below x2.heap.size x2 w'') := fun w' h => by
    rw [← ec]; exact join_later h s rnm (n + m) (by omega) z hz
  clear ec
  have H1 : Hid _ := hx
  have H2 : Hid _ := hy
  have H3 : Hid _ := hall
  have G1 : Hid _ := hrn
  have G2 : Hid _ := hrm
  have G3 : Hid _ := hrnm
  clear hx hy hall hrn hrm hrnm hz hz1 hx1
  have T2 : Tabs x2 := hT.below bl2 hT.size
  have A2 := hA.below bl2
  refine (sum_later ca (Below.refl _ _) T2 A2 hs).mono ?_
  clear hs
  rintro e y1 ⟨rfl, by1⟩
  go_wp2_with fail
  refine (sum_fresh by1 T2 n (by omega) rn G1.out).mono ?_
  rintro e y2 ⟨rfl, by2⟩
  go_wp2_with fail
  refine (join_later by2 s rn n (by omega) x H1.out).mono ?_
  rintro e y3 ⟨rfl, by3⟩
  go_wp2_with fail
  refine (sum_fresh by3 T2 m (by omega) rm G2.out).mono ?_
  rintro e y4 ⟨rfl, by4⟩
  go_wp2_with fail
  refine (join_later by4 x rm m (by omega) z H2.out).mono ?_
  rintro e y5 ⟨rfl, by5⟩
  go_wp2_with fail
  refine (sum_fresh by5 T2 (n + m) (by omega) rnm G3.out).mono ?_
  rintro e y6 ⟨rfl, by6⟩
  go_wp2_with fail
  refine (CJ _ by6).out.mono ?_
  rintro e y7 ⟨rfl, by7⟩
  go_wp2_with fail
  have hla : 0 + la + (n + m) = la + (n + m) := by omega
  rw [hla] at sn2
  refine (sum_later c2 by7 T2 sn2 H3.out).mono ?_
  rintro e y8 ⟨rfl, by8⟩
  clear hla
  go_wp2_with fail
  refine (known_later by8 T2).mono ?_
  rintro e y9 ⟨rfl, by9⟩
  go_wp2
  go_ret
  exact ⟨rfl, bl2.trans (by9.mono bl2.size)⟩
end Go.Proofs.YtdohclbkdifafaaDoor
