/- Package mover: askInstall. -/
import Derived.Test.YtcmhkeaimgppgaaMAskFor
namespace Go.Proofs.Ytcmhkeaimgppgaa
open Go.RowKit
attribute [local go_sem] Oper.semAt_some
set_option linter.unusedVariables false

/-- Up to where the next piece goes. -/
def endM (M : MD) : Nat := if M.d.length < M.at_ + 1000 then M.d.length else M.at_ + 1000
theorem endM_le (M : MD) : endM M ≤ M.d.length := by unfold endM; split <;> omega
theorem endM_ge {M : MD} (h : M.at_ ≤ M.d.length) : M.at_ ≤ endM M := by unfold endM; split <;> omega
theorem run_piece (w : World) (a : Option Addr) (at_ e len c : Nat) (h1 : at_ ≤ e) (h2 : e ≤ c) : (Instr.sliceAt 26 (.slice a len c) (some (.int .i64 (at_ : Int))) (some (.int .i64 (e : Int))) none).run Try.prog w = .ok (sliced a at_ e c 1) w := by
  have hu : Try.prog.underlying 26 = some (.slice (Try.prog.elem 26)) := by kernel_rfl
  rw [run_sliceAt_slice (t := 26) (h := hu), run_slice_lh (t := 26) (a := a) (len := len) (cap := c) (ht := hu) (kl := .i64) (kh := .i64) (h0 := by omega) (h1 := by omega) (h2 := by omega)]
  have e1 : Try.prog.elem 26 = 5 := by kernel_rfl
  rw [e1]
  have e5 : Try.t5.size = 1 := by kernel_rfl
  simp [sizeOf, go_sem, Result.andThen, e5]
set_option maxRecDepth 100000 in
set_option maxHeartbeats 1600000 in
theorem askInstall_any (M : MD) (x : MvD) (G : Nat) (a : Option Addr) (c : Nat) (w : World) (hG : w.heap[G]? = some (.cells #[.int .i64 M.n, .bool M.has, .slice a M.d.length c, .int .i64 M.at_] 74 (0, 0))) (hf : M.at_ ≤ M.d.length) (hl : M.d.length ≤ 140737488351232) (hc : M.d.length ≤ c) :
    Calls Try.prog 36 #[.pointer (some ⟨G, 0, none⟩), .agg #[.int .i64 x.slot, .int .i64 x.fr, .int .i64 x.to, .int .i64 x.ep, .int .i64 x.ph, .int .i64 x.n]] w fun e w' => e = .returned (.agg (AskV.cells (mAsk x.to 9 x.slot x.ep M.at_ (decide (endM M = M.d.length)) (sliced a M.at_ (endM M) c 1))).toArray) ∧ Below w.heap.size w w' := by
  have HP : Hid (∀ W, (Instr.sliceAt 26 (.slice a M.d.length c) (some (.int .i64 (M.at_ : Int))) (some (.int .i64 (endM M : Int))) none).run Try.prog W = .ok (sliced a M.at_ (endM M) c 1) W) := fun W => run_piece W a M.at_ (endM M) M.d.length c (endM_ge hf) (Nat.le_trans (endM_le M) hc)
  obtain ⟨sl, fr, to, ep, ph, n⟩ := x
  have HF := fun W => askFor_any ⟨sl, fr, to, ep, ph, n⟩ 9 to W
  simp only [mAsk_cells] at HF
  rw [mAsk_cells]
  obtain ⟨pa, pn, pc, hpv⟩ : ∃ pa pn pc, sliced a M.at_ (endM M) c 1 = .slice pa pn pc := ⟨_, _, _, rfl⟩
  rw [hpv] at HP ⊢
  obtain ⟨LB, hLB⟩ : ∃ LB : Bool, decide (endM M = M.d.length) = LB := ⟨_, rfl⟩
  have hLI : ((endM M : Int) == (M.d.length : Int)) = LB := by
    rw [← hLB]
    by_cases h : endM M = M.d.length
    · simp [h]
    · simp [h]; omega
  rw [hLB]
  clear hpv hLB
  have bA : Below w.heap.size w ((w.alloc (.cells #[.int .i64 sl, .int .i64 fr, .int .i64 to, .int .i64 ep, .int .i64 ph, .int .i64 n] 47)).alloc (.cells #[.int .i64 0, .int .i64 0, .int .i64 0, .string ⟨#[]⟩, .string ⟨#[]⟩, .int .i64 0, .string ⟨#[]⟩, .int .i64 0, .int .i64 0, .string ⟨#[]⟩, .string ⟨#[]⟩, .int .i64 0, .int .i64 0, .int .i64 0, .int .i64 0, .int .i64 0, .bool false, .slice none 0 0] 54)) := ((Below.refl _ w).alloc (Nat.le_refl _) _).alloc (by simp) _
  have q2 := heap_two w (.cells #[.int .i64 sl, .int .i64 fr, .int .i64 to, .int .i64 ep, .int .i64 ph, .int .i64 n] 47) (.cells #[.int .i64 0, .int .i64 0, .int .i64 0, .string ⟨#[]⟩, .string ⟨#[]⟩, .int .i64 0, .string ⟨#[]⟩, .int .i64 0, .int .i64 0, .string ⟨#[]⟩, .string ⟨#[]⟩, .int .i64 0, .int .i64 0, .int .i64 0, .int .i64 0, .int .i64 0, .bool false, .slice none 0 0] 54)
  have q1 : ((w.alloc (.cells #[.int .i64 sl, .int .i64 fr, .int .i64 to, .int .i64 ep, .int .i64 ph, .int .i64 n] 47)).alloc (.cells #[.int .i64 0, .int .i64 0, .int .i64 0, .string ⟨#[]⟩, .string ⟨#[]⟩, .int .i64 0, .string ⟨#[]⟩, .int .i64 0, .int .i64 0, .string ⟨#[]⟩, .string ⟨#[]⟩, .int .i64 0, .int .i64 0, .int .i64 0, .int .i64 0, .int .i64 0, .bool false, .slice none 0 0] 54)).heap[w.heap.size]? = some (.cells #[.int .i64 sl, .int .i64 fr, .int .i64 to, .int .i64 ep, .int .i64 ph, .int .i64 n] 47 (0, 0)) := by rw [Below.heap_alloc _ _ _ (by simp), heap_alloc_new]
  have hlt : G < w.heap.size := (Array.getElem?_eq_some_iff.1 hG).1
  have hG2 := (bA.block G hlt).trans hG
  go_enter Try.func36, Try.ntmps36
  go_wp2
  generalize (w.alloc (.cells #[.int .i64 sl, .int .i64 fr, .int .i64 to, .int .i64 ep, .int .i64 ph, .int .i64 n] 47)).alloc (.cells #[.int .i64 0, .int .i64 0, .int .i64 0, .string ⟨#[]⟩, .string ⟨#[]⟩, .int .i64 0, .string ⟨#[]⟩, .int .i64 0, .int .i64 0, .string ⟨#[]⟩, .string ⟨#[]⟩, .int .i64 0, .int .i64 0, .int .i64 0, .int .i64 0, .int .i64 0, .bool false, .slice none 0 0] 54) = V at *
  have x2 : V.cell? ⟨G, 2, none⟩ = some (.slice a M.d.length c) := by simp only [World.cell?, hG2]; rfl
  have x3 : V.cell? ⟨G, 3, none⟩ = some (.int .i64 M.at_) := by simp only [World.cell?, hG2]; rfl
  have hw : wrap64 ((M.at_ : Int) + 1000) = (M.at_ : Int) + 1000 := by unfold wrap64; omega
  have hmin : (if (M.d.length : Int) < (M.at_ : Int) + 1000 then (M.d.length : Int) else (M.at_ : Int) + 1000) = (endM M : Int) := by
    unfold endM
    by_cases h : M.d.length < M.at_ + 1000
    · rw [if_pos h, if_pos (by omega)]
    · rw [if_neg h, if_neg (by omega)]; omega
  go_quiet (fail)
  have bV : Below w.heap.size w (V.drewN nq) := below_drewN' bA nq
  have gV : (V.drewN nq).heap[G]? = some (.cells #[.int .i64 M.n, .bool M.has, .slice a M.d.length c, .int .i64 M.at_] 74 (0, 0)) := hG2
  have rV : (V.drewN nq).heap[w.heap.size]? = some (.cells #[.int .i64 sl, .int .i64 fr, .int .i64 to, .int .i64 ep, .int .i64 ph, .int .i64 n] 47 (0, 0)) := q1
  have sV : (V.drewN nq).heap[w.heap.size + 1]? = some (.cells #[.int .i64 0, .int .i64 0, .int .i64 0, .string ⟨#[]⟩, .string ⟨#[]⟩, .int .i64 0, .string ⟨#[]⟩, .int .i64 0, .int .i64 0, .string ⟨#[]⟩, .string ⟨#[]⟩, .int .i64 0, .int .i64 0, .int .i64 0, .int .i64 0, .int .i64 0, .bool false, .slice none 0 0] 54 (0, 0)) := q2
  generalize V.drewN nq = V1 at *
  clear bA hG2 q1 q2 x2 x3 hw hmin
  have y2 : V1.cell? ⟨w.heap.size, 2, none⟩ = some (.int .i64 to) := by simp only [World.cell?, rV]; rfl
  have RV : Hid _ := rV
  have BV : Hid _ := bV
  have GV : Hid _ := gV
  have SV : Hid _ := sV
  clear bV rV gV sV
  go_wp2_with (first | (refine wpList_load_row rfl 47 (.tmp 3) rfl w.heap.size rfl 47 _ (0, 0) _ RV.out Try.underlying47 rfl (by kernel_rfl) ?_))
  refine (HF _).mono ?_
  rintro e w2 ⟨rfl, b2⟩
  clear HF y2
  have n2 := heap_alloc_new w2 (.cells #[.int .i64 0, .int .i64 0, .int .i64 0, .string ⟨#[]⟩, .string ⟨#[]⟩, .int .i64 0, .string ⟨#[]⟩, .int .i64 0, .int .i64 0, .string ⟨#[]⟩, .string ⟨#[]⟩, .int .i64 0, .int .i64 0, .int .i64 0, .int .i64 0, .int .i64 0, .bool false, .slice none 0 0] 54)
  have bN : Below V1.heap.size V1 (w2.alloc (.cells #[.int .i64 0, .int .i64 0, .int .i64 0, .string ⟨#[]⟩, .string ⟨#[]⟩, .int .i64 0, .string ⟨#[]⟩, .int .i64 0, .int .i64 0, .string ⟨#[]⟩, .string ⟨#[]⟩, .int .i64 0, .int .i64 0, .int .i64 0, .int .i64 0, .int .i64 0, .bool false, .slice none 0 0] 54)) := b2.alloc b2.size _
  have BN : Hid _ := bN
  have N2 : Hid _ := n2
  have B2 : Hid _ := b2
  clear n2 bN b2
  obtain ⟨V3, e3⟩ : ∃ V3, V3 = (w2.alloc (.cells #[.int .i64 0, .int .i64 0, .int .i64 0, .string ⟨#[]⟩, .string ⟨#[]⟩, .int .i64 0, .string ⟨#[]⟩, .int .i64 0, .int .i64 0, .string ⟨#[]⟩, .string ⟨#[]⟩, .int .i64 0, .int .i64 0, .int .i64 0, .int .i64 0, .int .i64 0, .bool false, .slice none 0 0] 54)).setRow w2.heap.size #[.int .i64 to, .int .i64 9, .int .i64 0, .string ⟨#[]⟩, .string ⟨#[]⟩, .int .i64 0, .string ⟨#[]⟩, .int .i64 0, .int .i64 0, .string ⟨#[]⟩, .string ⟨#[]⟩, .int .i64 0, .int .i64 0, .int .i64 sl, .int .i64 ep, .int .i64 0, .bool false, .slice none 0 0] := ⟨_, rfl⟩
  have l1 : V1.heap.size ≤ w2.heap.size := B2.out.size
  have lS : w.heap.size + 1 < V1.heap.size := (Array.getElem?_eq_some_iff.1 SV.out).1
  have n3 : V3.heap[w2.heap.size]? = some (.cells #[.int .i64 to, .int .i64 9, .int .i64 0, .string ⟨#[]⟩, .string ⟨#[]⟩, .int .i64 0, .string ⟨#[]⟩, .int .i64 0, .int .i64 0, .string ⟨#[]⟩, .string ⟨#[]⟩, .int .i64 0, .int .i64 0, .int .i64 sl, .int .i64 ep, .int .i64 0, .bool false, .slice none 0 0] 54 (0, 0)) := by rw [e3]; exact setRow_self N2.out
  have b3 : Below V1.heap.size V1 V3 := by rw [e3]; exact below_row BN.out l1 _
  have lG : G < V1.heap.size := by omega
  have g3 : V3.heap[G]? = some (.cells #[.int .i64 M.n, .bool M.has, .slice a M.d.length c, .int .i64 M.at_] 74 (0, 0)) := (b3.block G lG).trans GV.out
  have s3 : V3.heap[w.heap.size + 1]? = some (.cells #[.int .i64 0, .int .i64 0, .int .i64 0, .string ⟨#[]⟩, .string ⟨#[]⟩, .int .i64 0, .string ⟨#[]⟩, .int .i64 0, .int .i64 0, .string ⟨#[]⟩, .string ⟨#[]⟩, .int .i64 0, .int .i64 0, .int .i64 0, .int .i64 0, .int .i64 0, .bool false, .slice none 0 0] 54 (0, 0)) := (b3.block _ lS).trans SV.out
  have bw3 : Below w.heap.size w V3 := BV.out.trans (b3.mono BV.out.size)
  have nG : G ≠ w2.heap.size := by omega
  have nS : w.heap.size + 1 ≠ w2.heap.size := by omega
  have lw : w.heap.size ≤ w2.heap.size := by omega
  have x2 : V3.cell? ⟨G, 2, none⟩ = some (.slice a M.d.length c) := by simp only [World.cell?, g3]; rfl
  have x3 : V3.cell? ⟨G, 3, none⟩ = some (.int .i64 M.at_) := by simp only [World.cell?, g3]; rfl
  have z15 : V3.cell? ⟨w2.heap.size, 15, none⟩ = some (.int .i64 0) := by simp only [World.cell?, n3]; rfl
  have f15 : V3.frozen? ⟨w2.heap.size, 15, none⟩ = false := by simp only [World.frozen?, n3]; rfl
  have E3 : Hid (V3 = (w2.alloc (.cells #[.int .i64 0, .int .i64 0, .int .i64 0, .string ⟨#[]⟩, .string ⟨#[]⟩, .int .i64 0, .string ⟨#[]⟩, .int .i64 0, .int .i64 0, .string ⟨#[]⟩, .string ⟨#[]⟩, .int .i64 0, .int .i64 0, .int .i64 0, .int .i64 0, .int .i64 0, .bool false, .slice none 0 0] 54)).setRow w2.heap.size #[.int .i64 to, .int .i64 9, .int .i64 0, .string ⟨#[]⟩, .string ⟨#[]⟩, .int .i64 0, .string ⟨#[]⟩, .int .i64 0, .int .i64 0, .string ⟨#[]⟩, .string ⟨#[]⟩, .int .i64 0, .int .i64 0, .int .i64 sl, .int .i64 ep, .int .i64 0, .bool false, .slice none 0 0]) := e3
  have N3 : Hid _ := n3
  have G3 : Hid _ := g3
  have S3 : Hid _ := s3
  have BW3 : Hid _ := bw3
  clear e3 n3 b3 g3 s3 bw3 l1 lS lG
  go_wp2_with (first | (refine wpList_store_row rfl 54 (.tmp 6) (.tmp 21) rfl w2.heap.size #[.int .i64 to, .int .i64 9, .int .i64 0, .string ⟨#[]⟩, .string ⟨#[]⟩, .int .i64 0, .string ⟨#[]⟩, .int .i64 0, .int .i64 0, .string ⟨#[]⟩, .string ⟨#[]⟩, .int .i64 0, .int .i64 0, .int .i64 sl, .int .i64 ep, .int .i64 0, .bool false, .slice none 0 0] rfl rfl 54 _ N2.out (by kernel_rfl) rfl (by simp [Value.oneCell']) ?_; rw [← E3.out]))
  generalize w2.heap.size = N at *
  have e4 : V3.setCell ⟨N, 15, none⟩ (.int .i64 M.at_) = V3.setRow N #[.int .i64 to, .int .i64 9, .int .i64 0, .string ⟨#[]⟩, .string ⟨#[]⟩, .int .i64 0, .string ⟨#[]⟩, .int .i64 0, .int .i64 0, .string ⟨#[]⟩, .string ⟨#[]⟩, .int .i64 0, .int .i64 0, .int .i64 sl, .int .i64 ep, .int .i64 M.at_, .bool false, .slice none 0 0] := (setCell_eq_setRow V3 N 15 _ _ _ (.int .i64 M.at_) N3.out).trans rfl
  rw [e4]
  clear E3 N2 BN B2 z15 f15 x2 x3 e4
  have n4 := setRow_self (cs' := #[.int .i64 to, .int .i64 9, .int .i64 0, .string ⟨#[]⟩, .string ⟨#[]⟩, .int .i64 0, .string ⟨#[]⟩, .int .i64 0, .int .i64 0, .string ⟨#[]⟩, .string ⟨#[]⟩, .int .i64 0, .int .i64 0, .int .i64 sl, .int .i64 ep, .int .i64 M.at_, .bool false, .slice none 0 0]) N3.out
  have g4 := (setRow_other V3 N G (#[.int .i64 to, .int .i64 9, .int .i64 0, .string ⟨#[]⟩, .string ⟨#[]⟩, .int .i64 0, .string ⟨#[]⟩, .int .i64 0, .int .i64 0, .string ⟨#[]⟩, .string ⟨#[]⟩, .int .i64 0, .int .i64 0, .int .i64 sl, .int .i64 ep, .int .i64 M.at_, .bool false, .slice none 0 0]) nG).trans G3.out
  have s4 := (setRow_other V3 N (w.heap.size + 1) (#[.int .i64 to, .int .i64 9, .int .i64 0, .string ⟨#[]⟩, .string ⟨#[]⟩, .int .i64 0, .string ⟨#[]⟩, .int .i64 0, .int .i64 0, .string ⟨#[]⟩, .string ⟨#[]⟩, .int .i64 0, .int .i64 0, .int .i64 sl, .int .i64 ep, .int .i64 M.at_, .bool false, .slice none 0 0]) nS).trans S3.out
  have bw4 := below_row BW3.out lw (#[.int .i64 to, .int .i64 9, .int .i64 0, .string ⟨#[]⟩, .string ⟨#[]⟩, .int .i64 0, .string ⟨#[]⟩, .int .i64 0, .int .i64 0, .string ⟨#[]⟩, .string ⟨#[]⟩, .int .i64 0, .int .i64 0, .int .i64 sl, .int .i64 ep, .int .i64 M.at_, .bool false, .slice none 0 0])
  clear N3 G3 S3 BW3
  generalize V3.setRow N #[.int .i64 to, .int .i64 9, .int .i64 0, .string ⟨#[]⟩, .string ⟨#[]⟩, .int .i64 0, .string ⟨#[]⟩, .int .i64 0, .int .i64 0, .string ⟨#[]⟩, .string ⟨#[]⟩, .int .i64 0, .int .i64 0, .int .i64 sl, .int .i64 ep, .int .i64 M.at_, .bool false, .slice none 0 0] = V4 at *
  have x2 : V4.cell? ⟨G, 2, none⟩ = some (.slice a M.d.length c) := by simp only [World.cell?, g4]; rfl
  have x3 : V4.cell? ⟨G, 3, none⟩ = some (.int .i64 M.at_) := by simp only [World.cell?, g4]; rfl
  have z17 : V4.cell? ⟨N, 17, none⟩ = some (.slice none 0 0) := by simp only [World.cell?, n4]; rfl
  have f17 : V4.frozen? ⟨N, 17, none⟩ = false := by simp only [World.frozen?, n4]; rfl
  have hp := HP.out
  have N4 : Hid _ := n4
  have G4 : Hid _ := g4
  have S4 : Hid _ := s4
  have BW4 : Hid _ := bw4
  clear n4 g4 s4 bw4 hG
  go_region
  have e5 : V4.setCell ⟨N, 17, none⟩ (.slice pa pn pc) = V4.setRow N #[.int .i64 to, .int .i64 9, .int .i64 0, .string ⟨#[]⟩, .string ⟨#[]⟩, .int .i64 0, .string ⟨#[]⟩, .int .i64 0, .int .i64 0, .string ⟨#[]⟩, .string ⟨#[]⟩, .int .i64 0, .int .i64 0, .int .i64 sl, .int .i64 ep, .int .i64 M.at_, .bool false, .slice pa pn pc] := (setCell_eq_setRow V4 N 17 _ _ _ (.slice pa pn pc) N4.out).trans rfl
  rw [e5]
  have n5 : (V4.setRow N #[.int .i64 to, .int .i64 9, .int .i64 0, .string ⟨#[]⟩, .string ⟨#[]⟩, .int .i64 0, .string ⟨#[]⟩, .int .i64 0, .int .i64 0, .string ⟨#[]⟩, .string ⟨#[]⟩, .int .i64 0, .int .i64 0, .int .i64 sl, .int .i64 ep, .int .i64 M.at_, .bool false, .slice pa pn pc]).drew.heap[N]? = some (.cells #[.int .i64 to, .int .i64 9, .int .i64 0, .string ⟨#[]⟩, .string ⟨#[]⟩, .int .i64 0, .string ⟨#[]⟩, .int .i64 0, .int .i64 0, .string ⟨#[]⟩, .string ⟨#[]⟩, .int .i64 0, .int .i64 0, .int .i64 sl, .int .i64 ep, .int .i64 M.at_, .bool false, .slice pa pn pc] 54 (0, 0)) := setRow_self N4.out
  have g5 : (V4.setRow N #[.int .i64 to, .int .i64 9, .int .i64 0, .string ⟨#[]⟩, .string ⟨#[]⟩, .int .i64 0, .string ⟨#[]⟩, .int .i64 0, .int .i64 0, .string ⟨#[]⟩, .string ⟨#[]⟩, .int .i64 0, .int .i64 0, .int .i64 sl, .int .i64 ep, .int .i64 M.at_, .bool false, .slice pa pn pc]).drew.heap[G]? = _ := (setRow_other V4 N G (#[.int .i64 to, .int .i64 9, .int .i64 0, .string ⟨#[]⟩, .string ⟨#[]⟩, .int .i64 0, .string ⟨#[]⟩, .int .i64 0, .int .i64 0, .string ⟨#[]⟩, .string ⟨#[]⟩, .int .i64 0, .int .i64 0, .int .i64 sl, .int .i64 ep, .int .i64 M.at_, .bool false, .slice pa pn pc]) nG).trans G4.out
  have s5 : (V4.setRow N #[.int .i64 to, .int .i64 9, .int .i64 0, .string ⟨#[]⟩, .string ⟨#[]⟩, .int .i64 0, .string ⟨#[]⟩, .int .i64 0, .int .i64 0, .string ⟨#[]⟩, .string ⟨#[]⟩, .int .i64 0, .int .i64 0, .int .i64 sl, .int .i64 ep, .int .i64 M.at_, .bool false, .slice pa pn pc]).drew.heap[w.heap.size + 1]? = _ := (setRow_other V4 N (w.heap.size + 1) (#[.int .i64 to, .int .i64 9, .int .i64 0, .string ⟨#[]⟩, .string ⟨#[]⟩, .int .i64 0, .string ⟨#[]⟩, .int .i64 0, .int .i64 0, .string ⟨#[]⟩, .string ⟨#[]⟩, .int .i64 0, .int .i64 0, .int .i64 sl, .int .i64 ep, .int .i64 M.at_, .bool false, .slice pa pn pc]) nS).trans S4.out
  have bw5 : Below w.heap.size w (V4.setRow N #[.int .i64 to, .int .i64 9, .int .i64 0, .string ⟨#[]⟩, .string ⟨#[]⟩, .int .i64 0, .string ⟨#[]⟩, .int .i64 0, .int .i64 0, .string ⟨#[]⟩, .string ⟨#[]⟩, .int .i64 0, .int .i64 0, .int .i64 sl, .int .i64 ep, .int .i64 M.at_, .bool false, .slice pa pn pc]).drew := (below_row BW4.out lw (#[.int .i64 to, .int .i64 9, .int .i64 0, .string ⟨#[]⟩, .string ⟨#[]⟩, .int .i64 0, .string ⟨#[]⟩, .int .i64 0, .int .i64 0, .string ⟨#[]⟩, .string ⟨#[]⟩, .int .i64 0, .int .i64 0, .int .i64 sl, .int .i64 ep, .int .i64 M.at_, .bool false, .slice pa pn pc])).drew
  clear N4 G4 S4 BW4 x2 x3 z17 f17 e5 hp HP
  generalize (V4.setRow N #[.int .i64 to, .int .i64 9, .int .i64 0, .string ⟨#[]⟩, .string ⟨#[]⟩, .int .i64 0, .string ⟨#[]⟩, .int .i64 0, .int .i64 0, .string ⟨#[]⟩, .string ⟨#[]⟩, .int .i64 0, .int .i64 0, .int .i64 sl, .int .i64 ep, .int .i64 M.at_, .bool false, .slice pa pn pc]).drew = V5 at *
  have x2 : V5.cell? ⟨G, 2, none⟩ = some (.slice a M.d.length c) := by simp only [World.cell?, g5]; rfl
  have z16 : V5.cell? ⟨N, 16, none⟩ = some (.bool false) := by simp only [World.cell?, n5]; rfl
  have f16 : V5.frozen? ⟨N, 16, none⟩ = false := by simp only [World.frozen?, n5]; rfl
  have e6 : V5.setCell ⟨N, 16, none⟩ (.bool LB) = V5.setRow N #[.int .i64 to, .int .i64 9, .int .i64 0, .string ⟨#[]⟩, .string ⟨#[]⟩, .int .i64 0, .string ⟨#[]⟩, .int .i64 0, .int .i64 0, .string ⟨#[]⟩, .string ⟨#[]⟩, .int .i64 0, .int .i64 0, .int .i64 sl, .int .i64 ep, .int .i64 M.at_, .bool LB, .slice pa pn pc] := (setCell_eq_setRow V5 N 16 _ _ _ (.bool LB) n5).trans rfl
  have n6 : (V5.setCell ⟨N, 16, none⟩ (.bool LB)).heap[N]? = some (.cells #[.int .i64 to, .int .i64 9, .int .i64 0, .string ⟨#[]⟩, .string ⟨#[]⟩, .int .i64 0, .string ⟨#[]⟩, .int .i64 0, .int .i64 0, .string ⟨#[]⟩, .string ⟨#[]⟩, .int .i64 0, .int .i64 0, .int .i64 sl, .int .i64 ep, .int .i64 M.at_, .bool LB, .slice pa pn pc] 54 (0, 0)) := by rw [e6]; exact setRow_self n5
  have s6 : (V5.setCell ⟨N, 16, none⟩ (.bool LB)).heap[w.heap.size + 1]? = some (.cells #[.int .i64 0, .int .i64 0, .int .i64 0, .string ⟨#[]⟩, .string ⟨#[]⟩, .int .i64 0, .string ⟨#[]⟩, .int .i64 0, .int .i64 0, .string ⟨#[]⟩, .string ⟨#[]⟩, .int .i64 0, .int .i64 0, .int .i64 0, .int .i64 0, .int .i64 0, .bool false, .slice none 0 0] 54 (0, 0)) := by rw [e6]; exact (setRow_other V5 N (w.heap.size + 1) (#[.int .i64 to, .int .i64 9, .int .i64 0, .string ⟨#[]⟩, .string ⟨#[]⟩, .int .i64 0, .string ⟨#[]⟩, .int .i64 0, .int .i64 0, .string ⟨#[]⟩, .string ⟨#[]⟩, .int .i64 0, .int .i64 0, .int .i64 sl, .int .i64 ep, .int .i64 M.at_, .bool LB, .slice pa pn pc]) nS).trans s5
  have bw6 : Below w.heap.size w (V5.setCell ⟨N, 16, none⟩ (.bool LB)) := by rw [e6]; exact below_row bw5 lw (#[.int .i64 to, .int .i64 9, .int .i64 0, .string ⟨#[]⟩, .string ⟨#[]⟩, .int .i64 0, .string ⟨#[]⟩, .int .i64 0, .int .i64 0, .string ⟨#[]⟩, .string ⟨#[]⟩, .int .i64 0, .int .i64 0, .int .i64 sl, .int .i64 ep, .int .i64 M.at_, .bool LB, .slice pa pn pc])
  have N6 : Hid _ := n6
  have S6 : Hid _ := s6
  have BW6 : Hid _ := bw6
  clear n5 g5 s5 bw5 e6 n6 s6 bw6
  go_wp2_with (first
    | (refine wpList_load_row rfl 54 (.tmp 6) rfl N rfl 54 _ (0, 0) _ N6.out Try.underlying54 rfl (by kernel_rfl) ?_)
    | (refine wpList_store_row rfl 54 (.tmp 4) (.tmp 49) rfl (w.heap.size + 1) #[.int .i64 to, .int .i64 9, .int .i64 0, .string ⟨#[]⟩, .string ⟨#[]⟩, .int .i64 0, .string ⟨#[]⟩, .int .i64 0, .int .i64 0, .string ⟨#[]⟩, .string ⟨#[]⟩, .int .i64 0, .int .i64 0, .int .i64 sl, .int .i64 ep, .int .i64 M.at_, .bool LB, .slice pa pn pc] rfl rfl 54 _ S6.out (by kernel_rfl) rfl (by simp [Value.oneCell']) ?_))
  exact bodyPost_ret (results_cell_row rfl _ _ (w.heap.size + 1) 54 _ _ _ rfl (setRow_self S6.out) Try.underlying54 rfl (by kernel_rfl)) rfl ⟨rfl, below_row BW6.out (by omega) _⟩
end Go.Proofs.Ytcmhkeaimgppgaa
