/- The law's terms. -/
import Derived.Test.YtikedglcicgdhaaLMatch
namespace Go.Proofs.Ytikedglcicgdhaa
open Go.RowKit
attribute [local go_sem] Oper.semAt_some
set_option linter.unusedVariables false

/-- While entries of terms are made. -/
structure TermSt (w w' : World) (v : Value) (k : Nat) (ts : List Int) (fs : List EntV) : Prop where
  row : w'.ownsRow w.heap.size 50 2 v k (entCells fs)
  len : fs.length = k
  ts : fs.map (·.1.1) = ts.take k
  dat : ∀ e ∈ fs, DataAt w' e.2 e.1.2
  below : Below w.heap.size w w'
theorem byteV (k : Nat) : ((k : Int) % 256) = V (BitVec.ofNat 8 k) := by
  unfold V
  rw [BitVec.toNat_ofNat]
  omega
theorem seen_one (w : World) (b : BitVec 8) (fr : Nat × Nat) : Seen (w.alloc (.cells #[.int .u8 (V b)] 5 fr)) (some ⟨w.heap.size, 0, none⟩) 1 [b] := by
  have q := heap_alloc_new w (.cells #[.int .u8 (V b)] 5 fr)
  refine ⟨rfl, by unfold maxLen; simp, .inr ⟨w.heap.size, 0, rfl, fun j hj => ?_⟩⟩
  obtain rfl : j = 0 := by simpa using hj
  unfold World.cell?
  simp only [q]
  rfl
set_option maxRecDepth 100000 in
set_option maxHeartbeats 1600000 in
theorem terms_any (w : World) (g : Nat) (ts : List Int) (hn : ts.length ≤ 100) (hc : ∀ j (hj : j < ts.length), w.cell? ⟨g, j, none⟩ = some (.int .i64 ts[j])) :
    Calls Try.prog 25 #[.slice (some ⟨g, 0, none⟩) ts.length ts.length] w fun e w' => ∃ a c fs, e = .returned (.slice a ts.length c) ∧ TermSt w w' (.slice a ts.length c) ts.length ts fs := by
  have HC : Hid (∀ j (hj : j < ts.length), w.cell? ⟨g, j, none⟩ = some (.int .i64 ts[j])) := hc
  obtain ⟨n, en⟩ : ∃ n, ts.length = n := ⟨_, rfl⟩
  have EN : Hid (ts.length = n) := en
  rw [en] at hn
  rw [en]
  clear hc en
  go_enter Try.func25, Try.ntmps25
  go_wp2
  go_loopw [3, 4] (fun r i wr => ∃ (k : Nat) (ra : Option Addr) (rc : Nat) (fs : List EntV), k ≤ n ∧ i = .int .i64 k ∧ r = .slice ra k rc ∧ Hid (TermSt w wr (.slice ra k rc) k ts fs)) (fun _ i _ => n - (intOf i).toNat)
  case atStart => exact ⟨0, none, 0, [], Nat.zero_le _, rfl, rfl, ⟨World.ownsRow_nil _ _ _ _, rfl, rfl, (fun e he => by cases he), Below.refl _ _⟩⟩
  case round =>
    obtain ⟨k, ra, rc, fs, hk, rfl, rfl, S⟩ := hrel
    by_cases hlt : k < n
    · have hkt : k < ts.length := by rw [EN.out]; exact hlt
      have ck := HC.out k hkt
      have ckr : wr.cell? ⟨g, k, none⟩ = some (.int .i64 ts[k]) := by rw [S.out.below.cell (p := ⟨g, k, none⟩) (World.block_lt_of_cell? w _ ck)]; exact ck
      have hbv := byteV k
      obtain ⟨x, ex⟩ : ∃ x, BitVec.ofNat 8 k = x := ⟨_, rfl⟩
      rw [ex] at hbv
      have hV : V x = (k : Int) := by rw [← hbv]; omega
      clear hbv
      have b1 := (Below.refl _ wr).alloc (Nat.le_refl _) (.cells #[.int .u8 (V x)] 5)
      have b2 := b1.alloc (by simp) (.cells #[.int .i64 ts[k], .slice (some ⟨wr.heap.size, 0, none⟩) 1 1] 50)
      have sx := (seen_one wr x (0, 0)).below ((Below.refl _ _).alloc (Nat.le_refl _) (.cells #[.int .i64 ts[k], .slice (some ⟨wr.heap.size, 0, none⟩) 1 1] 50))
      have d1 : DataAt ((wr.alloc (.cells #[.int .u8 (V x)] 5)).alloc (.cells #[.int .i64 ts[k], .slice (some ⟨wr.heap.size, 0, none⟩) 1 1] 50)) (.slice (some ⟨wr.heap.size, 0, none⟩) 1 1) [x] := by
        refine ⟨⟨_, _, rfl, sx, (fun e => by cases e), by simp⟩, fun a' n' c' e' y ey _ => ?_⟩
        cases e'
        cases ey
        exact ⟨_, _, (((Below.refl _ (wr.alloc (.cells #[.int .u8 (V x)] 5))).alloc (Nat.le_refl _) _).block wr.heap.size (by simp)).trans (heap_alloc_new wr _)⟩
      have r1 : RawAt ((wr.alloc (.cells #[.int .u8 (V x)] 5)).alloc (.cells #[.int .i64 ts[k], .slice (some ⟨wr.heap.size, 0, none⟩) 1 1] 50)) (some ⟨wr.heap.size + 1, 0, none⟩) [((ts[k], [x]), .slice (some ⟨wr.heap.size, 0, none⟩) 1 1)] := by
        have q := heap_alloc_new (wr.alloc (.cells #[.int .u8 (V x)] 5)) (.cells #[.int .i64 ts[k], .slice (some ⟨wr.heap.size, 0, none⟩) 1 1] 50)
        rw [World.size_alloc] at q
        refine .inr ⟨_, 0, rfl, fun j hj => ?_⟩
        obtain rfl : j = 0 := by simpa using hj
        constructor <;> (unfold World.cell?; simp only [Nat.zero_mul, Nat.zero_add, q]; rfl)
      obtain ⟨v5, w5, hr, o5, g5, hb⟩ := run_append_ents 22 ((wr.alloc (.cells #[.int .u8 (V x)] 5)).alloc (.cells #[.int .i64 ts[k], .slice (some ⟨wr.heap.size, 0, none⟩) 1 1] 50)) w.heap.size (.slice ra k rc) k fs ((S.out.row.alloc _).alloc _) (some ⟨wr.heap.size + 1, 0, none⟩) 1 1 [((ts[k], [x]), .slice (some ⟨wr.heap.size, 0, none⟩) 1 1)] rfl r1 (fun e he => by obtain rfl := List.mem_singleton.1 he; rfl) (fun e => by cases e) (by omega) (by have := S.out.below.size; simp; omega)
      obtain ⟨a5, c5, hv, _⟩ := row_form o5
      rw [hv] at hr o5
      have ok : ∀ y, B8At ((wr.alloc (.cells #[.int .u8 (V x)] 5)).alloc (.cells #[.int .i64 ts[k], .slice (some ⟨wr.heap.size, 0, none⟩) 1 1] 50)) y → w5.heap[y]? = ((wr.alloc (.cells #[.int .u8 (V x)] 5)).alloc (.cells #[.int .i64 ts[k], .slice (some ⟨wr.heap.size, 0, none⟩) 1 1] 50)).heap[y]? := fun y ⟨cs, z, e⟩ => g5.block y (Array.getElem?_eq_some_iff.1 e).1 (fun e2 => by
        obtain ⟨_, _, cur, e3⟩ := row_kind ((S.out.row.alloc _).alloc _) e2.symm
        rw [e] at e3
        injection e3 with e3
        injection e3 with _ e4
        exact absurd e4 (by decide))
      have S5 : Hid (TermSt w w5 (.slice a5 (k + 1) c5) (k + 1) ts (fs ++ [((ts[k], [x]), .slice (some ⟨wr.heap.size, 0, none⟩) 1 1)])) := by
        refine ⟨o5, by simp [S.out.len], ?_, fun e he => ?_, ?_⟩
        · rw [List.map_append, S.out.ts, List.take_add_one, List.getElem?_eq_getElem hkt]
          rfl
        · rcases List.mem_append.1 he with he | he
          · exact ((S.out.dat e he).below b2).keep ok
          · obtain rfl := List.mem_singleton.1 he
            exact d1.keep ok
        · exact (S.out.below.trans (b2.mono S.out.below.size)).grown g5 (by have := S.out.below.size; simp; omega) (fun y e => (row_kind S.out.row e).1)
      rw [hV] at hr
      have HR : Hid _ := hr
      have hk4 : k < 100 := by omega
      have hki : (k : Int) < (n : Int) := by omega
      generalize ts[k] = t at *
      clear S ck b1 b2 sx d1 r1 o5 g5 hb hv ok ex hr hV
      go_wp2_with (at_builtin; refine wpList_append_known rfl (.tmp 11) (.tmp 20) 22 22 rfl _ _ rfl rfl _ _ HR.out ?_)
      go_roundw
      case rel => exact ⟨k + 1, a5, c5, _, by omega, by go_num, rfl, S5⟩
      case measure => simp only [intOf]; omega
    · obtain rfl : k = n := by omega
      go_wp2
      go_ret
      exact ⟨ra, rc, fs, rfl, S.out⟩
end Go.Proofs.Ytikedglcicgdhaa
