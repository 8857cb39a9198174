/- The law's fixed calls: the walk. -/
import Derived.Test.YtcmhkeaimgppgaaGaF
namespace Go.Proofs.Ytcmhkeaimgppgaa
open Go.RowKit Go.Shelf
attribute [local go_sem] Oper.semAt_some
set_option linter.unusedVariables false

set_option maxRecDepth 100000 in
set_option maxHeartbeats 8000000 in
theorem knownM_any (w : World) : Calls Try.prog 20 #[] w fun e w' => e = .returned (.bool true) ∧ Below w.heap.size w w' := by
  have HN := mnew_any w
  go_enter Try.func20, Try.ntmps20
  go_wp2_with fail
  refine HN.mono ?_
  clear HN
  rintro e w1 ⟨rfl, m1, b1⟩
  have bA : Below w1.heap.size w1 (w1.alloc (.cells #[.int .i64 3, .int .i64 1, .int .i64 2, .int .i64 1, .int .i64 1, .int .i64 1] 47)) := (Below.refl _ w1).alloc (Nat.le_refl _) _
  have m2 := m1.below bA
  have b2 := b1.trans (bA.mono b1.size)
  have x2 := heap_alloc_new w1 (.cells #[.int .i64 3, .int .i64 1, .int .i64 2, .int .i64 1, .int .i64 1, .int .i64 1] 47)
  have HA := my_asks (x := X1) (Bx := w1.heap.size) m2 (Nat.le_refl _) b2 x2 (by rw [e1]; exact e2) (by simp)
  rw [e1] at HA
  have XX : Hid _ := x2
  have HBX : Hid (w.heap.size ≤ w1.heap.size) := b1.size
  clear bA m2 b2 x2 m1 b1
  go_wp2_with (first | (refine wpList_load_row rfl 47 (.tmp 2) rfl w1.heap.size rfl 47 _ (0, 0) _ XX.out Try.underlying47 rfl (by kernel_rfl) ?_))
  refine HA.mono ?_
  clear HA XX
  generalize w1.heap.size = Bx at *
  rintro e w3 ⟨g, c, ua, uc, cur, rfl, hr, hg, hs, hn, m3, b3, x3, _, _, _⟩
  have k0w3 : w3.cell? ⟨g, 0, none⟩ = some (.int .i64 1) := hr 0 _ rfl
  have k1w3 : w3.cell? ⟨g, 1, none⟩ = some (.int .i64 8) := hr 1 _ rfl
  have HR : Hid _ := hr
  have HGC : Hid _ := hg
  have M3 : Hid _ := m3
  have B3 : Hid _ := b3
  have X3 : Hid _ := x3
  clear hr hg hs hn m3 b3 x3
  go_wp2_with fail
  obtain ⟨Z, eZ⟩ : ∃ Z, Z = List.replicate 1500 0#8 := ⟨_, rfl⟩
  have hZ : Z.length = 1500 := by rw [eZ]; exact List.length_replicate
  refine known_r8 _ _ _ _ _ _ _ _ _ _ _ _ _ _ _ _ _ _ _ _ _ _ _ _ _ _ _ _ _ _ _ _ _ _ _ _ _ _ _ _ _ _ _ _ _ _ _ _ _ _ _ _ _ _ _ _ _ _ _ _ _ _ _ _ _ _ _ _ _ _ _ _ _ _ _ _ _ _ _ _ _ _ _ _ _ _ _ _ _ _ _ _ _ _ _ _ _ _ _ _ _ _ _ _ _ _ _ _ _ _ _ _ _ _ _ _ _ _ _ _ w3 w.heap.size w.heap.size Bx g c K1 X1 _ ⟨1, 8, 3, 1, 0, false, ua, 0, uc⟩ cur (R1 Z) (by rw [eZ]; rfl) (pAsk_c ⟨1, 8, 3, 1, 0, false, []⟩ ua uc (by simp)) M3.out (Bs.of B3.out.size) X3.out HGC.out HR.out _ (fun _ _ _ _ _ h => h) ?_
  have E3 := e3 Z hZ ua uc
  rw [E3]
  rintro W4 Bc v31 v32 v33 v34 v35 v36 v37 v38 v39 v40 v41 m4 o4 c4 l4
  have x4 : W4.heap[Bx]? = some (.cells #[.int .i64 3, .int .i64 1, .int .i64 2, .int .i64 1, .int .i64 1, .int .i64 1] 47 (0, 0)) := (o4.block _ (Array.getElem?_eq_some_iff.1 X3.out).1 (fun e => by
    obtain ⟨ma, mc, mg, _⟩ := M3.out.ex
    have := X3.out
    rw [e, mg] at this
    injection this with this
    injection this with _ this
    exact absurd this (by decide))).trans X3.out
  have b4 : Below w.heap.size w W4 := B3.out.trans (o4.toBelow (Nat.le_refl _) B3.out.size)
  have c4' : W4.heap[Bc]? = some (.cells #[.int .i64 2, .int .i64 0, .int .i64 0, .int .i64 1, .int .i64 1] 60 (0, 0)) := c4
  have z4 : W4.cell? ⟨Bx, 4, none⟩ = some (.int .i64 1) := by simp only [World.cell?, x4]; rfl
  have f4 : W4.frozen? ⟨Bx, 4, none⟩ = false := by simp only [World.frozen?, x4]; rfl
  have e4' : W4.setCell ⟨Bx, 4, none⟩ (.int .i64 2) = W4.setRow Bx #[.int .i64 3, .int .i64 1, .int .i64 2, .int .i64 1, .int .i64 2, .int .i64 1] := (setCell_eq_setRow W4 Bx 4 _ _ _ (.int .i64 2) x4).trans rfl
  have nGx : Bx ≠ w.heap.size := fun e => by
    obtain ⟨ma, mc, mg, _⟩ := m4.ex
    rw [e, mg] at x4
    injection x4 with x4
    injection x4 with _ x4
    exact absurd x4 (by decide)
  have nCx : Bc ≠ Bx := fun e => by
    rw [e, x4] at c4'
    injection c4' with c4'
    injection c4' with _ c4'
    exact absurd c4' (by decide)
  have bwx : w.heap.size ≤ Bx := HBX.out
  have x5 : (W4.setCell ⟨Bx, 4, none⟩ (.int .i64 2)).heap[Bx]? = some (.cells #[.int .i64 3, .int .i64 1, .int .i64 2, .int .i64 1, .int .i64 2, .int .i64 1] 47 (0, 0)) := by rw [e4']; exact setRow_self x4
  have c5 : (W4.setCell ⟨Bx, 4, none⟩ (.int .i64 2)).heap[Bc]? = some (.cells #[.int .i64 2, .int .i64 0, .int .i64 0, .int .i64 1, .int .i64 1] 60 (0, 0)) := by rw [e4']; exact (setRow_other _ _ _ _ nCx).trans c4'
  have m5 : MvIn (W4.setCell ⟨Bx, 4, none⟩ (.int .i64 2)) w.heap.size w.heap.size (K2 Z) := by
    rw [e4']
    exact m4.other (Q := Bx) nGx x4 (fun cur z e => by injection e with _ e; exact absurd e (by decide)) (fun g hg _ => setRow_other _ _ _ _ hg)
  have b5 : Below w.heap.size w (W4.setCell ⟨Bx, 4, none⟩ (.int .i64 2)) := by rw [e4']; exact below_row b4 bwx _
  have HA := my_asks (x := X2) (Bx := Bx) m5 (Nat.le_refl _) b5 x5 (by rw [e4 Z hZ]; exact e5 Z hZ) (by simp; omega)
  rw [e4 Z hZ] at HA
  have XX : Hid _ := x5
  have CX : Hid _ := c5
  have M5 : Hid _ := m5
  clear m4 o4 c4 l4 x4 b4 c4' e4' nGx nCx bwx x5 c5 m5 b5 E3 HR HGC M3 B3 X3 k0w3 k1w3
  have nGc : Bc ≠ w.heap.size := fun e => by
    obtain ⟨ma, mc, mg, _⟩ := M5.out.ex
    have h9 := CX.out
    rw [e, mg] at h9
    injection h9 with h9
    injection h9 with _ h9
    exact absurd h9 (by decide)
  clear M5
  go_wp2_with (first | (refine wpList_load_row rfl 47 (.tmp 2) rfl Bx rfl 47 _ (0, 0) _ XX.out Try.underlying47 rfl (by kernel_rfl) ?_))
  refine HA.mono ?_
  clear HA XX z4 f4
  rintro e w6 ⟨g2, c2, ua2, uc2, cur2, rfl, hr, hg, hs, hn, m6, b6, x6, o6, _, _⟩
  have c6 : w6.heap[Bc]? = some (.cells #[.int .i64 2, .int .i64 0, .int .i64 0, .int .i64 1, .int .i64 1] 60 (0, 0)) := (o6.block _ (Array.getElem?_eq_some_iff.1 CX.out).1 nGc).trans CX.out
  have h1000 : (Z.take 1000).length = 1000 := by rw [List.length_take, hZ]; rfl
  rw [h1000] at hr
  have k0w6 : w6.cell? ⟨g2, 0, none⟩ = some (.int .i64 2) := hr 0 _ rfl
  have k16w6 : w6.cell? ⟨g2, 16, none⟩ = some (.bool false) := hr 16 _ rfl
  have k17w6 : w6.cell? ⟨g2, 17, none⟩ = some (.slice ua2 1000 uc2) := hr 17 _ rfl
  have HR : Hid _ := hr
  have HGC : Hid _ := hg
  have M6 : Hid _ := m6
  have B6 : Hid _ := b6
  have X6 : Hid _ := x6
  have C6 : Hid _ := c6
  clear hr hg hs hn m6 b6 x6 o6 CX c6
  go_wp2_with fail
  have hC6 : AskC (AskV.cells (PAsk.v ⟨2, 9, 3, 1, 0, false, Z.take 1000⟩ (.slice ua2 1000 uc2))) ⟨2, 9, 3, 1, 0, false, ua2, 1000, uc2⟩ := ⟨rfl, rfl, rfl, rfl, rfl, rfl, rfl, rfl, by show (1000 : Nat) ≤ _; omega⟩
  refine known_r13 _ _ _ _ _ _ _ _ _ _ _ _ _ _ _ _ _ _ _ _ _ _ _ _ _ _ _ _ _ _ _ _ _ _ _ _ _ _ _ _ _ _ _ _ _ _ _ _ _ _ _ _ _ _ _ _ _ _ _ _ _ _ _ _ _ _ _ _ _ _ _ _ _ _ _ _ _ _ _ _ _ _ _ _ _ _ _ _ _ _ _ _ _ _ _ _ _ _ _ _ _ _ _ _ _ _ _ _ _ _ _ _ _ _ _ _ _ _ _ _ w6 w.heap.size w.heap.size Bx g2 c2 (K2 Z) X2 _ ⟨2, 9, 3, 1, 0, false, ua2, 1000, uc2⟩ cur2 R2 rfl hC6 M6.out (Bs.of B6.out.size) X6.out HGC.out HR.out _ (fun _ _ _ _ _ h => h) ?_
  rw [e6 Z hZ ua2 uc2]
  rintro W7 v72 v73 v74 v75 v76 v77 v78 m7 o7
  have x7 : W7.heap[Bx]? = some (.cells #[.int .i64 3, .int .i64 1, .int .i64 2, .int .i64 1, .int .i64 2, .int .i64 1] 47 (0, 0)) := (o7.block _ (Array.getElem?_eq_some_iff.1 X6.out).1 (fun e => by
    obtain ⟨ma, mc, mg, _⟩ := M6.out.ex
    have := X6.out
    rw [e, mg] at this
    injection this with this
    injection this with _ this
    exact absurd this (by decide))).trans X6.out
  have c7 : W7.heap[Bc]? = some (.cells #[.int .i64 2, .int .i64 0, .int .i64 0, .int .i64 1, .int .i64 1] 60 (0, 0)) := (o7.block _ (Array.getElem?_eq_some_iff.1 C6.out).1 nGc).trans C6.out
  have b7 : Below w.heap.size w W7 := B6.out.trans (o7.toBelow (Nat.le_refl _) B6.out.size)
  have HA := my_asks (x := X2) (Bx := Bx) m7 (Nat.le_refl _) b7 x7 (by rw [e7 Z hZ]; exact e8 Z hZ) (by simp; omega)
  rw [e7 Z hZ] at HA
  have XX : Hid _ := x7
  have CX : Hid _ := c7
  clear m7 o7 x7 c7 b7 HR HGC M6 B6 X6 C6 k0w6 k16w6 k17w6 hC6
  go_wp2_with (first | (refine wpList_load_row rfl 47 (.tmp 2) rfl Bx rfl 47 _ (0, 0) _ XX.out Try.underlying47 rfl (by kernel_rfl) ?_))
  refine HA.mono ?_
  clear HA XX
  rintro e w8 ⟨g2, c2, ua2, uc2, cur2, rfl, hr, hg, hs, hn, m8, b8, x8, o8, _, _⟩
  have c8 : w8.heap[Bc]? = some (.cells #[.int .i64 2, .int .i64 0, .int .i64 0, .int .i64 1, .int .i64 1] 60 (0, 0)) := (o8.block _ (Array.getElem?_eq_some_iff.1 CX.out).1 nGc).trans CX.out
  have k15w8 : w8.cell? ⟨g2, 15, none⟩ = some (.int .i64 1000) := hr 15 _ rfl
  have k16w8 : w8.cell? ⟨g2, 16, none⟩ = some (.bool true) := hr 16 _ rfl
  have q0 : w8.cell? ⟨Bc, 0, none⟩ = some (.int .i64 2) := by simp only [World.cell?, c8]; rfl
  have q4 : w8.cell? ⟨Bc, 4, none⟩ = some (.int .i64 1) := by simp only [World.cell?, c8]; rfl
  have HH := mhas_any m8
  have HT := mat_any m8
  have eh : (if (K3 Z).has = true then (((K3 Z).d.length : Nat) : Int) else -1) = 1500 := by simp [K3, hZ]
  have et : (((K3 Z).at_ : Nat) : Int) = 1000 := rfl
  rw [eh] at HH
  rw [et] at HT
  have B8 : Hid _ := b8
  clear hr hg hs hn m8 b8 x8 o8 c8 CX
  go_wp2_with fail
  refine HH.mono ?_
  rintro e w9 ⟨rfl, rfl⟩
  clear HH
  go_wp2_with fail
  refine HT.mono ?_
  rintro e w9 ⟨rfl, rfl⟩
  clear HT
  go_wp2
  go_ret
  exact ⟨rfl, B8.out⟩
end Go.Proofs.Ytcmhkeaimgppgaa
