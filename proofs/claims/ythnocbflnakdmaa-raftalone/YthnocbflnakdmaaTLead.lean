/- Package raft: a replica alone: lead, elect. -/
import Derived.Test.YthnocbflnakdmaaTCount
namespace Go.Proofs.Ythnocbflnakdmaa
open Go.RowKit
attribute [local go_sem] Oper.semAt_some
set_option linter.unusedVariables false

theorem lastT_snoc {L3 : List EntV} {l : List Ent} {e : Ent} (h : L3.map Prod.fst = l ++ [e]) (T : Int) : lastT T L3 = e.1 := by
  have h1 : (L3.map Prod.fst).getLast? = some e := by rw [h]; simp
  rw [List.getLast?_map] at h1
  unfold lastT
  cases h2 : L3.getLast? with
  | none => rw [h2] at h1; cases h1
  | some x => rw [h2] at h1; cases h1; rfl
/-- One entry in memory. -/
theorem one_ent (w : World) (t : Int) (a : Option Addr) (n c : Nat) (p : List (BitVec 8)) (hp : BytesV (w.alloc (.cells #[.int .i64 t, .slice a n c] 52)) (.slice a n c) p) : EntsAt (w.alloc (.cells #[.int .i64 t, .slice a n c] 52)) (some ⟨w.heap.size, 0, none⟩) 1 [(t, p)] := by
  have q := heap_alloc_new w (.cells #[.int .i64 t, .slice a n c] 52)
  refine ⟨rfl, .inr ⟨_, 0, rfl, fun j hj => ?_⟩⟩
  obtain rfl : j = 0 := by simpa using hj
  refine ⟨?_, .slice a n c, ?_, hp⟩
  · unfold World.cell?
    simp only [Nat.zero_mul, Nat.zero_add, q]
    rfl
  · unfold World.cell?
    simp only [Nat.zero_mul, Nat.zero_add, q]
    rfl
section
variable {w w' : World} {base R lg : Nat} {d : RD} {sv : Value} {L : List EntV}
/-- An entry more behind a log that lies alone. -/
theorem append_one (h : Solo w base R lg d sv L) (t : Int) (a : Option Addr) (n c : Nat) (p : List (BitVec 8)) (hp : BytesV w (.slice a n c) p) (ho : ∀ x, a = some x → p ≠ [] → x.block ≠ lg ∧ some x.block ≠ sv.ownBlock) (hl : L.length < 4096) (ht : lastT 0 L ≤ t ∧ 1 ≤ t ∧ t ≤ 1152921504606846976) :
    Calls Try.prog 33 #[.pointer (some ⟨lg, 0, none⟩), .slice (some ⟨w.heap.size, 0, none⟩) 1 1] (w.alloc (.cells #[.int .i64 t, .slice a n c] 52)) fun e w' => e = .returned (.int .i64 0) ∧ ∃ sv' L', Solo w' base R lg d sv' L' ∧ Below base w w' ∧ L'.map Prod.fst = L.map Prod.fst ++ [(t, p)] ∧ ∀ g, g < w.heap.size → g ≠ lg → some g ≠ sv.ownBlock → w'.heap[g]? = w.heap[g]? := by
  have bA := (Below.refl _ w).alloc (Nat.le_refl _) (.cells #[.int .i64 t, .slice a n c] 52)
  have s1 := h.below bA
  have e1 := one_ent w t a n c p (hp.below bA)
  have he : ∀ w', Chg (w.alloc (.cells #[.int .i64 t, .slice a n c] 52)) w' lg sv.ownBlock → EntsAt w' (some ⟨w.heap.size, 0, none⟩) 1 [(t, p)] := fun w' g => by
    obtain ⟨_, h3⟩ := e1
    have hblk : w'.heap[w.heap.size]? = (w.alloc (.cells #[.int .i64 t, .slice a n c] 52)).heap[w.heap.size]? := g.block _ (by simp) (by have := h.log.ltN; omega) (fun e => by have := (row_kind h.log.row e.symm).2.1; omega)
    have bB := s1.log.chg_below g
    have q := heap_alloc_new w (.cells #[.int .i64 t, .slice a n c] 52)
    refine ⟨rfl, .inr ⟨_, 0, rfl, fun j hj => ?_⟩⟩
    obtain rfl : j = 0 := by simpa using hj
    refine ⟨?_, .slice a n c, ?_, ?_⟩
    · unfold World.cell?
      simp only [Nat.zero_mul, Nat.zero_add, hblk, q]
      rfl
    · unfold World.cell?
      simp only [Nat.zero_mul, Nat.zero_add, hblk, q]
      rfl
    · obtain ⟨a', c', ev, sn, nl, mx⟩ := hp
      cases ev
      refine ⟨a, c, rfl, ?_, nl, mx⟩
      obtain ⟨y1, y2, y3⟩ := sn
      refine ⟨y1, y2, ?_⟩
      rcases y3 with y3 | ⟨b, off, rfl, hc⟩
      · exact .inl y3
      · by_cases hp0 : p = []
        · exact .inl (by rw [hp0]; rfl)
        · refine .inr ⟨b, off, rfl, fun j hj => ?_⟩
          have hb := ho ⟨b, off, none⟩ rfl hp0
          have hc1 := hc j hj
          have hlt := World.block_lt_of_cell? w _ hc1
          have hb2 := g.block b (by have : b < w.heap.size := hlt; simp; omega) hb.1 hb.2
          have hb3 : w'.cell? ⟨b, off + j, none⟩ = w.cell? ⟨b, off + j, none⟩ := by unfold World.cell?; simp only [hb2, heap_alloc_old w _ hlt]
          rw [hb3]
          exact hc1
  refine (append_any s1.log (by unfold canBase; omega) (some ⟨w.heap.size, 0, none⟩) 1 1 [(t, p)] he (fun e => by cases e) (by omega)).mono ?_
  rintro e w' (⟨y1, _⟩ | ⟨_, y1, _⟩ | ⟨_, _, rfl, sv', fs, l', f', g', _⟩)
  · simp at y1
    omega
  · simp [canBehind] at y1
    omega
  · obtain ⟨s2, b2⟩ := s1.chg g' l'
    refine ⟨rfl, sv', _, s2, (bA.mono h.size).trans b2, ?_, fun g hg h1 h2 => (g'.block g (by simp; omega) h1 h2).trans (heap_alloc_old w _ hg)⟩
    rw [List.map_append, f', List.take_length]
/-- A leader's others, some of them set. -/
def leadD (d : RD) (x : Int) (k : Nat) : RD := { d with o0 := if 0 < k then x else d.o0, o1 := if 1 < k then x else d.o1, o2 := if 2 < k then x else d.o2, o3 := if 3 < k then x else d.o3, o4 := if 4 < k then x else d.o4 }
set_option maxRecDepth 100000 in
set_option maxHeartbeats 1600000 in
theorem lead_one (h : Solo w base R lg d sv L) (hl : L.length < 4096) (ht : lastT 0 L ≤ d.term ∧ 1 ≤ d.term ∧ d.term ≤ 1152921504606846976) (hc : d.commit ≤ L.length) : Calls Try.prog 50 #[.pointer (some ⟨R, 0, none⟩)] w fun e w' => e = .returned (.slice none 0 0) ∧ ∃ sv' L', Solo w' base R lg { leadD { d with role := 2, leader := 0 } (L.length + 1) 5 with commit := L.length + 1 } sv' L' ∧ Below base w w' ∧ L'.map Prod.fst = L.map Prod.fst ++ [(d.term, [])] := by
  have c1 : w.cell? ⟨R, 1, none⟩ = some (.int .i64 0) := h.cell 1
  have c5 : w.cell? ⟨R, 5, none⟩ = some (.int .i64 d.role) := h.cell 5
  have f5 := h.fz 5
  obtain ⟨s1, b1⟩ := h.set 5 (.int .i64 2) { d with role := 2 } rfl
  have c6 : (w.setCell ⟨R, 5, none⟩ (.int .i64 2)).cell? ⟨R, 6, none⟩ = some (.int .i64 d.leader) := s1.cell 6
  have f6 := s1.fz 6
  obtain ⟨s2, b2⟩ := s1.set 6 (.int .i64 0) { d with role := 2, leader := 0 } rfl
  have c8 : ((w.setCell ⟨R, 5, none⟩ (.int .i64 2)).setCell ⟨R, 6, none⟩ (.int .i64 0)).cell? ⟨R, 8, none⟩ = some (.pointer (some ⟨lg, 0, none⟩)) := s2.cell 8
  obtain ⟨x, ex⟩ : ∃ x : Int, (L.length : Int) + 1 = x := ⟨_, rfl⟩
  have qx : wrap64 ((L.length : Int) + 1) = x := by rw [← ex]; unfold wrap64; omega
  have HL := last_any s2.log
  rw [Int.zero_add] at HL
  have S2 : Hid _ := And.intro s2 (b1.trans b2)
  have HX : Hid ((L.length : Int) + 1 = x ∧ L.length < 4096 ∧ (lastT 0 L ≤ d.term ∧ 1 ≤ d.term ∧ d.term ≤ 1152921504606846976) ∧ d.commit ≤ L.length) := ⟨ex, hl, ht, hc⟩
  rw [ex]
  clear h s1 b1 s2 b2 hl ht hc ex
  go_enter Try.func50, Try.ntmps50
  go_wp2_with fail
  refine HL.mono ?_
  clear HL
  rintro e w1 ⟨rfl, y1⟩
  have s3 := S2.out.1.below y1
  have b3 := S2.out.2.trans (y1.mono S2.out.1.size)
  obtain ⟨d2, ed2⟩ : ∃ d2 : RD, { d with role := 2, leader := 0 } = d2 := ⟨_, rfl⟩
  have T2 : Hid (d2.term = d.term ∧ d2.commit = d.commit) := by rw [← ed2]; exact ⟨rfl, rfl⟩
  rw [ed2] at s3
  have ED2 : Hid ({ d with role := 2, leader := 0 } = d2) := ed2
  have S3 : Hid (Solo w1 base R lg (leadD d2 x 0) sv L ∧ Below base w w1) := ⟨s3, b3⟩
  clear s3 b3 S2 y1 ed2 c1 c5 f5 c6 f6 c8
  go_wp2_with fail
  go_loopw [26] (fun i wr => ∃ k : Nat, k ≤ 5 ∧ i = .int .i64 (k : Int) ∧ Hid (Solo wr base R lg (leadD d2 x k) sv L ∧ Below base w wr)) (fun i _ => 5 - (intOf i).toNat)
  case atStart => exact ⟨0, by omega, rfl, S3⟩
  case round =>
    obtain ⟨k, hk, rfl, SS⟩ := hrel
    clear S3
    obtain (rfl | rfl | rfl | rfl | rfl | rfl) : k = 0 ∨ k = 1 ∨ k = 2 ∨ k = 3 ∨ k = 4 ∨ k = 5 := by omega
    · obtain ⟨S, BW⟩ := SS.out
      have f0 := S.fz 17
      have c0 : wr.cell? ⟨R, 17, none⟩ = some (.int .i64 (leadD d2 x 0).o0) := S.cell 17
      obtain ⟨sa, ba⟩ := S.set 17 (.int .i64 x) (leadD d2 x 1) rfl
      have f1 := sa.fz 18
      have c1 : (wr.setCell ⟨R, 17, none⟩ (.int .i64 x)).cell? ⟨R, 18, none⟩ = some (.int .i64 0) := sa.cell 18
      obtain ⟨sb, bb⟩ := sa.set 18 (.int .i64 0) (leadD d2 x 1) rfl
      have f2 := sb.fz 19
      have c2 : ((wr.setCell ⟨R, 17, none⟩ (.int .i64 x)).setCell ⟨R, 18, none⟩ (.int .i64 0)).cell? ⟨R, 19, none⟩ = some (.int .i64 0) := sb.cell 19
      obtain ⟨sc, bc⟩ := sb.set 19 (.int .i64 0) (leadD d2 x 1) rfl
      have SC : Hid (Solo (((wr.setCell ⟨R, 17, none⟩ (.int .i64 x)).setCell ⟨R, 18, none⟩ (.int .i64 0)).setCell ⟨R, 19, none⟩ (.int .i64 0)) base R lg (leadD d2 x 1) sv L ∧ Below base w (((wr.setCell ⟨R, 17, none⟩ (.int .i64 x)).setCell ⟨R, 18, none⟩ (.int .i64 0)).setCell ⟨R, 19, none⟩ (.int .i64 0))) := And.intro sc (BW.trans (ba.trans (bb.trans bc)))
      clear S BW sa ba sb bb sc bc SS
      go_wp2
      go_roundw
      case rel => exact ⟨1, by omega, rfl, SC⟩
      case measure => simp [intOf]
    · obtain ⟨S, BW⟩ := SS.out
      have f0 := S.fz 20
      have c0 : wr.cell? ⟨R, 20, none⟩ = some (.int .i64 (leadD d2 x 1).o1) := S.cell 20
      obtain ⟨sa, ba⟩ := S.set 20 (.int .i64 x) (leadD d2 x 2) rfl
      have f1 := sa.fz 21
      have c1 : (wr.setCell ⟨R, 20, none⟩ (.int .i64 x)).cell? ⟨R, 21, none⟩ = some (.int .i64 0) := sa.cell 21
      obtain ⟨sb, bb⟩ := sa.set 21 (.int .i64 0) (leadD d2 x 2) rfl
      have f2 := sb.fz 22
      have c2 : ((wr.setCell ⟨R, 20, none⟩ (.int .i64 x)).setCell ⟨R, 21, none⟩ (.int .i64 0)).cell? ⟨R, 22, none⟩ = some (.int .i64 0) := sb.cell 22
      obtain ⟨sc, bc⟩ := sb.set 22 (.int .i64 0) (leadD d2 x 2) rfl
      have SC : Hid (Solo (((wr.setCell ⟨R, 20, none⟩ (.int .i64 x)).setCell ⟨R, 21, none⟩ (.int .i64 0)).setCell ⟨R, 22, none⟩ (.int .i64 0)) base R lg (leadD d2 x 2) sv L ∧ Below base w (((wr.setCell ⟨R, 20, none⟩ (.int .i64 x)).setCell ⟨R, 21, none⟩ (.int .i64 0)).setCell ⟨R, 22, none⟩ (.int .i64 0))) := And.intro sc (BW.trans (ba.trans (bb.trans bc)))
      clear S BW sa ba sb bb sc bc SS
      go_wp2
      go_roundw
      case rel => exact ⟨2, by omega, rfl, SC⟩
      case measure => simp [intOf]
    · obtain ⟨S, BW⟩ := SS.out
      have f0 := S.fz 23
      have c0 : wr.cell? ⟨R, 23, none⟩ = some (.int .i64 (leadD d2 x 2).o2) := S.cell 23
      obtain ⟨sa, ba⟩ := S.set 23 (.int .i64 x) (leadD d2 x 3) rfl
      have f1 := sa.fz 24
      have c1 : (wr.setCell ⟨R, 23, none⟩ (.int .i64 x)).cell? ⟨R, 24, none⟩ = some (.int .i64 0) := sa.cell 24
      obtain ⟨sb, bb⟩ := sa.set 24 (.int .i64 0) (leadD d2 x 3) rfl
      have f2 := sb.fz 25
      have c2 : ((wr.setCell ⟨R, 23, none⟩ (.int .i64 x)).setCell ⟨R, 24, none⟩ (.int .i64 0)).cell? ⟨R, 25, none⟩ = some (.int .i64 0) := sb.cell 25
      obtain ⟨sc, bc⟩ := sb.set 25 (.int .i64 0) (leadD d2 x 3) rfl
      have SC : Hid (Solo (((wr.setCell ⟨R, 23, none⟩ (.int .i64 x)).setCell ⟨R, 24, none⟩ (.int .i64 0)).setCell ⟨R, 25, none⟩ (.int .i64 0)) base R lg (leadD d2 x 3) sv L ∧ Below base w (((wr.setCell ⟨R, 23, none⟩ (.int .i64 x)).setCell ⟨R, 24, none⟩ (.int .i64 0)).setCell ⟨R, 25, none⟩ (.int .i64 0))) := And.intro sc (BW.trans (ba.trans (bb.trans bc)))
      clear S BW sa ba sb bb sc bc SS
      go_wp2
      go_roundw
      case rel => exact ⟨3, by omega, rfl, SC⟩
      case measure => simp [intOf]
    · obtain ⟨S, BW⟩ := SS.out
      have f0 := S.fz 26
      have c0 : wr.cell? ⟨R, 26, none⟩ = some (.int .i64 (leadD d2 x 3).o3) := S.cell 26
      obtain ⟨sa, ba⟩ := S.set 26 (.int .i64 x) (leadD d2 x 4) rfl
      have f1 := sa.fz 27
      have c1 : (wr.setCell ⟨R, 26, none⟩ (.int .i64 x)).cell? ⟨R, 27, none⟩ = some (.int .i64 0) := sa.cell 27
      obtain ⟨sb, bb⟩ := sa.set 27 (.int .i64 0) (leadD d2 x 4) rfl
      have f2 := sb.fz 28
      have c2 : ((wr.setCell ⟨R, 26, none⟩ (.int .i64 x)).setCell ⟨R, 27, none⟩ (.int .i64 0)).cell? ⟨R, 28, none⟩ = some (.int .i64 0) := sb.cell 28
      obtain ⟨sc, bc⟩ := sb.set 28 (.int .i64 0) (leadD d2 x 4) rfl
      have SC : Hid (Solo (((wr.setCell ⟨R, 26, none⟩ (.int .i64 x)).setCell ⟨R, 27, none⟩ (.int .i64 0)).setCell ⟨R, 28, none⟩ (.int .i64 0)) base R lg (leadD d2 x 4) sv L ∧ Below base w (((wr.setCell ⟨R, 26, none⟩ (.int .i64 x)).setCell ⟨R, 27, none⟩ (.int .i64 0)).setCell ⟨R, 28, none⟩ (.int .i64 0))) := And.intro sc (BW.trans (ba.trans (bb.trans bc)))
      clear S BW sa ba sb bb sc bc SS
      go_wp2
      go_roundw
      case rel => exact ⟨4, by omega, rfl, SC⟩
      case measure => simp [intOf]
    · obtain ⟨S, BW⟩ := SS.out
      have f0 := S.fz 29
      have c0 : wr.cell? ⟨R, 29, none⟩ = some (.int .i64 (leadD d2 x 4).o4) := S.cell 29
      obtain ⟨sa, ba⟩ := S.set 29 (.int .i64 x) (leadD d2 x 5) rfl
      have f1 := sa.fz 30
      have c1 : (wr.setCell ⟨R, 29, none⟩ (.int .i64 x)).cell? ⟨R, 30, none⟩ = some (.int .i64 0) := sa.cell 30
      obtain ⟨sb, bb⟩ := sa.set 30 (.int .i64 0) (leadD d2 x 5) rfl
      have f2 := sb.fz 31
      have c2 : ((wr.setCell ⟨R, 29, none⟩ (.int .i64 x)).setCell ⟨R, 30, none⟩ (.int .i64 0)).cell? ⟨R, 31, none⟩ = some (.int .i64 0) := sb.cell 31
      obtain ⟨sc, bc⟩ := sb.set 31 (.int .i64 0) (leadD d2 x 5) rfl
      have SC : Hid (Solo (((wr.setCell ⟨R, 29, none⟩ (.int .i64 x)).setCell ⟨R, 30, none⟩ (.int .i64 0)).setCell ⟨R, 31, none⟩ (.int .i64 0)) base R lg (leadD d2 x 5) sv L ∧ Below base w (((wr.setCell ⟨R, 29, none⟩ (.int .i64 x)).setCell ⟨R, 30, none⟩ (.int .i64 0)).setCell ⟨R, 31, none⟩ (.int .i64 0))) := And.intro sc (BW.trans (ba.trans (bb.trans bc)))
      clear S BW sa ba sb bb sc bc SS
      go_wp2
      go_roundw
      case rel => exact ⟨5, by omega, rfl, SC⟩
      case measure => simp [intOf]
    · obtain ⟨S, BW⟩ := SS.out
      have k8 : wr.cell? ⟨R, 8, none⟩ = some (.pointer (some ⟨lg, 0, none⟩)) := S.cell 8
      have k3 : wr.cell? ⟨R, 3, none⟩ = some (.int .i64 d.term) := by have := S.cell 3; rw [show ((leadD d2 x 5).cells lg)[3]? = some (.int .i64 d2.term) from rfl, T2.out.1] at this; exact this
      have k8a : ∀ o, (wr.alloc o).cell? ⟨R, 8, none⟩ = some (.pointer (some ⟨lg, 0, none⟩)) := fun o => (S.below ((Below.refl _ wr).alloc (Nat.le_refl _) o)).cell 8
      have k3a : ∀ o, (wr.alloc o).cell? ⟨R, 3, none⟩ = some (.int .i64 d.term) := fun o => by have := (S.below ((Below.refl _ wr).alloc (Nat.le_refl _) o)).cell 3; rw [show ((leadD d2 x 5).cells lg)[3]? = some (.int .i64 d2.term) from rfl, T2.out.1] at this; exact this
      have HA : Hid (Calls Try.prog 33 #[.pointer (some ⟨lg, 0, none⟩), .slice (some ⟨wr.heap.size, 0, none⟩) 1 1] (wr.alloc (.cells #[.int .i64 d.term, .slice none 0 0] 52)).drew fun e w' => e = .returned (.int .i64 0) ∧ ∃ sv' L', Solo w' base R lg (leadD d2 x 5) sv' L' ∧ Below base wr w' ∧ L'.map Prod.fst = L.map Prod.fst ++ [(d.term, [])]) := (append_one (S.drewN 1) d.term none 0 0 [] ⟨none, 0, rfl, ⟨rfl, by simp, .inl rfl⟩, fun _ => rfl, by simp⟩ (fun x e => by cases e) HX.out.2.1 HX.out.2.2.1).mono (fun e w' ⟨h1, sv', L', h2, h3, h4, _⟩ => ⟨h1, sv', L', h2, ((below_drewN' (Below.refl _ wr) 1).mono S.size).trans h3, h4⟩)
      have SL : Hid (Below base w wr) := BW
      clear S BW SS qx
      go_wp2
      go_region_law (go_simp; go_at_call 33; refine HA.out.mono ?_; rintro e w3 ⟨rfl, sv3, L3, s3, b3, f3⟩)
      all_goals
        have l3 : L3.length = L.length + 1 := by have := congrArg List.length f3; simpa using this
        have t3 : lastT 0 L3 = (leadD d2 x 5).term := (lastT_snoc f3 0).trans T2.out.1.symm
        have HC := count_one s3 t3 (by have h1 := T2.out.2; have h2 := HX.out.2.2.2; have h3 : (leadD d2 x 5).commit = d2.commit := rfl; omega)
        have B3 : Hid (Below base w w3) := SL.out.trans b3
        have F3 : Hid (L3.map Prod.fst = L.map Prod.fst ++ [(d.term, [])] ∧ (L3.length : Int) = x) := ⟨f3, by have := HX.out.1; omega⟩
        clear s3 b3 f3 l3 t3 HA SL k8 k3 k8a k3a
        go_wp2_with fail
        refine HC.mono ?_
        clear HC
        rintro e w4 ⟨rfl, s4, b4, _⟩
        have HS := sendAll_one s4
        have S4 : Hid _ := And.intro s4 (B3.out.trans b4)
        clear s4 b4
        go_wp2_with fail
        refine HS.mono ?_
        clear HS
        rintro e w5 ⟨rfl, rfl⟩
        go_wp2
        go_ret
        refine ⟨rfl, sv3, L3, ?_, S4.out.2, F3.out.1⟩
        have := S4.out.1
        rw [F3.out.2] at this
        rw [show ({ d with role := 2, leader := 0 } : RD) = d2 from ED2.out]
        exact this
end
end Go.Proofs.Ythnocbflnakdmaa
