/- Package raft: a replica alone: what the law knows. -/
import Derived.Test.YthnocbflnakdmaaTElect
import Derived.Test.YthnocbflnakdmaaTNew
import Derived.Test.YthnocbflnakdmaaTProp
import Derived.Test.YthnocbflnakdmaaTInfo
import Derived.Lib.SlBytesConst
namespace Go.Proofs.Ythnocbflnakdmaa
open Go.RowKit
attribute [local go_sem] Oper.semAt_some
set_option linter.unusedVariables false
section
variable {w w' : World} {base R lg : Nat} {d : RD} {sv : Value} {L : List EntV}
set_option maxRecDepth 100000 in
set_option maxHeartbeats 1600000 in
theorem empty_one (w : World) : Calls Try.prog 10 #[.int .i64 0, .int .i64 1] w fun e w' => ∃ R lg base' sv', e = .returned (.pointer (some ⟨R, 0, none⟩)) ∧ w.heap.size ≤ base' ∧ Solo w' base' R lg (freshD 1 0) sv' [] ∧ Below w.heap.size w w' := by
  have HN := new_any 0 0 (by omega) none 0 0 [] w ⟨rfl, .inl rfl⟩ (fun _ => rfl) (by omega)
  go_enter Try.func10, Try.ntmps10
  go_wp2_with fail
  refine HN.mono ?_
  clear HN
  rintro e w2 ⟨b2, (⟨hno, _⟩ | ⟨_, _, _, rfl, sv2, fs2, f2, l2⟩)⟩
  · exact absurd ⟨by unfold canBase; omega, by simp, by simp [canBehind]⟩ hno
  obtain rfl : fs2 = [] := by simpa using f2
  have HR := new_one l2 1 0 (.inr rfl) ⟨by simp [lastT], by omega⟩
  have B2 : Hid (Below w.heap.size w w2) := b2
  clear b2 f2 l2
  go_wp2_with fail
  refine HR.mono ?_
  clear HR
  rintro e w3 ⟨R, lg, base, sv3, rfl, z3, s3, b3⟩
  have S3 : Hid (w.heap.size ≤ base ∧ Solo w3 base R lg (freshD 1 0) sv3 [] ∧ Below w.heap.size w w3) := ⟨Nat.le_trans B2.out.size z3, s3, B2.out.trans (b3.mono B2.out.size)⟩
  clear z3 s3 b3
  go_wp2
  go_ret
  exact ⟨R, lg, base, sv3, rfl, S3.out.1, S3.out.2.1, S3.out.2.2⟩
set_option maxRecDepth 100000 in
set_option maxHeartbeats 1600000 in
theorem knownR_any (w : World) : Calls Try.prog 13 #[] w fun e w' => e = .returned (.bool true) ∧ Below w.heap.size w w' := by
  go_enter Try.func13, Try.ntmps13
  go_wp2_with fail
  refine (empty_one w).mono ?_
  rintro e w1 ⟨R, lg, base, sv1, rfl, z1, s1, b1⟩
  have S1 : Hid (Solo w1 base R lg (freshD 1 0) sv1 []) := s1
  have Z1 : Hid (w.heap.size ≤ base) := z1
  have B1 : Hid (Below w.heap.size w w1) := b1
  clear z1 s1 b1
  go_wp2_with fail
  go_loopw [2] (fun i wr => ∃ k : Nat, k ≤ 10 ∧ i = .int .i64 (k : Int) ∧ Hid (∃ d sv L, Solo wr base R lg d sv L ∧ Below w.heap.size w wr ∧ ((k < 10 ∧ d = { freshD 1 0 with el := (k : Int) } ∧ L = []) ∨ (k = 10 ∧ d.term = 1 ∧ d.role = 2 ∧ d.commit = 1 ∧ L.map Prod.fst = [(1, [])])))) (fun i _ => 10 - (intOf i).toNat)
  case atStart => exact ⟨0, by omega, rfl, ⟨_, sv1, [], S1.out, B1.out, .inl ⟨by omega, rfl, rfl⟩⟩⟩
  case round =>
    obtain ⟨k, hk, rfl, SS⟩ := hrel
    clear S1 B1
    by_cases h9 : k < 9
    · have q1 : (k : Int) < 10 := by omega
      have q2 : decide ((k : Int) < 10) = true := decide_eq_true q1
      have q3 : wrap64 ((k : Int) + 1) = ((k + 1 : Nat) : Int) := by unfold wrap64; omega
      obtain ⟨d, sv, L, s2, b2, (⟨_, rfl, rfl⟩ | ⟨x, _⟩)⟩ := SS.out
      case inr => omega
      have HT := tick_idle s2 (by simp [freshD]) (by show (0:Int) ≤ (k:Int); omega) (by show (k:Int) + 1 < 10; omega) rfl
      have B2 : Hid (Below w.heap.size w wr) := b2
      have HK : Hid (k < 9) := h9
      clear s2 b2 SS hk h9
      go_wp2_with fail
      refine HT.mono ?_
      clear HT
      rintro e w3 ⟨rfl, s3, b3⟩
      have F3 : Hid (∃ d sv L, Solo w3 base R lg d sv L ∧ Below w.heap.size w w3 ∧ ((k + 1 < 10 ∧ d = { freshD 1 0 with el := ((k + 1 : Nat) : Int) } ∧ L = []) ∨ (k + 1 = 10 ∧ d.term = 1 ∧ d.role = 2 ∧ d.commit = 1 ∧ L.map Prod.fst = [(1, [])]))) := ⟨_, sv, [], s3, B2.out.trans (b3.mono Z1.out), .inl ⟨by have := HK.out; omega, by simp, rfl⟩⟩
      clear s3 b3
      go_wp2
      go_roundw
      case rel => exact ⟨k + 1, by have := HK.out; omega, by simp, F3⟩
      case measure => simp only [intOf]; omega
    · by_cases h10 : k = 9
      · subst h10
        obtain ⟨d, sv, L, s2, b2, (⟨_, rfl, rfl⟩ | ⟨x, _⟩)⟩ := SS.out
        case inr => omega
        have HT := tick_elect s2 (by simp [freshD]) rfl rfl (by simp) ⟨by simp [lastT, freshD], by simp [freshD], by simp [freshD]⟩ (by simp [freshD])
        have B2 : Hid (Below w.heap.size w wr) := b2
        clear s2 b2 SS hk h9
        go_wp2_with fail
        refine HT.mono ?_
        clear HT
        rintro e w3 ⟨rfl, d3, sv3, L3, s3, b3, f3, x1, x2, x3, x4⟩
        have F3 : Hid (∃ d sv L, Solo w3 base R lg d sv L ∧ Below w.heap.size w w3 ∧ ((10 < 10 ∧ d = { freshD 1 0 with el := ((10 : Nat) : Int) } ∧ L = []) ∨ (10 = 10 ∧ d.term = 1 ∧ d.role = 2 ∧ d.commit = 1 ∧ L.map Prod.fst = [(1, [])]))) := ⟨d3, sv3, L3, s3, B2.out.trans (b3.mono Z1.out), .inr ⟨rfl, x1, x2, x4, f3⟩⟩
        clear s3 b3 f3 x1 x2 x3 x4
        go_wp2
        go_roundw
        case rel => exact ⟨10, by omega, rfl, by obtain ⟨d, sv, L, a, b, c⟩ := F3.out; exact ⟨d, sv, L, a, b, by simpa using c⟩⟩
        case measure => simp [intOf]
      · obtain rfl : k = 10 := by omega
        obtain ⟨d, sv, L, s2, b2, (⟨x, _⟩ | ⟨_, y1, y2, y3, y4⟩)⟩ := SS.out
        · omega
        have HI := info_one s2
        rw [y1, y2, y3] at HI
        have S2 : Hid (Solo wr base R lg d sv L ∧ Below w.heap.size w wr ∧ d.term = 1 ∧ d.role = 2 ∧ d.commit = 1 ∧ L.map Prod.fst = [(1, [])]) := ⟨s2, b2, y1, y2, y3, y4⟩
        clear s2 b2 SS hk h9 h10 y1 y2 y3 y4
        go_wp2_with fail
        refine HI.mono ?_
        clear HI
        rintro e w3 ⟨rfl, b3⟩
        have S3 : Hid (Solo w3 base R lg d sv L ∧ Below w.heap.size w w3) := ⟨S2.out.1.below b3, S2.out.2.1.trans (b3.mono S2.out.2.1.size)⟩
        clear b3
        have cv : (convert 37 37 (.slice (some ⟨w3.heap.size + 1, 0, none⟩) 1 1)).run Try.prog ((w3.alloc (.cells #[.int .i64 1, .int .i64 d.voted, .int .i64 2, .int .i64 d.leader, .int .i64 1] 35)).alloc (.cells #[.int .u8 97] 5)) = .ok (.slice (some ⟨w3.heap.size + 1, 0, none⟩) 1 1) ((w3.alloc (.cells #[.int .i64 1, .int .i64 d.voted, .int .i64 2, .int .i64 d.leader, .int .i64 1] 35)).alloc (.cells #[.int .u8 97] 5 (1, 2))) := by have q := Go.Lib.run_convert_bytes_const (P := Try.prog) (w3.alloc (.cells #[.int .i64 1, .int .i64 d.voted, .int .i64 2, .int .i64 d.leader, .int .i64 1] 35)) 37 5 #[.int .u8 97] 1 1 Try.underlying37 Try.underlying5; rw [show (w3.alloc (.cells #[.int .i64 1, .int .i64 d.voted, .int .i64 2, .int .i64 d.leader, .int .i64 1] 35)).heap.size = w3.heap.size + 1 by simp] at q; exact q
        have bI := (Below.refl _ w3).alloc (Nat.le_refl _) (.cells #[.int .i64 1, .int .i64 d.voted, .int .i64 2, .int .i64 d.leader, .int .i64 1] 35)
        have bC := (Below.refl _ (w3.alloc (.cells #[.int .i64 1, .int .i64 d.voted, .int .i64 2, .int .i64 d.leader, .int .i64 1] 35))).alloc (Nat.le_refl _) (.cells #[.int .u8 97] 5 (1, 2))
        have s5 := (S3.out.1.below bI).below bC
        have n5 := heap_alloc_new (w3.alloc (.cells #[.int .i64 1, .int .i64 d.voted, .int .i64 2, .int .i64 d.leader, .int .i64 1] 35)) (.cells #[.int .u8 97] 5 (1, 2))
        have m5 : ((w3.alloc (.cells #[.int .i64 1, .int .i64 d.voted, .int .i64 2, .int .i64 d.leader, .int .i64 1] 35)).alloc (.cells #[.int .u8 97] 5 (1, 2))).heap[w3.heap.size]? = some (.cells #[.int .i64 1, .int .i64 d.voted, .int .i64 2, .int .i64 d.leader, .int .i64 1] 35) := (bC.block _ (by simp)).trans (heap_alloc_new w3 _)
        have b5 : Below w.heap.size w ((w3.alloc (.cells #[.int .i64 1, .int .i64 d.voted, .int .i64 2, .int .i64 d.leader, .int .i64 1] 35)).alloc (.cells #[.int .u8 97] 5 (1, 2))) := (S3.out.2.trans (bI.mono S3.out.2.size)).trans (bC.mono (Nat.le_trans S3.out.2.size bI.size))
        have z5 : w3.heap.size < ((w3.alloc (.cells #[.int .i64 1, .int .i64 d.voted, .int .i64 2, .int .i64 d.leader, .int .i64 1] 35)).alloc (.cells #[.int .u8 97] 5 (1, 2))).heap.size := (Array.getElem?_eq_some_iff.1 m5).1
        have e5 : (w3.alloc (.cells #[.int .i64 1, .int .i64 d.voted, .int .i64 2, .int .i64 d.leader, .int .i64 1] 35)).heap.size = w3.heap.size + 1 := by simp
        rw [e5] at n5
        have ltR := S3.out.1.ltR
        have ltN := S3.out.1.log.ltN
        have ltO : ∀ g, sv.ownBlock = some g → g < w3.heap.size := fun g e => (row_kind S3.out.1.log.row e).2.1
        have L1 : L.length = 1 := by have := congrArg List.length S2.out.2.2.2.2.2; simpa using this
        have T1 : lastT 0 L = 1 := lastT_snoc (l := []) S2.out.2.2.2.2.2 0
        have HP : Calls Try.prog 18 #[.pointer (some ⟨R, 0, none⟩), .slice (some ⟨w3.heap.size + 1, 0, none⟩) 1 1] ((w3.alloc (.cells #[.int .i64 1, .int .i64 d.voted, .int .i64 2, .int .i64 d.leader, .int .i64 1] 35)).alloc (.cells #[.int .u8 97] 5 (1, 2))) _ := propose_one s5 S2.out.2.2.2.1 (by omega) (by rw [T1, S2.out.2.2.1]; omega) (by rw [S2.out.2.2.2.2.1]; omega) (some ⟨w3.heap.size + 1, 0, none⟩) 1 1 [97] ⟨_, _, rfl, ⟨rfl, by simp [maxLen], .inr ⟨_, _, rfl, fun j hj => by
            obtain rfl : j = 0 := by simpa using hj
            unfold World.cell?
            simp only [Nat.add_zero, n5]
            rfl⟩⟩, (fun e => by cases e), by simp⟩ (fun x e _ => by cases e; exact ⟨by show w3.heap.size + 1 ≠ lg; omega, fun e => by have h9 : w3.heap.size + 1 < w3.heap.size := ltO _ e.symm; omega⟩) (by omega)
        have FF : Hid (((w3.alloc (.cells #[.int .i64 1, .int .i64 d.voted, .int .i64 2, .int .i64 d.leader, .int .i64 1] 35)).alloc (.cells #[.int .u8 97] 5 (1, 2))).heap[w3.heap.size]? = some (.cells #[.int .i64 1, .int .i64 d.voted, .int .i64 2, .int .i64 d.leader, .int .i64 1] 35) ∧ Below w.heap.size w ((w3.alloc (.cells #[.int .i64 1, .int .i64 d.voted, .int .i64 2, .int .i64 d.leader, .int .i64 1] 35)).alloc (.cells #[.int .u8 97] 5 (1, 2))) ∧ w3.heap.size < ((w3.alloc (.cells #[.int .i64 1, .int .i64 d.voted, .int .i64 2, .int .i64 d.leader, .int .i64 1] 35)).alloc (.cells #[.int .u8 97] 5 (1, 2))).heap.size ∧ w3.heap.size ≠ R ∧ w3.heap.size ≠ lg ∧ some w3.heap.size ≠ sv.ownBlock) := ⟨m5, b5, z5, by omega, by omega, fun e => by have := ltO _ e.symm; omega⟩
        rw [L1] at HP
        clear bI bC s5 n5 m5 b5 z5 e5 ltR ltN ltO T1
        go_wp2_with fail
        refine HP.mono ?_
        clear HP cv
        rintro e w6 ⟨rfl, sv6, L6, s6, b6, f6, r6⟩
        have m6 : w6.heap[w3.heap.size]? = some (.cells #[.int .i64 1, .int .i64 d.voted, .int .i64 2, .int .i64 d.leader, .int .i64 1] 35) := (r6 _ FF.out.2.2.1 FF.out.2.2.2.1 FF.out.2.2.2.2.1 FF.out.2.2.2.2.2).trans FF.out.1
        have HI := info_one s6
        have B6 : Hid (Below w.heap.size w w6 ∧ w6.heap[w3.heap.size]? = some (.cells #[.int .i64 1, .int .i64 d.voted, .int .i64 2, .int .i64 d.leader, .int .i64 1] 35)) := ⟨FF.out.2.1.trans (b6.mono Z1.out), m6⟩
        clear s6 b6 f6 r6 m6 FF
        go_wp2_with fail
        refine HI.mono ?_
        clear HI
        rintro e w7 ⟨rfl, b7⟩
        have m7 : w7.heap[w3.heap.size]? = some (.cells #[.int .i64 1, .int .i64 d.voted, .int .i64 2, .int .i64 d.leader, .int .i64 1] 35) := (b7.block _ (Array.getElem?_eq_some_iff.1 B6.out.2).1).trans B6.out.2
        have B7 : Hid (Below w.heap.size w w7) := B6.out.1.trans (b7.mono B6.out.1.size)
        have z7 := (Array.getElem?_eq_some_iff.1 m7).1
        have y : ∀ (o : Obj) (i : Nat), (w7.alloc o).cell? ⟨w3.heap.size, i, none⟩ = (#[.int .i64 1, .int .i64 d.voted, .int .i64 2, .int .i64 d.leader, .int .i64 1] : Array Value)[i]? := fun o i => by unfold World.cell?; simp only [heap_alloc_old w7 _ z7, m7]; rfl
        have y0 : ∀ o : Obj, (w7.alloc o).cell? ⟨w3.heap.size, 0, none⟩ = some (.int .i64 1) := fun o => y o 0
        have y2 : ∀ o : Obj, (w7.alloc o).cell? ⟨w3.heap.size, 2, none⟩ = some (.int .i64 2) := fun o => y o 2
        have y4 : ∀ o : Obj, (w7.alloc o).cell? ⟨w3.heap.size, 4, none⟩ = some (.int .i64 1) := fun o => y o 4
        clear b7 m7 y z7 B6
        go_wp2
        go_ret
        exact ⟨rfl, B7.out.alloc B7.out.size _⟩
end
end Go.Proofs.Ythnocbflnakdmaa
