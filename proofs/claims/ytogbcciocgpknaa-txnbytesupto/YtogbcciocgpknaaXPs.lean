/- A command read: the program. Written by gen_xpa.py. -/
import Derived.Test.YtogbcciocgpknaaXPa
import Derived.Test.YtogbcciocgpknaaTaK
import Derived.Test.YtogbcciocgpknaaTaM
import Derived.Test.YtogbcciocgpknaaTaL
import Derived.Great.BuildSlice
import Derived.WalkSmall
namespace Go.Proofs.Ytogbcciocgpknaa
open Go.RowKit Cod
attribute [local go_sem] Oper.semAt_some
set_option linter.unusedVariables false
set_option maxRecDepth 100000 in
set_option maxHeartbeats 4000000 in
theorem sParse_any {v : Value} {l : List (BitVec 8)} {w : World} (h : Got w v l) (hm : l.length ≤ 140737488355328) : Calls Try.prog 36 #[v] w fun e w' => Parsed w w' l e := by
  obtain ⟨a, cap, rfl, h, hnil⟩ := h
  have Q0 := heap_alloc_new w (.cells #[.int .i64 0, .int .i64 0, .string ⟨#[]⟩, .string ⟨#[]⟩, .int .i64 0, .string ⟨#[]⟩, .int .i64 0, .int .i64 0, .string ⟨#[]⟩, .string ⟨#[]⟩, .int .i64 0, .int .i64 0, .int .i64 0, .int .i64 0, .int .i64 0, .bool false, .slice none 0 0] 37)
  by_cases h1 : 65536 < l.length
  · have e1 : psW l = 3 := by unfold psW; rw [if_pos h1]
    have HE : Hid (psW l = 3) := e1
    have q0 : (65536 : Int) < (l.length : Int) := by omega
    have q1 : decide ((65536 : Int) < (l.length : Int)) = true := decide_eq_true q0
    have Q1 : Hid _ := Q0
    clear h hnil hm h1 Q0 e1
    generalize l.length = n at *
    go_enter Try.func36, Try.ntmps36
    go_wp2_with (first
      | (refine wpList_buildTo rfl 37 _ rfl (some 10) rfl #[.int .i64 0, .int .i64 0, .string ⟨#[]⟩, .string ⟨#[]⟩, .int .i64 0, .string ⟨#[]⟩, .int .i64 0, .int .i64 0, .string ⟨#[]⟩, .string ⟨#[]⟩, .int .i64 0, .int .i64 0, .int .i64 0, .int .i64 0, .int .i64 0, .bool false, .slice none 0 0] (by kernel_rfl) ?_)
      | (refine wpList_store_row rfl 37 (.tmp 2) (.tmp 10) rfl w.heap.size #[.int .i64 0, .int .i64 0, .string ⟨#[]⟩, .string ⟨#[]⟩, .int .i64 0, .string ⟨#[]⟩, .int .i64 0, .int .i64 0, .string ⟨#[]⟩, .string ⟨#[]⟩, .int .i64 0, .int .i64 0, .int .i64 0, .int .i64 0, .int .i64 0, .bool false, .slice none 0 0] rfl rfl 37 _ Q1.out (by kernel_rfl) rfl (by simp [Value.oneCell']) ?_))
    exact bodyPost_ret (results_ct (p := 2) (u := 3) rfl _ _ w.heap.size 37 _ _ _ rfl (setRow_selfX Q1.out) Try.underlying37 rfl (by kernel_rfl)) rfl (parsedZ 3 (by rw [HE.out]; decide) (by rw [HE.out]; rfl) (below_rowX ((Below.refl _ w).alloc (Nat.le_refl _) _) (Nat.le_refl _) _))
  have e1 : psW l = pcE l := by unfold psW; rw [if_neg h1]
  have HE1 : Hid (psW l = pcE l) := e1
  have bA : Below w.heap.size w (w.alloc (.cells #[.int .i64 0, .int .i64 0, .string ⟨#[]⟩, .string ⟨#[]⟩, .int .i64 0, .string ⟨#[]⟩, .int .i64 0, .int .i64 0, .string ⟨#[]⟩, .string ⟨#[]⟩, .int .i64 0, .int .i64 0, .int .i64 0, .int .i64 0, .int .i64 0, .bool false, .slice none 0 0] 37)) := (Below.refl _ w).alloc (Nat.le_refl _) _
  have qA := BlX.new w #[.int .i64 0, .int .i64 0, .string ⟨#[]⟩, .string ⟨#[]⟩, .int .i64 0, .string ⟨#[]⟩, .int .i64 0, .int .i64 0, .string ⟨#[]⟩, .string ⟨#[]⟩, .int .i64 0, .int .i64 0, .int .i64 0, .int .i64 0, .int .i64 0, .bool false, .slice none 0 0] 37
  have HN := newReader_any a l.length cap l (w.alloc (.cells #[.int .i64 0, .int .i64 0, .string ⟨#[]⟩, .string ⟨#[]⟩, .int .i64 0, .string ⟨#[]⟩, .int .i64 0, .int .i64 0, .string ⟨#[]⟩, .string ⟨#[]⟩, .int .i64 0, .int .i64 0, .int .i64 0, .int .i64 0, .int .i64 0, .bool false, .slice none 0 0] 37)) (h.below bA) hnil hm
  obtain ⟨wA, eA⟩ : ∃ x, w.alloc (.cells #[.int .i64 0, .int .i64 0, .string ⟨#[]⟩, .string ⟨#[]⟩, .int .i64 0, .string ⟨#[]⟩, .int .i64 0, .int .i64 0, .string ⟨#[]⟩, .string ⟨#[]⟩, .int .i64 0, .int .i64 0, .int .i64 0, .int .i64 0, .int .i64 0, .bool false, .slice none 0 0] 37) = x := ⟨_, rfl⟩
  obtain ⟨Q, eQ⟩ : ∃ x, w.heap.size = x := ⟨_, rfl⟩
  rw [eA] at HN bA qA
  rw [eQ] at qA
  have EA : Hid _ := eA
  have EQ : Hid (w.heap.size = Q) := eQ
  have HA : Hid (Below w.heap.size w wA ∧ BlX wA Q #[.int .i64 0, .int .i64 0, .string ⟨#[]⟩, .string ⟨#[]⟩, .int .i64 0, .string ⟨#[]⟩, .int .i64 0, .int .i64 0, .string ⟨#[]⟩, .string ⟨#[]⟩, .int .i64 0, .int .i64 0, .int .i64 0, .int .i64 0, .int .i64 0, .bool false, .slice none 0 0] 37) := ⟨bA, qA⟩
  have q0 : ¬ (65536 : Int) < (l.length : Int) := by omega
  have q1 : decide ((65536 : Int) < (l.length : Int)) = false := decide_eq_false q0
  clear h hnil hm h1 bA qA eA eQ e1 Q0
  obtain ⟨n, en⟩ : ∃ n, l.length = n := ⟨_, rfl⟩
  rw [en] at HN q0 q1
  rw [en]
  clear en
  go_enter Try.func36, Try.ntmps36
  go_wp2_with fail
  rw [EA.out, EQ.out]
  refine HN.mono ?_
  clear HN
  rintro e w1 ⟨R, rfl, hR, r1, b1⟩
  have hz : Q < wA.heap.size := HA.out.2.lt
  have hz1 : wA.heap.size ≤ w1.heap.size := b1.size
  have hz2 : R < w1.heap.size := r1.lt
  have P0 : Hid (PSx w (w1.alloc (.cells #[.int .i64 0, .int .i64 0, .string ⟨#[]⟩, .string ⟨#[]⟩, .int .i64 0, .string ⟨#[]⟩, .int .i64 0, .int .i64 0, .string ⟨#[]⟩, .string ⟨#[]⟩, .int .i64 0, .int .i64 0, .int .i64 0, .int .i64 0, .int .i64 0, .bool false, .slice none 0 0] 37)) 37 Q R w1.heap.size l #[.int .i64 0, .int .i64 0, .string ⟨#[]⟩, .string ⟨#[]⟩, .int .i64 0, .string ⟨#[]⟩, .int .i64 0, .int .i64 0, .string ⟨#[]⟩, .string ⟨#[]⟩, .int .i64 0, .int .i64 0, .int .i64 0, .int .i64 0, .int .i64 0, .bool false, .slice none 0 0] (pX0 l)) :=
    ⟨(HA.out.2.below b1).alloc _, BlX.new w1 _ _, r1.below ((Below.refl _ w1).alloc (Nat.le_refl _) _), (HA.out.1.trans (b1.mono HA.out.1.size)).alloc (Nat.le_trans HA.out.1.size b1.size) _, Nat.le_of_eq EQ.out, Nat.le_trans HA.out.1.size b1.size, Nat.le_trans HA.out.1.size hR, by omega, by omega, hz2⟩
  obtain ⟨w2, e2⟩ : ∃ x, w1.alloc (.cells #[.int .i64 0, .int .i64 0, .string ⟨#[]⟩, .string ⟨#[]⟩, .int .i64 0, .string ⟨#[]⟩, .int .i64 0, .int .i64 0, .string ⟨#[]⟩, .string ⟨#[]⟩, .int .i64 0, .int .i64 0, .int .i64 0, .int .i64 0, .int .i64 0, .bool false, .slice none 0 0] 37) = x := ⟨_, rfl⟩
  obtain ⟨S, eS⟩ : ∃ x, w1.heap.size = x := ⟨_, rfl⟩
  have E2 : Hid _ := e2
  have ES : Hid (w1.heap.size = S) := eS
  rw [e2, eS] at P0
  clear e2 eS r1 b1 hR HA hz hz1 hz2
  have HX := rInt_any R l (pX0 l).1 (pX0 l).2 _ P0.out.r
  rw [pcI0_is, pX1_a, pX1_b] at HX
  go_wp2_with fail
  rw [E2.out, ES.out]
  clear E2 ES
  refine HX.mono ?_
  clear HX
  rintro e x0 ⟨rfl, r0, g0⟩
  have J0 : Hid (PSx w x0 37 Q R S l #[.int .i64 0, .int .i64 0, .string ⟨#[]⟩, .string ⟨#[]⟩, .int .i64 0, .string ⟨#[]⟩, .int .i64 0, .int .i64 0, .string ⟨#[]⟩, .string ⟨#[]⟩, .int .i64 0, .int .i64 0, .int .i64 0, .int .i64 0, .int .i64 0, .bool false, .slice none 0 0] (pX1 l)) := P0.out.read g0 r0
  have c0 : x0.cell? ⟨S, 0, none⟩ = some (.int .i64 0) := J0.out.s.cell 0
  have f0 := J0.out.s.fz 0
  clear r0 g0 P0
  have P1 : Hid (PSx w (x0.setCell ⟨S, 0, none⟩ (.int .i64 (pcI0 l))) 37 Q R S l #[.int .i64 (pcI0 l), .int .i64 0, .string ⟨#[]⟩, .string ⟨#[]⟩, .int .i64 0, .string ⟨#[]⟩, .int .i64 0, .int .i64 0, .string ⟨#[]⟩, .string ⟨#[]⟩, .int .i64 0, .int .i64 0, .int .i64 0, .int .i64 0, .int .i64 0, .bool false, .slice none 0 0] (pX1 l)) := J0.out.put 0 _
  clear J0
  have HX := getOp_any R l (pX1 l).1 (pX1 l).2 _ P1.out.r
  rw [pcO_is, pX2_a, pX2_b] at HX
  go_wp2_with fail
  refine HX.mono ?_
  clear HX c0 f0
  rintro e x1 ⟨rfl, r1, g1⟩
  have J1 : Hid (PSx w x1 37 Q R S l #[.int .i64 (pcI0 l), .int .i64 0, .string ⟨#[]⟩, .string ⟨#[]⟩, .int .i64 0, .string ⟨#[]⟩, .int .i64 0, .int .i64 0, .string ⟨#[]⟩, .string ⟨#[]⟩, .int .i64 0, .int .i64 0, .int .i64 0, .int .i64 0, .int .i64 0, .bool false, .slice none 0 0] (pX2 l)) := P1.out.read g1 r1
  have TT : Hid (x1.there S 1 7) := J1.out.s.there (by simp)
  have P2' : Hid (PSx w (x1.setCells S 1 [.int .i64 (pcO l).kind, .string (pcO l).src, .string (pcO l).dst, .int .i64 (pcO l).amount, .string (pcO l).key, .int .i64 (pcO l).slot, .int .i64 (pcO l).shard]) 37 Q R S l #[.int .i64 (pcI0 l), .int .i64 (pcO l).kind, .string (pcO l).src, .string (pcO l).dst, .int .i64 (pcO l).amount, .string (pcO l).key, .int .i64 (pcO l).slot, .int .i64 (pcO l).shard, .string ⟨#[]⟩, .string ⟨#[]⟩, .int .i64 0, .int .i64 0, .int .i64 0, .int .i64 0, .int .i64 0, .bool false, .slice none 0 0] (pX2 l)) := J1.out.puts [.int .i64 (pcO l).kind, .string (pcO l).src, .string (pcO l).dst, .int .i64 (pcO l).amount, .string (pcO l).key, .int .i64 (pcO l).slot, .int .i64 (pcO l).shard] 1
  obtain ⟨wX, eX⟩ : ∃ wX, x1.setCells S 1 (#[.int .i64 (pcO l).kind, .string (pcO l).src, .string (pcO l).dst, .int .i64 (pcO l).amount, .string (pcO l).key, .int .i64 (pcO l).slot, .int .i64 (pcO l).shard] : Array Value).toList = wX := ⟨_, rfl⟩
  have P2 : Hid (PSx w wX 37 Q R S l #[.int .i64 (pcI0 l), .int .i64 (pcO l).kind, .string (pcO l).src, .string (pcO l).dst, .int .i64 (pcO l).amount, .string (pcO l).key, .int .i64 (pcO l).slot, .int .i64 (pcO l).shard, .string ⟨#[]⟩, .string ⟨#[]⟩, .int .i64 0, .int .i64 0, .int .i64 0, .int .i64 0, .int .i64 0, .bool false, .slice none 0 0] (pX2 l)) := by rw [← eX]; exact P2'.out
  have EX : Hid (x1.setCells S 1 (#[.int .i64 (pcO l).kind, .string (pcO l).src, .string (pcO l).dst, .int .i64 (pcO l).amount, .string (pcO l).key, .int .i64 (pcO l).slot, .int .i64 (pcO l).shard] : Array Value).toList = wX) := eX
  clear r1 g1 P1 P2' eX J1
  have HX := rText_any R l (pX2 l).1 (pX2 l).2 _ P2.out.r
  rw [pcT2_is, pX3_a, pX3_b] at HX
  go_wp2_with (first
    | (refine wpList_store_mid rfl 23 (.tmp 18) (.tmp 17) rfl S 1 #[.int .i64 (pcO l).kind, .string (pcO l).src, .string (pcO l).dst, .int .i64 (pcO l).amount, .string (pcO l).key, .int .i64 (pcO l).slot, .int .i64 (pcO l).shard] rfl rfl TT.out (by kernel_rfl) (by simp [Value.oneCell']) ?_; rw [EX.out]))
  refine HX.mono ?_
  clear HX
  rintro e x2 ⟨rfl, r2, g2⟩
  have J2 : Hid (PSx w x2 37 Q R S l #[.int .i64 (pcI0 l), .int .i64 (pcO l).kind, .string (pcO l).src, .string (pcO l).dst, .int .i64 (pcO l).amount, .string (pcO l).key, .int .i64 (pcO l).slot, .int .i64 (pcO l).shard, .string ⟨#[]⟩, .string ⟨#[]⟩, .int .i64 0, .int .i64 0, .int .i64 0, .int .i64 0, .int .i64 0, .bool false, .slice none 0 0] (pX3 l)) := P2.out.read g2 r2
  have c2 : x2.cell? ⟨S, 8, none⟩ = some (.string ⟨#[]⟩) := J2.out.s.cell 8
  have f2 := J2.out.s.fz 8
  clear r2 g2 P2
  have P3 : Hid (PSx w (x2.setCell ⟨S, 8, none⟩ (.string (pcT2 l))) 37 Q R S l #[.int .i64 (pcI0 l), .int .i64 (pcO l).kind, .string (pcO l).src, .string (pcO l).dst, .int .i64 (pcO l).amount, .string (pcO l).key, .int .i64 (pcO l).slot, .int .i64 (pcO l).shard, .string (pcT2 l), .string ⟨#[]⟩, .int .i64 0, .int .i64 0, .int .i64 0, .int .i64 0, .int .i64 0, .bool false, .slice none 0 0] (pX3 l)) := J2.out.put 8 _
  clear J2
  have HX := rText_any R l (pX3 l).1 (pX3 l).2 _ P3.out.r
  rw [pcT3_is, pX4_a, pX4_b] at HX
  go_wp2_with fail
  refine HX.mono ?_
  clear HX c2 f2
  rintro e x3 ⟨rfl, r3, g3⟩
  have J3 : Hid (PSx w x3 37 Q R S l #[.int .i64 (pcI0 l), .int .i64 (pcO l).kind, .string (pcO l).src, .string (pcO l).dst, .int .i64 (pcO l).amount, .string (pcO l).key, .int .i64 (pcO l).slot, .int .i64 (pcO l).shard, .string (pcT2 l), .string ⟨#[]⟩, .int .i64 0, .int .i64 0, .int .i64 0, .int .i64 0, .int .i64 0, .bool false, .slice none 0 0] (pX4 l)) := P3.out.read g3 r3
  have c3 : x3.cell? ⟨S, 9, none⟩ = some (.string ⟨#[]⟩) := J3.out.s.cell 9
  have f3 := J3.out.s.fz 9
  clear r3 g3 P3
  have P4 : Hid (PSx w (x3.setCell ⟨S, 9, none⟩ (.string (pcT3 l))) 37 Q R S l #[.int .i64 (pcI0 l), .int .i64 (pcO l).kind, .string (pcO l).src, .string (pcO l).dst, .int .i64 (pcO l).amount, .string (pcO l).key, .int .i64 (pcO l).slot, .int .i64 (pcO l).shard, .string (pcT2 l), .string (pcT3 l), .int .i64 0, .int .i64 0, .int .i64 0, .int .i64 0, .int .i64 0, .bool false, .slice none 0 0] (pX4 l)) := J3.out.put 9 _
  clear J3
  have HX := rInt_any R l (pX4 l).1 (pX4 l).2 _ P4.out.r
  rw [pcI4_is, pX5_a, pX5_b] at HX
  go_wp2_with fail
  refine HX.mono ?_
  clear HX c3 f3
  rintro e x4 ⟨rfl, r4, g4⟩
  have J4 : Hid (PSx w x4 37 Q R S l #[.int .i64 (pcI0 l), .int .i64 (pcO l).kind, .string (pcO l).src, .string (pcO l).dst, .int .i64 (pcO l).amount, .string (pcO l).key, .int .i64 (pcO l).slot, .int .i64 (pcO l).shard, .string (pcT2 l), .string (pcT3 l), .int .i64 0, .int .i64 0, .int .i64 0, .int .i64 0, .int .i64 0, .bool false, .slice none 0 0] (pX5 l)) := P4.out.read g4 r4
  have c4 : x4.cell? ⟨S, 10, none⟩ = some (.int .i64 0) := J4.out.s.cell 10
  have f4 := J4.out.s.fz 10
  clear r4 g4 P4
  have P5 : Hid (PSx w (x4.setCell ⟨S, 10, none⟩ (.int .i64 (pcI4 l))) 37 Q R S l #[.int .i64 (pcI0 l), .int .i64 (pcO l).kind, .string (pcO l).src, .string (pcO l).dst, .int .i64 (pcO l).amount, .string (pcO l).key, .int .i64 (pcO l).slot, .int .i64 (pcO l).shard, .string (pcT2 l), .string (pcT3 l), .int .i64 (pcI4 l), .int .i64 0, .int .i64 0, .int .i64 0, .int .i64 0, .bool false, .slice none 0 0] (pX5 l)) := J4.out.put 10 _
  clear J4
  have HX := rInt_any R l (pX5 l).1 (pX5 l).2 _ P5.out.r
  rw [pcI5_is, pX6_a, pX6_b] at HX
  go_wp2_with fail
  refine HX.mono ?_
  clear HX c4 f4
  rintro e x5 ⟨rfl, r5, g5⟩
  have J5 : Hid (PSx w x5 37 Q R S l #[.int .i64 (pcI0 l), .int .i64 (pcO l).kind, .string (pcO l).src, .string (pcO l).dst, .int .i64 (pcO l).amount, .string (pcO l).key, .int .i64 (pcO l).slot, .int .i64 (pcO l).shard, .string (pcT2 l), .string (pcT3 l), .int .i64 (pcI4 l), .int .i64 0, .int .i64 0, .int .i64 0, .int .i64 0, .bool false, .slice none 0 0] (pX6 l)) := P5.out.read g5 r5
  have c5 : x5.cell? ⟨S, 11, none⟩ = some (.int .i64 0) := J5.out.s.cell 11
  have f5 := J5.out.s.fz 11
  clear r5 g5 P5
  have P6 : Hid (PSx w (x5.setCell ⟨S, 11, none⟩ (.int .i64 (pcI5 l))) 37 Q R S l #[.int .i64 (pcI0 l), .int .i64 (pcO l).kind, .string (pcO l).src, .string (pcO l).dst, .int .i64 (pcO l).amount, .string (pcO l).key, .int .i64 (pcO l).slot, .int .i64 (pcO l).shard, .string (pcT2 l), .string (pcT3 l), .int .i64 (pcI4 l), .int .i64 (pcI5 l), .int .i64 0, .int .i64 0, .int .i64 0, .bool false, .slice none 0 0] (pX6 l)) := J5.out.put 11 _
  clear J5
  have HX := rInt_any R l (pX6 l).1 (pX6 l).2 _ P6.out.r
  rw [pcI6_is, pX7_a, pX7_b] at HX
  go_wp2_with fail
  refine HX.mono ?_
  clear HX c5 f5
  rintro e x6 ⟨rfl, r6, g6⟩
  have J6 : Hid (PSx w x6 37 Q R S l #[.int .i64 (pcI0 l), .int .i64 (pcO l).kind, .string (pcO l).src, .string (pcO l).dst, .int .i64 (pcO l).amount, .string (pcO l).key, .int .i64 (pcO l).slot, .int .i64 (pcO l).shard, .string (pcT2 l), .string (pcT3 l), .int .i64 (pcI4 l), .int .i64 (pcI5 l), .int .i64 0, .int .i64 0, .int .i64 0, .bool false, .slice none 0 0] (pX7 l)) := P6.out.read g6 r6
  have c6 : x6.cell? ⟨S, 12, none⟩ = some (.int .i64 0) := J6.out.s.cell 12
  have f6 := J6.out.s.fz 12
  clear r6 g6 P6
  have P7 : Hid (PSx w (x6.setCell ⟨S, 12, none⟩ (.int .i64 (pcI6 l))) 37 Q R S l #[.int .i64 (pcI0 l), .int .i64 (pcO l).kind, .string (pcO l).src, .string (pcO l).dst, .int .i64 (pcO l).amount, .string (pcO l).key, .int .i64 (pcO l).slot, .int .i64 (pcO l).shard, .string (pcT2 l), .string (pcT3 l), .int .i64 (pcI4 l), .int .i64 (pcI5 l), .int .i64 (pcI6 l), .int .i64 0, .int .i64 0, .bool false, .slice none 0 0] (pX7 l)) := J6.out.put 12 _
  clear J6
  have HX := rInt_any R l (pX7 l).1 (pX7 l).2 _ P7.out.r
  rw [pcI7_is, pX8_a, pX8_b] at HX
  go_wp2_with fail
  refine HX.mono ?_
  clear HX c6 f6
  rintro e x7 ⟨rfl, r7, g7⟩
  have J7 : Hid (PSx w x7 37 Q R S l #[.int .i64 (pcI0 l), .int .i64 (pcO l).kind, .string (pcO l).src, .string (pcO l).dst, .int .i64 (pcO l).amount, .string (pcO l).key, .int .i64 (pcO l).slot, .int .i64 (pcO l).shard, .string (pcT2 l), .string (pcT3 l), .int .i64 (pcI4 l), .int .i64 (pcI5 l), .int .i64 (pcI6 l), .int .i64 0, .int .i64 0, .bool false, .slice none 0 0] (pX8 l)) := P7.out.read g7 r7
  have c7 : x7.cell? ⟨S, 13, none⟩ = some (.int .i64 0) := J7.out.s.cell 13
  have f7 := J7.out.s.fz 13
  clear r7 g7 P7
  have P8 : Hid (PSx w (x7.setCell ⟨S, 13, none⟩ (.int .i64 (pcI7 l))) 37 Q R S l #[.int .i64 (pcI0 l), .int .i64 (pcO l).kind, .string (pcO l).src, .string (pcO l).dst, .int .i64 (pcO l).amount, .string (pcO l).key, .int .i64 (pcO l).slot, .int .i64 (pcO l).shard, .string (pcT2 l), .string (pcT3 l), .int .i64 (pcI4 l), .int .i64 (pcI5 l), .int .i64 (pcI6 l), .int .i64 (pcI7 l), .int .i64 0, .bool false, .slice none 0 0] (pX8 l)) := J7.out.put 13 _
  clear J7
  have HX := rInt_any R l (pX8 l).1 (pX8 l).2 _ P8.out.r
  rw [pcI8_is, pX9_a, pX9_b] at HX
  go_wp2_with fail
  refine HX.mono ?_
  clear HX c7 f7
  rintro e x8 ⟨rfl, r8, g8⟩
  have J8 : Hid (PSx w x8 37 Q R S l #[.int .i64 (pcI0 l), .int .i64 (pcO l).kind, .string (pcO l).src, .string (pcO l).dst, .int .i64 (pcO l).amount, .string (pcO l).key, .int .i64 (pcO l).slot, .int .i64 (pcO l).shard, .string (pcT2 l), .string (pcT3 l), .int .i64 (pcI4 l), .int .i64 (pcI5 l), .int .i64 (pcI6 l), .int .i64 (pcI7 l), .int .i64 0, .bool false, .slice none 0 0] (pX9 l)) := P8.out.read g8 r8
  have c8 : x8.cell? ⟨S, 14, none⟩ = some (.int .i64 0) := J8.out.s.cell 14
  have f8 := J8.out.s.fz 14
  clear r8 g8 P8
  have P9 : Hid (PSx w (x8.setCell ⟨S, 14, none⟩ (.int .i64 (pcI8 l))) 37 Q R S l #[.int .i64 (pcI0 l), .int .i64 (pcO l).kind, .string (pcO l).src, .string (pcO l).dst, .int .i64 (pcO l).amount, .string (pcO l).key, .int .i64 (pcO l).slot, .int .i64 (pcO l).shard, .string (pcT2 l), .string (pcT3 l), .int .i64 (pcI4 l), .int .i64 (pcI5 l), .int .i64 (pcI6 l), .int .i64 (pcI7 l), .int .i64 (pcI8 l), .bool false, .slice none 0 0] (pX9 l)) := J8.out.put 14 _
  clear J8
  have HX := rBool_any R l (pX9 l).1 (pX9 l).2 _ P9.out.r
  rw [pcL_is, pX10_a, pX10_b] at HX
  go_wp2_with fail
  refine HX.mono ?_
  clear HX c8 f8
  rintro e x9 ⟨rfl, r9, g9⟩
  have J9 : Hid (PSx w x9 37 Q R S l #[.int .i64 (pcI0 l), .int .i64 (pcO l).kind, .string (pcO l).src, .string (pcO l).dst, .int .i64 (pcO l).amount, .string (pcO l).key, .int .i64 (pcO l).slot, .int .i64 (pcO l).shard, .string (pcT2 l), .string (pcT3 l), .int .i64 (pcI4 l), .int .i64 (pcI5 l), .int .i64 (pcI6 l), .int .i64 (pcI7 l), .int .i64 (pcI8 l), .bool false, .slice none 0 0] (pX10 l)) := P9.out.read g9 r9
  have c9 : x9.cell? ⟨S, 15, none⟩ = some (.bool false) := J9.out.s.cell 15
  have f9 := J9.out.s.fz 15
  clear r9 g9 P9
  have P10 : Hid (PSx w (x9.setCell ⟨S, 15, none⟩ (.bool (pcL l))) 37 Q R S l #[.int .i64 (pcI0 l), .int .i64 (pcO l).kind, .string (pcO l).src, .string (pcO l).dst, .int .i64 (pcO l).amount, .string (pcO l).key, .int .i64 (pcO l).slot, .int .i64 (pcO l).shard, .string (pcT2 l), .string (pcT3 l), .int .i64 (pcI4 l), .int .i64 (pcI5 l), .int .i64 (pcI6 l), .int .i64 (pcI7 l), .int .i64 (pcI8 l), .bool (pcL l), .slice none 0 0] (pX10 l)) := J9.out.put 15 _
  clear J9
  have HX := rBytes_any R l (pX10 l).1 (pX10 l).2 _ P10.out.r
  rw [pcD_is, pX11_a, pX11_b] at HX
  go_wp2_with fail
  refine HX.mono ?_
  clear HX c9 f9
  rintro e x10 ⟨dv, rfl, od, ld, r10, g10⟩
  have FD : Hid (Far x10 (x9.setCell ⟨S, 15, none⟩ (.bool (pcL l))).heap.size dv (pcD l) ∧ (pcD l).length ≤ 65536) := ⟨far_owned od (by unfold maxLen; omega), ld⟩
  have fd := FD.out.1
  obtain ⟨da, dc, rfl, _⟩ := fd
  have sz0 : S < (x9.setCell ⟨S, 15, none⟩ (.bool (pcL l))).heap.size := P10.out.s.lt
  have SD : Hid (S < (x9.setCell ⟨S, 15, none⟩ (.bool (pcL l))).heap.size) := sz0
  clear od ld sz0
  have J10 : Hid (PSx w x10 37 Q R S l #[.int .i64 (pcI0 l), .int .i64 (pcO l).kind, .string (pcO l).src, .string (pcO l).dst, .int .i64 (pcO l).amount, .string (pcO l).key, .int .i64 (pcO l).slot, .int .i64 (pcO l).shard, .string (pcT2 l), .string (pcT3 l), .int .i64 (pcI4 l), .int .i64 (pcI5 l), .int .i64 (pcI6 l), .int .i64 (pcI7 l), .int .i64 (pcI8 l), .bool (pcL l), .slice none 0 0] (pX11 l)) := P10.out.read g10 r10
  have c10 : x10.cell? ⟨S, 16, none⟩ = some (.slice none 0 0) := J10.out.s.cell 16
  have f10 := J10.out.s.fz 16
  clear r10 g10 P10
  have P11 : Hid (PSx w (x10.setCell ⟨S, 16, none⟩ (.slice da (pcD l).length dc)) 37 Q R S l #[.int .i64 (pcI0 l), .int .i64 (pcO l).kind, .string (pcO l).src, .string (pcO l).dst, .int .i64 (pcO l).amount, .string (pcO l).key, .int .i64 (pcO l).slot, .int .i64 (pcO l).shard, .string (pcT2 l), .string (pcT3 l), .int .i64 (pcI4 l), .int .i64 (pcI5 l), .int .i64 (pcI6 l), .int .i64 (pcI7 l), .int .i64 (pcI8 l), .bool (pcL l), .slice da (pcD l).length dc] (pX11 l)) := J10.out.put 16 _
  clear J10
  have FE : Hid (Far (x10.setCell ⟨S, 16, none⟩ (.slice da (pcD l).length dc)) (x9.setCell ⟨S, 15, none⟩ (.bool (pcL l))).heap.size (.slice da (pcD l).length dc) (pcD l)) := FD.out.1.since (fun q hq => Below.heap_setCell _ _ _ _ (by have := SD.out; show q ≠ S; omega))
  have HX := rEnd_any R l (pX11 l).1 (pX11 l).2 _ P11.out.r
  rw [pcE_is] at HX
  go_wp2_with fail
  refine HX.mono ?_
  clear HX c10 f10
  rintro e y1 ⟨rfl, nq, rfl⟩
  have H7 : Hid (PSx w ((x10.setCell ⟨S, 16, none⟩ (.slice da (pcD l).length dc)).drewN nq) 37 Q R S l #[.int .i64 (pcI0 l), .int .i64 (pcO l).kind, .string (pcO l).src, .string (pcO l).dst, .int .i64 (pcO l).amount, .string (pcO l).key, .int .i64 (pcO l).slot, .int .i64 (pcO l).shard, .string (pcT2 l), .string (pcT3 l), .int .i64 (pcI4 l), .int .i64 (pcI5 l), .int .i64 (pcI6 l), .int .i64 (pcI7 l), .int .i64 (pcI8 l), .bool (pcL l), .slice da (pcD l).length dc] (pX11 l)) := P11.out.drewN nq
  have F7 : Hid (Far ((x10.setCell ⟨S, 16, none⟩ (.slice da (pcD l).length dc)).drewN nq) (x9.setCell ⟨S, 15, none⟩ (.bool (pcL l))).heap.size (.slice da (pcD l).length dc) (pcD l)) := FE.out.since (fun _ _ => rfl)
  obtain ⟨bs, ebs⟩ : ∃ b, (x9.setCell ⟨S, 15, none⟩ (.bool (pcL l))).heap.size = b := ⟨_, rfl⟩
  rw [ebs] at F7 SD
  clear P11 FE ebs
  generalize (x10.setCell ⟨S, 16, none⟩ (.slice da (pcD l).length dc)).drewN nq = y2 at *
  by_cases he : pcE l = 0
  · have HE : Hid (pcE l = 0) := he
    have RG : Hid (y2.rangeAt S 0 [.int .i64 (pcI0 l), .int .i64 (pcO l).kind, .string (pcO l).src, .string (pcO l).dst, .int .i64 (pcO l).amount, .string (pcO l).key, .int .i64 (pcO l).slot, .int .i64 (pcO l).shard, .string (pcT2 l), .string (pcT3 l), .int .i64 (pcI4 l), .int .i64 (pcI5 l), .int .i64 (pcI6 l), .int .i64 (pcI7 l), .int .i64 (pcI8 l), .bool (pcL l), .slice da (pcD l).length dc]) := H7.out.s.range
    have QQ : Hid _ := H7.out.q
    rw [he]
    rw [show ((0 : Nat) : Int) = 0 from rfl]
    clear he
    go_wp2_with (first
      | (refine wpList_load_mid rfl 37 (.tmp 5) rfl S 0 rfl [.int .i64 (pcI0 l), .int .i64 (pcO l).kind, .string (pcO l).src, .string (pcO l).dst, .int .i64 (pcO l).amount, .string (pcO l).key, .int .i64 (pcO l).slot, .int .i64 (pcO l).shard, .string (pcT2 l), .string (pcT3 l), .int .i64 (pcI4 l), .int .i64 (pcI5 l), .int .i64 (pcI6 l), .int .i64 (pcI7 l), .int .i64 (pcI8 l), .bool (pcL l), .slice da (pcD l).length dc] _ RG.out Try.underlying37 rfl (by kernel_rfl) ?_)
      | (refine wpList_store_row rfl 37 (.tmp 2) (.tmp 52) rfl Q #[.int .i64 (pcI0 l), .int .i64 (pcO l).kind, .string (pcO l).src, .string (pcO l).dst, .int .i64 (pcO l).amount, .string (pcO l).key, .int .i64 (pcO l).slot, .int .i64 (pcO l).shard, .string (pcT2 l), .string (pcT3 l), .int .i64 (pcI4 l), .int .i64 (pcI5 l), .int .i64 (pcI6 l), .int .i64 (pcI7 l), .int .i64 (pcI8 l), .bool (pcL l), .slice da (pcD l).length dc] rfl rfl 37 _ QQ.out (by kernel_rfl) (by simp) (by simp [Value.oneCell']) ?_))
    have FR : Far (y2.setRow Q #[.int .i64 (pcI0 l), .int .i64 (pcO l).kind, .string (pcO l).src, .string (pcO l).dst, .int .i64 (pcO l).amount, .string (pcO l).key, .int .i64 (pcO l).slot, .int .i64 (pcO l).shard, .string (pcT2 l), .string (pcT3 l), .int .i64 (pcI4 l), .int .i64 (pcI5 l), .int .i64 (pcI6 l), .int .i64 (pcI7 l), .int .i64 (pcI8 l), .bool (pcL l), .slice da (pcD l).length dc]) bs (.slice da (pcD l).length dc) (pcD l) := F7.out.since (fun k hk => setRow_other _ _ _ _ (by have := SD.out; have := H7.out.qs; omega))
    have FQ : Hid (Parsed w (y2.setRow Q #[.int .i64 (pcI0 l), .int .i64 (pcO l).kind, .string (pcO l).src, .string (pcO l).dst, .int .i64 (pcO l).amount, .string (pcO l).key, .int .i64 (pcO l).slot, .int .i64 (pcO l).shard, .string (pcT2 l), .string (pcT3 l), .int .i64 (pcI4 l), .int .i64 (pcI5 l), .int .i64 (pcI6 l), .int .i64 (pcI7 l), .int .i64 (pcI8 l), .bool (pcL l), .slice da (pcD l).length dc]) l (.returned (.tuple #[.agg #[.int .i64 (pcI0 l), .int .i64 (pcO l).kind, .string (pcO l).src, .string (pcO l).dst, .int .i64 (pcO l).amount, .string (pcO l).key, .int .i64 (pcO l).slot, .int .i64 (pcO l).shard, .string (pcT2 l), .string (pcT3 l), .int .i64 (pcI4 l), .int .i64 (pcI5 l), .int .i64 (pcI6 l), .int .i64 (pcI7 l), .int .i64 (pcI8 l), .bool (pcL l), .slice da (pcD l).length dc], .int .i64 0]))) := parsedY (.slice da (pcD l).length dc) (HE1.out.trans HE.out) (FR.mono (by have := SD.out; have := H7.out.hs; omega)) FD.out.2 (below_rowX H7.out.b H7.out.hq _)
    clear FR
    exact bodyPost_ret (results_ct (p := 2) (u := 3) rfl _ _ Q 37 _ _ _ rfl (setRow_selfX QQ.out) Try.underlying37 rfl (by kernel_rfl)) rfl FQ.out
  · have HE : Hid (pcE l ≠ 0) := he
    have he1 : ¬ ((pcE l : Int) = 0) := by omega
    have he2 : ((pcE l : Int) != 0) = true := by simpa using he
    have QQ : Hid _ := H7.out.q
    clear he
    go_wp2_with (first
      | (refine wpList_buildTo rfl 37 _ rfl (some 50) rfl #[.int .i64 0, .int .i64 0, .string ⟨#[]⟩, .string ⟨#[]⟩, .int .i64 0, .string ⟨#[]⟩, .int .i64 0, .int .i64 0, .string ⟨#[]⟩, .string ⟨#[]⟩, .int .i64 0, .int .i64 0, .int .i64 0, .int .i64 0, .int .i64 0, .bool false, .slice none 0 0] (by kernel_rfl) ?_)
      | (refine wpList_store_row rfl 37 (.tmp 2) (.tmp 50) rfl Q #[.int .i64 0, .int .i64 0, .string ⟨#[]⟩, .string ⟨#[]⟩, .int .i64 0, .string ⟨#[]⟩, .int .i64 0, .int .i64 0, .string ⟨#[]⟩, .string ⟨#[]⟩, .int .i64 0, .int .i64 0, .int .i64 0, .int .i64 0, .int .i64 0, .bool false, .slice none 0 0] rfl rfl 37 _ QQ.out (by kernel_rfl) rfl (by simp [Value.oneCell']) ?_))
    exact bodyPost_ret (results_ct (p := 2) (u := 3) rfl _ _ Q 37 _ _ _ rfl (setRow_selfX QQ.out) Try.underlying37 rfl (by kernel_rfl)) rfl (parsedZ (pcE l : Nat) (by rw [HE1.out]; exact HE.out) (by rw [HE1.out]) (below_rowX H7.out.b H7.out.hq _))
end Go.Proofs.Ytogbcciocgpknaa
