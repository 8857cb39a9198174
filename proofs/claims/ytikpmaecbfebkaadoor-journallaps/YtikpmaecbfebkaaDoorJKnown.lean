/- Package journal: the fixed calls. -/
import Derived.Test.YtikpmaecbfebkaaDoorJMy
import Derived.Test.YtikpmaecbfebkaaDoorJKnL
namespace Go.Proofs.YtikpmaecbfebkaaDoor
open Go.RowKit Go.Shelf
attribute [local go_sem] Oper.semAt_some
set_option linter.unusedVariables false

theorem whyA_new : whyA (newD 4) = 0 := rfl
theorem flags1 : k1D.de = false ∧ k1D.fu = false ∧ k1D.fa = false ∧ k1D.ws.length = 1 := appD_flags 0 4 1 [97#8] (newD 4) 1
theorem flags2 : k2D.de = false ∧ k2D.fu = false ∧ k2D.fa = false := by
  obtain ⟨h1, h2, h3, h4⟩ := appD_flags 0 4 2 z500 k1D (secs z500.length)
  obtain ⟨g1, g2, g3, g4⟩ := flags1
  exact ⟨h1.trans g1, h2.trans g2, h3.trans g3⟩
set_option maxRecDepth 100000 in
set_option maxHeartbeats 4000000 in
theorem knownJ_any (w : World) (hT : Tabs w) : Calls Tryd.prog 11 #[] w fun e w' => e = .returned (.bool true) ∧ Below w.heap.size w w' := by
  have kc := fun (w : World) (C : Array Value) (n c : Nat) => Lib.run_convert_bytes_const (P := Tryd.prog) w 22 5 C n c Tryd.underlying22 Tryd.underlying5
  have HT : Hid (Tabs w) := hT
  have HN : Calls Tryd.prog 15 #[.int .i64 4] w _ := my_new 4 w w (Below.refl _ _) (by omega) (by omega)
  clear hT
  go_enter Tryd.func11, Tryd.ntmps11
  go_wp2_with fail
  refine HN.mono ?_
  clear HN
  rintro e w1 ⟨D, rfl, hD, b1⟩
  have HO : Calls Tryd.prog 16 #[.pointer (some ⟨D, 0, none⟩), .int .i64 0, .int .i64 4, .int .i64 1] w1 _ := my_open hD 0 4 1 HT.out (by omega) (by omega) (by omega) (by omega) (fun xs _ _ s _ _ => new_bad _ _ _)
  clear hD b1
  go_wp2_with fail
  refine HO.mono ?_
  clear HO
  rintro e w2 ⟨xs, a, c, rfl, _, hc, hJ, _, _, _⟩
  obtain rfl := new_chain hc
  clear hc
  have hJ : MyJ w w2 D w1.heap.size 4 (newD 4) 0 4 1 1 := hJ
  obtain ⟨J, eJ⟩ : ∃ J, w1.heap.size = J := ⟨_, rfl⟩
  rw [eJ] at hJ
  rw [eJ]
  clear eJ
  have HJ : Hid (MyJ w w2 D J 4 (newD 4) 0 4 1 1) := hJ
  have HA : Calls Tryd.prog 17 #[.pointer (some ⟨J, 0, none⟩), .slice (some ⟨w2.heap.size, 0, none⟩) 1 1] (w2.alloc (.cells #[.int .u8 97] 5 (1, 2))) _ :=
    my_append (hJ.below ((Below.refl _ w2).alloc (Nat.le_refl _) _)) (some ⟨w2.heap.size, 0, none⟩) 1 [97#8] HT.out (seen_new w2 [97#8] 5 (1, 2) (by decide)) (by omega) (by omega) (by omega) (by omega) (by omega) (by decide) (by decide) whyA_new (by decide)
  clear hJ
  go_wp2_with fail
  refine HA.mono ?_
  clear HA HJ
  rintro e w3 ⟨rfl, hJ⟩
  have hJ : MyJ w w3 D J 4 k1D 0 4 1 2 := hJ
  have HX : Calls Tryd.prog 25 #[.pointer (some ⟨J, 0, none⟩)] w3 (fun e w' => e = .returned (.int .i64 2) ∧ w' = w3) := next_any hJ.ja
  have HJ : Hid (MyJ w w3 D J 4 k1D 0 4 1 2) := hJ
  clear hJ
  go_wp2_with fail
  refine HX.mono ?_
  clear HX
  rintro e wq ⟨rfl, hq⟩
  subst wq
  clear kc
  obtain ⟨w4, hm, o4, g4, z4⟩ := make_bytes w3 500 (by omega)
  rw [show ((500 : Nat) : Int) = 500 from rfl] at hm
  have b4 : Below w3.heap.size w3 w4 := (Below.refl _ w3).grown g4 (Nat.le_refl _) (fun k e => by cases e)
  have HM : Hid _ := hm
  have s4 : Seen w4 (some ⟨w3.heap.size, 0, none⟩) z500.length z500 := by rw [z500_length]; exact seen_owned o4 z500_length (by unfold maxLen; omega)
  have HA := my_append (HJ.out.below b4) (some ⟨w3.heap.size, 0, none⟩) 500 z500 HT.out s4 (by omega) (by omega) (by omega) (by omega) (by omega) (by rw [z500_length]; omega) (by rw [secs500]; omega) (by unfold whyA; rw [flags1.1, flags1.2.1]; rfl) (by rw [flags1.2.2.2]; omega)
  rw [z500_length] at HA
  clear hm o4 g4 z4 b4 s4 HJ
  go_wp2_with (refine wpList_value rfl (exec_make (t := 22) (l := .const (.int .i64 500)) (c := .const (.int .i64 500)) rfl rfl rfl HM.out) ?_)
  refine HA.mono ?_
  clear HA HM
  rintro e w5 ⟨rfl, hJ⟩
  have hJ : MyJ w w5 D J 4 k2D 0 4 1 5 := by
    unfold k2D
    rw [secs500]
    exact hJ
  have HX : Calls Tryd.prog 25 #[.pointer (some ⟨J, 0, none⟩)] w5 (fun e w' => e = .returned (.int .i64 5) ∧ w' = w5) := next_any hJ.ja
  have HJ : Hid (MyJ w w5 D J 4 k2D 0 4 1 5) := hJ
  have HF : Calls Tryd.prog 17 #[.pointer (some ⟨J, 0, none⟩), .slice none 0 0] w5 _ := append_full hJ.ja none 0 0 (by omega) (by omega) (by omega) (by omega) (by decide)
  clear hJ
  go_wp2_with fail
  refine HX.mono ?_
  clear HX
  rintro e wq ⟨rfl, hq⟩
  subst wq
  go_wp2_with fail
  refine HF.mono ?_
  clear HF
  rintro e w6 ⟨rfl, h6⟩
  have hJ : MyJ w w6 D J 4 k2D 0 4 1 5 := by rw [h6]; exact HJ.out.below (Below.refl _ w5).drew
  have HS := my_sync hJ (by unfold whyS; rw [flags2.1, flags2.2.2]; rfl)
  clear HJ h6 hJ
  go_wp2_with fail
  refine HS.mono ?_
  clear HS
  rintro e w7 ⟨rfl, hJ⟩
  have HO : Calls Tryd.prog 16 #[.pointer (some ⟨D, 0, none⟩), .int .i64 0, .int .i64 4, .int .i64 1] w7 _ := my_open hJ.disk 0 4 1 HT.out (by omega) (by omega) (by omega) (by omega) (fun xs hc hn s h1 h2 => sy_clean hc hn s h1 h2)
  clear hJ
  go_wp2_with fail
  refine HO.mono ?_
  clear HO
  rintro e w8 ⟨xs, a8, c8, rfl, hn, hc, hJ, ow, rs, _⟩
  obtain ⟨x, y, rfl, e1, e2, _⟩ := sy_two hc hn
  have B8 : Hid (Below w.heap.size w w8) := hJ.bel
  have r1 := rs x (by simp)
  have r2 := rs y (by simp)
  rw [e1] at r1
  rw [e2] at r2
  obtain ⟨g1, o1, cc1, v1, sn1, _, _⟩ := r1
  obtain ⟨g2, o2, cc2, v2, _, _, _⟩ := r2
  rw [z500_length] at v2
  have ow' : w8.ownsRow (w7.heap.size + 4) 22 1 (.slice a8 2 c8) 2 [x.v, y.v] := ow
  rw [v1, v2] at ow'
  obtain ⟨g8, c8', e8, _, _⟩ := ow'.form (by omega)
  cases e8
  have q0 := ow'.cellAt 0 (by omega)
  have q1 := ow'.cellAt 1 (by omega)
  have ht : (convert 22 9 (.slice (some ⟨g1, o1, none⟩) 1 cc1)).run Tryd.prog w8 = .ok (.string ⟨#[97]⟩) w8 := run_to_text w8 _ _ _ [97#8] sn1
  simp only [List.length_cons, List.length_nil, Nat.zero_add, Nat.reduceAdd, List.getElem?_cons_zero, List.getElem?_cons_succ] at q0 q1 ⊢
  clear hn hc hJ ow rs e1 e2 v1 v2 sn1 ow'
  go_wp2
  go_ret
  exact ⟨rfl, B8.out⟩
end Go.Proofs.YtikpmaecbfebkaaDoor
