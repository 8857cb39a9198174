/- What the law's fixed calls come to. -/
import Derived.Test.YtnpebdnfdbeiaaaDCrash
import Derived.Lib.SlBytesConst
namespace Go.Proofs.Ytnpebdnfdbeiaaa
open Go.RowKit
set_option linter.unusedVariables false

def Fresh (N : Nat) (m : DM) : Prop := ∀ k, m.own k → N ≤ k
theorem Fresh.next {N N' : Nat} {m m' : DM} (h : Fresh N m) (n : m.next m' N') (hN : N ≤ N') : Fresh N m' := fun k hk => (n.own_of hk).elim (h k) (fun x => Nat.le_trans hN x)
theorem Only.low {N : Nat} {m : DM} {a b : World} (o : Only m a b) (h : Fresh N m) (hN : N ≤ a.heap.size) : Below N a b := ⟨o.os, o.tape, o.output, o.size, fun k hk => o.block k (by omega) (fun e => by have := h k e; omega)⟩
theorem kn1 : ∃ a, (readD (crashD (writeD 2 (writeD 2 (syncD (writeD 2 (newD 2) 0 [97#8])) 0 [98#8, 99#8]) 1 [100#8]) [1, 0]) 0)[0]? = some a ∧ a = 98#8 := ⟨98#8, by decide +kernel, rfl⟩
theorem kn2 : (readD (crashD (writeD 2 (writeD 2 (syncD (writeD 2 (newD 2) 0 [97#8])) 0 [98#8, 99#8]) 1 [100#8]) [1, 0]) 0)[1]? = some 0#8 := by decide +kernel
theorem kn3 : (readD (crashD (writeD 2 (writeD 2 (syncD (writeD 2 (newD 2) 0 [97#8])) 0 [98#8, 99#8]) 1 [100#8]) [1, 0]) 1)[0]? = some 0#8 := by decide +kernel
theorem kk1 : (writeD 2 (newD 2) 0 [97#8]).ws.length = 1 := by decide +kernel
theorem kk2 : (syncD (writeD 2 (newD 2) 0 [97#8])).ws.length = 0 := by decide +kernel
theorem kk3 : (writeD 2 (syncD (writeD 2 (newD 2) 0 [97#8])) 0 [98#8, 99#8]).ws.length = 1 := by decide +kernel
theorem owned_cell {w : World} {base g L c : Nat} {l : List (BitVec 8)} (h : w.ownsRow base 5 1 (.slice (some ⟨g, 0, none⟩) L c) L (cellsOf l)) {j : Nat} {x : BitVec 8} (hx : l[j]? = some x) : w.cell? ⟨g, j, none⟩ = some (.int .u8 (V x)) := by
  have hj : j < l.length := (List.getElem?_eq_some_iff.1 hx).1
  have hl := h.1
  rw [cellsOf_length] at hl
  rw [h.cellAt j (by omega)]
  simp [cellsOf, hx]
theorem fits (s : DS) (n : Nat) (h : s.ws.length = n) (hn : n < 1000000) : s.ws.length < 1000000 := by omega
set_option maxRecDepth 100000 in
set_option maxHeartbeats 1600000 in
theorem known_any (w : World) : Calls Try.prog 11 #[] w fun e w' => e = .returned (.bool true) ∧ Below w.heap.size w w' := by
  have kc := fun (w : World) (C : Array Value) (n c : Nat) => Lib.run_convert_bytes_const (P := Try.prog) w 22 5 C n c Try.underlying22 Try.underlying5
  have HN := new_any 2 w (by omega) (by omega)
  rw [show ((2 : Nat) : Int) = 2 from rfl] at HN
  have K1 := fits _ _ kk1 (by omega)
  have K2 := fits _ _ kk2 (by omega)
  have K3 := fits _ _ kk3 (by omega)
  have K0 := fits (newD 2) 0 rfl (by omega)
  obtain ⟨a1, n1, n1'⟩ := kn1
  subst n1'
  have n2 := kn2
  have n3 := kn3
  obtain ⟨s0, e0⟩ : ∃ s, newD 2 = s := ⟨_, rfl⟩
  rw [e0] at HN K0 K1 K2 K3 n1 n2 n3
  clear e0
  go_enter Try.func11, Try.ntmps11
  go_wp2_with fail
  refine HN.mono ?_
  rintro e w1 ⟨m, rfl, d1, b1, f1⟩
  have D1 : Hid (Dsk w1 m 2 s0) := d1
  have F1 : Hid (Fresh w.heap.size m ∧ Below w.heap.size w w1) := ⟨f1, b1⟩
  clear HN d1 b1 f1
  go_wp2_with fail
  -- Write(0, "a")
  have bA := (Below.refl w1.heap.size w1).alloc (Nat.le_refl _) (.cells #[.int .u8 97] 5 (1, 2))
  refine (write_any m 2 s0 0 _ 1 1 [97#8] _ (D1.out.below bA) (seen_new w1 [97#8] 5 (1, 2) (by decide)) K0).mono ?_
  rintro e w2 ⟨m2, rfl, eD2, d2, o2, x2⟩
  obtain ⟨s1, e1⟩ : ∃ s, writeD 2 s0 0 [97#8] = s := ⟨_, rfl⟩
  rw [e1] at d2 K1 K2 K3 n1 n2 n3
  have z2 : Hid (w.heap.size ≤ (w1.alloc (.cells #[.int .u8 97] 5 (1, 2))).heap.size) := Nat.le_trans F1.out.2.size bA.size
  have F2 : Hid (Fresh w.heap.size m2 ∧ Below w.heap.size w w2) := ⟨F1.out.1.next x2 z2.out, F1.out.2.trans (((bA.mono F1.out.2.size)).trans (o2.low F1.out.1 z2.out))⟩
  have D2 : Hid (Dsk w2 m2 2 s1) := d2
  rw [← eD2]
  clear D1 F1 bA z2 o2 x2 d2 e1 eD2
  go_wp2_with fail
  -- Sync
  refine (sync_any m2 2 s1 w2 D2.out).mono ?_
  rintro e w3 ⟨m3, rfl, eD3, d3, o3, x3⟩
  obtain ⟨s2, e2⟩ : ∃ s, syncD s1 = s := ⟨_, rfl⟩
  rw [e2] at d3 K2 K3 n1 n2 n3
  have F3 : Hid (Fresh w.heap.size m3 ∧ Below w.heap.size w w3) := ⟨F2.out.1.next x3 F2.out.2.size, F2.out.2.trans (o3.low F2.out.1 F2.out.2.size)⟩
  have D3 : Hid (Dsk w3 m3 2 s2) := d3
  rw [← eD3]
  clear D2 F2 o3 x3 d3 e2 eD3
  go_wp2_with fail
  -- Write(0, "bc")
  have bB := (Below.refl w3.heap.size w3).alloc (Nat.le_refl _) (.cells #[.int .u8 98, .int .u8 99] 5 (2, 3))
  refine (write_any m3 2 s2 0 _ 2 2 [98#8, 99#8] _ (D3.out.below bB) (seen_new w3 [98#8, 99#8] 5 (2, 3) (by decide)) K2).mono ?_
  rintro e w4 ⟨m4, rfl, eD4, d4, o4, x4⟩
  obtain ⟨s3, e3⟩ : ∃ s, writeD 2 s2 0 [98#8, 99#8] = s := ⟨_, rfl⟩
  rw [e3] at d4 K3 n1 n2 n3
  have z4 : Hid (w.heap.size ≤ (w3.alloc (.cells #[.int .u8 98, .int .u8 99] 5 (2, 3))).heap.size) := Nat.le_trans F3.out.2.size bB.size
  have F4 : Hid (Fresh w.heap.size m4 ∧ Below w.heap.size w w4) := ⟨F3.out.1.next x4 z4.out, F3.out.2.trans (((bB.mono F3.out.2.size)).trans (o4.low F3.out.1 z4.out))⟩
  have D4 : Hid (Dsk w4 m4 2 s3) := d4
  rw [← eD4]
  clear D3 F3 bB z4 o4 x4 d4 e3 eD4
  go_wp2_with fail
  -- Write(1, "d")
  have bC := (Below.refl w4.heap.size w4).alloc (Nat.le_refl _) (.cells #[.int .u8 100] 5 (1, 2))
  refine (write_any m4 2 s3 1 _ 1 1 [100#8] _ (D4.out.below bC) (seen_new w4 [100#8] 5 (1, 2) (by decide)) K3).mono ?_
  rintro e w5 ⟨m5, rfl, eD5, d5, o5, x5⟩
  obtain ⟨s4, e4⟩ : ∃ s, writeD 2 s3 1 [100#8] = s := ⟨_, rfl⟩
  rw [e4] at d5 n1 n2 n3
  have z5 : Hid (w.heap.size ≤ (w4.alloc (.cells #[.int .u8 100] 5 (1, 2))).heap.size) := Nat.le_trans F4.out.2.size bC.size
  have F5 : Hid (Fresh w.heap.size m5 ∧ Below w.heap.size w w5) := ⟨F4.out.1.next x5 z5.out, F4.out.2.trans (((bC.mono F4.out.2.size)).trans (o5.low F4.out.1 z5.out))⟩
  have D5 : Hid (Dsk w5 m5 2 s4) := d5
  rw [← eD5]
  clear D4 F4 bC z5 o5 x5 d5 e4 eD5
  go_wp2_with fail
  -- Crash(1, 0)
  have bE := (Below.refl w5.heap.size w5).alloc (Nat.le_refl _) (.cells #[.int .i64 1, .int .i64 0] 3)
  have dE := D5.out.below bE
  have hI : IAt (w5.alloc (.cells #[.int .i64 1, .int .i64 0] 3)) (some ⟨w5.heap.size, 0, none⟩) 2 [1, 0] := by
    refine ⟨rfl, by simp [maxLen], by simp, .inr ⟨_, 0, rfl, fun j hj => ?_⟩⟩
    simp only [World.cell?, heap_alloc_new]
    match j, hj with
    | 0, _ => rfl
    | 1, _ => rfl
  refine (crash_any m5 2 s4 _ 2 2 [1, 0] _ dE hI (fun y e _ ho => by cases e; exact absurd (D5.out.lt ho) (Nat.lt_irrefl _))).mono ?_
  rintro e w6 ⟨m6, rfl, eD6, d6, o6, x6⟩
  obtain ⟨s5, e5⟩ : ∃ s, crashD s4 [1, 0] = s := ⟨_, rfl⟩
  rw [e5] at d6 n1 n2 n3
  have z6 : Hid (w.heap.size ≤ (w5.alloc (.cells #[.int .i64 1, .int .i64 0] 3)).heap.size) := Nat.le_trans F5.out.2.size bE.size
  have F6 : Hid (Below w.heap.size w w6) := F5.out.2.trans (((bE.mono F5.out.2.size)).trans (o6.low F5.out.1 z6.out))
  have D6 : Hid (Dsk w6 m6 2 s5) := d6
  rw [← eD6]
  clear D5 F5 bE dE hI z6 o6 x6 d6 e5 eD6
  go_wp2_with fail
  -- Read(0), Read(1)
  have R0 := read_any m6 2 s5 0 w6 D6.out (by omega)
  rw [show ((0 : Nat) : Int) = 0 from rfl] at R0
  refine R0.mono ?_
  rintro e w7 ⟨g7, rfl, o7, b7⟩
  have c70 := owned_cell o7 n1
  have c71 := owned_cell o7 n2
  have D7 : Hid (Dsk w7 m6 2 s5) := D6.out.below b7
  have F7 : Hid (Below w.heap.size w w7) := F6.out.trans (b7.mono F6.out.size)
  clear R0 D6 F6 o7 b7 n1 n2
  go_wp2_with fail
  have R1 := read_any m6 2 s5 1 w7 D7.out (by omega)
  rw [show ((1 : Nat) : Int) = 1 from rfl] at R1
  refine R1.mono ?_
  rintro e w8 ⟨g8, rfl, o8, b8⟩
  have c80 := owned_cell o8 n3
  have c70' : w8.cell? ⟨g7, 0, none⟩ = some (.int .u8 98) := by rw [b8.cell (p := ⟨g7, 0, none⟩) (World.block_lt_of_cell? _ _ c70)]; exact c70
  have c71' : w8.cell? ⟨g7, 1, none⟩ = some (.int .u8 0) := by rw [b8.cell (p := ⟨g7, 1, none⟩) (World.block_lt_of_cell? _ _ c71)]; exact c71
  have c80' : w8.cell? ⟨g8, 0, none⟩ = some (.int .u8 0) := c80
  have F8 : Hid (Below w.heap.size w w8) := F7.out.trans (b8.mono F7.out.size)
  clear R1 D7 F7 o8 b8 n3 c70 c71 c80 kc K0 K1 K2 K3
  go_wp2
  go_ret
  exact ⟨rfl, F8.out⟩
end Go.Proofs.Ytnpebdnfdbeiaaa
