/- NetOnce. -/
import Derived.Test.YtginkikkenegkaaNOn
namespace Go.Proofs.Ytginkikkenegkaa
open Go.RowKit Go.Maps
attribute [local go_sem] Oper.semAt_some
set_option linter.unusedVariables false

theorem less_byO {k n : Nat} (h : k < n) : n - (intOf (.int .i64 ((k : Int) + 1))).toNat < n - (intOf (.int .i64 (k : Int))).toNat := by
  simp only [intOf]
  omega
theorem cell3 (w : World) (a b c : Value) (t : TypeId) : (w.alloc (.cells #[a, b, c] t)).cell? ⟨w.heap.size, 2, none⟩ = some c := by
  have h := heap_alloc_new w (.cells #[a, b, c] t)
  unfold World.cell?
  simp only [h]
  rfl
theorem On.start {w w1 : World} {N : Nat} {Z : Array Value} (hZ : Z.size = 200 ∧ ∀ j, j < 200 → Z[j]? = some (.int .i64 0)) (n1 : NilNet w1 w.heap.size N 0) (b1 : Below w.heap.size w w1) :
    On w ((w1.alloc (.cells Z 3)).alloc (.cells Z 3)) N 0 [] w1.heap.size (w1.heap.size + 1) (fun _ => 0) (fun _ => 0) := by
  have a1 := (Below.refl _ w1).alloc (Nat.le_refl _) (.cells Z 3)
  have a2 := (Below.refl _ (w1.alloc (.cells Z 3))).alloc (Nat.le_refl _) (.cells Z 3)
  have h1 := heap_alloc_new w1 (.cells Z 3)
  have h2 := heap_alloc_new (w1.alloc (.cells Z 3)) (.cells Z 3)
  have bs := b1.size
  refine ⟨⟨fun p hp => (by cases hp), .inl ⟨(n1.below a1).below a2, rfl, rfl⟩⟩, ⟨Z, ?_, hZ.1, fun j hj => hZ.2 j hj⟩, ⟨Z, ?_, hZ.1, fun j hj => hZ.2 j hj⟩, by omega, bs, by omega, (b1.trans (a1.mono bs)).trans (a2.mono (b1.trans (a1.mono bs)).size)⟩
  · exact (a2.block _ (by simp)).trans h1
  · simpa using h2
set_option maxRecDepth 100000 in
set_option maxHeartbeats 2000000 in
theorem once_any (la : Option Addr) (ln lc : Nat) (os : List OpN) (w : World) (h : OpsN w la ln os) : Calls Try.prog 4 #[.slice la ln lc] w fun e w' => e = .returned (.bool true) ∧ Below w.heap.size w w' := by
  have HO : Hid (OpsN w la ln os) := h
  obtain ⟨Z, hZ, hmk⟩ := make200
  have HZ : Hid _ := hZ
  clear h hZ
  go_enter Try.func4, Try.ntmps4
  go_wp2_with fail
  refine (new_any w).mono ?_
  rintro e w1 ⟨rfl, n1, b1⟩
  have k1 := On.start HZ.out n1 b1
  obtain ⟨N, eN⟩ : ∃ N, w.heap.size = N := ⟨_, rfl⟩
  obtain ⟨ga, ega⟩ : ∃ ga, w1.heap.size = ga := ⟨_, rfl⟩
  obtain ⟨gb, egb⟩ : ∃ gb, ga + 1 = gb := ⟨_, rfl⟩
  have K1 : Hid (On w ((w1.alloc (.cells Z 3)).alloc (.cells Z 3)) N 0 [] ga gb (fun _ => 0) (fun _ => 0)) := by rw [← egb, ← ega, ← eN]; exact k1
  rw [eN]
  have EG : Hid (w1.heap.size = ga ∧ ga + 1 = gb) := ⟨ega, egb⟩
  clear k1 n1 b1 eN egb ega
  go_wp2_with fail
  rw [EG.out.1]
  try rw [EG.out.2]
  go_loopw [4, 7] (fun sv iv wr => ∃ (k s T : Nat) (L : List Post) (A B : Nat → Nat), sv = .int .i64 (s : Int) ∧ iv = .int .i64 (k : Int) ∧ Hid (k ≤ os.length) ∧ Hid (Tell s k T L A B) ∧ Hid (On w wr N T L ga gb A B)) (fun _ iv _ => 150 - (intOf iv).toNat)
  case atStart => exact ⟨0, 0, 0, [], _, _, rfl, rfl, Nat.zero_le _, Tell.nil, K1⟩
  case round =>
    clear K1 hmk
    obtain ⟨k, s, T, L, A, B, rfl, rfl, hk, hT, hK⟩ := hrel
    have hln : ln = os.length := HO.out.1
    by_cases hlt : k < os.length ∧ k < 150
    · obtain ⟨b, off, rfl, oa, o0, o1, o2, o3⟩ := HO.out.at hlt.1
      obtain ⟨o, eo⟩ : ∃ o, os[k] = o := ⟨_, rfl⟩
      rw [eo] at oa o0 o1 o2 o3
      have q0 : wr.cell? ⟨b, off + k * 4, none⟩ = some (.int .i64 o.k) := by rw [hK.out.be.cell (p := ⟨b, off + k * 4, none⟩) (World.block_lt_of_cell? w _ o0)]; exact o0
      have q1 : wr.cell? ⟨b, off + k * 4 + 1, none⟩ = some (.int .i64 o.f) := by rw [hK.out.be.cell (p := ⟨b, off + k * 4 + 1, none⟩) (World.block_lt_of_cell? w _ o1)]; exact o1
      have q2 : wr.cell? ⟨b, off + k * 4 + 2, none⟩ = some (.int .i64 o.n) := by rw [hK.out.be.cell (p := ⟨b, off + k * 4 + 2, none⟩) (World.block_lt_of_cell? w _ o2)]; exact o2
      have q3 : wr.cell? ⟨b, off + k * 4 + 3, none⟩ = some (.slice o.a o.b.length o.c) := by rw [hK.out.be.cell (p := ⟨b, off + k * 4 + 3, none⟩) (World.block_lt_of_cell? w _ o3)]; exact o3
      obtain ⟨kk, ekk⟩ : ∃ kk, o.k = kk := ⟨_, rfl⟩
      rw [ekk] at q0
      have a2 := (Below.refl _ wr).alloc (Nat.le_refl _) (.cells #[.int .i64 kk, .int .i64 o.f, .int .i64 o.n, .slice o.a o.b.length o.c] 32)
      have r2 := heap_alloc_new wr (.cells #[.int .i64 kk, .int .i64 o.f, .int .i64 o.n, .slice o.a o.b.length o.c] 32)
      have k2 := hK.out.below a2
      obtain ⟨w2, e2⟩ : ∃ w2, wr.alloc (.cells #[.int .i64 kk, .int .i64 o.f, .int .i64 o.n, .slice o.a o.b.length o.c] 32) = w2 := ⟨_, rfl⟩
      rw [e2] at r2 k2
      obtain ⟨P, eP⟩ : ∃ P, wr.heap.size = P := ⟨_, rfl⟩
      rw [eP] at r2
      have c0 : w2.cell? ⟨P, 0, none⟩ = some (.int .i64 kk) := by unfold World.cell?; simp only [r2]; rfl
      have c2 : w2.cell? ⟨P, 2, none⟩ = some (.int .i64 o.n) := by unfold World.cell?; simp only [r2]; rfl
      have KB : Hid (On w w2 N T L ga gb A B) := k2
      have h1 : (k : Int) < (ln : Int) := by omega
      have h2 : (k : Int) < 150 := by omega
      have hkl : k < ln := by omega
      have HK : Hid (k < os.length ∧ k < 150) := hlt
      have wk : IntKind.i64.wrap ((k : Int) + 1) = (k : Int) + 1 := by rw [IntKind.wrap_i64]; omega
      have hs15 : s ≤ 150 := by have := hT.out.sk; omega
      have wsu : IntKind.u8.wrap (s : Int) = (s : Int) := by unfold IntKind.wrap; simp [IntKind.bits, IntKind.signed]; omega
      have ws : IntKind.i64.wrap ((s : Int) + 1) = (s : Int) + 1 := by rw [IntKind.wrap_i64]; omega
      clear hlt oa o0 o1 o2 o3 eo hln k2 r2 a2 ekk hs15 hK
      by_cases z0 : kk = 0
      · subst z0
        have HSd := send_any (KB.out.below ((Below.refl _ w2).alloc (Nat.le_refl _) (.cells #[.int .u8 (s : Int)] 5))).net 0 1 (some ⟨w2.heap.size, 0, none⟩) 1 [BitVec.ofNat 8 s] (seen_byte w2 s (by have := hT.out.sk; have := HK.out; omega)) (fun e => by cases e) (by have := hT.out.lk; have := HK.out; omega) (by have := hT.out.tk; have := HK.out; omega)
        go_wp2_with (first | (rw [e2]) | fail)
        refine HSd.mono ?_
        rintro e w3 (⟨q, _, _⟩ | ⟨_, q, _⟩ | ⟨_, _, rfl, dv, n3, k3⟩)
        · exact absurd q (by decide)
        · simp at q
        have K3 : Hid (On w w3 N (T + 1) (L ++ [⟨0, 1, dv, [BitVec.ofNat 8 s], T⟩]) ga gb A B) := (KB.out.below ((Below.refl _ w2).alloc (Nat.le_refl _) (.cells #[.int .u8 (s : Int)] 5))).nk k3 n3
        clear HSd n3 k3 e2
        go_wp2

        have TLr : Hid (Tell (s + 1) (k + 1) (T + 1) (L ++ [⟨0, 1, dv, [BitVec.ofNat 8 s], T⟩]) (A) (B)) := hT.out.send HK.out.2 dv 0 1
        go_roundw
        case rel => exact ⟨k + 1, s + 1, T + 1, L ++ [⟨0, 1, dv, [BitVec.ofNat 8 s], T⟩], A, B, rfl, rfl, by have := HK.out; show k + 1 ≤ os.length; omega, TLr, K3⟩
        case measure => exact less_byO HK.out.2
      by_cases z1 : kk = 1
      · subst z1
        have HSd := send_any (KB.out.below ((Below.refl _ w2).alloc (Nat.le_refl _) (.cells #[.int .u8 (s : Int)] 5))).net 0 1 (some ⟨w2.heap.size, 0, none⟩) 1 [BitVec.ofNat 8 s] (seen_byte w2 s (by have := hT.out.sk; have := HK.out; omega)) (fun e => by cases e) (by have := hT.out.lk; have := HK.out; omega) (by have := hT.out.tk; have := HK.out; omega)
        go_wp2_with (first | (rw [e2]) | fail)
        refine HSd.mono ?_
        rintro e w3 (⟨q, _, _⟩ | ⟨_, q, _⟩ | ⟨_, _, rfl, dv, n3, k3⟩)
        · exact absurd q (by decide)
        · simp at q
        have K3 : Hid (On w w3 N (T + 1) (L ++ [⟨0, 1, dv, [BitVec.ofNat 8 s], T⟩]) ga gb A B) := (KB.out.below ((Below.refl _ w2).alloc (Nat.le_refl _) (.cells #[.int .u8 (s : Int)] 5))).nk k3 n3
        clear HSd n3 k3 e2
        go_wp2

        have TLr : Hid (Tell (s + 1) (k + 1) (T + 1) (L ++ [⟨0, 1, dv, [BitVec.ofNat 8 s], T⟩]) (A) (B)) := hT.out.send HK.out.2 dv 0 1
        go_roundw
        case rel => exact ⟨k + 1, s + 1, T + 1, L ++ [⟨0, 1, dv, [BitVec.ofNat 8 s], T⟩], A, B, rfl, rfl, by have := HK.out; show k + 1 ≤ os.length; omega, TLr, K3⟩
        case measure => exact less_byO HK.out.2
      by_cases z2 : kk = 2
      · subst z2
        have HSd := send_any (KB.out.below ((Below.refl _ w2).alloc (Nat.le_refl _) (.cells #[.int .u8 (s : Int)] 5))).net 0 1 (some ⟨w2.heap.size, 0, none⟩) 1 [BitVec.ofNat 8 s] (seen_byte w2 s (by have := hT.out.sk; have := HK.out; omega)) (fun e => by cases e) (by have := hT.out.lk; have := HK.out; omega) (by have := hT.out.tk; have := HK.out; omega)
        go_wp2_with (first | (rw [e2]) | fail)
        refine HSd.mono ?_
        rintro e w3 (⟨q, _, _⟩ | ⟨_, q, _⟩ | ⟨_, _, rfl, dv, n3, k3⟩)
        · exact absurd q (by decide)
        · simp at q
        have K3 : Hid (On w w3 N (T + 1) (L ++ [⟨0, 1, dv, [BitVec.ofNat 8 s], T⟩]) ga gb A B) := (KB.out.below ((Below.refl _ w2).alloc (Nat.le_refl _) (.cells #[.int .u8 (s : Int)] 5))).nk k3 n3
        clear HSd n3 k3 e2
        go_wp2

        have TLr : Hid (Tell (s + 1) (k + 1) (T + 1) (L ++ [⟨0, 1, dv, [BitVec.ofNat 8 s], T⟩]) (A) (B)) := hT.out.send HK.out.2 dv 0 1
        go_roundw
        case rel => exact ⟨k + 1, s + 1, T + 1, L ++ [⟨0, 1, dv, [BitVec.ofNat 8 s], T⟩], A, B, rfl, rfl, by have := HK.out; show k + 1 ≤ os.length; omega, TLr, K3⟩
        case measure => exact less_byO HK.out.2
      by_cases z3 : kk = 3
      · subst z3
        have HTk := take_S KB.out.net o.n (by have := hT.out.tk; have := HK.out; omega)
        go_wp2_with (first | (rw [e2]) | fail)
        refine HTk.mono ?_
        rintro e w3 (⟨rfl, b3⟩ | ⟨i, hi, v, rfl, dv, n3, k3⟩)
        · have K3 : Hid (On w (w3.alloc (.cells #[.int .i64 0, .int .i64 0, .slice none 0 0] 40)) N T L ga gb A B) := (KB.out.below b3).below ((Below.refl _ w3).alloc (Nat.le_refl _) _)
          clear HTk b3 e2
          go_wp2
          have TLr : Hid (Tell (s) (k + 1) (T) (L) (A) (B)) := hT.out.skip HK.out.2
          go_roundw
          case rel => exact ⟨k + 1, s, T, L, A, B, rfl, rfl, by have := HK.out; show k + 1 ≤ os.length; omega, TLr, K3⟩
          case measure => exact less_byO HK.out.2
        · obtain ⟨u, hu, eb⟩ := hT.out.own L[i] (List.getElem_mem hi)
          rw [eb] at dv
          have us : s ≤ 150 := by have := hT.out.sk; have := hT.out.k150; omega
          obtain ⟨db, doff, dc, rfl, d0⟩ := data_one dv (by omega)
          have TL : Hid (Tell s (k + 1) T (L.eraseIdx i) (bump A u) B) := hT.out.take HK.out.2 i hi u hu eb
          obtain ⟨fr, efr⟩ : ∃ fr, L[i].fr = fr := ⟨_, rfl⟩
          obtain ⟨to, eto⟩ : ∃ to, L[i].to = to := ⟨_, rfl⟩
          obtain ⟨L', eL'⟩ : ∃ L', L.eraseIdx i = L' := ⟨_, rfl⟩
          rw [efr, eto]
          rw [eL'] at TL n3
          have a4 := (Below.refl _ w3).alloc (Nat.le_refl _) (.cells #[.int .i64 fr, .int .i64 to, .slice (some ⟨db, doff, none⟩) 1 dc] 40)
          have k4 := (KB.out.nk k3 n3).below a4
          have d4 : (w3.alloc (.cells #[.int .i64 fr, .int .i64 to, .slice (some ⟨db, doff, none⟩) 1 dc] 40)).cell? ⟨db, doff, none⟩ = some (.int .u8 (u : Int)) := by rw [a4.cell (p := ⟨db, doff, none⟩) (World.block_lt_of_cell? w3 _ d0)]; exact d0
          have f4 := cell3 w3 (.int .i64 fr) (.int .i64 to) (.slice (some ⟨db, doff, none⟩) 1 dc) 40
          obtain ⟨w4, e4⟩ : ∃ w4, w3.alloc (.cells #[.int .i64 fr, .int .i64 to, .slice (some ⟨db, doff, none⟩) 1 dc] 40) = w4 := ⟨_, rfl⟩
          rw [e4] at k4 d4 f4
          have q4 := k4.a.cell (j := u) (by omega)
          have z4 := k4.a.fz u
          have k5 := k4.bumpA u
          have wA : IntKind.i64.wrap ((A u : Int) + 1) = (A u : Int) + 1 := by rw [IntKind.wrap_i64]; have := hT.out.a u; have := HK.out; omega
          obtain ⟨av, eav⟩ : ∃ av, A u = av := ⟨_, rfl⟩
          rw [eav] at q4 wA k5
          have K5 : Hid (On w (w4.setCell ⟨ga, u, none⟩ (.int .i64 ((av : Int) + 1))) N T L' ga gb (bump A u) B) := k5
          have wu : IntKind.i64.wrap (u : Int) = (u : Int) := by rw [IntKind.wrap_i64]; omega
          have hus : ¬ ((s : Int) ≤ (u : Int)) := by omega
          have hu2 : u < 200 := by omega
          clear HTk dv d0 eb efr eto eL' n3 k3 a4 k4 eav k5 hi us hu e2
          go_wp2_with (first | (rw [e4]) | fail)
          have TLr : Hid (Tell (s) (k + 1) (T) (L') (bump A u) (B)) := TL.out
          go_roundw
          case rel => exact ⟨k + 1, s, T, L', bump A u, B, rfl, rfl, by have := HK.out; show k + 1 ≤ os.length; omega, TLr, K5⟩
          case measure => exact less_byO HK.out.2
      by_cases z4 : kk = 4
      · subst z4
        have HTk := drop_S KB.out.net o.n (by have := hT.out.tk; have := HK.out; omega)
        go_wp2_with (first | (rw [e2]) | fail)
        refine HTk.mono ?_
        rintro e w3 ⟨x, rfl, b3 | ⟨i, hi, n3, k3⟩⟩
        · have K3 : Hid (On w w3 N T L ga gb A B) := KB.out.below b3
          clear HTk b3 e2
          go_wp2
          have TLr : Hid (Tell (s) (k + 1) (T) (L) (A) (B)) := hT.out.skip HK.out.2
          go_roundw
          case rel => exact ⟨k + 1, s, T, L, A, B, rfl, rfl, by have := HK.out; show k + 1 ≤ os.length; omega, TLr, K3⟩
          case measure => exact less_byO HK.out.2
        · have K3 : Hid (On w w3 N T (L.eraseIdx i) ga gb A B) := KB.out.nk k3 n3
          have HI : Hid (i < L.length) := hi
          clear HTk k3 n3 hi e2
          go_wp2
          have TLr : Hid (Tell (s) (k + 1) (T) (L.eraseIdx i) (A) (B)) := hT.out.drop HK.out.2 i HI.out
          go_roundw
          case rel => exact ⟨k + 1, s, T, L.eraseIdx i, A, B, rfl, rfl, by have := HK.out; show k + 1 ≤ os.length; omega, TLr, K3⟩
          case measure => exact less_byO HK.out.2
      by_cases z5 : kk = 5
      · subst z5
        have HLk := look_S KB.out.net o.n (by have := hT.out.tk; have := HK.out; omega)
        go_wp2_with (first | (rw [e2]) | fail)
        refine HLk.mono ?_
        rintro e w3 ⟨b3, ⟨hno, rfl⟩ | ⟨i, hi, v, hn, rfl, dv⟩⟩
        · have a4 := (Below.refl _ w3).alloc (Nat.le_refl _) (.cells #[.int .i64 0, .int .i64 0, .slice none 0 0] 40)
          have k4 := (KB.out.below b3).below a4
          have p4 : (w3.alloc (.cells #[.int .i64 0, .int .i64 0, .slice none 0 0] 40)).cell? ⟨P, 2, none⟩ = some (.int .i64 o.n) := by
            have l2 := World.block_lt_of_cell? w2 _ c2
            rw [a4.cell (p := ⟨P, 2, none⟩) (Nat.lt_of_lt_of_le l2 b3.size), b3.cell (p := ⟨P, 2, none⟩) l2]; exact c2
          have HDb := double_S k4.net o.n (by have := hT.out.lk; have := HK.out; omega) (by have := hT.out.tk; have := HK.out; omega)
          have K4 : Hid (On w (w3.alloc (.cells #[.int .i64 0, .int .i64 0, .slice none 0 0] 40)) N T L ga gb A B) := k4
          have NO : Hid (o.n < 0 ∨ (L.length : Int) ≤ o.n) := hno
          clear HLk b3 a4 k4 hno c2 e2
          go_wp2_with fail
          refine HDb.mono ?_
          rintro e w5 (⟨_, rfl, b5⟩ | ⟨i, hi, hn, _⟩)
          · have K5 : Hid (On w w5 N T L ga gb A B) := K4.out.below b5
            clear HDb b5
            go_wp2
            have TLr : Hid (Tell (s) (k + 1) (T) (L) (A) (B)) := hT.out.skip HK.out.2
            go_roundw
            case rel => exact ⟨k + 1, s, T, L, A, B, rfl, rfl, by have := HK.out; show k + 1 ≤ os.length; omega, TLr, K5⟩
            case measure => exact less_byO HK.out.2
          · exact absurd hn (by have := NO.out; omega)
        · obtain ⟨u, hu, eb⟩ := hT.out.own L[i] (List.getElem_mem hi)
          rw [eb] at dv
          have us : s ≤ 150 := by have := hT.out.sk; have := hT.out.k150; omega
          obtain ⟨fr, efr⟩ : ∃ fr, L[i].fr = fr := ⟨_, rfl⟩
          obtain ⟨to, eto⟩ : ∃ to, L[i].to = to := ⟨_, rfl⟩
          rw [efr, eto]
          have dv0 := dv
          obtain ⟨db, doff, dc, rfl, d0⟩ := data_one dv (by omega)
          have a4 := (Below.refl _ w3).alloc (Nat.le_refl _) (.cells #[.int .i64 fr, .int .i64 to, .slice (some ⟨db, doff, none⟩) 1 dc] 40)
          have k4 := (KB.out.below b3).below a4
          have p4 : (w3.alloc (.cells #[.int .i64 fr, .int .i64 to, .slice (some ⟨db, doff, none⟩) 1 dc] 40)).cell? ⟨P, 2, none⟩ = some (.int .i64 o.n) := by
            have l2 := World.block_lt_of_cell? w2 _ c2
            rw [a4.cell (p := ⟨P, 2, none⟩) (Nat.lt_of_lt_of_le l2 b3.size), b3.cell (p := ⟨P, 2, none⟩) l2]; exact c2
          have dv4 := dv0.below a4
          have f4 := heap_alloc_new w3 (.cells #[.int .i64 fr, .int .i64 to, .slice (some ⟨db, doff, none⟩) 1 dc] 40)
          obtain ⟨w4, e4⟩ : ∃ w4, w3.alloc (.cells #[.int .i64 fr, .int .i64 to, .slice (some ⟨db, doff, none⟩) 1 dc] 40) = w4 := ⟨_, rfl⟩
          rw [e4] at k4 p4 dv4 f4
          obtain ⟨Q, eQ⟩ : ∃ Q, w3.heap.size = Q := ⟨_, rfl⟩
          rw [eQ] at f4
          have HDb := double_S k4.net o.n (by have := hT.out.lk; have := HK.out; omega) (by have := hT.out.tk; have := HK.out; omega)
          have K4 : Hid (On w w4 N T L ga gb A B) := k4
          have D4 : Hid (DataAt w4 (.slice (some ⟨db, doff, none⟩) 1 dc) [BitVec.ofNat 8 u]) := dv4
          have F4 : Hid (w4.heap[Q]? = some (.cells #[.int .i64 fr, .int .i64 to, .slice (some ⟨db, doff, none⟩) 1 dc] 40 (0, 0))) := f4
          have HI : Hid (o.n = (i : Int) ∧ (∃ h : i < L.length, L[i].b = [BitVec.ofNat 8 u]) ∧ u < s ∧ s ≤ 150) := ⟨hn, ⟨hi, eb⟩, hu, us⟩
          clear HLk b3 a4 k4 c2 dv dv0 dv4 f4 d0 hn eb efr eto hi hu us e2
          go_wp2_with (first | (rw [e4]) | (rw [eQ]) | fail)
          refine HDb.mono ?_
          rintro e w5 (⟨hno, _⟩ | ⟨j, hj, hn, rfl, n5, k5⟩)
          · exact absurd hno (by have := HI.out.1; obtain ⟨h, _⟩ := HI.out.2.1; omega)
          · obtain rfl : i = j := by have := HI.out.1; omega
            have on5 := K4.out.nk k5 n5
            have TL : Hid (Tell s (k + 1) (T + 1) (L ++ [⟨L[i].fr, L[i].to, L[i].dv, L[i].b, T⟩]) A (bump B u)) := by obtain ⟨h, eb⟩ := HI.out.2.1; exact hT.out.dbl HK.out.2 i hj u HI.out.2.2.1 eb _ _ _
            obtain ⟨L', eL'⟩ : ∃ L', L ++ [⟨L[i].fr, L[i].to, L[i].dv, L[i].b, T⟩] = L' := ⟨_, rfl⟩
            rw [eL'] at TL on5
            have us := HI.out.2.2
            have d5 := dataAt_nk D4.out k5
            obtain ⟨db', doff', dc', ee, d0⟩ := data_one d5 (by omega)
            injection ee with e1 e3 e5
            injection e1 with e1
            injection e1 with e1 e6 e7
            subst e1 e6
            have f5 := (k5.2.2 Q _ _ _ F4.out tLP tLN).trans F4.out
            have f52 : w5.cell? ⟨Q, 2, none⟩ = some (.slice (some ⟨db, doff, none⟩) 1 dc) := by unfold World.cell?; simp only [f5]; rfl
            have q4 := on5.b.cell (j := u) (by omega)
            have z4 := on5.b.fz u
            have k6 := on5.bumpB u
            have wB : IntKind.i64.wrap ((B u : Int) + 1) = (B u : Int) + 1 := by rw [IntKind.wrap_i64]; have := hT.out.b u; have := HK.out; omega
            obtain ⟨bv, ebv⟩ : ∃ bv, B u = bv := ⟨_, rfl⟩
            rw [ebv] at q4 wB k6
            have K6 : Hid (On w (w5.setCell ⟨gb, u, none⟩ (.int .i64 ((bv : Int) + 1))) N (T + 1) L' ga gb A (bump B u)) := k6
            have wu : IntKind.i64.wrap (u : Int) = (u : Int) := by rw [IntKind.wrap_i64]; omega
            have hus : ¬ ((s : Int) ≤ (u : Int)) := by omega
            have hu2 : u < 200 := by omega
            clear HDb on5 eL' d5 e3 e5 e7 f5 k6 ebv us n5 k5 hj hn e4 eQ p4
            go_wp2
            have TLr : Hid (Tell (s) (k + 1) (T + 1) (L') (A) (bump B u)) := TL.out
            go_roundw
            case rel => exact ⟨k + 1, s, T + 1, L', A, bump B u, rfl, rfl, by have := HK.out; show k + 1 ≤ os.length; omega, TLr, K6⟩
            case measure => exact less_byO HK.out.2
      have x0 : (kk == 0) = false := by simp; omega
      have x1 : (kk == 1) = false := by simp; omega
      have x2 : (kk == 2) = false := by simp; omega
      have x3 : (kk == 3) = false := by simp; omega
      have x4 : (kk == 4) = false := by simp; omega
      have x5 : (kk == 5) = false := by simp; omega
      go_wp2_with (first | (rw [e2]) | fail)

      have TLr : Hid (Tell (s) (k + 1) (T) (L) (A) (B)) := hT.out.skip HK.out.2
      go_roundw
      case rel => exact ⟨k + 1, s, T, L, A, B, rfl, rfl, by have := HK.out; show k + 1 ≤ os.length; omega, TLr, KB⟩
      case measure => exact less_byO HK.out.2
    · by_cases hk2 : k < os.length
      · have h1 : (k : Int) < (ln : Int) := by omega
        have h2 : ¬ ((k : Int) < 150) := by omega
        clear hlt hk2 hln
        go_wp2_with fail
        obtain ⟨wo, rfl⟩ : ∃ wo : World, wo = wr := ⟨_, rfl⟩
        go_loopw [13] (fun iv wr => ∃ (i q : Nat), iv = .int .i64 (i : Int) ∧ i ≤ s ∧ wr = wo.drewN q) (fun iv _ => 200 - (intOf iv).toNat)
        case atStart => exact ⟨0, 0, rfl, Nat.zero_le _, rfl⟩
        case round =>
          obtain ⟨i, q, rfl, his, rfl⟩ := hrel
          by_cases hlt : i < s
          · have us : s ≤ 150 := by have := hT.out.sk; have := hT.out.k150; omega
            have qa : wo.cell? ⟨ga, i, none⟩ = some (.int .i64 (A i : Int)) := hK.out.a.cell (by omega)
            have qb : wo.cell? ⟨gb, i, none⟩ = some (.int .i64 (B i : Int)) := hK.out.b.cell (by omega)
            have sm := hT.out.sum i (by omega)
            rw [if_pos hlt] at sm
            have bb := hT.out.b i
            have b15 := hT.out.k150
            obtain ⟨av, eav⟩ : ∃ av, A i = av := ⟨_, rfl⟩
            obtain ⟨bv, ebv⟩ : ∃ bv, B i = bv := ⟨_, rfl⟩
            rw [eav] at qa sm
            rw [ebv] at qb sm bb
            have h3 : (i : Int) < (s : Int) := by omega
            have hi2 : i < 200 := by omega
            have w1 : IntKind.i64.wrap (1 + (bv : Int)) = 1 + (bv : Int) := by rw [IntKind.wrap_i64]; omega
            have hg : ¬ (1 + (bv : Int) < (av : Int)) := by omega
            have wi : IntKind.i64.wrap ((i : Int) + 1) = (i : Int) + 1 := by rw [IntKind.wrap_i64]; omega
            have HI : Hid (i < s ∧ i < 200) := ⟨hlt, hi2⟩
            clear us sm bb b15 eav ebv hlt his
            go_wp2_with fail
            go_quiet (fail)
            go_wp2
            go_roundw
            case rel => exact ⟨i + 1, _, rfl, by have := HI.out; omega, rfl⟩
            case measure => exact less_byO HI.out.2
          · have h3 : ¬ ((i : Int) < (s : Int)) := by omega
            have BQ : Hid (Below w.heap.size w (wo.drewN q)) := hK.out.be.trans (Below.mono (⟨rfl, rfl, rfl, Nat.le_refl _, fun _ _ => rfl⟩ : Below wo.heap.size wo (wo.drewN q)) hK.out.be.size)
            clear hlt his
            go_wp2_with fail
            refine (knownN_any (wo.drewN q)).mono ?_
            rintro e x2 ⟨rfl, b2⟩
            have B2 : Hid (Below w.heap.size w x2) := BQ.out.trans (b2.mono BQ.out.size)
            clear b2
            go_wp2
            go_ret
            exact ⟨rfl, B2.out⟩
      · have h1 : ¬ ((k : Int) < (ln : Int)) := by omega
        clear hlt hk2 hln
        go_wp2_with fail
        obtain ⟨wo, rfl⟩ : ∃ wo : World, wo = wr := ⟨_, rfl⟩
        go_loopw [13] (fun iv wr => ∃ (i q : Nat), iv = .int .i64 (i : Int) ∧ i ≤ s ∧ wr = wo.drewN q) (fun iv _ => 200 - (intOf iv).toNat)
        case atStart => exact ⟨0, 0, rfl, Nat.zero_le _, rfl⟩
        case round =>
          obtain ⟨i, q, rfl, his, rfl⟩ := hrel
          by_cases hlt : i < s
          · have us : s ≤ 150 := by have := hT.out.sk; have := hT.out.k150; omega
            have qa : wo.cell? ⟨ga, i, none⟩ = some (.int .i64 (A i : Int)) := hK.out.a.cell (by omega)
            have qb : wo.cell? ⟨gb, i, none⟩ = some (.int .i64 (B i : Int)) := hK.out.b.cell (by omega)
            have sm := hT.out.sum i (by omega)
            rw [if_pos hlt] at sm
            have bb := hT.out.b i
            have b15 := hT.out.k150
            obtain ⟨av, eav⟩ : ∃ av, A i = av := ⟨_, rfl⟩
            obtain ⟨bv, ebv⟩ : ∃ bv, B i = bv := ⟨_, rfl⟩
            rw [eav] at qa sm
            rw [ebv] at qb sm bb
            have h3 : (i : Int) < (s : Int) := by omega
            have hi2 : i < 200 := by omega
            have w1 : IntKind.i64.wrap (1 + (bv : Int)) = 1 + (bv : Int) := by rw [IntKind.wrap_i64]; omega
            have hg : ¬ (1 + (bv : Int) < (av : Int)) := by omega
            have wi : IntKind.i64.wrap ((i : Int) + 1) = (i : Int) + 1 := by rw [IntKind.wrap_i64]; omega
            have HI : Hid (i < s ∧ i < 200) := ⟨hlt, hi2⟩
            clear us sm bb b15 eav ebv hlt his
            go_wp2_with fail
            go_quiet (fail)
            go_wp2
            go_roundw
            case rel => exact ⟨i + 1, _, rfl, by have := HI.out; omega, rfl⟩
            case measure => exact less_byO HI.out.2
          · have h3 : ¬ ((i : Int) < (s : Int)) := by omega
            have BQ : Hid (Below w.heap.size w (wo.drewN q)) := hK.out.be.trans (Below.mono (⟨rfl, rfl, rfl, Nat.le_refl _, fun _ _ => rfl⟩ : Below wo.heap.size wo (wo.drewN q)) hK.out.be.size)
            clear hlt his
            go_wp2_with fail
            refine (knownN_any (wo.drewN q)).mono ?_
            rintro e x2 ⟨rfl, b2⟩
            have B2 : Hid (Below w.heap.size w x2) := BQ.out.trans (b2.mono BQ.out.size)
            clear b2
            go_wp2
            go_ret
            exact ⟨rfl, B2.out⟩
end Go.Proofs.Ytginkikkenegkaa
