/- The iterators over frames. -/
import Derived.Test.YtpnnbkhlbohfbaaDoorFrCut
import Derived.Test.YtpnnbkhlbohfbaaDoorRanges
namespace Go.Proofs.YtpnnbkhlbohfbaaDoor
open Go.RowKit Go.Shelf Cod
attribute [local go_sem] Oper.semAt_some
set_option linter.unusedVariables false

/-- What is left behind k frames. -/
def rk (l : List (BitVec 8)) : Nat → List (BitVec 8)
  | 0 => l
  | k + 1 => cutRest (rk l k)
theorem cutRest_lt {l : List (BitVec 8)} (h : cutWhy l = 0) : (cutRest l).length < l.length := by
  unfold cutWhy at h
  split at h
  · omega
  · split at h
    · cases h
    · split at h
      · cases h
      · unfold cutRest
        rw [List.length_drop]
        omega
/-- What a round keeps: bytes below B1; whatever from B0 on is no row of bytes. -/
structure Kc (B0 B1 : Nat) (W W' : World) : Prop where
  u8 : ∀ b off x, b < B1 → W.cell? ⟨b, off, none⟩ = some (.int .u8 x) → W'.cell? ⟨b, off, none⟩ = some (.int .u8 x)
  box : ∀ k cs t z, B0 ≤ k → W.heap[k]? = some (.cells cs t z) → t ≠ 5 → W'.heap[k]? = some (.cells cs t z)
  tab : Tabs W → Tabs W'
theorem Kc.tr {B0 B1 : Nat} {X Y Z : World} (h : Kc B0 B1 X Y) (k : Kc B0 B1 Y Z) : Kc B0 B1 X Z :=
  ⟨fun b off x hb hx => k.u8 b off x hb (h.u8 b off x hb hx), fun i cs t z hi hx ht => k.box i cs t z hi (h.box i cs t z hi hx ht) ht, fun t => k.tab (h.tab t)⟩
theorem Kc.bk {B0 B1 : Nat} (W : World) (l : Nat) (o o' : Obj) (hl : W.heap[l]? = some o) (hc : o.isCells = false) : Kc B0 B1 W (W.putObj l o') := by
  have ne : ∀ k cs t z, W.heap[k]? = some (.cells cs t z) → k ≠ l := fun k cs t z hk e => by
    subst e
    rw [hl] at hk
    cases hk
    cases hc
  have one : ∀ p v, W.cell? p = some v → (W.putObj l o').cell? p = some v := fun p v hx => by
    obtain ⟨o2, h2, hc2⟩ := cells_of_cell hx
    rw [← hx]
    refine World.cell?_of_block (World.putObj_heap_other (fun e => ?_))
    have h3 : W.heap[l]? = some o2 := by rw [← e]; exact h2
    rw [h3] at hl
    cases hl
    rw [hc] at hc2
    cases hc2
  exact ⟨fun b off x _ hx => one _ _ hx, fun k cs t z _ hk _ => (World.putObj_heap_other (ne k cs t z hk)).trans hk, fun t => ⟨fun i hi => one _ _ (t.1 i hi), fun i hi => one _ _ (t.2 i hi)⟩⟩
theorem Kc.of_below {B0 B1 : Nat} {W W' : World} (h : Below W.heap.size W W') : Kc B0 B1 W W' :=
  ⟨fun b off x _ hx => by rw [h.cell (p := ⟨b, off, none⟩) (World.block_lt_of_cell? W _ hx)]; exact hx,
   fun k cs t z _ hk _ => by rw [h.block k (Array.getElem?_eq_some_iff.1 hk).1]; exact hk,
   fun t => t.below h t.size⟩
/-- Bytes in old memory stay. -/
theorem Seen.kc {B0 B1 : Nat} {W W' : World} {a : Option Addr} {n : Nat} {l : List (BitVec 8)} (h : Seen W a n l) (k : Kc B0 B1 W W') (hb : ∀ y, a = some y → y.block < B1) : Seen W' a n l := by
  obtain ⟨h1, h2, h3⟩ := h
  refine ⟨h1, h2, ?_⟩
  rcases h3 with h3 | ⟨b, off, rfl, hc⟩
  · exact .inl h3
  · exact .inr ⟨b, off, rfl, fun j hj => k.u8 b (off + j) _ (hb _ rfl) (hc j hj)⟩
/-- A frame that was cut off, as it lies. -/
structure CutV where
  a2 : Option Addr
  n2 : Nat
  c2 : Nat
  a3 : Option Addr
  n3 : Nat
  c3 : Nat
  a4 : Option Addr
  n4 : Nat
  c4 : Nat
/-- It is the frame that bytes begin with. -/
structure CutIs (B1 : Nat) (l : List (BitVec 8)) (x : CutV) (W : World) : Prop where
  s2 : Seen W x.a2 x.n2 (cutSum l)
  s3 : Seen W x.a3 x.n3 (cutBody l)
  m3 : x.a3 = none → x.c3 = 0
  k3 : x.n3 ≤ 65536
  s4 : Seen W x.a4 x.n4 (cutRest l)
  m4 : x.a4 = none → x.c4 = 0
  l4 : x.n4 ≤ x.c4
  k4 : x.n4 ≤ 140737488355328
  lo : ∀ y, x.a2 = some y ∨ x.a3 = some y ∨ x.a4 = some y → y.block < B1
theorem CutIs.kc {B0 B1 : Nat} {l : List (BitVec 8)} {x : CutV} {W W' : World} (h : CutIs B1 l x W) (k : Kc B0 B1 W W') : CutIs B1 l x W' :=
  ⟨h.s2.kc k (fun y e => h.lo y (.inl e)), h.s3.kc k (fun y e => h.lo y (.inr (.inl e))), h.m3, h.k3, h.s4.kc k (fun y e => h.lo y (.inr (.inr e))), h.m4, h.l4, h.k4, h.lo⟩
theorem CutIs.below {B1 : Nat} {l : List (BitVec 8)} {x : CutV} {W W' : World} (h : CutIs B1 l x W) (k : Below W.heap.size W W') : CutIs B1 l x W' := h.kc (B0 := 0) (Kc.of_below k)
theorem CutIs.low {B1 : Nat} {l : List (BitVec 8)} {x : CutV} {W W' : World} (h : CutIs B1 l x W) (k : Below B1 W W') : CutIs B1 l x W' := by
  have low : ∀ {a : Option Addr} {n : Nat} {p : List (BitVec 8)}, Seen W a n p → (∀ y, a = some y → y.block < B1) → Seen W' a n p := fun hs hb => by
    obtain ⟨h1, h2, h3⟩ := hs
    refine ⟨h1, h2, ?_⟩
    rcases h3 with h3 | ⟨b, off, rfl, hc⟩
    · exact .inl h3
    · exact .inr ⟨b, off, rfl, fun j hj => by rw [k.cell (p := ⟨b, off + j, none⟩) (hb ⟨b, off, none⟩ rfl)]; exact hc j hj⟩
  exact ⟨low h.s2 (fun y e => h.lo y (.inl e)), low h.s3 (fun y e => h.lo y (.inr (.inl e))), h.m3, h.k3, low h.s4 (fun y e => h.lo y (.inr (.inr e))), h.m4, h.l4, h.k4, h.lo⟩
/-- cutFrame, at once. -/
theorem cut_is (B1 : Nat) (a : Option Addr) (len cap : Nat) (l : List (BitVec 8)) (w : World) (h : Seen w a len l) (hnil : a = none → cap = 0) (hk : len ≤ cap) (hm : len ≤ 140737488355328) (hb : ∀ y, a = some y → y.block < B1) :
    Calls Tryd.prog 16 #[.slice a len cap] w fun e w' => ∃ x : CutV, e = .returned (.tuple #[.agg #[.slice x.a2 x.n2 x.c2, .slice x.a3 x.n3 x.c3, .slice x.a4 x.n4 x.c4], .int .i64 (cutWhy l)]) ∧ Below w.heap.size w w' ∧ (cutWhy l = 0 → CutIs B1 l x w') := by
  refine (cut_any a len cap l w h hnil hk hm).mono ?_
  rintro e w' ⟨a2, n2, c2, a3, n3, c3, a4, n4, c4, rfl, b, hs, hlo⟩
  refine ⟨⟨a2, n2, c2, a3, n3, c3, a4, n4, c4⟩, rfl, b, fun h0 => ?_⟩
  obtain ⟨⟨s2, m2, k2⟩, ⟨s3, m3, k3, z3⟩, ⟨s4, m4, k4, z4⟩⟩ := hs h0
  exact ⟨s2.below b, s3.below b, m3, z3, s4.below b, m4, k4, z4, hlo B1 hb⟩
/-- What an iterator over frames that are whole hands on. -/
def RC (B1 : Nat) (l : List (BitVec 8)) (pre : List CutV) (x : CutV) (W : World) : Prop := cutWhy (rk l pre.length) = 0 ∧ CutIs B1 (rk l pre.length) x W
abbrev encC (x : CutV) : Array Value := #[.agg #[.slice x.a2 x.n2 x.c2, .slice x.a3 x.n3 x.c3, .slice x.a4 x.n4 x.c4]]

theorem cuts_any (a : Option Addr) (len cap : Nat) (w : World) : Calls Tryd.prog 35 #[.slice a len cap] w fun e w' => e = .returned (.func (.func 55) #[] #[.pointer (some ⟨w.heap.size, 0, none⟩)]) ∧ w' = w.alloc (.cells #[.slice a len cap] 22) := by
  go_enter Tryd.func35, Tryd.ntmps35
  go_wp2
  go_ret
  exact ⟨rfl, rfl⟩
theorem block_set3 {w : World} {B t : Nat} {z : Nat × Nat} {u0 u1 u2 : Value} (h : w.heap[B]? = some (.cells #[u0, u1, u2] t z)) (v0 v1 v2 : Value) :
    (((w.setCell ⟨B, 0, none⟩ v0).setCell ⟨B, 1, none⟩ v1).setCell ⟨B, 2, none⟩ v2).heap[B]? = some (.cells #[v0, v1, v2] t z) := by
  have := set_block (set_block (set_block h 0 v0) 1 v1) 2 v2
  simpa using this
theorem cells3 {w : World} {B t : Nat} {u0 u1 u2 : Value} (h : w.heap[B]? = some (.cells #[u0, u1, u2] t (0, 0))) :
    w.cell? ⟨B, 0, none⟩ = some u0 ∧ w.cell? ⟨B, 1, none⟩ = some u1 ∧ w.cell? ⟨B, 2, none⟩ = some u2 ∧ w.frozen? ⟨B, 0, none⟩ = false ∧ w.frozen? ⟨B, 1, none⟩ = false ∧ w.frozen? ⟨B, 2, none⟩ = false := by
  simp [World.cell?, World.frozen?, h]
def leftOf (W : World) (B : Nat) : Nat := match W.cell? ⟨B, 2, none⟩ with | some (.slice _ n _) => n | _ => 0

set_option maxRecDepth 100000 in
set_option maxHeartbeats 2000000 in
theorem cuts1_in (n : Nat) (L B0 B1 Bb : Nat) (a : Option Addr) (len cap : Nat) (l : List (BitVec 8)) (J Jx : List CutV → World → Prop) (W : World) (hJ : LowFrom W.heap.size J)
    (hY : ∀ pre x W1, J pre W1 → RC B1 l pre x W1 → YieldAt Fence.wide (n - 1) Tryd.prog L (encC x) W1 fun e W' => KeepsFrom W.heap.size W1 W' ∧
      ((e = .returned (.bool true) ∧ J (pre ++ [x]) W' ∧ Kc B0 B1 W1 W') ∨ (e = .returned (.bool false) ∧ Jx (pre ++ [x]) W')))
    (hb0 : B0 ≤ W.heap.size) (hb1 : B1 ≤ W.heap.size) (hbox : W.cell? ⟨Bb, 0, none⟩ = some (.slice a len cap)) (hs : Seen W a len l) (hnil : a = none → cap = 0) (hk : len ≤ cap) (hm : len ≤ 140737488355328) (hlo : ∀ y, a = some y → y.block < B1) (h0 : J [] W) :
    CallsIn Fence.wide n Tryd.prog 55 #[.func (.yield L) #[] #[], .pointer (some ⟨Bb, 0, none⟩)] W fun e W' => (∃ v, e = .returned v) ∧
      ((∃ xs, (cutWhy (rk l xs.length) ≠ 0) ∧ J xs W') ∨ (∃ pre, True ∧ Jx pre W')) := by
  have HC := cut_is B1 a len cap l W hs hnil hk hm hlo
  clear hs hnil hk hm hlo
  refine callsIn_of_wp Tryd.func55 rfl trivial ?_ rfl
  simp only [Tryd.ntmps55, List.size_toArray, List.length_cons, List.length_nil, Nat.reduceAdd, Nat.reduceSub, Array.replicate_succ, Array.replicate_zero, List.push_toArray, List.append_toArray, List.nil_append, List.cons_append]
  gi_wp2_with fail
  refine ⟨trivial, wide_room _, (callsIn_wide.2 HC).mono ?_⟩
  rintro e w1 ⟨x, rfl, b1, hx⟩
  have HX : Hid (cutWhy l = 0 → CutIs B1 l x w1) := hx
  have HY : Hid (∀ pre x W1, J pre W1 → RC B1 l pre x W1 → YieldAt Fence.wide (n - 1) Tryd.prog L (encC x) W1 fun e W' => KeepsFrom W.heap.size W1 W' ∧
      ((e = .returned (.bool true) ∧ J (pre ++ [x]) W' ∧ Kc B0 B1 W1 W') ∨ (e = .returned (.bool false) ∧ Jx (pre ++ [x]) W'))) := hY
  have HJ : Hid (LowFrom W.heap.size J) := hJ
  have HB1 : Hid (Below W.heap.size W w1) := b1
  clear HC hx hY hJ b1
  gi_wp2_with fail
  have hnew : w1.alloc (.cells #[.slice x.a2 x.n2 x.c2, .slice x.a3 x.n3 x.c3, .slice x.a4 x.n4 x.c4] 44) = w1.alloc (.cells #[.slice x.a2 x.n2 x.c2, .slice x.a3 x.n3 x.c3, .slice x.a4 x.n4 x.c4] 44) := rfl
  gi_loopw [4] (fun y wr => ∃ (pre : List CutV) (x : CutV), Hid (J pre wr) ∧ y = .int .i64 (cutWhy (rk l pre.length) : Nat) ∧ wr.heap[w1.heap.size]? = some (.cells #[.slice x.a2 x.n2 x.c2, .slice x.a3 x.n3 x.c3, .slice x.a4 x.n4 x.c4] 44 (0, 0)) ∧ Hid (cutWhy (rk l pre.length) = 0 → CutIs B1 (rk l pre.length) x wr) ∧ Hid (W.heap.size ≤ wr.heap.size))
    (fun y wr => if intOf y = 0 then leftOf wr w1.heap.size + 1 else 0)
  case atStart =>
    have bA : Below W.heap.size W (w1.alloc (.cells #[.slice x.a2 x.n2 x.c2, .slice x.a3 x.n3 x.c3, .slice x.a4 x.n4 x.c4] 44)) := HB1.out.alloc HB1.out.size _
    exact ⟨[], x, HJ.out _ _ _ h0 bA, rfl, heap_alloc_new w1 _, fun h => (HX.out h).below ((Below.refl _ w1).alloc (Nat.le_refl _) _), bA.size⟩
  case round =>
    obtain ⟨pre, x, hJs, rfl, hbx, hcx, hsz⟩ := hrel
    clear hnew h0 hbox
    have HB : Hid (w1.heap.size ≥ W.heap.size) := HB1.out.size
    have HZ : Hid (B0 ≤ W.heap.size) := hb0
    have HZ1 : Hid (B1 ≤ W.heap.size) := hb1
    clear hb0 hb1
    obtain ⟨c0, c1, c2, f0, f1, f2⟩ := cells3 hbx
    have hleft : Hid (leftOf wr w1.heap.size = x.n4) := by show leftOf wr w1.heap.size = x.n4; unfold leftOf; rw [c2]
    have HBX : Hid (wr.heap[w1.heap.size]? = some (.cells #[.slice x.a2 x.n2 x.c2, .slice x.a3 x.n3 x.c3, .slice x.a4 x.n4 x.c4] 44 (0, 0))) := hbx
    clear hbx
    by_cases hy : cutWhy (rk l pre.length) = 0
    · have hC : Hid (CutIs B1 (rk l pre.length) x wr) := hcx.out hy
      obtain ⟨fn, tmps, assign, body, hyy, hR⟩ := HY.out pre x wr hJs.out ⟨hy, hC.out⟩
      dsimp only [encC] at hyy
      have HY0 : Hid (cutWhy (rk l pre.length) = 0) := hy
      rw [hy]
      clear hcx hy
      gi_wp2
      refine ⟨wide_room _, hR.mono ?_⟩
      rintro e W3 ⟨hkf, (⟨rfl, hJ3, hk3⟩ | ⟨rfl, hJx3⟩)⟩
      · have hb3 := hk3.box w1.heap.size _ _ _ (Nat.le_trans HZ.out HB.out) HBX.out (by decide)
        have hC3 := hC.out.kc hk3
        have HC := cut_is B1 x.a4 x.n4 x.c4 (cutRest (rk l pre.length)) W3 hC3.s4 hC3.m4 hC3.l4 hC3.k4 (fun y e => hC3.lo y (.inr (.inr e)))
        obtain ⟨d0, d1, d2, g0, g1, g2⟩ := cells3 hb3
        have HB3 : Hid (W3.heap[w1.heap.size]? = some (.cells #[.slice x.a2 x.n2 x.c2, .slice x.a3 x.n3 x.c3, .slice x.a4 x.n4 x.c4] 44 (0, 0))) := hb3
        have N4 : Hid (x.n4 = (cutRest (rk l pre.length)).length) := hC3.s4.1
        have HS3 : Hid (W.heap.size ≤ W3.heap.size ∧ w1.heap.size < W3.heap.size) := ⟨Nat.le_trans hsz.out hkf.size, (Array.getElem?_eq_some_iff.1 hb3).1⟩
        have HJ3 : Hid (J (pre ++ [x]) W3) := hJ3
        clear hb3 hC3 hk3 hJ3 hkf c0 c1 c2 f0 f1 f2 hR hyy
        gi_wp2_with fail
        refine ⟨trivial, wide_room _, (callsIn_wide.2 HC).mono ?_⟩
        rintro e w4 ⟨x', rfl, b4, hx4⟩
        have hb4 : Hid (w4.heap[w1.heap.size]? = some (.cells #[.slice x.a2 x.n2 x.c2, .slice x.a3 x.n3 x.c3, .slice x.a4 x.n4 x.c4] 44 (0, 0))) := by
          show w4.heap[w1.heap.size]? = _
          rw [b4.block _ HS3.out.2]; exact HB3.out
        obtain ⟨d0', d1', d2', g0', g1', g2'⟩ := cells3 hb4.out
        have B4 : Hid (Below W3.heap.size W3 w4) := b4
        have X4 : Hid (cutWhy (cutRest (rk l pre.length)) = 0 → CutIs B1 (cutRest (rk l pre.length)) x' w4) := hx4
        clear d0 d1 d2 g0 g1 g2 b4 hx4 HC
        gi_wp2_with fail
        go_roundw
        case rel =>
          have bA : Below W.heap.size W3 (((w4.setCell ⟨w1.heap.size, 0, none⟩ (.slice x'.a2 x'.n2 x'.c2)).setCell ⟨w1.heap.size, 1, none⟩ (.slice x'.a3 x'.n3 x'.c3)).setCell ⟨w1.heap.size, 2, none⟩ (.slice x'.a4 x'.n4 x'.c4)) :=
            (((B4.out.mono HS3.out.1).setCell (p := ⟨w1.heap.size, 0, none⟩) HB.out _).setCell (p := ⟨w1.heap.size, 1, none⟩) HB.out _).setCell (p := ⟨w1.heap.size, 2, none⟩) HB.out _
          refine ⟨pre ++ [x], x', HJ.out _ _ _ HJ3.out bA, ?_, block_set3 hb4.out _ _ _, ?_, Nat.le_trans HS3.out.1 bA.size⟩
          · rw [List.length_append]; rfl
          · show cutWhy (rk l (pre ++ [x]).length) = 0 → _
            rw [List.length_append]
            intro h
            refine (X4.out h).low ?_
            exact ((((Below.refl B1 w4).setCell (p := ⟨w1.heap.size, 0, none⟩) (Nat.le_trans HZ1.out HB.out) _).setCell (p := ⟨w1.heap.size, 1, none⟩) (Nat.le_trans HZ1.out HB.out) _).setCell (p := ⟨w1.heap.size, 2, none⟩) (Nat.le_trans HZ1.out HB.out) _)
        case measure =>
          have e1 := (cells3 (block_set3 hb4.out (.slice x'.a2 x'.n2 x'.c2) (.slice x'.a3 x'.n3 x'.c3) (.slice x'.a4 x'.n4 x'.c4))).2.2.1
          have e2 := hleft.out
          have e3 := N4.out
          by_cases h : cutWhy (cutRest (rk l pre.length)) = 0
          · have e4 := (X4.out h).s4.1
            have e5 := cutRest_lt h
            simp [intOf, leftOf, e1, h, -List.length_eq_zero_iff] at e2 ⊢
            rw [e2]
            omega
          · simp [intOf, h]
      · gi_wp2
        go_end0
        exact ⟨⟨_, rfl⟩, .inr ⟨_, trivial, hJx3⟩⟩
    · have hy2 : ((cutWhy (rk l pre.length) : Nat) : Int) ≠ 0 := by omega
      have hy1 : (((cutWhy (rk l pre.length) : Nat) : Int) == 0) = false := by simpa using hy2
      have HY0 : Hid (cutWhy (rk l pre.length) ≠ 0) := hy
      obtain ⟨y, hy'⟩ : ∃ y, cutWhy (rk l pre.length) = y := ⟨_, rfl⟩
      rw [hy'] at hy1 ⊢
      clear hcx hy hy2 hy'
      gi_wp2
      refine ⟨fun _ h => (by cases h), ?_⟩
      gi_wp2
      go_end0
      exact ⟨⟨_, rfl⟩, .inl ⟨pre, HY0.out, hJs.out⟩⟩
end Go.Proofs.YtpnnbkhlbohfbaaDoor
