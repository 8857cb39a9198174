/- Package journal: the records that stand one behind the other. -/
import Derived.Test.YtikpmaecbfebkaaDoorJRec
import Derived.Test.YtikpmaecbfebkaaDoorJUp
namespace Go.Proofs.YtikpmaecbfebkaaDoor
open Go.RowKit Go.Shelf
attribute [local go_sem] Oper.semAt_some
set_option linter.unusedVariables false

/-- A record that is handed on. -/
structure GotJ where
  v : Value
  l : List (BitVec 8)
  b : Nat
abbrev encJ (x : GotJ) : Array Value := #[x.v, .int .i64 (x.b : Int)]
/-- The number behind some records. -/
def numb (st : Nat) (pre : List GotJ) : Nat := match pre.getLast? with | none => st | some x => x.b
theorem numb_nil (st : Nat) : numb st [] = st := rfl
theorem numb_snoc (st : Nat) (pre : List GotJ) (x : GotJ) : numb st (pre ++ [x]) = x.b := by unfold numb; simp
/-- The record from a number on. -/
def recFrom (d : DS) (fr sz st s : Nat) : Option (List (BitVec 8) × Nat) := recAt d fr sz s (st + sz - s) s []
theorem recAt_num {d : DS} {fr sz fm : Nat} : ∀ {c s : Nat} {wh l : List (BitVec 8)} {b : Nat}, recAt d fr sz fm c s wh = some (l, b) → s < b ∧ b ≤ s + c
  | c + 1, s, wh, l, b, h => by
    unfold recAt at h
    split at h
    · split at h
      · split at h
        · cases h; omega
        · cases h
      · have := recAt_num h
        omega
    · cases h
/-- A value is a record. -/
def IsRec (W : World) (v : Value) (l : List (BitVec 8)) : Prop := ∃ g o c, v = .slice (some ⟨g, o, none⟩) l.length c ∧ Seen W (some ⟨g, o, none⟩) l.length l ∧ l.length ≤ c ∧ U8At W g
theorem IsRec.below {W W' : World} {v : Value} {l : List (BitVec 8)} (h : IsRec W v l) (b : Below W.heap.size W W') : IsRec W' v l := by obtain ⟨g, o, c, e, s, k, u⟩ := h; exact ⟨g, o, c, e, s.below b, k, u.below b⟩
def RJ (d : DS) (fr sz st : Nat) (pre : List GotJ) (x : GotJ) (W : World) : Prop := recFrom d fr sz st (numb st pre) = some (x.l, x.b) ∧ IsRec W x.v x.l
/-- What a round keeps. -/
structure KJ (m : DM) (J Bk : Nat) (W W' : World) : Prop where
  d : ∀ n d, Dsk W m n d → Dsk W' m n d
  j : ∀ D fr sz st nx dead, JAt W J D fr sz st nx dead → ∃ nx', JAt W' J D fr sz st nx' dead
  k : ∀ v, W.cell? ⟨Bk, 0, none⟩ = some v → W'.cell? ⟨Bk, 0, none⟩ = some v
  t : Tabs W → Tabs W'
theorem KJ.tr {m : DM} {J Bk : Nat} {X Y Z : World} (h : KJ m J Bk X Y) (k : KJ m J Bk Y Z) : KJ m J Bk X Z :=
  ⟨fun n d q => k.d n d (h.d n d q), fun D fr sz st nx dead q => by obtain ⟨nx', q'⟩ := h.j D fr sz st nx dead q; exact k.j D fr sz st nx' dead q', fun v q => k.k v (h.k v q), fun q => k.t (h.t q)⟩
theorem KJ.of_below {m : DM} {J Bk : Nat} {W W' : World} (h : Below W.heap.size W W') : KJ m J Bk W W' :=
  ⟨fun n d q => q.below h, fun D fr sz st nx dead q => ⟨nx, q.below h⟩, fun v q => by rw [h.cell (p := ⟨Bk, 0, none⟩) (World.block_lt_of_cell? W _ q)]; exact q, fun q => q.below h q.size⟩
/-- What is known of the journal while it is gone through. -/
structure JSt (W : World) (m : DM) (n : Nat) (d : DS) (J Bk fr sz st : Nat) (dead : Bool) : Prop where
  d : Dsk W m n d
  j : ∃ nx, JAt W J m.D fr sz st nx dead
  k : W.cell? ⟨Bk, 0, none⟩ = some (.pointer (some ⟨J, 0, none⟩))
  t : Tabs W
theorem JSt.kj {W W' : World} {m : DM} {n : Nat} {d : DS} {J Bk fr sz st : Nat} {dead : Bool} (h : JSt W m n d J Bk fr sz st dead) (k : KJ m J Bk W W') : JSt W' m n d J Bk fr sz st dead :=
  ⟨k.d _ _ h.d, by obtain ⟨nx, q⟩ := h.j; exact k.j _ _ _ _ nx _ q, k.k _ h.k, k.t h.t⟩
theorem JSt.below {W W' : World} {m : DM} {n : Nat} {d : DS} {J Bk fr sz st : Nat} {dead : Bool} (h : JSt W m n d J Bk fr sz st dead) (b : Below W.heap.size W W') : JSt W' m n d J Bk fr sz st dead := h.kj (KJ.of_below b)
def isT (v : Value) : Nat := match v with | .bool true => 1 | _ => 0
/-- What a call of record has told. -/
def Held (W : World) (d : DS) (fr sz st s : Nat) (rv bv sv : Value) : Prop := match recFrom d fr sz st s with
  | some (l, b) => IsRec W rv l ∧ bv = .int .i64 (b : Int) ∧ sv = .bool true
  | none => sv = .bool false
theorem rec_held {m : DM} {n : Nat} {d : DS} {J Bk fr sz st : Nat} {dead : Bool} {W : World} (h : JSt W m n d J Bk fr sz st dead) (s : Nat) (h1 : 1 ≤ st) (h2 : st ≤ 2305843009213693952) (hz : 1 ≤ sz) (hs : fr + sz ≤ n) (hf : st ≤ s) (hf2 : s ≤ st + sz) :
    Calls Tryd.prog 68 #[.pointer (some ⟨J, 0, none⟩), .int .i64 (s : Int)] W fun e w' => ∃ rv bv sv, e = .returned (.tuple #[rv, bv, sv]) ∧ Held w' d fr sz st s rv bv sv ∧ Below W.heap.size W w' := by
  obtain ⟨nx, q⟩ := h.j
  refine (record_any m n d J fr sz st nx dead s W h.t h.d q h1 h2 hz hs hf hf2).mono ?_
  rintro e w' ⟨b, hr⟩
  unfold Held recFrom
  cases hq : recAt d fr sz s (st + sz - s) s [] with
  | none =>
    rw [hq] at hr
    obtain ⟨v, bb, rfl⟩ := hr
    exact ⟨_, _, _, rfl, rfl, b⟩
  | some x =>
    rw [hq] at hr
    obtain ⟨g, o, c, rfl, _, sn, hc, hu⟩ := hr
    exact ⟨_, _, _, rfl, ⟨⟨g, o, c, rfl, sn, hc, hu⟩, rfl, rfl⟩, b⟩
set_option maxRecDepth 100000 in
set_option maxHeartbeats 6400000 in
theorem standing1_in (n L : Nat) (m : DM) (nd : Nat) (d : DS) (J Bk fr sz st : Nat) (dead : Bool) (Jp Jx : List GotJ → World → Prop) (W : World) (hJ : UpB Jp)
    (hY : ∀ pre x W1, Jp pre W1 → RJ d fr sz st pre x W1 → YieldAt Fence.wide (n - 1) Tryd.prog L (encJ x) W1 fun e W' => KeepsFrom W.heap.size W1 W' ∧
      ((e = .returned (.bool true) ∧ Jp (pre ++ [x]) W' ∧ KJ m J Bk W1 W') ∨ (e = .returned (.bool false) ∧ Jx (pre ++ [x]) W')))
    (hS : JSt W m nd d J Bk fr sz st dead) (h1 : 1 ≤ st) (h2 : st ≤ 2305843009213693952) (hz : 1 ≤ sz) (hs : fr + sz ≤ nd) (h0 : Jp [] W) :
    CallsIn Fence.wide n Tryd.prog 67 #[.func (.yield L) #[] #[], .pointer (some ⟨Bk, 0, none⟩)] W fun e W' => (∃ v, e = .returned v) ∧
      ((∃ xs, recFrom d fr sz st (numb st xs) = none ∧ Jp xs W') ∨ (∃ pre, True ∧ Jx pre W')) := by
  have HB : Hid (1 ≤ st ∧ st ≤ 2305843009213693952 ∧ 1 ≤ sz ∧ fr + sz ≤ nd ∧ nd ≤ 4096) := ⟨h1, h2, hz, hs, hS.d.ok.n2⟩
  have HRc : Hid (∀ X, Below W.heap.size W X → Calls Tryd.prog 68 #[.pointer (some ⟨J, 0, none⟩), .int .i64 (st : Int)] X fun e w' => ∃ rv bv sv, e = .returned (.tuple #[rv, bv, sv]) ∧ Held w' d fr sz st st rv bv sv ∧ Below X.heap.size X w') := fun X b => rec_held (hS.below b) st h1 h2 hz hs (Nat.le_refl _) (by omega)
  have CC : Hid (∀ X, Below W.drew.heap.size W.drew X → X.cell? ⟨Bk, 0, none⟩ = some (.pointer (some ⟨J, 0, none⟩)) ∧ X.cell? ⟨J, 3, none⟩ = some (.int .i64 (st : Int))) := fun X b => by
    have q := hS.below ((Below.refl W.heap.size W).drew.trans b)
    obtain ⟨nx, qj⟩ := q.j
    exact ⟨q.k, qj.cells.2.2.2.1⟩
  have HS : Hid (JSt W m nd d J Bk fr sz st dead) := hS
  have HY : Hid (∀ pre x W1, Jp pre W1 → RJ d fr sz st pre x W1 → YieldAt Fence.wide (n - 1) Tryd.prog L (encJ x) W1 fun e W' => KeepsFrom W.heap.size W1 W' ∧
      ((e = .returned (.bool true) ∧ Jp (pre ++ [x]) W' ∧ KJ m J Bk W1 W') ∨ (e = .returned (.bool false) ∧ Jx (pre ++ [x]) W'))) := hY
  have HJ : Hid (UpB Jp) := hJ
  have H0 : Hid (Jp [] W) := h0
  clear hJ hY hS h1 h2 hz hs h0
  refine callsIn_of_wp Tryd.func67 rfl trivial ?_ rfl
  simp only [Tryd.ntmps67, List.size_toArray, List.length_cons, List.length_nil, Nat.reduceAdd, Nat.reduceSub, Array.replicate_succ, Array.replicate_zero, List.push_toArray, List.append_toArray, List.nil_append, List.cons_append]
  gi_wp2_with fail
  refine wpIn_wide.2 ?_
  refine wp_region_held_drew (S := fun X => Below W.drew.heap.size W.drew X) (by kernel_rfl) (Below.refl _ _) (fun hHeld => ?_)
  refine take_run (i := 0) (oi := { dst := some 7, op := Go.Op.load 37 (Go.Operand.tmp 1), type := 37, pos := "journal.go:52", after := #[], guard := none }) (v := .pointer (some ⟨J, 0, none⟩)) rfl (by kernel_rfl) (by kernel_rfl) (by kernel_rfl) (fun _ _ _ h => h) (by rfl) ?_ hHeld ?_
  · (intro wq hSw; obtain ⟨q0, q3⟩ := CC.out wq hSw; go_simp <;> with_reducible rfl)
  try simp only [Act.put, List.setIfInBounds_toArray, List.set_cons_zero, List.set_cons_succ]
  refine take_run (i := 1) (oi := { dst := some 8, op := Go.Op.load 37 (Go.Operand.tmp 1), type := 37, pos := "journal.go:52", after := #[], guard := none }) (v := .pointer (some ⟨J, 0, none⟩)) rfl (by kernel_rfl) (by kernel_rfl) (by kernel_rfl) (fun _ _ _ h => h) (by rfl) ?_ hHeld ?_
  · (intro wq hSw; obtain ⟨q0, q3⟩ := CC.out wq hSw; go_simp <;> with_reducible rfl)
  try simp only [Act.put, List.setIfInBounds_toArray, List.set_cons_zero, List.set_cons_succ]
  refine take_run (i := 2) (oi := { dst := some 9, op := Go.Op.nilCheck (Go.Operand.tmp 8), type := 0, pos := "journal.go:52", after := #[{ on := 1, ground := Go.Ground.data }], guard := none }) (v := .pointer (some ⟨J, 0, none⟩)) rfl (by kernel_rfl) (by kernel_rfl) (by kernel_rfl) (fun _ _ _ h => h) (by rfl) ?_ hHeld ?_
  · (intro wq hSw; go_simp <;> with_reducible rfl)
  try simp only [Act.put, List.setIfInBounds_toArray, List.set_cons_zero, List.set_cons_succ]
  refine take_run (i := 3) (oi := { dst := some 10, op := Go.Op.fieldAddr 80 (Go.Operand.tmp 9) 3, type := 0, pos := "journal.go:52", after := #[{ on := 2, ground := Go.Ground.data }], guard := none }) (v := .pointer (some ⟨J, 3, none⟩)) rfl (by kernel_rfl) (by kernel_rfl) (by kernel_rfl) (fun _ _ _ h => h) (by rfl) ?_ hHeld ?_
  · (intro wq hSw; go_simp <;> with_reducible rfl)
  try simp only [Act.put, List.setIfInBounds_toArray, List.set_cons_zero, List.set_cons_succ]
  refine take_run (i := 4) (oi := { dst := some 11, op := Go.Op.load 2 (Go.Operand.tmp 10), type := 2, pos := "journal.go:52", after := #[{ on := 3, ground := Go.Ground.data }], guard := none }) (v := .int .i64 (st : Int)) rfl (by kernel_rfl) (by kernel_rfl) (by kernel_rfl) (fun _ _ _ h => h) (by rfl) ?_ hHeld ?_
  · (intro wq hSw; obtain ⟨q0, q3⟩ := CC.out wq hSw; go_simp <;> with_reducible rfl)
  try simp only [Act.put, List.setIfInBounds_toArray, List.set_cons_zero, List.set_cons_succ]
  refine take_call (i := 5) (oi := { dst := some 12, op := Go.Op.call { callee := Go.Callee.value (Go.Operand.func 68), args := #[Go.Operand.tmp 7, Go.Operand.tmp 11], argTypes := #[37, 2] }, type := 97, pos := "journal.go:52", after := #[{ on := 0, ground := Go.Ground.data }, { on := 4, ground := Go.Ground.data }], guard := none }) rfl (by kernel_rfl) (by rfl) 68 _ (by go_simp <;> with_reducible rfl) ?_
  refine (HRc.out W.drew (Below.refl _ W).drew).mono ?_
  rintro e w1 ⟨rv, bv, sv, rfl, hh, bb⟩
  refine ⟨.tuple #[rv, bv, sv], rfl, bb, ?_⟩
  try simp only [Act.put, List.setIfInBounds_toArray, List.set_cons_zero, List.set_cons_succ]
  refine take_run (i := 6) (oi := { dst := some 6, op := Go.Op.move (Go.Operand.tmp 12), type := 97, pos := "journal.go:52", after := #[{ on := 5, ground := Go.Ground.data }], guard := none }) (v := .tuple #[rv, bv, sv]) rfl (by kernel_rfl) (by kernel_rfl) (by kernel_rfl) (fun _ _ _ h => h) (by rfl) ?_ bb ?_
  · (intro wq hSw; go_simp <;> with_reducible rfl)
  try simp only [Act.put, List.setIfInBounds_toArray, List.set_cons_zero, List.set_cons_succ]
  refine take_run (i := 7) (oi := { dst := some 13, op := Go.Op.extract (Go.Operand.tmp 6) 0, type := 22, pos := "journal.go:52", after := #[{ on := 6, ground := Go.Ground.data }], guard := none }) (v := rv) rfl (by kernel_rfl) (by kernel_rfl) (by kernel_rfl) (fun _ _ _ h => h) (by rfl) ?_ bb ?_
  · (intro wq hSw; go_simp <;> with_reducible rfl)
  try simp only [Act.put, List.setIfInBounds_toArray, List.set_cons_zero, List.set_cons_succ]
  refine take_run (i := 8) (oi := { dst := some 14, op := Go.Op.extract (Go.Operand.tmp 6) 1, type := 2, pos := "journal.go:52", after := #[{ on := 6, ground := Go.Ground.data }, { on := 10, ground := Go.Ground.gcOnly Go.Departure.lateStores }], guard := none }) (v := bv) rfl (by kernel_rfl) (by kernel_rfl) (by kernel_rfl) (fun _ _ _ h => h) (by rfl) ?_ bb ?_
  · (intro wq hSw; go_simp <;> with_reducible rfl)
  try simp only [Act.put, List.setIfInBounds_toArray, List.set_cons_zero, List.set_cons_succ]
  refine take_run (i := 9) (oi := { dst := some 15, op := Go.Op.extract (Go.Operand.tmp 6) 2, type := 4, pos := "journal.go:52", after := #[{ on := 6, ground := Go.Ground.data }, { on := 11, ground := Go.Ground.gcOnly Go.Departure.lateStores }], guard := none }) (v := sv) rfl (by kernel_rfl) (by kernel_rfl) (by kernel_rfl) (fun _ _ _ h => h) (by rfl) ?_ bb ?_
  · (intro wq hSw; go_simp <;> with_reducible rfl)
  try simp only [Act.put, List.setIfInBounds_toArray, List.set_cons_zero, List.set_cons_succ]
  refine take_run (i := 10) (oi := { dst := some 3, op := Go.Op.assign (Go.Operand.tmp 13), type := 22, pos := "journal.go:52", after := #[{ on := 7, ground := Go.Ground.data }, { on := 5, ground := Go.Ground.chain }, { on := 0, ground := Go.Ground.phase }, { on := 1, ground := Go.Ground.phase }, { on := 2, ground := Go.Ground.phase }, { on := 3, ground := Go.Ground.phase }, { on := 4, ground := Go.Ground.phase }, { on := 5, ground := Go.Ground.phase }, { on := 6, ground := Go.Ground.phase }, { on := 7, ground := Go.Ground.phase }, { on := 8, ground := Go.Ground.textOnly Go.Departure.lateStores }, { on := 9, ground := Go.Ground.textOnly Go.Departure.lateStores }], guard := none }) (v := rv) rfl (by kernel_rfl) (by kernel_rfl) (by kernel_rfl) (fun _ _ _ h => h) (by rfl) ?_ bb ?_
  · (intro wq hSw; go_simp <;> with_reducible rfl)
  try simp only [Act.put, List.setIfInBounds_toArray, List.set_cons_zero, List.set_cons_succ]
  refine take_run (i := 11) (oi := { dst := some 4, op := Go.Op.assign (Go.Operand.tmp 14), type := 2, pos := "journal.go:52", after := #[{ on := 8, ground := Go.Ground.data }, { on := 10, ground := Go.Ground.chain }, { on := 0, ground := Go.Ground.phase }, { on := 1, ground := Go.Ground.phase }, { on := 2, ground := Go.Ground.phase }, { on := 3, ground := Go.Ground.phase }, { on := 4, ground := Go.Ground.phase }, { on := 5, ground := Go.Ground.phase }, { on := 6, ground := Go.Ground.phase }, { on := 7, ground := Go.Ground.phase }, { on := 8, ground := Go.Ground.phase }, { on := 9, ground := Go.Ground.textOnly Go.Departure.lateStores }, { on := 10, ground := Go.Ground.phase }], guard := none }) (v := bv) rfl (by kernel_rfl) (by kernel_rfl) (by kernel_rfl) (fun _ _ _ h => h) (by rfl) ?_ bb ?_
  · (intro wq hSw; go_simp <;> with_reducible rfl)
  try simp only [Act.put, List.setIfInBounds_toArray, List.set_cons_zero, List.set_cons_succ]
  refine take_run (i := 12) (oi := { dst := some 5, op := Go.Op.assign (Go.Operand.tmp 15), type := 4, pos := "journal.go:52", after := #[{ on := 9, ground := Go.Ground.data }, { on := 11, ground := Go.Ground.chain }, { on := 0, ground := Go.Ground.phase }, { on := 1, ground := Go.Ground.phase }, { on := 2, ground := Go.Ground.phase }, { on := 3, ground := Go.Ground.phase }, { on := 4, ground := Go.Ground.phase }, { on := 5, ground := Go.Ground.phase }, { on := 6, ground := Go.Ground.phase }, { on := 7, ground := Go.Ground.phase }, { on := 8, ground := Go.Ground.phase }, { on := 9, ground := Go.Ground.phase }, { on := 10, ground := Go.Ground.phase }, { on := 11, ground := Go.Ground.phase }], guard := none }) (v := sv) rfl (by kernel_rfl) (by kernel_rfl) (by kernel_rfl) (fun _ _ _ h => h) (by rfl) ?_ bb ?_
  · (intro wq hSw; go_simp <;> with_reducible rfl)
  try simp only [Act.put, List.setIfInBounds_toArray, List.set_cons_zero, List.set_cons_succ]
  refine wpAnyH_done (by kernel_rfl) ?_ _
  have B1 : Hid (Below W.heap.size W w1) := (Below.refl W.heap.size W).drew.trans bb
  have HH : Hid (Held w1 d fr sz st st rv bv sv) := hh
  clear hHeld bb hh HRc CC
  gi_wp2_with fail
  gi_loopw [3, 4, 5] (fun a3 a4 a5 wr => ∃ (pre : List GotJ) (rv bv sv : Value), a3 = rv ∧ a4 = bv ∧ a5 = sv ∧ Hid (Jp pre wr) ∧ Hid (JSt wr m nd d J Bk fr sz st dead) ∧ Hid (Held wr d fr sz st (numb st pre) rv bv sv) ∧ Hid (st ≤ numb st pre ∧ numb st pre ≤ st + sz) ∧ Hid (W.heap.size ≤ wr.heap.size))
    (fun _ bv sv _ => isT sv * (st + sz + 1 - (intOf bv).toNat))
  case atStart => exact ⟨[], _, _, _, rfl, rfl, rfl, HJ.out _ _ _ H0.out B1.out, HS.out.below B1.out, HH.out, ⟨Nat.le_refl _, by rw [numb_nil]; omega⟩, B1.out.size⟩
  case round =>
    clear H0 HH B1 HS
    obtain ⟨pre, rv2, bv2, sv2, e3, e4, e5, hJs, hSt, hHd, hNm, hsz⟩ := hrel
    subst e3
    subst e4
    subst e5
    have hh := hHd.out
    unfold Held at hh
    cases hq : recFrom d fr sz st (numb st pre) with
    | none =>
      rw [hq] at hh
      have hsv : u5 = .bool false := hh
      subst hsv
      have HQ : Hid (recFrom d fr sz st (numb st pre) = none) := hq
      clear hh hq hHd
      gi_wp2
      refine ⟨fun _ h => (by cases h), ?_⟩
      gi_wp2
      go_end0
      exact ⟨⟨_, rfl⟩, .inl ⟨pre, HQ.out, hJs.out⟩⟩
    | some x =>
      obtain ⟨l, b⟩ := x
      rw [hq] at hh
      obtain ⟨hrec, hbv, hsv⟩ := hh
      subst hbv
      subst hsv
      have hnum := recAt_num hq
      have hb : st < b ∧ b ≤ st + sz := by have := hNm.out; omega
      obtain ⟨fn, tmps, assign, body, hyy, hR⟩ := HY.out pre ⟨u3, l, b⟩ wr hJs.out ⟨hq, hrec⟩
      dsimp only [encJ] at hyy
      have HBb : Hid (st < b ∧ b ≤ st + sz ∧ numb st (pre ++ [⟨u3, l, b⟩]) = b) := ⟨hb.1, hb.2, numb_snoc st pre _⟩
      clear hrec hnum hb hHd hq
      gi_wp2
      refine ⟨wide_room _, hR.mono ?_⟩
      rintro e W3 ⟨hkf, (⟨rfl, hJ3, hk3⟩ | ⟨rfl, hJx3⟩)⟩
      · have hS3 := hSt.out.kj hk3
        have HC := rec_held hS3 b HB.out.1 HB.out.2.1 HB.out.2.2.1 HB.out.2.2.2.1 (by have := HBb.out; omega) HBb.out.2.1
        have k0 := hS3.k
        have HS3 : Hid (JSt W3 m nd d J Bk fr sz st dead) := hS3
        have HJ3 : Hid (Jp (pre ++ [⟨u3, l, b⟩]) W3) := hJ3
        have HZ3 : Hid (W.heap.size ≤ W3.heap.size) := Nat.le_trans hsz.out hkf.size
        clear hS3 hJ3 hk3 hkf hR hyy
        gi_wp2_with fail
        refine ⟨trivial, wide_room _, (callsIn_wide.2 HC).mono ?_⟩
        rintro e w4 ⟨rv4, bv4, sv4, rfl, hh4, b4⟩
        have B4 : Hid (Below W3.heap.size W3 w4) := b4
        have HH4 : Hid (Held w4 d fr sz st b rv4 bv4 sv4) := hh4
        clear b4 hh4 HC k0
        gi_wp2
        go_roundw
        case rel => exact ⟨pre ++ [⟨u3, l, b⟩], _, _, _, rfl, rfl, rfl, HJ.out _ _ _ HJ3.out B4.out, HS3.out.below B4.out, by rw [HBb.out.2.2]; exact HH4.out, by rw [HBb.out.2.2]; exact ⟨by have := HBb.out; omega, HBb.out.2.1⟩, Nat.le_trans HZ3.out B4.out.size⟩
        case measure =>
          have hh := HH4.out
          have e1 := HBb.out
          unfold Held at hh
          cases hq4 : recFrom d fr sz st b with
          | none =>
            rw [hq4] at hh
            have hsv : sv4 = .bool false := hh
            subst hsv
            simp [intOf, isT]
            omega
          | some y =>
            obtain ⟨l4, b4⟩ := y
            rw [hq4] at hh
            obtain ⟨_, hbv, hsv⟩ := hh
            subst hbv
            subst hsv
            have := recAt_num hq4
            simp [intOf, isT]
            omega
      · gi_wp2
        go_end0
        exact ⟨⟨_, rfl⟩, .inr ⟨_, trivial, hJx3⟩⟩
theorem standing1_seq (n : Nat) (m : DM) (nd : Nat) (d : DS) (J Bk fr sz st : Nat) (dead : Bool) (w : World) (hS : JSt w m nd d J Bk fr sz st dead) (h1 : 1 ≤ st) (h2 : st ≤ 2305843009213693952) (hz : 1 ≤ sz) (hs : fr + sz ≤ nd) :
    SeqU n Tryd.prog 67 #[.pointer (some ⟨Bk, 0, none⟩)] encJ (KJ m J Bk) (RJ d fr sz st) (fun xs => recFrom d fr sz st (numb st xs) = none) (fun _ => True) w := fun L Jp Jx W hW hJ _ hY h0 =>
  standing1_in n L m nd d J Bk fr sz st dead Jp Jx W hJ hY (hS.below hW) h1 h2 hz hs h0
end Go.Proofs.YtikpmaecbfebkaaDoor
