/- Package client: Pack. -/
import Derived.Test.YtmcippolnekogaaKForm
namespace Go.Proofs.Ytmcippolnekogaa
open Go.RowKit Cod
attribute [local go_sem] Oper.semAt_some
set_option linter.unusedVariables false

/-- A letter. -/
structure LetD where
  kind : Int
  n : Int
  group : Int
  op : OpD
  why : Int
  amount : Int
  rows : List (ByteArray × Int)
  body : List (BitVec 8)
structure LetD.ok (d : LetD) : Prop where
  kind : i64ok d.kind
  n : i64ok d.n
  group : i64ok d.group
  op : d.op.ok
  why : i64ok d.why
  amount : i64ok d.amount
  rows : ∀ r ∈ d.rows, i64ok r.2
def LetD.v (d : LetD) (ra : Option Addr) (rc : Nat) (ba : Option Addr) (bc : Nat) : LetV := ⟨d.kind, d.n, d.group, d.op, d.why, d.amount, ra, d.rows.length, rc, ba, d.body.length, bc⟩
/-- Its lists lie in memory. -/
structure LetAt (w : World) (d : LetD) (ra : Option Addr) (rc : Nat) (ba : Option Addr) (bc : Nat) : Prop where
  rows : RowsAt w ra d.rows.length d.rows
  body : Seen w ba d.body.length d.body
  nil : ba = none → bc = 0
theorem LetAt.below {w w' : World} {d : LetD} {ra : Option Addr} {rc : Nat} {ba : Option Addr} {bc : Nat} (h : LetAt w d ra rc ba bc) (b : Below w.heap.size w w') : LetAt w' d ra rc ba bc := ⟨h.rows.below b, h.body.below b, h.nil⟩
theorem rows_nil (w : World) : RowsAt w none 0 [] := ⟨rfl, by simp, .inl rfl⟩
theorem seen_none (w : World) : Seen w none 0 [] := ⟨rfl, by simp, .inl rfl⟩
/-- A letter without what does not count. -/
def LetD.just (d : LetD) : LetD :=
  if d.kind = 1 then { d with n := 0, group := 0, op := OpD.zero, why := 0, amount := 0, rows := [] }
  else if d.kind = 4 then { d with group := 0, op := OpD.zero, why := 0, amount := 0, rows := [] }
  else if d.kind = 5 then { d with op := OpD.zero, why := 0, amount := 0, rows := [] }
  else if d.kind = 2 then { d with group := 0, why := 0, amount := 0, rows := [], body := [] }
  else if d.kind = 3 then { d with group := 0, op := OpD.zero, body := [] }
  else d
def replyL (why amount : Int) (rows : List (ByteArray × Int)) : List (BitVec 8) := enc (zig why) ++ enc (zig amount) ++ enc rows.length ++ rowsB rows
def LetD.fits (d : LetD) : Bool :=
  if d.kind = 2 then shortL [d.op.src, d.op.dst, d.op.key]
  else if d.kind = 3 then decide (d.rows.length ≤ 600) && shortL (d.rows.map (·.1))
  else decide (d.body.length ≤ 65536)
def LetD.bytes (d : LetD) : List (BitVec 8) :=
  if d.kind = 2 then intsB [2, d.n] ++ d.op.bytes
  else if d.kind = 3 then intsB [3, d.n] ++ replyL d.why d.amount d.rows
  else if d.kind = 4 then intsB [4, d.n] ++ sz d.body
  else if d.kind = 5 then intsB [5, d.n, d.group] ++ sz d.body
  else intsB [1] ++ sz d.body
/-- What Pack answers. -/
def LetD.pack (d : LetD) : List (BitVec 8) × Int :=
  if d.kind < 1 ∨ 5 < d.kind then ([], 1)
  else if d.fits = false then ([], 3)
  else if 1048576 < d.bytes.length then ([], 3)
  else (d.bytes, 0)
theorem just_kind (d : LetD) : d.just.kind = d.kind := by unfold LetD.just; repeat' (first | rfl | split)
theorem just_v {w : World} {d : LetD} {ra : Option Addr} {rc : Nat} {ba : Option Addr} {bc : Nat} (h1 : 1 ≤ d.kind) (h5 : d.kind ≤ 5) (h : LetAt w d ra rc ba bc) : ∃ ra' rc' ba' bc', (d.v ra rc ba bc).just = d.just.v ra' rc' ba' bc' ∧ LetAt w d.just ra' rc' ba' bc' := by
  obtain ⟨kind, n, group, op, why, amount, rows, body⟩ := d
  simp only at h1 h5
  rcases kinds h1 h5 with rfl | rfl | rfl | rfl | rfl
  · exact ⟨none, 0, ba, bc, rfl, rows_nil w, h.body, h.nil⟩
  · exact ⟨none, 0, none, 0, rfl, rows_nil w, seen_none w, fun _ => rfl⟩
  · exact ⟨ra, rc, none, 0, rfl, h.rows, seen_none w, fun _ => rfl⟩
  · exact ⟨none, 0, ba, bc, rfl, rows_nil w, h.body, h.nil⟩
  · exact ⟨none, 0, ba, bc, rfl, rows_nil w, h.body, h.nil⟩
theorem size_zero : (⟨#[]⟩ : ByteArray).size = 0 := rfl
theorem just_fits {d : LetD} (h1 : 1 ≤ d.kind) (h5 : d.kind ≤ 5) (ra : Option Addr) (rc : Nat) (ba : Option Addr) (bc : Nat) : (d.just.v ra rc ba bc).fits d.just.rows = d.fits := by
  obtain ⟨kind, n, group, op, why, amount, rows, body⟩ := d
  simp only at h1 h5
  rcases kinds h1 h5 with rfl | rfl | rfl | rfl | rfl <;> simp [LetD.just, LetD.v, LetV.fits, LetD.fits, shortL, OpD.zero, size_zero]
theorem short_mem {ts : List ByteArray} (h : shortL ts = true) {s : ByteArray} (hs : s ∈ ts) : s.size ≤ 65536 := by
  simp only [shortL, List.all_eq_true, decide_eq_true_eq] at h
  exact h s hs
theorem rowsSize_short : ∀ {rows : List (ByteArray × Int)}, shortL (rows.map (·.1)) = true → rowsSize rows ≤ rows.length * 65556
  | [], _ => by simp [rowsSize]
  | r :: rest, h => by
    have ih := rowsSize_short (rows := rest) (by simp only [shortL, List.map_cons, List.all_cons, Bool.and_eq_true] at h; exact h.2)
    have := short_mem h (s := r.1) (by simp)
    simp only [rowsSize, List.map_cons, List.sum_cons, List.length_cons] at ih ⊢
    omega
/-- form, of whatever letter that fits. -/
theorem form_any {w : World} {d : LetD} {ra : Option Addr} {rc : Nat} {ba : Option Addr} {bc : Nat} (h1 : 1 ≤ d.kind) (h5 : d.kind ≤ 5) (hd : d.ok) (hf : d.fits = true) (h : LetAt w d.just ra rc ba bc) :
    Calls Try.prog 34 #[.agg (d.just.v ra rc ba bc).cells] w fun e w' => ∃ v, e = .returned v ∧ w'.ownsRow w.heap.size 5 1 v d.bytes.length (cellsOf d.bytes) ∧ Below w.heap.size w w' := by
  obtain ⟨kind, n, group, op, why, amount, rows, body⟩ := d
  obtain ⟨k1, k2, k3, k4, k5, k6, k7⟩ := hd
  simp only at h1 h5 k1 k2 k3 k4 k5 k6 k7
  rcases kinds h1 h5 with rfl | rfl | rfl | rfl | rfl
  · have hz : body.length ≤ 65536 := by simpa [LetD.fits] using hf
    exact form_raft 0 0 OpD.zero 0 0 ra 0 rc ba body.length bc w ⟨by decide, by decide⟩ ⟨by decide, by decide⟩ body h.body h.nil hz
  · have hf' : shortL [op.src, op.dst, op.key] = true := hf
    exact form_call n 0 op 0 0 ra 0 rc ba 0 bc w k2 ⟨by decide, by decide⟩ k4 (by
      have a := short_mem hf' (s := op.src) (by simp)
      have b := short_mem hf' (s := op.dst) (by simp)
      have c := short_mem hf' (s := op.key) (by simp)
      unfold OpD.size; omega)
  · have hf' : (decide (rows.length ≤ 600) && shortL (rows.map (·.1))) = true := hf
    rw [Bool.and_eq_true] at hf'
    have hl : rows.length ≤ 600 := by simpa using hf'.1
    have hs := rowsSize_short hf'.2
    exact form_told n 0 OpD.zero why amount ra rows.length rc ba 0 bc w k2 ⟨by decide, by decide⟩ rows k5 k6 k7 h.rows (by omega)
  · have hz : body.length ≤ 65536 := by simpa [LetD.fits] using hf
    exact form_ask n 0 OpD.zero 0 0 ra 0 rc ba body.length bc w k2 ⟨by decide, by decide⟩ body h.body h.nil hz
  · have hz : body.length ≤ 65536 := by simpa [LetD.fits] using hf
    exact form_answer n group OpD.zero 0 0 ra 0 rc ba body.length bc w k2 k3 body h.body h.nil hz
theorem pack_arg {d : LetD} (h : d.kind < 1 ∨ 5 < d.kind) : d.pack = ([], 1) := if_pos h
theorem pack_fits {d : LetD} (h : ¬ (d.kind < 1 ∨ 5 < d.kind)) (hf : d.fits = false) : d.pack = ([], 3) := by rw [LetD.pack, if_neg h, if_pos hf]
theorem pack_size {d : LetD} (h : ¬ (d.kind < 1 ∨ 5 < d.kind)) (hf : d.fits = true) (hb : 1048576 < d.bytes.length) : d.pack = ([], 3) := by rw [LetD.pack, if_neg h, if_neg (by simp [hf]), if_pos hb]
theorem pack_ok {d : LetD} (h : ¬ (d.kind < 1 ∨ 5 < d.kind)) (hf : d.fits = true) (hb : ¬ 1048576 < d.bytes.length) : d.pack = (d.bytes, 0) := by rw [LetD.pack, if_neg h, if_neg (by simp [hf]), if_neg hb]
theorem owns_none (w : World) (base : Nat) : w.ownsRow base 5 1 (.slice none 0 0) 0 (cellsOf []) := ⟨rfl, .inl ⟨rfl, rfl⟩⟩
theorem row_form' {w : World} {base n : Nat} {v : Value} {xs : List Value} {t : TypeId} {s : Nat} (h : w.ownsRow base t s v n xs) : ∃ a c, v = .slice a n c ∧ (a = none → c = 0) ∧ n ≤ c := by
  rcases h.2 with ⟨rfl, rfl⟩ | ⟨g, c, cur, rfl, hb, hg, hnc, hcm, hcs, ht⟩
  · exact ⟨none, 0, rfl, fun _ => rfl, Nat.le_refl _⟩
  · exact ⟨_, c, rfl, fun e => (by cases e), hnc⟩
theorem v_cells (x : LetV) : ∃ C : List Value, x.cells = C.toArray ∧ C.length = 14 ∧ C[0]? = some (.int .i64 x.kind) ∧ C.toArray.all (·.oneCell') = true := ⟨_, rfl, rfl, rfl, by simp [Value.oneCell']⟩
set_option maxRecDepth 100000 in
set_option maxHeartbeats 1600000 in
/-- WHAT Pack DOES. -/
theorem pack_any {w : World} {d : LetD} {ra : Option Addr} {rc : Nat} {ba : Option Addr} {bc : Nat} (hd : d.ok) (h : LetAt w d ra rc ba bc) :
    Calls Try.prog 8 #[.agg (d.v ra rc ba bc).cells] w fun e w' => ∃ v, e = .returned (.tuple #[v, .int .i64 d.pack.2]) ∧ w'.ownsRow w.heap.size 5 1 v d.pack.1.length (cellsOf d.pack.1) ∧ Below w.heap.size w w' := by
  obtain ⟨C, eC, lC, c0, aC⟩ := v_cells (d.v ra rc ba bc)
  have HC : Hid _ := eC
  have bA := (Below.refl _ w).alloc (Nat.le_refl _) (.cells C.toArray 31)
  have hh := heap_alloc_new w (.cells C.toArray 31)
  have k0 : (w.alloc (.cells C.toArray 31)).cell? ⟨w.heap.size, 0, none⟩ = some (.int .i64 d.kind) := by
    rw [World.cell?_alloc_mark]; simpa [LetD.v] using c0
  have BA : Hid _ := bA
  have HH : Hid _ := hh
  have HZ : Hid ((Try.prog.info? 31).map (·.size) = some C.toArray.size) := by
    have e : (Try.prog.info? 31).map (·.size) = some 14 := by kernel_rfl
    show _ = _
    rw [e, List.size_toArray, lC]
  rw [eC]
  by_cases ha : d.kind < 1 ∨ 5 < d.kind
  · have HP : Hid _ := pack_arg ha
    rcases ha with ha | ha
    · clear eC lC c0 aC bA hh hd h
      go_enter Try.func8, Try.ntmps8
      go_wp2
      go_ret2
      exact ⟨_, by rw [HP.out]; rfl, by rw [HP.out]; exact owns_none _ _, BA.out⟩
    · have ha' : ¬ d.kind < 1 := by omega
      clear eC lC c0 aC bA hh hd h
      go_enter Try.func8, Try.ntmps8
      go_wp2
      go_ret2
      exact ⟨_, by rw [HP.out]; rfl, by rw [HP.out]; exact owns_none _ _, BA.out⟩
  · have h1 : 1 ≤ d.kind := by omega
    have h5 : d.kind ≤ 5 := by omega
    have n1 : ¬ d.kind < 1 := by omega
    have n5 : ¬ 5 < d.kind := by omega
    obtain ⟨ra', rc', ba', bc', ej, hj⟩ := just_v h1 h5 h
    obtain ⟨D, eD, lD, d0, aD⟩ := v_cells (d.just.v ra' rc' ba' bc')
    have C38 := counting_any (d.v ra rc ba bc) h1 h5 (w.alloc (.cells C.toArray 31))
    rw [ej, eC, eD] at C38
    have HJ : Hid (LetAt w d.just ra' rc' ba' bc') := hj
    have HA : Hid (¬ (d.kind < 1 ∨ 5 < d.kind)) := ha
    have H1 : Hid (1 ≤ d.kind) := h1
    have H5 : Hid (d.kind ≤ 5) := h5
    have HD : Hid d.ok := hd
    have ED : Hid (LetV.cells _ = D.toArray) := eD
    have HS : Hid (C.toArray.size = D.toArray.size) := by show _ = _; rw [List.size_toArray, List.size_toArray, lC, lD]
    have HZD : Hid ((Try.prog.info? 31).map (·.size) = some D.toArray.size) := by show _ = _; rw [← HS.out]; exact HZ.out
    have AD : Hid _ := aD
    clear eC lC c0 aC bA hh hd h h1 h5 ej hj eD lD d0 aD ha
    go_enter Try.func8, Try.ntmps8
    go_wp2_with (refine wpList_load_row rfl 31 (.tmp 1) rfl w.heap.size rfl 31 C.toArray (0, 0) _ HH.out Try.underlying31 rfl HZ.out ?_)
    refine C38.mono ?_
    rintro e w2 ⟨rfl, b2⟩
    have hb2 : w2.heap[w.heap.size]? = some (.cells C.toArray 31 (0, 0)) := (b2.block _ (by simp)).trans HH.out
    have HB2 : Hid _ := hb2
    have B2 : Hid (Below w.heap.size w w2) := BA.out.trans (b2.mono BA.out.size)
    have lt2 : w.heap.size < w2.heap.size := (Array.getElem?_eq_some_iff.1 hb2).1
    have B3 : Hid (Below w.heap.size w (w2.setRow w.heap.size D.toArray)) := ⟨B2.out.os, B2.out.tape, B2.out.output, by simpa [World.setRow] using B2.out.size, fun k hk => (setRow_other _ _ _ _ (by omega)).trans (B2.out.block k hk)⟩
    have S3 : Hid ((w2.setRow w.heap.size D.toArray).heap[w.heap.size]? = some (.cells D.toArray 31 (0, 0))) := setRow_heap w2 _ _ _ _ _ hb2
    clear C38 k0 hb2 b2 lt2
    obtain ⟨w3, e3⟩ : ∃ w3, w2.setRow w.heap.size D.toArray = w3 := ⟨_, rfl⟩
    rw [e3] at B3 S3
    have E3 : Hid (w2.setRow w.heap.size D.toArray = w3) := e3
    clear e3
    have C39 := fits_any (d.just.v ra' rc' ba' bc') d.just.rows w3 (HJ.out.below B3.out).rows
    rw [just_fits H1.out H5.out, ED.out] at C39
    go_wp2_with (first
      | (refine wpList_store_row rfl 31 (.tmp 1) (.tmp 14) rfl w.heap.size D.toArray rfl rfl 31 _ HB2.out HZD.out HS.out AD.out ?_; rw [E3.out])
      | (refine wpList_load_row rfl 31 (.tmp 1) rfl w.heap.size rfl 31 D.toArray (0, 0) _ S3.out Try.underlying31 rfl HZD.out ?_))
    refine C39.mono ?_
    rintro e w4 ⟨rfl, b4⟩
    have B4 : Hid (Below w.heap.size w w4) := B3.out.trans (b4.mono B3.out.size)
    have S4 : Hid (w4.heap[w.heap.size]? = some (.cells D.toArray 31 (0, 0))) := (b4.block _ (Array.getElem?_eq_some_iff.1 S3.out).1).trans S3.out
    clear C39 b4 E3 HB2
    cases hf : d.fits with
    | false =>
      have HP : Hid _ := pack_fits HA.out hf
      clear hf
      go_wp2
      go_ret2
      exact ⟨_, by rw [HP.out]; rfl, by rw [HP.out]; exact owns_none _ _, B4.out⟩
    | true =>
      have C40 := form_any H1.out H5.out HD.out hf (HJ.out.below B4.out)
      rw [ED.out] at C40
      have HF : Hid (d.fits = true) := hf
      clear hf
      go_wp2_with (refine wpList_load_row rfl 31 (.tmp 1) rfl w.heap.size rfl 31 D.toArray (0, 0) _ S4.out Try.underlying31 rfl HZD.out ?_)
      refine C40.mono ?_
      rintro e w5 ⟨v5, rfl, o5, b5⟩
      have B5 : Hid (Below w.heap.size w w5) := B4.out.trans (b5.mono B4.out.size)
      obtain ⟨a5, c5, rfl, hnil5, _⟩ := row_form' o5
      have O5 : Hid (w5.ownsRow w.heap.size 5 1 (.slice a5 d.bytes.length c5) d.bytes.length (cellsOf d.bytes)) := owns_mono' o5 B4.out.size
      clear o5 b5 C40 S4 S3
      by_cases hb : 1048576 < d.bytes.length
      · have HP : Hid _ := pack_size HA.out HF.out hb
        have hb' : (1048576 : Int) < (d.bytes.length : Int) := by omega
        clear hb
        go_wp2
        go_ret2
        exact ⟨_, by rw [HP.out]; rfl, by rw [HP.out]; exact owns_none _ _, B5.out⟩
      · have HP : Hid _ := pack_ok HA.out HF.out hb
        have hb' : ¬ (1048576 : Int) < (d.bytes.length : Int) := by omega
        clear hb
        go_wp2
        go_ret2
        exact ⟨_, by rw [HP.out]; rfl, by rw [HP.out]; exact O5.out, B5.out⟩
end Go.Proofs.Ytmcippolnekogaa
