/- Package txn: the function that Asks answers, as an iterator. -/
import Derived.Test.YtbilnleglnbnlaaXOth
import Derived.Test.YtbilnleglnbnlaaXReg
namespace Go.Proofs.Ytbilnleglnbnlaa
open Go.RowKit Go.Shelf
attribute [local go_sem] Oper.semAt_some
set_option linter.unusedVariables false

/-- All that is asked. -/
def askOf (t : TxnD) (g : Int) : AskV := (g, wantC t)
def asksL (me sh : Int) (ts : List TxnD) : List AskV := ts.flatMap fun t => (othersL me sh).map (askOf t)
theorem asksL_snoc (me sh : Int) (ts : List TxnD) (t : TxnD) : asksL me sh (ts ++ [t]) = asksL me sh ts ++ (othersL me sh).map (askOf t) := by simp [asksL]
theorem upto_len (me : Int) : ∀ k, (upto me k).length ≤ k
  | 0 => by simp [upto]
  | k + 1 => by
    have := upto_len me k
    simp only [upto]
    split
    · omega
    · simp; omega
theorem othersL_len (me sh : Int) : (othersL me sh).length ≤ 3 := by
  unfold othersL
  split
  · simp
  · have := upto_len me sh.toNat; omega
theorem asksL_len (me sh : Int) : ∀ ts : List TxnD, (asksL me sh ts).length ≤ 3 * ts.length
  | [] => by simp [asksL]
  | t :: ts => by
    have h := asksL_len me sh ts
    have h2 := othersL_len me sh
    simp only [asksL, List.flatMap_cons, List.length_append, List.length_map, List.length_cons] at h ⊢
    omega
abbrev encA (x : AskV) : Array Value := #[.agg (AskV.cells x).toArray]
def RA (pre : List AskV) (x : AskV) (_ : World) : Prop := pre.length ≤ 4000 ∧ x.2.data = .slice none 0 0
theorem want_data (t : TxnD) : (wantC t).data = .slice none 0 0 := by
  unfold wantC
  split <;> rfl
/-- The mark of a range over a function. -/
def mark (D : Nat) : Deferred := { target := .collected D, args := #[] }
theorem leaves_marks {n : Nat} {P : Program} {fn : Func} {tmps : Array Value} {R : Ending → World → Prop} (hfn : fn.results = #[]) (B : Nat) (C : World → Prop) (hC : ∀ w, C w → R (.returned (.tuple #[])) w)
    (hput : ∀ (w : World) (D : Nat) (o o' : Obj), B ≤ D → C w → w.heap[D]? = some o → o.isCells = false → C (w.putObj D o')) :
    ∀ (Ds : List Nat) (w : World), Ds.Nodup → (∀ D ∈ Ds, B ≤ D ∧ w.heap[D]? = some (.deferred (some []))) → C w → LeavesInM Fence.wide n P fn tmps R (Ds.map mark) .returning w
  | [], w, _, _, hc => ⟨_, results_none hfn _ _ _, hC w hc⟩
  | D :: Ds, w, hn, hd, hc => by
    have h1 := hd D (by simp)
    have hn' := List.nodup_cons.1 hn
    refine ⟨by simp, .inl ⟨D, _, rfl, run_takeDeferred h1.2, ?_⟩⟩
    refine leaves_marks hfn B C hC hput Ds _ hn'.2 (fun D' hD' => ⟨(hd D' (by simp [hD'])).1, ?_⟩) (hput w D _ _ h1.1 hc h1.2 rfl)
    rw [World.putObj_heap_other (fun e => hn'.1 (by rw [← e]; exact hD'))]
    exact (hd D' (by simp [hD'])).2
/-- What Asks' function reads. -/
structure AB (X : World) (L Y Bk Bm Bs base : Nat) (a : Option Addr) (c : Nat) (ts : List TxnD) (me sh : Int) : Prop where
  y : X.heap[Y]? = some (.cells #[.func (.yield L) #[] #[]] 65 (0, 0))
  k : X.heap[Bk]? = some (.cells #[.slice a ts.length c] 37 (0, 0))
  m : X.heap[Bm]? = some (.cells #[.int .i64 me] 3 (0, 0))
  s : X.heap[Bs]? = some (.cells #[.int .i64 sh] 3 (0, 0))
  row : X.ownsRow base 40 7 (.slice a ts.length c) ts.length (flat TxnD.cells ts)
theorem row_keepX {X Z : World} {base n : Nat} {v : Value} {xs : List Value} (h : X.ownsRow base 40 7 v n xs) (k : KeepX X Z) : Z.ownsRow base 40 7 v n xs :=
  owns_kept h (fun g e => by
    obtain ⟨_, _, cur, hc⟩ := row_kind h e
    rw [hc]
    exact k _ _ _ _ hc (by decide) (by decide))
theorem AB.kx {X Z : World} {L Y Bk Bm Bs base : Nat} {a : Option Addr} {c : Nat} {ts : List TxnD} {me sh : Int} (h : AB X L Y Bk Bm Bs base a c ts me sh) (k : KeepX X Z) : AB Z L Y Bk Bm Bs base a c ts me sh :=
  ⟨k _ _ _ _ h.y (by decide) (by decide), k _ _ _ _ h.k (by decide) (by decide), k _ _ _ _ h.m (by decide) (by decide), k _ _ _ _ h.s (by decide) (by decide), row_keepX h.row k⟩
/-- The marks stand. -/
def Marks (B : Nat) (Ds : List Nat) (X : World) : Prop := Ds.Nodup ∧ ∀ D ∈ Ds, B ≤ D ∧ X.heap[D]? = some (.deferred (some []))
theorem Marks.kf {B : Nat} {Ds : List Nat} {X Z : World} (h : Marks B Ds X) (k : KeepsFrom B X Z) : Marks B Ds Z := ⟨h.1, fun D hD => ⟨(h.2 D hD).1, k.same D _ (h.2 D hD).1 (h.2 D hD).2 rfl⟩⟩
theorem Marks.below {B : Nat} {Ds : List Nat} {X Z : World} (h : Marks B Ds X) (b : Below X.heap.size X Z) : Marks B Ds Z := ⟨h.1, fun D hD => ⟨(h.2 D hD).1, (b.block D (Array.getElem?_eq_some_iff.1 (h.2 D hD).2).1).trans (h.2 D hD).2⟩⟩
theorem Marks.put {B : Nat} {Ds : List Nat} {X : World} (h : Marks B Ds X) {l : Nat} (o : Obj) (hl : ∀ D ∈ Ds, D < l) : Marks B Ds (X.putObj l o) := ⟨h.1, fun D hD => ⟨(h.2 D hD).1, (World.putObj_heap_other (by have := hl D hD; omega)).trans (h.2 D hD).2⟩⟩
theorem Marks.lt {B : Nat} {Ds : List Nat} {X : World} (h : Marks B Ds X) : ∀ D ∈ Ds, D < X.heap.size := fun D hD => (Array.getElem?_eq_some_iff.1 (h.2 D hD).2).1
theorem wpIn_scope_wide {n : Nat} {P : Program} {c : Code} {Q : Exit → Act → World → Prop} {a : Act} {w : World} (h : c.wpIn Fence.wide n P (Exit.noGoto Q) a w) : (Code.scope c).wpIn Fence.wide n P Q a w :=
  wpIn_wide.2 (wp_scope_straight (wpIn_wide.1 h))
theorem kf_of_below {B : Nat} {W W' : World} (h : Below W.heap.size W W') : KeepsFrom B W W' := ⟨h.size, fun k o _ ho _ => (h.block k (Array.getElem?_eq_some_iff.1 ho).1).trans ho⟩
theorem kf_more {B B' : Nat} {W W' : World} (h : KeepsFrom B W W') (hB : B ≤ B') : KeepsFrom B' W W' := ⟨h.size, fun k o hk ho hc => h.same k o (Nat.le_trans hB hk) ho hc⟩

set_option maxRecDepth 100000 in
set_option maxHeartbeats 4000000 in
theorem asks1_in (n L Bk Bm Bs base c : Nat) (a : Option Addr) (ts : List TxnD) (me sh : Int) (J Jx : List AskV → World → Prop) (W : World) (hJ : UpB J) (hJx : UpB Jx) (pJ : PutB W.heap.size J) (pJx : PutB W.heap.size Jx)
    (hY : ∀ pre x W1, J pre W1 → RA pre x W1 → YieldAt Fence.wide (n - 1) Try.prog L (encA x) W1 fun e W' => KeepsFrom W.heap.size W1 W' ∧
      ((e = .returned (.bool true) ∧ J (pre ++ [x]) W' ∧ KeepX W1 W') ∨ (e = .returned (.bool false) ∧ Jx (pre ++ [x]) W')))
    (hk : W.heap[Bk]? = some (.cells #[.slice a ts.length c] 37 (0, 0))) (hm : W.heap[Bm]? = some (.cells #[.int .i64 me] 3 (0, 0))) (hs : W.heap[Bs]? = some (.cells #[.int .i64 sh] 3 (0, 0)))
    (hrow : W.ownsRow base 40 7 (.slice a ts.length c) ts.length (flat TxnD.cells ts)) (hlen : ts.length ≤ 1000) (h0 : J [] W) :
    CallsIn Fence.wide n Try.prog 18 #[.func (.yield L) #[] #[], .pointer (some ⟨Bk, 0, none⟩), .pointer (some ⟨Bm, 0, none⟩), .pointer (some ⟨Bs, 0, none⟩)] W fun e W' => (∃ v, e = .returned v) ∧
      ((∃ xs, xs = asksL me sh ts ∧ J xs W') ∨ (∃ pre, True ∧ Jx pre W')) := by
  refine callsIn_of_wp_marks Try.func18 rfl trivial ?_ rfl
  simp only [Try.ntmps18, List.size_toArray, List.length_cons, List.length_nil, Nat.reduceAdd, Nat.reduceSub, Array.replicate_succ, Array.replicate_zero, List.push_toArray, List.append_toArray, List.nil_append, List.cons_append]
  have HY : Hid (∀ pre x W1, J pre W1 → RA pre x W1 → YieldAt Fence.wide (n - 1) Try.prog L (encA x) W1 fun e W' => KeepsFrom W.heap.size W1 W' ∧
      ((e = .returned (.bool true) ∧ J (pre ++ [x]) W' ∧ KeepX W1 W') ∨ (e = .returned (.bool false) ∧ Jx (pre ++ [x]) W'))) := hY
  have HJ : Hid (UpB J) := hJ
  have HJx : Hid (UpB Jx) := hJx
  have PJ : Hid (PutB W.heap.size J) := pJ
  have PJx : Hid (PutB W.heap.size Jx) := pJx
  have HL : Hid (ts.length ≤ 1000) := hlen
  have bV : Below W.heap.size W (W.alloc (.cells #[.func (.yield L) #[] #[]] 65)) := (Below.refl _ W).alloc (Nat.le_refl _) _
  have H0 : Hid (J [] (W.alloc (.cells #[.func (.yield L) #[] #[]] 65))) := hJ _ _ _ h0 bV
  have HA : Hid (AB (W.alloc (.cells #[.func (.yield L) #[] #[]] 65)) L W.heap.size Bk Bm Bs base a c ts me sh) :=
    ⟨heap_alloc_new W _, (bV.block _ (Array.getElem?_eq_some_iff.1 hk).1).trans hk, (bV.block _ (Array.getElem?_eq_some_iff.1 hm).1).trans hm, (bV.block _ (Array.getElem?_eq_some_iff.1 hs).1).trans hs, owns_kept hrow (fun g e => bV.block g (row_kind hrow e).2.1)⟩
  have HSz : Hid (W.heap.size ≤ (W.alloc (.cells #[.func (.yield L) #[] #[]] 65)).heap.size) := bV.size
  have ck : (W.alloc (.cells #[.func (.yield L) #[] #[]] 65)).cell? ⟨Bk, 0, none⟩ = some (.slice a ts.length c) := by simp only [World.cell?, HA.out.k]; rfl
  obtain ⟨m, em⟩ : ∃ m, ts.length = m := ⟨_, rfl⟩
  have EM : Hid (ts.length = m) := em
  rw [em] at ck
  clear hY hJ hJx pJ pJx hk hm hs hrow hlen h0 bV em
  gi_wp2_with fail
  refine wpIn_scope_wide ?_
  gi_wp2_with fail
  refine wpIn_label ?_
  gi_wp2_with fail
  clear ck
  generalize W.alloc (.cells #[.func (.yield L) #[] #[]] 65) = W1 at *
  refine wpIn_loop (fun a' w' => ∃ (k : Nat) (Ds : List Nat) (u6 u7 u11 u12 u13 u14 u15 u16 u17 u18 u19 u20 u21 u22 u23 u24 u25 : Value), k ≤ m ∧
      a' = { tmps := #[.func (.yield L) #[] #[], .pointer (some ⟨Bk, 0, none⟩), .pointer (some ⟨Bm, 0, none⟩), .pointer (some ⟨Bs, 0, none⟩), .pointer (some ⟨W.heap.size, 0, none⟩), undef, u6, u7, .slice a m c, .int .i64 (m : Int), .int .i64 (k : Int), u11, u12, u13, u14, u15, u16, u17, u18, u19, u20, u21, u22, u23, u24, u25], defers := Ds.map mark } ∧
      Hid (J (asksL me sh (ts.take k)) w') ∧ Hid (AB w' L W.heap.size Bk Bm Bs base a c ts me sh) ∧ Hid (Marks W.heap.size Ds w') ∧ Hid (W.heap.size ≤ w'.heap.size))
    (fun a' _ => m - (intOf (a'.tmps.getD 10 undef)).toNat) ?start ?round
  case start => exact ⟨0, [], _, _, _, _, _, _, _, _, _, _, _, _, _, _, _, _, _, Nat.zero_le _, rfl, H0, HA, ⟨List.nodup_nil, fun D hD => by cases hD⟩, HSz⟩
  case round =>
    rintro _ wr ⟨k, Ds, u6, u7, u11, u12, u13, u14, u15, u16, u17, u18, u19, u20, u21, u22, u23, u24, u25, hk, rfl, HJr, HAr, HMr, HSr⟩
    clear H0 HA HSz
    by_cases hlt : k < m
    · have hk2 : k < ts.length := by rw [EM.out]; exact hlt
      obtain ⟨a2, c2, e2, hat, _⟩ := recs_owned TxnD.cells7 HAr.out.row rfl
      cases e2
      obtain ⟨b, off, rfl, hc⟩ := hat.at hk2
      clear hat
      have HT : Hid (ts.take (k + 1) = ts.take k ++ [ts[k]'hk2]) := List.take_succ_eq_append_getElem hk2
      generalize ts[k]'hk2 = t at hc HT
      have y0 := hc 0 _ rfl
      have y1 := hc 1 _ rfl
      have y2 := hc 2 _ rfl
      have y3 := hc 3 _ rfl
      have y4 := hc 4 _ rfl
      have y5 := hc 5 _ rfl
      have y6 := hc 6 _ rfl
      clear hc
      obtain ⟨tid, tfr, tky, tto, tn, td, tw⟩ := t
      simp only [Nat.add_zero] at y0 y1 y2 y3 y4 y5 y6
      obtain ⟨V0, eV0⟩ : ∃ V0, wr.alloc (.cells #[.string tid, .string tfr, .string tky, .string tto, .int .i64 tn, .bool td, .int .i64 tw] 40) = V0 := ⟨_, rfl⟩
      have bV0 : Below wr.heap.size wr V0 := by rw [← eV0]; exact (Below.refl _ wr).alloc (Nat.le_refl _) _
      have sV0 : V0.heap.size = wr.heap.size + 1 := by rw [← eV0]; simp
      have hV0 : V0.heap[wr.heap.size]? = some (.cells #[.string tid, .string tfr, .string tky, .string tto, .int .i64 tn, .bool td, .int .i64 tw] 40 (0, 0)) := by rw [← eV0]; exact heap_alloc_new wr _
      have cm : (wr.alloc (.cells #[.string tid, .string tfr, .string tky, .string tto, .int .i64 tn, .bool td, .int .i64 tw] 40)).cell? ⟨Bm, 0, none⟩ = some (.int .i64 me) := by
        have := (HAr.out.kx (KeepX.of_below bV0)).m
        rw [eV0]
        simp only [World.cell?, this]; rfl
      have cs : (wr.alloc (.cells #[.string tid, .string tfr, .string tky, .string tto, .int .i64 tn, .bool td, .int .i64 tw] 40)).cell? ⟨Bs, 0, none⟩ = some (.int .i64 sh) := by
        have := (HAr.out.kx (KeepX.of_below bV0)).s
        rw [eV0]
        simp only [World.cell?, this]; rfl
      have EV : Hid (wr.alloc (.cells #[.string tid, .string tfr, .string tky, .string tto, .int .i64 tn, .bool td, .int .i64 tw] 40) = V0) := eV0
      have BV : Hid (Below wr.heap.size wr V0) := bV0
      have SV : Hid (V0.heap.size = wr.heap.size + 1) := sV0
      have HV : Hid (V0.heap[wr.heap.size]? = some (.cells #[.string tid, .string tfr, .string tky, .string tto, .int .i64 tn, .bool td, .int .i64 tw] 40 (0, 0))) := hV0
      clear eV0 bV0 sV0 hV0 hk2
      gi_wp2_with fail
      refine ⟨trivial, wide_room _, (callsIn_wide.2 (others_any me sh _)).mono ?_⟩
      rintro e w1 ⟨rfl, rfl⟩
      clear cm cs y0 y1 y2 y3 y4 y5 y6
      rw [EV.out]
      clear EV
      gi_wp2_with fail
      rw [show V0.heap.size + 1 = wr.heap.size + 2 by rw [SV.out], SV.out]
      have bV : Below V0.heap.size V0 ((V0.alloc (.cells #[.int .i64 me] 3)).alloc (.cells #[.int .i64 sh] 3)) := ((Below.refl _ V0).alloc (Nat.le_refl _) _).alloc (by simp) _
      have B2 : Hid (Below wr.heap.size wr ((V0.alloc (.cells #[.int .i64 me] 3)).alloc (.cells #[.int .i64 sh] 3))) := BV.out.trans (bV.mono BV.out.size)
      have qm : Hid (((V0.alloc (.cells #[.int .i64 me] 3)).alloc (.cells #[.int .i64 sh] 3)).heap[wr.heap.size + 1]? = some (.cells #[.int .i64 me] 3 (0, 0))) := by
        show _ = _
        rw [← SV.out, Below.heap_alloc _ _ _ (by simp), heap_alloc_new]
      have qs : Hid (((V0.alloc (.cells #[.int .i64 me] 3)).alloc (.cells #[.int .i64 sh] 3)).heap[wr.heap.size + 2]? = some (.cells #[.int .i64 sh] 3 (0, 0))) := by
        show _ = _
        have := heap_two V0 (.cells #[.int .i64 me] 3) (.cells #[.int .i64 sh] 3)
        rw [SV.out] at this
        exact this
      have q6 : Hid (((V0.alloc (.cells #[.int .i64 me] 3)).alloc (.cells #[.int .i64 sh] 3)).heap[wr.heap.size]? = some (.cells #[.string tid, .string tfr, .string tky, .string tto, .int .i64 tn, .bool td, .int .i64 tw] 40 (0, 0))) := (bV.block _ (by rw [SV.out]; omega)).trans HV.out
      have sV : Hid (((V0.alloc (.cells #[.int .i64 me] 3)).alloc (.cells #[.int .i64 sh] 3)).heap.size = wr.heap.size + 3) := by show _ = _; simp [SV.out]
      generalize (V0.alloc (.cells #[.int .i64 me] 3)).alloc (.cells #[.int .i64 sh] 3) = V at *
      clear bV BV SV HV
      have HPL : Hid ((asksL me sh (ts.take k)).length ≤ 3000) := by
        show _ ≤ _
        have h1 := asksL_len me sh (ts.take k)
        rw [List.length_take] at h1
        have := HL.out
        omega
      refine range_V (n := n) (gf := 21) (lb := #[.pointer (some ⟨wr.heap.size + 2, 0, none⟩), .pointer (some ⟨wr.heap.size + 1, 0, none⟩)]) (w0 := V) rfl (enters_of Try.func21 (by kernel_rfl) rfl)
        (others1_seq (n - 1) (wr.heap.size + 2) (wr.heap.size + 1) me sh V qs.out qm.out) KeepX.tr KeepX.bk (Below.refl _ _) (fun _ => rfl)
        (fun pre' X => J (asksL me sh (ts.take k) ++ pre'.map (askOf ⟨tid, tfr, tky, tto, tn, td, tw⟩)) X ∧ AB X L W.heap.size Bk Bm Bs base (some ⟨b, off, none⟩) c ts me sh ∧ Marks W.heap.size Ds X ∧ X.heap[wr.heap.size]? = some (.cells #[.string tid, .string tfr, .string tky, .string tto, .int .i64 tn, .bool td, .int .i64 tw] 40 (0, 0)))
        (fun c' pre' X => c' = .exit 0 ∧ (∃ pre, Jx pre X) ∧ Marks W.heap.size Ds X)
        ?hI ?hIx ?hIp ?hIxp ⟨by simpa using HJ.out _ _ _ HJr.out B2.out, HAr.out.kx (KeepX.of_below B2.out), HMr.out.below B2.out, q6.out⟩
        (fun pre' x a' X => RO me sh pre' x X ∧ a' = { tmps := #[.func (.yield L) #[] #[], .pointer (some ⟨Bk, 0, none⟩), .pointer (some ⟨Bm, 0, none⟩), .pointer (some ⟨Bs, 0, none⟩), .pointer (some ⟨W.heap.size, 0, none⟩), undef, .pointer (some ⟨wr.heap.size, 0, none⟩), .int .i64 x, .slice (some ⟨b, off, none⟩) m c, .int .i64 (m : Int), .int .i64 (k : Int), .bool true, .pointer (some ⟨b, off + k * 7, none⟩), .agg #[.string tid, .string tfr, .string tky, .string tto, .int .i64 tn, .bool td, .int .i64 tw], .int .i64 me, .int .i64 sh, .func (.func 21) #[] #[.pointer (some ⟨wr.heap.size + 2, 0, none⟩), .pointer (some ⟨wr.heap.size + 1, 0, none⟩)], .int .i64 x, u18, u19, u20, u21, u22, u23, u24, u25], defers := [] })
        ?hAx ?assign ?body ?done ?stop
      case hI =>
        rintro pre' X Z ⟨h1, h2, h3, h4⟩ hb
        exact ⟨HJ.out _ _ _ h1 hb, h2.kx (KeepX.of_below hb), h3.below hb, (hb.block _ (Array.getElem?_eq_some_iff.1 h4).1).trans h4⟩
      case hIx =>
        rintro c' pre' X Z ⟨h1, ⟨pre, h2⟩, h3⟩ hb
        exact ⟨h1, ⟨pre, HJx.out _ _ _ h2 hb⟩, h3.below hb⟩
      case hIp =>
        rintro pre' X l o o' hl ⟨h1, h2, h3, h4⟩ ho hcl
        have hlD : ∀ D ∈ Ds, D < l := fun D hD => by have := HMr.out.lt D hD; have := sV.out; omega
        exact ⟨PJ.out _ _ _ _ _ (by have := HSr.out; have := sV.out; omega) h1 ho hcl, h2.kx (KeepX.bk _ _ _ _ ho hcl), h3.put o' hlD, (World.putObj_heap_other (by have := sV.out; omega)).trans h4⟩
      case hIxp =>
        rintro c' pre' X l o o' hl ⟨h1, ⟨pre, h2⟩, h3⟩ ho hcl
        have hlD : ∀ D ∈ Ds, D < l := fun D hD => by have := HMr.out.lt D hD; have := sV.out; omega
        exact ⟨h1, ⟨pre, PJx.out _ _ _ _ _ (by have := HSr.out; have := sV.out; omega) h2 ho hcl⟩, h3.put o' hlD⟩
      case hAx =>
        rintro pre' x a' _ X Z row ⟨h1, h2⟩ hg hrow
        exact ⟨h1, h2⟩
      case assign =>
        rintro l' pre' x X K hi hr hK
        have HKK : Hid _ := hK
        have HI : Hid _ := hi
        have HR : Hid (RO me sh pre' x X) := hr
        clear hK hi hr
        gi_wp2
        exact HKK.out _ _ (KeepsFrom.refl _ _) (KeepX.refl _) HI.out ⟨HR.out, rfl⟩
      case body =>
        rintro l' pre' x a' X ⟨h1, h2, h3, h4⟩ ⟨hr, rfl⟩
        have cy : X.cell? ⟨W.heap.size, 0, none⟩ = some (.func (.yield L) #[] #[]) := by simp only [World.cell?, h2.y]; rfl
        have H1 : Hid _ := h1
        have H2 : Hid (AB X L W.heap.size Bk Bm Bs base (some ⟨b, off, none⟩) c ts me sh) := h2
        have H3 : Hid (Marks W.heap.size Ds X) := h3
        have H4 : Hid (X.heap[wr.heap.size]? = some (.cells #[.string tid, .string tfr, .string tky, .string tto, .int .i64 tn, .bool td, .int .i64 tw] 40 (0, 0))) := h4
        have HRl : Hid (pre'.length ≤ 3) := by
          obtain ⟨k', e1, e2, e3, e4, e5⟩ := hr
          show _ ≤ _
          have := upto_len me k'
          rw [e2]
          omega
        clear h1 h2 h3 h4 hr
        gi_wp2_with fail
        refine round_any l' (by kernel_rfl) (by kernel_rfl) ?_
        refine ask_region (n - 1 - 1) L W.heap.size wr.heap.size _ _ _ _ _ _ _ _ _ _ _ _ _ _ _ _ _ _ _ _ _ _ _ x ⟨tid, tfr, tky, tto, tn, td, tw⟩ X cy H4.out
          (fun e W' => KeepsFrom W.heap.size X W' ∧ ((e = .returned (.bool true) ∧ J (asksL me sh (ts.take k) ++ pre'.map (askOf ⟨tid, tfr, tky, tto, tn, td, tw⟩) ++ [askOf ⟨tid, tfr, tky, tto, tn, td, tw⟩ x]) W' ∧ KeepX X W') ∨ (e = .returned (.bool false) ∧ ∃ pre, Jx pre W'))) ?_ ?_ _ ?_ ?_
        · rintro e W' ⟨_, (⟨rfl, _⟩ | ⟨rfl, _⟩)⟩
          · exact ⟨_, rfl⟩
          · exact ⟨_, rfl⟩
        · intro W2 b2
          obtain ⟨fn, tmps, assign, body, hyy, hR⟩ := HY.out _ (askOf ⟨tid, tfr, tky, tto, tn, td, tw⟩ x) W2 (HJ.out _ _ _ H1.out b2) ⟨by
            rw [List.length_append, List.length_map]
            have := HPL.out
            have := HRl.out
            omega, want_data _⟩
          refine ⟨fn, tmps, assign, body, hyy, (round_depth hR).mono ?_⟩
          rintro e W' ⟨k1, k2⟩
          exact ⟨(kf_of_below b2).trans k1, k2.imp (fun ⟨e1, e2, e3⟩ => ⟨e1, e2, (KeepX.of_below b2).tr e3⟩) (fun ⟨e1, e2⟩ => ⟨e1, _, e2⟩)⟩
        · intro c1 a1 a2 w1 h
          exact h
        · intro bb v18 v19 v20 v21 v22 v23 W' hr
          obtain ⟨k1, (⟨e1, e2, e3⟩ | ⟨e1, pre, e2⟩)⟩ := hr
          · obtain rfl : bb = true := by simpa using e1
            have E2 : Hid _ := e2
            have E3 : Hid (KeepX X W') := e3
            have KK : Hid (KeepsFrom W.heap.size X W') := k1
            clear e1 e2 e3 k1
            gi_wp2
            refine ⟨kf_more KK.out (by have := HSr.out; have := sV.out; omega), E3.out, by rw [List.map_append, ← List.append_assoc]; exact E2.out, H2.out.kx E3.out, H3.out.kf KK.out, E3.out _ _ _ _ H4.out (by decide) (by decide)⟩
          · obtain rfl : bb = false := by simpa using e1
            have E2 : Hid (Jx pre W') := e2
            have KK : Hid (KeepsFrom W.heap.size X W') := k1
            clear e1 e2 k1
            gi_wp2
            exact ⟨kf_more KK.out (by have := HSr.out; have := sV.out; omega), rfl, ⟨pre, E2.out⟩, H3.out.kf KK.out⟩
      case done =>
        rintro D xs X hD rfl ⟨h1, h2, h3, h4⟩ hK
        have hw : wrap64 ((k : Int) + 1) = ((k + 1 : Nat) : Int) := by have := HL.out; have := EM.out; unfold wrap64; omega
        have H1 : Hid (J (asksL me sh (ts.take (k + 1))) X) := by show J _ X; rw [HT.out, asksL_snoc]; exact h1
        have H2 : Hid (AB X L W.heap.size Bk Bm Bs base (some ⟨b, off, none⟩) c ts me sh) := h2
        have H3 : Hid (Marks W.heap.size (D :: Ds) X) := ⟨List.nodup_cons.2 ⟨fun hm => by have := HMr.out.lt D hm; have := sV.out; omega, h3.1⟩, fun D' hD' => by
          rcases List.mem_cons.1 hD' with rfl | hD'
          · exact ⟨by have := HSr.out; have := sV.out; omega, hK⟩
          · exact h3.2 D' hD'⟩
        have H5 : Hid (W.heap.size ≤ X.heap.size) := by show _ ≤ _; have := (Array.getElem?_eq_some_iff.1 hK).1; have := HSr.out; have := sV.out; omega
        clear h1 h2 h3 h4 hK
        gi_wp2
        rw [hw]
        refine ⟨⟨k + 1, D :: Ds, _, _, _, _, _, _, _, _, _, _, _, _, _, _, _, _, _, by omega, rfl, H1, H2, H3, H5⟩, ?_⟩
        simp [intOf]
        omega
      case stop =>
        rintro D c' pre' X hD _ ⟨rfl, ⟨pre, h2⟩, h3⟩ hK
        have H2 : Hid (Jx pre X) := h2
        have H3 : Hid (Marks W.heap.size (D :: Ds) X) := ⟨List.nodup_cons.2 ⟨fun hm => by have := HMr.out.lt D hm; have := sV.out; omega, h3.1⟩, fun D' hD' => by
          rcases List.mem_cons.1 hD' with rfl | hD'
          · exact ⟨by have := HSr.out; have := sV.out; omega, hK⟩
          · exact h3.2 D' hD'⟩
        clear h2 h3 hK
        gi_wp2
        show LeavesInM Fence.wide n Try.prog Try.f18 _ (fun e W' => (∃ v, e = .returned v) ∧ ((∃ xs, xs = asksL me sh ts ∧ J xs W') ∨ (∃ pre, True ∧ Jx pre W'))) (List.map mark (D :: Ds)) .returning X
        refine leaves_marks rfl W.heap.size (fun w => ∃ pre, Jx pre w) (fun w hc => ⟨⟨_, rfl⟩, .inr (by obtain ⟨p, hp⟩ := hc; exact ⟨p, trivial, hp⟩)⟩) (fun w D o o' hB hc ho hcl => by obtain ⟨p, hp⟩ := hc; exact ⟨p, PJx.out _ _ _ _ _ hB hp ho hcl⟩) (D :: Ds) X H3.out.1 H3.out.2 ⟨pre, H2.out⟩
    · obtain rfl : k = m := by omega
      gi_wp2
      show LeavesInM Fence.wide n Try.prog Try.f18 _ (fun e W' => (∃ v, e = .returned v) ∧ ((∃ xs, xs = asksL me sh ts ∧ J xs W') ∨ (∃ pre, True ∧ Jx pre W'))) (List.map mark Ds) .returning wr
      refine leaves_marks rfl W.heap.size (fun w => J (asksL me sh ts) w) (fun w hc => ⟨⟨_, rfl⟩, .inl ⟨_, rfl, hc⟩⟩) (fun w D o o' hB hc ho hcl => PJ.out _ _ _ _ _ hB hc ho hcl) Ds wr HMr.out.1 HMr.out.2 ?_
      have := HJr.out
      rwa [← EM.out, List.take_length] at this
end Go.Proofs.Ytbilnleglnbnlaa
