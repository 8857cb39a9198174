/- Package auditor: Asks; the law's asks of an auditor that is there. -/
import Derived.Test.YtckldjiabalgbaaAVals
namespace Go.Proofs.Ytckldjiabalgbaa
open Go.RowKit Go.Shelf
attribute [local go_sem] Oper.semAt_some
set_option linter.unusedVariables false

/-- What is there behind a call that changes the auditor alone. -/
structure KnA (w W : World) (G : Nat) (D : AuD) : Prop where
  blk : ∀ K, K < w.heap.size → K ≠ G → W.heap[K]? = w.heap[K]?
  sz : w.heap.size ≤ W.heap.size
  au : AuIn W G D
  os : W.os = w.os
  tape : W.tape = w.tape
  output : W.output = w.output
theorem asksA_data (D : AuD) (kd : Int) : ∀ S, ∀ x ∈ asksA D kd S, x.2.data.oneCell' = true := by
  intro S
  induction S with
  | zero => intro x hx; simp [asksA] at hx
  | succ i ih =>
    intro x hx
    unfold asksA at hx
    rcases List.mem_append.1 hx with h | h
    · exact ih x h
    · split at h
      · simp at h
      · simp at h; subst h; rfl
set_option maxRecDepth 100000 in
theorem asksX_any {w : World} {G : Nat} {D : AuD} (h : AuIn w G D) {S : Nat} (hS : D.sh = S) (h1 : 1 ≤ S) (h3 : S ≤ 3) (n ph : Int) {kd : Int} (hp : ph = 1 ∧ kd = 6 ∨ ph = 2 ∧ kd = 7) :
    Calls Try.prog 23 #[.pointer (some ⟨G, 0, none⟩), .int .i64 n, .int .i64 ph] w fun e w' => ∃ Bb a c, e = .returned (.func (.func 34) #[] #[.pointer (some ⟨Bb, 0, none⟩)]) ∧
      w'.cell? ⟨Bb, 0, none⟩ = some (.slice a (asksA (knowD D n ph) kd S).length c) ∧ w'.ownsRow w.heap.size 53 18 (.slice a (asksA (knowD D n ph) kd S).length c) (asksA (knowD D n ph) kd S).length (flat AskV.cells (asksA (knowD D n ph) kd S)) ∧ KnA w w' G (knowD D n ph) := by
  have HG : Hid (G < w.heap.size) := by simp only [AuIn] at h; exact (Array.getElem?_eq_some_iff.1 h).1
  have HK := know_any h n ph
  obtain ⟨e1, e2, e3⟩ := knowD_n D n ph
  rw [hS] at e3
  generalize knowD D n ph = D1 at *
  rw [← e2] at hp
  have HP : Hid (D1.ph = 1 ∧ kd = 6 ∨ D1.ph = 2 ∧ kd = 7) := hp
  have HS : Hid (D1.sh = S ∧ 1 ≤ S ∧ S ≤ 3) := ⟨e3, h1, h3⟩
  clear h hS h1 h3 hp e1 e2 e3
  go_enter Try.func23, Try.ntmps23
  go_wp2_with fail
  refine HK.mono ?_
  rintro e w1 ⟨rfl, hA, og⟩
  clear HK
  have HA := asks_some hA HS.out.1 HS.out.2.1 HS.out.2.2 HP.out
  have HAu : Hid (AuIn w1 G D1) := hA
  have HOg : Hid (OnlyG G w w1) := og
  clear hA og
  go_wp2_with fail
  refine HA.mono ?_
  rintro e w2 ⟨v, rfl, ow, b2⟩
  obtain ⟨a, c, rfl, _, _⟩ := row_form ow
  have HAu2 : Hid (AuIn w2 G D1) := HAu.out.below b2
  have HB2 : Hid (Below w1.heap.size w1 w2) := b2
  have HO2 : Hid (w2.ownsRow w1.heap.size 53 18 (.slice a (asksA D1 kd S).length c) (asksA D1 kd S).length (flat AskV.cells (asksA D1 kd S))) := ow
  clear HA ow b2
  have HV : Calls Try.prog 29 #[.slice a (asksA D1 kd S).length c] w2 fun e w' => e = .returned (.func (.func 34) #[] #[.pointer (some ⟨w2.heap.size, 0, none⟩)]) ∧ w' = w2.alloc (.cells #[.slice a (asksA D1 kd S).length c] 57) := by
    go_enter Try.func29, Try.ntmps29
    go_wp2
    go_ret
    exact ⟨rfl, rfl⟩
  go_wp2_with fail
  refine HV.mono ?_
  rintro e w3 ⟨rfl, hw3⟩
  have b3 : Below w2.heap.size w2 w3 := by rw [hw3]; exact (Below.refl _ w2).alloc (Nat.le_refl _) _
  have c3 : w3.cell? ⟨w2.heap.size, 0, none⟩ = some (.slice a (asksA D1 kd S).length c) := by rw [hw3]; simp
  have HF : Hid (w3.cell? ⟨w2.heap.size, 0, none⟩ = some (.slice a (asksA D1 kd S).length c) ∧ w3.ownsRow w.heap.size 53 18 (.slice a (asksA D1 kd S).length c) (asksA D1 kd S).length (flat AskV.cells (asksA D1 kd S)) ∧ KnA w w3 G D1) := by
    have sz := HOg.out.size
    refine ⟨c3, ?_, fun K hK hn => ?_, ?_, HAu2.out.below b3, ?_, ?_, ?_⟩
    · rw [← sz]; exact owns_kept HO2.out (fun g e => b3.block g (row_kind HO2.out e).2.1)
    · have := HB2.out.size
      exact (b3.block K (by omega)).trans ((HB2.out.block K (by omega)).trans (HOg.out.block K hn))
    · have := HB2.out.size; have := b3.size; omega
    · exact b3.os.trans (HB2.out.os.trans HOg.out.os)
    · exact b3.tape.trans (HB2.out.tape.trans HOg.out.tape)
    · exact b3.output.trans (HB2.out.output.trans HOg.out.output)
  clear hw3 b3 c3 HV HOg HB2 HO2 HAu2 HAu
  go_wp2_with fail
  go_ret
  exact ⟨_, _, _, rfl, HF.out⟩
/-- The law's list, while it is made. -/
structure OutA (w2 X : World) (O : Nat) (pre : List AskV) (v : Value) : Prop where
  blk : ∀ K, K < w2.heap.size → K ≠ O → X.heap[K]? = w2.heap[K]?
  sz : w2.heap.size ≤ X.heap.size
  os : X.os = w2.os
  tape : X.tape = w2.tape
  output : X.output = w2.output
  bx : X.heap[O]? = some (.cells #[v] 57 (0, 0))
  row : X.ownsRow w2.heap.size 53 18 v pre.length (flat AskV.cells pre)
theorem OutA.below {w2 X Z : World} {O : Nat} {pre : List AskV} {v : Value} (h : OutA w2 X O pre v) (b : Below X.heap.size X Z) : OutA w2 Z O pre v :=
  ⟨fun K hK hn => (b.block K (Nat.lt_of_lt_of_le hK h.sz)).trans (h.blk K hK hn), Nat.le_trans h.sz b.size, b.os.trans h.os, b.tape.trans h.tape, b.output.trans h.output, (b.block _ (Array.getElem?_eq_some_iff.1 h.bx).1).trans h.bx, owns_kept h.row (fun g e => b.block g (row_kind h.row e).2.1)⟩
theorem OutA.put {w2 X : World} {O : Nat} {pre : List AskV} {v : Value} (h : OutA w2 X O pre v) {l : Nat} {o : Obj} (o' : Obj) (hl : w2.heap.size ≤ l) (hO : O < w2.heap.size) (ho : X.heap[l]? = some o) (hc : o.isCells = false) : OutA w2 (X.putObj l o') O pre v := by
  refine ⟨fun K hK hn => (World.putObj_heap_other (by omega)).trans (h.blk K hK hn), by simpa [World.putObj] using h.sz, h.os, h.tape, h.output, (World.putObj_heap_other (by omega)).trans h.bx, owns_kept h.row (fun g e => World.putObj_heap_other (fun e2 => ?_))⟩
  obtain ⟨_, _, cur, q⟩ := row_kind h.row e
  rw [e2, ho] at q
  cases q
  simp [Obj.isCells] at hc
/-- One ask more. -/
theorem OutA.more {w2 X : World} {O : Nat} {pre : List AskV} {v : Value} (h : OutA w2 X O pre v) (hO : O < w2.heap.size) (hl : pre.length ≤ 4000) (x : AskV) (hx : x.2.data.oneCell' = true) :
    ∃ v' Z, (Builtin.append_ #[57, 57] 57 #[v, .slice (some ⟨X.heap.size, 0, none⟩) 1 1]).run Try.prog (X.alloc (.cells (AskV.cells x).toArray 53)) = .ok v' Z ∧ Z.cell? ⟨O, 0, none⟩ = some v ∧ Z.frozen? ⟨O, 0, none⟩ = false ∧
      OutA w2 (Z.setCell ⟨O, 0, none⟩ v') O (pre ++ [x]) v' ∧ (∀ a : Option Addr, (∀ y, a = some y → y.block < w2.heap.size ∧ y.block ≠ O) → KcR a X (Z.setCell ⟨O, 0, none⟩ v')) ∧ ∀ B, KeepsFrom B X (Z.setCell ⟨O, 0, none⟩ v') := by
  obtain ⟨v', Z, hr, q1, q2⟩ := run_append_askA X w2.heap.size v pre h.row x hx hl h.sz
  have bX : Below X.heap.size X (X.alloc (.cells (AskV.cells x).toArray 53)) := (Below.refl _ X).alloc (Nat.le_refl _) _
  have own : ∀ k, v.ownBlock = some k → w2.heap.size ≤ k := fun k e => (row_kind h.row e).1
  have hb : ∀ k, k < X.heap.size → v.ownBlock ≠ some k → Z.heap[k]? = X.heap[k]? := fun k hk hn => (q2.block k (Nat.lt_of_lt_of_le hk bX.size) (fun e => hn e.symm)).trans (bX.block k hk)
  have k1 : Z.heap[O]? = some (.cells #[v] 57 (0, 0)) := (hb _ (Array.getElem?_eq_some_iff.1 h.bx).1 (fun e => by have := own _ e; omega)).trans h.bx
  have e := setCell_eq_setRow Z O 0 _ _ _ v' k1
  have hsz : X.heap.size ≤ Z.heap.size := Nat.le_trans bX.size q2.size
  refine ⟨v', Z, hr, by simp [World.cell?, k1], by simp [World.frozen?, k1], ⟨fun K hK hn => ?_, ?_, ?_, ?_, ?_, set_ofA k1, ?_⟩, ?_, ?_⟩
  · rw [e, setRow_other _ _ _ _ hn, hb K (Nat.lt_of_lt_of_le hK h.sz) (fun e => by have := own _ e; omega)]
    exact h.blk K hK hn
  · have := h.sz; simp; omega
  · exact q2.os.trans h.os
  · exact q2.tape.trans h.tape
  · exact q2.output.trans h.output
  · rw [e]
    refine owns_kept q1 (fun g q => setRow_other _ _ _ _ (fun z => ?_))
    subst z
    have := (row_kind q1 q).1
    omega
  · intro a ha y hy cs t z hc
    obtain ⟨y1, y2⟩ := ha y hy
    rw [e, setRow_other _ _ _ _ y2, hb y.block (Nat.lt_of_lt_of_le y1 h.sz) (fun e => by have := own _ e; omega)]
    exact hc
  · intro B
    refine ⟨by simpa using hsz, fun k o _ ho hc => ?_⟩
    have hk := (Array.getElem?_eq_some_iff.1 ho).1
    have hne : k ≠ O := fun e2 => by rw [e2, h.bx] at ho; cases ho; simp [Obj.isCells] at hc
    rw [e, setRow_other _ _ _ _ hne, hb k hk (fun e3 => ?_)]
    · exact ho
    · obtain ⟨_, _, cur, q⟩ := row_kind h.row e3
      rw [ho] at q
      cases q
      simp [Obj.isCells] at hc
set_option maxRecDepth 100000 in
set_option maxHeartbeats 4000000 in
theorem lawAsks_any {w : World} {G : Nat} {D : AuD} (h : AuIn w G D) {S : Nat} (hS : D.sh = S) (h1 : 1 ≤ S) (h3 : S ≤ 3) (n ph : Int) {kd : Int} (hp : ph = 1 ∧ kd = 6 ∨ ph = 2 ∧ kd = 7) :
    Calls Try.prog 12 #[.pointer (some ⟨G, 0, none⟩), .int .i64 n, .int .i64 ph] w fun e w' => ∃ v, e = .returned v ∧ w'.ownsRow w.heap.size 53 18 v (asksA (knowD D n ph) kd S).length (flat AskV.cells (asksA (knowD D n ph) kd S)) ∧ KnA w w' G (knowD D n ph) := by
  have hG : G < w.heap.size := by simp only [AuIn] at h; exact (Array.getElem?_eq_some_iff.1 h).1
  have bA : Below w.heap.size w (w.alloc (.cells #[.slice none 0 0] 57)) := (Below.refl _ w).alloc (Nat.le_refl _) _
  have HF := asksX_any (h.below bA) hS h1 h3 n ph hp
  have HD : Hid (∀ x ∈ asksA (knowD D n ph) kd S, x.2.data.oneCell' = true) := asksA_data _ _ _
  have HL : Hid ((asksA (knowD D n ph) kd S).length ≤ 3) := Nat.le_trans (asksA_len _ _ _) h3
  have hsz : (w.alloc (.cells #[.slice none 0 0] 57)).heap.size = w.heap.size + 1 := by simp
  rw [hsz] at HF
  generalize asksA (knowD D n ph) kd S = L at *
  have q2 : (w.alloc (.cells #[.slice none 0 0] 57)).heap[w.heap.size]? = _ := heap_alloc_new w (.cells #[.slice none 0 0] 57)
  have HQ : Hid _ := q2
  have HB : Hid _ := bA
  have HGs : Hid (G < w.heap.size) := hG
  have HZ1 : Hid _ := hsz
  have hsome := seqA_someA
  clear h hS h1 h3 hp bA q2 hG hsz
  refine (callsIn_wide (n := 5)).1 ?_
  refine callsIn_of_wp_marks Try.func12 rfl trivial ?_ rfl
  simp only [Try.ntmps12, List.size_toArray, List.length_cons, List.length_nil, Nat.reduceAdd, Nat.reduceSub, Array.replicate_succ, Array.replicate_zero, List.push_toArray, List.append_toArray, List.nil_append, List.cons_append]
  gi_wp2_with fail
  refine ⟨trivial, (callsIn_wide.2 HF).mono ?_⟩
  rintro e w2 ⟨Bb, a, c, rfl, f1, f2, f3⟩
  have sz2 : w.heap.size < w2.heap.size := by have := f3.sz; have := HZ1.out; omega
  have H0 : Hid (OutA w2 w2 w.heap.size [] (.slice none 0 0)) := ⟨fun _ _ _ => rfl, Nat.le_refl _, rfl, rfl, rfl, (f3.blk _ (by have := HZ1.out; omega) (by have := HGs.out; omega)).trans HQ.out, World.ownsRow_nil _ _ _ _⟩
  have HK : Hid (KnA w w2 G (knowD D n ph)) := ⟨fun K hK hn => (f3.blk K (by have := HZ1.out; omega) hn).trans (HB.out.block K hK), by omega, f3.au, f3.os.trans HB.out.os, f3.tape.trans HB.out.tape, f3.output.trans HB.out.output⟩
  have HSz : Hid (w.heap.size < w2.heap.size) := sz2
  have HSrc : Hid (∀ y, a = some y → y.block < w2.heap.size ∧ y.block ≠ w.heap.size) := fun y e => by
    have hk := row_kind f2 (g := y.block) (by rw [e]; rfl)
    exact ⟨hk.2.1, by have := hk.1; omega⟩
  have HF1 : Hid (w2.cell? ⟨Bb, 0, none⟩ = some (.slice a L.length c)) := f1
  have HF2 : Hid (w2.ownsRow (w.heap.size + 1) 53 18 (.slice a L.length c) L.length (flat AskV.cells L)) := f2
  clear HF f1 f2 f3 sz2 HQ HB HZ1
  gi_wp2_with fail
  clear hsome
  refine range_V (n := 5) (gf := 34) (lb := #[.pointer (some ⟨Bb, 0, none⟩)]) (w0 := w2) rfl (enters_of Try.func34 (by kernel_rfl) rfl)
    (values1A_seq (5 - 1) Bb (w.heap.size + 1) c a L w2 HF1.out HF2.out (by have := HL.out; omega) HD.out) KcR.tr KcR.bk (Below.refl _ _) (fun _ => rfl)
    (fun pre X => ∃ v, OutA w2 X w.heap.size pre v) (fun _ _ _ => False) (fun pre X Z h hb => by obtain ⟨v, h⟩ := h; exact ⟨v, h.below hb⟩) (fun _ _ _ _ h _ => h)
    (fun pre X l o o' hl h ho hc => by obtain ⟨v, h⟩ := h; exact ⟨v, h.put o' hl HSz.out ho hc⟩) (fun _ _ _ _ _ _ _ h _ _ => h) ⟨_, H0.out⟩
    (fun (pre : List AskV) (x : AskV) (act : Act) (X : World) => RVa L pre x X ∧ ∃ Bx, X.heap[Bx]? = some (.cells (AskV.cells x).toArray 53 (0, 0)) ∧ act = { tmps := #[.pointer (some ⟨G, 0, none⟩), .int .i64 n, .int .i64 ph, undef, undef, undef, .slice none 0 0, .pointer (some ⟨w.heap.size, 0, none⟩), .func (.func 34) #[] #[.pointer (some ⟨Bb, 0, none⟩)], .pointer (some ⟨Bx, 0, none⟩), .pointer (some ⟨G, 0, none⟩), .int .i64 n, .int .i64 ph, .func (.func 34) #[] #[.pointer (some ⟨Bb, 0, none⟩)], .func (.func 34) #[] #[.pointer (some ⟨Bb, 0, none⟩)], .bool false, .func (.func 34) #[] #[.pointer (some ⟨Bb, 0, none⟩)], .agg (AskV.cells x).toArray, undef, undef, undef, undef, undef], defers := [] })
    ?hAx ?assign ?body ?done (fun _ _ _ _ _ _ h _ => h.elim)
  case hAx =>
    rintro pre x act _ X Z row ⟨h1, Bx, h2, h3⟩ hg hrow
    exact ⟨h1, Bx, (grownBy_keeps_cells hg (fun r e => (hrow r e).2) h2 rfl).trans h2, h3⟩
  case assign =>
    rintro l' pre ⟨g, k, ok, of_, ot, oa, oy, os, oh, id, nm, n', why, slot, ep, at_, last, data⟩ X K ⟨v, hv⟩ hr hK
    have HKK : Hid _ := hK
    have HI : Hid (OutA w2 X w.heap.size pre v) := hv
    have HR : Hid (RVa L pre (g, ⟨k, ok, of_, ot, oa, oy, os, oh, id, nm, n', why, slot, ep, at_, last, data⟩) X) := hr
    have hdd := HD.out _ (List.mem_of_getElem? hr)
    simp only at hdd
    have HDD : Hid (data.oneCell' = true) := hdd
    clear hK hv hdd hr
    have BA : Hid (Below X.heap.size X (X.alloc (.cells #[.int .i64 g, .int .i64 k, .int .i64 ok, .string of_, .string ot, .int .i64 oa, .string oy, .int .i64 os, .int .i64 oh, .string id, .string nm, .int .i64 n', .int .i64 why, .int .i64 slot, .int .i64 ep, .int .i64 at_, .bool last, data] 53))) := (Below.refl _ X).alloc (Nat.le_refl _) _
    rw [zip_one]
    simp only [AskV.cells, CmdV.cells, List.setIfInBounds_toArray, List.set_cons_zero, List.set_cons_succ]
    gi_wp2_with (first
      | (refine listIn_store_row 53 (.tmp 9) (.tmp 17) X.heap.size #[.int .i64 g, .int .i64 k, .int .i64 ok, .string of_, .string ot, .int .i64 oa, .string oy, .int .i64 os, .int .i64 oh, .string id, .string nm, .int .i64 n', .int .i64 why, .int .i64 slot, .int .i64 ep, .int .i64 at_, .bool last, data] 53 _ rfl rfl rfl rfl (heap_alloc_new X _) (by kernel_rfl) rfl (ask_cells_one (g, ⟨k, ok, of_, ot, oa, oy, os, oh, id, nm, n', why, slot, ep, at_, last, data⟩) HDD.out) ?_; rw [setRow_new]))
    exact HKK.out _ _ (kf_of_below BA.out) (KcR.of_below BA.out) ⟨v, HI.out.below BA.out⟩ ⟨HR.out, X.heap.size, heap_alloc_new X _, rfl⟩
  case body =>
    rintro l' pre ⟨g, k, ok, of_, ot, oa, oy, os, oh, id, nm, n', why, slot, ep, at_, last, data⟩ act X ⟨v, hv⟩ ⟨hr1, Bx, hx, rfl⟩
    have hdd := HD.out _ (List.mem_of_getElem? hr1)
    have hpl : pre.length ≤ 4000 := by have := (List.getElem?_eq_some_iff.1 hr1).1; have := HL.out; omega
    obtain ⟨v', Z, hrun, hz, hzf, ho, hkx, hkf⟩ := hv.more HSz.out hpl _ hdd
    have cx : X.cell? ⟨w.heap.size, 0, none⟩ = some v := by simp only [World.cell?, hv.bx]; rfl
    obtain ⟨a5, c5, e5, _⟩ := row_form ho.row
    rw [List.length_append, List.length_singleton] at e5
    subst e5
    obtain ⟨a6, c6, e6, _⟩ := row_form hv.row
    subst e6
    have HO : Hid _ := ho
    have HKX : Hid (KcR a X _) := hkx a HSrc.out
    have HKF : Hid _ := hkf
    have HRun : Hid _ := hrun
    clear hrun ho hkx hkf hv hr1
    simp only [AskV.cells, CmdV.cells] at HRun hx ⊢
    have HX : Hid _ := hx
    clear hx
    refine wpIn_block ?_
    gi_wp2_with (first
      | (refine listIn_row 53 (.tmp 9) Bx 53 _ (0, 0) _ rfl rfl rfl HX.out Try.underlying53 rfl (by kernel_rfl) ?_)
      | (refine listIn_value _ rfl rfl (fun c => by simp) (exec_sliceA (x := .tmp 19) _ rfl rfl) ?_)
      | (refine wpListIn_append_known rfl (.tmp 18) (.tmp 20) 57 57 rfl _ _ rfl rfl _ _ HRun.out ?_))
    exact ⟨HKF.out _, HKX.out, _, HO.out⟩
  case done =>
    rintro D' xs X hD rfl ⟨v, hv⟩ hK
    have cx : X.cell? ⟨w.heap.size, 0, none⟩ = some v := by simp only [World.cell?, hv.bx]; rfl
    have HV : Hid (OutA w2 X w.heap.size xs v) := hv
    have HK2 : Hid (X.heap[D']? = some (.deferred (some []))) := hK
    have HDD : Hid (w2.heap.size ≤ D') := hD
    clear hv hK hD
    gi_wp2
    refine ⟨by simp, .inl ⟨_, _, rfl, run_takeDeferred HK2.out, ?_⟩⟩
    have hp := HV.out.put (.deferred none) HDD.out HSz.out HK2.out rfl
    refine ⟨_, results_tmp rfl _ _ _, v, rfl, ?_, fun K hK hn => ?_, ?_, ?_, hp.os.trans HK.out.os, hp.tape.trans HK.out.tape, hp.output.trans HK.out.output⟩
    · exact ⟨hp.row.1, hp.row.2.imp id (fun ⟨g, cp, cur, e1, e2, e3⟩ => ⟨g, cp, cur, e1, by have := HSz.out; omega, e3⟩)⟩
    · exact (hp.blk K (by have := HSz.out; omega) (by omega)).trans (HK.out.blk K hK hn)
    · have := hp.sz; have := HSz.out; omega
    · have := HK.out.au
      simp only [AuIn] at this ⊢
      exact (hp.blk G (by have := HGs.out; have := HSz.out; omega) (by have := HGs.out; omega)).trans this
end Go.Proofs.Ytckldjiabalgbaa
