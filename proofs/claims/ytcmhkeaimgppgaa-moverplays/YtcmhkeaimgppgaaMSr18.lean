/- MoverSends: an answer. -/
import Derived.Test.YtcmhkeaimgppgaaMKt
namespace Go.Proofs.Ytcmhkeaimgppgaa
open Go.RowKit Go.Shelf
attribute [local go_sem] Oper.semAt_some
set_option linter.unusedVariables false

set_option maxRecDepth 100000 in
set_option maxHeartbeats 8000000 in
theorem sends_r18 (s0 s1 s2 s3 s4 s8 s9 s10 s11 s12 s13 s14 s15 s16 s17 s18 s19 s20 s21 s22 s23 s24 s25 s26 s27 s28 s29 s30 s31 s32 s33 s34 s35 s36 s37 s38 s39 s40 s41 s42 s43 s44 s45 s46 s47 s48 s49 s50 s51 s52 s53 s54 s55 s56 s57 s58 s59 s60 s61 s62 s63 s64 s65 s66 s67 s68 s69 s70 s71 s72 s73 s74 s75 s76 s77 s78 s79 s80 s81 s82 s83 s84 s85 s86 s87 s88 s89 s90 s91 s92 s93 s94 s95 s96 s97 s98 s99 s100 s101 s102 s103 s104 s105 s106 s107 s108 s109 s110 s111 s112 s113 s114 s115 s116 s117 s118 s119 s120 s121 s122 s123 s124 s125 s126 s127 s128 s129 s130 s131 s132 s133 s134 s135 s136 s137 s138 s139 s140 s141 s142 s143 s144 s145 s146 s147 s148 s149 s150 s151 s152 s153 s154 s155 s156 s157 s158 s159 : Value) (w : World) (base : Bs) (G Bx g c : Nat) (M : MD) (x : MvD) (C : List Value) (q : AskI) (cur : Array Value) (r : ResD) (hr : r = ⟨0, false, 0, 0, .slice none 0 0, none, 0, []⟩) (hC : AskC C q) (hm : MvIn w base G M) (hb : base.ok w.heap.size) (hx : w.heap[Bx]? = some (.cells #[.int .i64 x.slot, .int .i64 x.fr, .int .i64 x.to, .int .i64 x.ep, .int .i64 x.ph, .int .i64 x.n] 47 (0, 0))) (hgc : w.heap[g]? = some (.cells cur 54 (0, 0))) (hl : w.rangeAt g 0 C)
    (Q : Exit → Act → World → Prop) (hP : ∀ c (a : Act) (d : Tmp) (v : Value) w, Q (.panic c) (a.put (some d) v) w → Q (.panic c) a w)
    (hQ : ∀ (W' : World) (Bc : Nat) (v109 v110 v111 v112 v113 v114 v115 v116 v117 v118 : Value), MvIn W' base G (toldM M x q r).1 → OnlyR w W' G → (W'.heap[Bc]? = some (.cells (toldC (toldM M x q r).2 x) 60 (0, 0))) → w.heap.size ≤ Bc → Q .normal { tmps := #[s0, s1, s2, s3, s4, .pointer (some ⟨G, 0, none⟩), .pointer (some ⟨Bx, 0, none⟩), .slice (some ⟨g, 0, none⟩) 1 c, s8, s9, .pointer (some ⟨Bc, 0, none⟩), .bool (toldM M x q r).2, s12, s13, s14, s15, s16, s17, s18, s19, s20, s21, s22, s23, s24, s25, s26, s27, s28, s29, s30, s31, s32, s33, s34, s35, s36, s37, s38, s39, s40, s41, s42, s43, s44, s45, s46, s47, s48, s49, s50, s51, s52, s53, s54, s55, s56, s57, s58, s59, s60, s61, s62, s63, s64, s65, s66, s67, s68, s69, s70, s71, s72, s73, s74, s75, s76, s77, s78, s79, s80, s81, s82, s83, s84, s85, s86, s87, s88, s89, s90, s91, s92, s93, s94, s95, s96, s97, s98, s99, s100, s101, s102, s103, s104, s105, s106, s107, s108, v109, v110, v111, v112, v113, v114, v115, v116, v117, v118, s119, s120, s121, s122, s123, s124, s125, s126, s127, s128, s129, s130, s131, s132, s133, s134, s135, s136, s137, s138, s139, s140, s141, s142, s143, s144, s145, s146, s147, s148, s149, s150, s151, s152, s153, s154, s155, s156, s157, s158, s159], defers := [] } W') :
    (Code.region 18 #[{ dst := some 110, op := Go.Op.move (Go.Operand.tmp 5), type := 23, pos := "law.go:364", after := #[], guard := none }, { dst := some 111, op := Go.Op.load 47 (Go.Operand.tmp 6), type := 47, pos := "law.go:364", after := #[], guard := none }, { dst := some 112, op := Go.Op.move (Go.Operand.tmp 7), type := 45, pos := "law.go:364", after := #[], guard := none }, { dst := some 113, op := Go.Op.indexAddr 45 (Go.Operand.tmp 112) (Go.Operand.const (Go.Value.int Go.IntKind.i64 0)), type := 0, pos := "law.go:364", after := #[{ on := 2, ground := Go.Ground.data }], guard := none }, { dst := some 114, op := Go.Op.load 54 (Go.Operand.tmp 113), type := 54, pos := "law.go:364", after := #[{ on := 3, ground := Go.Ground.data }], guard := none }, { dst := some 115, op := Go.Op.build 57 #[], type := 57, pos := "law.go:364", after := #[], guard := none }, { dst := some 116, op := Go.Op.call { callee := Go.Callee.value (Go.Operand.func 14), args := #[Go.Operand.tmp 110, Go.Operand.tmp 111, Go.Operand.tmp 114, Go.Operand.tmp 115], argTypes := #[23, 47, 54, 57] }, type := 61, pos := "law.go:364", after := #[{ on := 0, ground := Go.Ground.data }, { on := 1, ground := Go.Ground.data }, { on := 4, ground := Go.Ground.data }, { on := 5, ground := Go.Ground.data }], guard := none }, { dst := some 109, op := Go.Op.move (Go.Operand.tmp 116), type := 61, pos := "law.go:364", after := #[{ on := 6, ground := Go.Ground.data }], guard := none }, { dst := some 117, op := Go.Op.extract (Go.Operand.tmp 109) 0, type := 60, pos := "law.go:364", after := #[{ on := 7, ground := Go.Ground.data }], guard := none }, { dst := some 118, op := Go.Op.extract (Go.Operand.tmp 109) 1, type := 4, pos := "law.go:364", after := #[{ on := 7, ground := Go.Ground.data }, { on := 11, ground := Go.Ground.gcOnly Go.Departure.lateStores }], guard := none }, { dst := some 10, op := Go.Op.alloc 60, type := 0, pos := "law.go:364", after := #[], guard := none }, { dst := none, op := Go.Op.store 60 (Go.Operand.tmp 10) (Go.Operand.tmp 117), type := 0, pos := "law.go:364", after := #[{ on := 10, ground := Go.Ground.data }, { on := 8, ground := Go.Ground.data }, { on := 6, ground := Go.Ground.chain }, { on := 0, ground := Go.Ground.phase }, { on := 1, ground := Go.Ground.phase }, { on := 2, ground := Go.Ground.phase }, { on := 3, ground := Go.Ground.phase }, { on := 4, ground := Go.Ground.phase }, { on := 5, ground := Go.Ground.phase }, { on := 6, ground := Go.Ground.phase }, { on := 7, ground := Go.Ground.phase }, { on := 8, ground := Go.Ground.phase }, { on := 9, ground := Go.Ground.textOnly Go.Departure.lateStores }, { on := 10, ground := Go.Ground.phase }], guard := none }, { dst := some 11, op := Go.Op.assign (Go.Operand.tmp 118), type := 4, pos := "law.go:364", after := #[{ on := 9, ground := Go.Ground.data }, { on := 11, ground := Go.Ground.chain }, { on := 0, ground := Go.Ground.phase }, { on := 1, ground := Go.Ground.phase }, { on := 2, ground := Go.Ground.phase }, { on := 3, ground := Go.Ground.phase }, { on := 4, ground := Go.Ground.phase }, { on := 5, ground := Go.Ground.phase }, { on := 6, ground := Go.Ground.phase }, { on := 7, ground := Go.Ground.phase }, { on := 8, ground := Go.Ground.phase }, { on := 9, ground := Go.Ground.phase }, { on := 10, ground := Go.Ground.phase }, { on := 11, ground := Go.Ground.phase }], guard := none }] true).wp Try.prog Q { tmps := #[s0, s1, s2, s3, s4, .pointer (some ⟨G, 0, none⟩), .pointer (some ⟨Bx, 0, none⟩), .slice (some ⟨g, 0, none⟩) 1 c, s8, s9, s10, s11, s12, s13, s14, s15, s16, s17, s18, s19, s20, s21, s22, s23, s24, s25, s26, s27, s28, s29, s30, s31, s32, s33, s34, s35, s36, s37, s38, s39, s40, s41, s42, s43, s44, s45, s46, s47, s48, s49, s50, s51, s52, s53, s54, s55, s56, s57, s58, s59, s60, s61, s62, s63, s64, s65, s66, s67, s68, s69, s70, s71, s72, s73, s74, s75, s76, s77, s78, s79, s80, s81, s82, s83, s84, s85, s86, s87, s88, s89, s90, s91, s92, s93, s94, s95, s96, s97, s98, s99, s100, s101, s102, s103, s104, s105, s106, s107, s108, s109, s110, s111, s112, s113, s114, s115, s116, s117, s118, s119, s120, s121, s122, s123, s124, s125, s126, s127, s128, s129, s130, s131, s132, s133, s134, s135, s136, s137, s138, s139, s140, s141, s142, s143, s144, s145, s146, s147, s148, s149, s150, s151, s152, s153, s154, s155, s156, s157, s158, s159], defers := [] } w := by
  obtain ⟨ma, mc, mg, _⟩ := hm.ex
  have nx : Bx ≠ G := fun e => by
    rw [e, mg] at hx
    injection hx with hx
    injection hx with _ hx
    exact absurd hx (by decide)
  have ng : g ≠ G := fun e => by
    rw [e, mg] at hgc
    injection hgc with hgc
    injection hgc with _ hgc
    exact absurd hgc (by decide)
  have lx : Bx < w.heap.size := (Array.getElem?_eq_some_iff.1 hx).1
  have lg : g < w.heap.size := (Array.getElem?_eq_some_iff.1 hgc).1
  have BX : Hid (∀ W, OnlyR w W G → W.heap[Bx]? = some (.cells #[.int .i64 x.slot, .int .i64 x.fr, .int .i64 x.to, .int .i64 x.ep, .int .i64 x.ph, .int .i64 x.n] 47 (0, 0))) := fun W hW => (hW.block _ lx nx).trans hx
  have BL : Hid (∀ W, OnlyR w W G → W.rangeAt g 0 C) := fun W hW j v hv => by
    have := hl j v hv
    simp only [World.cell?] at this ⊢
    rw [hW.block _ lg ng]
    exact this
  have HSZ : Hid ((Try.prog.info? 54).map (·.size) = some C.length) := by
    have e : (Try.prog.info? 54).map (·.size) = some 18 := by kernel_rfl
    show _ = _
    rw [e, hC.len]
  have HM : Hid (MvIn w base G M) := hm
  have HB : Hid (base.ok w.heap.size) := hb
  have HC : Hid (AskC C q) := hC
  have HQ : Hid _ := hQ
  have HP : Hid _ := hP
  have HT : Hid (∀ W, Below w.heap.size w W → Calls Try.prog 14 #[.pointer (some ⟨G, 0, none⟩), .agg #[.int .i64 x.slot, .int .i64 x.fr, .int .i64 x.to, .int .i64 x.ep, .int .i64 x.ph, .int .i64 x.n], .agg C.toArray, .agg #[.int .i64 0, .bool false, .int .i64 0, .int .i64 0, .slice none 0 0, .slice none 0 0]] W fun e w' => e = .returned (.tuple #[.agg (toldC (toldM M x q r).2 x), .bool (toldM M x q r).2]) ∧ MvIn w' base G (toldM M x q r).1 ∧ OnlyR W w' G) := fun W hW => by
    have := told_any (hm.below hW) (hb.mono hW.size) x C q hC r (by rw [hr]; exact ⟨seen_nil W, fun _ => rfl, by simp⟩)
    rw [hr] at this ⊢
    exact this
  have TA1 : Hid ((Try.prog.info? 60).map (·.size) = some (toldC (toldM M x q r).2 x).size) := by show _ = _; cases (toldM M x q r).2 <;> kernel_rfl
  have TA2 : Hid ((#[.int .i64 0, .int .i64 0, .int .i64 0, .int .i64 0, .int .i64 0] : Array Value).size = (toldC (toldM M x q r).2 x).size) := by show _ = _; cases (toldM M x q r).2 <;> rfl
  have TA3 : Hid ((toldC (toldM M x q r).2 x).all (·.oneCell') = true) := by show _ = _; cases (toldM M x q r).2 <;> simp [toldC, Value.oneCell']
  clear hx hgc hl mg nx ng lx lg hm hb hC hQ hP hr
  generalize toldM M x q r = tm at *
  generalize toldC tm.2 x = tc at *
  refine wp_region_held_drew (S := fun W => OnlyR w W G) (by kernel_rfl) (OnlyR.of_below (Below.refl _ w).drew G) (fun hHeld => ?_)
  have bD : Below w.heap.size w w.drew := (Below.refl _ w).drew
  refine take_run (i := 0) (oi := { dst := some 110, op := Go.Op.move (Go.Operand.tmp 5), type := 23, pos := "law.go:364", after := #[], guard := none }) (v := .pointer (some ⟨G, 0, none⟩)) rfl (by kernel_rfl) (by kernel_rfl) (by kernel_rfl) (fun _ _ _ h => HP.out _ _ _ _ _ h) (by rfl) ?_ hHeld ?_
  · (intro wq hSw; go_simp <;> with_reducible rfl)
  try simp only [Act.put, List.setIfInBounds_toArray, List.set_cons_zero, List.set_cons_succ]
  refine take_row (i := 1) (oi := { dst := some 111, op := Go.Op.load 47 (Go.Operand.tmp 6), type := 47, pos := "law.go:364", after := #[], guard := none }) rfl (by kernel_rfl) (by kernel_rfl) (by kernel_rfl) 47 (.tmp 6) Bx 47 #[.int .i64 x.slot, .int .i64 x.fr, .int .i64 x.to, .int .i64 x.ep, .int .i64 x.ph, .int .i64 x.n] (0, 0) _ (fun _ _ _ h => HP.out _ _ _ _ _ h) (by rfl) rfl (by go_simp <;> with_reducible rfl) (fun W hW => BX.out W hW) Try.underlying47 rfl (by kernel_rfl) hHeld ?_
  try simp only [Act.put, List.setIfInBounds_toArray, List.set_cons_zero, List.set_cons_succ]
  refine take_run (i := 2) (oi := { dst := some 112, op := Go.Op.move (Go.Operand.tmp 7), type := 45, pos := "law.go:364", after := #[], guard := none }) (v := .slice (some ⟨g, 0, none⟩) 1 c) rfl (by kernel_rfl) (by kernel_rfl) (by kernel_rfl) (fun _ _ _ h => HP.out _ _ _ _ _ h) (by rfl) ?_ hHeld ?_
  · (intro wq hSw; go_simp <;> with_reducible rfl)
  try simp only [Act.put, List.setIfInBounds_toArray, List.set_cons_zero, List.set_cons_succ]
  refine take_run (i := 3) (oi := { dst := some 113, op := Go.Op.indexAddr 45 (Go.Operand.tmp 112) (Go.Operand.const (Go.Value.int Go.IntKind.i64 0)), type := 0, pos := "law.go:364", after := #[{ on := 2, ground := Go.Ground.data }], guard := none }) (v := .pointer (some ⟨g, 0, none⟩)) rfl (by kernel_rfl) (by kernel_rfl) (by kernel_rfl) (fun _ _ _ h => HP.out _ _ _ _ _ h) (by rfl) ?_ hHeld ?_
  · (intro wq hSw; go_simp <;> with_reducible rfl)
  try simp only [Act.put, List.setIfInBounds_toArray, List.set_cons_zero, List.set_cons_succ]
  refine take_mid (i := 4) (oi := { dst := some 114, op := Go.Op.load 54 (Go.Operand.tmp 113), type := 54, pos := "law.go:364", after := #[{ on := 3, ground := Go.Ground.data }], guard := none }) rfl (by kernel_rfl) (by kernel_rfl) (by kernel_rfl) 54 (.tmp 113) g 0 C _ (fun _ _ _ h => HP.out _ _ _ _ _ h) (by rfl) rfl (by go_simp <;> with_reducible rfl) (fun W hW => BL.out W hW) Try.underlying54 rfl HSZ.out hHeld ?_
  try simp only [Act.put, List.setIfInBounds_toArray, List.set_cons_zero, List.set_cons_succ]
  refine take_run (i := 5) (oi := { dst := some 115, op := Go.Op.build 57 #[], type := 57, pos := "law.go:364", after := #[], guard := none }) (v := .agg #[.int .i64 0, .bool false, .int .i64 0, .int .i64 0, .slice none 0 0, .slice none 0 0]) rfl (by kernel_rfl) (by kernel_rfl) (by kernel_rfl) (fun _ _ _ h => HP.out _ _ _ _ _ h) (by rfl) ?_ hHeld ?_
  · (intro wq hSw; go_simp <;> with_reducible rfl)
  try simp only [Act.put, List.setIfInBounds_toArray, List.set_cons_zero, List.set_cons_succ]
  refine take_call_or (i := 6) (j := 10) (oi := { dst := some 116, op := Go.Op.call { callee := Go.Callee.value (Go.Operand.func 14), args := #[Go.Operand.tmp 110, Go.Operand.tmp 111, Go.Operand.tmp 114, Go.Operand.tmp 115], argTypes := #[23, 47, 54, 57] }, type := 61, pos := "law.go:364", after := #[{ on := 0, ground := Go.Ground.data }, { on := 1, ground := Go.Ground.data }, { on := 4, ground := Go.Ground.data }, { on := 5, ground := Go.Ground.data }], guard := none }) (oj := { dst := some 10, op := Go.Op.alloc 60, type := 0, pos := "law.go:364", after := #[], guard := none }) (.pointer (some ⟨w.drew.heap.size, 0, none⟩)) (w2 := w.drew.alloc (.cells #[.int .i64 0, .int .i64 0, .int .i64 0, .int .i64 0, .int .i64 0] 60)) rfl rfl (by kernel_rfl) (by rfl) (by rfl) 14 _ (by go_simp <;> with_reducible rfl) (by go_simp <;> with_reducible rfl) (hHeld.alloc _) ?_ ?_
  · refine (HT.out _ bD).mono ?_
    rintro e w9 ⟨rfl, m9, o9'⟩
    have o9 : OnlyR w w9 G := hHeld.trans o9'
    refine ⟨_, rfl, o9, ?_⟩
    try simp only [Act.put, List.setIfInBounds_toArray, List.set_cons_zero, List.set_cons_succ]
    refine take_run (i := 7) (oi := { dst := some 109, op := Go.Op.move (Go.Operand.tmp 116), type := 61, pos := "law.go:364", after := #[{ on := 6, ground := Go.Ground.data }], guard := none }) (v := .tuple #[.agg tc, .bool tm.2]) rfl (by kernel_rfl) (by kernel_rfl) (by kernel_rfl) (fun _ _ _ h => HP.out _ _ _ _ _ h) (by rfl) ?_ o9 ?_
    · (intro wq hSw; go_simp <;> with_reducible rfl)
    try simp only [Act.put, List.setIfInBounds_toArray, List.set_cons_zero, List.set_cons_succ]
    refine take_run (i := 8) (oi := { dst := some 117, op := Go.Op.extract (Go.Operand.tmp 109) 0, type := 60, pos := "law.go:364", after := #[{ on := 7, ground := Go.Ground.data }], guard := none }) (v := .agg tc) rfl (by kernel_rfl) (by kernel_rfl) (by kernel_rfl) (fun _ _ _ h => HP.out _ _ _ _ _ h) (by rfl) ?_ o9 ?_
    · (intro wq hSw; go_simp <;> with_reducible rfl)
    try simp only [Act.put, List.setIfInBounds_toArray, List.set_cons_zero, List.set_cons_succ]
    refine take_run (i := 9) (oi := { dst := some 118, op := Go.Op.extract (Go.Operand.tmp 109) 1, type := 4, pos := "law.go:364", after := #[{ on := 7, ground := Go.Ground.data }, { on := 11, ground := Go.Ground.gcOnly Go.Departure.lateStores }], guard := none }) (v := .bool tm.2) rfl (by kernel_rfl) (by kernel_rfl) (by kernel_rfl) (fun _ _ _ h => HP.out _ _ _ _ _ h) (by rfl) ?_ o9 ?_
    · (intro wq hSw; go_simp <;> with_reducible rfl)
    try simp only [Act.put, List.setIfInBounds_toArray, List.set_cons_zero, List.set_cons_succ]
    refine take_make (i := 10) (oi := { dst := some 10, op := Go.Op.alloc 60, type := 0, pos := "law.go:364", after := #[], guard := none }) (v := .pointer (some ⟨w9.heap.size, 0, none⟩)) (w' := w9.alloc (.cells #[.int .i64 0, .int .i64 0, .int .i64 0, .int .i64 0, .int .i64 0] 60)) rfl (by kernel_rfl) (by rfl) (by go_simp <;> with_reducible rfl) (o9.alloc _) ?_
    try simp only [Act.put, List.setIfInBounds_toArray, List.set_cons_zero, List.set_cons_succ]
    have c9 : (w9.alloc (.cells #[.int .i64 0, .int .i64 0, .int .i64 0, .int .i64 0, .int .i64 0] 60)).heap[w9.heap.size]? = some (.cells #[.int .i64 0, .int .i64 0, .int .i64 0, .int .i64 0, .int .i64 0] 60 (0, 0)) := heap_alloc_new w9 _
    have m10 : MvIn (w9.alloc (.cells #[.int .i64 0, .int .i64 0, .int .i64 0, .int .i64 0, .int .i64 0] 60)) base G tm.1 := m9.alloc _
    have o10 : OnlyR w (w9.alloc (.cells #[.int .i64 0, .int .i64 0, .int .i64 0, .int .i64 0, .int .i64 0] 60)) G := o9.alloc _
    have l9 : w.heap.size ≤ w9.heap.size := o9.size
    generalize w9.alloc (.cells #[.int .i64 0, .int .i64 0, .int .i64 0, .int .i64 0, .int .i64 0] 60) = w10 at *
    generalize w9.heap.size = Bc at *
    have nG : Bc ≠ G := fun e => by have := HM.out.lt; omega
    have oS : OnlyR w (w10.setRow Bc tc) G := ⟨o10.os, o10.tape, o10.output, by simpa using o10.size, fun k hk hn => (setRow_other _ _ _ _ (by omega)).trans (o10.block k hk hn)⟩
    have mS : MvIn (w10.setRow Bc tc) base G tm.1 := m10.other (Q := Bc) nG c9 (fun cur z e => by injection e with _ e; exact absurd e (by decide)) (fun g hg _ => setRow_other _ _ _ _ hg)
    refine take_store_row (i := 11) (oi := { dst := none, op := Go.Op.store 60 (Go.Operand.tmp 10) (Go.Operand.tmp 117), type := 0, pos := "law.go:364", after := #[{ on := 10, ground := Go.Ground.data }, { on := 8, ground := Go.Ground.data }, { on := 6, ground := Go.Ground.chain }, { on := 0, ground := Go.Ground.phase }, { on := 1, ground := Go.Ground.phase }, { on := 2, ground := Go.Ground.phase }, { on := 3, ground := Go.Ground.phase }, { on := 4, ground := Go.Ground.phase }, { on := 5, ground := Go.Ground.phase }, { on := 6, ground := Go.Ground.phase }, { on := 7, ground := Go.Ground.phase }, { on := 8, ground := Go.Ground.phase }, { on := 9, ground := Go.Ground.textOnly Go.Departure.lateStores }, { on := 10, ground := Go.Ground.phase }], guard := none }) rfl (by kernel_rfl) (by rfl) 60 (.tmp 10) (.tmp 117) Bc tc 60 _ rfl (by go_simp <;> with_reducible rfl) (by go_simp <;> with_reducible rfl) c9 TA1.out TA2.out TA3.out oS ?_
    try simp only [Act.put]
    refine take_run (i := 12) (oi := { dst := some 11, op := Go.Op.assign (Go.Operand.tmp 118), type := 4, pos := "law.go:364", after := #[{ on := 9, ground := Go.Ground.data }, { on := 11, ground := Go.Ground.chain }, { on := 0, ground := Go.Ground.phase }, { on := 1, ground := Go.Ground.phase }, { on := 2, ground := Go.Ground.phase }, { on := 3, ground := Go.Ground.phase }, { on := 4, ground := Go.Ground.phase }, { on := 5, ground := Go.Ground.phase }, { on := 6, ground := Go.Ground.phase }, { on := 7, ground := Go.Ground.phase }, { on := 8, ground := Go.Ground.phase }, { on := 9, ground := Go.Ground.phase }, { on := 10, ground := Go.Ground.phase }, { on := 11, ground := Go.Ground.phase }], guard := none }) (v := .bool tm.2) rfl (by kernel_rfl) (by kernel_rfl) (by kernel_rfl) (fun _ _ _ h => HP.out _ _ _ _ _ h) (by rfl) ?_ oS ?_
    · (intro wq hSw; go_simp <;> with_reducible rfl)
    try simp only [Act.put, List.setIfInBounds_toArray, List.set_cons_zero, List.set_cons_succ]
    refine wpAnyH_done (by kernel_rfl) ?_ _
    exact HQ.out _ Bc _ _ _ _ _ _ _ _ _ _ mS oS (setRow_self c9) l9
  · try simp only [Act.put, List.setIfInBounds_toArray, List.set_cons_zero, List.set_cons_succ]
    have c8 : (w.drew.alloc (.cells #[.int .i64 0, .int .i64 0, .int .i64 0, .int .i64 0, .int .i64 0] 60)).heap[w.drew.heap.size]? = some (.cells #[.int .i64 0, .int .i64 0, .int .i64 0, .int .i64 0, .int .i64 0] 60 (0, 0)) := heap_alloc_new w.drew _
    have b8 : Below w.heap.size w (w.drew.alloc (.cells #[.int .i64 0, .int .i64 0, .int .i64 0, .int .i64 0, .int .i64 0] 60)) := bD.alloc bD.size _
    have l9 : w.heap.size ≤ w.drew.heap.size := bD.size
    have nB : w.drew.heap.size ≠ G := by have := HM.out.lt; omega
    have lB : w.drew.heap.size < (w.drew.alloc (.cells #[.int .i64 0, .int .i64 0, .int .i64 0, .int .i64 0, .int .i64 0] 60)).heap.size := by simp
    generalize w.drew.alloc (.cells #[.int .i64 0, .int .i64 0, .int .i64 0, .int .i64 0, .int .i64 0] 60) = w8 at *
    generalize w.drew.heap.size = Bc at *
    refine take_call (i := 6) (oi := { dst := some 116, op := Go.Op.call { callee := Go.Callee.value (Go.Operand.func 14), args := #[Go.Operand.tmp 110, Go.Operand.tmp 111, Go.Operand.tmp 114, Go.Operand.tmp 115], argTypes := #[23, 47, 54, 57] }, type := 61, pos := "law.go:364", after := #[{ on := 0, ground := Go.Ground.data }, { on := 1, ground := Go.Ground.data }, { on := 4, ground := Go.Ground.data }, { on := 5, ground := Go.Ground.data }], guard := none }) rfl (by kernel_rfl) (by rfl) 14 _ (by go_simp <;> with_reducible rfl) ?_
    refine (HT.out _ b8).mono ?_
    rintro e w9 ⟨rfl, m9, o9'⟩
    have o9 : OnlyR w w9 G := (OnlyR.of_below b8 G).trans o9'
    refine ⟨_, rfl, o9, ?_⟩
    try simp only [Act.put, List.setIfInBounds_toArray, List.set_cons_zero, List.set_cons_succ]
    have c9 : w9.heap[Bc]? = some (.cells #[.int .i64 0, .int .i64 0, .int .i64 0, .int .i64 0, .int .i64 0] 60 (0, 0)) := (o9'.block _ lB nB).trans c8
    refine take_run (i := 7) (oi := { dst := some 109, op := Go.Op.move (Go.Operand.tmp 116), type := 61, pos := "law.go:364", after := #[{ on := 6, ground := Go.Ground.data }], guard := none }) (v := .tuple #[.agg tc, .bool tm.2]) rfl (by kernel_rfl) (by kernel_rfl) (by kernel_rfl) (fun _ _ _ h => HP.out _ _ _ _ _ h) (by rfl) ?_ o9 ?_
    · (intro wq hSw; go_simp <;> with_reducible rfl)
    try simp only [Act.put, List.setIfInBounds_toArray, List.set_cons_zero, List.set_cons_succ]
    refine take_run (i := 8) (oi := { dst := some 117, op := Go.Op.extract (Go.Operand.tmp 109) 0, type := 60, pos := "law.go:364", after := #[{ on := 7, ground := Go.Ground.data }], guard := none }) (v := .agg tc) rfl (by kernel_rfl) (by kernel_rfl) (by kernel_rfl) (fun _ _ _ h => HP.out _ _ _ _ _ h) (by rfl) ?_ o9 ?_
    · (intro wq hSw; go_simp <;> with_reducible rfl)
    try simp only [Act.put, List.setIfInBounds_toArray, List.set_cons_zero, List.set_cons_succ]
    refine take_run (i := 9) (oi := { dst := some 118, op := Go.Op.extract (Go.Operand.tmp 109) 1, type := 4, pos := "law.go:364", after := #[{ on := 7, ground := Go.Ground.data }, { on := 11, ground := Go.Ground.gcOnly Go.Departure.lateStores }], guard := none }) (v := .bool tm.2) rfl (by kernel_rfl) (by kernel_rfl) (by kernel_rfl) (fun _ _ _ h => HP.out _ _ _ _ _ h) (by rfl) ?_ o9 ?_
    · (intro wq hSw; go_simp <;> with_reducible rfl)
    try simp only [Act.put, List.setIfInBounds_toArray, List.set_cons_zero, List.set_cons_succ]
    have nG : Bc ≠ G := fun e => by have := HM.out.lt; omega
    have oS : OnlyR w (w9.setRow Bc tc) G := ⟨o9.os, o9.tape, o9.output, by simpa using o9.size, fun k hk hn => (setRow_other _ _ _ _ (by omega)).trans (o9.block k hk hn)⟩
    have mS : MvIn (w9.setRow Bc tc) base G tm.1 := m9.other (Q := Bc) nG c9 (fun cur z e => by injection e with _ e; exact absurd e (by decide)) (fun g hg _ => setRow_other _ _ _ _ hg)
    refine take_store_row (i := 11) (oi := { dst := none, op := Go.Op.store 60 (Go.Operand.tmp 10) (Go.Operand.tmp 117), type := 0, pos := "law.go:364", after := #[{ on := 10, ground := Go.Ground.data }, { on := 8, ground := Go.Ground.data }, { on := 6, ground := Go.Ground.chain }, { on := 0, ground := Go.Ground.phase }, { on := 1, ground := Go.Ground.phase }, { on := 2, ground := Go.Ground.phase }, { on := 3, ground := Go.Ground.phase }, { on := 4, ground := Go.Ground.phase }, { on := 5, ground := Go.Ground.phase }, { on := 6, ground := Go.Ground.phase }, { on := 7, ground := Go.Ground.phase }, { on := 8, ground := Go.Ground.phase }, { on := 9, ground := Go.Ground.textOnly Go.Departure.lateStores }, { on := 10, ground := Go.Ground.phase }], guard := none }) rfl (by kernel_rfl) (by rfl) 60 (.tmp 10) (.tmp 117) Bc tc 60 _ rfl (by go_simp <;> with_reducible rfl) (by go_simp <;> with_reducible rfl) c9 TA1.out TA2.out TA3.out oS ?_
    try simp only [Act.put]
    refine take_run (i := 12) (oi := { dst := some 11, op := Go.Op.assign (Go.Operand.tmp 118), type := 4, pos := "law.go:364", after := #[{ on := 9, ground := Go.Ground.data }, { on := 11, ground := Go.Ground.chain }, { on := 0, ground := Go.Ground.phase }, { on := 1, ground := Go.Ground.phase }, { on := 2, ground := Go.Ground.phase }, { on := 3, ground := Go.Ground.phase }, { on := 4, ground := Go.Ground.phase }, { on := 5, ground := Go.Ground.phase }, { on := 6, ground := Go.Ground.phase }, { on := 7, ground := Go.Ground.phase }, { on := 8, ground := Go.Ground.phase }, { on := 9, ground := Go.Ground.phase }, { on := 10, ground := Go.Ground.phase }, { on := 11, ground := Go.Ground.phase }], guard := none }) (v := .bool tm.2) rfl (by kernel_rfl) (by kernel_rfl) (by kernel_rfl) (fun _ _ _ h => HP.out _ _ _ _ _ h) (by rfl) ?_ oS ?_
    · (intro wq hSw; go_simp <;> with_reducible rfl)
    try simp only [Act.put, List.setIfInBounds_toArray, List.set_cons_zero, List.set_cons_succ]
    refine wpAnyH_done (by kernel_rfl) ?_ _
    exact HQ.out _ Bc _ _ _ _ _ _ _ _ _ _ mS oS (setRow_self c9) l9
end Go.Proofs.Ytcmhkeaimgppgaa
