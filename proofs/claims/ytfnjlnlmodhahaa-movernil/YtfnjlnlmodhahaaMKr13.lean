/- The law's fixed calls: the second answer. -/
import Derived.Test.YtfnjlnlmodhahaaMKt
namespace Go.Proofs.Ytfnjlnlmodhahaa
open Go.RowKit Go.Shelf
attribute [local go_sem] Oper.semAt_some
set_option linter.unusedVariables false

set_option maxRecDepth 100000 in
set_option maxHeartbeats 8000000 in
theorem known_r13 (s0 s4 s5 s6 s7 s8 s9 s10 s11 s12 s13 s14 s15 s16 s17 s18 s19 s20 s21 s22 s23 s24 s25 s26 s27 s28 s29 s30 s31 s32 s33 s34 s35 s36 s37 s38 s39 s40 s41 s42 s43 s44 s45 s46 s47 s48 s49 s50 s51 s52 s53 s54 s55 s56 s57 s58 s59 s60 s61 s62 s63 s64 s65 s66 s67 s68 s69 s70 s71 s72 s73 s74 s75 s76 s77 s78 s79 s80 s81 s82 s83 s84 s85 s86 s87 s88 s89 s90 s91 s92 s93 s94 s95 s96 s97 s98 s99 s100 s101 s102 s103 s104 s105 s106 s107 s108 s109 s110 s111 s112 s113 s114 s115 s116 s117 s118 s119 s120 s121 s122 : Value) (w : World) (base : Bs) (G Bx g c : Nat) (M : MD) (x : MvD) (C : List Value) (q : AskI) (cur : Array Value) (r : ResD) (hr : r = ⟨0, false, 0, 0, .slice none 0 0, none, 0, []⟩) (hC : AskC C q) (hm : MvIn w base G M) (hb : base.ok w.heap.size) (hx : w.heap[Bx]? = some (.cells #[.int .i64 x.slot, .int .i64 x.fr, .int .i64 x.to, .int .i64 x.ep, .int .i64 x.ph, .int .i64 x.n] 28 (0, 0))) (hgc : w.heap[g]? = some (.cells cur 37 (0, 0))) (hl : w.rangeAt g 0 C)
    (Q : Exit → Act → World → Prop) (hP : ∀ c (a : Act) (d : Tmp) (v : Value) w, Q (.panic c) (a.put (some d) v) w → Q (.panic c) a w)
    (hQ : ∀ (W' : World) (v72 v73 v74 v75 v76 v77 v78 : Value), MvIn W' base G (toldM M x q r).1 → OnlyR w W' G → Q .normal { tmps := #[s0, .pointer (some ⟨G, 0, none⟩), .pointer (some ⟨Bx, 0, none⟩), .slice (some ⟨g, 0, none⟩) 1 c, s4, s5, s6, s7, s8, s9, s10, s11, s12, s13, s14, s15, s16, s17, s18, s19, s20, s21, s22, s23, s24, s25, s26, s27, s28, s29, s30, s31, s32, s33, s34, s35, s36, s37, s38, s39, s40, s41, s42, s43, s44, s45, s46, s47, s48, s49, s50, s51, s52, s53, s54, s55, s56, s57, s58, s59, s60, s61, s62, s63, s64, s65, s66, s67, s68, s69, s70, s71, v72, v73, v74, v75, v76, v77, v78, s79, s80, s81, s82, s83, s84, s85, s86, s87, s88, s89, s90, s91, s92, s93, s94, s95, s96, s97, s98, s99, s100, s101, s102, s103, s104, s105, s106, s107, s108, s109, s110, s111, s112, s113, s114, s115, s116, s117, s118, s119, s120, s121, s122], defers := [] } W') :
    (Code.region 13 #[{ dst := some 72, op := Go.Op.move (Go.Operand.tmp 1), type := 24, pos := "law.go:71", after := #[], guard := none }, { dst := some 73, op := Go.Op.load 28 (Go.Operand.tmp 2), type := 28, pos := "law.go:71", after := #[], guard := none }, { dst := some 74, op := Go.Op.move (Go.Operand.tmp 3), type := 29, pos := "law.go:71", after := #[], guard := none }, { dst := some 75, op := Go.Op.indexAddr 29 (Go.Operand.tmp 74) (Go.Operand.const (Go.Value.int Go.IntKind.i64 0)), type := 0, pos := "law.go:71", after := #[{ on := 2, ground := Go.Ground.data }], guard := none }, { dst := some 76, op := Go.Op.load 37 (Go.Operand.tmp 75), type := 37, pos := "law.go:71", after := #[{ on := 3, ground := Go.Ground.data }], guard := none }, { dst := some 77, op := Go.Op.build 46 #[], type := 46, pos := "law.go:71", after := #[], guard := none }, { dst := some 78, op := Go.Op.call { callee := Go.Callee.value (Go.Operand.func 9), args := #[Go.Operand.tmp 72, Go.Operand.tmp 73, Go.Operand.tmp 76, Go.Operand.tmp 77], argTypes := #[24, 28, 37, 46] }, type := 40, pos := "law.go:71", after := #[{ on := 0, ground := Go.Ground.data }, { on := 1, ground := Go.Ground.data }, { on := 4, ground := Go.Ground.data }, { on := 5, ground := Go.Ground.data }], guard := none }] true).wp Try.prog Q { tmps := #[s0, .pointer (some ⟨G, 0, none⟩), .pointer (some ⟨Bx, 0, none⟩), .slice (some ⟨g, 0, none⟩) 1 c, s4, s5, s6, s7, s8, s9, s10, s11, s12, s13, s14, s15, s16, s17, s18, s19, s20, s21, s22, s23, s24, s25, s26, s27, s28, s29, s30, s31, s32, s33, s34, s35, s36, s37, s38, s39, s40, s41, s42, s43, s44, s45, s46, s47, s48, s49, s50, s51, s52, s53, s54, s55, s56, s57, s58, s59, s60, s61, s62, s63, s64, s65, s66, s67, s68, s69, s70, s71, s72, s73, s74, s75, s76, s77, s78, s79, s80, s81, s82, s83, s84, s85, s86, s87, s88, s89, s90, s91, s92, s93, s94, s95, s96, s97, s98, s99, s100, s101, s102, s103, s104, s105, s106, s107, s108, s109, s110, s111, s112, s113, s114, s115, s116, s117, s118, s119, s120, s121, s122], defers := [] } w := by
  obtain ⟨ma, mc, mg, _⟩ := hm.ex
  have nx : Bx ≠ G := fun e => by
    rw [e, mg] at hx
    injection hx with hx
    injection hx with _ hx
    exact absurd hx (by decide)
  have ng : g ≠ G := fun e => by
    rw [e, mg] at hgc
    injection hgc with hgc
    injection hgc with _ hgc
    exact absurd hgc (by decide)
  have lx : Bx < w.heap.size := (Array.getElem?_eq_some_iff.1 hx).1
  have lg : g < w.heap.size := (Array.getElem?_eq_some_iff.1 hgc).1
  have BX : Hid (∀ W, OnlyR w W G → W.heap[Bx]? = some (.cells #[.int .i64 x.slot, .int .i64 x.fr, .int .i64 x.to, .int .i64 x.ep, .int .i64 x.ph, .int .i64 x.n] 28 (0, 0))) := fun W hW => (hW.block _ lx nx).trans hx
  have BL : Hid (∀ W, OnlyR w W G → W.rangeAt g 0 C) := fun W hW j v hv => by
    have := hl j v hv
    simp only [World.cell?] at this ⊢
    rw [hW.block _ lg ng]
    exact this
  have HSZ : Hid ((Try.prog.info? 37).map (·.size) = some C.length) := by
    have e : (Try.prog.info? 37).map (·.size) = some 18 := by kernel_rfl
    show _ = _
    rw [e, hC.len]
  have HM : Hid (MvIn w base G M) := hm
  have HB : Hid (base.ok w.heap.size) := hb
  have HC : Hid (AskC C q) := hC
  have HQ : Hid _ := hQ
  have HP : Hid _ := hP
  have HT : Hid (∀ W, Below w.heap.size w W → Calls Try.prog 9 #[.pointer (some ⟨G, 0, none⟩), .agg #[.int .i64 x.slot, .int .i64 x.fr, .int .i64 x.to, .int .i64 x.ep, .int .i64 x.ph, .int .i64 x.n], .agg C.toArray, .agg #[.int .i64 0, .bool false, .int .i64 0, .int .i64 0, .slice none 0 0, .slice none 0 0]] W fun e w' => e = .returned (.tuple #[.agg (toldC (toldM M x q r).2 x), .bool (toldM M x q r).2]) ∧ MvIn w' base G (toldM M x q r).1 ∧ OnlyR W w' G) := fun W hW => by
    have := told_any (hm.below hW) (hb.mono hW.size) x C q hC r (by rw [hr]; exact ⟨seen_nil W, fun _ => rfl, by simp⟩)
    rw [hr] at this ⊢
    exact this
  have TA1 : Hid ((Try.prog.info? 39).map (·.size) = some (toldC (toldM M x q r).2 x).size) := by show _ = _; cases (toldM M x q r).2 <;> kernel_rfl
  have TA2 : Hid ((#[.int .i64 0, .int .i64 0, .int .i64 0, .int .i64 0, .int .i64 0] : Array Value).size = (toldC (toldM M x q r).2 x).size) := by show _ = _; cases (toldM M x q r).2 <;> rfl
  have TA3 : Hid ((toldC (toldM M x q r).2 x).all (·.oneCell') = true) := by show _ = _; cases (toldM M x q r).2 <;> simp [toldC, Value.oneCell']
  clear hx hgc hl mg nx ng lx lg hm hb hC hQ hP hr
  generalize toldM M x q r = tm at *
  generalize toldC tm.2 x = tc at *
  refine wp_region_held_drew (S := fun W => OnlyR w W G) (by kernel_rfl) (OnlyR.of_below (Below.refl _ w).drew G) (fun hHeld => ?_)
  have bD : Below w.heap.size w w.drew := (Below.refl _ w).drew
  refine take_run (i := 0) (oi := { dst := some 72, op := Go.Op.move (Go.Operand.tmp 1), type := 24, pos := "law.go:71", after := #[], guard := none }) (v := .pointer (some ⟨G, 0, none⟩)) rfl (by kernel_rfl) (by kernel_rfl) (by kernel_rfl) (fun _ _ _ h => HP.out _ _ _ _ _ h) (by rfl) ?_ hHeld ?_
  · (intro wq hSw; go_simp <;> with_reducible rfl)
  try simp only [Act.put, List.setIfInBounds_toArray, List.set_cons_zero, List.set_cons_succ]
  refine take_row (i := 1) (oi := { dst := some 73, op := Go.Op.load 28 (Go.Operand.tmp 2), type := 28, pos := "law.go:71", after := #[], guard := none }) rfl (by kernel_rfl) (by kernel_rfl) (by kernel_rfl) 28 (.tmp 2) Bx 28 #[.int .i64 x.slot, .int .i64 x.fr, .int .i64 x.to, .int .i64 x.ep, .int .i64 x.ph, .int .i64 x.n] (0, 0) _ (fun _ _ _ h => HP.out _ _ _ _ _ h) (by rfl) rfl (by go_simp <;> with_reducible rfl) (fun W hW => BX.out W hW) Try.underlying28 rfl (by kernel_rfl) hHeld ?_
  try simp only [Act.put, List.setIfInBounds_toArray, List.set_cons_zero, List.set_cons_succ]
  refine take_run (i := 2) (oi := { dst := some 74, op := Go.Op.move (Go.Operand.tmp 3), type := 29, pos := "law.go:71", after := #[], guard := none }) (v := .slice (some ⟨g, 0, none⟩) 1 c) rfl (by kernel_rfl) (by kernel_rfl) (by kernel_rfl) (fun _ _ _ h => HP.out _ _ _ _ _ h) (by rfl) ?_ hHeld ?_
  · (intro wq hSw; go_simp <;> with_reducible rfl)
  try simp only [Act.put, List.setIfInBounds_toArray, List.set_cons_zero, List.set_cons_succ]
  refine take_run (i := 3) (oi := { dst := some 75, op := Go.Op.indexAddr 29 (Go.Operand.tmp 74) (Go.Operand.const (Go.Value.int Go.IntKind.i64 0)), type := 0, pos := "law.go:71", after := #[{ on := 2, ground := Go.Ground.data }], guard := none }) (v := .pointer (some ⟨g, 0, none⟩)) rfl (by kernel_rfl) (by kernel_rfl) (by kernel_rfl) (fun _ _ _ h => HP.out _ _ _ _ _ h) (by rfl) ?_ hHeld ?_
  · (intro wq hSw; go_simp <;> with_reducible rfl)
  try simp only [Act.put, List.setIfInBounds_toArray, List.set_cons_zero, List.set_cons_succ]
  refine take_mid (i := 4) (oi := { dst := some 76, op := Go.Op.load 37 (Go.Operand.tmp 75), type := 37, pos := "law.go:71", after := #[{ on := 3, ground := Go.Ground.data }], guard := none }) rfl (by kernel_rfl) (by kernel_rfl) (by kernel_rfl) 37 (.tmp 75) g 0 C _ (fun _ _ _ h => HP.out _ _ _ _ _ h) (by rfl) rfl (by go_simp <;> with_reducible rfl) (fun W hW => BL.out W hW) Try.underlying37 rfl HSZ.out hHeld ?_
  try simp only [Act.put, List.setIfInBounds_toArray, List.set_cons_zero, List.set_cons_succ]
  refine take_run (i := 5) (oi := { dst := some 77, op := Go.Op.build 46 #[], type := 46, pos := "law.go:71", after := #[], guard := none }) (v := .agg #[.int .i64 0, .bool false, .int .i64 0, .int .i64 0, .slice none 0 0, .slice none 0 0]) rfl (by kernel_rfl) (by kernel_rfl) (by kernel_rfl) (fun _ _ _ h => HP.out _ _ _ _ _ h) (by rfl) ?_ hHeld ?_
  · (intro wq hSw; go_simp <;> with_reducible rfl)
  try simp only [Act.put, List.setIfInBounds_toArray, List.set_cons_zero, List.set_cons_succ]
  refine take_call (i := 6) (oi := { dst := some 78, op := Go.Op.call { callee := Go.Callee.value (Go.Operand.func 9), args := #[Go.Operand.tmp 72, Go.Operand.tmp 73, Go.Operand.tmp 76, Go.Operand.tmp 77], argTypes := #[24, 28, 37, 46] }, type := 40, pos := "law.go:71", after := #[{ on := 0, ground := Go.Ground.data }, { on := 1, ground := Go.Ground.data }, { on := 4, ground := Go.Ground.data }, { on := 5, ground := Go.Ground.data }], guard := none }) rfl (by kernel_rfl) (by rfl) 9 _ (by go_simp <;> with_reducible rfl) ?_
  refine (HT.out _ bD).mono ?_
  rintro e w9 ⟨rfl, m9, o9'⟩
  have o9 : OnlyR w w9 G := hHeld.trans o9'
  refine ⟨_, rfl, o9, ?_⟩
  try simp only [Act.put, List.setIfInBounds_toArray, List.set_cons_zero, List.set_cons_succ]
  refine wpAnyH_done (by kernel_rfl) ?_ _
  exact HQ.out _ _ _ _ _ _ _ _ m9 o9
end Go.Proofs.Ytfnjlnlmodhahaa
