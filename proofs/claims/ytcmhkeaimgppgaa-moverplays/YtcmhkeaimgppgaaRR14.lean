/- The reference's Asks: a piece is copied. -/
import Derived.Test.YtcmhkeaimgppgaaRSame
import Derived.Test.YtcmhkeaimgppgaaMGiven
namespace Go.Proofs.Ytcmhkeaimgppgaa
open Go.RowKit Go.Shelf
attribute [local go_sem] Oper.semAt_some
set_option linter.unusedVariables false

theorem exec_append {P : Program} {ρ : Operand → Value} {o : Oper} {x y : Operand} {t tn : TypeId} {vs vx v' : Value} {w w' : World} (ho : o.op = .call { callee := .builtin .append, args := #[x, y], argTypes := #[t, tn] }) (hs : ρ x = vs) (hx : ρ y = vx) (hr : (Builtin.append_ #[t, tn] o.type #[vs, vx]).run P w = .ok v' w') : (execOp ρ o).run P w = .ok (.value v') w' := by
  simp [execOp, ho, resolve, invoke, builtin, hs, hx, hr, Result.andThen]
set_option maxRecDepth 100000 in
set_option maxHeartbeats 4000000 in
theorem rasks_r14 (s1 s2 s3 s4 s6 s8 s9 s10 s11 s12 s13 s14 s15 s16 s17 s18 s19 s20 s21 s22 s23 s24 s25 s26 s27 s28 s29 s30 s31 s32 s33 s34 s35 s36 s37 s38 s39 s40 s41 s42 s43 s44 s45 s46 s47 s48 s49 s50 s51 s52 s53 s54 s55 s56 s57 s58 s59 s60 s61 s62 s63 s64 s65 s66 s67 s68 s69 s70 s71 s72 s73 s74 s75 s76 s77 s78 s79 s80 s81 s82 s83 s84 s85 s86 s87 s88 s89 s90 s91 s92 : Value) (V : World) (G N at_ len c e : Nat) (a : Option Addr) (hs : Bool) (nn : Int) (C : Array Value) (base : Nat) (l : List (BitVec 8))
    (hG : V.heap[G]? = some (.cells #[.int .i64 nn, .bool hs, .slice a len c, .int .i64 (at_ : Int)] 28 (0, 0))) (hN : V.heap[N]? = some (.cells C 33 (0, 0))) (hC : C[16]? = some (.slice none 0 0)) (ho : V.ownsRow base 5 1 (.slice a len c) len (cellsOf l)) (h1 : at_ ≤ e) (h2 : e ≤ len) (h3 : len ≤ 140737488351232)
    (Q : Exit → Act → World → Prop) (hP : ∀ c (a : Act) (d : Tmp) (v : Value) w, Q (.panic c) (a.put (some d) v) w → Q (.panic c) a w)
    (hQ : ∀ (W' : World) (ua : Option Addr) (uc : Nat) (v65 v66 v67 v68 v69 v70 v71 v72 v73 v74 v75 v76 v77 v78 : Value), Below V.heap.size V W' → W'.ownsRow V.heap.size 5 1 (.slice ua (e - at_) uc) (e - at_) (cellsOf ((l.drop at_).take (e - at_))) → W'.heap[N]? = some (.cells C 33 (0, 0)) → Q .normal { tmps := #[.pointer (some ⟨G, 0, none⟩), s1, s2, s3, s4, .pointer (some ⟨N, 0, none⟩), s6, .int .i64 (e : Int), s8, s9, s10, s11, s12, s13, s14, s15, s16, s17, s18, s19, s20, s21, s22, s23, s24, s25, s26, s27, s28, s29, s30, s31, s32, s33, s34, s35, s36, s37, s38, s39, s40, s41, s42, s43, s44, s45, s46, s47, s48, s49, s50, s51, s52, s53, s54, s55, s56, s57, s58, s59, s60, s61, s62, s63, s64, v65, v66, v67, v68, v69, v70, v71, v72, v73, v74, v75, v76, v77, v78, s79, s80, s81, s82, s83, s84, s85, s86, s87, s88, s89, s90, s91, s92], defers := [] } (W'.setCell ⟨N, 16, none⟩ (.slice ua (e - at_) uc))) :
    (Code.region 14 #[{ dst := some 65, op := Go.Op.fieldAddr 33 (Go.Operand.tmp 5) 10, type := 0, pos := "ref.go:49", after := #[], guard := none }, { dst := some 66, op := Go.Op.load 26 (Go.Operand.tmp 65), type := 26, pos := "ref.go:49", after := #[{ on := 0, ground := Go.Ground.data }], guard := none }, { dst := some 67, op := Go.Op.move (Go.Operand.tmp 0), type := 25, pos := "ref.go:49", after := #[], guard := none }, { dst := some 68, op := Go.Op.nilCheck (Go.Operand.tmp 67), type := 0, pos := "ref.go:49", after := #[{ on := 2, ground := Go.Ground.data }], guard := none }, { dst := some 69, op := Go.Op.fieldAddr 28 (Go.Operand.tmp 68) 2, type := 0, pos := "ref.go:49", after := #[{ on := 3, ground := Go.Ground.data }], guard := none }, { dst := some 70, op := Go.Op.load 26 (Go.Operand.tmp 69), type := 26, pos := "ref.go:49", after := #[{ on := 4, ground := Go.Ground.data }], guard := none }, { dst := some 71, op := Go.Op.move (Go.Operand.tmp 0), type := 25, pos := "ref.go:49", after := #[], guard := none }, { dst := some 72, op := Go.Op.nilCheck (Go.Operand.tmp 71), type := 0, pos := "ref.go:49", after := #[{ on := 6, ground := Go.Ground.data }], guard := none }, { dst := some 73, op := Go.Op.fieldAddr 28 (Go.Operand.tmp 72) 3, type := 0, pos := "ref.go:49", after := #[{ on := 7, ground := Go.Ground.data }], guard := none }, { dst := some 74, op := Go.Op.load 3 (Go.Operand.tmp 73), type := 3, pos := "ref.go:49", after := #[{ on := 8, ground := Go.Ground.data }], guard := none }, { dst := some 75, op := Go.Op.move (Go.Operand.tmp 7), type := 3, pos := "ref.go:49", after := #[], guard := none }, { dst := some 76, op := Go.Op.slice 26 (Go.Operand.tmp 70) (some (Go.Operand.tmp 74)) (some (Go.Operand.tmp 75)) none, type := 26, pos := "ref.go:49", after := #[{ on := 5, ground := Go.Ground.data }, { on := 9, ground := Go.Ground.data }, { on := 10, ground := Go.Ground.data }], guard := none }, { dst := some 77, op := Go.Op.call { callee := Go.Callee.builtin Go.Builtin.append, args := #[Go.Operand.tmp 66, Go.Operand.tmp 76], argTypes := #[26, 26] }, type := 26, pos := "ref.go:49", after := #[{ on := 1, ground := Go.Ground.data }, { on := 11, ground := Go.Ground.data }], guard := none }, { dst := some 78, op := Go.Op.fieldAddr 33 (Go.Operand.tmp 5) 10, type := 0, pos := "ref.go:49", after := #[{ on := 0, ground := Go.Ground.phase }, { on := 1, ground := Go.Ground.phase }, { on := 2, ground := Go.Ground.phase }, { on := 3, ground := Go.Ground.phase }, { on := 4, ground := Go.Ground.phase }, { on := 5, ground := Go.Ground.phase }, { on := 6, ground := Go.Ground.phase }, { on := 7, ground := Go.Ground.phase }, { on := 8, ground := Go.Ground.phase }, { on := 9, ground := Go.Ground.phase }, { on := 10, ground := Go.Ground.phase }, { on := 11, ground := Go.Ground.phase }, { on := 12, ground := Go.Ground.phase }], guard := none }, { dst := none, op := Go.Op.store 26 (Go.Operand.tmp 78) (Go.Operand.tmp 77), type := 0, pos := "ref.go:49", after := #[{ on := 13, ground := Go.Ground.data }, { on := 12, ground := Go.Ground.data }, { on := 12, ground := Go.Ground.chain }, { on := 0, ground := Go.Ground.phase }, { on := 1, ground := Go.Ground.phase }, { on := 2, ground := Go.Ground.phase }, { on := 3, ground := Go.Ground.phase }, { on := 4, ground := Go.Ground.phase }, { on := 5, ground := Go.Ground.phase }, { on := 6, ground := Go.Ground.phase }, { on := 7, ground := Go.Ground.phase }, { on := 8, ground := Go.Ground.phase }, { on := 9, ground := Go.Ground.phase }, { on := 10, ground := Go.Ground.phase }, { on := 11, ground := Go.Ground.phase }, { on := 12, ground := Go.Ground.phase }], guard := none }] true).wp Try.prog Q { tmps := #[.pointer (some ⟨G, 0, none⟩), s1, s2, s3, s4, .pointer (some ⟨N, 0, none⟩), s6, .int .i64 (e : Int), s8, s9, s10, s11, s12, s13, s14, s15, s16, s17, s18, s19, s20, s21, s22, s23, s24, s25, s26, s27, s28, s29, s30, s31, s32, s33, s34, s35, s36, s37, s38, s39, s40, s41, s42, s43, s44, s45, s46, s47, s48, s49, s50, s51, s52, s53, s54, s55, s56, s57, s58, s59, s60, s61, s62, s63, s64, s65, s66, s67, s68, s69, s70, s71, s72, s73, s74, s75, s76, s77, s78, s79, s80, s81, s82, s83, s84, s85, s86, s87, s88, s89, s90, s91, s92], defers := [] } V := by
  have lG : G < V.heap.size := (Array.getElem?_eq_some_iff.1 hG).1
  have lN : N < V.heap.size := (Array.getElem?_eq_some_iff.1 hN).1
  have nGN : G ≠ N := fun e => by
    rw [e, hN] at hG
    injection hG with hG
    injection hG with _ hG
    exact absurd hG (by decide)
  have FG2 : Hid (∀ W, OnlyR V W N → W.cell? ⟨G, 2, none⟩ = some (.slice a len c)) := fun W hW => by
    show W.cell? ⟨G, 2, none⟩ = _
    simp only [World.cell?, (hW.block _ lG nGN).trans hG]
    rfl
  have FG3 : Hid (∀ W, OnlyR V W N → W.cell? ⟨G, 3, none⟩ = some (.int .i64 (at_ : Int))) := fun W hW => by
    show W.cell? ⟨G, 3, none⟩ = _
    simp only [World.cell?, (hW.block _ lG nGN).trans hG]
    rfl
  have FN : Hid (∀ W, Below V.heap.size V W → W.cell? ⟨N, 16, none⟩ = some (.slice none 0 0)) := fun W hW => by
    show W.cell? ⟨N, 16, none⟩ = _
    simp only [World.cell?, (hW.block _ lN).trans hN]
    exact hC
  have FF : Hid (∀ W, Below V.heap.size V W → W.frozen? ⟨N, 16, none⟩ = false) := fun W hW => by
    show W.frozen? ⟨N, 16, none⟩ = _
    simp only [World.frozen?, (hW.block _ lN).trans hN]
    rfl
  have lc : len ≤ c := by
    obtain ⟨a', c', e1, _, _, hh⟩ := owned_seen ho (by unfold maxLen; omega)
    cases e1
    exact hh
  obtain ⟨pa, pc, epv, hseen, hnil⟩ := piece_seen ho at_ e h1 h2 h3
  have hp : ∀ W, (Instr.sliceAt 26 (.slice a len c) (some (.int .i64 (at_ : Int))) (some (.int .i64 (e : Int))) none).run Try.prog W = .ok (.slice pa (e - at_) pc) W := fun W => by rw [← epv]; exact run_piece W a at_ e len c h1 (by omega)
  have bD : Below V.heap.size V V.drew := (Below.refl _ V).drew
  obtain ⟨v', w', hrun, hown, hb'⟩ := run_append_nil V.drew pa (e - at_) pc _ (hseen.below bD) hnil (by omega)
  obtain ⟨ua, uc, rfl, _⟩ := row_form hown
  have bw : Below V.heap.size V w' := bD.trans (hb'.mono bD.size)
  have xn := FN.out V.drew bD
  have fc := FN.out w' bw
  have ff := FF.out w' bw
  have b0 : OnlyR V V.drew N := OnlyR.of_below bD N
  have b1 : OnlyR V w' N := OnlyR.of_below bw N
  have HQ : Hid _ := hQ
  have HP : Hid _ := hP
  have HFIN : Hid (w'.ownsRow V.heap.size 5 1 (.slice ua (e - at_) uc) (e - at_) (cellsOf ((l.drop at_).take (e - at_))) ∧ w'.heap[N]? = some (.cells C 33 (0, 0))) := ⟨hown, (bw.block _ lN).trans hN⟩
  clear hG hN hC ho h1 h2 h3 hQ hP lG lN lc epv hseen hnil hb' hown nGN
  generalize e - at_ = m at *
  refine wp_region_held_drew (S := fun W => OnlyR V W N) (by kernel_rfl) b0 (fun _ => ?_)
  refine take_run (i := 0) (oi := { dst := some 65, op := Go.Op.fieldAddr 33 (Go.Operand.tmp 5) 10, type := 0, pos := "ref.go:49", after := #[], guard := none }) (v := .pointer (some ⟨N, 16, none⟩)) rfl (by kernel_rfl) (by kernel_rfl) (by kernel_rfl) (fun _ _ _ h => HP.out _ _ _ _ _ h) (by rfl) ?_ b0 ?_
  · (intro wq hSw; go_simp <;> with_reducible rfl)
  try simp only [Act.put, List.setIfInBounds_toArray, List.set_cons_zero, List.set_cons_succ]
  refine take_run (i := 2) (oi := { dst := some 67, op := Go.Op.move (Go.Operand.tmp 0), type := 25, pos := "ref.go:49", after := #[], guard := none }) (v := .pointer (some ⟨G, 0, none⟩)) rfl (by kernel_rfl) (by kernel_rfl) (by kernel_rfl) (fun _ _ _ h => HP.out _ _ _ _ _ h) (by rfl) ?_ b0 ?_
  · (intro wq hSw; go_simp <;> with_reducible rfl)
  try simp only [Act.put, List.setIfInBounds_toArray, List.set_cons_zero, List.set_cons_succ]
  refine take_run (i := 3) (oi := { dst := some 68, op := Go.Op.nilCheck (Go.Operand.tmp 67), type := 0, pos := "ref.go:49", after := #[{ on := 2, ground := Go.Ground.data }], guard := none }) (v := .pointer (some ⟨G, 0, none⟩)) rfl (by kernel_rfl) (by kernel_rfl) (by kernel_rfl) (fun _ _ _ h => HP.out _ _ _ _ _ h) (by rfl) ?_ b0 ?_
  · (intro wq hSw; go_simp <;> with_reducible rfl)
  try simp only [Act.put, List.setIfInBounds_toArray, List.set_cons_zero, List.set_cons_succ]
  refine take_run (i := 4) (oi := { dst := some 69, op := Go.Op.fieldAddr 28 (Go.Operand.tmp 68) 2, type := 0, pos := "ref.go:49", after := #[{ on := 3, ground := Go.Ground.data }], guard := none }) (v := .pointer (some ⟨G, 2, none⟩)) rfl (by kernel_rfl) (by kernel_rfl) (by kernel_rfl) (fun _ _ _ h => HP.out _ _ _ _ _ h) (by rfl) ?_ b0 ?_
  · (intro wq hSw; go_simp <;> with_reducible rfl)
  try simp only [Act.put, List.setIfInBounds_toArray, List.set_cons_zero, List.set_cons_succ]
  refine take_run (i := 5) (oi := { dst := some 70, op := Go.Op.load 26 (Go.Operand.tmp 69), type := 26, pos := "ref.go:49", after := #[{ on := 4, ground := Go.Ground.data }], guard := none }) (v := .slice a len c) rfl (by kernel_rfl) (by kernel_rfl) (by kernel_rfl) (fun _ _ _ h => HP.out _ _ _ _ _ h) (by rfl) ?_ b0 ?_
  · (intro wq hSw; have fx := FG2.out wq hSw; go_simp <;> with_reducible rfl)
  try simp only [Act.put, List.setIfInBounds_toArray, List.set_cons_zero, List.set_cons_succ]
  refine take_run (i := 6) (oi := { dst := some 71, op := Go.Op.move (Go.Operand.tmp 0), type := 25, pos := "ref.go:49", after := #[], guard := none }) (v := .pointer (some ⟨G, 0, none⟩)) rfl (by kernel_rfl) (by kernel_rfl) (by kernel_rfl) (fun _ _ _ h => HP.out _ _ _ _ _ h) (by rfl) ?_ b0 ?_
  · (intro wq hSw; go_simp <;> with_reducible rfl)
  try simp only [Act.put, List.setIfInBounds_toArray, List.set_cons_zero, List.set_cons_succ]
  refine take_run (i := 7) (oi := { dst := some 72, op := Go.Op.nilCheck (Go.Operand.tmp 71), type := 0, pos := "ref.go:49", after := #[{ on := 6, ground := Go.Ground.data }], guard := none }) (v := .pointer (some ⟨G, 0, none⟩)) rfl (by kernel_rfl) (by kernel_rfl) (by kernel_rfl) (fun _ _ _ h => HP.out _ _ _ _ _ h) (by rfl) ?_ b0 ?_
  · (intro wq hSw; go_simp <;> with_reducible rfl)
  try simp only [Act.put, List.setIfInBounds_toArray, List.set_cons_zero, List.set_cons_succ]
  refine take_run (i := 8) (oi := { dst := some 73, op := Go.Op.fieldAddr 28 (Go.Operand.tmp 72) 3, type := 0, pos := "ref.go:49", after := #[{ on := 7, ground := Go.Ground.data }], guard := none }) (v := .pointer (some ⟨G, 3, none⟩)) rfl (by kernel_rfl) (by kernel_rfl) (by kernel_rfl) (fun _ _ _ h => HP.out _ _ _ _ _ h) (by rfl) ?_ b0 ?_
  · (intro wq hSw; go_simp <;> with_reducible rfl)
  try simp only [Act.put, List.setIfInBounds_toArray, List.set_cons_zero, List.set_cons_succ]
  refine take_run (i := 9) (oi := { dst := some 74, op := Go.Op.load 3 (Go.Operand.tmp 73), type := 3, pos := "ref.go:49", after := #[{ on := 8, ground := Go.Ground.data }], guard := none }) (v := .int .i64 (at_ : Int)) rfl (by kernel_rfl) (by kernel_rfl) (by kernel_rfl) (fun _ _ _ h => HP.out _ _ _ _ _ h) (by rfl) ?_ b0 ?_
  · (intro wq hSw; have fx := FG3.out wq hSw; go_simp <;> with_reducible rfl)
  try simp only [Act.put, List.setIfInBounds_toArray, List.set_cons_zero, List.set_cons_succ]
  refine take_run (i := 10) (oi := { dst := some 75, op := Go.Op.move (Go.Operand.tmp 7), type := 3, pos := "ref.go:49", after := #[], guard := none }) (v := .int .i64 (e : Int)) rfl (by kernel_rfl) (by kernel_rfl) (by kernel_rfl) (fun _ _ _ h => HP.out _ _ _ _ _ h) (by rfl) ?_ b0 ?_
  · (intro wq hSw; go_simp <;> with_reducible rfl)
  try simp only [Act.put, List.setIfInBounds_toArray, List.set_cons_zero, List.set_cons_succ]
  refine take_run (i := 11) (oi := { dst := some 76, op := Go.Op.slice 26 (Go.Operand.tmp 70) (some (Go.Operand.tmp 74)) (some (Go.Operand.tmp 75)) none, type := 26, pos := "ref.go:49", after := #[{ on := 5, ground := Go.Ground.data }, { on := 9, ground := Go.Ground.data }, { on := 10, ground := Go.Ground.data }], guard := none }) (v := .slice pa m pc) rfl (by kernel_rfl) (by kernel_rfl) (by kernel_rfl) (fun _ _ _ h => HP.out _ _ _ _ _ h) (by rfl) ?_ b0 ?_
  · (intro wq hSw; have fx := hp wq; go_simp <;> with_reducible rfl)
  try simp only [Act.put, List.setIfInBounds_toArray, List.set_cons_zero, List.set_cons_succ]
  refine take_val (i := 1) (oi := { dst := some 66, op := Go.Op.load 26 (Go.Operand.tmp 65), type := 26, pos := "ref.go:49", after := #[{ on := 0, ground := Go.Ground.data }], guard := none }) (w' := V.drew) (.slice none 0 0) rfl (by kernel_rfl) (by rfl) (by go_simp <;> with_reducible rfl) b0 ?_
  try simp only [Act.put, List.setIfInBounds_toArray, List.set_cons_zero, List.set_cons_succ]
  refine take_make (i := 12) (oi := { dst := some 77, op := Go.Op.call { callee := Go.Callee.builtin Go.Builtin.append, args := #[Go.Operand.tmp 66, Go.Operand.tmp 76], argTypes := #[26, 26] }, type := 26, pos := "ref.go:49", after := #[{ on := 1, ground := Go.Ground.data }, { on := 11, ground := Go.Ground.data }], guard := none }) (v := .slice ua m uc) (w' := w') rfl (by kernel_rfl) (by rfl) (exec_append rfl rfl rfl hrun) b1 ?_
  try simp only [Act.put, List.setIfInBounds_toArray, List.set_cons_zero, List.set_cons_succ]
  refine take_run (i := 13) (oi := { dst := some 78, op := Go.Op.fieldAddr 33 (Go.Operand.tmp 5) 10, type := 0, pos := "ref.go:49", after := #[{ on := 0, ground := Go.Ground.phase }, { on := 1, ground := Go.Ground.phase }, { on := 2, ground := Go.Ground.phase }, { on := 3, ground := Go.Ground.phase }, { on := 4, ground := Go.Ground.phase }, { on := 5, ground := Go.Ground.phase }, { on := 6, ground := Go.Ground.phase }, { on := 7, ground := Go.Ground.phase }, { on := 8, ground := Go.Ground.phase }, { on := 9, ground := Go.Ground.phase }, { on := 10, ground := Go.Ground.phase }, { on := 11, ground := Go.Ground.phase }, { on := 12, ground := Go.Ground.phase }], guard := none }) (v := .pointer (some ⟨N, 16, none⟩)) rfl (by kernel_rfl) (by kernel_rfl) (by kernel_rfl) (fun _ _ _ h => HP.out _ _ _ _ _ h) (by rfl) ?_ b1 ?_
  · (intro wq hSw; go_simp <;> with_reducible rfl)
  try simp only [Act.put, List.setIfInBounds_toArray, List.set_cons_zero, List.set_cons_succ]
  refine take_eff (w' := w'.setCell ⟨N, 16, none⟩ (.slice ua m uc)) (i := 14) (oi := { dst := none, op := Go.Op.store 26 (Go.Operand.tmp 78) (Go.Operand.tmp 77), type := 0, pos := "ref.go:49", after := #[{ on := 13, ground := Go.Ground.data }, { on := 12, ground := Go.Ground.data }, { on := 12, ground := Go.Ground.chain }, { on := 0, ground := Go.Ground.phase }, { on := 1, ground := Go.Ground.phase }, { on := 2, ground := Go.Ground.phase }, { on := 3, ground := Go.Ground.phase }, { on := 4, ground := Go.Ground.phase }, { on := 5, ground := Go.Ground.phase }, { on := 6, ground := Go.Ground.phase }, { on := 7, ground := Go.Ground.phase }, { on := 8, ground := Go.Ground.phase }, { on := 9, ground := Go.Ground.phase }, { on := 10, ground := Go.Ground.phase }, { on := 11, ground := Go.Ground.phase }, { on := 12, ground := Go.Ground.phase }], guard := none }) rfl (by kernel_rfl) (by rfl) (by go_simp <;> with_reducible rfl) (b1.set 16 _) ?_
  try simp only [Act.put]
  refine wpAnyH_done (by kernel_rfl) ?_ _
  exact HQ.out _ ua uc _ _ _ _ _ _ _ _ _ _ _ _ _ _ bw HFIN.out.1 HFIN.out.2
end Go.Proofs.Ytcmhkeaimgppgaa
