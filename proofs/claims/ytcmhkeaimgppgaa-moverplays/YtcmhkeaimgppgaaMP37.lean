/- MoverPlays: what both tell of themselves. -/
import Derived.Test.YtcmhkeaimgppgaaGaI
namespace Go.Proofs.Ytcmhkeaimgppgaa
open Go.RowKit Go.Shelf
attribute [local go_sem] Oper.semAt_some
set_option linter.unusedVariables false

set_option maxRecDepth 100000 in
set_option maxHeartbeats 8000000 in
theorem mp_r37 (w X : World) (D : Nat → Prop) (G1 G2 L : Nat) (M R : MD) (cq : MopV) (s0 s1 s2 s5 s6 s7 s8 s9 s10 s11 s12 s13 s14 s15 s16 s17 s18 s19 s20 s21 s22 s23 s24 s25 s26 s27 s28 s29 s30 s31 s32 s33 s34 s35 s36 s37 s38 s39 s40 s41 s42 s43 s44 s45 s46 s47 s48 s49 s50 s51 s52 s53 s54 s55 s56 s57 s58 s59 s60 s61 s62 s63 s64 s65 s66 s67 s68 s69 s70 s71 s72 s73 s74 s75 s76 s77 s78 s79 s80 s81 s82 s83 s84 s85 s86 s87 s88 s89 s90 s91 s92 s93 s94 s95 s96 s97 s98 s99 s100 s101 s102 s103 s104 s105 s106 s107 s108 s109 s110 s111 s112 s113 s114 s115 s116 s117 s118 s119 s120 s121 s122 s123 s124 s125 s126 s127 s128 s129 s130 s131 s132 s133 s134 s135 s136 s137 s138 s139 s140 s141 s142 s143 s144 s145 s146 s147 s148 s149 s150 s151 s152 s153 s154 s155 s156 s157 s158 s159 s160 s161 s162 s163 s164 s165 s166 s167 s168 s169 s170 s171 s172 s173 s174 s175 s176 s177 s178 s179 s180 s181 s182 s183 s184 s185 s186 s187 s188 s189 s190 s191 s192 s193 s194 s195 s196 : Value) (h : PI w D X G1 G2 L M R cq) (hs : Sim M R)
    (K : Act → World → Prop) (Q : Exit → Act → World → Prop)
    (hK : ∀ (u182 u183 u184 u185 u186 u187 u188 u189 u190 u191 u192 u193 u194 : Value) (Y : World), Below X.heap.size X Y → K { tmps := #[s0, s1, s2, .pointer (some ⟨G1, 0, none⟩), .pointer (some ⟨G2, 0, none⟩), s5, s6, s7, s8, s9, s10, s11, s12, s13, s14, s15, s16, s17, s18, s19, s20, s21, s22, s23, s24, s25, s26, s27, s28, s29, s30, s31, s32, s33, s34, s35, s36, s37, s38, s39, s40, s41, s42, s43, s44, s45, s46, s47, s48, s49, s50, s51, s52, s53, s54, s55, s56, s57, s58, s59, s60, s61, s62, s63, s64, s65, s66, s67, s68, s69, s70, s71, s72, s73, s74, s75, s76, s77, s78, s79, s80, s81, s82, s83, s84, s85, s86, s87, s88, s89, s90, s91, s92, s93, s94, s95, s96, s97, s98, s99, s100, s101, s102, s103, s104, s105, s106, s107, s108, s109, s110, s111, s112, s113, s114, s115, s116, s117, s118, s119, s120, s121, s122, s123, s124, s125, s126, s127, s128, s129, s130, s131, s132, s133, s134, s135, s136, s137, s138, s139, s140, s141, s142, s143, s144, s145, s146, s147, s148, s149, s150, s151, s152, s153, s154, s155, s156, s157, s158, s159, s160, s161, s162, s163, s164, s165, s166, s167, s168, s169, s170, s171, s172, s173, s174, s175, s176, s177, s178, s179, s180, s181, u182, u183, u184, u185, u186, u187, u188, u189, u190, u191, u192, u193, u194, .bool false, s196], defers := [] } Y) :
    (Code.region 37 #[{ dst := some 182, op := Go.Op.move (Go.Operand.tmp 3), type := 23, pos := "law.go:123", after := #[], guard := none }, { dst := some 183, op := Go.Op.call { callee := Go.Callee.value (Go.Operand.func 17), args := #[Go.Operand.tmp 182], argTypes := #[23] }, type := 3, pos := "law.go:123", after := #[{ on := 0, ground := Go.Ground.data }], guard := none }, { dst := some 184, op := Go.Op.move (Go.Operand.tmp 4), type := 25, pos := "law.go:123", after := #[], guard := none }, { dst := some 185, op := Go.Op.call { callee := Go.Callee.value (Go.Operand.func 18), args := #[Go.Operand.tmp 184], argTypes := #[25] }, type := 3, pos := "law.go:123", after := #[{ on := 2, ground := Go.Ground.data }, { on := 1, ground := Go.Ground.chain }], guard := none }, { dst := some 186, op := Go.Op.binOp Go.BinOp.neq 3 (Go.Operand.tmp 183) (Go.Operand.tmp 185) 3, type := 4, pos := "law.go:123", after := #[{ on := 1, ground := Go.Ground.data }, { on := 3, ground := Go.Ground.data }], guard := none }, { dst := some 187, op := Go.Op.move (Go.Operand.tmp 186), type := 4, pos := "law.go:123", after := #[{ on := 4, ground := Go.Ground.data }, { on := 3, ground := Go.Ground.chain }], guard := none }, { dst := some 188, op := Go.Op.move (Go.Operand.tmp 3), type := 23, pos := "law.go:123", after := #[{ on := 5, ground := Go.Ground.guard }], guard := some (5, false) }, { dst := some 189, op := Go.Op.call { callee := Go.Callee.value (Go.Operand.func 19), args := #[Go.Operand.tmp 188], argTypes := #[23] }, type := 3, pos := "law.go:123", after := #[{ on := 6, ground := Go.Ground.data }, { on := 5, ground := Go.Ground.chain }, { on := 5, ground := Go.Ground.guard }], guard := some (5, false) }, { dst := some 190, op := Go.Op.move (Go.Operand.tmp 4), type := 25, pos := "law.go:123", after := #[{ on := 5, ground := Go.Ground.guard }], guard := some (5, false) }, { dst := some 191, op := Go.Op.nilCheck (Go.Operand.tmp 190), type := 0, pos := "law.go:123", after := #[{ on := 8, ground := Go.Ground.data }, { on := 5, ground := Go.Ground.guard }], guard := some (5, false) }, { dst := some 192, op := Go.Op.fieldAddr 28 (Go.Operand.tmp 191) 3, type := 0, pos := "law.go:123", after := #[{ on := 9, ground := Go.Ground.data }, { on := 5, ground := Go.Ground.guard }], guard := some (5, false) }, { dst := some 193, op := Go.Op.load 3 (Go.Operand.tmp 192), type := 3, pos := "law.go:123", after := #[{ on := 10, ground := Go.Ground.data }, { on := 5, ground := Go.Ground.guard }], guard := some (5, false) }, { dst := some 194, op := Go.Op.binOp Go.BinOp.neq 3 (Go.Operand.tmp 189) (Go.Operand.tmp 193) 3, type := 4, pos := "law.go:123", after := #[{ on := 7, ground := Go.Ground.data }, { on := 11, ground := Go.Ground.data }, { on := 5, ground := Go.Ground.guard }], guard := some (5, false) }, { dst := some 195, op := Go.Op.pick (Go.Operand.tmp 187) (Go.Operand.const (Go.Value.bool true)) (Go.Operand.tmp 194), type := 4, pos := "law.go:123", after := #[{ on := 5, ground := Go.Ground.data }, { on := 12, ground := Go.Ground.data }], guard := none }] true).wp Try.prog (Exit.then K Q) { tmps := #[s0, s1, s2, .pointer (some ⟨G1, 0, none⟩), .pointer (some ⟨G2, 0, none⟩), s5, s6, s7, s8, s9, s10, s11, s12, s13, s14, s15, s16, s17, s18, s19, s20, s21, s22, s23, s24, s25, s26, s27, s28, s29, s30, s31, s32, s33, s34, s35, s36, s37, s38, s39, s40, s41, s42, s43, s44, s45, s46, s47, s48, s49, s50, s51, s52, s53, s54, s55, s56, s57, s58, s59, s60, s61, s62, s63, s64, s65, s66, s67, s68, s69, s70, s71, s72, s73, s74, s75, s76, s77, s78, s79, s80, s81, s82, s83, s84, s85, s86, s87, s88, s89, s90, s91, s92, s93, s94, s95, s96, s97, s98, s99, s100, s101, s102, s103, s104, s105, s106, s107, s108, s109, s110, s111, s112, s113, s114, s115, s116, s117, s118, s119, s120, s121, s122, s123, s124, s125, s126, s127, s128, s129, s130, s131, s132, s133, s134, s135, s136, s137, s138, s139, s140, s141, s142, s143, s144, s145, s146, s147, s148, s149, s150, s151, s152, s153, s154, s155, s156, s157, s158, s159, s160, s161, s162, s163, s164, s165, s166, s167, s168, s169, s170, s171, s172, s173, s174, s175, s176, s177, s178, s179, s180, s181, s182, s183, s184, s185, s186, s187, s188, s189, s190, s191, s192, s193, s194, s195, s196], defers := [] } X := by
  have bX : Below X.heap.size X X.drew := (Below.refl _ X).drew
  have HM := mhas_any (h.m.below bX)
  have HA := mat_any (h.m.below bX)
  have HC := rcount_any (h.r.below bX)
  rw [← hs.has, ← hs.d] at HC
  obtain ⟨ra, rc, hr, _⟩ := h.r.ex
  have c3 : X.drew.cell? ⟨G2, 3, none⟩ = some (.int .i64 M.at_) := by
    have e : X.cell? ⟨G2, 3, none⟩ = some (.int .i64 M.at_) := by simp only [World.cell?, hr, hs.at_]; rfl
    exact e
  generalize (if M.has = true then (M.d.length : Int) else -1) = n at HM HC
  generalize (M.at_ : Int) = n2 at HA c3
  have k1 : (n != n) = false := by simp
  have k2 : (n2 != n2) = false := by simp
  have BX : Hid (Below X.heap.size X X.drew) := bX
  clear h hs hr bX
  refine wp_region_calmM (S := fun W => W = X.drew) (by kernel_rfl) rfl (fun hHeld => ?_)
  refine take_run (i := 0) (oi := { dst := some 182, op := Go.Op.move (Go.Operand.tmp 3), type := 23, pos := "law.go:123", after := #[], guard := none }) (v := .pointer (some ⟨G1, 0, none⟩)) rfl (by kernel_rfl) (by kernel_rfl) (by kernel_rfl) (fun _ _ _ h => h) (by rfl) ?_ hHeld ?_
  · (intro wq hSw; go_simp <;> with_reducible rfl)
  try simp only [Act.put, List.setIfInBounds_toArray, List.set_cons_zero, List.set_cons_succ]
  refine take_run (i := 2) (oi := { dst := some 184, op := Go.Op.move (Go.Operand.tmp 4), type := 25, pos := "law.go:123", after := #[], guard := none }) (v := .pointer (some ⟨G2, 0, none⟩)) rfl (by kernel_rfl) (by kernel_rfl) (by kernel_rfl) (fun _ _ _ h => h) (by rfl) ?_ hHeld ?_
  · (intro wq hSw; go_simp <;> with_reducible rfl)
  try simp only [Act.put, List.setIfInBounds_toArray, List.set_cons_zero, List.set_cons_succ]
  refine take_call (i := 1) (oi := { dst := some 183, op := Go.Op.call { callee := Go.Callee.value (Go.Operand.func 17), args := #[Go.Operand.tmp 182], argTypes := #[23] }, type := 3, pos := "law.go:123", after := #[{ on := 0, ground := Go.Ground.data }], guard := none }) rfl (by kernel_rfl) (by rfl) 17 _ (by go_simp <;> with_reducible rfl) ?_
  refine HM.mono ?_
  rintro e x1 ⟨rfl, rfl⟩
  refine ⟨_, rfl, rfl, ?_⟩
  try simp only [Act.put, List.setIfInBounds_toArray, List.set_cons_zero, List.set_cons_succ]
  refine take_call (i := 3) (oi := { dst := some 185, op := Go.Op.call { callee := Go.Callee.value (Go.Operand.func 18), args := #[Go.Operand.tmp 184], argTypes := #[25] }, type := 3, pos := "law.go:123", after := #[{ on := 2, ground := Go.Ground.data }, { on := 1, ground := Go.Ground.chain }], guard := none }) rfl (by kernel_rfl) (by rfl) 18 _ (by go_simp <;> with_reducible rfl) ?_
  refine HC.mono ?_
  rintro e x3 ⟨rfl, rfl⟩
  refine ⟨_, rfl, rfl, ?_⟩
  try simp only [Act.put, List.setIfInBounds_toArray, List.set_cons_zero, List.set_cons_succ]
  refine take_run (i := 4) (oi := { dst := some 186, op := Go.Op.binOp Go.BinOp.neq 3 (Go.Operand.tmp 183) (Go.Operand.tmp 185) 3, type := 4, pos := "law.go:123", after := #[{ on := 1, ground := Go.Ground.data }, { on := 3, ground := Go.Ground.data }], guard := none }) (v := .bool false) rfl (by kernel_rfl) (by kernel_rfl) (by kernel_rfl) (fun _ _ _ h => h) (by rfl) ?_ rfl ?_
  · (intro wq hSw; go_simp <;> with_reducible rfl)
  try simp only [Act.put, List.setIfInBounds_toArray, List.set_cons_zero, List.set_cons_succ]
  refine take_run (i := 5) (oi := { dst := some 187, op := Go.Op.move (Go.Operand.tmp 186), type := 4, pos := "law.go:123", after := #[{ on := 4, ground := Go.Ground.data }, { on := 3, ground := Go.Ground.chain }], guard := none }) (v := .bool false) rfl (by kernel_rfl) (by kernel_rfl) (by kernel_rfl) (fun _ _ _ h => h) (by rfl) ?_ rfl ?_
  · (intro wq hSw; go_simp <;> with_reducible rfl)
  try simp only [Act.put, List.setIfInBounds_toArray, List.set_cons_zero, List.set_cons_succ]
  refine take_run (i := 6) (oi := { dst := some 188, op := Go.Op.move (Go.Operand.tmp 3), type := 23, pos := "law.go:123", after := #[{ on := 5, ground := Go.Ground.guard }], guard := some (5, false) }) (v := .pointer (some ⟨G1, 0, none⟩)) rfl (by kernel_rfl) (by kernel_rfl) (by kernel_rfl) (fun _ _ _ h => h) (by rfl) ?_ rfl ?_
  · (intro wq hSw; go_simp <;> with_reducible rfl)
  try simp only [Act.put, List.setIfInBounds_toArray, List.set_cons_zero, List.set_cons_succ]
  refine take_run (i := 8) (oi := { dst := some 190, op := Go.Op.move (Go.Operand.tmp 4), type := 25, pos := "law.go:123", after := #[{ on := 5, ground := Go.Ground.guard }], guard := some (5, false) }) (v := .pointer (some ⟨G2, 0, none⟩)) rfl (by kernel_rfl) (by kernel_rfl) (by kernel_rfl) (fun _ _ _ h => h) (by rfl) ?_ rfl ?_
  · (intro wq hSw; go_simp <;> with_reducible rfl)
  try simp only [Act.put, List.setIfInBounds_toArray, List.set_cons_zero, List.set_cons_succ]
  refine take_run (i := 9) (oi := { dst := some 191, op := Go.Op.nilCheck (Go.Operand.tmp 190), type := 0, pos := "law.go:123", after := #[{ on := 8, ground := Go.Ground.data }, { on := 5, ground := Go.Ground.guard }], guard := some (5, false) }) (v := .pointer (some ⟨G2, 0, none⟩)) rfl (by kernel_rfl) (by kernel_rfl) (by kernel_rfl) (fun _ _ _ h => h) (by rfl) ?_ rfl ?_
  · (intro wq hSw; go_simp <;> with_reducible rfl)
  try simp only [Act.put, List.setIfInBounds_toArray, List.set_cons_zero, List.set_cons_succ]
  refine take_run (i := 10) (oi := { dst := some 192, op := Go.Op.fieldAddr 28 (Go.Operand.tmp 191) 3, type := 0, pos := "law.go:123", after := #[{ on := 9, ground := Go.Ground.data }, { on := 5, ground := Go.Ground.guard }], guard := some (5, false) }) (v := .pointer (some ⟨G2, 3, none⟩)) rfl (by kernel_rfl) (by kernel_rfl) (by kernel_rfl) (fun _ _ _ h => h) (by rfl) ?_ rfl ?_
  · (intro wq hSw; go_simp <;> with_reducible rfl)
  try simp only [Act.put, List.setIfInBounds_toArray, List.set_cons_zero, List.set_cons_succ]
  refine take_run (i := 11) (oi := { dst := some 193, op := Go.Op.load 3 (Go.Operand.tmp 192), type := 3, pos := "law.go:123", after := #[{ on := 10, ground := Go.Ground.data }, { on := 5, ground := Go.Ground.guard }], guard := some (5, false) }) (v := .int .i64 n2) rfl (by kernel_rfl) (by kernel_rfl) (by kernel_rfl) (fun _ _ _ h => h) (by rfl) ?_ rfl ?_
  · (intro wq hSw; subst hSw; go_simp <;> with_reducible rfl)
  try simp only [Act.put, List.setIfInBounds_toArray, List.set_cons_zero, List.set_cons_succ]
  refine take_call (i := 7) (oi := { dst := some 189, op := Go.Op.call { callee := Go.Callee.value (Go.Operand.func 19), args := #[Go.Operand.tmp 188], argTypes := #[23] }, type := 3, pos := "law.go:123", after := #[{ on := 6, ground := Go.Ground.data }, { on := 5, ground := Go.Ground.chain }, { on := 5, ground := Go.Ground.guard }], guard := some (5, false) }) rfl (by kernel_rfl) (by rfl) 19 _ (by go_simp <;> with_reducible rfl) ?_
  refine HA.mono ?_
  rintro e x7 ⟨rfl, rfl⟩
  refine ⟨_, rfl, rfl, ?_⟩
  try simp only [Act.put, List.setIfInBounds_toArray, List.set_cons_zero, List.set_cons_succ]
  refine take_run (i := 12) (oi := { dst := some 194, op := Go.Op.binOp Go.BinOp.neq 3 (Go.Operand.tmp 189) (Go.Operand.tmp 193) 3, type := 4, pos := "law.go:123", after := #[{ on := 7, ground := Go.Ground.data }, { on := 11, ground := Go.Ground.data }, { on := 5, ground := Go.Ground.guard }], guard := some (5, false) }) (v := .bool false) rfl (by kernel_rfl) (by kernel_rfl) (by kernel_rfl) (fun _ _ _ h => h) (by rfl) ?_ rfl ?_
  · (intro wq hSw; go_simp <;> with_reducible rfl)
  try simp only [Act.put, List.setIfInBounds_toArray, List.set_cons_zero, List.set_cons_succ]
  refine take_run (i := 13) (oi := { dst := some 195, op := Go.Op.pick (Go.Operand.tmp 187) (Go.Operand.const (Go.Value.bool true)) (Go.Operand.tmp 194), type := 4, pos := "law.go:123", after := #[{ on := 5, ground := Go.Ground.data }, { on := 12, ground := Go.Ground.data }], guard := none }) (v := .bool false) rfl (by kernel_rfl) (by kernel_rfl) (by kernel_rfl) (fun _ _ _ h => h) (by rfl) ?_ rfl ?_
  · (intro wq hSw; go_simp <;> with_reducible rfl)
  try simp only [Act.put, List.setIfInBounds_toArray, List.set_cons_zero, List.set_cons_succ]
  refine wpAnyH_done (by kernel_rfl) ?_ _
  exact hK _ _ _ _ _ _ _ _ _ _ _ _ _ _ BX.out
end Go.Proofs.Ytcmhkeaimgppgaa
