/- The reference's mover: step; what Told takes of a result. -/
import Derived.Test.YtcmhkeaimgppgaaRR14
namespace Go.Proofs.Ytcmhkeaimgppgaa
open Go.RowKit Go.Shelf
attribute [local go_sem] Oper.semAt_some
set_option linter.unusedVariables false

set_option maxHeartbeats 1600000 in
theorem rstep_any (x : MvD) (w : World) : Calls Try.prog 27 #[.agg #[.int .i64 x.slot, .int .i64 x.fr, .int .i64 x.to, .int .i64 x.ep, .int .i64 x.ph, .int .i64 x.n]] w fun e w' => e = .returned (.tuple #[.agg #[.int .i64 2, .int .i64 0, .int .i64 0, .int .i64 x.n, .int .i64 x.ph], .bool true]) ∧ Below w.heap.size w w' := by
  obtain ⟨sl, fr, to, ep, ph, n⟩ := x
  dsimp only
  have q2 := heap_two w (.cells #[.int .i64 sl, .int .i64 fr, .int .i64 to, .int .i64 ep, .int .i64 ph, .int .i64 n] 37) (.cells #[.int .i64 0, .int .i64 0, .int .i64 0, .int .i64 0, .int .i64 0] 64)
  have bA : Below w.heap.size w ((w.alloc (.cells #[.int .i64 sl, .int .i64 fr, .int .i64 to, .int .i64 ep, .int .i64 ph, .int .i64 n] 37)).alloc (.cells #[.int .i64 0, .int .i64 0, .int .i64 0, .int .i64 0, .int .i64 0] 64)) := ((Below.refl _ w).alloc (Nat.le_refl _) _).alloc (by simp) _
  have Q2 : Hid _ := q2
  have BA : Hid _ := bA
  clear q2 bA
  go_enter Try.func27, Try.ntmps27
  go_wp2_with (first | (refine wpList_store_row rfl 64 (.tmp 2) (.tmp 8) rfl (w.heap.size + 1) #[.int .i64 2, .int .i64 0, .int .i64 0, .int .i64 n, .int .i64 ph] rfl rfl 64 _ Q2.out (by kernel_rfl) rfl (by simp [Value.oneCell']) ?_))
  exact bodyPost_ret (results_ct rfl _ _ (w.heap.size + 1) 64 _ _ _ rfl (setRow_self Q2.out) Try.underlying64 rfl (by kernel_rfl)) rfl ⟨rfl, below_row BA.out (by omega) _⟩
set_option maxRecDepth 100000 in
set_option maxHeartbeats 4000000 in
theorem rtold_r10 (s1 s2 s3 s4 s5 s6 s8 s9 s10 s11 s12 s13 s14 s15 s16 s17 s18 s19 s20 s21 s22 s23 s24 s25 s26 s27 s28 s29 s30 s31 s32 s33 s34 s35 s36 s37 s38 s39 s40 s41 s42 s43 s44 s45 s46 s47 s48 s49 s50 s51 s52 s53 s54 s55 s56 s57 s58 s59 s60 s61 s62 s63 s64 s65 s66 s67 s68 s69 s70 s71 s72 s73 s74 s75 s76 s77 s78 s79 s80 s81 s82 s83 s84 s85 s86 s87 s88 s89 s90 s91 s92 s93 s94 s95 s96 s97 s98 s99 s100 s101 s102 s103 s104 s105 s106 s107 s108 s109 s110 s111 s112 s113 s114 s115 s116 s117 s118 s119 s120 s121 s122 s123 s124 s125 s126 s127 s128 s129 s130 s131 s132 s133 s134 s135 s136 s137 s138 s139 s140 s141 s142 s143 s144 s145 s146 s147 s148 s149 s150 s151 s152 s153 s154 s155 s156 s157 s158 s159 s160 s161 s162 s163 s164 s165 s166 s167 s168 s169 s170 s171 s172 s173 s174 s175 s176 s177 s178 s179 s180 s181 s182 s183 s184 s185 s186 s187 s188 s189 s190 s191 s192 s193 s194 s195 s196 s197 : Value) (V : World) (G Br : Nat) (hs : Bool) (nn at_ : Int) (why : Int) (wait : Bool) (rw ra : Int) (rows : Value) (da : Option Addr) (dc : Nat) (l : List (BitVec 8))
    (hG : V.heap[G]? = some (.cells #[.int .i64 nn, .bool hs, .slice none 0 0, .int .i64 at_] 28 (0, 0))) (hR : V.heap[Br]? = some (.cells #[.int .i64 why, .bool wait, .int .i64 rw, .int .i64 ra, rows, .slice da l.length dc] 42 (0, 0))) (hseen : Seen V da l.length l) (hnil : da = none → dc = 0) (hl : l.length ≤ 140737488351232)
    (Q : Exit → Act → World → Prop) (hP : ∀ c (a : Act) (d : Tmp) (v : Value) w, Q (.panic c) (a.put (some d) v) w → Q (.panic c) a w)
    (hQ : ∀ (W' : World) (ua : Option Addr) (uc : Nat) (v65 v66 v67 v68 v69 v70 v71 v72 v73 v74 : Value), Below V.heap.size V W' → W'.ownsRow V.heap.size 5 1 (.slice ua l.length uc) l.length (cellsOf l) → Q .normal { tmps := #[.pointer (some ⟨G, 0, none⟩), s1, s2, s3, s4, s5, s6, .pointer (some ⟨Br, 0, none⟩), s8, s9, s10, s11, s12, s13, s14, s15, s16, s17, s18, s19, s20, s21, s22, s23, s24, s25, s26, s27, s28, s29, s30, s31, s32, s33, s34, s35, s36, s37, s38, s39, s40, s41, s42, s43, s44, s45, s46, s47, s48, s49, s50, s51, s52, s53, s54, s55, s56, s57, s58, s59, s60, s61, s62, s63, s64, v65, v66, v67, v68, v69, v70, v71, v72, v73, v74, s75, s76, s77, s78, s79, s80, s81, s82, s83, s84, s85, s86, s87, s88, s89, s90, s91, s92, s93, s94, s95, s96, s97, s98, s99, s100, s101, s102, s103, s104, s105, s106, s107, s108, s109, s110, s111, s112, s113, s114, s115, s116, s117, s118, s119, s120, s121, s122, s123, s124, s125, s126, s127, s128, s129, s130, s131, s132, s133, s134, s135, s136, s137, s138, s139, s140, s141, s142, s143, s144, s145, s146, s147, s148, s149, s150, s151, s152, s153, s154, s155, s156, s157, s158, s159, s160, s161, s162, s163, s164, s165, s166, s167, s168, s169, s170, s171, s172, s173, s174, s175, s176, s177, s178, s179, s180, s181, s182, s183, s184, s185, s186, s187, s188, s189, s190, s191, s192, s193, s194, s195, s196, s197], defers := [] } (W'.setCell ⟨G, 2, none⟩ (.slice ua l.length uc))) :
    (Code.region 10 #[{ dst := some 65, op := Go.Op.move (Go.Operand.tmp 0), type := 25, pos := "ref.go:75", after := #[], guard := none }, { dst := some 66, op := Go.Op.move (Go.Operand.tmp 0), type := 25, pos := "ref.go:75", after := #[], guard := none }, { dst := some 67, op := Go.Op.nilCheck (Go.Operand.tmp 66), type := 0, pos := "ref.go:75", after := #[{ on := 1, ground := Go.Ground.data }], guard := none }, { dst := some 68, op := Go.Op.fieldAddr 28 (Go.Operand.tmp 67) 2, type := 0, pos := "ref.go:75", after := #[{ on := 2, ground := Go.Ground.data }], guard := none }, { dst := some 69, op := Go.Op.load 26 (Go.Operand.tmp 68), type := 26, pos := "ref.go:75", after := #[{ on := 3, ground := Go.Ground.data }], guard := none }, { dst := some 70, op := Go.Op.fieldAddr 42 (Go.Operand.tmp 7) 3, type := 0, pos := "ref.go:75", after := #[], guard := none }, { dst := some 71, op := Go.Op.load 26 (Go.Operand.tmp 70), type := 26, pos := "ref.go:75", after := #[{ on := 5, ground := Go.Ground.data }], guard := none }, { dst := some 72, op := Go.Op.call { callee := Go.Callee.builtin Go.Builtin.append, args := #[Go.Operand.tmp 69, Go.Operand.tmp 71], argTypes := #[26, 26] }, type := 26, pos := "ref.go:75", after := #[{ on := 4, ground := Go.Ground.data }, { on := 6, ground := Go.Ground.data }], guard := none }, { dst := some 73, op := Go.Op.nilCheck (Go.Operand.tmp 65), type := 0, pos := "ref.go:75", after := #[{ on := 0, ground := Go.Ground.data }, { on := 0, ground := Go.Ground.phase }, { on := 1, ground := Go.Ground.phase }, { on := 2, ground := Go.Ground.phase }, { on := 3, ground := Go.Ground.phase }, { on := 4, ground := Go.Ground.phase }, { on := 5, ground := Go.Ground.phase }, { on := 6, ground := Go.Ground.phase }, { on := 7, ground := Go.Ground.phase }], guard := none }, { dst := some 74, op := Go.Op.fieldAddr 28 (Go.Operand.tmp 73) 2, type := 0, pos := "ref.go:75", after := #[{ on := 8, ground := Go.Ground.data }, { on := 0, ground := Go.Ground.phase }, { on := 1, ground := Go.Ground.phase }, { on := 2, ground := Go.Ground.phase }, { on := 3, ground := Go.Ground.phase }, { on := 4, ground := Go.Ground.phase }, { on := 5, ground := Go.Ground.phase }, { on := 6, ground := Go.Ground.phase }, { on := 7, ground := Go.Ground.phase }], guard := none }, { dst := none, op := Go.Op.store 26 (Go.Operand.tmp 74) (Go.Operand.tmp 72), type := 0, pos := "ref.go:75", after := #[{ on := 9, ground := Go.Ground.data }, { on := 7, ground := Go.Ground.data }, { on := 7, ground := Go.Ground.chain }, { on := 0, ground := Go.Ground.phase }, { on := 1, ground := Go.Ground.phase }, { on := 2, ground := Go.Ground.phase }, { on := 3, ground := Go.Ground.phase }, { on := 4, ground := Go.Ground.phase }, { on := 5, ground := Go.Ground.phase }, { on := 6, ground := Go.Ground.phase }, { on := 7, ground := Go.Ground.phase }], guard := none }] true).wp Try.prog Q { tmps := #[.pointer (some ⟨G, 0, none⟩), s1, s2, s3, s4, s5, s6, .pointer (some ⟨Br, 0, none⟩), s8, s9, s10, s11, s12, s13, s14, s15, s16, s17, s18, s19, s20, s21, s22, s23, s24, s25, s26, s27, s28, s29, s30, s31, s32, s33, s34, s35, s36, s37, s38, s39, s40, s41, s42, s43, s44, s45, s46, s47, s48, s49, s50, s51, s52, s53, s54, s55, s56, s57, s58, s59, s60, s61, s62, s63, s64, s65, s66, s67, s68, s69, s70, s71, s72, s73, s74, s75, s76, s77, s78, s79, s80, s81, s82, s83, s84, s85, s86, s87, s88, s89, s90, s91, s92, s93, s94, s95, s96, s97, s98, s99, s100, s101, s102, s103, s104, s105, s106, s107, s108, s109, s110, s111, s112, s113, s114, s115, s116, s117, s118, s119, s120, s121, s122, s123, s124, s125, s126, s127, s128, s129, s130, s131, s132, s133, s134, s135, s136, s137, s138, s139, s140, s141, s142, s143, s144, s145, s146, s147, s148, s149, s150, s151, s152, s153, s154, s155, s156, s157, s158, s159, s160, s161, s162, s163, s164, s165, s166, s167, s168, s169, s170, s171, s172, s173, s174, s175, s176, s177, s178, s179, s180, s181, s182, s183, s184, s185, s186, s187, s188, s189, s190, s191, s192, s193, s194, s195, s196, s197], defers := [] } V := by
  have lG : G < V.heap.size := (Array.getElem?_eq_some_iff.1 hG).1
  have lR : Br < V.heap.size := (Array.getElem?_eq_some_iff.1 hR).1
  have nGR : Br ≠ G := fun e => by
    rw [e, hG] at hR
    injection hR with hR
    injection hR with _ hR
    exact absurd hR (by decide)
  have FR : Hid (∀ W, OnlyR V W G → W.cell? ⟨Br, 5, none⟩ = some (.slice da l.length dc)) := fun W hW => by
    show W.cell? ⟨Br, 5, none⟩ = _
    simp only [World.cell?, (hW.block _ lR nGR).trans hR]
    rfl
  have FN : Hid (∀ W, Below V.heap.size V W → W.cell? ⟨G, 2, none⟩ = some (.slice none 0 0)) := fun W hW => by
    show W.cell? ⟨G, 2, none⟩ = _
    simp only [World.cell?, (hW.block _ lG).trans hG]
    rfl
  have FF : Hid (∀ W, Below V.heap.size V W → W.frozen? ⟨G, 2, none⟩ = false) := fun W hW => by
    show W.frozen? ⟨G, 2, none⟩ = _
    simp only [World.frozen?, (hW.block _ lG).trans hG]
    rfl
  have bD : Below V.heap.size V V.drew := (Below.refl _ V).drew
  obtain ⟨v', w', hrun, hown, hb'⟩ := run_append_nil V.drew da l.length dc l (hseen.below bD) hnil (by omega)
  obtain ⟨ua, uc, rfl, _⟩ := row_form hown
  have bw : Below V.heap.size V w' := bD.trans (hb'.mono bD.size)
  have xn := FN.out V.drew bD
  have fc := FN.out w' bw
  have ff := FF.out w' bw
  have b0 : OnlyR V V.drew G := OnlyR.of_below bD G
  have b1 : OnlyR V w' G := OnlyR.of_below bw G
  have HQ : Hid _ := hQ
  have HP : Hid _ := hP
  have HFIN : Hid (w'.ownsRow V.heap.size 5 1 (.slice ua l.length uc) l.length (cellsOf l)) := hown
  clear hG hR hQ hP lG lR hseen hnil hb' hown nGR hl
  generalize l.length = m at *
  refine wp_region_held_drew (S := fun W => OnlyR V W G) (by kernel_rfl) b0 (fun _ => ?_)
  refine take_run (i := 0) (oi := { dst := some 65, op := Go.Op.move (Go.Operand.tmp 0), type := 25, pos := "ref.go:75", after := #[], guard := none }) (v := .pointer (some ⟨G, 0, none⟩)) rfl (by kernel_rfl) (by kernel_rfl) (by kernel_rfl) (fun _ _ _ h => HP.out _ _ _ _ _ h) (by rfl) ?_ b0 ?_
  · (intro wq hSw; go_simp <;> with_reducible rfl)
  try simp only [Act.put, List.setIfInBounds_toArray, List.set_cons_zero, List.set_cons_succ]
  refine take_run (i := 1) (oi := { dst := some 66, op := Go.Op.move (Go.Operand.tmp 0), type := 25, pos := "ref.go:75", after := #[], guard := none }) (v := .pointer (some ⟨G, 0, none⟩)) rfl (by kernel_rfl) (by kernel_rfl) (by kernel_rfl) (fun _ _ _ h => HP.out _ _ _ _ _ h) (by rfl) ?_ b0 ?_
  · (intro wq hSw; go_simp <;> with_reducible rfl)
  try simp only [Act.put, List.setIfInBounds_toArray, List.set_cons_zero, List.set_cons_succ]
  refine take_run (i := 2) (oi := { dst := some 67, op := Go.Op.nilCheck (Go.Operand.tmp 66), type := 0, pos := "ref.go:75", after := #[{ on := 1, ground := Go.Ground.data }], guard := none }) (v := .pointer (some ⟨G, 0, none⟩)) rfl (by kernel_rfl) (by kernel_rfl) (by kernel_rfl) (fun _ _ _ h => HP.out _ _ _ _ _ h) (by rfl) ?_ b0 ?_
  · (intro wq hSw; go_simp <;> with_reducible rfl)
  try simp only [Act.put, List.setIfInBounds_toArray, List.set_cons_zero, List.set_cons_succ]
  refine take_run (i := 3) (oi := { dst := some 68, op := Go.Op.fieldAddr 28 (Go.Operand.tmp 67) 2, type := 0, pos := "ref.go:75", after := #[{ on := 2, ground := Go.Ground.data }], guard := none }) (v := .pointer (some ⟨G, 2, none⟩)) rfl (by kernel_rfl) (by kernel_rfl) (by kernel_rfl) (fun _ _ _ h => HP.out _ _ _ _ _ h) (by rfl) ?_ b0 ?_
  · (intro wq hSw; go_simp <;> with_reducible rfl)
  try simp only [Act.put, List.setIfInBounds_toArray, List.set_cons_zero, List.set_cons_succ]
  refine take_run (i := 5) (oi := { dst := some 70, op := Go.Op.fieldAddr 42 (Go.Operand.tmp 7) 3, type := 0, pos := "ref.go:75", after := #[], guard := none }) (v := .pointer (some ⟨Br, 5, none⟩)) rfl (by kernel_rfl) (by kernel_rfl) (by kernel_rfl) (fun _ _ _ h => HP.out _ _ _ _ _ h) (by rfl) ?_ b0 ?_
  · (intro wq hSw; go_simp <;> with_reducible rfl)
  try simp only [Act.put, List.setIfInBounds_toArray, List.set_cons_zero, List.set_cons_succ]
  refine take_run (i := 6) (oi := { dst := some 71, op := Go.Op.load 26 (Go.Operand.tmp 70), type := 26, pos := "ref.go:75", after := #[{ on := 5, ground := Go.Ground.data }], guard := none }) (v := .slice da m dc) rfl (by kernel_rfl) (by kernel_rfl) (by kernel_rfl) (fun _ _ _ h => HP.out _ _ _ _ _ h) (by rfl) ?_ b0 ?_
  · (intro wq hSw; have fx := FR.out wq hSw; go_simp <;> with_reducible rfl)
  try simp only [Act.put, List.setIfInBounds_toArray, List.set_cons_zero, List.set_cons_succ]
  refine take_val (i := 4) (oi := { dst := some 69, op := Go.Op.load 26 (Go.Operand.tmp 68), type := 26, pos := "ref.go:75", after := #[{ on := 3, ground := Go.Ground.data }], guard := none }) (w' := V.drew) (.slice none 0 0) rfl (by kernel_rfl) (by rfl) (by go_simp <;> with_reducible rfl) b0 ?_
  try simp only [Act.put, List.setIfInBounds_toArray, List.set_cons_zero, List.set_cons_succ]
  refine take_make (i := 7) (oi := { dst := some 72, op := Go.Op.call { callee := Go.Callee.builtin Go.Builtin.append, args := #[Go.Operand.tmp 69, Go.Operand.tmp 71], argTypes := #[26, 26] }, type := 26, pos := "ref.go:75", after := #[{ on := 4, ground := Go.Ground.data }, { on := 6, ground := Go.Ground.data }], guard := none }) (v := .slice ua m uc) (w' := w') rfl (by kernel_rfl) (by rfl) (exec_append rfl rfl rfl hrun) b1 ?_
  try simp only [Act.put, List.setIfInBounds_toArray, List.set_cons_zero, List.set_cons_succ]
  refine take_run (i := 8) (oi := { dst := some 73, op := Go.Op.nilCheck (Go.Operand.tmp 65), type := 0, pos := "ref.go:75", after := #[{ on := 0, ground := Go.Ground.data }, { on := 0, ground := Go.Ground.phase }, { on := 1, ground := Go.Ground.phase }, { on := 2, ground := Go.Ground.phase }, { on := 3, ground := Go.Ground.phase }, { on := 4, ground := Go.Ground.phase }, { on := 5, ground := Go.Ground.phase }, { on := 6, ground := Go.Ground.phase }, { on := 7, ground := Go.Ground.phase }], guard := none }) (v := .pointer (some ⟨G, 0, none⟩)) rfl (by kernel_rfl) (by kernel_rfl) (by kernel_rfl) (fun _ _ _ h => HP.out _ _ _ _ _ h) (by rfl) ?_ b1 ?_
  · (intro wq hSw; go_simp <;> with_reducible rfl)
  try simp only [Act.put, List.setIfInBounds_toArray, List.set_cons_zero, List.set_cons_succ]
  refine take_run (i := 9) (oi := { dst := some 74, op := Go.Op.fieldAddr 28 (Go.Operand.tmp 73) 2, type := 0, pos := "ref.go:75", after := #[{ on := 8, ground := Go.Ground.data }, { on := 0, ground := Go.Ground.phase }, { on := 1, ground := Go.Ground.phase }, { on := 2, ground := Go.Ground.phase }, { on := 3, ground := Go.Ground.phase }, { on := 4, ground := Go.Ground.phase }, { on := 5, ground := Go.Ground.phase }, { on := 6, ground := Go.Ground.phase }, { on := 7, ground := Go.Ground.phase }], guard := none }) (v := .pointer (some ⟨G, 2, none⟩)) rfl (by kernel_rfl) (by kernel_rfl) (by kernel_rfl) (fun _ _ _ h => HP.out _ _ _ _ _ h) (by rfl) ?_ b1 ?_
  · (intro wq hSw; go_simp <;> with_reducible rfl)
  try simp only [Act.put, List.setIfInBounds_toArray, List.set_cons_zero, List.set_cons_succ]
  refine take_eff (w' := w'.setCell ⟨G, 2, none⟩ (.slice ua m uc)) (i := 10) (oi := { dst := none, op := Go.Op.store 26 (Go.Operand.tmp 74) (Go.Operand.tmp 72), type := 0, pos := "ref.go:75", after := #[{ on := 9, ground := Go.Ground.data }, { on := 7, ground := Go.Ground.data }, { on := 7, ground := Go.Ground.chain }, { on := 0, ground := Go.Ground.phase }, { on := 1, ground := Go.Ground.phase }, { on := 2, ground := Go.Ground.phase }, { on := 3, ground := Go.Ground.phase }, { on := 4, ground := Go.Ground.phase }, { on := 5, ground := Go.Ground.phase }, { on := 6, ground := Go.Ground.phase }, { on := 7, ground := Go.Ground.phase }], guard := none }) rfl (by kernel_rfl) (by rfl) (by go_simp <;> with_reducible rfl) (b1.set 2 _) ?_
  try simp only [Act.put]
  refine wpAnyH_done (by kernel_rfl) ?_ _
  exact HQ.out _ ua uc _ _ _ _ _ _ _ _ _ _ bw HFIN.out
end Go.Proofs.Ytcmhkeaimgppgaa
