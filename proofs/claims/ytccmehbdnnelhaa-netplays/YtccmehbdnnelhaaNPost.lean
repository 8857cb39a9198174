/- Package net: post. -/
import Derived.Test.YtccmehbdnnelhaaNPut
import Derived.WalkSpells
namespace Go.Proofs.Ytccmehbdnnelhaa
open Go.RowKit Go.Maps
attribute [local go_sem] Oper.semAt_some
set_option linter.unusedVariables false

theorem exec_appN {P : Program} {o : Oper} {a : Act} {w w' : World} {v u x : Value} (s y : Operand) (t : TypeId) (ho : o.op = .call { callee := .builtin .append, args := #[s, y], argTypes := #[t, t] }) (hs : a.eval s = u) (hx : a.eval y = x) (hr : (Builtin.append_ #[t, t] o.type #[u, x]).run P w = .ok v w') : (execOp a.eval o).run P w = .ok (.value v) w' := by
  unfold execOp
  simp only [ho, resolve, invoke, builtin, Sem.run_bind, Sem.run_pure, Result.andThen_ok, List.map_toArray, List.map_cons, List.map_nil, hs, hx, hr]
theorem letter_block (w : World) (fr to : Int) (dv : Value) : (w.alloc (.cells #[.int .i64 fr, .int .i64 to, dv] 45)).heap[w.heap.size]? = some (.cells #[.int .i64 fr, .int .i64 to, dv] 45 (0, 0)) := heap_alloc_new w _
theorem tLP : (45 : TypeId) ≠ 69 := by decide
/-- What post has made. -/
def Posted (base N B T : Nat) (bx : Int → Value) (L : List Post) (w w' : World) (p : Post) : Prop := ∃ bx', NetIn w' base N B bx' (L ++ [p]) (T + 1) ∧ NKeep base w w'
set_option maxRecDepth 100000 in
set_option maxHeartbeats 4000000 in
theorem post_any {w : World} {base N B T : Nat} {bx : Int → Value} {L : List Post} (h : NetIn w base N B bx L T) (p : Post) (hpt : p.t = T) (hto : -1 ≤ p.to ∧ p.to ≤ 4) (hd : DataAt w p.dv p.b) (hl : L.length < 10000) (hT : T ≤ 100000000000) :
    Calls Try.prog 28 #[.pointer (some ⟨N, 0, none⟩), .agg #[.int .i64 p.fr, .int .i64 p.to, p.dv]] w fun e w' => e = .returned (.int .i64 0) ∧ Posted base N B T bx L w w' p := by
  obtain ⟨fr, to, dv, b, t⟩ := p
  simp only at hpt hto hd
  subst hpt
  have qM : ∀ (w : World) (r : Option Nat), (binOp .eql 36 (.map r) (.map none)).run Try.prog w = .ok (.bool r.isNone) w := fun w r => run_eql_map_nil w _ _ _ r underM
  have hbs : base ≤ w.heap.size := Nat.le_of_lt (Nat.lt_of_le_of_lt h.bN h.ltN)
  have bA := (Below.refl w.heap.size w).alloc (Nat.le_refl _) (.cells #[.int .i64 fr, .int .i64 to, dv] 45)
  have hP := letter_block w fr to dv
  have hNA := h.below bA
  have HLn := len_any hNA
  have KA : Hid (NKeep base w (w.alloc (.cells #[.int .i64 fr, .int .i64 to, dv] 45))) := NKeep.of_below bA hbs
  obtain ⟨Pb, ePb⟩ : ∃ Pb, w.heap.size = Pb := ⟨_, rfl⟩
  rw [ePb] at hP
  obtain ⟨wA, eA⟩ : ∃ wA, w.alloc (.cells #[.int .i64 fr, .int .i64 to, dv] 45) = wA := ⟨_, rfl⟩
  rw [eA] at hP hNA HLn KA
  have hdA : DataAt wA dv b := by rw [← eA]; exact hd.below bA
  have HD : Hid (DataAt wA dv b) := hdA
  have HPA : Hid (wA.heap[Pb]? = some (.cells #[.int .i64 fr, .int .i64 to, dv] 45 (0, 0))) := hP
  have HNA : Hid (NetIn wA base N B bx L t) := hNA
  have HLL : Hid (L.length < 10000 ∧ t ≤ 100000000000 ∧ -1 ≤ to ∧ to ≤ 4) := ⟨hl, hT, hto⟩
  have hl' : ¬ ((10000 : Int) ≤ (L.length : Int)) := by omega
  obtain ⟨ln, eln⟩ : ∃ ln, L.length = ln := ⟨_, rfl⟩
  rw [eln] at HLn hl'
  clear h hd hdA hP hNA bA hto hl hT hbs eln
  go_enter Try.func28, Try.ntmps28
  go_wp2_with (first | (rw [eA]) | fail)
  refine HLn.mono ?_
  rintro e w1 ⟨rfl, b1⟩
  try rw [ePb]
  have H1 : Hid (NetIn w1 base N B bx L t) := HNA.out.below b1
  have P1 : Hid (w1.heap[Pb]? = some (.cells #[.int .i64 fr, .int .i64 to, dv] 45 (0, 0))) := (b1.block Pb (Array.getElem?_eq_some_iff.1 HPA.out).1).trans HPA.out
  have D1 : Hid (DataAt w1 dv b) := HD.out.below b1
  have K1 : Hid (NKeep base w w1) := KA.out.trans (NKeep.of_below b1 (Nat.le_of_lt (Nat.lt_of_le_of_lt HNA.out.bN HNA.out.ltN)))
  have c0 := H1.out.c0
  clear HLn b1 HNA HPA HD KA eA
  go_wp2_with fail
  obtain ⟨g, cap, w2, w3, hap, hup, n2, n3, kp, bx', hfin, hkeep⟩ := net_post (w := w1.drew) (H1.out.below (Below.refl _ w1).drew) ⟨fr, to, dv, b, t⟩ rfl HLL.out.2.2 (D1.out.below (Below.refl _ w1).drew) HLL.out.1 (by have := HLL.out.2.1; omega)
  simp only at hap hup hfin hkeep
  have hkw : kwf to := kwf_of (by have := HLL.out; omega) (by have := HLL.out; omega)
  obtain ⟨ba, bc, ebx, _⟩ := H1.out.box to
  have hlk := (H1.out.below (Below.refl _ w1).drew).hM.look hkw
  have hlkA := ((H1.out.below (Below.refl _ w1).drew).below ((Below.refl _ w1.drew).alloc (Nat.le_refl _) (.cells #[.int .i64 fr, .int .i64 to, dv, .int .i64 (t : Int)] 69))).hM.look hkw
  rw [ebx] at hlk hlkA hap
  obtain ⟨bn, ebn⟩ : ∃ bn, (box L to).length = bn := ⟨_, rfl⟩
  rw [ebn] at hlk hlkA hap hup
  have hap' : (Builtin.append_ #[66, 66] 66 #[.slice ba bn bc, .slice (some ⟨w1.heap.size, 0, none⟩) 1 1]).run Try.prog (w1.drew.alloc (.cells #[.int .i64 fr, .int .i64 to, dv, .int .i64 (t : Int)] 69)) = .ok (.slice (some ⟨g, 0, none⟩) (bn + 1) cap) w2 := hap
  have HAP : Hid _ := hap'
  have HUP : Hid _ := hup
  have HLK : Hid _ := hlk
  have HLA : Hid ((Instr.lookup 36 (.map (some B)) (.int .i64 to) false).run Try.prog (w1.alloc (.cells #[.int .i64 fr, .int .i64 to, dv, .int .i64 (t : Int)] 69)).drew = .ok (.slice ba bn bc) (w1.alloc (.cells #[.int .i64 fr, .int .i64 to, dv, .int .i64 (t : Int)] 69)).drew) := hlkA
  have HN : Hid (w1.drew.heap[N]? = some (.cells #[.map (some B), .int .i64 (t : Int)] 38 (0, 0))) := H1.out.hN
  have HP : Hid (w1.drew.heap[Pb]? = some (.cells #[.int .i64 fr, .int .i64 to, dv] 45 (0, 0))) := P1.out
  have bb := (Below.refl _ w1.drew).alloc (Nat.le_refl _) (.cells #[.int .i64 fr, .int .i64 to, dv, .int .i64 (t : Int)] 69)
  have HSA : Hid ((w1.drew.alloc (.cells #[.int .i64 fr, .int .i64 to, dv, .int .i64 (t : Int)] 69)).heap[N]? = some (.cells #[.map (some B), .int .i64 (t : Int)] 38 (0, 0)) ∧ (w1.drew.alloc (.cells #[.int .i64 fr, .int .i64 to, dv, .int .i64 (t : Int)] 69)).heap[Pb]? = some (.cells #[.int .i64 fr, .int .i64 to, dv] 45 (0, 0))) := ⟨(bb.block N (Array.getElem?_eq_some_iff.1 HN.out).1).trans HN.out, (bb.block Pb (Array.getElem?_eq_some_iff.1 HP.out).1).trans HP.out⟩
  have HS2 : Hid (w2.heap[N]? = some (.cells #[.map (some B), .int .i64 (t : Int)] 38 (0, 0)) ∧ w2.heap[Pb]? = some (.cells #[.int .i64 fr, .int .i64 to, dv] 45 (0, 0))) := ⟨n2.trans HN.out, ((kp Pb _ _ _ HP.out tLP).1).trans HP.out⟩
  have HS3 : Hid (w3.heap[N]? = some (.cells #[.map (some B), .int .i64 (t : Int)] 38 (0, 0)) ∧ w3.heap[Pb]? = some (.cells #[.int .i64 fr, .int .i64 to, dv] 45 (0, 0))) := ⟨n3.trans HN.out, ((kp Pb _ _ _ HP.out tLP).2).trans HP.out⟩
  have k1 : w3.cell? ⟨N, 1, none⟩ = some (.int .i64 (t : Int)) := by have := HS3.out.1; simp [World.cell?, this]
  have k2 : w3.frozen? ⟨N, 1, none⟩ = false := by have := HS3.out.1; simp [World.frozen?, this]
  have wt : IntKind.i64.wrap ((t : Int) + 1) = ((t + 1 : Nat) : Int) := by rw [IntKind.wrap_i64]; have := HLL.out; omega
  have FIN : Hid (Posted base N B t bx L w (w3.setCell ⟨N, 1, none⟩ (.int .i64 ((t + 1 : Nat) : Int))) ⟨fr, to, dv, b, t⟩) := ⟨bx', hfin, K1.out.trans ((NKeep.of_below (Below.refl _ w1).drew (Nat.le_of_lt (Nat.lt_of_le_of_lt H1.out.bN H1.out.ltN))).trans hkeep)⟩
  clear hap hup hlk hlkA hap' n2 n3 kp hfin hkeep ebx ebn c0 hkw bb
  refine wp_region_held_drew (S := fun X => X.heap[N]? = some (.cells #[.map (some B), .int .i64 (t : Int)] 38 (0, 0)) ∧ X.heap[Pb]? = some (.cells #[.int .i64 fr, .int .i64 to, dv] 45 (0, 0))) (by kernel_rfl) ⟨HN.out, HP.out⟩ (fun hHeld => ?_)
  refine take_run (i := 0) (oi := { dst := some 17, op := Go.Op.move (Go.Operand.tmp 0), type := 23, pos := "net.go:75", after := #[], guard := none }) (v := .pointer (some ⟨N, 0, none⟩)) rfl (by kernel_rfl) (by kernel_rfl) (by kernel_rfl) (fun _ _ _ h => h) (by rfl) ?_ hHeld ?_
  · (intro wq hSw; go_simp <;> with_reducible rfl)
  try simp only [Act.put, List.setIfInBounds_toArray, List.set_cons_zero, List.set_cons_succ]
  refine take_run (i := 1) (oi := { dst := some 18, op := Go.Op.nilCheck (Go.Operand.tmp 17), type := 0, pos := "net.go:75", after := #[{ on := 0, ground := Go.Ground.data }], guard := none }) (v := .pointer (some ⟨N, 0, none⟩)) rfl (by kernel_rfl) (by kernel_rfl) (by kernel_rfl) (fun _ _ _ h => h) (by rfl) ?_ hHeld ?_
  · (intro wq hSw; go_simp <;> with_reducible rfl)
  try simp only [Act.put, List.setIfInBounds_toArray, List.set_cons_zero, List.set_cons_succ]
  refine take_run (i := 2) (oi := { dst := some 19, op := Go.Op.fieldAddr 38 (Go.Operand.tmp 18) 0, type := 0, pos := "net.go:75", after := #[{ on := 1, ground := Go.Ground.data }], guard := none }) (v := .pointer (some ⟨N, 0, none⟩)) rfl (by kernel_rfl) (by kernel_rfl) (by kernel_rfl) (fun _ _ _ h => h) (by rfl) ?_ hHeld ?_
  · (intro wq hSw; go_simp <;> with_reducible rfl)
  try simp only [Act.put, List.setIfInBounds_toArray, List.set_cons_zero, List.set_cons_succ]
  refine take_run (i := 3) (oi := { dst := some 20, op := Go.Op.load 36 (Go.Operand.tmp 19), type := 36, pos := "net.go:75", after := #[{ on := 2, ground := Go.Ground.data }], guard := none }) (v := .map (some B)) rfl (by kernel_rfl) (by kernel_rfl) (by kernel_rfl) (fun _ _ _ h => h) (by rfl) ?_ hHeld ?_
  · (intro wq hSw; have cN := (show wq.cell? ⟨N, 0, none⟩ = some (.map (some B)) by have := hSw.1; simp [World.cell?, this]); go_simp <;> with_reducible rfl)
  try simp only [Act.put, List.setIfInBounds_toArray, List.set_cons_zero, List.set_cons_succ]
  refine take_run (i := 4) (oi := { dst := some 21, op := Go.Op.fieldAddr 45 (Go.Operand.tmp 3) 1, type := 0, pos := "net.go:75", after := #[], guard := none }) (v := .pointer (some ⟨Pb, 1, none⟩)) rfl (by kernel_rfl) (by kernel_rfl) (by kernel_rfl) (fun _ _ _ h => h) (by rfl) ?_ hHeld ?_
  · (intro wq hSw; go_simp <;> with_reducible rfl)
  try simp only [Act.put, List.setIfInBounds_toArray, List.set_cons_zero, List.set_cons_succ]
  refine take_run (i := 5) (oi := { dst := some 22, op := Go.Op.load 3 (Go.Operand.tmp 21), type := 3, pos := "net.go:75", after := #[{ on := 4, ground := Go.Ground.data }], guard := none }) (v := .int .i64 to) rfl (by kernel_rfl) (by kernel_rfl) (by kernel_rfl) (fun _ _ _ h => h) (by rfl) ?_ hHeld ?_
  · (intro wq hSw; have cP := (show wq.cell? ⟨Pb, 1, none⟩ = some (.int .i64 to) by have := hSw.2; simp [World.cell?, this]); go_simp <;> with_reducible rfl)
  try simp only [Act.put, List.setIfInBounds_toArray, List.set_cons_zero, List.set_cons_succ]
  refine take_run (i := 6) (oi := { dst := some 23, op := Go.Op.move (Go.Operand.tmp 0), type := 23, pos := "net.go:75", after := #[], guard := none }) (v := .pointer (some ⟨N, 0, none⟩)) rfl (by kernel_rfl) (by kernel_rfl) (by kernel_rfl) (fun _ _ _ h => h) (by rfl) ?_ hHeld ?_
  · (intro wq hSw; go_simp <;> with_reducible rfl)
  try simp only [Act.put, List.setIfInBounds_toArray, List.set_cons_zero, List.set_cons_succ]
  refine take_run (i := 7) (oi := { dst := some 24, op := Go.Op.nilCheck (Go.Operand.tmp 23), type := 0, pos := "net.go:75", after := #[{ on := 6, ground := Go.Ground.data }], guard := none }) (v := .pointer (some ⟨N, 0, none⟩)) rfl (by kernel_rfl) (by kernel_rfl) (by kernel_rfl) (fun _ _ _ h => h) (by rfl) ?_ hHeld ?_
  · (intro wq hSw; go_simp <;> with_reducible rfl)
  try simp only [Act.put, List.setIfInBounds_toArray, List.set_cons_zero, List.set_cons_succ]
  refine take_run (i := 8) (oi := { dst := some 25, op := Go.Op.fieldAddr 38 (Go.Operand.tmp 24) 0, type := 0, pos := "net.go:75", after := #[{ on := 7, ground := Go.Ground.data }], guard := none }) (v := .pointer (some ⟨N, 0, none⟩)) rfl (by kernel_rfl) (by kernel_rfl) (by kernel_rfl) (fun _ _ _ h => h) (by rfl) ?_ hHeld ?_
  · (intro wq hSw; go_simp <;> with_reducible rfl)
  try simp only [Act.put, List.setIfInBounds_toArray, List.set_cons_zero, List.set_cons_succ]
  refine take_run (i := 9) (oi := { dst := some 26, op := Go.Op.load 36 (Go.Operand.tmp 25), type := 36, pos := "net.go:75", after := #[{ on := 8, ground := Go.Ground.data }], guard := none }) (v := .map (some B)) rfl (by kernel_rfl) (by kernel_rfl) (by kernel_rfl) (fun _ _ _ h => h) (by rfl) ?_ hHeld ?_
  · (intro wq hSw; have cN := (show wq.cell? ⟨N, 0, none⟩ = some (.map (some B)) by have := hSw.1; simp [World.cell?, this]); go_simp <;> with_reducible rfl)
  try simp only [Act.put, List.setIfInBounds_toArray, List.set_cons_zero, List.set_cons_succ]
  refine take_run (i := 10) (oi := { dst := some 27, op := Go.Op.fieldAddr 45 (Go.Operand.tmp 3) 1, type := 0, pos := "net.go:75", after := #[], guard := none }) (v := .pointer (some ⟨Pb, 1, none⟩)) rfl (by kernel_rfl) (by kernel_rfl) (by kernel_rfl) (fun _ _ _ h => h) (by rfl) ?_ hHeld ?_
  · (intro wq hSw; go_simp <;> with_reducible rfl)
  try simp only [Act.put, List.setIfInBounds_toArray, List.set_cons_zero, List.set_cons_succ]
  refine take_run (i := 11) (oi := { dst := some 28, op := Go.Op.load 3 (Go.Operand.tmp 27), type := 3, pos := "net.go:75", after := #[{ on := 10, ground := Go.Ground.data }], guard := none }) (v := .int .i64 to) rfl (by kernel_rfl) (by kernel_rfl) (by kernel_rfl) (fun _ _ _ h => h) (by rfl) ?_ hHeld ?_
  · (intro wq hSw; have cP := (show wq.cell? ⟨Pb, 1, none⟩ = some (.int .i64 to) by have := hSw.2; simp [World.cell?, this]); go_simp <;> with_reducible rfl)
  try simp only [Act.put, List.setIfInBounds_toArray, List.set_cons_zero, List.set_cons_succ]
  refine take_row (i := 13) (oi := { dst := some 30, op := Go.Op.load 45 (Go.Operand.tmp 3), type := 45, pos := "net.go:75", after := #[], guard := none }) rfl (by kernel_rfl) (by kernel_rfl) (by kernel_rfl) 45 (.tmp 3) Pb 45 #[.int .i64 fr, .int .i64 to, dv] (0, 0) _ (fun _ _ _ h => h) (by rfl) rfl (by go_simp <;> with_reducible rfl) (fun X hX => hX.2) Try.underlying45 rfl (by kernel_rfl) hHeld ?_
  try simp only [Act.put, List.setIfInBounds_toArray, List.set_cons_zero, List.set_cons_succ]
  refine take_run (i := 14) (oi := { dst := some 31, op := Go.Op.move (Go.Operand.tmp 0), type := 23, pos := "net.go:75", after := #[], guard := none }) (v := .pointer (some ⟨N, 0, none⟩)) rfl (by kernel_rfl) (by kernel_rfl) (by kernel_rfl) (fun _ _ _ h => h) (by rfl) ?_ hHeld ?_
  · (intro wq hSw; go_simp <;> with_reducible rfl)
  try simp only [Act.put, List.setIfInBounds_toArray, List.set_cons_zero, List.set_cons_succ]
  refine take_run (i := 15) (oi := { dst := some 32, op := Go.Op.nilCheck (Go.Operand.tmp 31), type := 0, pos := "net.go:75", after := #[{ on := 14, ground := Go.Ground.data }], guard := none }) (v := .pointer (some ⟨N, 0, none⟩)) rfl (by kernel_rfl) (by kernel_rfl) (by kernel_rfl) (fun _ _ _ h => h) (by rfl) ?_ hHeld ?_
  · (intro wq hSw; go_simp <;> with_reducible rfl)
  try simp only [Act.put, List.setIfInBounds_toArray, List.set_cons_zero, List.set_cons_succ]
  refine take_run (i := 16) (oi := { dst := some 33, op := Go.Op.fieldAddr 38 (Go.Operand.tmp 32) 1, type := 0, pos := "net.go:75", after := #[{ on := 15, ground := Go.Ground.data }], guard := none }) (v := .pointer (some ⟨N, 1, none⟩)) rfl (by kernel_rfl) (by kernel_rfl) (by kernel_rfl) (fun _ _ _ h => h) (by rfl) ?_ hHeld ?_
  · (intro wq hSw; go_simp <;> with_reducible rfl)
  try simp only [Act.put, List.setIfInBounds_toArray, List.set_cons_zero, List.set_cons_succ]
  refine take_run (i := 17) (oi := { dst := some 34, op := Go.Op.load 3 (Go.Operand.tmp 33), type := 3, pos := "net.go:75", after := #[{ on := 16, ground := Go.Ground.data }], guard := none }) (v := .int .i64 (t : Int)) rfl (by kernel_rfl) (by kernel_rfl) (by kernel_rfl) (fun _ _ _ h => h) (by rfl) ?_ hHeld ?_
  · (intro wq hSw; have cN := (show wq.cell? ⟨N, 1, none⟩ = some (.int .i64 (t : Int)) by have := hSw.1; simp [World.cell?, this]); go_simp <;> with_reducible rfl)
  try simp only [Act.put, List.setIfInBounds_toArray, List.set_cons_zero, List.set_cons_succ]
  refine take_run (i := 18) (oi := { dst := some 35, op := Go.Op.build 69 #[(0, Go.Operand.tmp 30), (1, Go.Operand.tmp 34)], type := 69, pos := "net.go:75", after := #[{ on := 13, ground := Go.Ground.data }, { on := 17, ground := Go.Ground.data }], guard := none }) (v := .agg #[.int .i64 fr, .int .i64 to, dv, .int .i64 (t : Int)]) rfl (by kernel_rfl) (by kernel_rfl) (by kernel_rfl) (fun _ _ _ h => h) (by rfl) ?_ hHeld ?_
  · (intro wq hSw; go_simp <;> with_reducible rfl)
  try simp only [Act.put, List.setIfInBounds_toArray, List.set_cons_zero, List.set_cons_succ]
  refine take_two (i := 12) (j := 19) (oi := { dst := some 29, op := Go.Op.lookup 36 (Go.Operand.tmp 26) (Go.Operand.tmp 28) false, type := 66, pos := "net.go:75", after := #[{ on := 9, ground := Go.Ground.data }, { on := 11, ground := Go.Ground.data }], guard := none }) (oj := { dst := some 36, op := Go.Op.buildSlice 66 1 #[(0, Go.Operand.tmp 35)], type := 66, pos := "net.go:75", after := #[{ on := 18, ground := Go.Ground.data }], guard := none }) (.slice ba bn bc) (.slice (some ⟨w1.heap.size, 0, none⟩) 1 1) rfl rfl (by kernel_rfl) (by rfl) (by rfl) (by have cc := HLK.out; go_simp <;> with_reducible rfl) hHeld (by go_simp <;> with_reducible rfl) HSA.out ?_ ?_
  · try simp only [Act.put, List.setIfInBounds_toArray, List.set_cons_zero, List.set_cons_succ]
    refine take_val (i := 19) (oi := { dst := some 36, op := Go.Op.buildSlice 66 1 #[(0, Go.Operand.tmp 35)], type := 66, pos := "net.go:75", after := #[{ on := 18, ground := Go.Ground.data }], guard := none }) (.slice (some ⟨w1.heap.size, 0, none⟩) 1 1) rfl (by kernel_rfl) (by rfl) (by go_simp <;> with_reducible rfl) HSA.out ?_
    try simp only [Act.put, List.setIfInBounds_toArray, List.set_cons_zero, List.set_cons_succ]
    refine take_val (i := 20) (oi := { dst := some 37, op := Go.Op.call { callee := Go.Callee.builtin Go.Builtin.append, args := #[Go.Operand.tmp 29, Go.Operand.tmp 36], argTypes := #[66, 66] }, type := 66, pos := "net.go:75", after := #[{ on := 12, ground := Go.Ground.data }, { on := 19, ground := Go.Ground.data }], guard := none }) (.slice (some ⟨g, 0, none⟩) (bn + 1) cap) rfl (by kernel_rfl) (by rfl) (exec_appN (.tmp 29) (.tmp 36) 66 rfl rfl rfl HAP.out) HS2.out ?_
    try simp only [Act.put, List.setIfInBounds_toArray, List.set_cons_zero, List.set_cons_succ]
    refine take_eff (i := 21) (oi := { dst := none, op := Go.Op.mapUpdate 36 (Go.Operand.tmp 20) (Go.Operand.tmp 22) (Go.Operand.tmp 37), type := 0, pos := "net.go:75", after := #[{ on := 3, ground := Go.Ground.data }, { on := 5, ground := Go.Ground.data }, { on := 20, ground := Go.Ground.data }, { on := 20, ground := Go.Ground.chain }, { on := 0, ground := Go.Ground.phase }, { on := 1, ground := Go.Ground.phase }, { on := 2, ground := Go.Ground.phase }, { on := 3, ground := Go.Ground.phase }, { on := 4, ground := Go.Ground.phase }, { on := 5, ground := Go.Ground.phase }, { on := 6, ground := Go.Ground.phase }, { on := 7, ground := Go.Ground.phase }, { on := 8, ground := Go.Ground.phase }, { on := 9, ground := Go.Ground.phase }, { on := 10, ground := Go.Ground.phase }, { on := 11, ground := Go.Ground.phase }, { on := 12, ground := Go.Ground.phase }, { on := 13, ground := Go.Ground.phase }, { on := 14, ground := Go.Ground.phase }, { on := 15, ground := Go.Ground.phase }, { on := 16, ground := Go.Ground.phase }, { on := 17, ground := Go.Ground.phase }, { on := 18, ground := Go.Ground.phase }, { on := 19, ground := Go.Ground.phase }, { on := 20, ground := Go.Ground.phase }], guard := none }) rfl (by kernel_rfl) (by rfl) (by have cc := HUP.out; go_simp <;> with_reducible rfl) HS3.out ?_
    try simp only [Act.put]
    refine wpAnyH_done (by kernel_rfl) ?_ _
    clear hHeld
    go_wp2
    go_ret
    exact ⟨rfl, FIN.out⟩
  · try simp only [Act.put, List.setIfInBounds_toArray, List.set_cons_zero, List.set_cons_succ]
    refine take_val (i := 12) (oi := { dst := some 29, op := Go.Op.lookup 36 (Go.Operand.tmp 26) (Go.Operand.tmp 28) false, type := 66, pos := "net.go:75", after := #[{ on := 9, ground := Go.Ground.data }, { on := 11, ground := Go.Ground.data }], guard := none }) (.slice ba bn bc) rfl (by kernel_rfl) (by rfl) (by have cc := HLA.out; go_simp <;> with_reducible rfl) HSA.out ?_
    try simp only [Act.put, List.setIfInBounds_toArray, List.set_cons_zero, List.set_cons_succ]
    refine take_val (i := 20) (oi := { dst := some 37, op := Go.Op.call { callee := Go.Callee.builtin Go.Builtin.append, args := #[Go.Operand.tmp 29, Go.Operand.tmp 36], argTypes := #[66, 66] }, type := 66, pos := "net.go:75", after := #[{ on := 12, ground := Go.Ground.data }, { on := 19, ground := Go.Ground.data }], guard := none }) (.slice (some ⟨g, 0, none⟩) (bn + 1) cap) rfl (by kernel_rfl) (by rfl) (exec_appN (.tmp 29) (.tmp 36) 66 rfl rfl rfl HAP.out) HS2.out ?_
    try simp only [Act.put, List.setIfInBounds_toArray, List.set_cons_zero, List.set_cons_succ]
    refine take_eff (i := 21) (oi := { dst := none, op := Go.Op.mapUpdate 36 (Go.Operand.tmp 20) (Go.Operand.tmp 22) (Go.Operand.tmp 37), type := 0, pos := "net.go:75", after := #[{ on := 3, ground := Go.Ground.data }, { on := 5, ground := Go.Ground.data }, { on := 20, ground := Go.Ground.data }, { on := 20, ground := Go.Ground.chain }, { on := 0, ground := Go.Ground.phase }, { on := 1, ground := Go.Ground.phase }, { on := 2, ground := Go.Ground.phase }, { on := 3, ground := Go.Ground.phase }, { on := 4, ground := Go.Ground.phase }, { on := 5, ground := Go.Ground.phase }, { on := 6, ground := Go.Ground.phase }, { on := 7, ground := Go.Ground.phase }, { on := 8, ground := Go.Ground.phase }, { on := 9, ground := Go.Ground.phase }, { on := 10, ground := Go.Ground.phase }, { on := 11, ground := Go.Ground.phase }, { on := 12, ground := Go.Ground.phase }, { on := 13, ground := Go.Ground.phase }, { on := 14, ground := Go.Ground.phase }, { on := 15, ground := Go.Ground.phase }, { on := 16, ground := Go.Ground.phase }, { on := 17, ground := Go.Ground.phase }, { on := 18, ground := Go.Ground.phase }, { on := 19, ground := Go.Ground.phase }, { on := 20, ground := Go.Ground.phase }], guard := none }) rfl (by kernel_rfl) (by rfl) (by have cc := HUP.out; go_simp <;> with_reducible rfl) HS3.out ?_
    try simp only [Act.put]
    refine wpAnyH_done (by kernel_rfl) ?_ _
    clear hHeld
    go_wp2
    go_ret
    exact ⟨rfl, FIN.out⟩
end Go.Proofs.Ytccmehbdnnelhaa
