/- Package net: letter, copied, Look. -/
import Derived.Test.YtccmehbdnnelhaaNDrop
namespace Go.Proofs.Ytccmehbdnnelhaa
open Go.RowKit Go.Maps
attribute [local go_sem] Oper.semAt_some
set_option linter.unusedVariables false

theorem exec_storeN {P : Program} {o : Oper} {a : Act} {w : World} (ty : TypeId) (x y : Operand) (ho : o.op = .store ty x y) (g : Nat) (cells : Array Value) (hx : a.eval x = .pointer (some ⟨g, 0, none⟩)) (hy : a.eval y = .agg cells)
    (t : TypeId) (old : Array Value) (hg : w.heap[g]? = some (.cells old t (0, 0))) (hi : (P.info? ty).map (·.size) = some cells.size) (hold : old.size = cells.size) (h1 : cells.all (·.oneCell') = true) : (execOp a.eval o).run P w = .ok .skip (w.setRow g cells) := by
  unfold execOp
  simp only [ho, hx, hy, Instr.storeAt, Instr.sureAddr, Sem.run_bind, Sem.run_pure, Result.andThen_ok, run_storeVar_row w g t ty old cells hg hi hold h1]
/-- What letter reads. -/
structure LetRd (W : World) (N B Sb Sl g n cap at_ : Nat) (fr to : Int) (dv : Value) : Prop where
  n0 : ∀ X : World, (∀ q, q ≠ Sl → X.heap[q]? = W.heap[q]?) → Hid (X.cell? ⟨N, 0, none⟩ = some (.map (some B)))
  s0 : ∀ X : World, (∀ q, q ≠ Sl → X.heap[q]? = W.heap[q]?) → Hid (X.cell? ⟨Sb, 0, none⟩ = some (.int .i64 to))
  s1 : ∀ X : World, (∀ q, q ≠ Sl → X.heap[q]? = W.heap[q]?) → Hid (X.cell? ⟨Sb, 1, none⟩ = some (.int .i64 (at_ : Int)))
  lk : ∀ X : World, (∀ q, q ≠ Sl → X.heap[q]? = W.heap[q]?) → Hid ((Instr.lookup 36 (.map (some B)) (.int .i64 to) false).run Try.prog X = .ok (.slice (some ⟨g, 0, none⟩) n cap) X)
  c0 : ∀ X : World, (∀ q, q ≠ Sl → X.heap[q]? = W.heap[q]?) → Hid (X.cell? ⟨g, at_ * 4, none⟩ = some (.int .i64 fr))
  c1 : ∀ X : World, (∀ q, q ≠ Sl → X.heap[q]? = W.heap[q]?) → Hid (X.cell? ⟨g, at_ * 4 + 1, none⟩ = some (.int .i64 to))
  c2 : ∀ X : World, (∀ q, q ≠ Sl → X.heap[q]? = W.heap[q]?) → Hid (X.cell? ⟨g, at_ * 4 + 2, none⟩ = some dv)
  sl : W.heap[Sl]? = some (.cells #[.int .i64 0, .int .i64 0, .slice none 0 0] 45 (0, 0))
  one : (#[.int .i64 fr, .int .i64 to, dv] : Array Value).all (·.oneCell') = true
theorem cell_same {W X : World} {a : Addr} {v : Value} (h : W.cell? a = some v) (e : X.heap[a.block]? = W.heap[a.block]?) : X.cell? a = some v := by rw [World.cell?_of_block (w := W) (a := a) e]; exact h
theorem let_rd {w : World} {base N B T : Nat} {bx : Int → Value} {L : List Post} (h : NetIn w base N B bx L T) {i : Nat} (hi : i < L.length) {to : Int} {at_ : Nat} (eto : L[i].to = to) (eat : spotOf L i = at_) :
    ∃ g n cap, at_ < n ∧ n ≤ 10000 ∧ LetRd (((w.alloc (.cells #[.int .i64 to, .int .i64 (at_ : Int)] 63)).alloc (.cells #[.int .i64 0, .int .i64 0, .slice none 0 0] 45)).drew) N B w.heap.size (w.heap.size + 1) g n cap at_ L[i].fr to L[i].dv := by
  subst eto
  subst eat
  have b1 := (Below.refl w.heap.size w).alloc (Nat.le_refl _) (.cells #[.int .i64 L[i].to, .int .i64 (spotOf L i : Nat)] 63)
  have b2 := b1.alloc (by simp) (.cells #[.int .i64 0, .int .i64 0, .slice none 0 0] 45)
  have h2 := h.below b2
  obtain ⟨g, n, cap, hb, hn, hat, hn2, ho⟩ := net_box h2 hi
  obtain ⟨hk, es⟩ := spot_ok h.ris hi
  obtain ⟨a, c, e, hp⟩ := h2.box L[i].to
  rw [hb] at e
  cases e
  obtain ⟨g', o', ea, c0, c1, c2, c3⟩ := hp.at hk
  rw [es] at c0 c1 c2
  obtain ⟨rfl, rfl⟩ : g = g' ∧ 0 = o' := by cases ea; exact ⟨rfl, rfl⟩
  rw [Nat.zero_add] at c0 c1 c2
  have lt := h.ltN
  have glt : g < w.heap.size := by
    have e1 : (bx L[i].to).ownBlock = some g := by rw [hb]; rfl
    exact (row_lt4 (h.row L[i].to) e1).2
  have Blt := h.hM.lt
  have hsp := heap_alloc_new w (.cells #[.int .i64 L[i].to, .int .i64 (spotOf L i : Nat)] 63)
  have hsp2 : ((w.alloc (.cells #[.int .i64 L[i].to, .int .i64 (spotOf L i : Nat)] 63)).alloc (.cells #[.int .i64 0, .int .i64 0, .slice none 0 0] 45)).heap[w.heap.size]? = some (.cells #[.int .i64 L[i].to, .int .i64 (spotOf L i : Nat)] 63 (0, 0)) :=
    (((Below.refl _ (w.alloc (.cells #[.int .i64 L[i].to, .int .i64 (spotOf L i : Nat)] 63))).alloc (Nat.le_refl _) _).block _ (by simp)).trans hsp
  have hsl := heap_alloc_new (w.alloc (.cells #[.int .i64 L[i].to, .int .i64 (spotOf L i : Nat)] 63)) (.cells #[.int .i64 0, .int .i64 0, .slice none 0 0] 45)
  have hdv : L[i].dv.oneCell' = true := by obtain ⟨a, c, e, _⟩ := h.dat _ (List.getElem_mem hi); rw [e]; rfl
  refine ⟨g, (box L L[i].to).length, cap, hat, hn2, ⟨fun X hX => cell_same h2.c0 (hX N (by omega)), fun X hX => ?_, fun X hX => ?_, fun X hX => ?_, fun X hX => cell_same c0 (hX g (by omega)), fun X hX => cell_same c1 (hX g (by omega)), fun X hX => cell_same c2 (hX g (by omega)), (by have h3 := hsl; rw [show (w.alloc (.cells #[.int .i64 L[i].to, .int .i64 (spotOf L i : Nat)] 63)).heap.size = w.heap.size + 1 by simp] at h3; exact h3), by simp only [List.all_toArray, List.all_cons, List.all_nil, Bool.and_true, Bool.and_eq_true]; exact ⟨rfl, rfl, hdv⟩⟩⟩
  · have := (hX w.heap.size (by omega)).trans hsp2
    show X.cell? _ = _
    unfold World.cell?
    simp only [this]
    rfl
  · have := (hX w.heap.size (by omega)).trans hsp2
    show X.cell? _ = _
    unfold World.cell?
    simp only [this]
    rfl
  · have := (h2.hM.kept (hX B (by omega))).look (h.kwf (List.getElem_mem hi))
    rw [hb] at this
    exact this
set_option maxRecDepth 100000 in
set_option maxHeartbeats 4000000 in
theorem letter_any {w : World} {base N B T : Nat} {bx : Int → Value} {L : List Post} (h : NetIn w base N B bx L T) {i : Nat} (hi : i < L.length) : Calls Try.prog 33 #[.pointer (some ⟨N, 0, none⟩), .agg #[.int .i64 L[i].to, .int .i64 (spotOf L i : Nat)]] w fun e w' => e = .returned (.agg #[.int .i64 L[i].fr, .int .i64 L[i].to, L[i].dv]) ∧ Below w.heap.size w w' := by
  obtain ⟨to, eto⟩ : ∃ to, L[i].to = to := ⟨_, rfl⟩
  obtain ⟨at_, eat⟩ : ∃ at_, spotOf L i = at_ := ⟨_, rfl⟩
  obtain ⟨g, n, cap, hat, hn, lk⟩ := let_rd h hi eto eat
  obtain ⟨fr, efr⟩ : ∃ fr, L[i].fr = fr := ⟨_, rfl⟩
  obtain ⟨dv, edv⟩ : ∃ dv, L[i].dv = dv := ⟨_, rfl⟩
  rw [efr, edv] at lk
  rw [eto, eat, efr, edv]
  have b1 := (Below.refl w.heap.size w).alloc (Nat.le_refl _) (.cells #[.int .i64 to, .int .i64 (at_ : Int)] 63)
  have b2 := b1.alloc (by simp) (.cells #[.int .i64 0, .int .i64 0, .slice none 0 0] 45)
  obtain ⟨Wx, eW⟩ : ∃ Wx, ((w.alloc (.cells #[.int .i64 to, .int .i64 (at_ : Int)] 63)).alloc (.cells #[.int .i64 0, .int .i64 0, .slice none 0 0] 45)) = Wx := ⟨_, rfl⟩
  rw [eW] at lk b2
  obtain ⟨Sb, eSb⟩ : ∃ Sb, w.heap.size = Sb := ⟨_, rfl⟩
  obtain ⟨Sl, eSl⟩ : ∃ Sl, w.heap.size + 1 = Sl := ⟨_, rfl⟩
  rw [eSl] at lk
  rw [eSb] at lk
  have LK : Hid (LetRd Wx.drew N B Sb Sl g n cap at_ fr to dv) := lk
  have BW : Hid (Below w.heap.size w Wx ∧ w.heap.size ≤ Sl) := ⟨b2, by omega⟩
  have a1 : (at_ : Int) < (n : Int) := by omega
  have a2 : at_ < n := hat
  clear h hi lk b1 b2 eto eat efr edv hat hn
  go_enter Try.func33, Try.ntmps33
  go_wp2_with (first | (rw [eW]) | fail)
  try rw [eW]
  try rw [eSb]
  try rw [show Sb + 1 = Sl by omega]
  refine wp_region_held_drew (S := fun X => ∀ q, q ≠ Sl → X.heap[q]? = Wx.drew.heap[q]?) (by kernel_rfl) (fun q _ => rfl) (fun hHeld => ?_)
  refine take_run (i := 0) (oi := { dst := some 5, op := Go.Op.move (Go.Operand.tmp 0), type := 23, pos := "net.go:135", after := #[], guard := none }) (v := .pointer (some ⟨N, 0, none⟩)) rfl (by kernel_rfl) (by kernel_rfl) (by kernel_rfl) (fun _ _ _ h => h) (by rfl) ?_ hHeld ?_
  · (intro wq hSw; go_simp <;> with_reducible rfl)
  try simp only [Act.put, List.setIfInBounds_toArray, List.set_cons_zero, List.set_cons_succ]
  refine take_run (i := 1) (oi := { dst := some 6, op := Go.Op.nilCheck (Go.Operand.tmp 5), type := 0, pos := "net.go:135", after := #[{ on := 0, ground := Go.Ground.data }], guard := none }) (v := .pointer (some ⟨N, 0, none⟩)) rfl (by kernel_rfl) (by kernel_rfl) (by kernel_rfl) (fun _ _ _ h => h) (by rfl) ?_ hHeld ?_
  · (intro wq hSw; go_simp <;> with_reducible rfl)
  try simp only [Act.put, List.setIfInBounds_toArray, List.set_cons_zero, List.set_cons_succ]
  refine take_run (i := 2) (oi := { dst := some 7, op := Go.Op.fieldAddr 38 (Go.Operand.tmp 6) 0, type := 0, pos := "net.go:135", after := #[{ on := 1, ground := Go.Ground.data }], guard := none }) (v := .pointer (some ⟨N, 0, none⟩)) rfl (by kernel_rfl) (by kernel_rfl) (by kernel_rfl) (fun _ _ _ h => h) (by rfl) ?_ hHeld ?_
  · (intro wq hSw; go_simp <;> with_reducible rfl)
  try simp only [Act.put, List.setIfInBounds_toArray, List.set_cons_zero, List.set_cons_succ]
  refine take_run (i := 3) (oi := { dst := some 8, op := Go.Op.load 36 (Go.Operand.tmp 7), type := 36, pos := "net.go:135", after := #[{ on := 2, ground := Go.Ground.data }], guard := none }) (v := .map (some B)) rfl (by kernel_rfl) (by kernel_rfl) (by kernel_rfl) (fun _ _ _ h => h) (by rfl) ?_ hHeld ?_
  · (intro wq hSw; have cc := (LK.out.n0 wq hSw).out; go_simp <;> with_reducible rfl)
  try simp only [Act.put, List.setIfInBounds_toArray, List.set_cons_zero, List.set_cons_succ]
  refine take_run (i := 4) (oi := { dst := some 9, op := Go.Op.fieldAddr 63 (Go.Operand.tmp 3) 0, type := 0, pos := "net.go:135", after := #[], guard := none }) (v := .pointer (some ⟨Sb, 0, none⟩)) rfl (by kernel_rfl) (by kernel_rfl) (by kernel_rfl) (fun _ _ _ h => h) (by rfl) ?_ hHeld ?_
  · (intro wq hSw; go_simp <;> with_reducible rfl)
  try simp only [Act.put, List.setIfInBounds_toArray, List.set_cons_zero, List.set_cons_succ]
  refine take_run (i := 5) (oi := { dst := some 10, op := Go.Op.load 3 (Go.Operand.tmp 9), type := 3, pos := "net.go:135", after := #[{ on := 4, ground := Go.Ground.data }], guard := none }) (v := .int .i64 to) rfl (by kernel_rfl) (by kernel_rfl) (by kernel_rfl) (fun _ _ _ h => h) (by rfl) ?_ hHeld ?_
  · (intro wq hSw; have cc := (LK.out.s0 wq hSw).out; go_simp <;> with_reducible rfl)
  try simp only [Act.put, List.setIfInBounds_toArray, List.set_cons_zero, List.set_cons_succ]
  refine take_run (i := 6) (oi := { dst := some 11, op := Go.Op.lookup 36 (Go.Operand.tmp 8) (Go.Operand.tmp 10) false, type := 66, pos := "net.go:135", after := #[{ on := 3, ground := Go.Ground.data }, { on := 5, ground := Go.Ground.data }], guard := none }) (v := .slice (some ⟨g, 0, none⟩) n cap) rfl (by kernel_rfl) (by kernel_rfl) (by kernel_rfl) (fun _ _ _ h => h) (by rfl) ?_ hHeld ?_
  · (intro wq hSw; have cc := (LK.out.lk wq hSw).out; go_simp <;> with_reducible rfl)
  try simp only [Act.put, List.setIfInBounds_toArray, List.set_cons_zero, List.set_cons_succ]
  refine take_run (i := 7) (oi := { dst := some 12, op := Go.Op.fieldAddr 63 (Go.Operand.tmp 3) 1, type := 0, pos := "net.go:135", after := #[], guard := none }) (v := .pointer (some ⟨Sb, 1, none⟩)) rfl (by kernel_rfl) (by kernel_rfl) (by kernel_rfl) (fun _ _ _ h => h) (by rfl) ?_ hHeld ?_
  · (intro wq hSw; go_simp <;> with_reducible rfl)
  try simp only [Act.put, List.setIfInBounds_toArray, List.set_cons_zero, List.set_cons_succ]
  refine take_run (i := 8) (oi := { dst := some 13, op := Go.Op.load 3 (Go.Operand.tmp 12), type := 3, pos := "net.go:135", after := #[{ on := 7, ground := Go.Ground.data }], guard := none }) (v := .int .i64 (at_ : Int)) rfl (by kernel_rfl) (by kernel_rfl) (by kernel_rfl) (fun _ _ _ h => h) (by rfl) ?_ hHeld ?_
  · (intro wq hSw; have cc := (LK.out.s1 wq hSw).out; go_simp <;> with_reducible rfl)
  try simp only [Act.put, List.setIfInBounds_toArray, List.set_cons_zero, List.set_cons_succ]
  refine take_run (i := 9) (oi := { dst := some 14, op := Go.Op.indexAddr 66 (Go.Operand.tmp 11) (Go.Operand.tmp 13), type := 0, pos := "net.go:135", after := #[{ on := 6, ground := Go.Ground.data }, { on := 8, ground := Go.Ground.data }], guard := none }) (v := .pointer (some ⟨g, at_ * 4, none⟩)) rfl (by kernel_rfl) (by kernel_rfl) (by kernel_rfl) (fun _ _ _ h => h) (by rfl) ?_ hHeld ?_
  · (intro wq hSw; go_simp <;> with_reducible rfl)
  try simp only [Act.put, List.setIfInBounds_toArray, List.set_cons_zero, List.set_cons_succ]
  refine take_run (i := 10) (oi := { dst := some 15, op := Go.Op.fieldAddr 69 (Go.Operand.tmp 14) 0, type := 0, pos := "net.go:135", after := #[{ on := 9, ground := Go.Ground.data }], guard := none }) (v := .pointer (some ⟨g, at_ * 4, none⟩)) rfl (by kernel_rfl) (by kernel_rfl) (by kernel_rfl) (fun _ _ _ h => h) (by rfl) ?_ hHeld ?_
  · (intro wq hSw; go_simp <;> with_reducible rfl)
  try simp only [Act.put, List.setIfInBounds_toArray, List.set_cons_zero, List.set_cons_succ]
  refine take_run (i := 11) (oi := { dst := some 16, op := Go.Op.load 45 (Go.Operand.tmp 15), type := 45, pos := "net.go:135", after := #[{ on := 10, ground := Go.Ground.data }], guard := none }) (v := .agg #[.int .i64 fr, .int .i64 to, dv]) rfl (by kernel_rfl) (by kernel_rfl) (by kernel_rfl) (fun _ _ _ h => h) (by rfl) ?_ hHeld ?_
  · (intro wq hSw; have c0 := (LK.out.c0 wq hSw).out; have c1 := (LK.out.c1 wq hSw).out; have c2 := (LK.out.c2 wq hSw).out; go_simp <;> with_reducible rfl)
  try simp only [Act.put, List.setIfInBounds_toArray, List.set_cons_zero, List.set_cons_succ]
  refine take_eff (i := 12) (oi := { dst := none, op := Go.Op.store 45 (Go.Operand.tmp 4) (Go.Operand.tmp 16), type := 0, pos := "net.go:135", after := #[{ on := 11, ground := Go.Ground.data }, { on := 0, ground := Go.Ground.phase }, { on := 1, ground := Go.Ground.phase }, { on := 2, ground := Go.Ground.phase }, { on := 3, ground := Go.Ground.phase }, { on := 4, ground := Go.Ground.phase }, { on := 5, ground := Go.Ground.phase }, { on := 6, ground := Go.Ground.phase }, { on := 7, ground := Go.Ground.phase }, { on := 8, ground := Go.Ground.phase }, { on := 9, ground := Go.Ground.phase }, { on := 10, ground := Go.Ground.phase }, { on := 11, ground := Go.Ground.phase }], guard := none }) rfl (by kernel_rfl) (by rfl) (exec_storeN 45 (.tmp 4) (.tmp 16) rfl Sl #[.int .i64 fr, .int .i64 to, dv] rfl rfl 45 _ LK.out.sl (by kernel_rfl) rfl LK.out.one) (fun q hq => setRow_other _ _ _ _ hq) ?_
  try simp only [Act.put]
  refine wpAnyH_done (by kernel_rfl) ?_ _
  have hh : (Wx.drew.setRow Sl #[.int .i64 fr, .int .i64 to, dv]).heap[Sl]? = some (.cells #[.int .i64 fr, .int .i64 to, dv] 45 (0, 0)) := setRow_heap _ _ _ _ _ _ LK.out.sl
  have HH : Hid _ := hh
  clear hh hHeld
  go_wp2_with fail
  exact bodyPost_ret (results_cell_row rfl _ _ Sl 45 _ _ _ rfl HH.out Try.underlying45 rfl (by kernel_rfl)) rfl ⟨rfl, rowN_below (BW.out.1.trans ((Below.refl _ Wx).drew.mono BW.out.1.size)) BW.out.2⟩
end Go.Proofs.Ytccmehbdnnelhaa
