/- The reference's letters: Same, Just. -/
import Derived.Test.YtaakdnbaljoehaaKAllA
import Derived.Laws.StructEq
namespace Go.Proofs.Ytaakdnbaljoehaa
open Go.RowKit Cod
attribute [local go_sem] Oper.semAt_some
set_option linter.unusedVariables false
deriving instance DecidableEq for OpD
deriving instance DecidableEq for LetD

/-- An operation that a guard lets run answers a value. -/
theorem wpList_valueG {P : Program} {ops : Array Oper} {rest : List Oper} {o : Oper} {a : Act} {w w' : World} {Q : Exit → Act → World → Prop} {v : Value} (hgd : Region.wanted o (yielded ops a.tmps) = true) (hx : (execOp a.eval o).run P w = .ok (.value v) w')
    (h : wpList P ops Q rest (a.put o.dst v) w') : wpList P ops Q (o :: rest) a w :=
  wpList_step fun K hK => by rw [if_pos hgd]; unfold Oper.wp; rw [hx]; exact hK _ _ h
theorem toList_inj {s t : ByteArray} (h : s.toList = t.toList) : s = t := by
  rw [ByteArray.toList_eq, ByteArray.toList_eq] at h
  cases s with | mk s => cases t with | mk t => simp at h; rw [h]
set_option maxRecDepth 100000 in
theorem run_eql_op (o p : OpD) (w : World) : (binOp .eql 23 o.val p.val).run Try.prog w = .ok (.bool (decide (o = p))) w := by
  obtain ⟨ok, os, od, oa, oy, ol, oh⟩ := o
  obtain ⟨ok', os', od', oa', oy', ol', oh'⟩ := p
  show (binOp .eql 23 (.agg #[.int .i64 ok, .string os, .string od, .int .i64 oa, .string oy, .int .i64 ol, .int .i64 oh]) (.agg #[.int .i64 ok', .string os', .string od', .int .i64 oa', .string oy', .int .i64 ol', .int .i64 oh'])).run Try.prog w = _
  by_cases h : (⟨ok, os, od, oa, oy, ol, oh⟩ : OpD) = ⟨ok', os', od', oa', oy', ol', oh'⟩
  · rw [decide_eq_true h]
    simp only [OpD.mk.injEq] at h
    obtain ⟨rfl, rfl, rfl, rfl, rfl, rfl, rfl⟩ := h
    go_simp
  · rw [decide_eq_false h]
    go_simp
    intro h1 h2 h3 h4 h5 h6 h7
    exact h (by rw [h1, toList_inj h2, toList_inj h3, h4, toList_inj h5, h6, h7])
theorem exec_eql (a : Act) (o p : OpD) (w : World) (h1 : a.eval (.tmp 26) = o.val) (h2 : a.eval (.tmp 28) = p.val) : (execOp a.eval { dst := some 29, op := Go.Op.binOp Go.BinOp.eql 23 (Go.Operand.tmp 26) (Go.Operand.tmp 28) 23, type := 4, pos := "ref.go:105", after := #[{ on := 21, ground := Go.Ground.data }, { on := 23, ground := Go.Ground.data }, { on := 19, ground := Go.Ground.guard }], guard := some (19, true) }).run Try.prog w = .ok (.value (.bool (decide (o = p)))) w := by
  have h := run_eql_op o p w
  obtain ⟨ok, os, od, oa, oy, ol, oh⟩ := o
  obtain ⟨ok', os', od', oa', oy', ol', oh'⟩ := p
  unfold execOp
  simp only [h1, h2]
  rw [show OpD.val ⟨ok, os, od, oa, oy, ol, oh⟩ = .agg #[.int .i64 ok, .string os, .string od, .int .i64 oa, .string oy, .int .i64 ol, .int .i64 oh] from rfl, show OpD.val ⟨ok', os', od', oa', oy', ol', oh'⟩ = .agg #[.int .i64 ok', .string os', .string od', .int .i64 oa', .string oy', .int .i64 ol', .int .i64 oh'] from rfl] at *
  have hg : (eqGuard .eql 23 (.tmp 26) (.tmp 28) (.agg #[.int .i64 ok, .string os, .string od, .int .i64 oa, .string oy, .int .i64 ol, .int .i64 oh]) (.agg #[.int .i64 ok', .string os', .string od', .int .i64 oa', .string oy', .int .i64 ol', .int .i64 oh'])).run Try.prog w = .ok () w := run_eqGuard_agg _ _ _ _ _ _ _ (by kernel_rfl)
  simp [hg, h]
set_option maxRecDepth 100000 in
set_option maxHeartbeats 4000000 in
/-- WHAT Same TELLS: whether two letters are alike. -/
theorem refSame_any {w : World} {d d' : LetD} {ra : Option Addr} {rc : Nat} {ba : Option Addr} {bc : Nat} {ra' : Option Addr} {rc' : Nat} {ba' : Option Addr} {bc' : Nat} (h : LetAt w d ra rc ba bc) (h' : LetAt w d' ra' rc' ba' bc') :
    Calls Try.prog 17 #[.agg (d.v ra rc ba bc).cells, .agg (d'.v ra' rc' ba' bc').cells] w fun e w' => e = .returned (.bool (decide (d = d'))) ∧ Below w.heap.size w w' := by
  obtain ⟨kind, n, group, ⟨ok, os, od, oa, oy, ol, oh⟩, why, amount, rows, body⟩ := d
  obtain ⟨kind', n', group', ⟨ok', os', od', oa', oy', ol', oh'⟩, why', amount', rows', body'⟩ := d'
  show Calls Try.prog 17 #[.agg #[.int .i64 kind, .int .i64 n, .int .i64 group, .int .i64 ok, .string os, .string od, .int .i64 oa, .string oy, .int .i64 ol, .int .i64 oh, .int .i64 why, .int .i64 amount, .slice ra rows.length rc, .slice ba body.length bc], .agg #[.int .i64 kind', .int .i64 n', .int .i64 group', .int .i64 ok', .string os', .string od', .int .i64 oa', .string oy', .int .i64 ol', .int .i64 oh', .int .i64 why', .int .i64 amount', .slice ra' rows'.length rc', .slice ba' body'.length bc']] w _
  have b1 := below_two w (.cells #[.int .i64 kind, .int .i64 n, .int .i64 group, .int .i64 ok, .string os, .string od, .int .i64 oa, .string oy, .int .i64 ol, .int .i64 oh, .int .i64 why, .int .i64 amount, .slice ra rows.length rc, .slice ba body.length bc] 43) (.cells #[.int .i64 kind', .int .i64 n', .int .i64 group', .int .i64 ok', .string os', .string od', .int .i64 oa', .string oy', .int .i64 ol', .int .i64 oh', .int .i64 why', .int .i64 amount', .slice ra' rows'.length rc', .slice ba' body'.length bc'] 43)
  have SR := sameReply_any ra ra' rows.length rc rows'.length rc' rows rows' why amount why' amount' _ (h.rows.below b1) (h'.rows.below b1)
  have H1 : Hid _ := b1
  have HB : Hid (∀ W : World, Below w.heap.size w W → (convert 41 9 (.slice ba body.length bc)).run Try.prog W = .ok (.string (textOf body)) W) := fun W hW => run_to_text W ba body.length bc body (h.body.below hW)
  have HB' : Hid (∀ W : World, Below w.heap.size w W → (convert 41 9 (.slice ba' body'.length bc')).run Try.prog W = .ok (.string (textOf body')) W) := fun W hW => run_to_text W ba' body'.length bc' body' (h'.body.below hW)
  have HQ : Hid _ := exec_eql
  clear b1 h h'
  by_cases e1 : kind = kind'
  case neg =>
    have f1 : ((kind == kind') : Bool) = false := by rw [beq_eq_false_iff_ne]; exact e1
    have HF : Hid (decide ((⟨kind, n, group, ⟨ok, os, od, oa, oy, ol, oh⟩, why, amount, rows, body⟩ : LetD) = ⟨kind', n', group', ⟨ok', os', od', oa', oy', ol', oh'⟩, why', amount', rows', body'⟩) = false) := decide_eq_false (fun e => e1 (congrArg LetD.kind e))
    clear SR e1
    go_enter Try.func17, Try.ntmps17
    go_wp2
    go_ret
    exact ⟨by rw [HF.out]; rfl, H1.out⟩
  subst e1
  by_cases e2 : n = n'
  case neg =>
    have f1 : ((n == n') : Bool) = false := by rw [beq_eq_false_iff_ne]; exact e2
    have HF : Hid (decide ((⟨kind, n, group, ⟨ok, os, od, oa, oy, ol, oh⟩, why, amount, rows, body⟩ : LetD) = ⟨kind, n', group', ⟨ok', os', od', oa', oy', ol', oh'⟩, why', amount', rows', body'⟩) = false) := decide_eq_false (fun e => e2 (congrArg LetD.n e))
    clear SR e2
    go_enter Try.func17, Try.ntmps17
    go_wp2
    go_ret
    exact ⟨by rw [HF.out]; rfl, H1.out⟩
  subst e2
  by_cases e3 : group = group'
  case neg =>
    have f1 : ((group == group') : Bool) = false := by rw [beq_eq_false_iff_ne]; exact e3
    have HF : Hid (decide ((⟨kind, n, group, ⟨ok, os, od, oa, oy, ol, oh⟩, why, amount, rows, body⟩ : LetD) = ⟨kind, n, group', ⟨ok', os', od', oa', oy', ol', oh'⟩, why', amount', rows', body'⟩) = false) := decide_eq_false (fun e => e3 (congrArg LetD.group e))
    clear SR e3
    go_enter Try.func17, Try.ntmps17
    go_wp2
    go_ret
    exact ⟨by rw [HF.out]; rfl, H1.out⟩
  subst e3
  by_cases e4 : (⟨ok, os, od, oa, oy, ol, oh⟩ : OpD) = ⟨ok', os', od', oa', oy', ol', oh'⟩
  case neg =>
    have HF : Hid (decide ((⟨kind, n, group, ⟨ok, os, od, oa, oy, ol, oh⟩, why, amount, rows, body⟩ : LetD) = ⟨kind, n, group, ⟨ok', os', od', oa', oy', ol', oh'⟩, why', amount', rows', body'⟩) = false) := decide_eq_false (fun e => e4 (congrArg LetD.op e))
    have DF : Hid (decide ((⟨ok, os, od, oa, oy, ol, oh⟩ : OpD) = ⟨ok', os', od', oa', oy', ol', oh'⟩) = false) := decide_eq_false e4
    clear SR e4
    go_enter Try.func17, Try.ntmps17
    go_wp2_with (refine wpList_valueG (o := { dst := some 29, op := Go.Op.binOp Go.BinOp.eql 23 (Go.Operand.tmp 26) (Go.Operand.tmp 28) 23, type := 4, pos := "ref.go:105", after := #[{ on := 21, ground := Go.Ground.data }, { on := 23, ground := Go.Ground.data }, { on := 19, ground := Go.Ground.guard }], guard := some (19, true) }) (by rfl) (HQ.out _ ⟨ok, os, od, oa, oy, ol, oh⟩ ⟨ok', os', od', oa', oy', ol', oh'⟩ _ rfl rfl) ?_; rw [DF.out])
    go_ret
    exact ⟨by rw [HF.out]; rfl, H1.out⟩
  have DT : Hid (decide ((⟨ok, os, od, oa, oy, ol, oh⟩ : OpD) = ⟨ok', os', od', oa', oy', ol', oh'⟩) = true) := decide_eq_true e4
  have E4 : Hid _ := e4
  clear e4
  go_enter Try.func17, Try.ntmps17
  go_wp2_with (refine wpList_valueG (o := { dst := some 29, op := Go.Op.binOp Go.BinOp.eql 23 (Go.Operand.tmp 26) (Go.Operand.tmp 28) 23, type := 4, pos := "ref.go:105", after := #[{ on := 21, ground := Go.Ground.data }, { on := 23, ground := Go.Ground.data }, { on := 19, ground := Go.Ground.guard }], guard := some (19, true) }) (by rfl) (HQ.out _ ⟨ok, os, od, oa, oy, ol, oh⟩ ⟨ok', os', od', oa', oy', ol', oh'⟩ _ rfl rfl) ?_; rw [DT.out])
  refine SR.mono ?_
  rintro e w2 ⟨rfl, b2⟩
  have B2 : Hid (Below w.heap.size w w2) := H1.out.trans (b2.mono H1.out.size)
  have G2 : Hid (w2.cell? ⟨w.heap.size, 13, none⟩ = some (.slice ba body.length bc) ∧ w2.cell? ⟨w.heap.size + 1, 13, none⟩ = some (.slice ba' body'.length bc')) := by
    have g1 := (b2.block w.heap.size (by simp; omega)).trans ((((Below.refl _ (w.alloc (.cells #[.int .i64 kind, .int .i64 n, .int .i64 group, .int .i64 ok, .string os, .string od, .int .i64 oa, .string oy, .int .i64 ol, .int .i64 oh, .int .i64 why, .int .i64 amount, .slice ra rows.length rc, .slice ba body.length bc] 43))).alloc (Nat.le_refl _) _).block w.heap.size (by simp)).trans (heap_alloc_new w (.cells #[.int .i64 kind, .int .i64 n, .int .i64 group, .int .i64 ok, .string os, .string od, .int .i64 oa, .string oy, .int .i64 ol, .int .i64 oh, .int .i64 why, .int .i64 amount, .slice ra rows.length rc, .slice ba body.length bc] 43)))
    have g2 := (b2.block (w.heap.size + 1) (by simp)).trans (heapTwo w (.cells #[.int .i64 kind, .int .i64 n, .int .i64 group, .int .i64 ok, .string os, .string od, .int .i64 oa, .string oy, .int .i64 ol, .int .i64 oh, .int .i64 why, .int .i64 amount, .slice ra rows.length rc, .slice ba body.length bc] 43) _)
    constructor <;> simp [World.cell?, g1, g2]
  clear b2 SR HQ
  by_cases e5 : why = why' ∧ amount = amount' ∧ rows = rows'
  case neg =>
    rw [decide_eq_false e5]
    have HF : Hid (decide ((⟨kind, n, group, ⟨ok, os, od, oa, oy, ol, oh⟩, why, amount, rows, body⟩ : LetD) = ⟨kind, n, group, ⟨ok', os', od', oa', oy', ol', oh'⟩, why', amount', rows', body'⟩) = false) := decide_eq_false (fun e => e5 ⟨congrArg LetD.why e, congrArg LetD.amount e, congrArg LetD.rows e⟩)
    clear e5
    go_wp2
    go_ret
    exact ⟨by rw [HF.out]; rfl, B2.out⟩
  rw [decide_eq_true e5]
  obtain ⟨q1, q2⟩ := G2.out
  have cv := HB.out w2 B2.out
  have cv' := HB'.out w2 B2.out
  have E5 : Hid _ := e5
  clear e5
  by_cases e6 : body = body'
  case neg =>
    have f6 := text_ne (s := textOf body) (t := textOf body') (fun e => e6 (textOf_inj e))
    have HF : Hid (decide ((⟨kind, n, group, ⟨ok, os, od, oa, oy, ol, oh⟩, why, amount, rows, body⟩ : LetD) = ⟨kind, n, group, ⟨ok', os', od', oa', oy', ol', oh'⟩, why', amount', rows', body'⟩) = false) := decide_eq_false (fun e => e6 (congrArg LetD.body e))
    clear e6
    go_wp2
    go_ret
    exact ⟨by rw [HF.out]; rfl, B2.out⟩
  have f6 : ((textOf body).toList == (textOf body').toList) = true := by rw [e6]; exact text_self _
  have HT : Hid (decide ((⟨kind, n, group, ⟨ok, os, od, oa, oy, ol, oh⟩, why, amount, rows, body⟩ : LetD) = ⟨kind, n, group, ⟨ok', os', od', oa', oy', ol', oh'⟩, why', amount', rows', body'⟩) = true) := decide_eq_true (by rw [E4.out, E5.out.1, E5.out.2.1, E5.out.2.2, e6])
  clear e6
  go_wp2
  go_ret
  exact ⟨by rw [HT.out]; rfl, B2.out⟩
end Go.Proofs.Ytaakdnbaljoehaa
