/- Letters that have the same bytes are the same, in what counts. -/
import Derived.Test.YtmcippolnekogaaKAllA
import Derived.Test.YtmcippolnekogaaInj
import Derived.Laws.StructEq
import Derived.Test.YtmcippolnekogaaKAllE
namespace Go.Proofs.Ytmcippolnekogaa
open Go.RowKit Cod
set_option linter.unusedVariables false

/-- What stands behind a letter's kind. -/
def LetD.rest (d : LetD) : List (BitVec 8) :=
  if d.kind = 2 then enc (zig d.n) ++ d.op.bytes
  else if d.kind = 3 then enc (zig d.n) ++ replyL d.why d.amount d.rows
  else if d.kind = 4 then enc (zig d.n) ++ sz d.body
  else if d.kind = 5 then enc (zig d.n) ++ (enc (zig d.group) ++ sz d.body)
  else sz d.body
theorem bytes_rest {d : LetD} (h1 : 1 ≤ d.kind) (h5 : d.kind ≤ 5) : d.bytes = enc (zig d.kind) ++ d.rest := by
  obtain ⟨kind, n, group, op, why, amount, rows, body⟩ := d
  simp only at h1 h5
  rcases kinds h1 h5 with rfl | rfl | rfl | rfl | rfl <;> simp [LetD.bytes, LetD.rest, intsB]
theorem just_bytes {d : LetD} (h1 : 1 ≤ d.kind) (h5 : d.kind ≤ 5) : d.just.bytes = d.bytes := by
  obtain ⟨kind, n, group, op, why, amount, rows, body⟩ := d
  simp only at h1 h5
  rcases kinds h1 h5 with rfl | rfl | rfl | rfl | rfl <;> rfl
theorem short_lt {ts : List ByteArray} (h : shortL ts = true) {s : ByteArray} (hs : s ∈ ts) : s.size < 18446744073709551616 := by
  have := short_mem h hs
  omega
theorem bytes_inj {d d' : LetD} (ho : d.ok) (ho' : d'.ok) (h1 : 1 ≤ d.kind) (h5 : d.kind ≤ 5) (h1' : 1 ≤ d'.kind) (h5' : d'.kind ≤ 5) (hf : d.fits = true) (hf' : d'.fits = true) (h : d.bytes = d'.bytes) : d.just = d'.just := by
  rw [bytes_rest h1 h5, bytes_rest h1' h5'] at h
  obtain ⟨hk, hr⟩ := zig_pre ho.kind ho'.kind h
  obtain ⟨kind, n, group, op, why, amount, rows, body⟩ := d
  obtain ⟨kind', n', group', op', why', amount', rows', body'⟩ := d'
  obtain ⟨a1, a2, a3, a4, a5, a6, a7⟩ := ho
  obtain ⟨b1, b2, b3, b4, b5, b6, b7⟩ := ho'
  simp only at h1 h5 h1' h5' hk a1 a2 a3 a4 a5 a6 a7 b1 b2 b3 b4 b5 b6 b7
  subst hk
  clear h h1' h5'
  rcases kinds h1 h5 with rfl | rfl | rfl | rfl | rfl
  · have hz : body.length ≤ 65536 := by simpa [LetD.fits] using hf
    have hz' : body'.length ≤ 65536 := by simpa [LetD.fits] using hf'
    have e : sz body = sz body' := hr
    obtain ⟨rfl, _⟩ := sz_pre (p := body) (q := body') (r := []) (s := []) (by omega) (by omega) (by simpa using e)
    rfl
  · have g : shortL [op.src, op.dst, op.key] = true := hf
    have g' : shortL [op'.src, op'.dst, op'.key] = true := hf'
    have e : enc (zig n) ++ op.bytes = enc (zig n') ++ op'.bytes := hr
    obtain ⟨rfl, e2⟩ := zig_pre a2 b2 e
    obtain rfl := op_inj a4 b4 (by
      have x := short_mem g (s := op.src) (by simp)
      have y := short_mem g (s := op.dst) (by simp)
      have z := short_mem g (s := op.key) (by simp)
      unfold OpD.size; omega) (by
      have x := short_mem g' (s := op'.src) (by simp)
      have y := short_mem g' (s := op'.dst) (by simp)
      have z := short_mem g' (s := op'.key) (by simp)
      unfold OpD.size; omega) e2
    rfl
  · have g : (decide (rows.length ≤ 600) && shortL (rows.map (·.1))) = true := hf
    have g' : (decide (rows'.length ≤ 600) && shortL (rows'.map (·.1))) = true := hf'
    rw [Bool.and_eq_true] at g g'
    have l : rows.length ≤ 600 := by simpa using g.1
    have l' : rows'.length ≤ 600 := by simpa using g'.1
    have e : enc (zig n) ++ replyL why amount rows = enc (zig n') ++ replyL why' amount' rows' := hr
    obtain ⟨rfl, e2⟩ := zig_pre a2 b2 e
    obtain ⟨rfl, rfl, rfl⟩ := reply_inj a5 a6 b5 b6 (by omega) (by omega) (fun r hr => ⟨a7 r hr, short_lt g.2 (List.mem_map_of_mem hr)⟩) (fun r hr => ⟨b7 r hr, short_lt g'.2 (List.mem_map_of_mem hr)⟩) e2
    rfl
  · have hz : body.length ≤ 65536 := by simpa [LetD.fits] using hf
    have hz' : body'.length ≤ 65536 := by simpa [LetD.fits] using hf'
    have e : enc (zig n) ++ sz body = enc (zig n') ++ sz body' := hr
    obtain ⟨rfl, e2⟩ := zig_pre a2 b2 e
    obtain ⟨rfl, _⟩ := sz_pre (p := body) (q := body') (r := []) (s := []) (by omega) (by omega) (by simpa using e2)
    rfl
  · have hz : body.length ≤ 65536 := by simpa [LetD.fits] using hf
    have hz' : body'.length ≤ 65536 := by simpa [LetD.fits] using hf'
    have e : enc (zig n) ++ (enc (zig group) ++ sz body) = enc (zig n') ++ (enc (zig group') ++ sz body') := hr
    obtain ⟨rfl, e2⟩ := zig_pre a2 b2 e
    obtain ⟨rfl, e3⟩ := zig_pre a3 b3 e2
    obtain ⟨rfl, _⟩ := sz_pre (p := body) (q := body') (r := []) (s := []) (by omega) (by omega) (by simpa using e3)
    rfl
/-- What Pack answers, told apart. -/
theorem pack_zero {d : LetD} (h : d.pack.2 = 0) : 1 ≤ d.kind ∧ d.kind ≤ 5 ∧ d.fits = true ∧ d.pack.1 = d.bytes ∧ d.bytes.length ≤ 1048576 := by
  by_cases ha : d.kind < 1 ∨ 5 < d.kind
  · rw [pack_arg ha] at h; cases h
  · cases hf : d.fits with
    | false => rw [pack_fits ha hf] at h; cases h
    | true =>
      by_cases hb : 1048576 < d.bytes.length
      · rw [pack_size ha hf hb] at h; cases h
      · rw [pack_ok ha hf hb]
        exact ⟨by omega, by omega, rfl, rfl, by omega⟩
theorem pack_why (d : LetD) : d.pack.2 = 0 ∨ d.pack.2 = 1 ∨ d.pack.2 = 3 := by
  unfold LetD.pack
  repeat' split
  all_goals simp
end Go.Proofs.Ytmcippolnekogaa

namespace Go.Proofs.Ytmcippolnekogaa
open Go.RowKit Cod
attribute [local go_sem] Oper.semAt_some
set_option linter.unusedVariables false
deriving instance DecidableEq for OpD
deriving instance DecidableEq for LetD

/-- An operation that a guard lets run answers a value. -/
theorem wpList_valueG {P : Program} {ops : Array Oper} {rest : List Oper} {o : Oper} {a : Act} {w w' : World} {Q : Exit → Act → World → Prop} {v : Value} (hgd : Region.wanted o (yielded ops a.tmps) = true) (hx : (execOp a.eval o).run P w = .ok (.value v) w')
    (h : wpList P ops Q rest (a.put o.dst v) w') : wpList P ops Q (o :: rest) a w :=
  wpList_step fun K hK => by rw [if_pos hgd]; unfold Oper.wp; rw [hx]; exact hK _ _ h
theorem toList_inj {s t : ByteArray} (h : s.toList = t.toList) : s = t := by
  rw [ByteArray.toList_eq, ByteArray.toList_eq] at h
  cases s with | mk s => cases t with | mk t => simp at h; rw [h]
set_option maxRecDepth 100000 in
theorem run_eql_op (o p : OpD) (w : World) : (binOp .eql 23 o.val p.val).run Try.prog w = .ok (.bool (decide (o = p))) w := by
  obtain ⟨ok, os, od, oa, oy, ol, oh⟩ := o
  obtain ⟨ok', os', od', oa', oy', ol', oh'⟩ := p
  show (binOp .eql 23 (.agg #[.int .i64 ok, .string os, .string od, .int .i64 oa, .string oy, .int .i64 ol, .int .i64 oh]) (.agg #[.int .i64 ok', .string os', .string od', .int .i64 oa', .string oy', .int .i64 ol', .int .i64 oh'])).run Try.prog w = _
  by_cases h : (⟨ok, os, od, oa, oy, ol, oh⟩ : OpD) = ⟨ok', os', od', oa', oy', ol', oh'⟩
  · rw [decide_eq_true h]
    simp only [OpD.mk.injEq] at h
    obtain ⟨rfl, rfl, rfl, rfl, rfl, rfl, rfl⟩ := h
    go_simp
  · rw [decide_eq_false h]
    go_simp
    intro h1 h2 h3 h4 h5 h6 h7
    exact h (by rw [h1, toList_inj h2, toList_inj h3, h4, toList_inj h5, h6, h7])
theorem exec_eql (a : Act) (o p : OpD) (w : World) (h1 : a.eval (.tmp 26) = o.val) (h2 : a.eval (.tmp 28) = p.val) : (execOp a.eval { dst := some 29, op := Go.Op.binOp Go.BinOp.eql 23 (Go.Operand.tmp 26) (Go.Operand.tmp 28) 23, type := 4, pos := "ref.go:105", after := #[{ on := 21, ground := Go.Ground.data }, { on := 23, ground := Go.Ground.data }, { on := 19, ground := Go.Ground.guard }], guard := some (19, true) }).run Try.prog w = .ok (.value (.bool (decide (o = p)))) w := by
  have h := run_eql_op o p w
  obtain ⟨ok, os, od, oa, oy, ol, oh⟩ := o
  obtain ⟨ok', os', od', oa', oy', ol', oh'⟩ := p
  unfold execOp
  simp only [h1, h2]
  rw [show OpD.val ⟨ok, os, od, oa, oy, ol, oh⟩ = .agg #[.int .i64 ok, .string os, .string od, .int .i64 oa, .string oy, .int .i64 ol, .int .i64 oh] from rfl, show OpD.val ⟨ok', os', od', oa', oy', ol', oh'⟩ = .agg #[.int .i64 ok', .string os', .string od', .int .i64 oa', .string oy', .int .i64 ol', .int .i64 oh'] from rfl] at *
  have hg : (eqGuard .eql 23 (.tmp 26) (.tmp 28) (.agg #[.int .i64 ok, .string os, .string od, .int .i64 oa, .string oy, .int .i64 ol, .int .i64 oh]) (.agg #[.int .i64 ok', .string os', .string od', .int .i64 oa', .string oy', .int .i64 ol', .int .i64 oh'])).run Try.prog w = .ok () w := run_eqGuard_agg _ _ _ _ _ _ _ (by kernel_rfl)
  simp [hg, h]
set_option maxRecDepth 100000 in
set_option maxHeartbeats 4000000 in
/-- WHAT Same TELLS: whether two letters are alike. -/
theorem refSame_any {w : World} {d d' : LetD} {ra : Option Addr} {rc : Nat} {ba : Option Addr} {bc : Nat} {ra' : Option Addr} {rc' : Nat} {ba' : Option Addr} {bc' : Nat} (h : LetAt w d ra rc ba bc) (h' : LetAt w d' ra' rc' ba' bc') :
    Calls Try.prog 10 #[.agg (d.v ra rc ba bc).cells, .agg (d'.v ra' rc' ba' bc').cells] w fun e w' => e = .returned (.bool (decide (d = d'))) ∧ Below w.heap.size w w' := by
  obtain ⟨kind, n, group, ⟨ok, os, od, oa, oy, ol, oh⟩, why, amount, rows, body⟩ := d
  obtain ⟨kind', n', group', ⟨ok', os', od', oa', oy', ol', oh'⟩, why', amount', rows', body'⟩ := d'
  show Calls Try.prog 10 #[.agg #[.int .i64 kind, .int .i64 n, .int .i64 group, .int .i64 ok, .string os, .string od, .int .i64 oa, .string oy, .int .i64 ol, .int .i64 oh, .int .i64 why, .int .i64 amount, .slice ra rows.length rc, .slice ba body.length bc], .agg #[.int .i64 kind', .int .i64 n', .int .i64 group', .int .i64 ok', .string os', .string od', .int .i64 oa', .string oy', .int .i64 ol', .int .i64 oh', .int .i64 why', .int .i64 amount', .slice ra' rows'.length rc', .slice ba' body'.length bc']] w _
  have b1 := below_two w (.cells #[.int .i64 kind, .int .i64 n, .int .i64 group, .int .i64 ok, .string os, .string od, .int .i64 oa, .string oy, .int .i64 ol, .int .i64 oh, .int .i64 why, .int .i64 amount, .slice ra rows.length rc, .slice ba body.length bc] 30) (.cells #[.int .i64 kind', .int .i64 n', .int .i64 group', .int .i64 ok', .string os', .string od', .int .i64 oa', .string oy', .int .i64 ol', .int .i64 oh', .int .i64 why', .int .i64 amount', .slice ra' rows'.length rc', .slice ba' body'.length bc'] 30)
  have SR := sameReply_any ra ra' rows.length rc rows'.length rc' rows rows' why amount why' amount' _ (h.rows.below b1) (h'.rows.below b1)
  have H1 : Hid _ := b1
  have HB : Hid (∀ W : World, Below w.heap.size w W → (convert 28 9 (.slice ba body.length bc)).run Try.prog W = .ok (.string (textOf body)) W) := fun W hW => run_to_text W ba body.length bc body (h.body.below hW)
  have HB' : Hid (∀ W : World, Below w.heap.size w W → (convert 28 9 (.slice ba' body'.length bc')).run Try.prog W = .ok (.string (textOf body')) W) := fun W hW => run_to_text W ba' body'.length bc' body' (h'.body.below hW)
  have HQ : Hid _ := exec_eql
  clear b1 h h'
  by_cases e1 : kind = kind'
  case neg =>
    have f1 : ((kind == kind') : Bool) = false := by rw [beq_eq_false_iff_ne]; exact e1
    have HF : Hid (decide ((⟨kind, n, group, ⟨ok, os, od, oa, oy, ol, oh⟩, why, amount, rows, body⟩ : LetD) = ⟨kind', n', group', ⟨ok', os', od', oa', oy', ol', oh'⟩, why', amount', rows', body'⟩) = false) := decide_eq_false (fun e => e1 (congrArg LetD.kind e))
    clear SR e1
    go_enter Try.func10, Try.ntmps10
    go_wp2
    go_ret
    exact ⟨by rw [HF.out]; rfl, H1.out⟩
  subst e1
  by_cases e2 : n = n'
  case neg =>
    have f1 : ((n == n') : Bool) = false := by rw [beq_eq_false_iff_ne]; exact e2
    have HF : Hid (decide ((⟨kind, n, group, ⟨ok, os, od, oa, oy, ol, oh⟩, why, amount, rows, body⟩ : LetD) = ⟨kind, n', group', ⟨ok', os', od', oa', oy', ol', oh'⟩, why', amount', rows', body'⟩) = false) := decide_eq_false (fun e => e2 (congrArg LetD.n e))
    clear SR e2
    go_enter Try.func10, Try.ntmps10
    go_wp2
    go_ret
    exact ⟨by rw [HF.out]; rfl, H1.out⟩
  subst e2
  by_cases e3 : group = group'
  case neg =>
    have f1 : ((group == group') : Bool) = false := by rw [beq_eq_false_iff_ne]; exact e3
    have HF : Hid (decide ((⟨kind, n, group, ⟨ok, os, od, oa, oy, ol, oh⟩, why, amount, rows, body⟩ : LetD) = ⟨kind, n, group', ⟨ok', os', od', oa', oy', ol', oh'⟩, why', amount', rows', body'⟩) = false) := decide_eq_false (fun e => e3 (congrArg LetD.group e))
    clear SR e3
    go_enter Try.func10, Try.ntmps10
    go_wp2
    go_ret
    exact ⟨by rw [HF.out]; rfl, H1.out⟩
  subst e3
  by_cases e4 : (⟨ok, os, od, oa, oy, ol, oh⟩ : OpD) = ⟨ok', os', od', oa', oy', ol', oh'⟩
  case neg =>
    have HF : Hid (decide ((⟨kind, n, group, ⟨ok, os, od, oa, oy, ol, oh⟩, why, amount, rows, body⟩ : LetD) = ⟨kind, n, group, ⟨ok', os', od', oa', oy', ol', oh'⟩, why', amount', rows', body'⟩) = false) := decide_eq_false (fun e => e4 (congrArg LetD.op e))
    have DF : Hid (decide ((⟨ok, os, od, oa, oy, ol, oh⟩ : OpD) = ⟨ok', os', od', oa', oy', ol', oh'⟩) = false) := decide_eq_false e4
    clear SR e4
    go_enter Try.func10, Try.ntmps10
    go_wp2_with (refine wpList_valueG (o := { dst := some 29, op := Go.Op.binOp Go.BinOp.eql 23 (Go.Operand.tmp 26) (Go.Operand.tmp 28) 23, type := 4, pos := "ref.go:105", after := #[{ on := 21, ground := Go.Ground.data }, { on := 23, ground := Go.Ground.data }, { on := 19, ground := Go.Ground.guard }], guard := some (19, true) }) (by rfl) (HQ.out _ ⟨ok, os, od, oa, oy, ol, oh⟩ ⟨ok', os', od', oa', oy', ol', oh'⟩ _ rfl rfl) ?_; rw [DF.out])
    go_ret
    exact ⟨by rw [HF.out]; rfl, H1.out⟩
  have DT : Hid (decide ((⟨ok, os, od, oa, oy, ol, oh⟩ : OpD) = ⟨ok', os', od', oa', oy', ol', oh'⟩) = true) := decide_eq_true e4
  have E4 : Hid _ := e4
  clear e4
  go_enter Try.func10, Try.ntmps10
  go_wp2_with (refine wpList_valueG (o := { dst := some 29, op := Go.Op.binOp Go.BinOp.eql 23 (Go.Operand.tmp 26) (Go.Operand.tmp 28) 23, type := 4, pos := "ref.go:105", after := #[{ on := 21, ground := Go.Ground.data }, { on := 23, ground := Go.Ground.data }, { on := 19, ground := Go.Ground.guard }], guard := some (19, true) }) (by rfl) (HQ.out _ ⟨ok, os, od, oa, oy, ol, oh⟩ ⟨ok', os', od', oa', oy', ol', oh'⟩ _ rfl rfl) ?_; rw [DT.out])
  refine SR.mono ?_
  rintro e w2 ⟨rfl, b2⟩
  have B2 : Hid (Below w.heap.size w w2) := H1.out.trans (b2.mono H1.out.size)
  have G2 : Hid (w2.cell? ⟨w.heap.size, 13, none⟩ = some (.slice ba body.length bc) ∧ w2.cell? ⟨w.heap.size + 1, 13, none⟩ = some (.slice ba' body'.length bc')) := by
    have g1 := (b2.block w.heap.size (by simp; omega)).trans ((((Below.refl _ (w.alloc (.cells #[.int .i64 kind, .int .i64 n, .int .i64 group, .int .i64 ok, .string os, .string od, .int .i64 oa, .string oy, .int .i64 ol, .int .i64 oh, .int .i64 why, .int .i64 amount, .slice ra rows.length rc, .slice ba body.length bc] 30))).alloc (Nat.le_refl _) _).block w.heap.size (by simp)).trans (heap_alloc_new w (.cells #[.int .i64 kind, .int .i64 n, .int .i64 group, .int .i64 ok, .string os, .string od, .int .i64 oa, .string oy, .int .i64 ol, .int .i64 oh, .int .i64 why, .int .i64 amount, .slice ra rows.length rc, .slice ba body.length bc] 30)))
    have g2 := (b2.block (w.heap.size + 1) (by simp)).trans (heapTwo w (.cells #[.int .i64 kind, .int .i64 n, .int .i64 group, .int .i64 ok, .string os, .string od, .int .i64 oa, .string oy, .int .i64 ol, .int .i64 oh, .int .i64 why, .int .i64 amount, .slice ra rows.length rc, .slice ba body.length bc] 30) _)
    constructor <;> simp [World.cell?, g1, g2]
  clear b2 SR HQ
  by_cases e5 : why = why' ∧ amount = amount' ∧ rows = rows'
  case neg =>
    rw [decide_eq_false e5]
    have HF : Hid (decide ((⟨kind, n, group, ⟨ok, os, od, oa, oy, ol, oh⟩, why, amount, rows, body⟩ : LetD) = ⟨kind, n, group, ⟨ok', os', od', oa', oy', ol', oh'⟩, why', amount', rows', body'⟩) = false) := decide_eq_false (fun e => e5 ⟨congrArg LetD.why e, congrArg LetD.amount e, congrArg LetD.rows e⟩)
    clear e5
    go_wp2
    go_ret
    exact ⟨by rw [HF.out]; rfl, B2.out⟩
  rw [decide_eq_true e5]
  obtain ⟨q1, q2⟩ := G2.out
  have cv := HB.out w2 B2.out
  have cv' := HB'.out w2 B2.out
  have E5 : Hid _ := e5
  clear e5
  by_cases e6 : body = body'
  case neg =>
    have f6 := text_ne (s := textOf body) (t := textOf body') (fun e => e6 (textOf_inj e))
    have HF : Hid (decide ((⟨kind, n, group, ⟨ok, os, od, oa, oy, ol, oh⟩, why, amount, rows, body⟩ : LetD) = ⟨kind, n, group, ⟨ok', os', od', oa', oy', ol', oh'⟩, why', amount', rows', body'⟩) = false) := decide_eq_false (fun e => e6 (congrArg LetD.body e))
    clear e6
    go_wp2
    go_ret
    exact ⟨by rw [HF.out]; rfl, B2.out⟩
  have f6 : ((textOf body).toList == (textOf body').toList) = true := by rw [e6]; exact text_self _
  have HT : Hid (decide ((⟨kind, n, group, ⟨ok, os, od, oa, oy, ol, oh⟩, why, amount, rows, body⟩ : LetD) = ⟨kind, n, group, ⟨ok', os', od', oa', oy', ol', oh'⟩, why', amount', rows', body'⟩) = true) := decide_eq_true (by rw [E4.out, E5.out.1, E5.out.2.1, E5.out.2.2, e6])
  clear e6
  go_wp2
  go_ret
  exact ⟨by rw [HT.out]; rfl, B2.out⟩
end Go.Proofs.Ytmcippolnekogaa

namespace Go.Proofs.Ytmcippolnekogaa
open Go.RowKit Cod
attribute [local go_sem] Oper.semAt_some
set_option linter.unusedVariables false

theorem heapMid (w : World) (o o' o'' : Obj) : (((w.alloc o).alloc o').alloc o'').heap[w.heap.size + 1]? = some o' := (((Below.refl _ ((w.alloc o).alloc o')).alloc (Nat.le_refl _) o'').block (w.heap.size + 1) (by simp)).trans (heapTwo w o o')
set_option maxRecDepth 100000 in
set_option maxHeartbeats 4000000 in
theorem refJust_any (x : LetV) (h1 : 1 ≤ x.kind) (h5 : x.kind ≤ 5) (w : World) : Calls Try.prog 20 #[.agg x.cells] w fun e w' => e = .returned (.agg x.just.cells) ∧ Below w.heap.size w w' := by
  obtain ⟨kind, n, group, ⟨ok, os, od, oa, oy, ol, oh⟩, why, amount, ra, rn, rc, ba, bn, bc⟩ := x
  simp only at h1 h5
  show Calls Try.prog 20 #[.agg #[.int .i64 kind, .int .i64 n, .int .i64 group, .int .i64 ok, .string os, .string od, .int .i64 oa, .string oy, .int .i64 ol, .int .i64 oh, .int .i64 why, .int .i64 amount, .slice ra rn rc, .slice ba bn bc]] w _
  rcases kinds h1 h5 with rfl | rfl | rfl | rfl | rfl
  all_goals
    clear h1 h5
    go_enter Try.func20, Try.ntmps20
    go_wp2
    exact bodyPost_ret (results_cell_row rfl _ _ (w.heap.size + 1) 30 _ (0, 0) _ rfl (heapMid w _ _ _) Try.underlying30 rfl (by kernel_rfl)) rfl ⟨rfl, (below_two w _ _).alloc (by simp; omega) _⟩
end Go.Proofs.Ytmcippolnekogaa

namespace Go.Proofs.Ytmcippolnekogaa
open Go.RowKit Cod
attribute [local go_sem] Oper.semAt_some
set_option linter.unusedVariables false

/-- A letter that came in: what can be of it. -/
structure LetIn (w : World) (d : LetD) (ra : Option Addr) (rc : Nat) (ba : Option Addr) (bc : Nat) : Prop where
  ok : d.ok
  at_ : LetAt w d ra rc ba bc
  nil : ra = none → rc = 0
  rows : d.rows.length * 24 ≤ 140737488355328
  body : d.body.length ≤ 140737488355328
theorem text_apart {d d' : LetD} (ho : d.ok) (ho' : d'.ok) (h : d.pack.2 = 0) (h' : d'.pack.2 = 0) : ((textOf d.pack.1).toList == (textOf d'.pack.1).toList) = decide (d.just = d'.just) := by
  obtain ⟨h1, h5, hf, hb, _⟩ := pack_zero h
  obtain ⟨h1', h5', hf', hb', _⟩ := pack_zero h'
  rw [hb, hb']
  by_cases e : d.just = d'.just
  · rw [decide_eq_true e, ← just_bytes h1 h5, e, just_bytes h1' h5']
    exact text_self _
  · rw [decide_eq_false e]
    exact text_ne fun x => e (bytes_inj ho ho' h1 h5 h1' h5' hf hf' (textOf_inj x))
/-- given, then Pack. -/
theorem given_at {w : World} {d : LetD} {ra : Option Addr} {rc : Nat} {ba : Option Addr} {bc : Nat} (h : LetIn w d ra rc ba bc) {W : World} (hW : Below w.heap.size w W) : Calls Try.prog 7 #[.agg (d.v ra rc ba bc).cells] W fun e w' => ∃ ra' rc' ba' bc', e = .returned (.agg (d.v ra' rc' ba' bc').cells) ∧ LetAt w' d ra' rc' ba' bc' ∧ Below W.heap.size W w' := by
  refine (given_any d ra rc ba bc W (h.at_.below hW) h.nil h.rows h.body).mono ?_
  rintro e w' ⟨ra', rc', ba', bc', rfl, o, b⟩
  have hr := h.rows
  have hb := h.body
  exact ⟨ra', rc', ba', bc', rfl, o.at_ (by omega) (by unfold maxLen; omega), b⟩
set_option maxRecDepth 100000 in
set_option maxHeartbeats 8000000 in
theorem clientApart_any {w : World} {d d' : LetD} {ra : Option Addr} {rc : Nat} {ba : Option Addr} {bc : Nat} {ra' : Option Addr} {rc' : Nat} {ba' : Option Addr} {bc' : Nat} (h : LetIn w d ra rc ba bc) (h' : LetIn w d' ra' rc' ba' bc') :
    Calls Try.prog 5 #[.agg (d.v ra rc ba bc).cells, .agg (d'.v ra' rc' ba' bc').cells] w fun e w' => e = .returned (.bool true) ∧ Below w.heap.size w w' := by
  obtain ⟨C, eC, lC, _, _⟩ := v_cells (d.v ra rc ba bc)
  obtain ⟨D, eD, lD, _, _⟩ := v_cells (d'.v ra' rc' ba' bc')
  have EC : Hid (_ = C.toArray) := eC
  have ED : Hid (_ = D.toArray) := eD
  have ZC : Hid ((Try.prog.info? 30).map (·.size) = some C.toArray.size) := by
    have e : (Try.prog.info? 30).map (·.size) = some 14 := by kernel_rfl
    show _ = _
    rw [e, List.size_toArray, lC]
  have ZD : Hid ((Try.prog.info? 30).map (·.size) = some D.toArray.size) := by
    have e : (Try.prog.info? 30).map (·.size) = some 14 := by kernel_rfl
    show _ = _
    rw [e, List.size_toArray, lD]
  rw [eC, eD]
  generalize hw2 : (w.alloc (.cells C.toArray 30)).alloc (.cells D.toArray 30) = w2
  have b2 : Below w.heap.size w w2 := by rw [← hw2]; exact below_two w _ _
  have g1 : w2.heap[w.heap.size]? = some (.cells C.toArray 30 (0, 0)) := by
    rw [← hw2]
    exact ((((Below.refl _ (w.alloc (.cells C.toArray 30))).alloc (Nat.le_refl _) _).block w.heap.size (by simp)).trans (heap_alloc_new w _))
  have g2 : w2.heap[w.heap.size + 1]? = some (.cells D.toArray 30 (0, 0)) := by rw [← hw2]; exact heapTwo w _ _
  have G1 : Hid (∀ W, Below w2.heap.size w2 W → W.heap[w.heap.size]? = some (.cells C.toArray 30 (0, 0))) := fun W hW => (hW.block _ (Array.getElem?_eq_some_iff.1 g1).1).trans g1
  have G2 : Hid (∀ W, Below w2.heap.size w2 W → W.heap[w.heap.size + 1]? = some (.cells D.toArray 30 (0, 0))) := fun W hW => (hW.block _ (Array.getElem?_eq_some_iff.1 g2).1).trans g2
  have HI : Hid (LetIn w d ra rc ba bc) := h
  have HI' : Hid (LetIn w d' ra' rc' ba' bc') := h'
  have B2 : Hid (Below w.heap.size w w2) := b2
  have HW : Hid (_ = w2) := hw2
  have C1 := given_at h b2
  rw [eC] at C1
  clear eC lC eD lD hw2 b2 g1 g2 h h'
  go_enter Try.func5, Try.ntmps5
  go_wp2_with (rw [HW.out]; refine wpList_load_row rfl 30 (.tmp 2) rfl w.heap.size rfl 30 C.toArray (0, 0) _ (G1.out _ (Below.refl _ _)) Try.underlying30 rfl ZC.out ?_)
  refine C1.mono ?_
  rintro e w3 ⟨ra3, rc3, ba3, bc3, rfl, l3, b3⟩
  have C2 := pack_any HI.out.ok l3
  have B3 : Hid (Below w2.heap.size w2 w3) := b3
  clear C1 l3 b3 HW
  obtain ⟨C3, e3⟩ : ∃ C3, (d.v ra3 rc3 ba3 bc3).cells = C3 := ⟨_, rfl⟩
  rw [e3] at C2
  rw [e3]
  clear e3
  go_wp2_with fail
  refine C2.mono ?_
  rintro e w4 ⟨v4, rfl, o4, b4⟩
  obtain ⟨a4, c4, rfl, _, _⟩ := row_form' o4
  have O4 : Hid (w4.ownsRow w3.heap.size 5 1 (.slice a4 d.pack.1.length c4) d.pack.1.length (cellsOf d.pack.1)) := o4
  have B4 : Hid (Below w2.heap.size w2 w4) := B3.out.trans (b4.mono B3.out.size)
  have C4 := given_at HI'.out (B2.out.trans (B4.out.mono B2.out.size))
  rw [ED.out] at C4
  clear C2 o4 b4
  go_wp2_with (refine wpList_load_row rfl 30 (.tmp 3) rfl (w.heap.size + 1) rfl 30 D.toArray (0, 0) _ (G2.out _ B4.out) Try.underlying30 rfl ZD.out ?_)
  refine C4.mono ?_
  rintro e w5 ⟨ra5, rc5, ba5, bc5, rfl, l5, b5⟩
  have C5 := pack_any HI'.out.ok l5
  have B5 : Hid (Below w2.heap.size w2 w5) := B4.out.trans (b5.mono B4.out.size)
  have O5 : Hid (w5.ownsRow w3.heap.size 5 1 (.slice a4 d.pack.1.length c4) d.pack.1.length (cellsOf d.pack.1)) := ownsB O4.out b5
  clear C4 l5 b5
  obtain ⟨C6, e6⟩ : ∃ C6, (d'.v ra5 rc5 ba5 bc5).cells = C6 := ⟨_, rfl⟩
  rw [e6] at C5
  rw [e6]
  clear e6
  go_wp2_with fail
  refine C5.mono ?_
  rintro e w6 ⟨v6, rfl, o6, b6⟩
  obtain ⟨a6, c6, rfl, _, _⟩ := row_form' o6
  have O6 : Hid (w6.ownsRow w5.heap.size 5 1 (.slice a6 d'.pack.1.length c6) d'.pack.1.length (cellsOf d'.pack.1)) := o6
  have O7 : Hid (w6.ownsRow w3.heap.size 5 1 (.slice a4 d.pack.1.length c4) d.pack.1.length (cellsOf d.pack.1)) := ownsB O5.out b6
  have B6 : Hid (Below w2.heap.size w2 w6) := B5.out.trans (b6.mono B5.out.size)
  clear C5 o6 b6
  have KN : Hid (∀ W : World, _) := knownK_any
  by_cases z1 : d.pack.2 = 0
  case neg =>
    have z1' : ((d.pack.2 != 0) : Bool) = true := by simpa using z1
    clear z1
    go_wp2_with fail
    refine Calls.mono (KN.out _) ?_
    rintro e w7 ⟨rfl, b7⟩
    have B7 : Hid (Below w.heap.size w w7) := B2.out.trans ((B6.out.trans (b7.mono B6.out.size)).mono B2.out.size)
    clear b7
    go_wp2
    go_ret
    exact ⟨rfl, B7.out⟩
  by_cases z2 : d'.pack.2 = 0
  case neg =>
    have z2' : ((d'.pack.2 != 0) : Bool) = true := by simpa using z2
    have z1' : ((d.pack.2 != 0) : Bool) = false := by simpa using z1
    clear z1 z2
    go_wp2_with fail
    refine Calls.mono (KN.out _) ?_
    rintro e w7 ⟨rfl, b7⟩
    have B7 : Hid (Below w.heap.size w w7) := B2.out.trans ((B6.out.trans (b7.mono B6.out.size)).mono B2.out.size)
    clear b7
    go_wp2
    go_ret
    exact ⟨rfl, B7.out⟩
  have TX := text_apart HI.out.ok HI'.out.ok z1 z2
  obtain ⟨k1, k5, _, _, kl⟩ := pack_zero z1
  obtain ⟨k1', k5', _, _, kl'⟩ := pack_zero z2
  have hl : d.pack.1.length ≤ maxLen := by rw [(pack_zero z1).2.2.2.1]; unfold maxLen; omega
  have hl' : d'.pack.1.length ≤ maxLen := by rw [(pack_zero z2).2.2.2.1]; unfold maxLen; omega
  have z1' : ((d.pack.2 != 0) : Bool) = false := by simpa using z1
  have z2' : ((d'.pack.2 != 0) : Bool) = false := by simpa using z2
  obtain ⟨a, c, ee, s1, _, _⟩ := owned_seen O7.out hl
  injection ee with ea _ ec
  subst ea
  subst ec
  obtain ⟨a, c, ee, s2, _, _⟩ := owned_seen O6.out hl'
  injection ee with ea _ ec
  subst ea
  subst ec
  have CV1 : Hid (∀ W, Below w6.heap.size w6 W → (convert 28 9 (.slice a4 d.pack.1.length c4)).run Try.prog W = .ok (.string (textOf d.pack.1)) W) := fun W hW => run_to_text W a4 _ c4 _ (s1.below hW)
  have CV2 : Hid (∀ W, Below w6.heap.size w6 W → (convert 28 9 (.slice a6 d'.pack.1.length c6)).run Try.prog W = .ok (.string (textOf d'.pack.1)) W) := fun W hW => run_to_text W a6 _ c6 _ (s2.below hW)
  obtain ⟨rj, cj, bj, kj, ej, lj⟩ := just_v k1 k5 HI.out.at_
  obtain ⟨rj', cj', bj', kj', ej', lj'⟩ := just_v k1' k5' HI'.out.at_
  have J1 : Hid (∀ W : World, Calls Try.prog 20 #[.agg C.toArray] W fun e w' => e = .returned (.agg (d.just.v rj cj bj kj).cells) ∧ Below W.heap.size W w') := fun W => by
    have := refJust_any (d.v ra rc ba bc) k1 k5 W
    rw [EC.out, ej] at this
    exact this
  have J2 : Hid (∀ W : World, Calls Try.prog 20 #[.agg D.toArray] W fun e w' => e = .returned (.agg (d'.just.v rj' cj' bj' kj').cells) ∧ Below W.heap.size W w') := fun W => by
    have := refJust_any (d'.v ra' rc' ba' bc') k1' k5' W
    rw [ED.out, ej'] at this
    exact this
  have J3 : Hid (∀ W : World, Below w.heap.size w W → Calls Try.prog 10 #[.agg (d.just.v rj cj bj kj).cells, .agg (d'.just.v rj' cj' bj' kj').cells] W fun e w' => e = .returned (.bool (decide (d.just = d'.just))) ∧ Below W.heap.size W w') := fun W hW => refSame_any (lj.below hW) (lj'.below hW)
  have G1' : Hid (∀ W, Below w6.heap.size w6 W → W.heap[w.heap.size]? = some (.cells C.toArray 30 (0, 0))) := fun W hW => G1.out W (B6.out.trans (hW.mono B6.out.size))
  have G2' : Hid (∀ W, Below w6.heap.size w6 W → W.heap[w.heap.size + 1]? = some (.cells D.toArray 30 (0, 0))) := fun W hW => G2.out W (B6.out.trans (hW.mono B6.out.size))
  have B6' : Hid (Below w.heap.size w w6) := B2.out.trans (B6.out.mono B2.out.size)
  generalize (d.just.v rj cj bj kj).cells = C7 at *
  generalize (d'.just.v rj' cj' bj' kj').cells = C8 at *
  generalize decide (d.just = d'.just) = same at *
  generalize textOf d.pack.1 = T1 at *
  generalize textOf d'.pack.1 = T2 at *
  have HTX : Hid _ := TX
  clear ej ej' lj lj' s1 s2 hl hl' kl kl' k1 k5 k1' k5' z1 z2 TX O4 O5 O6 O7 B3 B4 B5 G1 G2
  go_wp2_with fail
  refine wp_region_held_drew (S := fun W => Below w6.heap.size w6 W) (by kernel_rfl) (Below.refl _ w6).drew (fun hHeld => ?_)
  refine take_run (i := 0) (oi := { dst := some 28, op := Go.Op.move (Go.Operand.tmp 5), type := 28, pos := "law.go:170", after := #[], guard := none }) (v := .slice a4 d.pack.1.length c4) rfl (by kernel_rfl) (by kernel_rfl) (by kernel_rfl) (fun _ _ _ h => h) (by rfl) ?_ hHeld ?_
  · (intro wq hSw; go_simp <;> with_reducible rfl)
  try simp only [Act.put, List.setIfInBounds_toArray, List.set_cons_zero, List.set_cons_succ]
  refine take_text (i := 1) (oi := { dst := some 29, op := Go.Op.convert 28 9 (Go.Operand.tmp 28), type := 9, pos := "law.go:170", after := #[{ on := 0, ground := Go.Ground.data }], guard := none }) rfl (by kernel_rfl) (by kernel_rfl) (by kernel_rfl) 28 9 (.tmp 28) _ (.string T1) (fun _ _ _ h => h) (by rfl) rfl (by go_simp <;> with_reducible rfl) (fun W hW => CV1.out W hW) hHeld ?_
  try simp only [Act.put, List.setIfInBounds_toArray, List.set_cons_zero, List.set_cons_succ]
  refine take_run (i := 2) (oi := { dst := some 30, op := Go.Op.move (Go.Operand.tmp 7), type := 28, pos := "law.go:170", after := #[], guard := none }) (v := .slice a6 d'.pack.1.length c6) rfl (by kernel_rfl) (by kernel_rfl) (by kernel_rfl) (fun _ _ _ h => h) (by rfl) ?_ hHeld ?_
  · (intro wq hSw; go_simp <;> with_reducible rfl)
  try simp only [Act.put, List.setIfInBounds_toArray, List.set_cons_zero, List.set_cons_succ]
  refine take_text (i := 3) (oi := { dst := some 31, op := Go.Op.convert 28 9 (Go.Operand.tmp 30), type := 9, pos := "law.go:170", after := #[{ on := 2, ground := Go.Ground.data }], guard := none }) rfl (by kernel_rfl) (by kernel_rfl) (by kernel_rfl) 28 9 (.tmp 30) _ (.string T2) (fun _ _ _ h => h) (by rfl) rfl (by go_simp <;> with_reducible rfl) (fun W hW => CV2.out W hW) hHeld ?_
  try simp only [Act.put, List.setIfInBounds_toArray, List.set_cons_zero, List.set_cons_succ]
  refine take_run (i := 4) (oi := { dst := some 32, op := Go.Op.binOp Go.BinOp.eql 9 (Go.Operand.tmp 29) (Go.Operand.tmp 31) 9, type := 4, pos := "law.go:170", after := #[{ on := 1, ground := Go.Ground.data }, { on := 3, ground := Go.Ground.data }], guard := none }) (v := .bool same) rfl (by kernel_rfl) (by kernel_rfl) (by kernel_rfl) (fun _ _ _ h => h) (by rfl) ?_ hHeld ?_
  · (intro wq hSw; have ht := HTX.out; go_simp <;> with_reducible rfl)
  try simp only [Act.put, List.setIfInBounds_toArray, List.set_cons_zero, List.set_cons_succ]
  refine take_row (i := 5) (oi := { dst := some 33, op := Go.Op.load 30 (Go.Operand.tmp 2), type := 30, pos := "law.go:170", after := #[], guard := none }) rfl (by kernel_rfl) (by kernel_rfl) (by kernel_rfl) 30 (.tmp 2) w.heap.size 30 C.toArray (0, 0) _ (fun _ _ _ h => h) (by rfl) rfl (by go_simp <;> with_reducible rfl) (fun W hW => G1'.out W hW) Try.underlying30 rfl ZC.out hHeld ?_
  try simp only [Act.put, List.setIfInBounds_toArray, List.set_cons_zero, List.set_cons_succ]
  refine take_row (i := 7) (oi := { dst := some 35, op := Go.Op.load 30 (Go.Operand.tmp 3), type := 30, pos := "law.go:170", after := #[], guard := none }) rfl (by kernel_rfl) (by kernel_rfl) (by kernel_rfl) 30 (.tmp 3) (w.heap.size + 1) 30 D.toArray (0, 0) _ (fun _ _ _ h => h) (by rfl) rfl (by go_simp <;> with_reducible rfl) (fun W hW => G2'.out W hW) Try.underlying30 rfl ZD.out hHeld ?_
  try simp only [Act.put, List.setIfInBounds_toArray, List.set_cons_zero, List.set_cons_succ]
  refine take_call (i := 6) (oi := { dst := some 34, op := Go.Op.call { callee := Go.Callee.value (Go.Operand.func 20), args := #[Go.Operand.tmp 33], argTypes := #[30] }, type := 30, pos := "law.go:170", after := #[{ on := 5, ground := Go.Ground.data }], guard := none }) rfl (by kernel_rfl) (by rfl) 20 _ (by go_simp <;> with_reducible rfl) ?_
  refine Calls.mono (J1.out _) ?_
  rintro e x1 ⟨rfl, y1⟩
  have z1 : Below w6.heap.size w6 x1 := hHeld.trans (y1.mono hHeld.size)
  refine ⟨_, rfl, z1, ?_⟩
  try simp only [Act.put, List.setIfInBounds_toArray, List.set_cons_zero, List.set_cons_succ]
  clear y1
  refine take_call (i := 8) (oi := { dst := some 36, op := Go.Op.call { callee := Go.Callee.value (Go.Operand.func 20), args := #[Go.Operand.tmp 35], argTypes := #[30] }, type := 30, pos := "law.go:170", after := #[{ on := 7, ground := Go.Ground.data }, { on := 6, ground := Go.Ground.chain }], guard := none }) rfl (by kernel_rfl) (by rfl) 20 _ (by go_simp <;> with_reducible rfl) ?_
  refine Calls.mono (J2.out _) ?_
  rintro e x2 ⟨rfl, y2⟩
  have z2 : Below w6.heap.size w6 x2 := z1.trans (y2.mono z1.size)
  refine ⟨_, rfl, z2, ?_⟩
  try simp only [Act.put, List.setIfInBounds_toArray, List.set_cons_zero, List.set_cons_succ]
  clear y2
  refine take_call (i := 9) (oi := { dst := some 37, op := Go.Op.call { callee := Go.Callee.value (Go.Operand.func 10), args := #[Go.Operand.tmp 34, Go.Operand.tmp 36], argTypes := #[30, 30] }, type := 4, pos := "law.go:170", after := #[{ on := 6, ground := Go.Ground.data }, { on := 8, ground := Go.Ground.data }, { on := 8, ground := Go.Ground.chain }], guard := none }) rfl (by kernel_rfl) (by rfl) 10 _ (by go_simp <;> with_reducible rfl) ?_
  refine Calls.mono (J3.out _ (B6'.out.trans (z2.mono B6'.out.size))) ?_
  rintro e x3 ⟨rfl, y3⟩
  have z3 : Below w6.heap.size w6 x3 := z2.trans (y3.mono z2.size)
  refine ⟨_, rfl, z3, ?_⟩
  try simp only [Act.put, List.setIfInBounds_toArray, List.set_cons_zero, List.set_cons_succ]
  clear y3
  refine take_run (i := 10) (oi := { dst := some 38, op := Go.Op.binOp Go.BinOp.eql 4 (Go.Operand.tmp 32) (Go.Operand.tmp 37) 4, type := 4, pos := "law.go:170", after := #[{ on := 4, ground := Go.Ground.data }, { on := 9, ground := Go.Ground.data }], guard := none }) (v := .bool true) rfl (by kernel_rfl) (by kernel_rfl) (by kernel_rfl) (fun _ _ _ h => h) (by rfl) ?_ z3 ?_
  · (intro wq hSw; go_simp <;> with_reducible rfl)
  try simp only [Act.put, List.setIfInBounds_toArray, List.set_cons_zero, List.set_cons_succ]
  refine take_run (i := 11) (oi := { dst := some 39, op := Go.Op.move (Go.Operand.tmp 38), type := 4, pos := "law.go:170", after := #[{ on := 10, ground := Go.Ground.data }, { on := 9, ground := Go.Ground.chain }], guard := none }) (v := .bool true) rfl (by kernel_rfl) (by kernel_rfl) (by kernel_rfl) (fun _ _ _ h => h) (by rfl) ?_ z3 ?_
  · (intro wq hSw; go_simp <;> with_reducible rfl)
  try simp only [Act.put, List.setIfInBounds_toArray, List.set_cons_zero, List.set_cons_succ]
  refine take_call (i := 12) (oi := { dst := some 40, op := Go.Op.call { callee := Go.Callee.value (Go.Operand.func 19), args := #[], argTypes := #[] }, type := 4, pos := "law.go:170", after := #[{ on := 11, ground := Go.Ground.chain }, { on := 11, ground := Go.Ground.guard }], guard := some (11, true) }) rfl (by kernel_rfl) (by rfl) 19 _ (by go_simp <;> with_reducible rfl) ?_
  refine Calls.mono (KN.out _) ?_
  rintro e x4 ⟨rfl, y4⟩
  have z4 : Below w6.heap.size w6 x4 := z3.trans (y4.mono z3.size)
  refine ⟨_, rfl, z4, ?_⟩
  try simp only [Act.put, List.setIfInBounds_toArray, List.set_cons_zero, List.set_cons_succ]
  clear y4
  refine take_run (i := 13) (oi := { dst := some 41, op := Go.Op.pick (Go.Operand.tmp 39) (Go.Operand.tmp 40) (Go.Operand.const (Go.Value.bool false)), type := 4, pos := "law.go:170", after := #[{ on := 11, ground := Go.Ground.data }, { on := 12, ground := Go.Ground.data }], guard := none }) (v := .bool true) rfl (by kernel_rfl) (by kernel_rfl) (by kernel_rfl) (fun _ _ _ h => h) (by rfl) ?_ z4 ?_
  · (intro wq hSw; go_simp <;> with_reducible rfl)
  try simp only [Act.put, List.setIfInBounds_toArray, List.set_cons_zero, List.set_cons_succ]
  refine take_run (i := 14) (oi := { dst := some 4, op := Go.Op.assign (Go.Operand.tmp 41), type := 4, pos := "law.go:170", after := #[{ on := 13, ground := Go.Ground.data }, { on := 12, ground := Go.Ground.chain }, { on := 0, ground := Go.Ground.phase }, { on := 1, ground := Go.Ground.phase }, { on := 2, ground := Go.Ground.phase }, { on := 3, ground := Go.Ground.phase }, { on := 4, ground := Go.Ground.phase }, { on := 5, ground := Go.Ground.phase }, { on := 6, ground := Go.Ground.phase }, { on := 7, ground := Go.Ground.phase }, { on := 8, ground := Go.Ground.phase }, { on := 9, ground := Go.Ground.phase }, { on := 10, ground := Go.Ground.phase }, { on := 11, ground := Go.Ground.phase }, { on := 12, ground := Go.Ground.phase }, { on := 13, ground := Go.Ground.phase }], guard := none }) (v := .bool true) rfl (by kernel_rfl) (by kernel_rfl) (by kernel_rfl) (fun _ _ _ h => h) (by rfl) ?_ z4 ?_
  · (intro wq hSw; go_simp <;> with_reducible rfl)
  try simp only [Act.put, List.setIfInBounds_toArray, List.set_cons_zero, List.set_cons_succ]
  refine wpAnyH_done (by kernel_rfl) ?_ _
  have B9 : Hid (Below w.heap.size w x4) := B6'.out.trans (z4.mono B6'.out.size)
  clear z1 z2 z3 z4 hHeld
  go_wp2
  go_ret
  exact ⟨rfl, B9.out⟩
end Go.Proofs.Ytmcippolnekogaa
