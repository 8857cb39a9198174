/- An ask and a result that came in, opened. -/
import Derived.Test.YtbilnleglnbnlaaXResF
namespace Go.Proofs.Ytbilnleglnbnlaa
open Go.ChangeShapes Go.WideShapes Go.ChangeAt Go.RowKit Go.Deep Go.Joins
set_option linter.unusedVariables false

set_option maxRecDepth 100000 in
theorem open_askX {H : Type} {enc : TypeId × Value → H} {W : World} {v : Value} {d : DataW H} {p : List MemPlace} {base : Nat} (hv : Value.okWide Try.prog W .any base 30 v) (h : DataW.Trod enc Try.prog W 0 (fun _ => true) true 30 v d p)
    {ts : List TypeId} {ds : List (DataW H)} (hsz : (DataW.weightsEach Try.prog ts ds).all (· ≤ reachBytes) = true) (j : Nat) (htj : ts[j]? = some 30) (hdj : ds[j]? = some d) :
    ∃ (g k ok : Int) (of_ ot : ByteArray) (oa : Int) (oy : ByteArray) (os oh : Int) (id nm : ByteArray) (cn why slot cep at_ : Int) (last : Bool) (da : Option Addr) (dc : Nat) (dl : List (BitVec 8)), v = .agg #[.int .i64 g, .int .i64 k, .int .i64 ok, .string of_, .string ot, .int .i64 oa, .string oy, .int .i64 os, .int .i64 oh, .string id, .string nm, .int .i64 cn, .int .i64 why, .int .i64 slot, .int .i64 cep, .int .i64 at_, .bool last, .slice da dl.length dc] ∧ Seen W da dl.length dl ∧ (da = none → dc = 0) ∧ dl.length ≤ 140737488351232 := by
  obtain ⟨cs, rfl, hcz⟩ := okWide_struct Try.underlying30 hv
  obtain ⟨fuel, hf⟩ := h
  have hl : cs.toList.length = 18 := by rw [Array.length_toList]; exact hcz.trans (by kernel_rfl)
  obtain ⟨g, k, ok, of_, ot, oa, oy, os, oh, id, nm, cn, why, slot, cep, at_, last, da, dc, dl, e, s1, s2, s3⟩ := open_askC (cs := cs.toList) hl hf (fun n hn => by
    have := List.all_eq_true.1 hsz n (DataW.weights_mem_each htj hdj n hn)
    simpa using this)
  refine ⟨g, k, ok, of_, ot, oa, oy, os, oh, id, nm, cn, why, slot, cep, at_, last, da, dc, dl, ?_, s1, s2, s3⟩
  rw [show cs = cs.toList.toArray by simp, e]
set_option maxRecDepth 100000 in
theorem open_resV {H : Type} {enc : TypeId × Value → H} {W : World} {v : Value} {d : DataW H} {p : List MemPlace} {base : Nat} (hv : Value.okWide Try.prog W .any base 35 v) (h : DataW.Trod enc Try.prog W 0 (fun _ => true) true 35 v d p)
    {ts : List TypeId} {ds : List (DataW H)} (hsz : (DataW.weightsEach Try.prog ts ds).all (· ≤ reachBytes) = true) (j : Nat) (htj : ts[j]? = some 35) (hdj : ds[j]? = some d) :
    ∃ (rwhy : Int) (rwait : Bool) (rrw rra : Int) (qa : Option Addr) (qc : Nat) (rows : List (ByteArray × Int)) (ea : Option Addr) (ec : Nat) (el : List (BitVec 8)), v = .agg #[.int .i64 rwhy, .bool rwait, .int .i64 rrw, .int .i64 rra, .slice qa rows.length qc, .slice ea el.length ec] ∧ Seen W ea el.length el ∧ (ea = none → ec = 0) ∧ el.length ≤ 140737488351232 ∧ RowsX W qa rows.length rows ∧ (qa = none → qc = 0) ∧ rows.length * 24 ≤ 140737488355328 := by
  obtain ⟨cs, rfl, hcz⟩ := okWide_struct Try.underlying35 hv
  obtain ⟨fuel, hf⟩ := h
  have hl : cs.toList.length = 6 := by rw [Array.length_toList]; exact hcz.trans (by kernel_rfl)
  obtain ⟨rwhy, rwait, rrw, rra, qa, qc, rows, ea, ec, el, e, s1, s2, s3, s4, s5, s6⟩ := open_resX (cs := cs.toList) hl hf (fun n hn => by
    have := List.all_eq_true.1 hsz n (DataW.weights_mem_each htj hdj n hn)
    simpa using this)
  refine ⟨rwhy, rwait, rrw, rra, qa, qc, rows, ea, ec, el, ?_, s1, s2, s3, s4, s5, s6⟩
  rw [show cs = cs.toList.toArray by simp, e]
end Go.Proofs.Ytbilnleglnbnlaa
