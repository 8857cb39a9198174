/- The statement CodecWrites: the walk, at numbers as they came in. -/
import Derived.Test.YtfdlgiomnmnhgaaDoorWrites
namespace Go.Proofs.YtfdlgiomnmnhgaaDoor
open Go.RowKit Cod
set_option linter.unusedVariables false

theorem writes_walk_int (ba : Option Addr) (bn bc : Nat) (l : List (BitVec 8)) (n i : Int) (s : ByteArray) (o : OpD) (ya ma : Int) (ra : Option Addr) (rn rc : Nat) (A : List (ByteArray × Int)) (h : HeadD) (ea : Option Addr) (en ec : Nat) (E : List (Int × List (BitVec 8))) (da : Option Addr) (dn dc : Nat) (D : List (BitVec 8)) (w : World) (hT : Tabs w)
    (hb : Seen w ba bn l) (hbn : ba = none → bc = 0) (hbl : bn ≤ 1099511627776) (hn : (Lit.int .u64 n).wf = true) (hi : (Lit.int .i64 i).wf = true) (hs : s.size ≤ 1099511627776) (ho : o.ok) (hso : o.size ≤ 1099511627776) (hya : i64ok ya) (hma : i64ok ma) (hA : ∀ r ∈ A, i64ok r.2) (hRA : RowsAt w ra rn A) (hzA : rowsSize A ≤ 1099511627776)
    (hh : h.fine) (hE : ∀ e ∈ E, i64ok e.1) (hel : ∀ e ∈ E, e.2.length ≤ 140737488355328) (hEA : EntsAt w ea en E) (hEm : en ≤ 140737488355328) (hD : Seen w da dn D) (hdn : da = none → dc = 0) :
    Calls Tryd.prog 3 #[.slice ba bn bc, .int .u64 n, .int .i64 i, .string s, o.val, .agg #[.int .i64 ya, .int .i64 ma, .slice ra rn rc], h.val (.slice ea en ec) (.slice da dn dc)] w fun e w' => e = .returned (.bool true) ∧ Below w.heap.size w w' := by
  have h1 : 0 ≤ n ∧ n ≤ 18446744073709551615 := by simpa [Lit.wf, IntKind.min, IntKind.max, IntKind.bits, IntKind.signed] using hn
  have h2 : -9223372036854775808 ≤ i ∧ i ≤ 9223372036854775807 := by simpa [Lit.wf, IntKind.min, IntKind.max, IntKind.bits, IntKind.signed] using hi
  have := writes_walk ba bn bc l n.toNat i s o ya ma ra rn rc A h ea en ec E da dn dc D w hT hb hbn hbl (by omega) ⟨h2.1, by omega⟩ hs ho hso hya hma hA hRA hzA hh hE hel hEA hEm hD hdn
  rwa [Int.toNat_of_nonneg h1.1] at this
end Go.Proofs.YtfdlgiomnmnhgaaDoor
