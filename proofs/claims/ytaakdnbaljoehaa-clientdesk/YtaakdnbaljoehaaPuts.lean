/- What Bool and Bytes do. -/
import Derived.Test.YtaakdnbaljoehaaWriters
namespace Go.Proofs.Ytaakdnbaljoehaa
open Go.RowKit Cod
set_option linter.unusedVariables false

theorem bytes_any (a : Option Addr) (len cap : Nat) (l : List (BitVec 8)) (pa : Option Addr) (pn pc : Nat) (p : List (BitVec 8)) (w : World) (h : Seen w a len l) (hnil : a = none → cap = 0) (hp : Seen w pa pn p) (hpn : pa = none → pc = 0) (hm : len + 10 + pn ≤ 140737488355328) :
    Calls Try.prog 62 #[.slice a len cap, .slice pa pn pc] w fun e w' => ∃ v', e = .returned v' ∧ w'.ownsRow w.heap.size 5 1 v' (len + (sz p).length) (cellsOf (l ++ sz p)) ∧ Below w.heap.size w w' := by
  have HC := clone_any a len cap l w h hnil (by omega)
  have HM : Hid _ := hm
  have HP : Hid (Seen w pa pn p) := hp
  have HN : Hid _ := hpn
  clear h hnil hm hp hpn
  go_enter Try.func62, Try.ntmps62
  go_wp2_with fail
  refine HC.mono ?_
  rintro e w1 ⟨v1, rfl, o1, b1⟩
  go_wp2_with fail
  refine (addBytes_any w.heap.size v1 len l pa pn pc p w1 o1 b1.size (fun w' hb => HP.out.below (b1.trans hb)) HN.out HM.out).mono ?_
  rintro e w2 ⟨v2, rfl, o2, b2⟩
  go_wp2
  go_ret
  exact ⟨_, rfl, o2, b1.trans b2⟩
end Go.Proofs.Ytaakdnbaljoehaa
