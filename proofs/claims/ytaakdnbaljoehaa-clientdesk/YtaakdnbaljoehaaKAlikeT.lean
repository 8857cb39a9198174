/- The law's alike: all that can be seen of a desk is as the reference's. -/
import Derived.Test.YtaakdnbaljoehaaKAllH
import Derived.Test.YtaakdnbaljoehaaKAllF
import Derived.Test.YtaakdnbaljoehaaKAllG
import Derived.Test.YtaakdnbaljoehaaKSame
import Derived.WalkSmall
namespace Go.Proofs.Ytaakdnbaljoehaa
open Go.RowKit Go.Shelf Cod
attribute [local go_sem] Oper.semAt_some
set_option linter.unusedVariables false
theorem eql_funcK (w : World) (f : Fn) (lb : Array Value) : (binOp .eql 32 (.func f #[] lb) .nilFunc).run Try.prog w = .ok (.bool false) w := by
  have hu := run_underlying (w := w) Try.underlying32
  have h : ∀ d : Nat, (Op.equalIn (d + 1) 32 (.func f #[] lb) .nilFunc).run Try.prog w = .ok false w := fun d => by
    simp [Op.equalIn, hu]
  simp only [binOp]
  simp [Op.equal, Op.maxDepth, h 9999]
theorem wpIn_named {P : Program} {F : Fence} {n : Nat} {c : Code} {Q : Exit → Act → World → Prop} {a : Act} {w : World} (h : ∀ T, a.tmps = T → c.wpIn F n P Q { tmps := T, defers := a.defers } w) : c.wpIn F n P Q a w := h a.tmps rfl
theorem kfK {B : Nat} {A C : World} (b : Below A.heap.size A C) : KeepsFrom B A C := ⟨b.size, fun k o _ ho _ => (b.block k (Array.getElem?_eq_some_iff.1 ho).1).trans ho⟩
/-- What a round of alike's range finds: how far the reference's place has come; nothing else has changed. -/
structure AI (w : World) (N : Nat) (L : List CallV) (pre : List (Nat × OpD)) (X : World) : Prop where
  ex : ∃ k : Nat, k ≤ L.length ∧ openFrom 0 (L.take k) = pre ∧ X.heap[N]? = some (.cells #[.int .i64 (k : Int)] 3 (0, 0))
  block : ∀ K, K < w.heap.size → K ≠ N → X.heap[K]? = w.heap[K]?
  size : w.heap.size ≤ X.heap.size
  rest : X.os = w.os ∧ X.tape = w.tape ∧ X.output = w.output
theorem aiSize {w : World} {N : Nat} {L : List CallV} {pre : List (Nat × OpD)} {X : World} (h : AI w N L pre X) (hN : N < w.heap.size) : w.heap.size ≤ X.heap.size := h.size
theorem AI.low {w : World} {N : Nat} {L : List CallV} (hN : N < w.heap.size) : LowFrom w.heap.size (AI w N L) := fun pre X Y h b => by
  obtain ⟨k, h1, h2, h3⟩ := h.ex
  exact ⟨⟨k, h1, h2, (b.block N hN).trans h3⟩, fun K hK hn => (b.block K hK).trans (h.block K hK hn), Nat.le_trans h.size b.size, b.os.trans h.rest.1, b.tape.trans h.rest.2.1, b.output.trans h.rest.2.2⟩
/-- What the reference's row gives in a round. -/
structure AF (X : World) (bx R g : Nat) (cap : Nat) (L : List CallV) : Prop where
  c4 : X.cell? ⟨bx, 0, none⟩ = some (.pointer (some ⟨R, 0, none⟩))
  cR : X.cell? ⟨R, 0, none⟩ = some (.slice (some ⟨g, 0, none⟩) L.length cap)
  row : ∀ k (hk : k < L.length), X.rangeAt g (k * 11) L[k].rcells
theorem AI.facts {w : World} {N : Nat} {L : List CallV} {pre : List (Nat × OpD)} {X : World} (h : AI w N L pre X) {bx R g cap : Nat} (f : AF w bx R g cap L) (h1 : bx ≠ N) (h2 : R ≠ N) (h3 : g ≠ N) : AF X bx R g cap L := by
  have one : ∀ b o v, b ≠ N → w.cell? ⟨b, o, none⟩ = some v → X.cell? ⟨b, o, none⟩ = some v := fun b o v hb hv => by
    have e := h.block b (World.block_lt_of_cell? w _ hv) hb
    simp only [World.cell?] at hv ⊢
    rw [e]
    exact hv
  exact ⟨one _ _ _ h1 f.c4, one _ _ _ h2 f.cR, fun k hk j v hv => one _ _ _ h3 (f.row k hk j v hv)⟩
/-- One step of the place. -/
theorem AI.step {w : World} {N : Nat} {L : List CallV} {pre pre' : List (Nat × OpD)} {X : World} (h : AI w N L pre X) {k : Nat} (hk : k + 1 ≤ L.length) (hp : openFrom 0 (L.take (k + 1)) = pre') (hc : X.heap[N]? = some (.cells #[.int .i64 (k : Int)] 3 (0, 0))) : AI w N L pre' (X.setCell ⟨N, 0, none⟩ (.int .i64 ((k + 1 : Nat) : Int))) :=
  ⟨⟨k + 1, hk, hp, one_setCell hc⟩, fun K hK hn => by rw [Below.heap_setCell _ _ _ _ hn]; exact h.block K hK hn, by simpa using h.size, h.rest⟩
theorem AI.drewN {w : World} {N : Nat} {L : List CallV} {pre : List (Nat × OpD)} {X : World} (h : AI w N L pre X) (n : Nat) : AI w N L pre (X.drewN n) := ⟨h.ex, h.block, h.size, h.rest⟩
/-- Within a round. -/
structure AL (w : World) (N : Nat) (L : List CallV) (aa : Option Addr) (B : Nat) (C : Array Value) (X : World) (pre : List (Nat × OpD)) (Y : World) : Prop where
  ai : AI w N L pre Y
  kf : KeepsFrom w.heap.size X Y
  kc : KcO aa X Y
  op : Y.heap[B]? = some (.cells C 23 (0, 0))
theorem AL.drewN {w : World} {N : Nat} {L : List CallV} {aa : Option Addr} {B : Nat} {C : Array Value} {X : World} {pre : List (Nat × OpD)} {Y : World} (h : AL w N L aa B C X pre Y) (n : Nat) : AL w N L aa B C X pre (Y.drewN n) := ⟨h.ai.drewN n, ⟨h.kf.size, h.kf.same⟩, h.kc, h.op⟩
theorem AL.step {w : World} {N : Nat} {L : List CallV} {aa : Option Addr} {B : Nat} {C : Array Value} {X : World} {pre pre' : List (Nat × OpD)} {Y : World} (h : AL w N L aa B C X pre Y) (hN : N < w.heap.size) (hB : w.heap.size ≤ B) (haa : ∀ x, aa = some x → x.block ≠ N) {k : Nat} (hk : k + 1 ≤ L.length) (hp : openFrom 0 (L.take (k + 1)) = pre') (hc : Y.heap[N]? = some (.cells #[.int .i64 (k : Int)] 3 (0, 0))) :
    AL w N L aa B C X pre' (Y.setCell ⟨N, 0, none⟩ (.int .i64 ((k + 1 : Nat) : Int))) := by
  refine ⟨h.ai.step hk hp hc, ⟨by simpa using h.kf.size, fun K o hK ho hq => ?_⟩, fun x e cs t z q => ?_, ?_⟩
  · rw [Below.heap_setCell _ _ _ _ (by show K ≠ N; omega)]; exact h.kf.same K o hK ho hq
  · rw [Below.heap_setCell _ _ _ _ (haa x e)]; exact h.kc x e cs t z q
  · rw [Below.heap_setCell _ _ _ _ (by show B ≠ N; omega)]; exact h.op
/-- How much is still ahead. -/
def ahead (N m : Nat) (W : World) : Nat := match W.cell? ⟨N, 0, none⟩ with
  | some (.int _ k) => m - k.toNat
  | _ => 0
theorem ahead_of {N m : Nat} {W : World} {k : Nat} (h : W.heap[N]? = some (.cells #[.int .i64 (k : Int)] 3 (0, 0))) : ahead N m W = m - k := by simp [ahead, World.cell?, h]
/-- One round of the loop that spoils an answer's rows. -/
theorem spoil_step {wr w2 : World} {m j N g cap : Nat} {xs : List Value} {C : Array Value} (o : wr.ownsRow w2.heap.size 59 2 (.slice (some ⟨g, 0, none⟩) m cap) m xs) (hj : j < m) (b : Below w2.heap.size w2 wr) (q : wr.heap[N]? = some (.cells C 28 (0, 0))) (v : Value) :
    (∃ u, wr.cell? ⟨g, j * 2 + 1, none⟩ = some u) ∧ wr.frozen? ⟨g, j * 2 + 1, none⟩ = false ∧ (∃ xs', (wr.setCell ⟨g, j * 2 + 1, none⟩ v).ownsRow w2.heap.size 59 2 (.slice (some ⟨g, 0, none⟩) m cap) m xs') ∧ Below w2.heap.size w2 (wr.setCell ⟨g, j * 2 + 1, none⟩ v) ∧ (wr.setCell ⟨g, j * 2 + 1, none⟩ v).heap[N]? = some (.cells C 28 (0, 0)) := by
  have hl : j * 2 + 1 < xs.length := by rw [o.1]; omega
  obtain ⟨hb, _, cur, hc⟩ := row_kind o (g := g) rfl
  have ne : N ≠ g := fun e => by
    rw [e, hc] at q
    injection q with q
    injection q with _ q
    exact absurd q (by decide)
  exact ⟨⟨xs[j * 2 + 1], by rw [o.cellAt _ (by omega)]; exact List.getElem?_eq_getElem hl⟩, o.frozenAt _, ⟨_, (o.stored _ _).1⟩, b.setCell hb _, by rw [Below.heap_setCell _ _ _ _ ne]; exact q⟩
/-- Behind the range. -/
structure AE (w : World) (N : Nat) (L : List CallV) (D : Nat) (pre : List (Nat × OpD)) (Y : World) : Prop where
  ai : AI w N L pre Y
  dk : Y.heap[D]? = some (.deferred (some []))
theorem AE.step {w : World} {N : Nat} {L : List CallV} {D : Nat} {pre pre' : List (Nat × OpD)} {Y : World} (h : AE w N L D pre Y) (hN : N < w.heap.size) (hD : w.heap.size ≤ D) {k : Nat} (hk : k + 1 ≤ L.length) (hp : openFrom 0 (L.take (k + 1)) = pre') (hc : Y.heap[N]? = some (.cells #[.int .i64 (k : Int)] 3 (0, 0))) :
    AE w N L D pre' (Y.setCell ⟨N, 0, none⟩ (.int .i64 ((k + 1 : Nat) : Int))) :=
  ⟨h.ai.step hk hp hc, by rw [Below.heap_setCell _ _ _ _ (by show D ≠ N; omega)]; exact h.dk⟩
theorem AE.drewN {w : World} {N : Nat} {L : List CallV} {D : Nat} {pre : List (Nat × OpD)} {Y : World} (h : AE w N L D pre Y) (n : Nat) : AE w N L D pre (Y.drewN n) := ⟨h.ai.drewN n, h.dk⟩
theorem AE.drew {w : World} {N : Nat} {L : List CallV} {D : Nat} {pre : List (Nat × OpD)} {Y : World} (h : AE w N L D pre Y) : AE w N L D pre Y.drew := ⟨⟨h.ai.ex, h.ai.block, h.ai.size, h.ai.rest⟩, h.dk⟩
/-- The answer's cell is written, and the marks are emptied. -/
theorem alike_end {w w10 X : World} {N D : Nat} {L : List CallV} {pre : List (Nat × OpD)} (h : AE w10 N L D pre X) (b2 : Below w.heap.size w w10) (hN : w.heap.size ≤ N) (hD : w10.heap.size ≤ D) (v : Value) (q6 : w10.heap[w.heap.size + 1]? = some (.cells #[.bool false] 4 (0, 0))) (hn : w.heap.size + 1 ≠ N) :
    X.heap[w.heap.size + 1]? = some (.cells #[.bool false] 4 (0, 0)) ∧ Below w.heap.size w ((X.setCell ⟨w.heap.size + 1, 0, none⟩ v).putObj D (.deferred none)) ∧ ((X.setCell ⟨w.heap.size + 1, 0, none⟩ v).putObj D (.deferred none)).cell? ⟨w.heap.size + 1, 0, none⟩ = some v ∧ (X.setCell ⟨w.heap.size + 1, 0, none⟩ v).heap[D]? = some (.deferred (some [])) := by
  have l6 := (Array.getElem?_eq_some_iff.1 q6).1
  have x6 := (h.ai.block _ l6 hn).trans q6
  have bX : Below w.heap.size w X := b2.trans ⟨h.ai.rest.1, h.ai.rest.2.1, h.ai.rest.2.2, h.ai.size, fun K hK => h.ai.block K (Nat.lt_of_lt_of_le hK b2.size) (by omega)⟩
  have bS : Below w.heap.size w (X.setCell ⟨w.heap.size + 1, 0, none⟩ v) := bX.setCell (by show _ ≤ w.heap.size + 1; omega) _
  have s6 : (X.setCell ⟨w.heap.size + 1, 0, none⟩ v).heap[w.heap.size + 1]? = some (.cells #[v] 4 (0, 0)) := one_setCell x6
  have hk : (X.setCell ⟨w.heap.size + 1, 0, none⟩ v).heap[D]? = some (.deferred (some [])) := by
    rw [Below.heap_setCell _ _ _ _ (by show D ≠ w.heap.size + 1; omega)]
    exact h.dk
  refine ⟨x6, bS.grown (grownBy_putObj' _ D _) bS.size (fun j e => by cases e; exact Nat.le_trans b2.size hD), ?_, hk⟩
  have : ((X.setCell ⟨w.heap.size + 1, 0, none⟩ v).putObj D (.deferred none)).heap[w.heap.size + 1]? = some (.cells #[v] 4 (0, 0)) := by
    rw [World.putObj]
    simp only [Array.getElem?_setIfInBounds]
    rw [if_neg (by omega)]
    exact s6
  simp [World.cell?, this]
theorem kalike_ne {w : World} {b c : Nat} {v : Value} (h : b ≠ c) : (w.setCell ⟨c, 0, none⟩ v).cell? ⟨b, 0, none⟩ = w.cell? ⟨b, 0, none⟩ := by
  simp only [World.cell?]
  rw [Below.heap_setCell _ _ _ _ h]
theorem results_cell_bool {fn : Func} {p : Tmp} (h : fn.results = #[.cell p 4]) (tmps : Array Value) (w : World) (b : Nat) (v : Bool) (hp : tmps.getD p undef = .pointer (some ⟨b, 0, none⟩)) (hc : w.cell? ⟨b, 0, none⟩ = some (.bool v)) : (results fn tmps).run Try.prog w = .ok (.bool v) w := by
  have hp' : tmps[p]?.getD undef = .pointer (some ⟨b, 0, none⟩) := by simpa using hp
  simp [results, h, hp', asAddr, loadVar, hc]
end Go.Proofs.Ytaakdnbaljoehaa
