/- Package rlog: copied. -/
import Derived.Test.YthnocbflnakdmaaLClone
namespace Go.Proofs.Ythnocbflnakdmaa
open Go.RowKit
attribute [local go_sem] Oper.semAt_some
set_option linter.unusedVariables false

theorem data_owned {w : World} {base n : Nat} {v : Value} {l : List (BitVec 8)} (h : w.ownsRow base 5 1 v n (cellsOf l)) (hm : n ≤ 140737488355328) : DataAt w v l := by
  obtain ⟨a, c, e, s, hn, _⟩ := owned_seen h (by unfold maxLen; omega)
  obtain rfl : n = l.length := s.1
  refine ⟨⟨a, c, e, s, hn, hm⟩, fun a' n' c' e' x ex hb => ?_⟩
  obtain ⟨a2, c2, e2, _, _, _, q⟩ := row_form h
  rw [e2] at e'
  cases e'
  obtain ⟨_, cur, hc, _⟩ := q x ex
  exact ⟨cur, (0, 0), hc⟩
theorem entCells_set (es : List EntV) (k : Nat) (hk : k < es.length) (v : Value) : (entCells es).set (k * 2 + 1) v = entCells (es.set k (es[k].1, v)) := by
  induction es generalizing k with
  | nil => simp at hk
  | cons e es ih =>
    cases k with
    | zero => simp [entCells]
    | succ k =>
      have e1 : (k + 1) * 2 + 1 = k * 2 + 1 + 1 + 1 := by omega
      have := ih k (by simpa using hk)
      simp only [entCells] at this
      simp only [entCells, List.flatMap_cons, List.cons_append, List.nil_append, e1, List.set_cons_succ, List.getElem_cons_succ, this]
theorem set_map_fst (es : List EntV) (k : Nat) (hk : k < es.length) (v : Value) : (es.set k (es[k].1, v)).map Prod.fst = es.map Prod.fst := by
  apply List.ext_getElem
  · simp
  · intro j h1 h2
    have hj : j < es.length := by simpa using h2
    simp only [List.getElem_map, List.getElem_set]
    by_cases e : k = j
    · subst e; simp
    · simp [e]
/-- While entries are copied: the first ones have bytes of their own. -/
structure CopySt (w w' : World) (g n cap k : Nat) (es fs : List EntV) : Prop where
  row : w'.ownsRow w.heap.size 52 2 (.slice (some ⟨g, 0, none⟩) n cap) n (entCells fs)
  fst : fs.map Prod.fst = es.map Prod.fst
  old : ∀ j (hj : j < fs.length), k ≤ j → BytesV w fs[j].2 fs[j].1.2
  new : ∀ j (hj : j < fs.length), j < k → DataAt w' fs[j].2 fs[j].1.2
  len : fs.length = n
  below : Below w.heap.size w w'
set_option maxRecDepth 100000 in
set_option maxHeartbeats 1600000 in
theorem copied_any (a : Option Addr) (len cap : Nat) (es : List EntV) (w : World) (hl : len = es.length) (h : RawAt w a es) (hB : ∀ e ∈ es, BytesV w e.2 e.1.2) (hnil : a = none → cap = 0) (hm : len ≤ 4398046511104) :
    Calls Try.prog 38 #[.slice a len cap] w fun e w' => ∃ v fs, e = .returned v ∧ fs.map Prod.fst = es.map Prod.fst ∧ w'.ownsRow w.heap.size 52 2 v len (entCells fs) ∧ (∀ e ∈ fs, DataAt w' e.2 e.1.2) ∧ Below w.heap.size w w' := by
  have HC := cloneE_any a len cap es w hl h (fun e he => (hB e he).one) hnil hm
  have HBs : Hid (∀ e ∈ es, BytesV w e.2 e.1.2) := hB
  have HL : Hid (len = es.length) := hl
  clear h hnil hB hl
  go_enter Try.func38, Try.ntmps38
  go_wp2_with fail
  refine HC.mono ?_
  clear HC
  rintro e w1 ⟨v, rfl, o1, b1⟩
  have hl := HL.out
  by_cases h0 : len = 0
  · obtain ⟨a1, c1, hv, _⟩ := row_form o1
    have he : es = [] := List.eq_nil_of_length_eq_zero (by omega)
    subst he
    rw [hv] at o1 ⊢
    have O1 : Hid (w1.ownsRow w.heap.size 52 2 (.slice a1 len c1) len (entCells [])) := o1
    clear o1 hv HBs hl
    subst h0
    go_wp2
    go_loopw [10] (fun i wr => i = .int .i64 0 ∧ wr = w1) (fun _ _ => 0)
    case atStart => exact ⟨rfl, rfl⟩
    case round =>
      obtain ⟨rfl, rfl⟩ := hrel
      go_wp2
      go_ret
      exact ⟨_, [], rfl, rfl, O1.out, (fun e he => by cases he), b1⟩
  · have hex : ∃ g c, v = .slice (some ⟨g, 0, none⟩) len c := by
      obtain ⟨g, c, e, _⟩ := row_at (es := es) (by rw [← hl]; exact o1) (show 0 < es.length by omega)
      exact ⟨g, c, by rw [e, hl]⟩
    obtain ⟨g, c, hv⟩ := hex
    rw [hv] at o1 ⊢
    have ST : Hid (CopySt w w1 g len c 0 es es) := ⟨o1, rfl, fun j hj _ => HBs.out _ (List.getElem_mem hj), fun j hj h => by omega, hl.symm, b1⟩
    clear o1 hv hl b1 h0
    go_wp2
    go_loopw [10] (fun i wr => ∃ (k : Nat) (fs : List EntV), k ≤ len ∧ i = .int .i64 k ∧ Hid (CopySt w wr g len c k es fs)) (fun i _ => len - (intOf i).toNat)
    case atStart => exact ⟨0, es, Nat.zero_le _, rfl, ST⟩
    case round =>
      obtain ⟨k, fs, hk, rfl, S⟩ := hrel
      by_cases hlt : k < len
      · have hkf : k < fs.length := by rw [S.out.len]; exact hlt
        obtain ⟨q1, q2⟩ := entCells_get fs k hkf
        have r1 := S.out.row.cellAt (k * 2) (by omega)
        have r2 := S.out.row.cellAt (k * 2 + 1) (by omega)
        rw [q1] at r1
        rw [q2] at r2
        obtain ⟨pa, pc, hpv, ps, pn, pm⟩ := S.out.old k hkf (Nat.le_refl _)
        rw [hpv] at r2
        have bx := (Below.refl _ wr).alloc (Nat.le_refl _) (.cells #[.int .i64 fs[k].1.1, .slice pa fs[k].1.2.length pc] 52)
        have HC := clone_any pa fs[k].1.2.length pc fs[k].1.2 (wr.alloc (.cells #[.int .i64 fs[k].1.1, .slice pa fs[k].1.2.length pc] 52)) ((ps.below S.out.below).below bx) pn pm
        clear q1 q2 ps pn
        have hk4 : k < 4398046511104 := by omega
        have hki : (k : Int) < (len : Int) := by omega
        clear ST
        go_wp2_with fail
        refine HC.mono ?_
        clear HC
        rintro e w2 ⟨cv, rfl, o2, b2⟩
        have bw : Below wr.heap.size wr w2 := bx.trans (b2.mono (by simp))
        have o3 : w2.ownsRow w.heap.size 52 2 (.slice (some ⟨g, 0, none⟩) len c) len (entCells fs) := owns_kept S.out.row (fun g' e' => bw.block g' (row_kind S.out.row e').2.1)
        have f3 := o3.frozenAt (k * 2 + 1)
        have d2 := data_owned o2 pm
        have x3 := o3.cellAt (k * 2 + 1) (by omega)
        obtain ⟨_, qq⟩ := entCells_get fs k hkf
        rw [qq] at x3
        obtain ⟨ca, cc, hcv, _⟩ := row_form o2
        have ltg : g < w2.heap.size := (o3.lt g rfl).2
        have S2 : Hid (CopySt w (w2.setCell ⟨g, k * 2 + 1, none⟩ cv) g len c (k + 1) es (fs.set k (fs[k].1, cv))) := by
          have bs : Below w.heap.size w (w2.setCell ⟨g, k * 2 + 1, none⟩ cv) := (S.out.below.trans (bw.mono S.out.below.size)).setCell (by have := (o3.lt g rfl).1; exact this) cv
          have ok : ∀ x, B8At w2 x → (w2.setCell ⟨g, k * 2 + 1, none⟩ cv).heap[x]? = w2.heap[x]? := fun x ⟨cs, z, e⟩ => by
            refine Below.heap_setCell _ _ _ _ (fun e2 => ?_)
            obtain ⟨_, _, cur, e3⟩ := row_kind o3 (g := g) rfl
            have e2' : x = g := e2
            subst e2'
            rw [e] at e3
            injection e3 with e3
            injection e3 with _ e4
            exact absurd e4 (by decide)
          refine ⟨?_, ?_, fun j hj hkj => ?_, fun j hj hkj => ?_, by simp [S.out.len], bs⟩
          · have := o3.stored (k * 2 + 1) cv
            rw [entCells_set fs k hkf] at this
            exact this.1
          · rw [set_map_fst fs k hkf]; exact S.out.fst
          · have hj' : j < fs.length := by simpa using hj
            simp only [List.getElem_set]
            rw [if_neg (by omega)]
            exact S.out.old j hj' (by omega)
          · have hj' : j < fs.length := by simpa using hj
            simp only [List.getElem_set]
            by_cases ej : k = j
            · subst ej
              rw [if_pos rfl]
              exact d2.keep ok
            · rw [if_neg ej]
              exact ((S.out.new j hj' (by omega)).below bw).keep ok
        clear o2 o3 b2 bw bx d2 qq S hpv r1 r2 pm
        rw [hcv] at S2 ⊢
        clear hcv
        go_wp2
        go_roundw
        case rel => exact ⟨k + 1, _, by omega, by go_num, S2⟩
        case measure => simp only [intOf]; omega
      · obtain rfl : k = len := by omega
        clear ST
        go_wp2
        go_ret
        exact ⟨_, fs, rfl, S.out.fst, S.out.row, fun e he => by
          obtain ⟨j, hj, rfl⟩ := List.getElem_of_mem he
          exact S.out.new j hj (by rw [← S.out.len]; exact hj), S.out.below⟩
end Go.Proofs.Ythnocbflnakdmaa
