/- Package net: slices.SortFunc of letters with their turns. -/
import Derived.Test.YtccmehbdnnelhaaNOwn
import Derived.Shelf.SlSortCmp.NoneTotal
import Derived.Test.YtccmehbdnnelhaaNSendS
namespace Go.Proofs.Ytccmehbdnnelhaa
open Go.Shelf Go.RowKit Go.Lib Go.Sort
attribute [local go_sem] Oper.semAt_some
set_option linter.unusedVariables false
/-- Where the shelf's numbers lie here. -/
def renN : Ren := ⟨fun n => if n = 6 then 41 else if n = 14 then 46 else if n = 15 then 47 else if n = 20 then 49 else if n = 21 then 50 else if n = 22 then 51 else if n = 23 then 52 else if n = 24 then 53 else if n = 25 then 54 else if n = 26 then 55 else if n = 27 then 56 else if n = 28 then 57 else if n = 29 then 58 else if n = 46 then 59 else if n = 47 then 60 else if n = 48 then 61 else if n = 49 then 62 else if n = 50 then 63 else if n = 57 then 64 else n, fun n => if n = 24 then 69 else if n = 25 then 78 else if n = 22 then 66 else if n = 39 then 79 else if n = 45 then 85 else if n = 46 then 86 else if n = 50 then 75 else if n = 53 then 92 else if n = 55 then 94 else if n = 66 then 95 else if n = 70 then 99 else if n = 76 then 101 else if n = 77 then 102 else n, fun n => n⟩
set_option maxHeartbeats 4000000 in
theorem laysN : SlLaysF0.n6 Try.prog renN where
  mixed := by kernel_rfl
  f6 := ⟨Try.f41.name, by kernel_rfl, Try.func41.trans (by kernel_rfl)⟩
  f14 := ⟨Try.f46.name, by kernel_rfl, Try.func46.trans (by kernel_rfl)⟩
  f15 := Try.func47.trans (by kernel_rfl)
  f20 := ⟨Try.f49.name, by kernel_rfl, Try.func49.trans (by kernel_rfl)⟩
  f21 := ⟨Try.f50.name, by kernel_rfl, Try.func50.trans (by kernel_rfl)⟩
  f22 := ⟨Try.f51.name, by kernel_rfl, Try.func51.trans (by kernel_rfl)⟩
  f23 := ⟨Try.f52.name, by kernel_rfl, Try.func52.trans (by kernel_rfl)⟩
  f24 := ⟨Try.f53.name, by kernel_rfl, Try.func53.trans (by kernel_rfl)⟩
  f25 := ⟨Try.f54.name, by kernel_rfl, Try.func54.trans (by kernel_rfl)⟩
  f26 := ⟨Try.f55.name, by kernel_rfl, Try.func55.trans (by kernel_rfl)⟩
  f27 := ⟨Try.f56.name, by kernel_rfl, Try.func56.trans (by kernel_rfl)⟩
  f28 := Try.func57.trans (by kernel_rfl)
  f29 := Try.func58.trans (by kernel_rfl)
  f46 := ⟨Try.f59.name, by kernel_rfl, Try.func59.trans (by kernel_rfl)⟩
  f47 := Try.func60.trans (by kernel_rfl)
  f48 := Try.func61.trans (by kernel_rfl)
  f49 := ⟨Try.f62.name, by kernel_rfl, Try.func62.trans (by kernel_rfl)⟩
  f50 := ⟨Try.f63.name, by kernel_rfl, Try.func63.trans (by kernel_rfl)⟩
  f57 := ⟨Try.f64.name, by kernel_rfl, Try.func64.trans (by kernel_rfl)⟩
  t0 := by kernel_rfl
  a0 := fun w => by kernel_rfl
  z0 := fun w => by kernel_rfl
  v0 := fun w => by kernel_rfl
  t3 := by kernel_rfl
  a3 := fun w => by kernel_rfl
  z3 := fun w => by kernel_rfl
  v3 := fun w => by kernel_rfl
  t4 := by kernel_rfl
  a4 := fun w => by kernel_rfl
  z4 := fun w => by kernel_rfl
  v4 := fun w => by kernel_rfl
  t5 := by kernel_rfl
  a5 := fun w => by kernel_rfl
  z5 := fun w => by kernel_rfl
  v5 := fun w => by kernel_rfl
  t9 := by kernel_rfl
  a9 := fun w => by kernel_rfl
  z9 := fun w => by kernel_rfl
  v9 := fun w => by kernel_rfl
  t22 := by kernel_rfl
  a22 := fun w => by kernel_rfl
  z22 := fun w => by kernel_rfl
  v22 := fun w => by kernel_rfl
  t25 := by kernel_rfl
  a25 := fun w => by kernel_rfl
  z25 := fun w => by kernel_rfl
  v25 := fun w => by kernel_rfl
  t39 := by kernel_rfl
  a39 := fun w => by kernel_rfl
  z39 := fun w => by kernel_rfl
  v39 := fun w => by kernel_rfl
  t45 := by kernel_rfl
  a45 := fun w => by kernel_rfl
  z45 := fun w => by kernel_rfl
  v45 := fun w => by kernel_rfl
  t46 := by kernel_rfl
  a46 := fun w => by kernel_rfl
  z46 := fun w => by kernel_rfl
  v46 := fun w => by kernel_rfl
  t50 := by kernel_rfl
  a50 := fun w => by kernel_rfl
  z50 := fun w => by kernel_rfl
  v50 := fun w => by kernel_rfl
  t53 := by kernel_rfl
  a53 := fun w => by kernel_rfl
  z53 := fun w => by kernel_rfl
  v53 := fun w => by kernel_rfl
  t55 := by kernel_rfl
  a55 := fun w => by kernel_rfl
  z55 := fun w => by kernel_rfl
  v55 := fun w => by kernel_rfl
  t66 := by kernel_rfl
  a66 := fun w => by kernel_rfl
  z66 := fun w => by kernel_rfl
  v66 := fun w => by kernel_rfl
  t70 := by kernel_rfl
  a70 := fun w => by kernel_rfl
  z70 := fun w => by kernel_rfl
  v70 := fun w => by kernel_rfl
  t76 := by kernel_rfl
  a76 := fun w => by kernel_rfl
  z76 := fun w => by kernel_rfl
  v76 := fun w => by kernel_rfl
  t77 := by kernel_rfl
  a77 := fun w => by kernel_rfl
  z77 := fun w => by kernel_rfl
  v77 := fun w => by kernel_rfl

/-- A letter with its turn, its four cells. -/
structure PC where
  fr : Int
  to : Int
  a : Option Addr
  n : Nat
  c : Nat
  t : Nat
instance : Inhabited PC := ⟨⟨0, 0, none, 0, 0, 0⟩⟩
def encP (x : PC) : List Value := [.int .i64 x.fr, .int .i64 x.to, .slice x.a x.n x.c, .int .i64 (x.t : Int)]
def cfP (x y : PC) : Int := cmpI (x.t : Int) (y.t : Int)
theorem ltP (x y : PC) : ltOf cfP x y = decide (x.t < y.t) := by
  unfold ltOf cfP cmpI
  by_cases h1 : (x.t : Int) < y.t
  · have : x.t < y.t := by omega
    simp [this]
  · have n1 : ¬ x.t < y.t := by omega
    by_cases h2 : (y.t : Int) < x.t <;> simp [h1, h2, n1]
theorem swoP : SWO (ltOf cfP) where
  irrefl x := by rw [ltP]; simp
  trans x y z h1 h2 := by rw [ltP] at *; simp at *; omega
  ntrans x y z h1 h2 := by rw [ltP] at *; simp at *; omega
theorem oneP : ∀ x : PC, ∀ v ∈ encP x, v.oneCell' = true := fun x v hv => by simp [encP] at hv; rcases hv with rfl | rfl | rfl | rfl <;> rfl
def pcCells (l : List PC) : List Value := l.flatMap encP
theorem pcCells_length : ∀ l : List PC, (pcCells l).length = l.length * 4
  | [] => rfl
  | p :: l => by
    show (encP p ++ pcCells l).length = _
    rw [List.length_append, pcCells_length l]
    simp [encP]
    omega
set_option maxRecDepth 100000 in
theorem closureP (x y : PC) (W : World) : Calls Try.prog 42 #[.agg (encP x).toArray, .agg (encP y).toArray] W fun e w' => e = .returned (.int .i64 (cfP x y)) ∧ ∃ q os', w' = grow (W.drewN q) os' := by
  unfold cfP encP
  generalize (x.t : Int) = a
  generalize (y.t : Int) = b
  have HC := fun V => compare_any a b V
  generalize cmpI a b = r at *
  go_enter Try.func42, Try.ntmps42
  go_wp2_with (go_at_call 43; refine (HC _).mono ?_; rintro e w1 ⟨rfl, rfl⟩)
  go_ret
  exact ⟨rfl, 0, _, by rw [alloc_eq_grow, alloc_eq_grow, grow_grow]; rfl⟩
theorem cmpLaysP (blk off size : Nat) (w : World) : CmpLays Try.prog 42 #[] encP 4 cfP blk off size w := fun _ _ _ _ x y => closureP x y _
theorem egP : ∀ args w, (callFunc 42 args).run Try.prog w = .ok (.enter 42 args) w := enters_of Try.func42 (by kernel_rfl) rfl
end Go.Proofs.Ytccmehbdnnelhaa

namespace Go.Proofs.Ytccmehbdnnelhaa
open Go.Shelf Go.RowKit Go.Lib Go.Sort
attribute [local go_sem] Oper.semAt_some
set_option linter.unusedVariables false
theorem flatP_at : ∀ (l : List PC) (j : Nat) (hj : j < l.length * 4), (pcCells l)[j]? = some ((encP l.toArray[j / 4]!)[j % 4]!)
  | [], j, hj => by simp at hj
  | p :: l, j, hj => by
    have e : (p :: l).toArray[j / 4]! = (p :: l)[j / 4]'(by omega) := by
      rw [getElem!_pos (p :: l).toArray (j / 4) (by simp at hj ⊢; omega)]; rfl
    rw [e]
    by_cases h : j < 4
    · have e0 : j / 4 = 0 := by omega
      have e1 : j % 4 = j := by omega
      have e2 : (p :: l)[j / 4]'(by omega) = p := by simp [e0]
      rw [e2, e1]
      show (encP p ++ pcCells l)[j]? = _
      rw [List.getElem?_append_left (by simp [encP]; omega)]
      match j, h with
      | 0, _ => rfl
      | 1, _ => rfl
      | 2, _ => rfl
      | 3, _ => rfl
    · have hj' : j - 4 < l.length * 4 := by simp at hj; omega
      have ih := flatP_at l (j - 4) hj'
      have e3 : l.toArray[(j - 4) / 4]! = l[(j - 4) / 4]'(by omega) := by
        rw [getElem!_pos l.toArray ((j - 4) / 4) (by simp; omega)]; rfl
      rw [e3] at ih
      have e0 : j / 4 = (j - 4) / 4 + 1 := by omega
      have e1 : j % 4 = (j - 4) % 4 := by omega
      have e2 : (p :: l)[j / 4]'(by omega) = l[(j - 4) / 4]'(by omega) := by
        simp only [e0, List.getElem_cons_succ]
      rw [e2, e1]
      show (encP p ++ pcCells l)[j]? = _
      rw [List.getElem?_append_right (by simp [encP]; omega)]
      exact ih
theorem holdsP {w : World} {g : Nat} {cur : Array Value} {T : TypeId} {l : List PC} (h : w.heap[g]? = some (.cells cur T (0, 0))) (ht : cur.toList.take (l.length * 4) = pcCells l) : HoldsK encP 4 w g 0 l.toArray := by
  intro j hj
  have hj' : j < l.length * 4 := by simpa using hj
  have e : cur[j]? = some ((encP l.toArray[j / 4]!)[j % 4]!) := by
    have := flatP_at l j hj'
    rw [← ht, List.getElem?_take, if_pos hj'] at this
    simpa using this
  refine ⟨?_, by simp [World.frozen?, h]⟩
  rw [get_flatK _ _ _ _ (by simpa using hj'), Nat.zero_add]
  simp only [World.cell?, h]
  exact e
theorem swkFormP {w W : World} {g : Nat} {d : Array PC} {cur : Array Value} {T : TypeId} (S : SWK encP 4 w g 0 d W) (h : w.heap[g]? = some (.cells cur T (0, 0))) : (∃ cur', W.heap[g]? = some (.cells cur' T (0, 0)) ∧ cur'.size = cur.size) ∧ (∀ K, K < w.heap.size → K ≠ g → W.heap[K]? = w.heap[K]?) ∧ w.heap.size ≤ W.heap.size ∧ W.os = w.os ∧ W.tape = w.tape ∧ W.output = w.output := by
  obtain ⟨n, os, rfl⟩ := S
  have hg : g < w.heap.size := (Array.getElem?_eq_some_iff.1 h).1
  have hz : ∀ f, (mapBlock (Sort.ahead w n) g f).heap.size = w.heap.size := fun f => by simp [mapBlock, Sort.ahead]
  refine ⟨⟨putCells id 0 (flatK encP 4 d) cur, ?_, by simp [putCells]⟩, fun K hK hn => ?_, ?_, rfl, rfl, rfl⟩
  · show ((mapBlock (Sort.ahead w n) g _).heap ++ os)[g]? = _
    rw [Array.getElem?_append_left (by rw [hz]; exact hg)]
    show (w.heap.modify g _)[g]? = _
    rw [Array.getElem?_modify, if_pos rfl, h]
    rfl
  · show ((mapBlock (Sort.ahead w n) g _).heap ++ os)[K]? = _
    rw [Array.getElem?_append_left (by rw [hz]; exact hK)]
    show (w.heap.modify g _)[K]? = _
    rw [Array.getElem?_modify, if_neg (fun e => hn e.symm)]
  · show w.heap.size ≤ ((mapBlock (Sort.ahead w n) g _).heap ++ os).size
    rw [Array.size_append, hz]
    omega
theorem swkOwnP {w W : World} {g base cap : Nat} {d : Array PC} {cur : Array Value} {l l' : List PC} (S : SWK encP 4 w g 0 d W) (h : w.heap[g]? = some (.cells cur 69 (0, 0))) (hH : HoldsK encP 4 w g 0 l.toArray) (hd : d.toList = l') (hl : l'.length = l.length) (hb : base ≤ g) (hc : l.length ≤ cap) (hm : cap ≤ maxLen) (hcs : cur.size = cap * 4) :
    W.ownsRow base 69 4 (.slice (some ⟨g, 0, none⟩) l.length cap) l.length (pcCells l') := by
  have hg : g < w.heap.size := (Array.getElem?_eq_some_iff.1 h).1
  obtain ⟨⟨cur', h1, h2⟩, _⟩ := swkFormP S h
  have hH' := S.holds hg hH (by have := congrArg List.length hd; simp at this ⊢; omega)
  refine ⟨by rw [pcCells_length, hl], .inr ⟨g, cap, cur', rfl, hb, h1, hc, hm, by rw [h2, hcs], ?_⟩⟩
  refine List.ext_getElem? fun j => ?_
  have hds : d.size = l.length := by have := congrArg List.length hd; simp at this; omega
  rw [List.getElem?_take]
  by_cases hj : j < l.length * 4
  · rw [if_pos hj]
    obtain ⟨c1, _⟩ := hH' j (by simpa [hds] using hj)
    rw [get_flatK _ _ _ _ (by rw [hds]; exact hj), Nat.zero_add] at c1
    have e2 := flatP_at l' j (by rw [hl]; exact hj)
    rw [← hd, Array.toArray_toList] at e2
    rw [← hd, e2]
    simp only [World.cell?, h1, id] at c1
    simpa using c1
  · rw [if_neg hj]
    exact (List.getElem?_eq_none (by rw [pcCells_length, hl]; omega)).symm
/-- Two lists of the same, both sorted by turns that are all different, are one. -/
theorem sorted_same {A B : List PC} (hp : A.Perm B) (hA : A.Pairwise fun x y => ¬ y.t < x.t) (hB : B.Pairwise fun x y => x.t < y.t) : A = B := by
  induction B generalizing A with
  | nil => exact hp.eq_nil
  | cons b B ih =>
    match A, hp, hA with
    | [], hp, _ => exact absurd hp.symm.eq_nil (by simp)
    | a :: A, hp, hA =>
      have hab : a = b := by
        have ha : a ∈ b :: B := hp.subset List.mem_cons_self
        rcases List.mem_cons.1 ha with e | h1
        · exact e
        · have h2 := (List.pairwise_cons.1 hB).1 a h1
          have hb : b ∈ a :: A := hp.symm.subset List.mem_cons_self
          rcases List.mem_cons.1 hb with e | h3
          · exact e.symm
          · have := (List.pairwise_cons.1 hA).1 b h3
            omega
      subst hab
      rw [ih (List.Perm.cons_inv hp) (List.pairwise_cons.1 hA).2 (List.pairwise_cons.1 hB).2]
/-- The sort: whatever order the letters lay in, they lie in the order of their turns. -/
theorem sortP_any {w : World} {base : Nat} {v : Value} {M L : List PC} (h : w.ownsRow base 69 4 v M.length (pcCells M)) (hp : M.Perm L) (hr : L.Pairwise fun x y => x.t < y.t) (hz : M.length ≤ 1000000) :
    Calls Try.prog 41 #[v, .func (.func 42) #[] #[]] w fun e w' => e = .returned (.tuple #[]) ∧ w'.ownsRow base 69 4 v L.length (pcCells L) ∧ w.grownBy w' v.ownBlock := by
  have hlen := hp.length_eq
  rcases h.2 with ⟨ev, e⟩ | ⟨g, cap, cur, rfl, hb, hg, hnc, hcm, hcs, ht⟩
  · obtain rfl : M = [] := List.eq_nil_of_length_eq_zero e
    obtain rfl : L = [] := hp.symm.eq_nil
    subst ev
    refine (AnyF.slices_SortFunc_none laysN none 0 _ w).mono ?_
    rintro e w' ⟨rfl, rfl⟩
    exact ⟨rfl, h, ⟨rfl, rfl, rfl, Nat.le_refl _, fun _ _ _ => rfl⟩⟩
  · have hH := holdsP hg ht
    have hgl : g < w.heap.size := (Array.getElem?_eq_some_iff.1 hg).1
    have hc := AnyQ.slices_SortFunc laysN 4 (fun w => by kernel_rfl) (fun w => by kernel_rfl) encP (fun _ => rfl) oneP cfP swoP 42 #[] g 0 cap M.toArray w egP (cmpLaysP g 0 M.toArray.size w) hH hgl (by simp; omega)
    rw [show M.toArray.size = M.length by simp] at hc
    refine Calls.mono hc ?_
    rintro e w' ⟨rfl, d', n, os, hpm, hsr, hw⟩
    have S : SWK encP 4 w g 0 d' w' := ⟨n, os, hw⟩
    obtain ⟨p1, _, p3⟩ := hpm
    have hsz : d'.size = M.length := by rw [p1]; simp
    have hpp : d'.toList.Perm M := by
      have := p3
      rw [show d'.extract 0 M.length = d' by rw [← hsz]; simp, show M.toArray.extract 0 M.length = M.toArray by simp] at this
      simpa using this
    have hd : d'.toList = L := by
      refine sorted_same (hpp.trans hp) ?_ hr
      rw [List.pairwise_iff_getElem]
      intro i j hi hj hij
      have hi' : i < d'.size := by simpa using hi
      have hj' : j < d'.size := by simpa using hj
      have := hsr i j (Nat.zero_le _) hij (by omega)
      rw [ltP, getElem!_pos d' j hj', getElem!_pos d' i hi'] at this
      simpa using this
    obtain ⟨_, f2, f3, f4, f5, f6⟩ := swkFormP S hg
    have hO := swkOwnP S hg hH hd (by omega) hb hnc hcm hcs
    rw [hlen] at hO ⊢
    exact ⟨rfl, hO, f4, f5, f6, f3, fun k hk hn => f2 k hk (fun e => hn (by rw [e]; rfl))⟩
end Go.Proofs.Ytccmehbdnnelhaa

namespace Go.Proofs.Ytccmehbdnnelhaa
open Go.RowKit Go.Maps
attribute [local go_sem] Oper.semAt_some
set_option linter.unusedVariables false
theorem gone_perm {left : Int → Bool} {k : Int} (hk : left k = true) : ∀ L : List Post, (gone L (fun z => left z && !decide (z = k))).Perm (gone L left ++ box L k)
  | [] => List.Perm.refl _
  | p :: L => by
    have ih := gone_perm hk L
    unfold gone box at ih ⊢
    by_cases hp : p.to = k
    · have e1 : left p.to = true := by rw [hp]; exact hk
      simp only [List.filter_cons, hp, decide_true, Bool.not_true, Bool.and_false, Bool.not_false, if_true, Bool.false_eq_true, if_false, hk]
      exact (List.Perm.cons p ih).trans List.perm_middle.symm
    · have e2 : decide (p.to = k) = false := by simp [hp]
      cases hl : left p.to
      · simp only [List.filter_cons, hl, e2, Bool.not_false, Bool.and_true, if_true, Bool.false_eq_true, if_false, List.cons_append]
        exact List.Perm.cons p ih
      · simp only [List.filter_cons, hl, e2, Bool.not_false, Bool.and_true, Bool.not_true, Bool.false_eq_true, if_false]
        exact ih
def Post.pc (p : Post) : PC := match p.dv with | .slice a n c => ⟨p.fr, p.to, a, n, c, p.t⟩ | _ => ⟨p.fr, p.to, none, 0, 0, p.t⟩
theorem Post.pc_t (p : Post) : p.pc.t = p.t := by unfold Post.pc; split <;> rfl
def Sliced (M : List Post) : Prop := ∀ p ∈ M, ∃ a n c, p.dv = .slice a n c
theorem pc_cells : ∀ {M : List Post}, Sliced M → cells4 M = pcCells (M.map Post.pc)
  | [], _ => rfl
  | p :: M, h => by
    have ih := pc_cells (M := M) (fun q hq => h q (List.mem_cons_of_mem _ hq))
    obtain ⟨a, n, c, e⟩ := h p List.mem_cons_self
    show p.cells ++ cells4 M = encP p.pc ++ pcCells (M.map Post.pc)
    rw [ih]
    congr 1
    unfold Post.cells Post.pc encP
    rw [e]
theorem pc_rising {L : List Post} (h : Rising L) : (L.map Post.pc).Pairwise fun x y => x.t < y.t := by
  rw [List.pairwise_map]
  exact h.imp fun hh => by rw [Post.pc_t, Post.pc_t]; exact hh
theorem sortL_any {w : World} {base : Nat} {v : Value} {M L : List Post} (h : w.ownsRow base 69 4 v M.length (cells4 M)) (hs : Sliced M) (hp : M.Perm L) (hr : Rising L) (hz : M.length ≤ 1000000) :
    Calls Try.prog 41 #[v, .func (.func 42) #[] #[]] w fun e w' => e = .returned (.tuple #[]) ∧ w'.ownsRow base 69 4 v L.length (cells4 L) ∧ w.grownBy w' v.ownBlock := by
  have hsL : Sliced L := fun p hp' => hs p (hp.symm.subset hp')
  have q := sortP_any (M := M.map Post.pc) (L := L.map Post.pc) (v := v) (w := w) (base := base) (by rw [← pc_cells hs, List.length_map]; exact h) (hp.map _) (pc_rising hr) (by rw [List.length_map]; exact hz)
  rw [← pc_cells hsL, List.length_map] at q
  exact q
theorem BoxRange.grown {w w' : World} {B r n : Nat} {bx : Int → Value} {left : Int → Bool} {cnt : Nat} {row : Option Nat} (h : BoxRange w B r n bx left cnt) (g : w.grownBy w' row) (hb : some B ≠ row) (hr : some r ≠ row) : BoxRange w' B r n bx left cnt := by
  obtain ⟨D, lf, hr', q⟩ := h
  exact ⟨D, lf, hr'.kept g hb hr, q⟩
theorem BoxRange.lts {w : World} {B r n : Nat} {bx : Int → Value} {left : Int → Bool} {cnt : Nat} (h : BoxRange w B r n bx left cnt) : B < w.heap.size ∧ r < w.heap.size := by
  obtain ⟨D, lf, hr, _⟩ := h
  exact ⟨hr.owns.lt, hr.lt⟩
theorem NetIn.sliced {w : World} {base N B T : Nat} {bx : Int → Value} {L : List Post} (h : NetIn w base N B bx L T) : Sliced L := fun p hp => by
  obtain ⟨a, c, e, _⟩ := h.dat p hp
  exact ⟨a, _, c, e⟩
/-- One box more behind those that came. -/
theorem box_more {w wr : World} {base N B T : Nat} {bx : Int → Value} {L M : List Post} (h : NetIn w base N B bx L T) (b : Below w.heap.size w wr) {lv : Value} (ho : wr.ownsRow w.heap.size 69 4 lv M.length (cells4 M)) (k : Int) (hk : box L k ≠ []) (hm : M.length ≤ 10000) (hM : Sliced M) :
    ∃ a n c v2 w2, bx k = .slice a n c ∧ (Builtin.append_ #[66, 66] 66 #[lv, .slice a n c]).run Try.prog wr = .ok v2 w2 ∧ w2.ownsRow w.heap.size 69 4 v2 (M ++ box L k).length (cells4 (M ++ box L k)) ∧ wr.grownBy w2 lv.ownBlock := by
  obtain ⟨i0, hi0, hz0, hz1, hz2⟩ := info_parts infoPo
  have hl : 0 < (box L k).length := List.length_pos_iff.2 hk
  have hrow := owns_kept (h.row k) (fun g e => b.block g (row_lt4 (h.row k) e).2)
  obtain ⟨g, c, e, _, _⟩ := (h.row k).form hl
  rw [e] at hrow
  have len10 := Nat.le_trans (box_len L k) h.len
  obtain ⟨v2, w2, r2, o2, g2, _⟩ := run_append_own (P := Try.prog) wr w.heap.size 66 66 69 i0 _ 4 48 Try.underlying66 hi0 hz0 hz1 hz2 rfl (by omega) lv M.length (cells4 M) ho
    ⟨g, 0, none⟩ (box L k).length c (cells4 (box L k)) (cells4_length _) (fun j u hu => by
      have hj : j < (box L k).length * 4 := by rw [← cells4_length]; exact (List.getElem?_eq_some_iff.1 hu).1
      rw [addr_add, Nat.zero_add]
      exact (hrow.cellAt j (by omega)).trans hu) (fun u hu => by
      unfold cells4 at hu
      obtain ⟨p, hp, hq⟩ := List.mem_flatMap.1 hu
      obtain ⟨a', n', c', ep⟩ := h.sliced p (mem_box.1 hp).1
      simp only [Post.cells, List.mem_cons, List.not_mem_nil, or_false] at hq
      rcases hq with rfl | rfl | rfl | rfl
      · rfl
      · rfl
      · rw [ep]; rfl
      · rfl) (by unfold maxLen; omega) (by omega) b.size
  exact ⟨_, _, _, v2, w2, e, r2, by rw [cells4_append, List.length_append]; exact o2, g2⟩
set_option maxRecDepth 100000 in
set_option maxHeartbeats 4000000 in
theorem sorted_in {w : World} {base N B T : Nat} {bx : Int → Value} {L : List Post} (h : NetIn w base N B bx L T) : Calls Try.prog 35 #[.pointer (some ⟨N, 0, none⟩)] w fun e w' => ∃ v, e = .returned v ∧ w'.ownsRow w.heap.size 69 4 v L.length (cells4 L) ∧ Below w.heap.size w w' := by
  have H : Hid (NetIn w base N B bx L T) := h
  have c0 := h.c0
  obtain ⟨w1, cnt, hrun, hR, hg, hs⟩ := h.hM.range
  have R1 : Hid (BoxRange w1 B w.heap.size T bx (fun k => decide (box L k ≠ [])) cnt) := hR
  have B1 : Hid (Below w.heap.size w w1) := (Below.refl _ w).grown hg (Nat.le_refl _) (fun j e => by cases e)
  have LB : Hid (B < w.heap.size) := h.hM.lt
  obtain ⟨r, er⟩ : ∃ r, w.heap.size = r := ⟨_, rfl⟩
  rw [er] at hrun R1
  have ER : Hid (w.heap.size = r) := er
  clear h hR hg hs er
  go_enter Try.func35, Try.ntmps35
  go_wp2
  go_loopw [3] (fun lx wr => ∃ (lv : Value) (left : Int → Bool) (cnt : Nat) (M : List Post), lv = lx ∧ Hid (wr.ownsRow w.heap.size 69 4 lv M.length (cells4 M)) ∧ Hid (M.Perm (gone L left)) ∧ Hid (∀ k, left k = true → box L k ≠ []) ∧ Hid (BoxRange wr B r T bx left cnt) ∧ Hid (Below w.heap.size w wr)) (fun _ wr => wr.rangeLeft B r)
  case atStart => exact ⟨_, _, cnt, [], rfl, World.ownsRow_nil _ _ _ _, (by rw [H.out.start]; exact List.Perm.refl _), (fun k hk => of_decide_eq_true hk), R1.out, B1.out⟩
  case round =>
    obtain ⟨lv, left, cnt2, M, rfl, ho, hp, hne, hR, hB⟩ := hrel
    have hMs : Sliced M := fun p hp' => H.out.sliced p ((List.filter_sublist (p := fun p : Post => !left p.to)).subset (hp.out.subset hp'))
    have hMl : M.length ≤ 10000 := by
      have := hp.out.length_eq
      have le1 : (gone L left).length ≤ L.length := List.length_filter_le _ _
      have := H.out.len
      omega
    rcases hR.out.next 0 with ⟨_, hl0, hrn⟩ | ⟨k, w2, cnt3, hkw, hlk, hrn, hR2, hlt, hg2, hs2, hen⟩
    · have eL : gone L left = L := gone_all hl0
      have hpL : M.Perm L := by have := hp.out; rwa [eL] at this
      have HS := sortL_any ho.out hMs hpL H.out.ris (by omega)
      have ho2 := ho.out
      clear hl0 eL hMs hMl hp
      go_wp2_with fail
      refine HS.mono ?_
      rintro e w3 ⟨rfl, o3, g3⟩
      have FIN : Hid (w3.ownsRow w.heap.size 69 4 lv L.length (cells4 L) ∧ Below w.heap.size w w3) := ⟨o3, hB.out.grown g3 hB.out.size (fun j e => (row_lt4 ho2 e).1)⟩
      clear HS o3 g3 ho2
      go_wp2_with fail
      go_ret
      exact ⟨_, rfl, FIN.out.1, FIN.out.2⟩
    · have hb2 : Below w.heap.size w w2 := hB.out.grown hg2 hB.out.size (fun j e => by cases e; rw [ER.out]; exact Nat.le_refl _)
      have ho2 : w2.ownsRow w.heap.size 69 4 lv M.length (cells4 M) := owns_kept ho.out (fun g e => hg2.block g (row_lt4 ho.out e).2 (fun eq => by
        obtain ⟨cur, hc⟩ := row_kind ho.out e
        obtain ⟨D, lf, hr, _⟩ := hR.out
        obtain ⟨es, clock, since, seen, c0, hb, F, hs, hD, hr', rest⟩ := hr
        rw [Option.some.inj eq, hr'] at hc
        cases hc))
      obtain ⟨a, n, c, v3, w3, ebx, r3, o3, g3⟩ := box_more H.out hb2 ho2 k (hne.out k hlk) hMl hMs
      have ne1 : some B ≠ lv.ownBlock := fun eq => by
        have := (row_lt4 ho2 eq.symm).1
        have := LB.out
        omega
      have ne2 : some r ≠ lv.ownBlock := fun eq => by
        obtain ⟨cur, hc⟩ := row_kind ho2 eq.symm
        obtain ⟨D, lf, hr, _⟩ := hR2
        obtain ⟨es, clock, since, seen, c0, hb, F, hs, hD, hr', rest⟩ := hr
        rw [hr'] at hc
        cases hc
      have R3 : Hid (BoxRange w3 B r T bx (fun x => left x && !decide (x = k)) cnt3) := hR2.grown g3 ne1 ne2
      have B3 : Hid (Below w.heap.size w w3) := hb2.grown g3 hb2.size (fun j e => (row_lt4 ho2 e).1)
      have P3 : Hid ((M ++ box L k).Perm (gone L (fun x => left x && !decide (x = k)))) := (hp.out.append_right _).trans (gone_perm hlk L).symm
      have N3 : Hid (∀ x, (left x && !decide (x = k)) = true → box L x ≠ []) := fun x hx => hne.out x (by simp only [Bool.and_eq_true] at hx; exact hx.1)
      have O3 : Hid (w3.ownsRow w.heap.size 69 4 v3 (M ++ box L k).length (cells4 (M ++ box L k))) := o3
      have HLT : Hid (cnt3 < cnt2) := hlt
      have HRun : Hid _ := r3
      have HLE : Hid (wr.rangeLeft B r = cnt2) := hR.out.left_eq
      rw [ebx] at hrn hen
      clear ebx r3 o3 g3 ne1 ne2 hb2 ho2 hR2 hlt hg2 hs2 hkw hlk hMs hMl ho hp hne hR hB
      go_wp2_with (first | (at_builtin; refine wpList_append_known rfl (.tmp 17) (.tmp 18) 66 66 rfl _ _ rfl rfl _ _ HRun.out ?_))
      go_roundw
      case rel => exact ⟨_, _, cnt3, M ++ box L k, rfl, O3.out, P3.out, N3.out, R3.out, B3.out⟩
      case measure =>
        show w3.rangeLeft B r < wr.rangeLeft B r
        rw [R3.out.left_eq, HLE.out]
        exact HLT.out
end Go.Proofs.Ytccmehbdnnelhaa
