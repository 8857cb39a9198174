/- Package client: slices.Clone of calls; Open answers a function over the calls as they are now. -/
import Derived.Test.YtaakdnbaljoehaaKAllF
import Derived.Laws.AppendOwnNone
import Derived.Test.YtaakdnbaljoehaaRanges
namespace Go.Proofs.Ytaakdnbaljoehaa
open Go.RowKit Cod
attribute [local go_sem] Oper.semAt_some
set_option linter.unusedVariables false

theorem one_calls (l : List CallV) : ∀ u ∈ flat CallV.cells l, u.oneCell' = true := fun u hu => by
  obtain ⟨p, hp, hu⟩ := List.mem_flatMap.1 hu
  exact one_call p u hu
/-- append([]call{}, l...) -/
theorem run_append_callsE (w : World) (x : Addr) (la ca : Nat) (A : List CallV) (hA : RecsAt CallV.cells 11 w (some x) la A) (hb : la ≤ 2000) :
    ∃ v' w', (Builtin.append_ #[75, 75] 75 #[.slice (some ⟨w.heap.size, 0, none⟩) 0 0, .slice (some x) la ca]).run Try.prog (w.alloc (.cells #[] 74)) = .ok v' w' ∧ w'.ownsRow w.heap.size 74 11 v' la (flat CallV.cells A) ∧ Below w.heap.size w w' := by
  obtain ⟨i0, hi, hz0, hz1, hz2⟩ := info_parts infoCall
  have h0 : (w.alloc (.cells #[] 74)).ownsRow w.heap.size 74 11 (.slice (some ⟨w.heap.size, 0, none⟩) 0 0) 0 [] := ⟨rfl, .inr ⟨w.heap.size, 0, #[], rfl, Nat.le_refl _, heap_alloc_new w _, Nat.le_refl _, by unfold maxLen; omega, rfl, rfl⟩⟩
  have bA : Below w.heap.size w (w.alloc (.cells #[] 74)) := (Below.refl _ w).alloc (Nat.le_refl _) _
  have hA2 := hA.below bA
  obtain ⟨v', w', hr, h1, h2, _⟩ := run_append_own (P := Try.prog) (w.alloc (.cells #[] 74)) w.heap.size 75 75 74 i0 _ 11 128 Try.underlying75 hi hz0 hz1 hz2 rfl (by omega) _ 0 [] h0 x la ca (flat CallV.cells A) (by rw [flat_length CallV.cells11, hA.1]) (fun j u hj => by
      have hlen := (List.getElem?_eq_some_iff.1 hj).1
      rw [flat_length CallV.cells11] at hlen
      have hi : j / 11 < A.length := by omega
      obtain ⟨b, off, e, hc⟩ := hA2.at hi
      cases e
      have q := flat_at (enc := CallV.cells) CallV.cells11 A (j / 11) hi (j % 11) (by omega)
      rw [show j / 11 * 11 + j % 11 = j by omega, hj] at q
      have := hc (j % 11) u q.symm
      rw [Addr.add_lit]
      rw [show off + j / 11 * 11 + j % 11 = off + j by omega] at this
      exact this) (one_calls A) (by unfold maxLen; omega) (by omega) (by simp)
  exact ⟨v', w', hr, by simpa using h1, bA.grown h2 bA.size (fun k e => by cases e; exact Nat.le_refl _)⟩
set_option maxHeartbeats 400000 in
theorem cloneC_any (a : Option Addr) (len cap : Nat) (l : List CallV) (w : World) (h : RecsAt CallV.cells 11 w a len l) (hnil : a = none → cap = 0) (hm : len ≤ 2000) :
    Calls Try.prog 35 #[.slice a len cap] w fun e w' => ∃ v, e = .returned v ∧ w'.ownsRow w.heap.size 74 11 v len (flat CallV.cells l) ∧ Below w.heap.size w w' := by
  have qT : ∀ (w : World) (a : Option Addr) (n c n' c' : Nat), (binOp .eql 75 (.slice a n c) (.slice none n' c')).run Try.prog w = .ok (.bool a.isNone) w := fun w a n c n' c' => Lib.run_eql_slice_nil w _ _ a n c n' c' Try.underlying75
  cases a with
  | none =>
    obtain ⟨h1, h3⟩ := h
    have h0 : len = 0 := by
      rcases h3 with h3 | ⟨b, off, h, _⟩
      · exact h3
      · cases h
    subst h0
    obtain rfl : l = [] := List.eq_nil_of_length_eq_zero h1.symm
    obtain rfl := hnil rfl
    clear h1 h3 hnil hm
    go_enter Try.func35, Try.ntmps35
    go_wp2
    go_ret
    exact ⟨_, rfl, World.ownsRow_nil _ _ _ _, Below.refl _ _⟩
  | some x =>
    obtain ⟨v', w', hr, hown, hb⟩ := run_append_callsE w x len cap l h hm
    have HR : Hid _ := hr
    have HB : Hid _ := hb
    have HO : Hid _ := hown
    clear h hnil hm hr hb hown
    go_enter Try.func35, Try.ntmps35
    go_wp2_with (at_builtin; refine wpList_append_known rfl (.tmp 5) (.tmp 6) 75 75 rfl _ _ rfl rfl _ _ HR.out ?_)
    go_ret
    exact ⟨_, rfl, HO.out, HB.out⟩
set_option maxHeartbeats 400000 in
/-- Open: a function, its box, and the calls that it goes over, in memory of their own. -/
theorem desk_open {w : World} {base P : Nat} {L : List CallV} (h : DeskIn w base P L) : Calls Try.prog 8 #[.pointer (some ⟨P, 0, none⟩)] w fun e w' => ∃ b a c, e = .returned (.func (.func 36) #[] #[.pointer (some ⟨b, 0, none⟩)]) ∧ w.heap.size ≤ b ∧ w'.heap[b]? = some (.cells #[.slice a L.length c] 75 (0, 0)) ∧ w'.ownsRow w.heap.size 74 11 (.slice a L.length c) L.length (flat CallV.cells L) ∧ Below w.heap.size w w' := by
  obtain ⟨v, hv, ho⟩ := h.ex
  obtain ⟨a, c, rfl, hr, hn⟩ := recs_owned CallV.cells11 ho rfl
  have c0 : w.cell? ⟨P, 0, none⟩ = some (.slice a L.length c) := by simp [World.cell?, hv]
  have HC : Hid _ := cloneC_any a L.length c L w hr hn h.few
  clear hv ho h hr hn
  obtain ⟨n, en⟩ : ∃ n, L.length = n := ⟨_, rfl⟩
  rw [en] at HC c0 ⊢
  clear en
  go_enter Try.func8, Try.ntmps8
  go_wp2_with fail
  refine Calls.mono HC.out ?_
  clear HC c0
  rintro e w2 ⟨v2, rfl, o2, b2⟩
  obtain ⟨a2, c2, rfl, _, _⟩ := row_form' o2
  have O2 : Hid _ := o2
  have B2 : Hid _ := b2
  clear o2 b2
  have b3 : Hid (Below w2.heap.size w2 (w2.alloc (.cells #[.slice a2 n c2] 75))) := (Below.refl _ w2).alloc (Nat.le_refl _) _
  have g3 : Hid _ := heap_alloc_new w2 (.cells #[.slice a2 n c2] 75)
  go_wp2
  go_ret
  exact ⟨w2.heap.size, a2, c2, rfl, B2.out.size, g3.out, owns_kept O2.out (fun g e => b3.out.block g (row_kind O2.out e).2.1), B2.out.trans (b3.out.mono B2.out.size)⟩
end Go.Proofs.Ytaakdnbaljoehaa

namespace Go.Proofs.Ytaakdnbaljoehaa
open Go.RowKit Go.Shelf Cod
set_option linter.unusedVariables false
/-- The calls that were not heard, with their numbers. -/
def openFrom : Nat → List CallV → List (Nat × OpD)
  | _, [] => []
  | i, c :: r => (if c.heard = true then [] else [(i, c.op)]) ++ openFrom (i + 1) r
theorem openFrom_append : ∀ (i : Nat) (A B : List CallV), openFrom i (A ++ B) = openFrom i A ++ openFrom (i + A.length) B
  | i, [], B => by simp [openFrom]
  | i, c :: A, B => by
    rw [List.cons_append, openFrom, openFrom, openFrom_append (i + 1) A B, List.append_assoc, List.length_cons, show i + 1 + A.length = i + (A.length + 1) by omega]
theorem openFrom_take {L : List CallV} {k : Nat} (hk : k < L.length) : openFrom 0 (L.take (k + 1)) = openFrom 0 (L.take k) ++ (if L[k].heard = true then [] else [(k, L[k].op)]) := by
  rw [List.take_succ_eq_append_getElem hk, openFrom_append]
  have : (L.take k).length = k := by rw [List.length_take]; omega
  rw [this]
  simp [openFrom]
theorem openFrom_get {L : List CallV} {k : Nat} (hk : k < L.length) (hh : L[k].heard = false) : (openFrom 0 L)[(openFrom 0 (L.take k)).length]? = some (k, L[k].op) := by
  have e : L = L.take (k + 1) ++ L.drop (k + 1) := (List.take_append_drop _ _).symm
  have h2 : openFrom 0 L = openFrom 0 (L.take (k + 1)) ++ openFrom (0 + (L.take (k + 1)).length) (L.drop (k + 1)) := by
    conv => lhs; rw [e]
    rw [openFrom_append]
  rw [h2, openFrom_take hk, hh]
  simp
/-- What a round keeps: the block of the calls. -/
def KcO (a : Option Addr) (A B : World) : Prop := ∀ x, a = some x → ∀ cs t z, A.heap[x.block]? = some (.cells cs t z) → B.heap[x.block]? = some (.cells cs t z)
theorem KcO.tr {a : Option Addr} {A B C : World} (h : KcO a A B) (k : KcO a B C) : KcO a A C := fun x e cs t z q => k x e cs t z (h x e cs t z q)
theorem KcO.bk {a : Option Addr} (W : World) (l : Nat) (o o' : Obj) (h1 : W.heap[l]? = some o) (h2 : o.isCells = false) : KcO a W (W.putObj l o') := fun x e cs t z q => by
  have hne : x.block ≠ l := fun e2 => by rw [e2, h1] at q; cases q; simp [Obj.isCells] at h2
  have g := grownBy_putObj' W l o'
  rw [g.block x.block (Array.getElem?_eq_some_iff.1 q).1 (fun e => hne (by cases e; rfl))]
  exact q
theorem KcO.own {a : Option Addr} {A B : World} (h : KcO a A B) {base n c : Nat} {t : TypeId} {s : Nat} {xs : List Value} (o : A.ownsRow base t s (.slice a n c) n xs) : B.ownsRow base t s (.slice a n c) n xs :=
  owns_kept o (fun g e => by
    obtain ⟨_, _, cur, hc⟩ := row_kind o e
    cases a with
    | none => simp [Value.ownBlock] at e
    | some x =>
      have : x.block = g := by simpa [Value.ownBlock] using e
      subst this
      rw [hc]
      exact h x rfl _ _ _ hc)
def encO (x : Nat × OpD) : Array Value := #[.int .i64 (x.1 : Int), x.2.val]
def RO (L : List CallV) (pre : List (Nat × OpD)) (x : Nat × OpD) (_ : World) : Prop := (openFrom 0 L)[pre.length]? = some x
set_option maxRecDepth 100000 in
set_option maxHeartbeats 4000000 in
theorem open2_in (n : Nat) (l Bb base c : Nat) (a : Option Addr) (L : List CallV) (J Jx : List (Nat × OpD) → World → Prop) (W : World) (hJ : LowFrom W.heap.size J)
    (hY : ∀ pre x W1, J pre W1 → RO L pre x W1 → YieldAt Fence.wide (n - 1) Try.prog l (encO x) W1 fun e W' => KeepsFrom W.heap.size W1 W' ∧
      ((e = .returned (.bool true) ∧ J (pre ++ [x]) W' ∧ KcO a W1 W') ∨ (e = .returned (.bool false) ∧ Jx (pre ++ [x]) W')))
    (hbox : W.cell? ⟨Bb, 0, none⟩ = some (.slice a L.length c)) (hrow : W.ownsRow base 74 11 (.slice a L.length c) L.length (flat CallV.cells L)) (hm : L.length ≤ 2000) (h0 : J [] W) :
    CallsIn Fence.wide n Try.prog 36 #[.func (.yield l) #[] #[], .pointer (some ⟨Bb, 0, none⟩)] W fun e W' => (∃ v, e = .returned v) ∧
      ((∃ xs, xs = openFrom 0 L ∧ J xs W') ∨ (∃ pre, True ∧ Jx pre W')) := by
  have HY : Hid (∀ pre x W1, J pre W1 → RO L pre x W1 → YieldAt Fence.wide (n - 1) Try.prog l (encO x) W1 fun e W' => KeepsFrom W.heap.size W1 W' ∧
      ((e = .returned (.bool true) ∧ J (pre ++ [x]) W' ∧ KcO a W1 W') ∨ (e = .returned (.bool false) ∧ Jx (pre ++ [x]) W'))) := hY
  have HJ : Hid (LowFrom W.heap.size J) := hJ
  have HR : Hid (W.ownsRow base 74 11 (.slice a L.length c) L.length (flat CallV.cells L)) := hrow
  have H0 : Hid (J [] W) := h0
  obtain ⟨m, em⟩ : ∃ m, L.length = m := ⟨_, rfl⟩
  have EM : Hid (L.length = m) := em
  rw [em] at hbox HR hm
  clear hY hJ hrow h0 em
  refine callsIn_of_wp Try.func36 rfl trivial ?_ rfl
  simp only [Try.ntmps36, List.size_toArray, List.length_cons, List.length_nil, Nat.reduceAdd, Nat.reduceSub, Array.replicate_succ, Array.replicate_zero, List.push_toArray, List.append_toArray, List.nil_append, List.cons_append]
  gi_wp2_with fail
  gi_loopw [7] (fun y wr => ∃ k : Nat, k ≤ m ∧ y = .int .i64 k ∧ Hid (J (openFrom 0 (L.take k)) wr) ∧ Hid (wr.ownsRow base 74 11 (.slice a m c) m (flat CallV.cells L)) ∧ Hid (W.heap.size ≤ wr.heap.size)) (fun y _ => m - (intOf y).toNat)
  case atStart => exact ⟨0, Nat.zero_le _, rfl, H0, HR, Nat.le_refl _⟩
  case round =>
    obtain ⟨k, hk, rfl, hJs, hO, hsz⟩ := hrel
    clear hbox
    by_cases hlt : k < m
    · have hk2 : k < L.length := by rw [EM.out]; exact hlt
      obtain ⟨a2, c2, e2, hat, _⟩ := recs_owned CallV.cells11 hO.out EM.out.symm
      cases e2
      obtain ⟨b, off, rfl, yy⟩ := hat.at hk2
      clear hat
      have HX : Hid (L[k].heard = false → (openFrom 0 L)[(openFrom 0 (L.take k)).length]? = some (k, L[k].op)) := openFrom_get hk2
      have HT : Hid (openFrom 0 (L.take (k + 1)) = openFrom 0 (L.take k) ++ (if L[k].heard = true then [] else [(k, L[k].op)])) := openFrom_take hk2
      generalize L[k]'hk2 = x at yy HX HT
      obtain ⟨⟨o1, o2, o3, o4, o5, o6, o7⟩, hd, wy, am, rw_, ra, rc⟩ := x
      have y0 := yy 0 _ rfl
      have y1 := yy 1 _ rfl
      have y2 := yy 2 _ rfl
      have y3 := yy 3 _ rfl
      have y4 := yy 4 _ rfl
      have y5 := yy 5 _ rfl
      have y6 := yy 6 _ rfl
      have y7 := yy 7 _ rfl
      have y8 := yy 8 _ rfl
      have y9 := yy 9 _ rfl
      have y10 := yy 10 _ rfl
      clear yy
      rw [Nat.add_zero] at y0
      dsimp only [Nat.add_zero] at y0 y1 y2 y3 y4 y5 y6 y7 y8 y9 y10 HX HT
      generalize rw_.length = rl at y10
      generalize eA : Array.mk [Value.int .i64 o1, .string o2, .string o3, .int .i64 o4, .string o5, .int .i64 o6, .int .i64 o7, .bool hd, .int .i64 wy, .int .i64 am, .slice ra rl rc] = CA
      have bA : Below W.heap.size wr (wr.alloc (.cells CA 74)) := (Below.refl _ wr).alloc hsz.out _
      have bA2 : Below wr.heap.size wr (wr.alloc (.cells CA 74)) := (Below.refl _ wr).alloc (Nat.le_refl _) _
      have hO2 : Hid ((wr.alloc (.cells CA 74)).ownsRow base 74 11 (.slice (some ⟨b, off, none⟩) m c) m (flat CallV.cells L)) := owns_kept hO.out (fun g e => bA2.block g (row_kind hO.out e).2.1)
      have HS : Hid (W.heap.size ≤ (wr.alloc (.cells CA 74)).heap.size) := Nat.le_trans hsz.out bA.size
      have hJ2 : Hid (J (openFrom 0 (L.take k)) (wr.alloc (.cells CA 74))) := HJ.out _ _ _ hJs.out bA
      subst eA
      clear bA bA2 hO hJs
      cases hd with
      | true =>
        gi_wp2
        refine ⟨fun _ e => (by cases e), ?_⟩
        gi_wp2
        go_roundw
        case rel => exact ⟨k + 1, by omega, by go_num, by rw [HT.out, if_pos trivial, List.append_nil]; exact hJ2, hO2, HS⟩
        case measure => simp only [intOf]; omega
      | false =>
        obtain ⟨fn, tmps, assign, body, hyy, hR⟩ := HY.out _ _ _ hJ2.out (HX.out rfl)
        dsimp only [encO, OpD.val] at hyy
        gi_wp2
        refine ⟨wide_room _, hR.mono ?_⟩
        rintro e W3 ⟨hkf, (⟨rfl, hJ3, hk3⟩ | ⟨rfl, hJx3⟩)⟩
        · have HJ3 : Hid _ := hJ3
          have HO3 : Hid _ := hk3.own hO2.out
          have HS3 : Hid (W.heap.size ≤ W3.heap.size) := Nat.le_trans HS.out hkf.size
          clear hJ3 hk3 hkf hR hyy y0 y1 y2 y3 y4 y5 y6 y7 y8 y9 y10
          gi_wp2
          go_roundw
          case rel => exact ⟨k + 1, by omega, by go_num, by rw [HT.out]; exact HJ3, HO3, HS3⟩
          case measure => simp only [intOf]; omega
        · gi_wp2
          (try simp only [Exit.inBlock, Exit.then])
          refine bodyPost_ret (results_none rfl _ _ _) rfl ?_
          exact ⟨⟨_, rfl⟩, .inr ⟨_, trivial, hJx3⟩⟩
    · obtain rfl : k = m := by omega
      gi_wp2
      go_end0
      exact ⟨⟨_, rfl⟩, .inl ⟨openFrom 0 L, rfl, by rw [← EM.out, List.take_length] at hJs; exact hJs.out⟩⟩
theorem open2_seq (n Bb base c : Nat) (a : Option Addr) (L : List CallV) (w : World) (hbox : w.cell? ⟨Bb, 0, none⟩ = some (.slice a L.length c)) (hrow : w.ownsRow base 74 11 (.slice a L.length c) L.length (flat CallV.cells L)) (hm : L.length ≤ 2000) :
    SeqR n Try.prog 36 #[.pointer (some ⟨Bb, 0, none⟩)] encO (KcO a) (RO L) (fun xs => xs = openFrom 0 L) (fun _ => True) w := fun l J Jx W hW hJ hJx hY h0 =>
  open2_in n l Bb base c a L J Jx W hJ hY ((hW.cell (p := ⟨Bb, 0, none⟩) (World.block_lt_of_cell? w _ hbox)).trans hbox) (owns_kept hrow (fun g e => hW.block g (row_kind hrow e).2.1)) hm h0
end Go.Proofs.Ytaakdnbaljoehaa

namespace Go.Proofs.Ytaakdnbaljoehaa
set_option linter.unusedVariables false

/-- Two rows of calls say the same; only where their answers' rows lie is another place. -/
def LikeC (c c' : CallV) : Prop := c.op = c'.op ∧ c.heard = c'.heard ∧ c.why = c'.why ∧ c.amount = c'.amount ∧ c.rows = c'.rows
def LikeL (L L' : List CallV) : Prop := L.length = L'.length ∧ ∀ k (h : k < L.length) (h' : k < L'.length), LikeC L[k] L'[k]
theorem LikeL.nil : LikeL [] [] := ⟨rfl, fun k h _ => by simp at h⟩
theorem LikeL.open {L L' : List CallV} (h : LikeL L L') : ∀ i, openFrom i L = openFrom i L' := by
  induction L generalizing L' with
  | nil =>
    obtain rfl : L' = [] := List.eq_nil_of_length_eq_zero h.1.symm
    exact fun _ => rfl
  | cons c L ih =>
    cases L' with
    | nil => exact absurd h.1 (by simp)
    | cons c' L' =>
      have h0 := h.2 0 (by simp) (by simp)
      simp only [List.getElem_cons_zero] at h0
      have ht : LikeL L L' := ⟨by simpa using h.1, fun k hk hk' => h.2 (k + 1) (by simpa using hk) (by simpa using hk')⟩
      intro i
      rw [openFrom, openFrom, ih ht (i + 1), h0.1, h0.2.1]
theorem LikeL.app {L L' : List CallV} (h : LikeL L L') {c c' : CallV} (hc : LikeC c c') : LikeL (L ++ [c]) (L' ++ [c']) := by
  refine ⟨by simp [h.1], fun k hk hk' => ?_⟩
  by_cases e : k < L.length
  · have e' : k < L'.length := by rw [← h.1]; exact e
    rw [List.getElem_append_left e, List.getElem_append_left e']
    exact h.2 k e e'
  · have e1 : k = L.length := by simp at hk; omega
    have e2 : k = L'.length := by rw [← h.1]; exact e1
    subst e1
    rw [List.getElem_append_right (Nat.le_refl _)]
    simp only [e2, List.getElem_append_right (Nat.le_refl _), Nat.sub_self, List.getElem_cons_zero]
    exact hc
theorem LikeL.set {L L' : List CallV} (h : LikeL L L') {c c' : CallV} (hc : LikeC c c') (i : Nat) : LikeL (L.set i c) (L'.set i c') := by
  refine ⟨by simp [h.1], fun k hk hk' => ?_⟩
  rw [List.getElem_set, List.getElem_set]
  by_cases e : i = k
  · rw [if_pos e, if_pos e]; exact hc
  · rw [if_neg e, if_neg e]
    exact h.2 k (by simpa using hk) (by simpa using hk')
theorem open_hold {L : List CallV} {k : Nat} (hk : k < L.length) (hh : L[k].heard = true) : openFrom 0 (L.take (k + 1)) = openFrom 0 (L.take k) := by
  rw [openFrom_take hk, if_pos hh, List.append_nil]
theorem open_step {L : List CallV} {k : Nat} (hk : k < L.length) (hh : L[k].heard = false) : openFrom 0 (L.take (k + 1)) = openFrom 0 (L.take k) ++ [(k, L[k].op)] := by
  rw [openFrom_take hk, if_neg (by rw [hh]; decide)]
/-- There is one more: the place that was reached is not the end, and where the call there was not heard it is that one. -/
theorem open_more {L : List CallV} {k : Nat} {x : Nat × OpD} (hx : (openFrom 0 L)[(openFrom 0 (L.take k)).length]? = some x) : k < L.length := by
  by_cases h : k < L.length
  · exact h
  · rw [List.take_of_length_le (by omega)] at hx
    rw [List.getElem?_eq_none (Nat.le_refl _)] at hx
    cases hx
theorem open_this {L : List CallV} {k : Nat} {x : Nat × OpD} (hx : (openFrom 0 L)[(openFrom 0 (L.take k)).length]? = some x) (hh : (L[k]'(open_more hx)).heard = false) : x = (k, (L[k]'(open_more hx)).op) := by
  have := openFrom_get (open_more hx) hh
  rw [hx] at this
  exact Option.some.inj this
/-- None is left: what lies ahead was heard. -/
theorem open_last {L : List CallV} {k : Nat} (h : openFrom 0 (L.take k) = openFrom 0 L) (hk : k < L.length) : L[k].heard = true := by
  cases hh : L[k].heard with
  | true => rfl
  | false =>
    have := openFrom_get hk hh
    rw [h, List.getElem?_eq_none (Nat.le_refl _)] at this
    cases this
end Go.Proofs.Ytaakdnbaljoehaa
