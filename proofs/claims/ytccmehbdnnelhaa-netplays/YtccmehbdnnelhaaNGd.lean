/- Package net: one operation of a plain region within a fence. -/
import Derived.Test.YtccmehbdnnelhaaXUp
import Derived.Deep.MidRow
import Derived.Test.YtccmehbdnnelhaaNGf
import Derived.Test.YtccmehbdnnelhaaNGc
namespace Go.Proofs.Ytccmehbdnnelhaa
open Go.RowKit Go.Shelf
attribute [local go_sem] Oper.semAt_some
set_option linter.unusedVariables false

theorem kf_of_below {B : Nat} {A C : World} (b : Below A.heap.size A C) : KeepsFrom B A C := ⟨b.size, fun k o _ ho _ => (b.block k (Array.getElem?_eq_some_iff.1 ho).1).trans ho⟩
theorem round_depth {P : Program} {n m l f : Nat} {tmps : Array Value} {assign body : Code} {w : World} {R : Ending → World → Prop} (h : RoundIn Fence.wide n P l f tmps assign body w R) : RoundIn Fence.wide m P l f tmps assign body w R :=
  ⟨h.1, fun c cs _ => h.2 c cs (room_wide _)⟩
theorem wpListIn_append_known {F : Fence} {n : Nat} {P : Program} {w : World} {ops : Array Oper} {rest : List Oper} {o : Oper} {a : Act} {Q : Exit → Act → World → Prop} (hgd : o.guard = none) (s x : Operand) (t tn : TypeId)
    (ho : o.op = .call { callee := .builtin .append, args := #[s, x], argTypes := #[t, tn] }) (vs vx : Value) (hs : a.eval s = vs) (hx : a.eval x = vx) (v' : Value) (w' : World)
    (hr : (Builtin.append_ #[t, tn] o.type #[vs, vx]).run P w = .ok v' w') (h : wpListIn F n P ops Q rest (a.put o.dst v') w') : wpListIn F n P ops Q (o :: rest) a w := by
  refine wpListIn_plain hgd fun K hK' => ?_
  unfold Oper.wpIn
  refine ⟨?_, ?_⟩
  · simp [Oper.about, ho, resolve, Target.leads, Sem.run_pure]
  · rw [Oper.semAt_plain F _ _ (by rw [ho]; intro c hc'; cases hc')]
    simp [execOp, ho, resolve, invoke, builtin, hs, hx, hr, Result.andThen]
    exact hK' _ _ h
section
variable {F : Fence} {n : Nat} {P : Program} {w w' : World} {ops : Array Oper} {rest : List Oper} {o : Oper} {a : Act} {Q : Exit → Act → World → Prop}
/-- An operation that yields a value, or nothing. -/
theorem listIn_value (v : Value) (hgd : o.guard = none) (ha : o.about P w a.eval = none) (hd : ∀ c, o.op ≠ .defer c) (hx : (execOp a.eval o).run P w = .ok (.value v) w') (h : wpListIn F n P ops Q rest (a.put o.dst v) w') : wpListIn F n P ops Q (o :: rest) a w := by
  refine wpListIn_plain hgd fun K hK' => ?_
  unfold Oper.wpIn
  refine ⟨fun f hf => (by rw [ha] at hf; cases hf), ?_⟩
  rw [Oper.semAt_plain F _ _ hd, hx]
  exact hK' _ _ h
theorem listIn_effect (hgd : o.guard = none) (ha : o.about P w a.eval = none) (hd : ∀ c, o.op ≠ .defer c) (hx : (execOp a.eval o).run P w = .ok .skip w') (h : wpListIn F n P ops Q rest (a.put o.dst undef) w') : wpListIn F n P ops Q (o :: rest) a w := by
  refine wpListIn_plain hgd fun K hK' => ?_
  unfold Oper.wpIn
  refine ⟨fun f hf => (by rw [ha] at hf; cases hf), ?_⟩
  rw [Oper.semAt_plain F _ _ hd, hx]
  exact hK' _ _ h
theorem listIn_row (ty : TypeId) (x : Operand) (g : Nat) (t : TypeId) (cs : Array Value) (fr : Nat × Nat) (d : TypeDesc) (hgd : o.guard = none) (ho : o.op = .load ty x) (hx : a.eval x = .pointer (some ⟨g, 0, none⟩)) (hg : w.heap[g]? = some (.cells cs t fr)) (hu : P.underlying ty = some d)
    (hd : (match d with | .struct _ | .array _ _ => true | _ => false) = true) (hz : (P.info? ty).map (·.size) = some cs.size) (h : wpListIn F n P ops Q rest (a.put o.dst (.agg cs)) w) : wpListIn F n P ops Q (o :: rest) a w :=
  listIn_value (.agg cs) hgd (by simp [Oper.about, ho]) (fun c => by rw [ho]; intro e; cases e) (by
    unfold execOp
    simp only [ho, hx, Instr.loadAt, Instr.sureAddr, Sem.run_bind, Sem.run_pure, Result.andThen_ok, run_loadVar_row w g t ty cs fr d hg hu hd hz]) h
theorem listIn_mid (ty : TypeId) (x : Operand) (b o' : Nat) (cs : List Value) (d : TypeDesc) (hgd : o.guard = none) (ho : o.op = .load ty x) (hx : a.eval x = .pointer (some ⟨b, o', none⟩)) (hc : w.rangeAt b o' cs) (hu : P.underlying ty = some d)
    (hd : d.isRow = true) (hz : (P.info? ty).map (·.size) = some cs.length) (h : wpListIn F n P ops Q rest (a.put o.dst (.agg cs.toArray)) w) : wpListIn F n P ops Q (o :: rest) a w :=
  listIn_value (.agg cs.toArray) hgd (by simp [Oper.about, ho]) (fun c => by rw [ho]; intro e; cases e) (by
    unfold execOp
    simp only [ho, hx, Instr.loadAt, Instr.sureAddr, Sem.run_bind, Sem.run_pure, Result.andThen_ok, run_loadVar_mid w b o' ty cs d hc hu hd hz]) h
theorem listIn_store_row (ty : TypeId) (x y : Operand) (g : Nat) (cells : Array Value) (t : TypeId) (old : Array Value) (hgd : o.guard = none) (ho : o.op = .store ty x y) (hx : a.eval x = .pointer (some ⟨g, 0, none⟩)) (hy : a.eval y = .agg cells) (hg : w.heap[g]? = some (.cells old t (0, 0)))
    (hi : (P.info? ty).map (·.size) = some cells.size) (hold : old.size = cells.size) (h1 : cells.all (·.oneCell') = true) (h : wpListIn F n P ops Q rest (a.put o.dst undef) (w.setRow g cells)) : wpListIn F n P ops Q (o :: rest) a w :=
  listIn_effect hgd (by simp [Oper.about, ho]) (fun c => by rw [ho]; intro e; cases e) (by
    unfold execOp
    simp only [ho, hx, hy, Instr.storeAt, Instr.sureAddr, Sem.run_bind, Sem.run_pure, Result.andThen_ok, run_storeVar_row w g t ty old cells hg hi hold h1]) h
end
theorem zip_one (t : Array Value) (p : Nat) (v : Value) : (#[p].zip #[v]).foldl (fun (t : Array Value) (x : Tmp × Value) => match x with | (p, v) => t.setIfInBounds p v) t = t.setIfInBounds p v := by simp
end Go.Proofs.Ytccmehbdnnelhaa

namespace Go.Proofs.Ytccmehbdnnelhaa
open Go.RowKit Go.Maps Go.Shelf
attribute [local go_sem] Oper.semAt_some
set_option linter.unusedVariables false
set_option maxRecDepth 100000 in
set_option maxHeartbeats 2000000 in
theorem sorted_first {w : World} {base N T : Nat} (h : NilNet w base N T) : Calls Try.prog 35 #[.pointer (some ⟨N, 0, none⟩)] w fun e w' => ∃ v, e = .returned v ∧ w'.ownsRow w.heap.size 69 4 v 0 (cells4 []) ∧ Below w.heap.size w w' := by
  have c0 := h.c0
  have hr := run_range_nilMap (P := Try.prog) w 36 3 66 underM
  have hn := run_next_nilMap (P := Try.prog) w 0 0 0 #[]
  have FIN : Hid (Below w.heap.size w (w.alloc (.mapIter none 0 #[] 0))) := (Below.refl _ w).alloc (Nat.le_refl _) _
  have HS := AnyF.slices_SortFunc_none (P := Try.prog) (ρ := renN) laysN none 0 (.func (.func 42) #[] #[]) (w.alloc (.mapIter none 0 #[] 0))
  have HS2 : Hid (Calls Try.prog 41 #[.slice none 0 0, .func (.func 42) #[] #[]] (w.alloc (.mapIter none 0 #[] 0)) fun e w' => e = .returned (.tuple #[]) ∧ w' = w.alloc (.mapIter none 0 #[] 0)) := HS
  clear h HS
  go_enter Try.func35, Try.ntmps35
  go_wp2
  go_loopw [3] (fun cv wr => cv = .slice none 0 0 ∧ wr = w.alloc (.mapIter none 0 #[] 0)) (fun _ _ => 0)
  case atStart => exact ⟨rfl, rfl⟩
  case round =>
    obtain ⟨rfl, rfl⟩ := hrel
    go_wp2_with fail
    refine HS2.out.mono ?_
    rintro e w3 ⟨rfl, rfl⟩
    go_wp2_with fail
    go_ret
    exact ⟨_, rfl, World.ownsRow_nil _ _ _ _, FIN.out⟩
theorem sorted_S {w : World} {base N T : Nat} {L : List Post} (h : NetS w base N L T) : Calls Try.prog 35 #[.pointer (some ⟨N, 0, none⟩)] w fun e w' => ∃ v, e = .returned v ∧ w'.ownsRow w.heap.size 69 4 v L.length (cells4 L) ∧ Below w.heap.size w w' := by
  rcases h.2 with ⟨h1, rfl, rfl⟩ | ⟨B, bx, h⟩
  · exact sorted_first h1
  · exact sorted_in h
set_option maxRecDepth 100000 in
set_option maxHeartbeats 2000000 in
theorem all_any {w : World} {base N T : Nat} {L : List Post} (h : NetS w base N L T) : Calls Try.prog 26 #[.pointer (some ⟨N, 0, none⟩)] w fun e w' => ∃ Bx a c, e = .returned (.func (.func 36) #[] #[.pointer (some ⟨Bx, 0, none⟩)]) ∧ w'.heap[Bx]? = some (.cells #[.slice a L.length c] 66 (0, 0)) ∧ w'.ownsRow w.heap.size 69 4 (.slice a L.length c) L.length (cells4 L) ∧ Below w.heap.size w w' := by
  have HS := sorted_S h
  clear h
  go_enter Try.func26, Try.ntmps26
  go_wp2_with fail
  refine HS.mono ?_
  rintro e w1 ⟨v, rfl, o1, b1⟩
  obtain ⟨a, c, rfl⟩ : ∃ a c, v = .slice a L.length c := by
    rcases o1.2 with ⟨e1, e2⟩ | ⟨g, c, cur, e1, _⟩
    · exact ⟨none, 0, by rw [e1, e2]⟩
    · exact ⟨_, c, e1⟩
  have bA := (Below.refl _ w1).alloc (Nat.le_refl _) (.cells #[.slice a L.length c] 66)
  have FIN : Hid ((w1.alloc (.cells #[.slice a L.length c] 66)).heap[w1.heap.size]? = some (.cells #[.slice a L.length c] 66 (0, 0)) ∧ (w1.alloc (.cells #[.slice a L.length c] 66)).ownsRow w.heap.size 69 4 (.slice a L.length c) L.length (cells4 L) ∧ Below w.heap.size w (w1.alloc (.cells #[.slice a L.length c] 66))) :=
    ⟨heap_alloc_new w1 _, owns_kept o1 (fun g e => bA.block g (row_lt4 o1 e).2), b1.trans (bA.mono b1.size)⟩
  obtain ⟨n, en⟩ : ∃ n, L.length = n := ⟨_, rfl⟩
  rw [en] at FIN
  rw [en]
  have EN : Hid (L.length = n) := en
  clear HS o1 b1 bA en
  go_wp2_with fail
  go_ret
  exact ⟨_, a, c, rfl, (by rw [EN.out]; exact FIN.out.1), (by rw [EN.out]; exact FIN.out.2.1), FIN.out.2.2⟩
abbrev encL (p : Post) : Array Value := #[.agg #[.int .i64 p.fr, .int .i64 p.to, p.dv]]
/-- What a round keeps: what lay there ahead of the range, but numbers and truths. -/
def KcA (base : Nat) (A B : World) : Prop := ∀ k cs t z, k < base → A.heap[k]? = some (.cells cs t z) → t ≠ 3 → t ≠ 4 → B.heap[k]? = A.heap[k]?
theorem KcA.tr {base : Nat} {A B C : World} (h : KcA base A B) (k : KcA base B C) : KcA base A C := fun g cs t z hg e h3 h4 => by
  have e1 := h g cs t z hg e h3 h4
  exact (k g cs t z hg (e1.trans e) h3 h4).trans e1
theorem KcA.bk {base : Nat} (W : World) (l : Nat) (o o' : Obj) (h1 : W.heap[l]? = some o) (h2 : o.isCells = false) : KcA base W (W.putObj l o') := fun g cs t z hg e h3 h4 => by
  have hne : g ≠ l := fun e2 => by rw [e2, h1] at e; cases e; simp [Obj.isCells] at h2
  exact World.putObj_heap_other (by omega)
theorem KcA.of_below {base : Nat} {A B : World} (b : Below A.heap.size A B) : KcA base A B := fun g cs t z hg e _ _ => b.block g (Array.getElem?_eq_some_iff.1 e).1
theorem KcA.own {base : Nat} {A B : World} (h : KcA base A B) {v : Value} {n : Nat} {xs : List Value} {b0 : Nat} (o : A.ownsRow b0 69 4 v n xs) (hlt : ∀ g, v.ownBlock = some g → g < base) : B.ownsRow b0 69 4 v n xs :=
  owns_kept o (fun g e => by
    obtain ⟨cur, hc⟩ := row_kind o e
    exact h g cur _ _ (hlt g e) hc (by decide) (by decide))
theorem KcA.data {base : Nat} {A B : World} (h : KcA base A B) {v : Value} {b : List (BitVec 8)} (d : DataAt A v b) (hlt : b ≠ [] → ∀ x n c, v = .slice (some x) n c → x.block < base) : DataAt B v b := by
  obtain ⟨a, c, e, s, n, u⟩ := d
  have k : ∀ x, a = some x → b ≠ [] → B.heap[x.block]? = A.heap[x.block]? := fun x ex hb => by
    obtain ⟨cs, z, e3⟩ := u x ex hb
    exact h _ cs 5 z (hlt hb x _ _ (by rw [e, ex])) e3 (by decide) (by decide)
  refine ⟨a, c, e, ?_, n, fun x ex hb => ?_⟩
  · obtain ⟨s1, s2, s3⟩ := s
    refine ⟨s1, s2, s3.imp id ?_⟩
    rintro ⟨g', o, ea, hc⟩
    refine ⟨g', o, ea, fun j hj => ?_⟩
    have hb : b ≠ [] := fun e => by rw [e] at hj; simp at hj
    rw [World.cell?_of_block (w := A) (a := ⟨g', o + j, none⟩) (k ⟨g', o, none⟩ ea hb)]
    exact hc j hj
  · obtain ⟨cs, z, e2⟩ := u x ex hb
    exact ⟨cs, z, (k x ex hb).trans e2⟩
/-- What is handed on: the next letter, with a copy of its bytes. -/
def RAl (base : Nat) (L : List Post) (pre : List Post) (x : Post) (W : World) : Prop := ∃ hk : pre.length < L.length, x.fr = L[pre.length].fr ∧ x.to = L[pre.length].to ∧ x.b = L[pre.length].b ∧ OwnAt base W x.dv x.b
/-- What lies there while letters are handed on. -/
structure AlSt (base Bx : Nat) (a : Option Addr) (c : Nat) (L : List Post) (w W : World) : Prop where
  row : W.ownsRow w.heap.size 69 4 (.slice a L.length c) L.length (cells4 L)
  dat : ∀ p ∈ L, DataAt W p.dv p.b
  szs : base ≤ W.heap.size
end Go.Proofs.Ytccmehbdnnelhaa

namespace Go.Proofs.Ytccmehbdnnelhaa
open Go.RowKit Go.Maps Go.Shelf
attribute [local go_sem] Oper.semAt_some
set_option linter.unusedVariables false
theorem setRow_newN (w : World) (z cs : Array Value) (t : TypeId) : (w.alloc (.cells z t)).setRow w.heap.size cs = w.alloc (.cells cs t) := by
  unfold World.setRow World.alloc
  congr 1
  apply Array.ext_getElem?
  intro k
  rw [Array.getElem?_modify]
  by_cases hk : w.heap.size = k
  · subst hk; simp
  · rw [if_neg hk, Array.getElem?_push, Array.getElem?_push, if_neg (fun e => hk e.symm), if_neg (fun e => hk e.symm)]
/-- Bytes whose block lies ahead of a place. -/
def Ahead (base : Nat) (v : Value) (b : List (BitVec 8)) : Prop := b ≠ [] → ∀ x n c, v = .slice (some x) n c → x.block < base
theorem DataAt.ahead {w : World} {v : Value} {b : List (BitVec 8)} (h : DataAt w v b) : Ahead w.heap.size v b := fun hb x n c e => by
  obtain ⟨a, c', e2, _, _, u⟩ := h
  rw [e2] at e
  cases e
  obtain ⟨cs, z, e3⟩ := u x rfl hb
  exact (Array.getElem?_eq_some_iff.1 e3).1
/-- What lies there while letters are handed on. -/
structure AlIn (base rb : Nat) (a : Option Addr) (c m : Nat) (L : List Post) (W : World) : Prop where
  row : W.ownsRow rb 69 4 (.slice a m c) m (cells4 L)
  dat : ∀ p ∈ L, DataAt W p.dv p.b
  sz : base ≤ W.heap.size
theorem AlIn.below {base rb c m : Nat} {a : Option Addr} {L : List Post} {W W' : World} (h : AlIn base rb a c m L W) (b : Below W.heap.size W W') : AlIn base rb a c m L W' :=
  ⟨owns_kept h.row (fun g e => b.block g (row_lt4 h.row e).2), fun p hp => (h.dat p hp).below b, Nat.le_trans h.sz b.size⟩
theorem AlIn.kc {base rb c m : Nat} {a : Option Addr} {L : List Post} {W W' : World} (h : AlIn base rb a c m L W) (k : KcA base W W') (hs : base ≤ W'.heap.size) (hr : ∀ g, (Value.slice a m c).ownBlock = some g → g < base) (hd : ∀ p ∈ L, Ahead base p.dv p.b) : AlIn base rb a c m L W' :=
  ⟨k.own h.row hr, fun p hp => k.data (h.dat p hp) (hd p hp), hs⟩
set_option maxRecDepth 100000 in
set_option maxHeartbeats 4000000 in
theorem all1_in (n Lp Bx base rb c : Nat) (a : Option Addr) (L : List Post) (J Jx : List Post → World → Prop) (W : World) (hJ : UpB J)
    (hY : ∀ pre x W1, J pre W1 → RAl base L pre x W1 → YieldAt Fence.wide (n - 1) Try.prog Lp (encL x) W1 fun e W' => KeepsFrom W.heap.size W1 W' ∧
      ((e = .returned (.bool true) ∧ J (pre ++ [x]) W' ∧ KcA base W1 W') ∨ (e = .returned (.bool false) ∧ Jx (pre ++ [x]) W')))
    (hbox : W.cell? ⟨Bx, 0, none⟩ = some (.slice a L.length c)) (hst : AlIn base rb a c L.length L W) (hr : ∀ g, (Value.slice a L.length c).ownBlock = some g → g < base) (hd : ∀ p ∈ L, Ahead base p.dv p.b) (hs : Small L) (hm : L.length ≤ 10000) (h0 : J [] W) :
    CallsIn Fence.wide n Try.prog 36 #[.func (.yield Lp) #[] #[], .pointer (some ⟨Bx, 0, none⟩)] W fun e W' => (∃ v, e = .returned v) ∧
      ((∃ xs, xs.length = L.length ∧ J xs W') ∨ (∃ pre, True ∧ Jx pre W')) := by
  have HY : Hid (∀ pre x W1, J pre W1 → RAl base L pre x W1 → YieldAt Fence.wide (n - 1) Try.prog Lp (encL x) W1 fun e W' => KeepsFrom W.heap.size W1 W' ∧
      ((e = .returned (.bool true) ∧ J (pre ++ [x]) W' ∧ KcA base W1 W') ∨ (e = .returned (.bool false) ∧ Jx (pre ++ [x]) W'))) := hY
  have HJ : Hid (UpB J) := hJ
  have H0 : Hid (J [] W) := h0
  have HD : Hid ((∀ p ∈ L, Ahead base p.dv p.b) ∧ Small L) := ⟨hd, hs⟩
  obtain ⟨m, em⟩ : ∃ m, L.length = m := ⟨_, rfl⟩
  have EM : Hid (L.length = m) := em
  rw [em] at hbox hst hr hm
  have HR : Hid (∀ g, (Value.slice a m c).ownBlock = some g → g < base) := hr
  have ST : Hid (AlIn base rb a c m L W) := hst
  clear hY hJ h0 em hd hs hr hst
  refine callsIn_of_wp Try.func36 rfl trivial ?_ rfl
  simp only [Try.ntmps36, List.size_toArray, List.length_cons, List.length_nil, Nat.reduceAdd, Nat.reduceSub, Array.replicate_succ, Array.replicate_zero, List.push_toArray, List.append_toArray, List.nil_append, List.cons_append]
  gi_wp2_with fail
  gi_loopw [7] (fun y wr => ∃ (k : Nat) (pre : List Post), k ≤ m ∧ y = .int .i64 k ∧ Hid (pre.length = k) ∧ Hid (J pre wr) ∧ Hid (AlIn base rb a c m L wr) ∧ Hid (W.heap.size ≤ wr.heap.size)) (fun y _ => m - (intOf y).toNat)
  case atStart => exact ⟨0, [], Nat.zero_le _, rfl, rfl, H0, ST, Nat.le_refl _⟩
  case round =>
    obtain ⟨k, pre, hk, rfl, hpl, hJs, hO, hsz⟩ := hrel
    clear hbox
    by_cases hlt : k < m
    · have hk2 : k < L.length := by rw [EM.out]; exact hlt
      have hkz : (k : Int) < (m : Int) := by omega
      have hrow2 := hO.out.row
      rw [← EM.out] at hrow2
      obtain ⟨a2, c2, e2, hat⟩ := row_posts hrow2
      cases e2
      obtain ⟨b, off, rfl, hcell⟩ := hat.resolve_left (List.ne_nil_of_length_pos (by omega))
      obtain ⟨q0, q1, q2, q3⟩ := hcell k hk2
      have dd := hO.out.dat _ (List.getElem_mem hk2)
      have sm := HD.out.2 _ (List.getElem_mem hk2)
      have EP : Hid (∃ h : k < L.length, True) := ⟨hk2, trivial⟩
      obtain ⟨p, ep⟩ : ∃ p, L[k]'hk2 = p := ⟨_, rfl⟩
      have EPP : Hid (∀ h : k < L.length, L[k] = p) := fun _ => ep
      rw [ep] at q0 q1 q2 q3 dd sm
      obtain ⟨fr, to, dv, bs, t⟩ := p
      simp only at q0 q1 q2 q3 dd sm
      obtain ⟨da, dc, rfl, _⟩ := id dd
      have hrange : wr.rangeAt b (off + k * 4) [.int .i64 fr, .int .i64 to, .slice da bs.length dc, .int .i64 (t : Int)] := fun j v hv => by
        match j, hv with
        | 0, hv => rw [Nat.add_zero, q0]; exact hv
        | 1, hv => rw [q1]; exact hv
        | 2, hv => rw [q2]; exact hv
        | 3, hv => rw [q3]; exact hv
      have bA := (Below.refl _ wr).alloc (Nat.le_refl _) (.cells #[.int .i64 fr, .int .i64 to, .slice da bs.length dc, .int .i64 (t : Int)] 69)
      have hnew := heap_alloc_new wr (.cells #[.int .i64 fr, .int .i64 to, .slice da bs.length dc, .int .i64 (t : Int)] 69)
      obtain ⟨V, hV⟩ : ∃ V, wr.alloc (.cells #[.int .i64 fr, .int .i64 to, .slice da bs.length dc, .int .i64 (t : Int)] 69) = V := ⟨_, rfl⟩
      rw [hV] at bA hnew
      have HC := copiedS_any fr to (.slice da bs.length dc) bs V (dd.below bA) (by omega)
      have hrl : V.rangeAt wr.heap.size 0 [.int .i64 fr, .int .i64 to, .slice da bs.length dc] := fun j v hv => by
        simp only [World.cell?, hnew, Nat.zero_add]
        match j, hv with
        | 0, hv => exact hv
        | 1, hv => exact hv
        | 2, hv => exact hv
      have HV : Hid _ := hV
      have HRG : Hid _ := hrange
      have HRL : Hid (V.rangeAt wr.heap.size 0 [.int .i64 fr, .int .i64 to, .slice da bs.length dc]) := hrl
      have BA : Hid (Below wr.heap.size wr V) := bA
      obtain ⟨bn, ebn⟩ : ∃ bn, bs.length = bn := ⟨_, rfl⟩
      rw [ebn] at HRG HRL HV HC
      have EBN : Hid (bs.length = bn) := ebn
      clear bA hV hrange hrl hnew q0 q1 q2 q3 dd sm ep hat hcell hrow2 ebn
      gi_wp2_with (first
        | (refine listIn_mid 69 (.tmp 9) b (off + k * 4) [.int .i64 fr, .int .i64 to, .slice da bn dc, .int .i64 (t : Int)] _ rfl rfl rfl HRG.out Try.underlying69 rfl (by kernel_rfl) ?_)
        | (refine listIn_store_row 69 (.tmp 4) (.tmp 10) wr.heap.size #[.int .i64 fr, .int .i64 to, .slice da bn dc, .int .i64 (t : Int)] 69 _ rfl rfl rfl rfl (heap_alloc_new wr _) (by kernel_rfl) rfl (by simp [Value.oneCell']) ?_; rw [setRow_newN, HV.out])
        | (refine listIn_mid 45 (.tmp 12) wr.heap.size 0 [.int .i64 fr, .int .i64 to, .slice da bn dc] _ rfl rfl rfl HRL.out Try.underlying45 rfl (by kernel_rfl) ?_))
      refine ⟨trivial, wide_room _, (callsIn_wide.2 HC).mono ?_⟩
      rintro e W2 ⟨v, rfl, o2, b2⟩
      clear HC
      have b02 : Below wr.heap.size wr W2 := BA.out.trans (b2.mono BA.out.size)
      have sB : base ≤ V.heap.size := Nat.le_trans hO.out.sz BA.out.size
      obtain ⟨fn, tmps, assign, body, hyy, hR2⟩ := HY.out pre ⟨fr, to, v, bs, t⟩ W2 (HJ.out _ _ _ hJs.out b02) (by
        obtain ⟨hk2, _⟩ := EP.out
        have e := EPP.out hk2
        refine ⟨by rw [hpl.out]; exact hk2, ?_, ?_, ?_, o2.mono sB⟩ <;> simp only [hpl.out, e])
      dsimp only [encL] at hyy
      obtain ⟨va, vc, rfl⟩ := o2.form
      have A2 : Hid (AlIn base rb (some ⟨b, off, none⟩) c m L W2) := hO.out.below b02
      have S2 : Hid (W.heap.size ≤ W2.heap.size) := Nat.le_trans hsz.out b02.size
      obtain ⟨vn, evn⟩ : ∃ vn, bs.length = vn := ⟨_, rfl⟩
      rw [evn] at hyy
      rw [evn]
      have EVN : Hid (bs.length = vn) := evn
      clear o2 b2 b02 sB evn HRG HRL HV EBN BA
      gi_wp2
      refine ⟨wide_room _, hR2.mono ?_⟩
      rintro e W3 ⟨hkf, (⟨rfl, hJ3, hk3⟩ | ⟨rfl, hJx3⟩)⟩
      · have HJ3 : Hid (J (pre ++ [⟨fr, to, .slice va bs.length vc, bs, t⟩]) W3) := hJ3
        have S3 : Hid (W.heap.size ≤ W3.heap.size) := Nat.le_trans S2.out hkf.size
        have A3 : Hid (AlIn base rb (some ⟨b, off, none⟩) c m L W3) := A2.out.kc hk3 (Nat.le_trans ST.out.sz S3.out) HR.out HD.out.1
        have PL : Hid ((pre ++ [(⟨fr, to, .slice va bs.length vc, bs, t⟩ : Post)]).length = k + 1) := by show _ = _; rw [List.length_append, hpl.out]; rfl
        clear hJ3 hk3 hkf hR2 hyy
        gi_wp2
        go_roundw
        case rel => exact ⟨k + 1, _, by omega, by go_num, PL.out, HJ3.out, A3.out, S3.out⟩
        case measure => simp only [intOf]; omega
      · gi_wp2
        (try simp only [Exit.inBlock, Exit.then])
        refine bodyPost_ret (results_none rfl _ _ _) rfl ?_
        exact ⟨⟨_, rfl⟩, .inr ⟨_, trivial, hJx3⟩⟩
    · obtain rfl : k = m := by omega
      have hkz : ¬ (k : Int) < (k : Int) := by omega
      gi_wp2
      go_end0
      exact ⟨⟨_, rfl⟩, .inl ⟨pre, by rw [EM.out]; exact hpl.out, hJs.out⟩⟩
theorem all1_seq (n Bx rb c : Nat) (a : Option Addr) (L : List Post) (w : World) (hbox : w.cell? ⟨Bx, 0, none⟩ = some (.slice a L.length c)) (hrow : w.ownsRow rb 69 4 (.slice a L.length c) L.length (cells4 L)) (hd : ∀ p ∈ L, DataAt w p.dv p.b) (hs : Small L) (hm : L.length ≤ 10000) :
    SeqV n Try.prog 36 #[.pointer (some ⟨Bx, 0, none⟩)] encL (KcA w.heap.size) (RAl w.heap.size L) (fun xs => xs.length = L.length) (fun _ => True) w := fun Lp J Jx W hW hJ hJx pJ pJx hY h0 =>
  all1_in n Lp Bx w.heap.size rb c a L J Jx W hJ hY ((hW.cell (p := ⟨Bx, 0, none⟩) (World.block_lt_of_cell? w _ hbox)).trans hbox) (AlIn.below ⟨hrow, hd, Nat.le_refl _⟩ hW) (fun g e => (row_lt4 hrow e).2) (fun p hp => (hd p hp).ahead) hs hm h0
end Go.Proofs.Ytccmehbdnnelhaa
