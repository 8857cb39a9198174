/- JournalAgain. -/
import Derived.Test.YtikpmaecbfebkaaDoorJLaps
import Derived.Test.YtikpmaecbfebkaaDoorJSame
namespace Go.Proofs.YtikpmaecbfebkaaDoor
open Go.RowKit Go.Shelf
attribute [local go_sem] Oper.semAt_some
set_option linter.unusedVariables false

theorem exec_app {P : Program} {o : Oper} {a : Act} {w w' : World} {v u x : Value} (s y : Operand) (t : TypeId) (ho : o.op = .call { callee := .builtin .append, args := #[s, y], argTypes := #[t, t] }) (hs : a.eval s = u) (hx : a.eval y = x) (hr : (Builtin.append_ #[t, t] o.type #[u, x]).run P w = .ok v w') : (execOp a.eval o).run P w = .ok (.value v) w' := by
  unfold execOp
  simp only [ho, resolve, invoke, builtin, Sem.run_bind, Sem.run_pure, Result.andThen_ok, List.map_toArray, List.map_cons, List.map_nil, hs, hx, hr]
/-- Bools in a slice. -/
def BoolsAt (w : World) (a : Option Addr) (n : Nat) (B : Nat → Bool) : Prop := n = 0 ∨ ∃ b off, a = some ⟨b, off, none⟩ ∧ ∀ j, j < n → w.cell? ⟨b, off + j, none⟩ = some (.bool (B j))
/-- The law's own journal, and a row beside it. -/
structure ASt (w wr : World) (D J nx : Nat) (v : Value) (vs : List Value) (rs : List (List (BitVec 8))) (z : Nat) (m : DM) (d : DS) : Prop where
  mD : m.D = D
  dk : Dsk wr m 60 d
  ow : ∀ k, m.own k → w.heap.size ≤ k
  be : Below w.heap.size w wr
  ja : JAt wr J D 3 57 9 nx false
  nj : ¬ m.own J
  gj : w.heap.size ≤ J
  row : wr.ownsRow w.heap.size 22 1 v vs.length vs
  off : ∀ g, v.ownBlock = some g → ¬ m.own g ∧ g ≠ J
  wA : whyA d = 0
  wS : whyS d = 0
  lz : d.ws.length ≤ z
  cl : Clear d 3 57 nx
  sd : Stand d 3 57 9 9 rs nx
  nb : nx ≤ 66
def AS (w wr : World) (D J nx : Nat) (v : Value) (vs : List Value) (rs : List (List (BitVec 8))) (z : Nat) : Prop := ∃ m d, ASt w wr D J nx v vs rs z m d
section
variable {w wr : World} {D J nx z : Nat} {v : Value} {vs : List Value} {rs : List (List (BitVec 8))}
theorem AS.bel (h : AS w wr D J nx v vs rs z) : Below w.heap.size w wr := by obtain ⟨m, d, h⟩ := h; exact h.be
theorem AS.ja (h : AS w wr D J nx v vs rs z) : JAt wr J D 3 57 9 nx false := by obtain ⟨m, d, h⟩ := h; exact h.ja
theorem AS.row (h : AS w wr D J nx v vs rs z) : wr.ownsRow w.heap.size 22 1 v vs.length vs := by obtain ⟨m, d, h⟩ := h; exact h.row
theorem AS.num (h : AS w wr D J nx v vs rs z) : 9 ≤ nx ∧ nx ≤ 66 := by obtain ⟨m, d, h⟩ := h; exact ⟨h.sd.le, h.nb⟩
theorem AS.more {z' : Nat} (h : AS w wr D J nx v vs rs z) (hz : z ≤ z') : AS w wr D J nx v vs rs z' := by obtain ⟨m, d, h⟩ := h; exact ⟨m, d, { h with lz := Nat.le_trans h.lz hz }⟩
theorem AS.moreH {z' : Nat} (h : AS w wr D J nx v vs rs z) (hz : z ≤ z') : Hid (AS w wr D J nx v vs rs z') := h.more hz
theorem row_lt {B : Nat} {t : TypeId} {s n : Nat} {v : Value} {xs : List Value} (h : wr.ownsRow B t s v n xs) {k : Nat} (e : v.ownBlock = some k) : B ≤ k ∧ k < wr.heap.size := h.lt k e
theorem AS.below {w' : World} (h : AS w wr D J nx v vs rs z) (b : Below wr.heap.size wr w') : AS w w' D J nx v vs rs z := by
  obtain ⟨m, d, h⟩ := h
  exact ⟨m, d, { h with dk := h.dk.below b, be := h.be.trans (b.mono h.be.size), ja := h.ja.below b, row := owns_same h.row (fun g e => b.block g (row_lt h.row e).2) }⟩
theorem as_append (h : AS w wr D J nx v vs rs z) (hT : Tabs w) (a : Option Addr) (cap : Nat) (b : List (BitVec 8)) (hS : Seen wr a b.length b) (hb : b.length ≤ 8192) (hf : nx + secs b.length ≤ 66) (hz : z ≤ 10000) :
    Calls Tryd.prog 17 #[.pointer (some ⟨J, 0, none⟩), .slice a b.length cap] wr fun e w' => e = .returned (.int .i64 0) ∧ AS w w' D J (nx + secs b.length) v vs (rs ++ [b]) (z + 100) := by
  have hn := h.num
  obtain ⟨m, d, h⟩ := h
  obtain rfl := h.mD
  have hlz := h.lz
  have hT2 := hT.size
  refine (append_ok m 60 d J 3 57 9 nx a cap b wr (hT.below h.be hT.size) h.dk h.ja h.nj hS (by omega) (by omega) (by omega) (by omega) (by omega) hb (by omega) h.wA (by omega) (fun k hk => by have := h.ow k hk; omega)).mono ?_
  rintro e w' ⟨m', rfl, e2, q', j', jo, nx'⟩
  obtain ⟨f1, f2, f3, f4⟩ := appD_flags 3 57 nx b d (secs b.length)
  have hK : secs b.length ≤ 57 := by omega
  have hln := h.dk.ok.ln
  refine ⟨rfl, m', _, ⟨e2, q', fun k hk => ?_, h.be.trans (jo.low h.be.size h.ow h.gj), j', fun hk => ?_, h.gj, owns_same h.row (fun g e => jo.block g (row_lt h.row e).2 (h.off g e).1 (h.off g e).2), fun g e => ⟨fun hk => ?_, (h.off g e).2⟩, ?_, ?_, by omega, h.cl.app hln (by omega) (by omega) (by omega) (by omega) (by omega) hK (Nat.le_refl _), h.sd.app hln (by omega) (by omega) (by omega) (by omega) hb (by omega), hf⟩⟩
  · rcases nx'.own_of hk with x | x
    · exact h.ow k x
    · have := h.be.size; omega
  · rcases nx'.own_of hk with x | x
    · exact h.nj x
    · have := h.ja.lt; omega
  · rcases nx'.own_of hk with x | x
    · exact (h.off g e).1 x
    · have := (row_lt h.row e).2; omega
  · have := h.wA; unfold whyA at this ⊢; rw [f1, f2]; exact this
  · have := h.wS; unfold whyS at this ⊢; rw [f1, f3]; exact this
theorem as_full (h : AS w wr D J nx v vs rs z) (a : Option Addr) (len cap : Nat) (hl : len ≤ 8192) (hf : 66 < nx + secs len) :
    Calls Tryd.prog 17 #[.pointer (some ⟨J, 0, none⟩), .slice a len cap] wr fun e w' => e = .returned (.int .i64 4) ∧ AS w w' D J nx v vs rs z := by
  have hn := h.num
  refine (append_full h.ja a len cap (by omega) (by omega) (by omega) hl (by omega)).mono ?_
  rintro e w' ⟨rfl, rfl⟩
  exact ⟨rfl, h.below (Below.refl _ wr).drew⟩
theorem as_size (h : AS w wr D J nx v vs rs z) (a : Option Addr) (len cap : Nat) (hl : 8192 < len) :
    Calls Tryd.prog 17 #[.pointer (some ⟨J, 0, none⟩), .slice a len cap] wr fun e w' => e = .returned (.int .i64 3) ∧ AS w w' D J nx v vs rs z := by
  refine (append_size h.ja a len cap hl).mono ?_
  rintro e w' ⟨rfl, rfl⟩
  exact ⟨rfl, h⟩
theorem as_sync (h : AS w wr D J nx v vs rs z) : Calls Tryd.prog 18 #[.pointer (some ⟨J, 0, none⟩)] wr fun e w' => e = .returned (.int .i64 0) ∧ AS w w' D J nx v vs rs 100 := by
  obtain ⟨m, d, h⟩ := h
  obtain rfl := h.mD
  refine (jsync_ok m 60 d J 3 57 9 nx wr h.dk h.ja h.nj h.wS).mono ?_
  rintro e w' ⟨m', rfl, e2, q', j', jo, nx'⟩
  obtain ⟨f1, f2, f3, f4⟩ := sync_flags h.wS
  refine ⟨rfl, m', _, ⟨e2, q', fun k hk => ?_, h.be.trans (jo.low h.be.size h.ow h.gj), j', fun hk => ?_, h.gj, owns_same h.row (fun g e => jo.block g (row_lt h.row e).2 (h.off g e).1 (h.off g e).2), fun g e => ⟨fun hk => ?_, (h.off g e).2⟩, ?_, ?_, by rw [f4]; exact Nat.zero_le _, h.cl.sync, h.sd.sync, h.nb⟩⟩
  · rcases nx'.own_of hk with x | x
    · exact h.ow k x
    · have := h.be.size; omega
  · rcases nx'.own_of hk with x | x
    · exact h.nj x
    · have := h.ja.lt; omega
  · rcases nx'.own_of hk with x | x
    · exact (h.off g e).1 x
    · have := (row_lt h.row e).2; omega
  · have := h.wA; unfold whyA at this ⊢; rw [f1, f2]; exact this
  · have := h.wS; unfold whyS at this ⊢; rw [f1, f3]; exact this
/-- The row beside it grows. -/
theorem as_grow (h : AS w wr D J nx v vs rs z) (hk : vs.length ≤ 100000) (x : Value) (hx : x.oneCell' = true) :
    ∃ P c w', (Builtin.append_ #[31, 31] 31 #[v, .slice (some ⟨wr.heap.size, 0, none⟩) 1 1]).run Tryd.prog (wr.alloc (.cells #[x] 22)) = .ok (.slice (some ⟨P, 0, none⟩) (vs.length + 1) c) w' ∧ AS w w' D J nx (.slice (some ⟨P, 0, none⟩) (vs.length + 1) c) (vs ++ [x]) rs z := by
  have hA := h.below ((Below.refl wr.heap.size wr).alloc (Nat.le_refl _) (.cells #[x] 22))
  obtain ⟨m, d, h⟩ := h
  obtain ⟨m1, d1, h1⟩ := hA
  obtain ⟨i0, hi, hz0, hz1, hz2⟩ := info_parts infoB
  obtain ⟨P, c, w', hr, o', gr, hat, hlt⟩ := run_append_lies (P := Tryd.prog) (wr.alloc (.cells #[x] 22)) 31 31 w.heap.size 22 i0 _ 1 24 Tryd.underlying31 hi hz0 hz1 hz2 rfl (by omega) v vs.length _ h1.row
    ⟨wr.heap.size, 0, none⟩ 1 1 [x] (by rfl) (World.news_of_block (cs := #[x]) (t := 22) (fr := (0, 0)) (heap_alloc_new wr _)) (by simpa using hx) (by omega) (by unfold maxLen; omega) (by omega) (by have := h.be.size; simp; omega) _ rfl
  have bs := h1.be.size
  refine ⟨P, c, w', hr, m1, d1, { h1 with dk := h1.dk.same (fun k hk => gr.block k (h1.dk.lt hk) (fun e => (h1.off k e.symm).1 hk)), be := h1.be.grown gr bs (fun j e => (row_lt h1.row e).1), ja := ?_, row := by simpa using o', off := fun g e => ?_ }⟩
  · have q := h1.ja
    have lt := q.lt
    unfold JAt at q ⊢
    rw [gr.block J lt (fun e => (h1.off J e.symm).2 rfl)]
    exact q
  · obtain rfl : P = g := by simpa [Value.ownBlock] using e
    rcases hat with e | e
    · exact h1.off _ e
    · exact ⟨fun hk => by have := h1.dk.lt hk; omega, fun e2 => by have := h1.ja.lt; omega⟩
theorem as_open (h : AS w wr D J nx v vs rs z) (hT : Tabs w) :
    Calls Tryd.prog 16 #[.pointer (some ⟨D, 0, none⟩), .int .i64 3, .int .i64 57, .int .i64 9] wr fun e w' => ∃ (a : Option Addr) (c J' : Nat), e = .returned (.tuple #[.pointer (some ⟨J', 0, none⟩), .slice a rs.length c, .int .i64 0]) ∧
      JAt w' J' D 3 57 9 nx false ∧ RowsAt w' a rs.length rs ∧ Below wr.heap.size wr w' := by
  have hn := h.num
  obtain ⟨m, d, h⟩ := h
  have hD : MyD w wr D 60 d := ⟨m, h.mD, h.dk, h.ow, h.be⟩
  have hO := my_open hD 3 57 9 hT (by omega) (by omega) (by omega) (by omega) (fun xs hc hr s s1 s2 => h.cl s (by rw [(ring_told hc hr h.sd h.cl).2] at s1; exact s1))
  refine hO.mono ?_
  rintro e w' ⟨xs, a, c, rfl, hr, hc, hJ, ow, rs', b⟩
  obtain ⟨e1, e2⟩ := ring_told hc hr h.sd h.cl
  rw [e2] at hJ
  have el : xs.length = rs.length := by rw [← e1, List.length_map]
  refine ⟨a, c, _, by rw [el], hJ.ja, ⟨rfl, ?_⟩, b⟩
  by_cases h0 : rs.length = 0
  · exact .inl h0
  · right
    obtain ⟨g, c', e3, _, _⟩ := ow.form (by omega)
    cases e3
    refine ⟨g, 0, rfl, fun j hj => ?_⟩
    have hj' : j < xs.length := by omega
    have q := ow.cellAt j (by omega)
    have r := rs' xs[j] (List.getElem_mem hj')
    obtain ⟨g1, o1, c1, v1, sn1, _, _⟩ := r
    have el2 : xs[j].l = rs[j] := by simp [← e1]
    rw [el2] at v1 sn1
    refine ⟨some ⟨g1, o1, none⟩, c1, ?_, sn1⟩
    rw [← v1]
    simpa [hj'] using q
end
/-- What was appended, as the law keeps it. -/
def ALike (w : World) (vs : List Value) (rs : List (List (BitVec 8))) : Prop := vs.length = rs.length ∧ ∀ j (h : j < rs.length), ∃ a c, vs[j]? = some (.slice a rs[j].length c) ∧ Seen w a rs[j].length rs[j]
theorem ALike.snoc {w : World} {vs : List Value} {rs : List (List (BitVec 8))} (h : ALike w vs rs) {a : Option Addr} {c : Nat} {b : List (BitVec 8)} (hS : Seen w a b.length b) : ALike w (vs ++ [.slice a b.length c]) (rs ++ [b]) := by
  obtain ⟨h1, h2⟩ := h
  refine ⟨by simp [h1], fun j hj => ?_⟩
  by_cases e : j < rs.length
  · obtain ⟨a', c', q1, q2⟩ := h2 j e
    refine ⟨a', c', ?_, ?_⟩
    · rw [List.getElem?_append_left (by omega), List.getElem_append_left e]; exact q1
    · rw [List.getElem_append_left e]; exact q2
  · have e2 : j = rs.length := by simp at hj; omega
    subst e2
    refine ⟨a, c, ?_, ?_⟩
    · simp [← h1]
    · simpa using hS
theorem ALike.rows {w wr : World} {vs : List Value} {rs : List (List (BitVec 8))} {v : Value} {B : Nat} (h : ALike w vs rs) (hb : Below w.heap.size w wr) (ho : wr.ownsRow B 22 1 v vs.length vs) : ∃ a c, v = .slice a rs.length c ∧ RowsAt wr a rs.length rs := by
  obtain ⟨h1, h2⟩ := h
  by_cases h0 : rs.length = 0
  · rcases ho.2 with ⟨e1, e2⟩ | ⟨g, c, cur, e1, _⟩
    · exact ⟨none, 0, by rw [e1, h0], rfl, .inl h0⟩
    · exact ⟨some ⟨g, 0, none⟩, c, by rw [e1, h1], rfl, .inl h0⟩
  · obtain ⟨g, c, e, _, _⟩ := ho.form (by omega)
    subst e
    refine ⟨some ⟨g, 0, none⟩, c, by rw [h1], rfl, .inr ⟨g, 0, rfl, fun j hj => ?_⟩⟩
    obtain ⟨a, c', q1, q2⟩ := h2 j hj
    refine ⟨a, c', ?_, q2.below hb⟩
    have := ho.cellAt j (by omega)
    simp only [Nat.zero_add] at this ⊢
    rw [this]
    simpa using q1
set_option maxRecDepth 100000 in
set_option maxHeartbeats 2000000 in
theorem again_any (times : Int) (la : Option Addr) (ln lc : Nat) (ps : List (List (BitVec 8))) (sa : Option Addr) (LN sc : Nat) (bs : Nat → Bool) (w : World) (hT : Tabs w) (hl : LAt w la ln ps) (hB : BoolsAt w sa LN bs) (h0 : -9223372036854775808 ≤ times) (h1 : times ≤ 9223372036854775807) :
    Calls Tryd.prog 8 #[.slice la ln lc, .slice sa LN sc, .int .i64 times] w fun e w' => e = .returned (.bool true) ∧ Below w.heap.size w w' := by
  have HT : Hid (Tabs w) := hT
  have HL : Hid (LAt w la ln ps) := hl
  have HB : Hid (BoolsAt w sa LN bs) := hB
  obtain ⟨C, eC⟩ : ∃ C : Nat, times % 3 = (C : Int) := ⟨(times % 3).toNat, by omega⟩
  have HCB : Hid (C ≤ 2) := by show _ ≤ _; omega
  have HC : ∀ W, Calls Tryd.prog 28 #[.int .i64 times, .int .i64 3] W fun e w1 => e = .returned (.int .i64 (C : Int)) ∧ w1 = W := fun W => by rw [← eC]; exact count_any times 3 W h0 h1 (by omega) (by omega)
  have wC : IntKind.i64.wrap ((1 : Int) + (C : Int)) = (C : Int) + 1 := by rw [IntKind.wrap_i64]; omega
  have HN : Calls Tryd.prog 15 #[.int .i64 60] w _ := my_new 60 w w (Below.refl _ _) (by omega) (by omega)
  clear hT hl h0 h1 eC hB
  go_enter Tryd.func8, Tryd.ntmps8
  go_wp2_with fail
  refine HN.mono ?_
  clear HN
  rintro e w1 ⟨D, rfl, hD, b1⟩
  have HO : Calls Tryd.prog 16 #[.pointer (some ⟨D, 0, none⟩), .int .i64 3, .int .i64 57, .int .i64 9] w1 _ := my_open hD 3 57 9 HT.out (by omega) (by omega) (by omega) (by omega) (fun xs _ _ s _ _ => new_bad _ _ _)
  clear hD b1
  go_wp2_with fail
  refine HO.mono ?_
  clear HO
  rintro e w2 ⟨xs, a, c, rfl, _, hc, hJ, _, _, _⟩
  obtain rfl := new_chain hc
  clear hc
  have hJ : MyJ w w2 D w1.heap.size 60 (newD 60) 3 57 9 9 := hJ
  obtain ⟨J, eJ⟩ : ∃ J, w1.heap.size = J := ⟨_, rfl⟩
  rw [eJ] at hJ
  rw [eJ]
  clear eJ
  have HJ : Hid (AS w w2 D J 9 (.slice none 0 0) [] [] 0) := by
    obtain ⟨m, e, q, o, b0, j, nj, gj⟩ := hJ
    exact ⟨m, _, ⟨e, q, o, b0, j, nj, gj, World.ownsRow_nil _ _ _ _, fun g e => (by cases e), rfl, rfl, Nat.le_refl _, clear_new _ _ _ _, rfl, by omega⟩⟩
  clear hJ
  go_wp2_with fail
  go_loopw [12, 13] (fun av kv wr => ∃ (k nx : Nat) (vs : List Value) (rs : List (List (BitVec 8))) (av' : Value), av' = av ∧ kv = .int .i64 (k : Int) ∧ Hid (k ≤ 20 ∧ k ≤ ps.length) ∧ Hid (AS w wr D J nx av' vs rs (100 * k)) ∧ Hid (ALike w vs rs ∧ rs.length ≤ k)) (fun _ kv _ => 20 - (intOf kv).toNat)
  case atStart => exact ⟨0, 9, [], [], _, rfl, rfl, ⟨by omega, by omega⟩, HJ.out, ⟨⟨rfl, fun j hj => by simp at hj⟩, by simp⟩⟩
  case round =>
    clear HJ
    obtain ⟨k, nx, vs, rs, av', rfl, rfl, hk, hS, hA⟩ := hrel
    have hln : ln = ps.length := HL.out.1
    by_cases hlt : k < ps.length ∧ k < 20
    · obtain ⟨b, off, rfl, hcell⟩ : ∃ b off, la = some ⟨b, off, none⟩ ∧ ∀ j (hj : j < ps.length), ∃ a' c', w.cell? ⟨b, off + j, none⟩ = some (.slice a' ps[j].length c') ∧ Seen w a' ps[j].length ps[j] ∧ (a' = none → c' = 0) := by
        rcases HL.out.2 with h | h
        · omega
        · exact h
      obtain ⟨p, hpk⟩ : ∃ p, ps[k] = p := ⟨_, rfl⟩
      have hcellk := hcell k hlt.1
      rw [hpk] at hcellk
      obtain ⟨a', c', e1, e2, e3⟩ := hcellk
      have h1 : (k : Int) < (ln : Int) := by omega
      have h2 : (k : Int) < 20 := by omega
      have hkl : k < ln := by omega
      have E1 : Hid (w.cell? ⟨b, off + k, none⟩ = some (.slice a' p.length c')) := e1
      have E2 : Hid (Seen w a' p.length p) := e2
      have HK : Hid (k < ps.length ∧ k < 20) := hlt
      clear hpk hlt hcell e1 e2 e3 hln
      have d0 : wr.cell? ⟨b, off + k, none⟩ = some (.slice a' p.length c') := by rw [hS.out.bel.cell (p := ⟨b, off + k, none⟩) (World.block_lt_of_cell? w _ E1.out)]; exact E1.out
      have wk : IntKind.i64.wrap ((k : Int) + 1) = (k : Int) + 1 := by rw [IntKind.wrap_i64]; have := HK.out; omega
      by_cases h8 : p.length ≤ 8192
      · by_cases hf : nx + secs p.length ≤ 66
        · have HA := as_append hS.out HT.out a' c' p (E2.out.below hS.out.bel) h8 hf (by have := HK.out; omega)
          have HVL : Hid (vs.length ≤ 20) := by show vs.length ≤ 20; have := hA.out.1.1; have := hA.out.2; have := HK.out; omega
          clear h8 hf
          go_wp2_with fail
          refine HA.mono ?_
          clear HA
          rintro e w4 ⟨rfl, r4⟩
          have d4 : w4.cell? ⟨b, off + k, none⟩ = some (.slice a' p.length c') := by rw [r4.bel.cell (p := ⟨b, off + k, none⟩) (World.block_lt_of_cell? w _ E1.out)]; exact E1.out
          obtain ⟨P, cP, w5, hr5, r5⟩ := as_grow r4 (by have := HVL.out; omega) (.slice a' p.length c') rfl
          have HR5 : Hid _ := hr5
          have R5 : Hid (AS w w5 D J (nx + secs p.length) (.slice (some ⟨P, 0, none⟩) (vs.length + 1) cP) (vs ++ [.slice a' p.length c']) (rs ++ [p]) (100 * k + 100)) := r5
          have AL2 : Hid (ALike w (vs ++ [.slice a' p.length c']) (rs ++ [p]) ∧ (rs ++ [p]).length ≤ k + 1) := ⟨hA.out.1.snoc E2.out, by have := hA.out.2; simp; omega⟩
          clear r4 r5 hr5 d0 hS hA
          have tok : True := trivial
          have d7 : LN ≤ k → ¬ ((k : Int) < (LN : Int)) := fun h => by omega
          by_cases hs : k < LN
          · obtain ⟨sb, so, rfl, hsc⟩ : ∃ b off, sa = some ⟨b, off, none⟩ ∧ ∀ j, j < LN → w.cell? ⟨b, off + j, none⟩ = some (.bool (bs j)) := by
              rcases HB.out with h | h
              · omega
              · exact h
            have s1 : (k : Int) < (LN : Int) := by omega
            have c1 : w5.cell? ⟨sb, so + k, none⟩ = some (.bool (bs k)) := by rw [R5.out.bel.cell (p := ⟨sb, so + k, none⟩) (World.block_lt_of_cell? w _ (hsc k hs))]; exact hsc k hs
            clear d7 hsc
            by_cases hb : bs k = true
            · rw [hb] at c1
              clear hb hs
              go_wp2_with (at_builtin; have _t := tok; refine wpList_value rfl (exec_app (.tmp 57) (.tmp 62) 31 rfl rfl rfl HR5.out) ?_; clear tok HR5)
              refine (as_sync R5.out).mono ?_
              rintro e w9 ⟨rfl, r9⟩
              have R9 : Hid (AS w w9 D J (nx + secs p.length) (Value.slice (some ⟨P, 0, none⟩) (vs.length + 1) cP) (vs ++ [Value.slice a' p.length c']) (rs ++ [p]) 100) := r9
              clear r9 c1
              go_wp2
              go_roundw
              case rel => exact ⟨k + 1, (nx + secs p.length), (vs ++ [Value.slice a' p.length c']), (rs ++ [p]), (Value.slice (some ⟨P, 0, none⟩) (vs.length + 1) cP), rfl, rfl, ⟨by have := HK.out; omega, by have := HK.out; omega⟩, R9.out.moreH (by have := HK.out; omega), AL2.out⟩
              case measure => exact less_by HK.out.2
            · have hb' : bs k = false := by simpa using hb
              rw [hb'] at c1
              clear hb hs hb'
              go_wp2_with (at_builtin; have _t := tok; refine wpList_value rfl (exec_app (.tmp 57) (.tmp 62) 31 rfl rfl rfl HR5.out) ?_; clear tok HR5)
              go_roundw
              case rel => exact ⟨k + 1, (nx + secs p.length), (vs ++ [Value.slice a' p.length c']), (rs ++ [p]), (Value.slice (some ⟨P, 0, none⟩) (vs.length + 1) cP), rfl, rfl, ⟨by have := HK.out; omega, by have := HK.out; omega⟩, R5.out.moreH (by have := HK.out; omega), AL2.out⟩
              case measure => exact less_by HK.out.2
          · have s1 := d7 (by omega)
            clear d7 hs
            go_wp2_with (at_builtin; have _t := tok; refine wpList_value rfl (exec_app (.tmp 57) (.tmp 62) 31 rfl rfl rfl HR5.out) ?_; clear tok HR5)
            go_roundw
            case rel => exact ⟨k + 1, (nx + secs p.length), (vs ++ [Value.slice a' p.length c']), (rs ++ [p]), (Value.slice (some ⟨P, 0, none⟩) (vs.length + 1) cP), rfl, rfl, ⟨by have := HK.out; omega, by have := HK.out; omega⟩, R5.out.moreH (by have := HK.out; omega), AL2.out⟩
            case measure => exact less_by HK.out.2
        · have HA := as_full hS.out a' p.length c' h8 (by omega)
          have AL2 : Hid (ALike w vs rs ∧ rs.length ≤ k + 1) := ⟨hA.out.1, by have := hA.out.2; omega⟩
          clear h8 hf hA
          go_wp2_with fail
          refine HA.mono ?_
          clear HA hS d0
          rintro e w5 ⟨rfl, r5⟩
          have R5 : Hid (AS w w5 D J nx av' vs rs (100 * k)) := r5
          clear r5
          have d7 : LN ≤ k → ¬ ((k : Int) < (LN : Int)) := fun h => by omega
          by_cases hs : k < LN
          · obtain ⟨sb, so, rfl, hsc⟩ : ∃ b off, sa = some ⟨b, off, none⟩ ∧ ∀ j, j < LN → w.cell? ⟨b, off + j, none⟩ = some (.bool (bs j)) := by
              rcases HB.out with h | h
              · omega
              · exact h
            have s1 : (k : Int) < (LN : Int) := by omega
            have c1 : w5.cell? ⟨sb, so + k, none⟩ = some (.bool (bs k)) := by rw [R5.out.bel.cell (p := ⟨sb, so + k, none⟩) (World.block_lt_of_cell? w _ (hsc k hs))]; exact hsc k hs
            clear d7 hsc
            by_cases hb : bs k = true
            · rw [hb] at c1
              clear hb hs
              go_wp2_with fail
              refine (as_sync R5.out).mono ?_
              rintro e w9 ⟨rfl, r9⟩
              have R9 : Hid (AS w w9 D J nx av' vs rs 100) := r9
              clear r9 c1
              go_wp2
              go_roundw
              case rel => exact ⟨k + 1, nx, vs, rs, av', rfl, rfl, ⟨by have := HK.out; omega, by have := HK.out; omega⟩, R9.out.moreH (by have := HK.out; omega), AL2.out⟩
              case measure => exact less_by HK.out.2
            · have hb' : bs k = false := by simpa using hb
              rw [hb'] at c1
              clear hb hs hb'
              go_wp2
              go_roundw
              case rel => exact ⟨k + 1, nx, vs, rs, av', rfl, rfl, ⟨by have := HK.out; omega, by have := HK.out; omega⟩, R5.out.moreH (by have := HK.out; omega), AL2.out⟩
              case measure => exact less_by HK.out.2
          · have s1 := d7 (by omega)
            clear d7 hs
            go_wp2
            go_roundw
            case rel => exact ⟨k + 1, nx, vs, rs, av', rfl, rfl, ⟨by have := HK.out; omega, by have := HK.out; omega⟩, R5.out.moreH (by have := HK.out; omega), AL2.out⟩
            case measure => exact less_by HK.out.2
      · have HA := as_size hS.out a' p.length c' (by omega)
        have AL2 : Hid (ALike w vs rs ∧ rs.length ≤ k + 1) := ⟨hA.out.1, by have := hA.out.2; omega⟩
        clear h8 hA
        go_wp2_with fail
        refine HA.mono ?_
        clear HA hS d0
        rintro e w5 ⟨rfl, r5⟩
        have R5 : Hid (AS w w5 D J nx av' vs rs (100 * k)) := r5
        clear r5
        have d7 : LN ≤ k → ¬ ((k : Int) < (LN : Int)) := fun h => by omega
        by_cases hs : k < LN
        · obtain ⟨sb, so, rfl, hsc⟩ : ∃ b off, sa = some ⟨b, off, none⟩ ∧ ∀ j, j < LN → w.cell? ⟨b, off + j, none⟩ = some (.bool (bs j)) := by
            rcases HB.out with h | h
            · omega
            · exact h
          have s1 : (k : Int) < (LN : Int) := by omega
          have c1 : w5.cell? ⟨sb, so + k, none⟩ = some (.bool (bs k)) := by rw [R5.out.bel.cell (p := ⟨sb, so + k, none⟩) (World.block_lt_of_cell? w _ (hsc k hs))]; exact hsc k hs
          clear d7 hsc
          by_cases hb : bs k = true
          · rw [hb] at c1
            clear hb hs
            go_wp2_with fail
            refine (as_sync R5.out).mono ?_
            rintro e w9 ⟨rfl, r9⟩
            have R9 : Hid (AS w w9 D J nx av' vs rs 100) := r9
            clear r9 c1
            go_wp2
            go_roundw
            case rel => exact ⟨k + 1, nx, vs, rs, av', rfl, rfl, ⟨by have := HK.out; omega, by have := HK.out; omega⟩, R9.out.moreH (by have := HK.out; omega), AL2.out⟩
            case measure => exact less_by HK.out.2
          · have hb' : bs k = false := by simpa using hb
            rw [hb'] at c1
            clear hb hs hb'
            go_wp2
            go_roundw
            case rel => exact ⟨k + 1, nx, vs, rs, av', rfl, rfl, ⟨by have := HK.out; omega, by have := HK.out; omega⟩, R5.out.moreH (by have := HK.out; omega), AL2.out⟩
            case measure => exact less_by HK.out.2
        · have s1 := d7 (by omega)
          clear d7 hs
          go_wp2
          go_roundw
          case rel => exact ⟨k + 1, nx, vs, rs, av', rfl, rfl, ⟨by have := HK.out; omega, by have := HK.out; omega⟩, R5.out.moreH (by have := HK.out; omega), AL2.out⟩
          case measure => exact less_by HK.out.2
    · obtain ⟨aA, cA, eA, rA⟩ := hA.out.1.rows hS.out.bel hS.out.row
      subst eA
      have RA : Hid (RowsAt wr aA rs.length rs) := rA
      have NX : Hid (rs.length ≤ 20 ∧ ∃ vs z, AS w wr D J nx (.slice aA rs.length cA) vs rs z) := ⟨by have := hA.out.2; have := hk.out; omega, _, _, hS.out⟩
      clear rA hA
      by_cases hk2 : k < ps.length
      · have h1 : (k : Int) < (ln : Int) := by omega
        have h2 : ¬ ((k : Int) < 20) := by omega
        clear hlt hk2 hln hS
        go_wp2_with fail
        obtain ⟨wo, rfl⟩ : ∃ wo : World, wo = wr := ⟨_, rfl⟩
        go_loopw [14] (fun kv wr => ∃ K : Nat, kv = .int .i64 (K : Int) ∧ Hid (K ≤ C + 1) ∧ Hid (Below wo.heap.size wo wr)) (fun kv _ => 4 - (intOf kv).toNat)
        case atStart => exact ⟨0, rfl, Nat.zero_le _, Below.refl _ _⟩
        case round =>
          obtain ⟨K, rfl, hK, hW⟩ := hrel
          have NXr : Hid (∃ vs z, AS w wr D J nx (.slice aA rs.length cA) vs rs z) := by obtain ⟨_, vs, z, x⟩ := NX.out; exact ⟨vs, z, x.below hW.out⟩
          have RAr : Hid (RowsAt wr aA rs.length rs) := RA.out.below hW.out
          by_cases hlt : K < C + 1
          · have h1 : (K : Int) < (C : Int) + 1 := by omega
            have HK : Hid (K < C + 1) := hlt
            have wK : IntKind.i64.wrap ((K : Int) + 1) = (K : Int) + 1 := by rw [IntKind.wrap_i64]; have := HK.out; have := HCB.out; omega
            obtain ⟨vs2, z2, x2⟩ := NXr.out
            have HO := as_open x2 HT.out
            clear x2
            clear hlt
            go_wp2_with fail
            refine (HC _).mono ?_
            rintro e w3 ⟨rfl, hw⟩
            subst w3
            go_wp2_with fail
            refine HO.mono ?_
            clear HO
            rintro e w4 ⟨a4, c4, J4, rfl, j4, r4, b4⟩
            have HSm := sameAll_any a4 aA rs.length c4 rs.length cA rs rs w4 r4 (RAr.out.below b4) (by have := NX.out.1; omega)
            rw [decide_eq_true rfl] at HSm
            have J4' : Hid (JAt w4 J4 D 3 57 9 nx false) := j4
            have JJ : Hid (JAt w4 J D 3 57 9 nx false) := by obtain ⟨vs, z, x⟩ := NXr.out; exact (x.below b4).ja
            have B4 : Hid (Below wo.heap.size wo w4) := hW.out.trans (b4.mono hW.out.size)
            clear j4 r4 b4
            go_wp2_with fail
            refine HSm.mono ?_
            clear HSm
            rintro e w5 ⟨rfl, n5, rfl⟩
            have HX4 := next_any (J4'.out.below (below_drewN w4 n5))
            have HXJ := next_any (JJ.out.below (below_drewN w4 n5))
            go_wp2_with fail
            refine HX4.mono ?_
            clear HX4
            rintro e w6 ⟨rfl, hw⟩
            subst w6
            go_wp2_with fail
            refine HXJ.mono ?_
            clear HXJ
            rintro e w6 ⟨rfl, hw⟩
            subst w6
            go_wp2
            go_roundw
            case rel => exact ⟨K + 1, rfl, by have := HK.out; show _ ≤ _; omega, B4.out.trans ((below_drewN w4 n5).mono B4.out.size)⟩
            case measure => exact less_by (show K < 4 by have := HK.out; have := HCB.out; omega)
          · have h1 : ¬ ((K : Int) < (C : Int) + 1) := by omega
            have h2 : ¬ ((K : Int) ≤ (C : Int)) := by omega
            clear hlt
            go_wp2_with fail
            refine (HC _).mono ?_
            rintro e w3 ⟨rfl, hw⟩
            subst w3
            have BW : Hid (Below w.heap.size w wr) := by obtain ⟨vs, z, x⟩ := NXr.out; exact x.bel
            go_wp2_with fail
            refine (knownJ_any _ (HT.out.below BW.out HT.out.size)).mono ?_
            rintro e w9 ⟨rfl, b9⟩
            have B9 : Hid (Below w.heap.size w w9) := BW.out.trans (b9.mono BW.out.size)
            clear b9
            go_wp2
            go_ret
            exact ⟨rfl, B9.out⟩
      · have h1 : ¬ ((k : Int) < (ln : Int)) := by omega
        clear hlt hk2 hln hS
        go_wp2_with fail
        obtain ⟨wo, rfl⟩ : ∃ wo : World, wo = wr := ⟨_, rfl⟩
        go_loopw [14] (fun kv wr => ∃ K : Nat, kv = .int .i64 (K : Int) ∧ Hid (K ≤ C + 1) ∧ Hid (Below wo.heap.size wo wr)) (fun kv _ => 4 - (intOf kv).toNat)
        case atStart => exact ⟨0, rfl, Nat.zero_le _, Below.refl _ _⟩
        case round =>
          obtain ⟨K, rfl, hK, hW⟩ := hrel
          have NXr : Hid (∃ vs z, AS w wr D J nx (.slice aA rs.length cA) vs rs z) := by obtain ⟨_, vs, z, x⟩ := NX.out; exact ⟨vs, z, x.below hW.out⟩
          have RAr : Hid (RowsAt wr aA rs.length rs) := RA.out.below hW.out
          by_cases hlt : K < C + 1
          · have h1 : (K : Int) < (C : Int) + 1 := by omega
            have HK : Hid (K < C + 1) := hlt
            have wK : IntKind.i64.wrap ((K : Int) + 1) = (K : Int) + 1 := by rw [IntKind.wrap_i64]; have := HK.out; have := HCB.out; omega
            obtain ⟨vs2, z2, x2⟩ := NXr.out
            have HO := as_open x2 HT.out
            clear x2
            clear hlt
            go_wp2_with fail
            refine (HC _).mono ?_
            rintro e w3 ⟨rfl, hw⟩
            subst w3
            go_wp2_with fail
            refine HO.mono ?_
            clear HO
            rintro e w4 ⟨a4, c4, J4, rfl, j4, r4, b4⟩
            have HSm := sameAll_any a4 aA rs.length c4 rs.length cA rs rs w4 r4 (RAr.out.below b4) (by have := NX.out.1; omega)
            rw [decide_eq_true rfl] at HSm
            have J4' : Hid (JAt w4 J4 D 3 57 9 nx false) := j4
            have JJ : Hid (JAt w4 J D 3 57 9 nx false) := by obtain ⟨vs, z, x⟩ := NXr.out; exact (x.below b4).ja
            have B4 : Hid (Below wo.heap.size wo w4) := hW.out.trans (b4.mono hW.out.size)
            clear j4 r4 b4
            go_wp2_with fail
            refine HSm.mono ?_
            clear HSm
            rintro e w5 ⟨rfl, n5, rfl⟩
            have HX4 := next_any (J4'.out.below (below_drewN w4 n5))
            have HXJ := next_any (JJ.out.below (below_drewN w4 n5))
            go_wp2_with fail
            refine HX4.mono ?_
            clear HX4
            rintro e w6 ⟨rfl, hw⟩
            subst w6
            go_wp2_with fail
            refine HXJ.mono ?_
            clear HXJ
            rintro e w6 ⟨rfl, hw⟩
            subst w6
            go_wp2
            go_roundw
            case rel => exact ⟨K + 1, rfl, by have := HK.out; show _ ≤ _; omega, B4.out.trans ((below_drewN w4 n5).mono B4.out.size)⟩
            case measure => exact less_by (show K < 4 by have := HK.out; have := HCB.out; omega)
          · have h1 : ¬ ((K : Int) < (C : Int) + 1) := by omega
            have h2 : ¬ ((K : Int) ≤ (C : Int)) := by omega
            clear hlt
            go_wp2_with fail
            refine (HC _).mono ?_
            rintro e w3 ⟨rfl, hw⟩
            subst w3
            have BW : Hid (Below w.heap.size w wr) := by obtain ⟨vs, z, x⟩ := NXr.out; exact x.bel
            go_wp2_with fail
            refine (knownJ_any _ (HT.out.below BW.out HT.out.size)).mono ?_
            rintro e w9 ⟨rfl, b9⟩
            have B9 : Hid (Below w.heap.size w w9) := BW.out.trans (b9.mono BW.out.size)
            clear b9
            go_wp2
            go_ret
            exact ⟨rfl, B9.out⟩
end Go.Proofs.YtikpmaecbfebkaaDoor
