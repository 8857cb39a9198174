/- What lies behind a write. -/
import Derived.Test.YtikpmaecbfebkaaDoorDWz
import Derived.Deep.AppendLies
namespace Go.Proofs.YtikpmaecbfebkaaDoor
open Go.RowKit
set_option linter.unusedVariables false

section
variable {ρ : Operand → Value} {o : Oper} {w : World}
theorem exec_buildW {x : Operand} {i : Int} (ho : o.op = .build 95 #[(0, x)]) (hx : ρ x = .int .i64 i) : (execOp ρ o).run Tryd.prog w = .ok (.value (.agg (wz i))) w := by
  unfold execOp
  simp only [ho, List.map_toArray, List.map_cons, List.map_nil, hx, Sem.run_bind, run_buildW, Result.andThen_ok, Sem.run_pure]
theorem exec_allocW (ho : o.op = .alloc 95) : (execOp ρ o).run Tryd.prog w = .ok (.value (.pointer (some ⟨w.heap.size, 0, none⟩))) (w.alloc (.cells (wz 0) 95)) := by
  unfold execOp
  simp only [ho, Sem.run_bind, run_allocW, Result.andThen_ok, Sem.run_pure]
theorem exec_sliceW {x : Operand} {G : Nat} (ho : o.op = .slice 93 x none none none) (hx : ρ x = .pointer (some ⟨G, 1, none⟩)) : (execOp ρ o).run Tryd.prog w = .ok (.value (.slice (some ⟨G, 1, none⟩) 256 256)) w := by
  unfold execOp
  simp only [ho, hx, Option.map_none, Sem.run_bind, run_sliceW, Result.andThen_ok, Sem.run_pure]
theorem exec_rowW {x : Operand} {cs : Array Value} (ho : o.op = .buildSlice 67 1 #[(0, x)]) (hx : ρ x = .agg cs) (hc : cs.size = 257) : (execOp ρ o).run Tryd.prog w = .ok (.value (.slice (some ⟨w.heap.size, 0, none⟩) 1 1)) (w.alloc (.cells cs 95)) := by
  unfold execOp
  simp only [ho, List.map_toArray, List.map_cons, List.map_nil, hx, Sem.run_bind, run_rowW w cs hc, Result.andThen_ok, Sem.run_pure]
theorem exec_appendW {s y : Operand} {t : TypeId} {u x v : Value} {w' : World} (ho : o.op = .call { callee := .builtin .append, args := #[s, y], argTypes := #[t, t] }) (hs : ρ s = u) (hx : ρ y = x) (hr : (Builtin.append_ #[t, t] o.type #[u, x]).run Tryd.prog w = .ok v w') : (execOp ρ o).run Tryd.prog w = .ok (.value v) w' := by
  unfold execOp
  simp only [ho, resolve, invoke, builtin, Sem.run_bind, Sem.run_pure, Result.andThen_ok, List.map_toArray, List.map_cons, List.map_nil, hs, hx, hr]
end
theorem wcell_length {i : Nat} {p : List (BitVec 8)} (hp : p.length = 256) : (wcell (i, p)).length = 257 := by simp [wcell, cellsOf, hp]
theorem wcell_one {i : Nat} {p : List (BitVec 8)} : ∀ u ∈ wcell (i, p), u.oneCell' = true := by
  intro u hu
  rcases List.mem_cons.1 hu with rfl | hu
  · rfl
  · exact one_cells' p u hu
theorem wz_one (i : Int) : (wz i).all (·.oneCell') = true := by kernel_rfl
theorem wz_list (i : Int) : (wz i).toList = .int .i64 i :: cellsOf (List.replicate 256 0#8) := by
  simp only [wz, cellsOf, List.map_replicate, Array.toList_append, Array.toList_replicate]
  rfl
/-- The bytes that were handed in are copied behind the sector's number. -/
theorem copy_new (w : World) (i : Nat) (a : Option Addr) (len cap : Nat) (b : List (BitVec 8)) (h : Seen w a len b) (hl : len ≤ 256) :
    ∃ v, (Builtin.copy_ #[22, 22] 3 #[.slice (some ⟨w.heap.size, 1, none⟩) 256 256, .slice a len cap]).run Tryd.prog (w.alloc (.cells (wz i) 95)) = .ok v (w.alloc (.cells (wcell (i, pad b)).toArray 95)) := by
  have hlen : len = b.length := h.1
  by_cases h0 : len = 0
  · refine ⟨goInt 0, ?_⟩
    rw [run_copy_none _ _ _ 3 5 _ _ 256 256 len cap Tryd.underlying22 info5s (by rw [h0]; rfl)]
    have hb : b = [] := List.eq_nil_of_length_eq_zero (by omega)
    have e : wz i = (wcell (i, pad b)).toArray := by
      apply Array.toList_inj.1
      rw [wz_list, hb]
      rfl
    rw [e]
  · have hs := h.below ((Below.refl _ w).alloc (Nat.le_refl _) (.cells (wz i) 95))
    obtain ⟨_, h2, h3⟩ := hs
    rcases h3 with h3 | ⟨g, off, rfl, hc⟩
    · omega
    · have hsrc : ∀ j v, (cellsOf b)[j]? = some v → (w.alloc (.cells (wz i) 95)).cell? ((⟨g, off, none⟩ : Addr).add j) = some v := fun j v hj => by
        have hj1 : j < b.length := by have := (List.getElem?_eq_some_iff.1 hj).1; rwa [cellsOf_length] at this
        rw [Addr.add_lit, hc j hj1, ← hj]
        simp [cellsOf, hj1]
      have hr := run_copy_row (P := Tryd.prog) (w.alloc (.cells (wz i) 95)) 22 22 3 5 w.heap.size 1 256 256 ⟨g, off, none⟩ len cap (wz i) 95 (cellsOf b) Tryd.underlying22 info5s (heap_alloc_new w _)
        (by rw [cellsOf_length]; show b.length = min len 256; omega) hsrc (by rw [cellsOf_length, wz_size]; omega) (one_cells' b)
      rw [World.setRow_alloc_new] at hr
      have e1 : List.take 1 (Value.int .i64 (i : Int) :: cellsOf (List.replicate 256 0#8)) = [.int .i64 (i : Int)] := by rw [List.take_succ_cons, List.take_zero]
      have e2 : List.drop (1 + b.length) (Value.int .i64 (i : Int) :: cellsOf (List.replicate 256 0#8)) = cellsOf (List.replicate (256 - b.length) 0#8) := by
        rw [Nat.add_comm, List.drop_succ_cons]
        unfold cellsOf
        rw [← List.map_drop, List.drop_replicate]
      have e3 : List.take 1 (wz i).toList ++ cellsOf b ++ List.drop (1 + (cellsOf b).length) (wz i).toList = wcell (i, pad b) := by
        rw [wz_list, cellsOf_length, e1, e2]
        unfold wcell pad
        rw [cellsOf_append]
        rfl
      rw [e3] at hr
      exact ⟨_, hr⟩
/-- What is read has changed in one sector. -/
theorem Dsk.set_now {w w' : World} {m : DM} {n : Nat} {s : DS} (h : Dsk w m n s) (X : List (BitVec 8)) (hX : X.length = 256 * n) (o : w'.ownsRow 0 5 1 (.slice (some ⟨m.gn, 0, none⟩) (256 * n) m.cn) (256 * n) (cellsOf X)) (j : Just m.gn w w') : Dsk w' m n { s with now := X } := by
  have nw : ∀ {t : TypeId} {x : Value} {k sz : Nat} {xs : List Value}, w.ownsRow 0 t sz x k xs → t ≠ 5 → x.ownBlock ≠ some m.gn := fun ho ht e => by
    rcases ho.2 with ⟨rfl, _⟩ | ⟨g, c, cur, rfl, _, hg, _⟩
    · cases e
    · obtain rfl : g = m.gn := by simpa [Value.ownBlock] using e
      rcases h.hn.2 with ⟨e2, _⟩ | ⟨g2, c2, cur2, e2, _, hg2, _⟩
      · cases e2
      · cases e2
        rw [hg2] at hg
        cases hg
        exact ht rfl
  have nD : m.D ≠ m.gn := fun e => by
    rcases h.hn.2 with ⟨e2, _⟩ | ⟨g2, c2, cur2, e2, _, hg2, _⟩
    · cases e2
    · cases e2
      rw [← e, h.hd] at hg2
      cases hg2
  refine ⟨⟨h.ok.n1, h.ok.n2, h.ok.li, hX, h.ok.lw, h.ok.lk⟩, by rw [j.block _ nD]; exact h.hd, owns_same h.hi (fun g e => ?_), o, owns_same h.hw (fun g e => j.block g (fun e2 => nw h.hw (by decide) (by rw [e, e2]))), h.ne⟩
  obtain rfl : m.gi = g := by simpa [Value.ownBlock] using e
  exact j.block _ h.ne
theorem Dsk.set_img {w w' : World} {m : DM} {n : Nat} {s : DS} (h : Dsk w m n s) (X : List (BitVec 8)) (hX : X.length = 256 * n) (o : w'.ownsRow 0 5 1 (.slice (some ⟨m.gi, 0, none⟩) (256 * n) m.ci) (256 * n) (cellsOf X)) (j : Just m.gi w w') : Dsk w' m n { s with img := X } := by
  have nw : ∀ {t : TypeId} {x : Value} {k sz : Nat} {xs : List Value}, w.ownsRow 0 t sz x k xs → t ≠ 5 → x.ownBlock ≠ some m.gi := fun ho ht e => by
    rcases ho.2 with ⟨rfl, _⟩ | ⟨g, c, cur, rfl, _, hg, _⟩
    · cases e
    · obtain rfl : g = m.gi := by simpa [Value.ownBlock] using e
      rcases h.hi.2 with ⟨e2, _⟩ | ⟨g2, c2, cur2, e2, _, hg2, _⟩
      · cases e2
      · cases e2
        rw [hg2] at hg
        cases hg
        exact ht rfl
  have nD : m.D ≠ m.gi := fun e => by
    rcases h.hi.2 with ⟨e2, _⟩ | ⟨g2, c2, cur2, e2, _, hg2, _⟩
    · cases e2
    · cases e2
      rw [← e, h.hd] at hg2
      cases hg2
  refine ⟨⟨h.ok.n1, h.ok.n2, hX, h.ok.ln, h.ok.lw, h.ok.lk⟩, by rw [j.block _ nD]; exact h.hd, o, owns_same h.hn (fun g e => ?_), owns_same h.hw (fun g e => j.block g (fun e2 => nw h.hw (by decide) (by rw [e, e2]))), h.ne⟩
  obtain rfl : m.gn = g := by simpa [Value.ownBlock] using e
  exact j.block _ (Ne.symm h.ne)
/-- The sector of what is read is written. -/
theorem Dsk.patch_now {w : World} {m : DM} {n : Nat} {s : DS} (h : Dsk w m n s) {i : Nat} (hi : i < n) (a : Option Addr) (sc : Nat) (p : List (BitVec 8)) (hp : Seen w a 256 p) (ty : TypeId) :
    ∃ v w', (Builtin.copy_ #[22, 22] ty #[.slice (some ⟨m.gn, 256 * i, none⟩) 256 256, .slice a 256 sc]).run Tryd.prog w = .ok v w' ∧ Dsk w' m n { s with now := patch s.now i p } ∧ Just m.gn w w' := by
  have hl := h.ok.ln
  have hpl : p.length = 256 := hp.1.symm
  obtain ⟨w', hr, o, j⟩ := copy_bytes w 0 m.gn (256 * n) m.cn (256 * i) 256 256 s.now h.hn a 256 sc p hp (by simp; omega) ty
  have e : s.now.take (256 * i) ++ p.take 256 ++ s.now.drop (256 * i + min 256 256) = patch s.now i p := by
    unfold patch
    rw [List.take_of_length_le (l := p) (by omega), hpl]
    rfl
  rw [e] at o
  exact ⟨_, w', hr, h.set_now _ (patch_ok hl hi (by omega)) o j, j⟩
/-- The image, from a sector's beginning on, is written. -/
theorem Dsk.patch_img {w : World} {m : DM} {n : Nat} {s : DS} (h : Dsk w m n s) {i : Nat} (hi : i < n) (a : Option Addr) (sl sc : Nat) (p : List (BitVec 8)) (hp : Seen w a sl p) (hs : sl ≤ 256) (ty : TypeId) :
    ∃ v w', (Builtin.copy_ #[22, 22] ty #[.slice (some ⟨m.gi, 256 * i, none⟩) 256 256, .slice a sl sc]).run Tryd.prog w = .ok v w' ∧ Dsk w' m n { s with img := patch s.img i p } ∧ Just m.gi w w' := by
  have hl := h.ok.li
  have hpl : p.length = sl := hp.1.symm
  have hmin : min sl 256 = p.length := by omega
  obtain ⟨w', hr, o, j⟩ := copy_bytes w 0 m.gi (256 * n) m.ci (256 * i) 256 256 s.img h.hi a sl sc p hp (by omega) ty
  have e : s.img.take (256 * i) ++ p.take 256 ++ s.img.drop (256 * i + min sl 256) = patch s.img i p := by
    unfold patch
    rw [List.take_of_length_le (l := p) (by omega), hmin]
  rw [e] at o
  exact ⟨_, w', hr, h.set_img _ (patch_ok hl hi (by omega)) o j, j⟩
/-- A write more waits. -/
theorem Dsk.wait {w : World} {m : DM} {n : Nat} {s : DS} (h : Dsk w m n s) {i : Nat} (hi : i < n) (p : List (BitVec 8)) (hp : p.length = 256) (hk : s.ws.length < 1000000) :
    ∃ v w1, (Builtin.append_ #[67, 67] 67 #[m.wv, .slice (some ⟨w.heap.size, 0, none⟩) 1 1]).run Tryd.prog (w.alloc (.cells (wcell (i, p)).toArray 95)) = .ok v w1 ∧ w1.cell? ⟨m.D, 2, none⟩ = some m.wv ∧ w1.frozen? ⟨m.D, 2, none⟩ = false ∧ (∃ ad l c, v = .slice ad l c) ∧
      Dsk (w1.setCell ⟨m.D, 2, none⟩ v) { m with wv := v } n { s with ws := s.ws ++ [(i, p)] } ∧ Only m w (w1.setCell ⟨m.D, 2, none⟩ v) ∧ m.next { m with wv := v } w.heap.size := by
  obtain ⟨i0, hi0, hz0, hz1, hz2⟩ := info_parts infoW
  have hA := (Below.refl w.heap.size w).alloc (Nat.le_refl _) (.cells (wcell (i, p)).toArray 95)
  have h1 := h.below hA
  have hnews : ∀ j u, (wcell (i, p))[j]? = some u → (w.alloc (.cells (wcell (i, p)).toArray 95)).cell? ((⟨w.heap.size, 0, none⟩ : Addr).add j) = some u := fun j u hj => by
    rw [Addr.add_lit]
    simp only [World.cell?, heap_alloc_new, Nat.zero_add]
    simpa using hj
  obtain ⟨g, cap, w1, hr, o1, g1, hat, hlt⟩ := run_append_lies (P := Tryd.prog) (w.alloc (.cells (wcell (i, p)).toArray 95)) 67 67 0 95 i0 (.agg (wz 0)) 257 264 Tryd.underlying67 hi0 hz0 hz1 hz2 (wz_size 0) (by omega) m.wv s.ws.length (wcells s.ws) h1.hw
    ⟨w.heap.size, 0, none⟩ 1 1 (wcell (i, p)) (by rw [wcell_length hp]) hnews wcell_one (by omega) (by unfold maxLen; omega) (by omega) (Nat.zero_le _) (w.heap.size + 1) (by simp)
  have hDne : m.wv.ownBlock ≠ some m.D := fun e => by
    rcases h.hw.2 with ⟨e1, _⟩ | ⟨g2, c2, cur2, e1, _, hg2, _⟩
    · rw [e1] at e; cases e
    · rw [e1] at e
      obtain rfl : g2 = m.D := by simpa [Value.ownBlock] using e
      rw [h.hd] at hg2
      cases hg2
  have hine : m.wv.ownBlock ≠ some m.gi := fun e => by
    rcases h.hw.2 with ⟨e1, _⟩ | ⟨g2, c2, cur2, e1, _, hg2, _⟩
    · rw [e1] at e; cases e
    · rw [e1] at e
      obtain rfl : g2 = m.gi := by simpa [Value.ownBlock] using e
      rcases h.hi.2 with ⟨e2, _⟩ | ⟨g3, c3, cur3, e2, _, hg3, _⟩
      · cases e2
      · cases e2; rw [hg3] at hg2; cases hg2
  have hnne : m.wv.ownBlock ≠ some m.gn := fun e => by
    rcases h.hw.2 with ⟨e1, _⟩ | ⟨g2, c2, cur2, e1, _, hg2, _⟩
    · rw [e1] at e; cases e
    · rw [e1] at e
      obtain rfl : g2 = m.gn := by simpa [Value.ownBlock] using e
      rcases h.hn.2 with ⟨e2, _⟩ | ⟨g3, c3, cur3, e2, _, hg3, _⟩
      · cases e2
      · cases e2; rw [hg3] at hg2; cases hg2
  have lD := h.lt (.inl rfl : m.own m.D)
  have li := h.lt (.inr (.inl rfl) : m.own m.gi)
  have ln := h.lt (.inr (.inr (.inl rfl)) : m.own m.gn)
  have kD : w1.heap[m.D]? = w.heap[m.D]? := by rw [g1.block _ (by simp; omega) (fun e => hDne e.symm), hA.block _ lD]
  have ki : w1.heap[m.gi]? = w.heap[m.gi]? := by rw [g1.block _ (by simp; omega) (fun e => hine e.symm), hA.block _ li]
  have kn : w1.heap[m.gn]? = w.heap[m.gn]? := by rw [g1.block _ (by simp; omega) (fun e => hnne e.symm), hA.block _ ln]
  have hd1 : w1.heap[m.D]? = _ := kD.trans h.hd
  have gD : g ≠ m.D := fun e => by
    rcases hat with h2 | h2
    · exact hDne (by rw [h2, e])
    · omega
  have iD : m.gi ≠ m.D := fun e => by
    rcases h.hi.2 with ⟨e2, _⟩ | ⟨g3, c3, cur3, e2, _, hg3, _⟩
    · cases e2
    · cases e2; rw [e, h.hd] at hg3; cases hg3
  have nD : m.gn ≠ m.D := fun e => by
    rcases h.hn.2 with ⟨e2, _⟩ | ⟨g3, c3, cur3, e2, _, hg3, _⟩
    · cases e2
    · cases e2; rw [e, h.hd] at hg3; cases hg3
  have far : ∀ k, k ≠ m.D → (w1.setCell ⟨m.D, 2, none⟩ (.slice (some ⟨g, 0, none⟩) (s.ws.length + 1) cap)).heap[k]? = w1.heap[k]? := fun k hk => Below.heap_setCell _ _ _ k (fun e => hk (by simpa using e))
  refine ⟨_, w1, hr, by simp [World.cell?, hd1], by simp [World.frozen?, hd1], ⟨_, _, _, rfl⟩, ⟨⟨h.ok.n1, h.ok.n2, h.ok.li, h.ok.ln, fun x hx => ?_, by show (s.ws ++ [(i, p)]).length ≤ _; rw [List.length_append]; exact hk⟩, ?_, ?_, ?_, ?_, h.ne⟩, ⟨?_, ?_, ?_, ?_, fun k hkk ho => ?_⟩, ⟨rfl, rfl, rfl, fun k e => ?_⟩⟩
  · rcases List.mem_append.1 hx with hx | hx
    · exact h.ok.lw x hx
    · rw [List.mem_singleton.1 hx]; exact ⟨hi, hp⟩
  · have := block_put hd1 2 (.slice (some ⟨g, 0, none⟩) (s.ws.length + 1) cap)
    simpa using this
  · refine owns_same h.hi (fun k e => ?_)
    obtain rfl : m.gi = k := by simpa [Value.ownBlock] using e
    rw [far _ iD, ki]
  · refine owns_same h.hn (fun k e => ?_)
    obtain rfl : m.gn = k := by simpa [Value.ownBlock] using e
    rw [far _ nD, kn]
  · have e2 : (s.ws ++ [(i, p)]).length = s.ws.length + 1 := by simp
    show World.ownsRow _ 0 _ 257 _ (s.ws ++ [(i, p)]).length _
    rw [e2, wcells_append]
    refine owns_same (w := w1) ?_ (fun k e => ?_)
    · have e3 : wcells [(i, p)] = wcell (i, p) := by simp [wcells]
      rw [e3]; exact o1
    · obtain rfl : g = k := by simpa [Value.ownBlock] using e
      exact far _ gD
  · exact g1.os
  · exact g1.tape
  · exact g1.output
  · have := g1.size; simp at this ⊢; omega
  · have hkD : k ≠ m.D := fun e => ho (.inl e)
    rw [far k hkD, g1.block k (by simp; omega) (fun e => ho (.inr (.inr (.inr e.symm)))), hA.block k hkk]
  · obtain rfl : g = k := by simpa [Value.ownBlock] using e
    exact hat.imp id (fun h2 => by omega)
end Go.Proofs.YtikpmaecbfebkaaDoor
