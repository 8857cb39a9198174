/- The reference's disk in memory: what it is, and what changes in it. -/
import Derived.Test.YtnpebdnfdbeiaaaRMem
namespace Go.Proofs.Ytnpebdnfdbeiaaa
open Go.RowKit
set_option linter.unusedVariables false

/-- Where the reference's disk lies. -/
structure RM where
  R : Nat
  sv : Value
  lv : Value
  gs : List Nat
  gl : List Nat
def RM.own (m : RM) (k : Nat) : Prop := k = m.R ∨ m.sv.ownBlock = some k ∨ m.lv.ownBlock = some k
def RM.all (m : RM) (k : Nat) : Prop := m.own k ∨ k ∈ m.gs ∨ k ∈ m.gl
/-- The cells of writes. -/
def lcells : List (Nat × List (BitVec 8)) → List Nat → List Value
  | x :: ws, g :: gl => .int .i64 (x.1 : Int) :: sl g :: lcells ws gl
  | _, _ => []
theorem lcells_snoc : ∀ (ws : List (Nat × List (BitVec 8))) (gl : List Nat) (x : Nat × List (BitVec 8)) (g : Nat), gl.length = ws.length → lcells (ws ++ [x]) (gl ++ [g]) = lcells ws gl ++ [.int .i64 (x.1 : Int), sl g]
  | [], [], x, g, _ => rfl
  | y :: ws, h :: gl, x, g, e => by
    show _ :: _ :: lcells (ws ++ [x]) (gl ++ [g]) = _
    rw [lcells_snoc ws gl x g (by simpa using e)]
    rfl
theorem lcells_length : ∀ (ws : List (Nat × List (BitVec 8))) (gl : List Nat), gl.length = ws.length → (lcells ws gl).length = ws.length * 2
  | [], [], _ => rfl
  | y :: ws, h :: gl, e => by
    show (lcells ws gl).length + 1 + 1 = _
    rw [lcells_length ws gl (by simpa using e)]
    simp
    omega
theorem lcells_at : ∀ (ws : List (Nat × List (BitVec 8))) (gl : List Nat) (k : Nat) (h : k < ws.length) (h' : k < gl.length), (lcells ws gl)[k * 2]? = some (.int .i64 (ws[k].1 : Int)) ∧ (lcells ws gl)[k * 2 + 1]? = some (sl gl[k])
  | y :: ws, g :: gl, 0, _, _ => ⟨rfl, rfl⟩
  | y :: ws, g :: gl, k + 1, h, h' => by
    obtain ⟨a, b⟩ := lcells_at ws gl k (by simpa using h) (by simpa using h')
    have e1 : (k + 1) * 2 = k * 2 + 1 + 1 := by omega
    rw [e1]
    exact ⟨a, b⟩
structure RDsk (w : World) (m : RM) (n : Nat) (s : DS) : Prop where
  ok : s.ok n
  hd : w.heap[m.R]? = some (.cells #[m.sv, m.lv, .bool s.fa, .bool s.fu, .bool s.de] 39 (0, 0))
  hs : w.ownsRow 0 22 1 m.sv n (m.gs.map sl)
  hl : w.ownsRow 0 69 2 m.lv s.ws.length (lcells s.ws m.gl)
  lg : m.gl.length = s.ws.length
  cs : ∀ i (h : i < m.gs.length), Con w m.gs[i] (sec s.img i)
  cl : ∀ i (h : i < m.gl.length) (h' : i < s.ws.length), Con w m.gl[i] s.ws[i].2
section
variable {w : World} {m : RM} {n : Nat} {s : DS}
theorem RDsk.ls (h : RDsk w m n s) : m.gs.length = n := by have := h.hs.1; rw [List.length_map] at this; omega
theorem RDsk.lt (h : RDsk w m n s) {k : Nat} (hk : m.all k) : k < w.heap.size := by
  rcases hk with (e | e | e) | e | e
  · rw [e]; exact (Array.getElem?_eq_some_iff.1 h.hd).1
  · exact (h.hs.lt k e).2
  · exact (h.hl.lt k e).2
  · obtain ⟨i, hi, rfl⟩ := List.getElem_of_mem e
    exact (h.cs i hi).lt
  · obtain ⟨i, hi, rfl⟩ := List.getElem_of_mem e
    exact (h.cl i hi (by rw [← h.lg]; exact hi)).lt
theorem RDsk.same (h : RDsk w m n s) {w' : World} (k : ∀ g, m.all g → w'.heap[g]? = w.heap[g]?) : RDsk w' m n s :=
  ⟨h.ok, by rw [k m.R (.inl (.inl rfl))]; exact h.hd, owns_same h.hs (fun g e => k g (.inl (.inr (.inl e)))), owns_same h.hl (fun g e => k g (.inl (.inr (.inr e)))), h.lg, fun i hi => (h.cs i hi).same (k _ (.inr (.inl (List.getElem_mem hi)))), fun i hi h' => (h.cl i hi h').same (k _ (.inr (.inr (List.getElem_mem hi))))⟩
theorem RDsk.below (h : RDsk w m n s) {w' : World} (b : Below w.heap.size w w') : RDsk w' m n s := h.same fun g hg => b.block g (h.lt hg)
theorem RDsk.cells (h : RDsk w m n s) : w.cell? ⟨m.R, 0, none⟩ = some m.sv ∧ w.cell? ⟨m.R, 1, none⟩ = some m.lv ∧ w.cell? ⟨m.R, 2, none⟩ = some (.bool s.fa) ∧ w.cell? ⟨m.R, 3, none⟩ = some (.bool s.fu) ∧ w.cell? ⟨m.R, 4, none⟩ = some (.bool s.de) ∧ ∀ i, w.frozen? ⟨m.R, i, none⟩ = false := by
  simp [World.cell?, World.frozen?, h.hd]
theorem RDsk.sform (h : RDsk w m n s) : ∃ g c, m.sv = .slice (some ⟨g, 0, none⟩) n c := by
  rcases h.hs.2 with ⟨e, h0⟩ | ⟨g, c, cur, e, _⟩
  · have := h.ok.n1; omega
  · exact ⟨g, c, e⟩
theorem RDsk.lform (h : RDsk w m n s) : ∃ a c, m.lv = .slice a s.ws.length c := by
  rcases h.hl.2 with ⟨e, h0⟩ | ⟨g, c, cur, e, _⟩
  · exact ⟨none, 0, by rw [e, h0]⟩
  · exact ⟨some ⟨g, 0, none⟩, c, e⟩
theorem RDsk.s_at (h : RDsk w m n s) {g c : Nat} (e : m.sv = .slice (some ⟨g, 0, none⟩) n c) {i : Nat} (hi : i < m.gs.length) : w.cell? ⟨g, i, none⟩ = some (sl m.gs[i]) ∧ w.frozen? ⟨g, i, none⟩ = false := by
  have hs := h.hs
  rw [e] at hs
  refine ⟨?_, hs.frozenAt i⟩
  rw [hs.cellAt i (by have := h.ls; omega)]
  simp [hi]
theorem RDsk.l_at (h : RDsk w m n s) {i : Nat} (hi : i < s.ws.length) : ∃ g c, ∃ hg : i < m.gl.length, m.lv = .slice (some ⟨g, 0, none⟩) s.ws.length c ∧ w.cell? ⟨g, i * 2, none⟩ = some (.int .i64 (s.ws[i].1 : Int)) ∧ w.cell? ⟨g, i * 2 + 1, none⟩ = some (sl m.gl[i]) := by
  rcases h.hl.2 with ⟨_, h0⟩ | ⟨g, c, cur, e, _⟩
  · omega
  · have hg : i < m.gl.length := by rw [h.lg]; exact hi
    have hl := h.hl
    rw [e] at hl
    obtain ⟨h1, h2⟩ := lcells_at s.ws m.gl i hi hg
    exact ⟨g, c, hg, e, by rw [hl.cellAt _ (by omega)]; exact h1, by rw [hl.cellAt _ (by omega)]; exact h2⟩
end
/-- Nothing else has changed. -/
structure ROnly (m : RM) (w w' : World) : Prop where
  os : w'.os = w.os
  tape : w'.tape = w.tape
  output : w'.output = w.output
  size : w.heap.size ≤ w'.heap.size
  block : ∀ k, k < w.heap.size → ¬ m.own k → w'.heap[k]? = w.heap[k]?
structure RM.next (m m' : RM) (N : Nat) : Prop where
  R : m'.R = m.R
  own : ∀ k, m'.own k → m.own k ∨ N ≤ k
  all : ∀ k, m'.all k → m.all k ∨ N ≤ k
theorem ROnly.refl (m : RM) (w : World) : ROnly m w w := ⟨rfl, rfl, rfl, Nat.le_refl _, fun _ _ _ => rfl⟩
theorem RM.next.refl (m : RM) (N : Nat) : m.next m N := ⟨rfl, fun k h => .inl h, fun k h => .inl h⟩
theorem ROnly.of_below {m : RM} {w w' : World} (h : Below w.heap.size w w') : ROnly m w w' := ⟨h.os, h.tape, h.output, h.size, fun k hk _ => h.block k hk⟩
theorem ROnly.trans {m m' : RM} {a b c : World} (h : ROnly m a b) (n : m.next m' a.heap.size) (k : ROnly m' b c) : ROnly m a c :=
  ⟨k.os.trans h.os, k.tape.trans h.tape, k.output.trans h.output, Nat.le_trans h.size k.size, fun i hi ho => by
    rw [k.block i (Nat.lt_of_lt_of_le hi h.size) (fun e => (n.own i e).elim ho (fun x => by omega)), h.block i hi ho]⟩
theorem RM.next.trans {m m' m'' : RM} {N N' : Nat} (h : m.next m' N) (k : m'.next m'' N') (hN : N ≤ N') : m.next m'' N :=
  ⟨k.R.trans h.R, fun i hi => (k.own i hi).elim (h.own i) (fun e => .inr (Nat.le_trans hN e)), fun i hi => (k.all i hi).elim (h.all i) (fun e => .inr (Nat.le_trans hN e))⟩
theorem ROnly.set {m : RM} {w : World} {k i : Nat} (hk : m.own k) (v : Value) : ROnly m w (w.setCell ⟨k, i, none⟩ v) :=
  ⟨rfl, rfl, rfl, by simp, fun j hj ho => Below.heap_setCell _ _ _ j (fun e => ho ((show j = k by simpa using e) ▸ hk))⟩
section
variable {w : World} {m : RM} {n : Nat} {s : DS}
/-- R's own block is no other one. -/
theorem RDsk.ne_R (h : RDsk w m n s) {t : TypeId} {cur : Array Value} {k : Nat} (hk : w.heap[k]? = some (.cells cur t (0, 0))) (ht : t ≠ 39) : k ≠ m.R := fun e => by
  rw [e, h.hd] at hk
  cases hk
  exact ht rfl
theorem RDsk.R_s (h : RDsk w m n s) {k : Nat} (e : m.sv.ownBlock = some k) : k ≠ m.R := by obtain ⟨cur, hk⟩ := owns_block h.hs e; exact h.ne_R hk (by decide)
theorem RDsk.R_l (h : RDsk w m n s) {k : Nat} (e : m.lv.ownBlock = some k) : k ≠ m.R := by obtain ⟨cur, hk⟩ := owns_block h.hl e; exact h.ne_R hk (by decide)
theorem RDsk.R_c (h : RDsk w m n s) {k : Nat} {l : List (BitVec 8)} (c : Con w k l) : k ≠ m.R := by obtain ⟨cur, hk⟩ := owns_block c rfl; exact h.ne_R hk (by decide)
theorem RDsk.s_l (h : RDsk w m n s) {k j : Nat} (e : m.sv.ownBlock = some k) (e' : m.lv.ownBlock = some j) : j ≠ k := fun x => owns_ne h.hs h.hl (by decide) e (by rw [e', x])
theorem RDsk.s_c (h : RDsk w m n s) {k j : Nat} {l : List (BitVec 8)} (e : m.sv.ownBlock = some k) (c : Con w j l) : j ≠ k := fun x => owns_ne h.hs c (by decide) e (by rw [x]; rfl)
theorem RDsk.l_c (h : RDsk w m n s) {k j : Nat} {l : List (BitVec 8)} (e : m.lv.ownBlock = some k) (c : Con w j l) : j ≠ k := fun x => owns_ne h.hl c (by decide) e (by rw [x]; rfl)
/-- The disk's own block has changed. -/
theorem RDsk.head (h : RDsk w m n s) {w' : World} {lv : Value} {gl : List Nat} {s' : DS} (hR : w'.heap[m.R]? = some (.cells #[m.sv, lv, .bool s'.fa, .bool s'.fu, .bool s'.de] 39 (0, 0))) (hk : ∀ k, k ≠ m.R → w'.heap[k]? = w.heap[k]?) (ok : s'.ok n) (hi : s'.img = s.img)
    (hl : w'.ownsRow 0 69 2 lv s'.ws.length (lcells s'.ws gl)) (lg : gl.length = s'.ws.length) (cl : ∀ i (h : i < gl.length) (h' : i < s'.ws.length), Con w' gl[i] s'.ws[i].2) : RDsk w' { m with lv := lv, gl := gl } n s' :=
  ⟨ok, hR, owns_same h.hs (fun g e => hk g (h.R_s e)), hl, lg, fun i hi' => by rw [hi]; exact (h.cs i hi').same (hk _ (h.R_c (h.cs i hi'))), cl⟩
theorem RDsk.flag (h : RDsk w m n s) {w' : World} {s' : DS} (hR : w'.heap[m.R]? = some (.cells #[m.sv, m.lv, .bool s'.fa, .bool s'.fu, .bool s'.de] 39 (0, 0))) (hk : ∀ k, k ≠ m.R → w'.heap[k]? = w.heap[k]?) (hi : s'.img = s.img) (hn : s'.now = s.now) (hw : s'.ws = s.ws) : RDsk w' m n s' := by
  refine h.head (lv := m.lv) (gl := m.gl) hR hk ⟨h.ok.n1, h.ok.n2, by rw [hi]; exact h.ok.li, by rw [hn]; exact h.ok.ln, by rw [hw]; exact h.ok.lw, by rw [hw]; exact h.ok.lk⟩ hi ?_ (by rw [hw]; exact h.lg) ?_
  · rw [hw]; exact owns_same h.hl (fun g e => hk g (h.R_l e))
  · intro i h1 h2
    have h3 : i < s.ws.length := by rw [← h.lg]; exact h1
    have e : s'.ws[i] = s.ws[i] := by simp [hw]
    rw [e]
    exact (h.cl i h1 h3).same (hk _ (h.R_c (h.cl i h1 h3)))
/-- One of what is safe is another one. -/
theorem RDsk.put (h : RDsk w m n s) {g c i G : Nat} {P : List (BitVec 8)} (e : m.sv = .slice (some ⟨g, 0, none⟩) n c) (hi : i < n) (hP : Con w G P) : RDsk (w.setCell ⟨g, i, none⟩ (sl G)) { m with gs := m.gs.set i G } n { s with img := patch s.img i P } := by
  have ls := h.ls
  have hp := hP.len
  have hs := h.hs
  rw [e] at hs
  have eo : m.sv.ownBlock = some g := by rw [e]; rfl
  have far : ∀ k, k ≠ g → (w.setCell ⟨g, i, none⟩ (sl G)).heap[k]? = w.heap[k]? := fun k hk => Below.heap_setCell _ _ _ k (fun e => hk (by simpa using e))
  refine ⟨⟨h.ok.n1, h.ok.n2, patch_ok h.ok.li hi (by omega), h.ok.ln, h.ok.lw, h.ok.lk⟩, by rw [far _ (fun x => h.R_s eo x.symm)]; exact h.hd, ?_, owns_same h.hl (fun k e' => far k (h.s_l eo e')), h.lg, fun j hj => ?_, fun j h1 h2 => (h.cl j h1 h2).same (far _ (h.s_c eo (h.cl j h1 h2)))⟩
  · show World.ownsRow _ _ _ _ m.sv n ((m.gs.set i G).map sl)
    rw [e, List.map_set]
    exact (hs.stored i (sl G)).1
  · show Con _ (m.gs.set i G)[j] (sec (patch s.img i P) j)
    have hj' : j < m.gs.length := by simpa using hj
    by_cases x : i = j
    · subst x
      rw [List.getElem_set_self, sec_patch_same (by have := h.ok.li; omega) hp]
      exact hP.same (far _ (h.s_c eo hP))
    · rw [List.getElem_set_ne x, sec_patch_ne (by have := h.ok.li; omega) (by omega) x]
      exact (h.cs j hj').same (far _ (h.s_c eo (h.cs j hj')))
end
/-- What is told of a call. -/
structure RDo (w w' : World) (m m' : RM) (n : Nat) (s' : DS) : Prop where
  d : RDsk w' m' n s'
  o : ROnly m w w'
  n : m.next m' w.heap.size
end Go.Proofs.Ytnpebdnfdbeiaaa
