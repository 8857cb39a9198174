/- DiskSafe: a disk of six sectors, rows beside it, and a list of calls that grows. -/
import Derived.Test.YtdgeepaffjkknaaDHold
import Derived.Deep.AppendLies
import Derived.Deep.RegionHeld
namespace Go.Proofs.Ytdgeepaffjkknaa
open Go.RowKit
set_option linter.unusedVariables false

def opCell (o : OpX) : List Value := [.int .i64 o.k, .int .i64 o.n, .slice o.ba o.b.length o.bc, .slice o.la o.zs.length o.lc]
def opCells (os : List OpX) : List Value := os.flatMap opCell
theorem opCells_length (os : List OpX) : (opCells os).length = os.length * 4 := by
  induction os with
  | nil => rfl
  | cons o os ih =>
    have : opCells (o :: os) = opCell o ++ opCells os := rfl
    rw [this, List.length_append, ih]
    simp [opCell]
    omega
theorem opCells_snoc (os : List OpX) (o : OpX) : opCells (os ++ [o]) = opCells os ++ opCell o := by simp [opCells]
theorem opCells_at : ∀ (os : List OpX) (k : Nat) (hk : k < os.length) (j : Nat), j < 4 → (opCells os)[k * 4 + j]? = (opCell os[k])[j]?
  | o :: os, 0, hk, j, hj => by
    have : opCells (o :: os) = opCell o ++ opCells os := rfl
    rw [this, List.getElem?_append_left (by simp [opCell]; omega)]
    simp
  | o :: os, k + 1, hk, j, hj => by
    have : opCells (o :: os) = opCell o ++ opCells os := rfl
    rw [this, List.getElem?_append_right (by simp [opCell]; omega)]
    have e : (k + 1) * 4 + j - (opCell o).length = k * 4 + j := by simp [opCell]; omega
    rw [e, opCells_at os k (by simpa using hk) j hj]
    rfl
theorem infoO : (Try.prog.info? 44).map (fun i => (i.zero, i.size, i.bytes)) = some (some (.agg #[.int .i64 0, .int .i64 0, .slice none 0 0, .slice none 0 0]), 4, 64) := by kernel_rfl
/-- A disk of the law's own, rows of bytes that are no part of it, and a list of calls. -/
def Keep (w0 w : World) (D : Nat) (s : DS) (rs : List (Nat × List (BitVec 8))) (v : Value) (ls : List OpX) : Prop := ∃ m : DM, m.D = D ∧ Mine w0 w m 6 s ∧ (∀ r ∈ rs, Seen w (some ⟨r.1, 0, none⟩) r.2.length r.2 ∧ r.1 < w.heap.size ∧ ¬ m.own r.1) ∧
  w.ownsRow w0.heap.size 44 4 v ls.length (opCells ls) ∧ ∀ k, v.ownBlock = some k → ¬ m.own k ∧ ∀ r ∈ rs, r.1 ≠ k
theorem keep_lt {w : World} {base : Nat} {t : TypeId} {sz n : Nat} {v : Value} {xs : List Value} (h : w.ownsRow base t sz v n xs) {k : Nat} (e : v.ownBlock = some k) : base ≤ k ∧ k < w.heap.size := by
  rcases h.2 with ⟨e1, _⟩ | ⟨g, c, cur, e1, hb, hg, _⟩
  · rw [e1] at e; cases e
  · rw [e1] at e
    obtain rfl : g = k := by simpa [Value.ownBlock] using e
    exact ⟨hb, (Array.getElem?_eq_some_iff.1 hg).1⟩
section
variable {w0 w : World} {D : Nat} {s : DS} {rs : List (Nat × List (BitVec 8))} {v : Value} {ls : List OpX}
theorem Keep.low (h : Keep w0 w D s rs v ls) : Below w0.heap.size w0 w := by obtain ⟨m, _, h, _⟩ := h; exact h.b
theorem Keep.ok (h : Keep w0 w D s rs v ls) : s.ok 6 := by obtain ⟨m, _, h, _⟩ := h; exact h.d.ok
theorem Keep.row (h : Keep w0 w D s rs v ls) {g : Nat} {l : List (BitVec 8)} (hr : (g, l) ∈ rs) : Seen w (some ⟨g, 0, none⟩) l.length l := by obtain ⟨m, _, _, h, _⟩ := h; exact (h _ hr).1
theorem Keep.below (h : Keep w0 w D s rs v ls) {w' : World} (b : Below w.heap.size w w') : Keep w0 w' D s rs v ls := by
  obtain ⟨m, e, h, k, o, q⟩ := h
  exact ⟨m, e, h.below b, fun r hr => ⟨Seen.below (k r hr).1 b, Nat.lt_of_lt_of_le (k r hr).2.1 b.size, (k r hr).2.2⟩, owns_same o (fun j e => b.block j (keep_lt o e).2), q⟩
theorem keep_step {m m' : DM} {w' : World} {s' : DS} (h : Mine w0 w m 6 s) (k : ∀ r ∈ rs, Seen w (some ⟨r.1, 0, none⟩) r.2.length r.2 ∧ r.1 < w.heap.size ∧ ¬ m.own r.1)
    (o : w.ownsRow w0.heap.size 44 4 v ls.length (opCells ls)) (q : ∀ k, v.ownBlock = some k → ¬ m.own k ∧ ∀ r ∈ rs, r.1 ≠ k) (r : DoR w w' m m' 6 s') : Keep w0 w' m.D s' rs v ls := by
  have ne : ∀ x, x < w.heap.size → ¬ m.own x → ¬ m'.own x := fun x hx hn ho => (r.n.own_of ho).elim hn (fun e => by omega)
  refine ⟨m', r.D, h.done r, fun x hx => ⟨(k x hx).1.block (r.o.block _ (k x hx).2.1 (k x hx).2.2), Nat.lt_of_lt_of_le (k x hx).2.1 r.o.size, ne _ (k x hx).2.1 (k x hx).2.2⟩, owns_same o (fun j e => r.o.block j (keep_lt o e).2 (q j e).1), fun j e => ⟨ne _ (keep_lt o e).2 (q j e).1, (q j e).2⟩⟩
theorem keep_do (h : Keep w0 w D s rs v ls) (o : OpX) (hat : o.At w0) (hk : s.ws.length < 1000000) (hz : o.b.length ≤ 140737488351232) :
    Calls Try.prog 13 #[.pointer (some ⟨D, 0, none⟩), .agg #[.int .i64 o.k, .int .i64 o.n, .slice o.ba o.b.length o.bc, .slice o.la o.zs.length o.lc]] w fun e w' => e = .returned (.int .i64 (doE 6 s o : Nat)) ∧ Keep w0 w' D (doD 6 s o) rs v ls := by
  obtain ⟨m, rfl, h, k, ow, q⟩ := h
  refine (do_any m 6 s o w0 w h.d h.b hat h.f hk (by omega)).mono ?_
  rintro e w' ⟨m', rfl, r⟩
  exact ⟨rfl, keep_step h k ow q r⟩
theorem keep_crash (h : Keep w0 w D s rs v ls) (a : Option Addr) (len cap : Nat) (zs : List Int) (hz : IAt w0 a len zs) : Calls Try.prog 18 #[.pointer (some ⟨D, 0, none⟩), .slice a len cap] w fun e w' => e = .returned (.int .i64 0) ∧ Keep w0 w' D (crashD s zs) rs v ls := by
  obtain ⟨m, rfl, h, k, ow, q⟩ := h
  refine (crash_any m 6 s a len cap zs w h.d (hz.below h.b) (fun y e hne ho => ?_)).mono ?_
  · have hy := h.f _ ho
    have hl : 0 < zs.length := List.length_pos_iff.2 hne
    rcases hz.2.2.2 with h0 | ⟨b, off, e', hc⟩
    · have := hz.1; omega
    · rw [e'] at e
      cases e
      have h1 := World.block_lt_of_cell? w0 _ (hc 0 hl)
      have h2 : b < w0.heap.size := h1
      have h3 : w0.heap.size ≤ b := hy
      omega
  · rintro e w' ⟨m', rfl, h1, h2, h3, h4⟩
    exact ⟨rfl, keep_step h k ow q ⟨h1, h2, h3, h4⟩⟩
theorem keep_image (h : Keep w0 w D s rs v ls) : Calls Try.prog 19 #[.pointer (some ⟨D, 0, none⟩)] w fun e w' => ∃ g c, e = .returned (.slice (some ⟨g, 0, none⟩) 1536 c) ∧ Keep w0 w' D s ((g, s.img) :: rs) v ls := by
  obtain ⟨m, rfl, h, k, ow, q⟩ := h
  refine (image_any m 6 s w h.d).mono ?_
  rintro e w' ⟨u, rfl, o, b⟩
  obtain ⟨g, c, rfl, _⟩ := owns_form o (by omega)
  have hg := keep_lt o (k := g) rfl
  have li := h.d.ok.li
  have sn : Seen w' (some ⟨g, 0, none⟩) s.img.length s.img := by
    have := seen_owned o li (by unfold maxLen; omega)
    rw [← li] at this
    exact this
  refine ⟨g, c, rfl, m, rfl, h.below b, fun r hr => ?_, owns_same ow (fun j e => b.block j (keep_lt ow e).2), fun j e => ⟨(q j e).1, fun r hr => ?_⟩⟩
  · rcases List.mem_cons.1 hr with rfl | hr
    · exact ⟨sn, hg.2, fun ho => by have := h.d.lt ho; omega⟩
    · exact ⟨Seen.below (k r hr).1 b, Nat.lt_of_lt_of_le (k r hr).2.1 b.size, (k r hr).2.2⟩
  · rcases List.mem_cons.1 hr with rfl | hr
    · have := (keep_lt ow e).2; show g ≠ j; omega
    · exact (q j e).2 r hr
theorem keep_append (h : Keep w0 w D s rs v ls) (o : OpX) (hn : ls.length ≤ 1000) :
    ∃ g c w', (Builtin.append_ #[23, 23] 23 #[v, .slice (some ⟨w.heap.size, 0, none⟩) 1 1]).run Try.prog (w.alloc (.cells #[.int .i64 o.k, .int .i64 o.n, .slice o.ba o.b.length o.bc, .slice o.la o.zs.length o.lc] 44)) = .ok (.slice (some ⟨g, 0, none⟩) (ls.length + 1) c) w' ∧ Keep w0 w' D s rs (.slice (some ⟨g, 0, none⟩) (ls.length + 1) c) (ls ++ [o]) := by
  have h1 := h.below ((Below.refl _ w).alloc (Nat.le_refl _) (.cells #[.int .i64 o.k, .int .i64 o.n, .slice o.ba o.b.length o.bc, .slice o.la o.zs.length o.lc] 44))
  obtain ⟨m, rfl, h, k, ow, q⟩ := h1
  obtain ⟨i0, hi, hz0, hz1, hz2⟩ := info_parts infoO
  obtain ⟨g', cap, w', hr, o', gr, hat, hlt⟩ := run_append_lies (P := Try.prog) (w.alloc (.cells #[.int .i64 o.k, .int .i64 o.n, .slice o.ba o.b.length o.bc, .slice o.la o.zs.length o.lc] 44)) 23 23 w0.heap.size 44 i0 _ 4 64 Try.underlying23 hi hz0 hz1 hz2 rfl (by omega) v ls.length (opCells ls) ow
    ⟨w.heap.size, 0, none⟩ 1 1 (opCell o) (by rfl) (World.news_of_block (cs := #[.int .i64 o.k, .int .i64 o.n, .slice o.ba o.b.length o.bc, .slice o.la o.zs.length o.lc]) (t := 44) (fr := (0, 0)) (heap_alloc_new w _)) (by simp [opCell, Value.oneCell']) (by omega) (by unfold maxLen; omega) (by omega) h.b.size _ rfl
  refine ⟨g', cap, w', hr, m, rfl, ⟨h.d.away gr (fun j e => (q j e).1), h.f, h.b.grown gr h.b.size (fun j e => (keep_lt ow e).1)⟩, fun r hr => ?_, ?_, fun j e => ?_⟩
  · have hb : w'.heap[r.1]? = (w.alloc (.cells #[.int .i64 o.k, .int .i64 o.n, .slice o.ba o.b.length o.bc, .slice o.la o.zs.length o.lc] 44)).heap[r.1]? := gr.block _ (k r hr).2.1 (fun e => (q r.1 e.symm).2 r hr rfl)
    exact ⟨(k r hr).1.block hb, Nat.lt_of_lt_of_le (k r hr).2.1 gr.size, (k r hr).2.2⟩
  · rw [opCells_snoc, List.length_append]
    exact o'
  · obtain rfl : g' = j := by simpa [Value.ownBlock] using e
    rcases hat with e | e
    · exact q _ e
    · exact ⟨fun ho => by have := h.d.lt ho; omega, fun r hr e2 => by have := (k r hr).2.1; omega⟩
/-- The cells of a call of the list. -/
theorem Keep.at (h : Keep w0 w D s rs v ls) {k : Nat} (hk : k < ls.length) {x : World} (b : Below w.heap.size w x) : ∃ g c, v = .slice (some ⟨g, 0, none⟩) ls.length c ∧ x.cell? ⟨g, k * 4 + 1, none⟩ = some (.int .i64 ls[k].n) ∧ x.cell? ⟨g, k * 4 + 2, none⟩ = some (.slice ls[k].ba ls[k].b.length ls[k].bc) := by
  obtain ⟨m, rfl, h, _, ow, q⟩ := h.below b
  rcases ow.2 with ⟨_, e0⟩ | ⟨g, c, cur, e1, _⟩
  · omega
  · refine ⟨g, c, e1, ?_, ?_⟩
    · have h1 := ow.cells (g := g) (by rw [e1]; rfl) (k * 4 + 1) _ (opCells_at ls k hk 1 (by omega))
      rw [Addr.add_lit, Nat.zero_add] at h1
      exact h1
    · have h1 := ow.cells (g := g) (by rw [e1]; rfl) (k * 4 + 2) _ (opCells_at ls k hk 2 (by omega))
      rw [Addr.add_lit, Nat.zero_add] at h1
      exact h1
end
theorem keep_new (w : World) : Calls Try.prog 5 #[.int .i64 6] w fun e w' => ∃ D, e = .returned (.tuple #[.pointer (some ⟨D, 0, none⟩), .int .i64 0]) ∧ Keep w w' D (newD 6) [] (.slice none 0 0) [] := by
  refine (new_any 6 w (by omega) (by omega)).mono ?_
  rintro e w' ⟨m, rfl, d, b, f⟩
  exact ⟨m.D, rfl, m, rfl, ⟨d, f, b⟩, (fun r hr => by cases hr), World.ownsRow_nil _ _ _ _, fun k e => by cases e⟩
theorem byte_at {x X : World} {g q : Nat} {l : List (BitVec 8)} (h : Seen x (some ⟨g, 0, none⟩) l.length l) (b : Below x.heap.size x X) (hq : q < l.length) : X.cell? ⟨g, q, none⟩ = some (.int .u8 (V (l.getD q 0#8))) := by
  rcases (Seen.below h b).2.2 with e | ⟨b', off, e, hc⟩
  · omega
  · cases e
    have := hc q hq
    rwa [Nat.zero_add] at this
/-- Each write that waits is of a call of the list. -/
def Told (ws : List (Nat × List (BitVec 8))) (ls : List OpX) : Prop := ∀ x ∈ ws, ∃ o ∈ ls, o.n = (x.1 : Int) ∧ x.2 = pad o.b ∧ o.b.length ≤ 256
theorem reachSome_from : ∀ (ws : List (Nat × List (BitVec 8))) (ks : List Int) (l : List (BitVec 8)) (n q : Nat), l.length = 256 * n → (∀ x ∈ ws, x.1 < n ∧ x.2.length = 256) → (reachSome l ws ks)[q]? = l[q]? ∨ ∃ x ∈ ws, x.1 = q / 256 ∧ (reachSome l ws ks)[q]? = x.2[q % 256]?
  | [], [], l, n, q, _, _ => .inl rfl
  | [], _ :: _, l, n, q, _, _ => .inl rfl
  | _ :: _, [], l, n, q, _, _ => .inl rfl
  | x :: ws, k :: ks, l, n, q, h, hw => by
    have hx := hw x List.mem_cons_self
    have hl : (x.2.take (clamp k)).length ≤ 256 := by simp; omega
    have hp : 256 * x.1 + (x.2.take (clamp k)).length ≤ l.length := by omega
    show (reachSome (patch l x.1 (x.2.take (clamp k))) ws ks)[q]? = _ ∨ ∃ y ∈ x :: ws, y.1 = q / 256 ∧ (reachSome (patch l x.1 (x.2.take (clamp k))) ws ks)[q]? = _
    rcases reachSome_from ws ks (patch l x.1 (x.2.take (clamp k))) n q (patch_ok h hx.1 hl) (fun y hy => hw y (List.mem_cons_of_mem _ hy)) with e | ⟨y, hy, e⟩
    · rw [e, patch_at hp]
      split
      · exact .inl rfl
      · split
        · rename_i h1 h2
          refine .inr ⟨x, List.mem_cons_self, by omega, ?_⟩
          rw [List.getElem?_take, if_pos (by simp at h2; omega)]
          congr 1
          omega
        · exact .inl rfl
    · exact .inr ⟨y, List.mem_cons_of_mem _ hy, e⟩
theorem pad_at {b : List (BitVec 8)} {j : Nat} (hb : b.length ≤ 256) (hj : j < 256) : (pad b)[j]? = some (b.getD j 0#8) := by
  unfold pad
  by_cases h : j < b.length
  · rw [List.getElem?_append_left h]
    simp [h]
  · rw [List.getElem?_append_right (by omega), List.getElem?_replicate, if_pos (by omega)]
    simp [List.getD, List.getElem?_eq_none (show b.length ≤ j by omega)]
/-- Each byte behind a crash is that which was safe, or that of some write. -/
theorem safe_byte {s : DS} (h : s.ok 6) {ls : List OpX} (t : Told s.ws ls) (zs : List Int) (i : Nat) (hi : i < 1536) : (crashD s zs).img.getD i 0#8 = s.img.getD i 0#8 ∨ ∃ k, ∃ hk : k < ls.length, ls[k].n = ((i / 256 : Nat) : Int) ∧ ls[k].b.getD (i % 256) 0#8 = (crashD s zs).img.getD i 0#8 := by
  have e0 : (crashD s zs).img = reachSome s.img s.ws zs := rfl
  rw [e0]
  rcases reachSome_from s.ws zs s.img 6 i h.li h.lw with e | ⟨x, hx, e1, e2⟩
  · left; simp [List.getD, e]
  · right
    obtain ⟨o, ho, h1, h2, h3⟩ := t x hx
    obtain ⟨k, hk, rfl⟩ := List.getElem_of_mem ho
    refine ⟨k, hk, by rw [h1, e1], ?_⟩
    rw [h2, pad_at h3 (Nat.mod_lt _ (by omega))] at e2
    show _ = (reachSome s.img s.ws zs).getD i 0#8
    rw [List.getD_eq_getElem?_getD (l := reachSome s.img s.ws zs), e2]
    rfl
theorem told_write {s : DS} {ls : List OpX} {o : OpX} (t : Told s.ws ls) (hk : o.k = 0 ∨ o.k = 1) (h0 : doE 6 s o = 0) : Told (doD 6 s o).ws (ls ++ [o]) ∧ (doD 6 s o).img = s.img := by
  have e1 : doE 6 s o = whyW 6 s o.n o.b := by unfold doE; rw [if_pos hk]
  have e2 : doD 6 s o = writeD 6 s o.n o.b := by unfold doD; rw [if_pos hk]
  rw [e1] at h0
  rw [e2]
  unfold writeD
  rw [if_pos h0]
  refine ⟨fun x hx => ?_, rfl⟩
  have hx' : x ∈ s.ws ++ [(o.n.toNat, pad o.b)] := hx
  rcases List.mem_append.1 hx' with hx | hx
  · obtain ⟨p, hp, h⟩ := t x hx
    exact ⟨p, List.mem_append_left _ hp, h⟩
  · refine ⟨o, List.mem_append_right _ List.mem_cons_self, ?_⟩
    rw [List.mem_singleton.1 hx]
    unfold whyW at h0
    have hi : 0 ≤ o.n ∧ o.n < (6 : Nat) := by
      split at h0
      · cases h0
      · split at h0
        · cases h0
        · rename_i h2; exact Decidable.not_not.1 h2
    have hb : o.b.length ≤ 256 := by
      rw [if_neg (by intro e; rw [if_pos e] at h0; cases h0), if_neg (fun h => h hi)] at h0
      split at h0
      · cases h0
      · omega
    exact ⟨by show o.n = (o.n.toNat : Int); omega, rfl, hb⟩
theorem told_same {s : DS} {o : OpX} (hk : o.k = 0 ∨ o.k = 1) (h0 : doE 6 s o ≠ 0) : doD 6 s o = s := by
  have e1 : doE 6 s o = whyW 6 s o.n o.b := by unfold doE; rw [if_pos hk]
  unfold doD writeD
  rw [if_pos hk, if_neg (by rw [← e1]; exact h0)]
end Go.Proofs.Ytdgeepaffjkknaa
