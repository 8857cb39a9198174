/- Package book: Bytes. -/
import Derived.Test.YtabhgdmmljhpcabDoorBSlot
namespace Go.Proofs.YtabhgdmmljhpcabDoor
open Go.RowKit Cod
attribute [local go_sem] Oper.semAt_some
set_option linter.unusedVariables false

/-- All accounts' bytes. -/
def accsB (L : List Acc) : List (BitVec 8) := L.flatMap accB
def bookB (L : List Acc) : List (BitVec 8) := enc L.length ++ accsB L
theorem accsB_snoc (L : List Acc) (p : Acc) : accsB (L ++ [p]) = accsB L ++ accB p := by simp [accsB]
theorem accB_len {p : Acc} (h1 : p.nm.size ≤ 24) (h2 : p.by_.size ≤ 65536) (h3 : 0 ≤ p.amt ∧ p.amt ≤ 9223372036854775807) : (accB p).length ≤ 66000 := by
  have l1 := enc_ten (n := p.nm.size) (by omega)
  have l2 := enc_ten (n := zig p.amt) (zig_lt p.amt (by omega))
  have l3 := enc_ten (n := p.by_.size) (by omega)
  have s1 := sz_len p.nm
  have s2 := sz_len p.by_
  simp only [accB, List.length_append]
  omega
theorem accsB_len : ∀ (L : List Acc), (∀ p ∈ L, (accB p).length ≤ 66000) → (accsB L).length ≤ L.length * 66000
  | [], _ => by simp [accsB]
  | p :: L, h => by
    have h1 := h p (by simp)
    have h2 := accsB_len L (fun q hq => h q (by simp [hq]))
    simp only [accsB, List.flatMap_cons, List.length_append, List.length_cons] at h2 ⊢
    omega
theorem Fit.acc {L : List Acc} (h : Fit L) {p : Acc} (hp : p ∈ L) : p.nm.size ≤ 24 ∧ p.by_.size ≤ 65536 ∧ (0 ≤ p.amt ∧ p.amt ≤ 9223372036854775807) ∧ (accB p).length ≤ 66000 :=
  ⟨(nameOk_size (h.nm p hp)).2, h.by_ p hp, h.amt p hp, accB_len (nameOk_size (h.nm p hp)).2 (h.by_ p hp) (h.amt p hp)⟩
theorem Fit.bytes {L : List Acc} (h : Fit L) (k : Nat) : (accsB (L.take k)).length ≤ 13200000 := by
  have := accsB_len (L.take k) (fun p hp => (h.acc (List.mem_of_mem_take hp)).2.2.2)
  have hl := h.len
  have : (L.take k).length ≤ L.length := by rw [List.length_take]; omega
  omega
section
variable {w : World} {base N : Nat} {sv : Value} {L : List Acc}
/-- A row of bytes is no box of a slice. -/
theorem row_box {w : World} {b n g : Nat} {v : Value} {xs : List Value} {cs : Array Value} (h : w.ownsRow b 5 1 v n xs) (e : v.ownBlock = some g) (hb : w.heap[g]? = some (.cells cs 46 (0, 0))) : False := by
  obtain ⟨_, _, cur, h3⟩ := row_kind h e
  rw [hb] at h3
  injection h3 with h3
  injection h3 with _ h3
  exact absurd h3 (by decide)
theorem bytes1_step {b B : Nat} {w0 w2 : World} {a1 : Option Addr} {c1 : Nat} {l q : List (BitVec 8)} {v2 : Value} (hbB : b ≤ B) (hl : l.length ≤ 100000000) (hq : q.length ≤ 66000) (hB : w0.heap[B]? = some (.cells #[.slice a1 l.length c1] 46 (0, 0))) (ho : w0.ownsRow b 5 1 (.slice a1 l.length c1) l.length (cellsOf l))
    (o2 : w2.ownsRow w0.heap.size 5 1 v2 q.length (cellsOf q)) (b2 : Below w0.heap.size w0 w2) :
    ∃ a2 c2 a3 c3 w3, v2 = .slice a2 q.length c2 ∧ w2.cell? ⟨B, 0, none⟩ = some (.slice a1 l.length c1) ∧ (Builtin.append_ #[46, 46] 46 #[.slice a1 l.length c1, .slice a2 q.length c2]).run Tryd.prog w2 = .ok (.slice a3 (l.length + q.length) c3) w3 ∧ w3.cell? ⟨B, 0, none⟩ = some (.slice a1 l.length c1) ∧ w3.frozen? ⟨B, 0, none⟩ = false ∧
      (w3.setCell ⟨B, 0, none⟩ (.slice a3 (l.length + q.length) c3)).heap[B]? = some (.cells #[.slice a3 (l.length + q.length) c3] 46 (0, 0)) ∧ (w3.setCell ⟨B, 0, none⟩ (.slice a3 (l.length + q.length) c3)).ownsRow b 5 1 (.slice a3 (l.length + q.length) c3) (l ++ q).length (cellsOf (l ++ q)) ∧ Below b w0 (w3.setCell ⟨B, 0, none⟩ (.slice a3 (l.length + q.length) c3)) := by
  have hlt : B < w0.heap.size := (Array.getElem?_eq_some_iff.1 hB).1
  have hs := b2.size
  obtain ⟨a2, c2, e2, q2, n2, _⟩ := owned_seen o2 (by unfold maxLen; omega)
  have O2 : w2.ownsRow b 5 1 (.slice a1 l.length c1) l.length (cellsOf l) := owns_kept ho (fun g e => b2.block g (ho.lt _ e).2)
  have h2 : w2.heap[B]? = some (.cells #[.slice a1 l.length c1] 46 (0, 0)) := (b2.block B hlt).trans hB
  obtain ⟨v3, w3, r3, o3, g3⟩ := run_append_bytes 46 w2 b _ l.length l O2 a2 _ c2 _ q2 n2 (by omega) (by omega)
  obtain ⟨a3, c3, e3, _⟩ := row_form o3
  subst e3
  have hnb : ∀ g, (Value.slice a1 l.length c1).ownBlock = some g → g ≠ B := fun g e q => by subst q; exact row_box O2 e h2
  have h3 : w3.heap[B]? = some (.cells #[.slice a1 l.length c1] 46 (0, 0)) := (g3.block B (by omega) (fun e => hnb B e.symm rfl)).trans h2
  refine ⟨a2, c2, a3, c3, w3, e2, by simp [World.cell?, h2], r3, by simp [World.cell?, h3], by simp [World.frozen?, h3], set_of3 h3, ?_, ?_⟩
  · rw [List.length_append, setCell_eq_setRow w3 B 0 _ _ _ _ h3]
    exact owns_kept o3 (fun g e => setRow_other _ _ _ _ (fun q => by subst q; exact row_box o3 e h3))
  · exact Below.setCell ((b2.mono (by omega)).grown g3 (by omega) (fun k e => (O2.lt k e).1)) hbB _
set_option maxRecDepth 100000 in
set_option maxHeartbeats 2000000 in
theorem bytes1_any (b B : Nat) (hbB : b ≤ B) (w : World) (nm by_ : ByteArray) (amt : Int) (hn : nm.size ≤ 24) (hb : by_.size ≤ 65536) (ha : 0 ≤ amt ∧ amt ≤ 9223372036854775807) (v : Value) (l : List (BitVec 8)) (hl : l.length ≤ 100000000) (hB : w.heap[B]? = some (.cells #[v] 46 (0, 0))) (ho : w.ownsRow b 5 1 v l.length (cellsOf l)) :
    Calls Tryd.prog 33 #[.agg #[.string nm, .int .i64 amt, .string by_], .pointer (some ⟨B, 0, none⟩)] w fun e w' => e = .returned (.tuple #[]) ∧ ∃ v', w'.heap[B]? = some (.cells #[v'] 46 (0, 0)) ∧ w'.ownsRow b 5 1 v' (l ++ accB ⟨nm, amt, by_⟩).length (cellsOf (l ++ accB ⟨nm, amt, by_⟩)) ∧ Below b w w' := by
  have hlt : B < w.heap.size := (Array.getElem?_eq_some_iff.1 hB).1
  obtain ⟨w0, ew0⟩ : ∃ w0, w0 = w.alloc (.cells #[.string nm, .int .i64 amt, .string by_] 42) := ⟨_, rfl⟩
  have b0 : Below w.heap.size w w0 := by rw [ew0]; exact (Below.refl _ w).alloc (Nat.le_refl _) _
  have hB0 : w0.heap[B]? = some (.cells #[v] 46 (0, 0)) := (b0.block B hlt).trans hB
  have ho0 : w0.ownsRow b 5 1 v l.length (cellsOf l) := owns_kept ho (fun g e => b0.block g (ho.lt _ e).2)
  obtain ⟨a1, c1, e1, q1, n1, _⟩ := owned_seen ho0 (by unfold maxLen; omega)
  subst e1
  have HC := accBytes_any nm by_ amt w0.drew hn hb ha
  have hal := accB_len (p := ⟨nm, amt, by_⟩) hn hb ha
  have HAL : Hid _ := hal
  have HL : Hid _ := hl
  have k0 : w0.cell? ⟨B, 0, none⟩ = some (.slice a1 l.length c1) := by simp [World.cell?, hB0]
  have HB0 : Hid _ := hB0
  have HO0 : Hid _ := ho0
  have B0 : Hid (Below b w w0) := b0.mono (by omega)
  have hz : w.heap.size < w0.heap.size := by rw [ew0]; simp
  have hs0 : B < w0.heap.size := by omega
  have r0 : w0.cell? ⟨w.heap.size, 0, none⟩ = some (.string nm) := by rw [ew0, World.cell?_alloc_mark]; rfl
  have r1 : w0.cell? ⟨w.heap.size, 1, none⟩ = some (.int .i64 amt) := by rw [ew0, World.cell?_alloc_mark]; rfl
  have r2 : w0.cell? ⟨w.heap.size, 2, none⟩ = some (.string by_) := by rw [ew0, World.cell?_alloc_mark]; rfl
  clear hB ho hB0 ho0 hal q1 n1 hn hb ha b0
  go_enter Tryd.func33, Tryd.ntmps33
  go_wp2
  rw [← ew0]
  clear ew0
  go_region_law (first
    | (go_simp; go_at_call 34; refine HC.mono ?_; rintro e w2 ⟨v2, rfl, o2, b2⟩; obtain ⟨a2, c2, a3, c3, w3, e2, k2, r3, k3, f3, z1, z2, z3⟩ := bytes1_step (w0 := w0) hbB HL.out HAL.out HB0.out HO0.out o2 ⟨b2.os, b2.tape, b2.output, b2.size, b2.block⟩; subst e2)
    | (refine step_append_known (by rfl) _ _ _ (by rfl) _ _ _ _ (by rfl) (by rfl) r3 ?_))
  all_goals
    go_wp2
    exact bodyPost_end (results_none rfl _ _ _) rfl ⟨rfl, _, z1, z2, B0.out.trans z3⟩
set_option maxRecDepth 100000 in
theorem bytes_any (h : BookIn w base N sv L) : Calls Tryd.prog 21 #[.pointer (some ⟨N, 0, none⟩)] w fun e w' => ∃ a c, e = .returned (.slice a (bookB L).length c) ∧ w'.ownsRow w.heap.size 5 1 (.slice a (bookB L).length c) (bookB L).length (cellsOf (bookB L)) ∧ Below w.heap.size w w' := by
  have hl := h.fit.len
  have c0 := h.c0
  obtain ⟨a, cap, esv, _⟩ := h.sv_form
  rw [esv] at c0
  have H : Hid (BookIn w base N sv L) := h
  have h10 := enc_ten (n := L.length) (by omega)
  have H10 : Hid ((enc L.length).length ≤ 10) := h10
  have HC := uint_any none 0 0 [] L.length (by omega) w ⟨rfl, by simp, .inl rfl⟩ (fun _ => rfl) (by omega)
  rw [List.nil_append, Nat.zero_add] at HC
  have hcv : IntKind.u64.wrap (L.length : Int) = (L.length : Int) := by rw [IntKind.wrap_u64]; omega
  have HFit : Hid (Fit L) := h.fit
  clear h h10
  go_enter Tryd.func21, Tryd.ntmps21
  go_wp2_with fail
  refine HC.mono ?_
  clear HC
  rintro e w1 ⟨v1, rfl, o1, b1⟩
  obtain ⟨a1, c1, e1, _⟩ := row_form o1
  subst e1
  obtain ⟨w2, ew2⟩ : ∃ w2, w2 = w1.alloc (.cells #[.slice a1 (enc L.length).length c1] 46) := ⟨_, rfl⟩
  have b2 : Below w1.heap.size w1 w2 := by rw [ew2]; exact (Below.refl _ w1).alloc (Nat.le_refl _) _
  have B2 : Below w.heap.size w w2 := b1.trans (b2.mono b1.size)
  have HE := each_one (H.out.below B2) 33 (.pointer (some ⟨w1.heap.size, 0, none⟩)) (fun args w => by kernel_rfl)
    (fun k W => Below w.heap.size w W ∧ ∃ a' c', W.heap[w1.heap.size]? = some (.cells #[.slice a' (enc L.length ++ accsB (L.take k)).length c'] 46 (0, 0)) ∧ W.ownsRow w.heap.size 5 1 (.slice a' (enc L.length ++ accsB (L.take k)).length c') (enc L.length ++ accsB (L.take k)).length (cellsOf (enc L.length ++ accsB (L.take k))))
    ⟨B2, a1, c1, by
      have e0 : enc L.length ++ accsB (L.take 0) = enc L.length := by simp [accsB]
      rw [ew2, e0]
      exact heap_alloc_new w1 _, by
      have e0 : enc L.length ++ accsB (L.take 0) = enc L.length := by simp [accsB]
      rw [e0]
      exact owns_kept o1 (fun g e => b2.block g (o1.lt _ e).2)⟩
    (fun k W hI => ⟨(hI.1.block N H.out.ltN).trans (B2.block N H.out.ltN).symm, fun g e => by
      have := (row_kind H.out.row e).2.1
      exact (hI.1.block g this).trans (B2.block g this).symm⟩)
    (fun k hk W hI => by
      obtain ⟨hb, a', c', hbx, ho⟩ := hI
      have hs : w1.heap.size < W.heap.size := (Array.getElem?_eq_some_iff.1 hbx).1
      obtain ⟨p1, p2, p3, p4⟩ := HFit.out.acc (List.getElem_mem hk)
      have hlen : (enc L.length ++ accsB (L.take k)).length ≤ 100000000 := by
        rw [List.length_append]
        have := HFit.out.bytes k
        have := H10.out
        omega
      have bA : Below W.heap.size W (W.alloc (.cells #[.string L[k].nm, .int .i64 L[k].amt, .string L[k].by_] 42)) := (Below.refl _ W).alloc (Nat.le_refl _) _
      refine (bytes1_any w.heap.size w1.heap.size b1.size _ L[k].nm L[k].by_ L[k].amt p1 p2 p3 _ _ hlen ((bA.block _ hs).trans hbx) (owns_kept ho (fun g e => bA.block g (ho.lt _ e).2))).mono ?_
      rintro e W' ⟨rfl, v', q1, q2, q3⟩
      obtain ⟨a2, c2, e2, _⟩ := row_form q2
      subst e2
      refine ⟨rfl, hb.trans ((bA.mono hb.size).trans q3), a2, c2, ?_⟩
      rw [List.take_succ_eq_append_getElem hk, accsB_snoc, ← List.append_assoc]
      exact ⟨q1, q2⟩)
  rw [List.take_length] at HE
  rw [ew2] at HE
  clear o1 b1 b2 B2 ew2
  have HE' : Calls Tryd.prog 12 #[.pointer (some ⟨N, 0, none⟩), .func (.func 33) #[] #[.pointer (some ⟨w1.heap.size, 0, none⟩)]] (w1.alloc (.cells #[.slice a1 (enc L.length).length c1] 46)) (fun e W => e = .returned (.tuple #[]) ∧ Below w.heap.size w W ∧ ∃ a' c', W.heap[w1.heap.size]? = some (.cells #[.slice a' (bookB L).length c'] 46 (0, 0)) ∧ W.ownsRow w.heap.size 5 1 (.slice a' (bookB L).length c') (bookB L).length (cellsOf (bookB L))) := HE
  clear HE
  go_wp2_with fail
  refine HE'.mono ?_
  rintro e w3 ⟨rfl, b3, a3, c3, h3, o3⟩
  have B3 : Hid (Below w.heap.size w w3) := b3
  have O3 : Hid (w3.ownsRow w.heap.size 5 1 (.slice a3 (bookB L).length c3) (bookB L).length (cellsOf (bookB L))) := o3
  have k3 : w3.cell? ⟨w1.heap.size, 0, none⟩ = some (.slice a3 (bookB L).length c3) := by simp [World.cell?, h3]
  clear HE' b3 o3 h3
  go_wp2
  go_ret
  exact ⟨a3, c3, rfl, O3.out, B3.out⟩
end
end Go.Proofs.YtabhgdmmljhpcabDoor
