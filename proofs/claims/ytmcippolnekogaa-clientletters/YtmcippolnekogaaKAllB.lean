/- The law's taken and group; the reference's long. -/
import Derived.Test.YtmcippolnekogaaKAllD
import Derived.Test.YtmcippolnekogaaRefR
import Derived.Test.YtmcippolnekogaaRefP
import Derived.Test.YtmcippolnekogaaKAllE
namespace Go.Proofs.Ytmcippolnekogaa
open Go.RowKit Cod
attribute [local go_sem] Oper.semAt_some
set_option linter.unusedVariables false

set_option maxRecDepth 100000 in
set_option maxHeartbeats 1600000 in
theorem taken_any (x : LetV) (w : World) : Calls Try.prog 11 #[.agg x.cells] w fun e w' => e = .returned (.agg x.cells) ∧ Below w.heap.size w w' := by
  obtain ⟨kind, n, group, ⟨ok, os, od, oa, oy, ol, oh⟩, why, amount, ra, rn, rc, ba, bn, bc⟩ := x
  show Calls Try.prog 11 #[.agg #[.int .i64 kind, .int .i64 n, .int .i64 group, .int .i64 ok, .string os, .string od, .int .i64 oa, .string oy, .int .i64 ol, .int .i64 oh, .int .i64 why, .int .i64 amount, .slice ra rn rc, .slice ba bn bc]] w _
  go_enter Try.func11, Try.ntmps11
  go_wp2
  exact bodyPost_ret (results_cell_row rfl _ _ (w.heap.size + 1) 30 _ (0, 0) _ rfl (heapTwo w _ _) Try.underlying30 rfl (by kernel_rfl)) rfl ⟨rfl, below_two w _ _⟩
theorem lawGroup_any (o : OpD) (w : World) : Calls Try.prog 13 #[o.val] w fun e w' => e = .returned (.int .i64 (groupK o.kind)) ∧ Below w.heap.size w w' := by
  obtain ⟨kind, src, dst, amount, key, slot, shard⟩ := o
  show Calls Try.prog 13 #[.agg #[.int .i64 kind, .string src, .string dst, .int .i64 amount, .string key, .int .i64 slot, .int .i64 shard]] w _
  have b1 : Hid (Below w.heap.size w (w.alloc (.cells #[.int .i64 kind, .string src, .string dst, .int .i64 amount, .string key, .int .i64 slot, .int .i64 shard] 23))) := (Below.refl _ w).alloc (Nat.le_refl _) _
  unfold groupK
  by_cases h6 : kind = 6
  · subst h6
    go_enter Try.func13, Try.ntmps13
    go_wp2
    go_ret
    exact ⟨rfl, b1.out⟩
  · have e6 : (kind == 6) = false := by simpa using h6
    by_cases h7 : kind = 7
    · subst h7
      go_enter Try.func13, Try.ntmps13
      go_wp2
      go_ret
      exact ⟨rfl, b1.out⟩
    · have e7 : (kind == 7) = false := by simpa using h7
      rw [if_neg (by rintro (h | h) <;> contradiction)]
      clear h6 h7
      go_enter Try.func13, Try.ntmps13
      go_wp2
      go_ret
      exact ⟨rfl, b1.out⟩
/-- Some row's name is too long. -/
theorem short_take {ts : List ByteArray} {k : Nat} (hk : k < ts.length) (h : shortL (ts.take k) = true) : shortL (ts.take (k + 1)) = decide (ts[k].size ≤ 65536) := by rw [shortL_take hk, h, Bool.true_and]
theorem short_all {ts : List ByteArray} {k : Nat} (h : shortL (ts.take k) = false) : shortL ts = false := by
  simp only [shortL, List.all_eq_false] at h ⊢
  obtain ⟨s, hs, h⟩ := h
  exact ⟨s, List.mem_of_mem_take hs, h⟩
set_option maxRecDepth 100000 in
set_option maxHeartbeats 1600000 in
theorem long_any {w : World} {d : LetD} {ra : Option Addr} {rc : Nat} {ba : Option Addr} {bc : Nat} (h1 : 1 ≤ d.kind) (h5 : d.kind ≤ 5) (h : LetAt w d ra rc ba bc) :
    Calls Try.prog 35 #[.agg (d.v ra rc ba bc).cells] w fun e w' => e = .returned (.bool (!d.fits)) ∧ Below w.heap.size w w' := by
  obtain ⟨kind, n, group, ⟨ok, os, od, oa, oy, ol, oh⟩, why, amount, rows, body⟩ := d
  simp only at h1 h5
  show Calls Try.prog 35 #[.agg #[.int .i64 kind, .int .i64 n, .int .i64 group, .int .i64 ok, .string os, .string od, .int .i64 oa, .string oy, .int .i64 ol, .int .i64 oh, .int .i64 why, .int .i64 amount, .slice ra rows.length rc, .slice ba body.length bc]] w _
  have BA : Hid (Below w.heap.size w (w.alloc (.cells #[.int .i64 kind, .int .i64 n, .int .i64 group, .int .i64 ok, .string os, .string od, .int .i64 oa, .string oy, .int .i64 ol, .int .i64 oh, .int .i64 why, .int .i64 amount, .slice ra rows.length rc, .slice ba body.length bc] 30))) := (Below.refl _ w).alloc (Nat.le_refl _) _
  have HR : Hid (RowsAt w ra rows.length rows) := h.rows
  clear h
  by_cases k2 : kind = 2
  · subst k2
    have HF : Hid ((!(LetD.fits ⟨2, n, group, ⟨ok, os, od, oa, oy, ol, oh⟩, why, amount, rows, body⟩)) = (decide (65536 < (os.size : Int)) || decide (65536 < (od.size : Int)) || decide (65536 < (oy.size : Int)))) := by
      show (!shortL [os, od, oy]) = _
      have q : ∀ s : ByteArray, (!decide (s.size ≤ 65536)) = decide (65536 < (s.size : Int)) := fun s => by
        by_cases h : s.size ≤ 65536
        · rw [decide_eq_true h, decide_eq_false (by omega)]; rfl
        · rw [decide_eq_false h, decide_eq_true (by omega)]; rfl
      simp only [shortL, List.all_cons, List.all_nil, Bool.and_true, Bool.not_and, q, Bool.or_assoc]
    clear h1 h5 HR
    by_cases z1 : (65536 : Int) < (os.size : Int)
    · go_enter Try.func35, Try.ntmps35
      go_wp2
      go_ret
      exact ⟨by rw [HF.out, decide_eq_true z1]; rfl, BA.out⟩
    by_cases z2 : (65536 : Int) < (od.size : Int)
    · have z1' : ¬ (65536 : Int) < (os.size : Int) := z1
      go_enter Try.func35, Try.ntmps35
      go_wp2
      go_ret
      exact ⟨by rw [HF.out, decide_eq_true z2, decide_eq_false (by omega)]; rfl, BA.out⟩
    have HZ : Hid (¬ (65536 : Int) < (os.size : Int) ∧ ¬ (65536 : Int) < (od.size : Int)) := ⟨z1, z2⟩
    go_enter Try.func35, Try.ntmps35
    go_wp2
    go_ret
    exact ⟨by rw [HF.out, decide_eq_false (show ¬ (65536 : Int) < (os.size : Int) by have := HZ.out; omega), decide_eq_false (show ¬ (65536 : Int) < (od.size : Int) by have := HZ.out; omega)]; rfl, BA.out⟩
  have e2 : (kind == 2) = false := by simpa using k2
  by_cases k3 : kind = 3
  case neg =>
    have e3 : (kind == 3) = false := by simpa using k3
    have HF : Hid ((!(LetD.fits ⟨kind, n, group, ⟨ok, os, od, oa, oy, ol, oh⟩, why, amount, rows, body⟩)) = decide (65536 < (body.length : Int))) := by
      show _ = _
      rw [LetD.fits, if_neg k2, if_neg k3]
      by_cases h : body.length ≤ 65536
      · rw [decide_eq_true h, decide_eq_false (by omega)]; rfl
      · rw [decide_eq_false h, decide_eq_true (by omega)]; rfl
    clear h1 h5 HR k2 k3
    go_enter Try.func35, Try.ntmps35
    go_wp2
    go_ret
    exact ⟨by rw [HF.out]; rfl, BA.out⟩
  subst k3
  clear h1 h5 k2 e2
  have c12 : (w.alloc (.cells #[.int .i64 3, .int .i64 n, .int .i64 group, .int .i64 ok, .string os, .string od, .int .i64 oa, .string oy, .int .i64 ol, .int .i64 oh, .int .i64 why, .int .i64 amount, .slice ra rows.length rc, .slice ba body.length bc] 30)).cell? ⟨w.heap.size, 12, none⟩ = some (.slice ra rows.length rc) := by
    rw [World.cell?_alloc_mark]; rfl
  obtain ⟨w1, e1⟩ : ∃ w1, w.alloc (.cells #[.int .i64 3, .int .i64 n, .int .i64 group, .int .i64 ok, .string os, .string od, .int .i64 oa, .string oy, .int .i64 ol, .int .i64 oh, .int .i64 why, .int .i64 amount, .slice ra rows.length rc, .slice ba body.length bc] 30) = w1 := ⟨_, rfl⟩
  have E1 : Hid (_ = w1) := e1
  rw [e1] at c12 BA
  by_cases z : (600 : Int) < (rows.length : Int)
  · have HF : Hid ((!(LetD.fits ⟨3, n, group, ⟨ok, os, od, oa, oy, ol, oh⟩, why, amount, rows, body⟩)) = true) := by
      show (!(decide (rows.length ≤ 600) && shortL (rows.map (·.1)))) = true
      rw [decide_eq_false (by omega)]; rfl
    clear c12 e1
    have dz : decide ((600 : Int) < (rows.length : Int)) = true := decide_eq_true z
    go_enter Try.func35, Try.ntmps35
    go_wp2
    go_loopw [3, 4] (fun b i wr => b = .bool true ∧ i = .int .i64 0 ∧ wr = w.alloc (.cells #[.int .i64 3, .int .i64 n, .int .i64 group, .int .i64 ok, .string os, .string od, .int .i64 oa, .string oy, .int .i64 ol, .int .i64 oh, .int .i64 why, .int .i64 amount, .slice ra rows.length rc, .slice ba body.length bc] 30)) (fun _ _ _ => 0)
    case atStart => exact ⟨rfl, rfl, rfl⟩
    case round =>
      obtain ⟨rfl, rfl, rfl⟩ := hrel
      have hp : (0 : Int) < (rows.length : Int) := by omega
      go_wp2
      go_ret
      exact ⟨by rw [HF.out]; rfl, by rw [E1.out]; exact BA.out⟩
  · have HF : Hid ((!(LetD.fits ⟨3, n, group, ⟨ok, os, od, oa, oy, ol, oh⟩, why, amount, rows, body⟩)) = (!shortL (rows.map (·.1)))) := by
      show (!(decide (rows.length ≤ 600) && shortL (rows.map (·.1)))) = _
      rw [decide_eq_true (by omega)]; rfl
    have HZ : Hid (rows.length ≤ 600) := by show _ ≤ _; omega
    have dz : decide ((600 : Int) < (rows.length : Int)) = false := decide_eq_false z
    have C12 : Hid _ := c12
    clear e1 c12
    go_enter Try.func35, Try.ntmps35
    go_wp2
    rw [E1.out]
    have c12 := C12.out
    clear z
    go_loopw [3, 4] (fun b i wr => ∃ k : Nat, k ≤ rows.length ∧ i = .int .i64 k ∧ b = .bool (!shortL ((rows.map (·.1)).take k)) ∧ wr = w1) (fun _ i _ => rows.length - (intOf i).toNat)
    case atStart => exact ⟨0, Nat.zero_le _, rfl, rfl, rfl⟩
    case round =>
      obtain ⟨k, hk, rfl, rfl, rfl⟩ := hrel
      cases hs : shortL ((rows.map (·.1)).take k) with
      | false =>
        have HS : Hid _ := short_all hs
        clear hs
        by_cases hlt : k < rows.length
        · have hp : (k : Int) < (rows.length : Int) := by omega
          go_wp2
          go_ret
          exact ⟨by rw [HF.out, HS.out]; rfl, BA.out⟩
        · have hp : ¬ (k : Int) < (rows.length : Int) := by omega
          go_wp2
          go_ret
          exact ⟨by rw [HF.out, HS.out]; rfl, BA.out⟩
      | true =>
        by_cases hlt : k < rows.length
        · have hp : (k : Int) < (rows.length : Int) := by omega
          obtain ⟨b, off, rfl, c1, c2⟩ := (HR.out.below BA.out).at hlt
          have hT : Hid _ := short_take (ts := rows.map (·.1)) (k := k) (by simpa using hlt) hs
          simp only [List.getElem_map] at hT
          have hk6 : k < 600 := by have := HZ.out; omega
          clear hs HR c2
          generalize rows[k].1 = s at *
          go_wp2
          go_roundw
          case rel => exact ⟨k + 1, hlt, by go_num, by
            rw [hT.out]
            by_cases h : s.size ≤ 65536
            · rw [decide_eq_true h]; simp; omega
            · rw [decide_eq_false h]; simp; omega, trivial⟩
          case measure => simp [intOf]; omega
        · have hp : ¬ (k : Int) < (rows.length : Int) := by omega
          have hkk : k = rows.length := by omega
          rw [hkk, List.take_of_length_le (by simp)] at hs
          have HS : Hid _ := hs
          clear hs hkk
          go_wp2
          go_ret
          exact ⟨by rw [HF.out, HS.out]; rfl, BA.out⟩
end Go.Proofs.Ytmcippolnekogaa

namespace Go.Proofs.Ytmcippolnekogaa
open Go.RowKit Cod
attribute [local go_sem] Oper.semAt_some
set_option linter.unusedVariables false

/-- Bytes in memory of a call's own. -/
structure Row8 (w0 w : World) (a : Option Addr) (c : Nat) (L : List (BitVec 8)) : Prop where
  bel : Below w0.heap.size w0 w
  own : w.ownsRow w0.heap.size 5 1 (.slice a L.length c) L.length (cellsOf L)
theorem Row8.seen {w0 w : World} {a : Option Addr} {c : Nat} {L : List (BitVec 8)} (h : Row8 w0 w a c L) (hL : L.length ≤ 140737488355328) : Seen w a L.length L ∧ (a = none → c = 0) := by
  obtain ⟨a', c', e, s, n, _⟩ := owned_seen h.own (by unfold maxLen; omega)
  injection e with e1 _ e2
  subst e1
  subst e2
  exact ⟨s, n⟩
theorem Row8.of {w0 w w' : World} {v : Value} {m : Nat} {L : List (BitVec 8)} (hb : Below w0.heap.size w0 w) (b : Below w.heap.size w w') (o : w'.ownsRow w.heap.size 5 1 v m (cellsOf L)) : ∃ a c, v = .slice a L.length c ∧ Row8 w0 w' a c L := by
  obtain rfl : L.length = m := by have := o.1; rw [cellsOf_length] at this; omega
  obtain ⟨a, c, rfl, _, _⟩ := row_form' o
  exact ⟨a, c, rfl, hb.trans (b.mono hb.size), owns_mono' o hb.size⟩
theorem Row8.append {w0 w w' : World} {a : Option Addr} {c : Nat} {L : List (BitVec 8)} (h : Row8 w0 w a c L) (hL : L.length ≤ 1000) (b : Below w.heap.size w w') {pa : Option Addr} {pn pc : Nat} {p : List (BitVec 8)} (hs : Seen w' pa pn p) (hn : pa = none → pc = 0) (hp : p.length ≤ 100000000) : ∃ a' c' w'', (Builtin.append_ #[28, 28] 28 #[.slice a L.length c, .slice pa pn pc]).run Try.prog w' = .ok (.slice a' (L ++ p).length c') w'' ∧ Row8 w0 w'' a' c' (L ++ p) := by
  have hb' := h.bel.trans (b.mono h.bel.size)
  obtain ⟨v, w'', r, o, g⟩ := run_append_bytes 28 w' w0.heap.size _ _ _ (ownsB h.own b) pa pn pc p hs hn (by have := hs.1; omega) hb'.size
  have e : L.length + pn = (L ++ p).length := by rw [List.length_append, hs.1]
  rw [e] at o
  obtain ⟨a', c', rfl, _, _⟩ := row_form' o
  exact ⟨a', c', w'', r, hb'.grown g hb'.size (fun k e => (h.own.lt _ e).1), o⟩
theorem refInt_row {w0 w : World} {a : Option Addr} {c : Nat} {L : List (BitVec 8)} (h : Row8 w0 w a c L) (hL : L.length ≤ 1000) {n : Int} (hn : i64ok n) : Calls Try.prog 36 #[.slice a L.length c, .int .i64 n] w fun e w' => ∃ a' c', e = .returned (.slice a' (L ++ enc (zig n)).length c') ∧ Row8 w0 w' a' c' (L ++ enc (zig n)) := by
  obtain ⟨s, hn'⟩ := h.seen (by omega)
  refine (refInt_any a L.length c L n hn w s hn' (by omega)).mono ?_
  rintro e w' ⟨v, rfl, o, b⟩
  obtain ⟨a', c', rfl, r⟩ := Row8.of h.bel b o
  exact ⟨a', c', rfl, r⟩
set_option maxRecDepth 100000 in
set_option maxHeartbeats 4000000 in
theorem refPack_1 {w : World} (n group : Int) (op : OpD) (why amount : Int) (rows : List (ByteArray × Int)) (body : List (BitVec 8)) {ra : Option Addr} {rc : Nat} {ba : Option Addr} {bc : Nat} (hd : LetD.ok ⟨1, n, group, op, why, amount, rows, body⟩) (hf : LetD.fits ⟨1, n, group, op, why, amount, rows, body⟩ = true) (h : LetAt w ⟨1, n, group, op, why, amount, rows, body⟩ ra rc ba bc) :
    Calls Try.prog 9 #[.agg (LetD.v ⟨1, n, group, op, why, amount, rows, body⟩ ra rc ba bc).cells] w fun e w' => ∃ v, e = .returned (.tuple #[v, .int .i64 (LetD.pack ⟨1, n, group, op, why, amount, rows, body⟩).2]) ∧ w'.ownsRow w.heap.size 5 1 v (LetD.pack ⟨1, n, group, op, why, amount, rows, body⟩).1.length (cellsOf (LetD.pack ⟨1, n, group, op, why, amount, rows, body⟩).1) ∧ Below w.heap.size w w' := by
  obtain ⟨ok, os, od, oa, oy, ol, oh⟩ := op
  show Calls Try.prog 9 #[.agg #[.int .i64 1, .int .i64 n, .int .i64 group, .int .i64 ok, .string os, .string od, .int .i64 oa, .string oy, .int .i64 ol, .int .i64 oh, .int .i64 why, .int .i64 amount, .slice ra rows.length rc, .slice ba body.length bc]] w _
  generalize hw1 : w.alloc (.cells #[.int .i64 1, .int .i64 n, .int .i64 group, .int .i64 ok, .string os, .string od, .int .i64 oa, .string oy, .int .i64 ol, .int .i64 oh, .int .i64 why, .int .i64 amount, .slice ra rows.length rc, .slice ba body.length bc] 30) = w1
  have b1 : Below w.heap.size w w1 := by rw [← hw1]; exact (Below.refl _ w).alloc (Nat.le_refl _) _
  have hh : w1.heap[w.heap.size]? = some (.cells #[.int .i64 1, .int .i64 n, .int .i64 group, .int .i64 ok, .string os, .string od, .int .i64 oa, .string oy, .int .i64 ol, .int .i64 oh, .int .i64 why, .int .i64 amount, .slice ra rows.length rc, .slice ba body.length bc] 30 (0, 0)) := by rw [← hw1]; exact heap_alloc_new w _
  have CC : Hid (∀ W, Below w1.heap.size w1 W → W.heap[w.heap.size]? = some (.cells #[.int .i64 1, .int .i64 n, .int .i64 group, .int .i64 ok, .string os, .string od, .int .i64 oa, .string oy, .int .i64 ol, .int .i64 oh, .int .i64 why, .int .i64 amount, .slice ra rows.length rc, .slice ba body.length bc] 30 (0, 0))) := fun W hW => (hW.block _ (Array.getElem?_eq_some_iff.1 hh).1).trans hh
  have C41 := long_any (w := w1) (d := ⟨1, n, group, ⟨ok, os, od, oa, oy, ol, oh⟩, why, amount, rows, body⟩) (by simp) (by simp) (h.below b1)
  rw [hf] at C41
  have C41' : Calls Try.prog 35 #[.agg #[.int .i64 1, .int .i64 n, .int .i64 group, .int .i64 ok, .string os, .string od, .int .i64 oa, .string oy, .int .i64 ol, .int .i64 oh, .int .i64 why, .int .i64 amount, .slice ra rows.length rc, .slice ba body.length bc]] w1 fun e w' => e = .returned (.bool false) ∧ Below w1.heap.size w1 w' := C41
  have HD : Hid (LetD.ok ⟨1, n, group, ⟨ok, os, od, oa, oy, ol, oh⟩, why, amount, rows, body⟩) := hd
  have HF : Hid (LetD.fits ⟨1, n, group, ⟨ok, os, od, oa, oy, ol, oh⟩, why, amount, rows, body⟩ = true) := hf
  have HL : Hid (LetAt w ⟨1, n, group, ⟨ok, os, od, oa, oy, ol, oh⟩, why, amount, rows, body⟩ ra rc ba bc) := h
  have B1 : Hid (Below w.heap.size w w1) := b1
  have HW : Hid (_ = w1) := hw1
  clear hw1 b1 hh C41 hd hf h
  go_enter Try.func9, Try.ntmps9
  go_wp2_with fail
  rw [HW.out]
  refine C41'.mono ?_
  rintro e w2 ⟨rfl, b2⟩
  have g2 := CC.out w2 b2
  have c0 : w2.cell? ⟨w.heap.size, 0, none⟩ = some (.int .i64 1) := by simp [World.cell?, g2]
  have R2 : Hid (Row8 w1 w2 none 0 []) := ⟨b2, owns_none _ _⟩
  have C42 := refInt_row R2.out (by simp) (n := 1) ⟨by decide, by decide⟩
  have C42' : Calls Try.prog 36 #[.slice none 0 0, .int .i64 1] w2 fun e w' => ∃ a' c', e = .returned (.slice a' (enc (zig 1)).length c') ∧ Row8 w1 w' a' c' (enc (zig 1)) := C42
  clear C41' b2 g2 C42 HW
  go_wp2_with fail
  refine C42'.mono ?_
  rintro e w3 ⟨a3, c3, rfl, r3⟩
  have g3 := CC.out w3 r3.bel
  have d0 : w3.cell? ⟨w.heap.size, 0, none⟩ = some (.int .i64 1) := by simp [World.cell?, g3]
  have l3 : (enc (zig 1)).length ≤ 10 := enc_ten (zig_lt 1 ⟨by decide, by decide⟩)
  have L3 : Hid ((enc (zig 1)).length ≤ 10) := l3
  have R3 : Hid (Row8 w1 w3 a3 c3 (enc (zig 1))) := r3
  have E3 : Hid (enc (zig 1) = enc (zig 1)) := rfl
  obtain ⟨L, eL⟩ : ∃ L, enc (zig 1) = L := ⟨_, rfl⟩
  rw [eL] at R3 L3
  rw [eL]
  have EL : Hid (enc (zig 1) = L) := eL
  clear C42' r3 l3 c0 eL E3 R2
  have q13 : w3.cell? ⟨w.heap.size, 13, none⟩ = some (.slice ba body.length bc) := by simp [World.cell?, g3]
  have hz : body.length ≤ 65536 := by simpa [LetD.fits] using HF.out
  have hbd := (HL.out.below (B1.out.trans (R3.out.bel.mono B1.out.size))).body
  have C := refBytes_any none 0 0 [] ba body.length bc body w3 (seen_none _) (fun _ => rfl) hbd HL.out.nil (by omega)
  have HZ : Hid (body.length ≤ 65536) := hz
  clear g3 hbd hz
  go_wp2_with fail
  refine C.mono ?_
  clear C q13 d0
  rintro e w8 ⟨v8, rfl, o8, b8⟩
  rw [Nat.zero_add, List.nil_append] at o8
  have hsl : (sz body).length ≤ 65546 := by have := sz_length_le body (by have := HZ.out; omega); have := HZ.out; omega
  obtain ⟨a8, c8, rfl, s8, n8, _⟩ := owned_seen o8 (by unfold maxLen; omega)
  obtain ⟨a9, c9, w9, run9, r9⟩ := R3.out.append (by have := L3.out; omega) b8 s8 n8 (by omega)
  have RUN : Hid _ := run9
  have R9 : Hid (Row8 w1 w9 a9 c9 (L ++ sz body)) := r9
  clear o8 b8 hsl s8 n8 run9 r9
  all_goals
    have HBY : Hid ((L ++ sz body) = LetD.bytes ⟨1, n, group, ⟨ok, os, od, oa, oy, ol, oh⟩, why, amount, rows, body⟩) := by
      show _ = _
      rw [ ← EL.out]
      simp [LetD.bytes, intsB]
    rw [HBY.out] at R9 RUN
    try rw [HBY.out]
    have HOWN : Hid (w9.ownsRow w.heap.size 5 1 (.slice a9 (LetD.bytes ⟨1, n, group, ⟨ok, os, od, oa, oy, ol, oh⟩, why, amount, rows, body⟩).length c9) (LetD.bytes ⟨1, n, group, ⟨ok, os, od, oa, oy, ol, oh⟩, why, amount, rows, body⟩).length (cellsOf (LetD.bytes ⟨1, n, group, ⟨ok, os, od, oa, oy, ol, oh⟩, why, amount, rows, body⟩))) := owns_mono' R9.out.own B1.out.size
    have HBL : Hid (Below w.heap.size w w9) := B1.out.trans (R9.out.bel.mono B1.out.size)
    have PS : Hid (1048576 < (LetD.bytes ⟨1, n, group, ⟨ok, os, od, oa, oy, ol, oh⟩, why, amount, rows, body⟩).length → LetD.pack ⟨1, n, group, ⟨ok, os, od, oa, oy, ol, oh⟩, why, amount, rows, body⟩ = ([], 3)) := fun hb => pack_size (by simp) HF.out hb
    have PO : Hid (¬ 1048576 < (LetD.bytes ⟨1, n, group, ⟨ok, os, od, oa, oy, ol, oh⟩, why, amount, rows, body⟩).length → LetD.pack ⟨1, n, group, ⟨ok, os, od, oa, oy, ol, oh⟩, why, amount, rows, body⟩ = (LetD.bytes ⟨1, n, group, ⟨ok, os, od, oa, oy, ol, oh⟩, why, amount, rows, body⟩, 0)) := fun hb => pack_ok (by simp) HF.out hb
    clear HBY HF HD HL R3 R9
    generalize LetD.bytes ⟨1, n, group, ⟨ok, os, od, oa, oy, ol, oh⟩, why, amount, rows, body⟩ = BY at *
    by_cases hb : 1048576 < BY.length
    · have HP : Hid _ := PS.out hb
      have hb' : (1048576 : Int) < (BY.length : Int) := by omega
      clear hb
      go_wp2_with (at_builtin; refine wpList_append_known rfl (.tmp 22) (.tmp 25) 28 28 rfl _ _ rfl rfl _ _ RUN.out ?_)
      go_ret2
      exact ⟨_, by rw [HP.out]; rfl, by rw [HP.out]; exact owns_none _ _, HBL.out⟩
    · have HP : Hid _ := PO.out hb
      have hb' : ¬ (1048576 : Int) < (BY.length : Int) := by omega
      clear hb
      go_wp2_with (at_builtin; refine wpList_append_known rfl (.tmp 22) (.tmp 25) 28 28 rfl _ _ rfl rfl _ _ RUN.out ?_)
      go_ret2
      exact ⟨_, by rw [HP.out]; rfl, by rw [HP.out]; exact HOWN.out, HBL.out⟩
set_option maxRecDepth 100000 in
set_option maxHeartbeats 4000000 in
theorem refPack_2 {w : World} (n group : Int) (op : OpD) (why amount : Int) (rows : List (ByteArray × Int)) (body : List (BitVec 8)) {ra : Option Addr} {rc : Nat} {ba : Option Addr} {bc : Nat} (hd : LetD.ok ⟨2, n, group, op, why, amount, rows, body⟩) (hf : LetD.fits ⟨2, n, group, op, why, amount, rows, body⟩ = true) (h : LetAt w ⟨2, n, group, op, why, amount, rows, body⟩ ra rc ba bc) :
    Calls Try.prog 9 #[.agg (LetD.v ⟨2, n, group, op, why, amount, rows, body⟩ ra rc ba bc).cells] w fun e w' => ∃ v, e = .returned (.tuple #[v, .int .i64 (LetD.pack ⟨2, n, group, op, why, amount, rows, body⟩).2]) ∧ w'.ownsRow w.heap.size 5 1 v (LetD.pack ⟨2, n, group, op, why, amount, rows, body⟩).1.length (cellsOf (LetD.pack ⟨2, n, group, op, why, amount, rows, body⟩).1) ∧ Below w.heap.size w w' := by
  obtain ⟨ok, os, od, oa, oy, ol, oh⟩ := op
  show Calls Try.prog 9 #[.agg #[.int .i64 2, .int .i64 n, .int .i64 group, .int .i64 ok, .string os, .string od, .int .i64 oa, .string oy, .int .i64 ol, .int .i64 oh, .int .i64 why, .int .i64 amount, .slice ra rows.length rc, .slice ba body.length bc]] w _
  generalize hw1 : w.alloc (.cells #[.int .i64 2, .int .i64 n, .int .i64 group, .int .i64 ok, .string os, .string od, .int .i64 oa, .string oy, .int .i64 ol, .int .i64 oh, .int .i64 why, .int .i64 amount, .slice ra rows.length rc, .slice ba body.length bc] 30) = w1
  have b1 : Below w.heap.size w w1 := by rw [← hw1]; exact (Below.refl _ w).alloc (Nat.le_refl _) _
  have hh : w1.heap[w.heap.size]? = some (.cells #[.int .i64 2, .int .i64 n, .int .i64 group, .int .i64 ok, .string os, .string od, .int .i64 oa, .string oy, .int .i64 ol, .int .i64 oh, .int .i64 why, .int .i64 amount, .slice ra rows.length rc, .slice ba body.length bc] 30 (0, 0)) := by rw [← hw1]; exact heap_alloc_new w _
  have CC : Hid (∀ W, Below w1.heap.size w1 W → W.heap[w.heap.size]? = some (.cells #[.int .i64 2, .int .i64 n, .int .i64 group, .int .i64 ok, .string os, .string od, .int .i64 oa, .string oy, .int .i64 ol, .int .i64 oh, .int .i64 why, .int .i64 amount, .slice ra rows.length rc, .slice ba body.length bc] 30 (0, 0))) := fun W hW => (hW.block _ (Array.getElem?_eq_some_iff.1 hh).1).trans hh
  have C41 := long_any (w := w1) (d := ⟨2, n, group, ⟨ok, os, od, oa, oy, ol, oh⟩, why, amount, rows, body⟩) (by simp) (by simp) (h.below b1)
  rw [hf] at C41
  have C41' : Calls Try.prog 35 #[.agg #[.int .i64 2, .int .i64 n, .int .i64 group, .int .i64 ok, .string os, .string od, .int .i64 oa, .string oy, .int .i64 ol, .int .i64 oh, .int .i64 why, .int .i64 amount, .slice ra rows.length rc, .slice ba body.length bc]] w1 fun e w' => e = .returned (.bool false) ∧ Below w1.heap.size w1 w' := C41
  have HD : Hid (LetD.ok ⟨2, n, group, ⟨ok, os, od, oa, oy, ol, oh⟩, why, amount, rows, body⟩) := hd
  have HF : Hid (LetD.fits ⟨2, n, group, ⟨ok, os, od, oa, oy, ol, oh⟩, why, amount, rows, body⟩ = true) := hf
  have HL : Hid (LetAt w ⟨2, n, group, ⟨ok, os, od, oa, oy, ol, oh⟩, why, amount, rows, body⟩ ra rc ba bc) := h
  have B1 : Hid (Below w.heap.size w w1) := b1
  have HW : Hid (_ = w1) := hw1
  clear hw1 b1 hh C41 hd hf h
  go_enter Try.func9, Try.ntmps9
  go_wp2_with fail
  rw [HW.out]
  refine C41'.mono ?_
  rintro e w2 ⟨rfl, b2⟩
  have g2 := CC.out w2 b2
  have c0 : w2.cell? ⟨w.heap.size, 0, none⟩ = some (.int .i64 2) := by simp [World.cell?, g2]
  have R2 : Hid (Row8 w1 w2 none 0 []) := ⟨b2, owns_none _ _⟩
  have C42 := refInt_row R2.out (by simp) (n := 2) ⟨by decide, by decide⟩
  have C42' : Calls Try.prog 36 #[.slice none 0 0, .int .i64 2] w2 fun e w' => ∃ a' c', e = .returned (.slice a' (enc (zig 2)).length c') ∧ Row8 w1 w' a' c' (enc (zig 2)) := C42
  clear C41' b2 g2 C42 HW
  go_wp2_with fail
  refine C42'.mono ?_
  rintro e w3 ⟨a3, c3, rfl, r3⟩
  have g3 := CC.out w3 r3.bel
  have d0 : w3.cell? ⟨w.heap.size, 0, none⟩ = some (.int .i64 2) := by simp [World.cell?, g3]
  have l3 : (enc (zig 2)).length ≤ 10 := enc_ten (zig_lt 2 ⟨by decide, by decide⟩)
  have L3 : Hid ((enc (zig 2)).length ≤ 10) := l3
  have R3 : Hid (Row8 w1 w3 a3 c3 (enc (zig 2))) := r3
  have E3 : Hid (enc (zig 2) = enc (zig 2)) := rfl
  obtain ⟨L, eL⟩ : ∃ L, enc (zig 2) = L := ⟨_, rfl⟩
  rw [eL] at R3 L3
  rw [eL]
  have EL : Hid (enc (zig 2) = L) := eL
  clear C42' r3 l3 c0 eL E3 R2
  have q1 : w3.cell? ⟨w.heap.size, 1, none⟩ = some (.int .i64 n) := by simp [World.cell?, g3]
  have C := refInt_row R3.out (by have := L3.out; omega) HD.out.n
  have N4 : Hid ((enc (zig n)).length ≤ 10) := enc_ten (zig_lt n HD.out.n)
  clear g3
  simp only at C
  go_wp2_with fail
  refine C.mono ?_
  clear C q1 d0
  rintro e w4 ⟨a4, c4, rfl, r4⟩
  have g4 := CC.out w4 r4.bel
  have R4 : Hid (Row8 w1 w4 a4 c4 (L ++ enc (zig n))) := r4
  have L4 : Hid ((L ++ enc (zig n)).length ≤ 20) := by have := L3.out; have := N4.out; show _ ≤ _; rw [List.length_append]; omega
  obtain ⟨M4, eM⟩ : ∃ M, L ++ enc (zig n) = M := ⟨_, rfl⟩
  rw [eM] at R4 L4
  rw [eM]
  have EM4 : Hid (L ++ enc (zig n) = M4) := eM
  clear eM r4
  have q3 : w4.cell? ⟨w.heap.size, 3, none⟩ = some (.int .i64 ok) := by simp [World.cell?, g4]
  have q4 : w4.cell? ⟨w.heap.size, 4, none⟩ = some (.string os) := by simp [World.cell?, g4]
  have q5 : w4.cell? ⟨w.heap.size, 5, none⟩ = some (.string od) := by simp [World.cell?, g4]
  have q6 : w4.cell? ⟨w.heap.size, 6, none⟩ = some (.int .i64 oa) := by simp [World.cell?, g4]
  have q7 : w4.cell? ⟨w.heap.size, 7, none⟩ = some (.string oy) := by simp [World.cell?, g4]
  have q8 : w4.cell? ⟨w.heap.size, 8, none⟩ = some (.int .i64 ol) := by simp [World.cell?, g4]
  have q9 : w4.cell? ⟨w.heap.size, 9, none⟩ = some (.int .i64 oh) := by simp [World.cell?, g4]
  have hsz : OpD.size ⟨ok, os, od, oa, oy, ol, oh⟩ ≤ 196608 := by
    have g : shortL [os, od, oy] = true := HF.out
    have x := short_mem g (s := os) (by simp)
    have y := short_mem g (s := od) (by simp)
    have z := short_mem g (s := oy) (by simp)
    unfold OpD.size; simp only; omega
  obtain ⟨s, hs⟩ := R4.out.seen (by have := L4.out; omega)
  have C := refPutOp_any a4 M4.length c4 M4 ⟨ok, os, od, oa, oy, ol, oh⟩ HD.out.op w4 s hs (by have := L4.out; omega)
  have C' : Calls Try.prog 38 #[.slice a4 M4.length c4, .agg #[.int .i64 ok, .string os, .string od, .int .i64 oa, .string oy, .int .i64 ol, .int .i64 oh]] w4 _ := C
  clear g4 C s hs hsz
  go_wp2_with fail
  refine C'.mono ?_
  clear C' q3 q4 q5 q6 q7 q8 q9
  rintro e w5 ⟨v5, rfl, o5, b5⟩
  obtain ⟨a5, c5, rfl, r5⟩ := Row8.of R4.out.bel b5 o5
  have R5 : Hid (Row8 w1 w5 a5 c5 (M4 ++ OpD.bytes ⟨ok, os, od, oa, oy, ol, oh⟩)) := r5
  clear r5 o5 b5
  all_goals
    have HBY : Hid ((M4 ++ OpD.bytes ⟨ok, os, od, oa, oy, ol, oh⟩) = LetD.bytes ⟨2, n, group, ⟨ok, os, od, oa, oy, ol, oh⟩, why, amount, rows, body⟩) := by
      show _ = _
      rw [← EM4.out, ← EL.out]
      simp [LetD.bytes, intsB]
    rw [HBY.out] at R5
    try rw [HBY.out]
    have HOWN : Hid (w5.ownsRow w.heap.size 5 1 (.slice a5 (LetD.bytes ⟨2, n, group, ⟨ok, os, od, oa, oy, ol, oh⟩, why, amount, rows, body⟩).length c5) (LetD.bytes ⟨2, n, group, ⟨ok, os, od, oa, oy, ol, oh⟩, why, amount, rows, body⟩).length (cellsOf (LetD.bytes ⟨2, n, group, ⟨ok, os, od, oa, oy, ol, oh⟩, why, amount, rows, body⟩))) := owns_mono' R5.out.own B1.out.size
    have HBL : Hid (Below w.heap.size w w5) := B1.out.trans (R5.out.bel.mono B1.out.size)
    have PS : Hid (1048576 < (LetD.bytes ⟨2, n, group, ⟨ok, os, od, oa, oy, ol, oh⟩, why, amount, rows, body⟩).length → LetD.pack ⟨2, n, group, ⟨ok, os, od, oa, oy, ol, oh⟩, why, amount, rows, body⟩ = ([], 3)) := fun hb => pack_size (by simp) HF.out hb
    have PO : Hid (¬ 1048576 < (LetD.bytes ⟨2, n, group, ⟨ok, os, od, oa, oy, ol, oh⟩, why, amount, rows, body⟩).length → LetD.pack ⟨2, n, group, ⟨ok, os, od, oa, oy, ol, oh⟩, why, amount, rows, body⟩ = (LetD.bytes ⟨2, n, group, ⟨ok, os, od, oa, oy, ol, oh⟩, why, amount, rows, body⟩, 0)) := fun hb => pack_ok (by simp) HF.out hb
    clear HBY HF HD HL R3 R4 R5
    generalize LetD.bytes ⟨2, n, group, ⟨ok, os, od, oa, oy, ol, oh⟩, why, amount, rows, body⟩ = BY at *
    by_cases hb : 1048576 < BY.length
    · have HP : Hid _ := PS.out hb
      have hb' : (1048576 : Int) < (BY.length : Int) := by omega
      clear hb
      go_wp2
      go_ret2
      exact ⟨_, by rw [HP.out]; rfl, by rw [HP.out]; exact owns_none _ _, HBL.out⟩
    · have HP : Hid _ := PO.out hb
      have hb' : ¬ (1048576 : Int) < (BY.length : Int) := by omega
      clear hb
      go_wp2
      go_ret2
      exact ⟨_, by rw [HP.out]; rfl, by rw [HP.out]; exact HOWN.out, HBL.out⟩
set_option maxRecDepth 100000 in
set_option maxHeartbeats 4000000 in
theorem refPack_3 {w : World} (n group : Int) (op : OpD) (why amount : Int) (rows : List (ByteArray × Int)) (body : List (BitVec 8)) {ra : Option Addr} {rc : Nat} {ba : Option Addr} {bc : Nat} (hd : LetD.ok ⟨3, n, group, op, why, amount, rows, body⟩) (hf : LetD.fits ⟨3, n, group, op, why, amount, rows, body⟩ = true) (h : LetAt w ⟨3, n, group, op, why, amount, rows, body⟩ ra rc ba bc) :
    Calls Try.prog 9 #[.agg (LetD.v ⟨3, n, group, op, why, amount, rows, body⟩ ra rc ba bc).cells] w fun e w' => ∃ v, e = .returned (.tuple #[v, .int .i64 (LetD.pack ⟨3, n, group, op, why, amount, rows, body⟩).2]) ∧ w'.ownsRow w.heap.size 5 1 v (LetD.pack ⟨3, n, group, op, why, amount, rows, body⟩).1.length (cellsOf (LetD.pack ⟨3, n, group, op, why, amount, rows, body⟩).1) ∧ Below w.heap.size w w' := by
  obtain ⟨ok, os, od, oa, oy, ol, oh⟩ := op
  show Calls Try.prog 9 #[.agg #[.int .i64 3, .int .i64 n, .int .i64 group, .int .i64 ok, .string os, .string od, .int .i64 oa, .string oy, .int .i64 ol, .int .i64 oh, .int .i64 why, .int .i64 amount, .slice ra rows.length rc, .slice ba body.length bc]] w _
  generalize hw1 : w.alloc (.cells #[.int .i64 3, .int .i64 n, .int .i64 group, .int .i64 ok, .string os, .string od, .int .i64 oa, .string oy, .int .i64 ol, .int .i64 oh, .int .i64 why, .int .i64 amount, .slice ra rows.length rc, .slice ba body.length bc] 30) = w1
  have b1 : Below w.heap.size w w1 := by rw [← hw1]; exact (Below.refl _ w).alloc (Nat.le_refl _) _
  have hh : w1.heap[w.heap.size]? = some (.cells #[.int .i64 3, .int .i64 n, .int .i64 group, .int .i64 ok, .string os, .string od, .int .i64 oa, .string oy, .int .i64 ol, .int .i64 oh, .int .i64 why, .int .i64 amount, .slice ra rows.length rc, .slice ba body.length bc] 30 (0, 0)) := by rw [← hw1]; exact heap_alloc_new w _
  have CC : Hid (∀ W, Below w1.heap.size w1 W → W.heap[w.heap.size]? = some (.cells #[.int .i64 3, .int .i64 n, .int .i64 group, .int .i64 ok, .string os, .string od, .int .i64 oa, .string oy, .int .i64 ol, .int .i64 oh, .int .i64 why, .int .i64 amount, .slice ra rows.length rc, .slice ba body.length bc] 30 (0, 0))) := fun W hW => (hW.block _ (Array.getElem?_eq_some_iff.1 hh).1).trans hh
  have C41 := long_any (w := w1) (d := ⟨3, n, group, ⟨ok, os, od, oa, oy, ol, oh⟩, why, amount, rows, body⟩) (by simp) (by simp) (h.below b1)
  rw [hf] at C41
  have C41' : Calls Try.prog 35 #[.agg #[.int .i64 3, .int .i64 n, .int .i64 group, .int .i64 ok, .string os, .string od, .int .i64 oa, .string oy, .int .i64 ol, .int .i64 oh, .int .i64 why, .int .i64 amount, .slice ra rows.length rc, .slice ba body.length bc]] w1 fun e w' => e = .returned (.bool false) ∧ Below w1.heap.size w1 w' := C41
  have HD : Hid (LetD.ok ⟨3, n, group, ⟨ok, os, od, oa, oy, ol, oh⟩, why, amount, rows, body⟩) := hd
  have HF : Hid (LetD.fits ⟨3, n, group, ⟨ok, os, od, oa, oy, ol, oh⟩, why, amount, rows, body⟩ = true) := hf
  have HL : Hid (LetAt w ⟨3, n, group, ⟨ok, os, od, oa, oy, ol, oh⟩, why, amount, rows, body⟩ ra rc ba bc) := h
  have B1 : Hid (Below w.heap.size w w1) := b1
  have HW : Hid (_ = w1) := hw1
  clear hw1 b1 hh C41 hd hf h
  go_enter Try.func9, Try.ntmps9
  go_wp2_with fail
  rw [HW.out]
  refine C41'.mono ?_
  rintro e w2 ⟨rfl, b2⟩
  have g2 := CC.out w2 b2
  have c0 : w2.cell? ⟨w.heap.size, 0, none⟩ = some (.int .i64 3) := by simp [World.cell?, g2]
  have R2 : Hid (Row8 w1 w2 none 0 []) := ⟨b2, owns_none _ _⟩
  have C42 := refInt_row R2.out (by simp) (n := 3) ⟨by decide, by decide⟩
  have C42' : Calls Try.prog 36 #[.slice none 0 0, .int .i64 3] w2 fun e w' => ∃ a' c', e = .returned (.slice a' (enc (zig 3)).length c') ∧ Row8 w1 w' a' c' (enc (zig 3)) := C42
  clear C41' b2 g2 C42 HW
  go_wp2_with fail
  refine C42'.mono ?_
  rintro e w3 ⟨a3, c3, rfl, r3⟩
  have g3 := CC.out w3 r3.bel
  have d0 : w3.cell? ⟨w.heap.size, 0, none⟩ = some (.int .i64 3) := by simp [World.cell?, g3]
  have l3 : (enc (zig 3)).length ≤ 10 := enc_ten (zig_lt 3 ⟨by decide, by decide⟩)
  have L3 : Hid ((enc (zig 3)).length ≤ 10) := l3
  have R3 : Hid (Row8 w1 w3 a3 c3 (enc (zig 3))) := r3
  have E3 : Hid (enc (zig 3) = enc (zig 3)) := rfl
  obtain ⟨L, eL⟩ : ∃ L, enc (zig 3) = L := ⟨_, rfl⟩
  rw [eL] at R3 L3
  rw [eL]
  have EL : Hid (enc (zig 3) = L) := eL
  clear C42' r3 l3 c0 eL E3 R2
  have q1 : w3.cell? ⟨w.heap.size, 1, none⟩ = some (.int .i64 n) := by simp [World.cell?, g3]
  have C := refInt_row R3.out (by have := L3.out; omega) HD.out.n
  have N4 : Hid ((enc (zig n)).length ≤ 10) := enc_ten (zig_lt n HD.out.n)
  clear g3
  simp only at C
  go_wp2_with fail
  refine C.mono ?_
  clear C q1 d0
  rintro e w4 ⟨a4, c4, rfl, r4⟩
  have g4 := CC.out w4 r4.bel
  have R4 : Hid (Row8 w1 w4 a4 c4 (L ++ enc (zig n))) := r4
  have L4 : Hid ((L ++ enc (zig n)).length ≤ 20) := by have := L3.out; have := N4.out; show _ ≤ _; rw [List.length_append]; omega
  obtain ⟨M4, eM⟩ : ∃ M, L ++ enc (zig n) = M := ⟨_, rfl⟩
  rw [eM] at R4 L4
  rw [eM]
  have EM4 : Hid (L ++ enc (zig n) = M4) := eM
  clear eM r4
  have q10 : w4.cell? ⟨w.heap.size, 10, none⟩ = some (.int .i64 why) := by simp [World.cell?, g4]
  have q11 : w4.cell? ⟨w.heap.size, 11, none⟩ = some (.int .i64 amount) := by simp [World.cell?, g4]
  have q12 : w4.cell? ⟨w.heap.size, 12, none⟩ = some (.slice ra rows.length rc) := by simp [World.cell?, g4]
  have hsz : rowsSize rows ≤ 39333600 := by
    have g : (decide (rows.length ≤ 600) && shortL (rows.map (·.1))) = true := HF.out
    rw [Bool.and_eq_true] at g
    have hl : rows.length ≤ 600 := by simpa using g.1
    have hs := rowsSize_short g.2
    omega
  obtain ⟨s, hs⟩ := R4.out.seen (by have := L4.out; omega)
  have hrw : RowsAt w4 ra rows.length rows := (HL.out.below (B1.out.trans (R4.out.bel.mono B1.out.size))).rows
  have C := refPutReply_any a4 M4.length c4 M4 why amount ra rows.length rc rows HD.out.why HD.out.amount HD.out.rows w4 s hs hrw (by have := L4.out; omega)
  clear g4 s hs hsz hrw
  go_wp2_with fail
  refine C.mono ?_
  clear C q10 q11 q12
  rintro e w5 ⟨v5, rfl, o5, b5⟩
  obtain ⟨a5, c5, rfl, r5⟩ := Row8.of (L := M4 ++ replyL why amount rows) R4.out.bel b5 o5
  have R5 : Hid (Row8 w1 w5 a5 c5 (M4 ++ replyL why amount rows)) := r5
  clear r5 o5 b5
  all_goals
    have HBY : Hid ((M4 ++ replyL why amount rows) = LetD.bytes ⟨3, n, group, ⟨ok, os, od, oa, oy, ol, oh⟩, why, amount, rows, body⟩) := by
      show _ = _
      rw [← EM4.out, ← EL.out]
      simp [LetD.bytes, intsB, replyL]
    rw [HBY.out] at R5
    try rw [HBY.out]
    have HOWN : Hid (w5.ownsRow w.heap.size 5 1 (.slice a5 (LetD.bytes ⟨3, n, group, ⟨ok, os, od, oa, oy, ol, oh⟩, why, amount, rows, body⟩).length c5) (LetD.bytes ⟨3, n, group, ⟨ok, os, od, oa, oy, ol, oh⟩, why, amount, rows, body⟩).length (cellsOf (LetD.bytes ⟨3, n, group, ⟨ok, os, od, oa, oy, ol, oh⟩, why, amount, rows, body⟩))) := owns_mono' R5.out.own B1.out.size
    have HBL : Hid (Below w.heap.size w w5) := B1.out.trans (R5.out.bel.mono B1.out.size)
    have PS : Hid (1048576 < (LetD.bytes ⟨3, n, group, ⟨ok, os, od, oa, oy, ol, oh⟩, why, amount, rows, body⟩).length → LetD.pack ⟨3, n, group, ⟨ok, os, od, oa, oy, ol, oh⟩, why, amount, rows, body⟩ = ([], 3)) := fun hb => pack_size (by simp) HF.out hb
    have PO : Hid (¬ 1048576 < (LetD.bytes ⟨3, n, group, ⟨ok, os, od, oa, oy, ol, oh⟩, why, amount, rows, body⟩).length → LetD.pack ⟨3, n, group, ⟨ok, os, od, oa, oy, ol, oh⟩, why, amount, rows, body⟩ = (LetD.bytes ⟨3, n, group, ⟨ok, os, od, oa, oy, ol, oh⟩, why, amount, rows, body⟩, 0)) := fun hb => pack_ok (by simp) HF.out hb
    clear HBY HF HD HL R3 R4 R5
    generalize LetD.bytes ⟨3, n, group, ⟨ok, os, od, oa, oy, ol, oh⟩, why, amount, rows, body⟩ = BY at *
    by_cases hb : 1048576 < BY.length
    · have HP : Hid _ := PS.out hb
      have hb' : (1048576 : Int) < (BY.length : Int) := by omega
      clear hb
      go_wp2
      go_ret2
      exact ⟨_, by rw [HP.out]; rfl, by rw [HP.out]; exact owns_none _ _, HBL.out⟩
    · have HP : Hid _ := PO.out hb
      have hb' : ¬ (1048576 : Int) < (BY.length : Int) := by omega
      clear hb
      go_wp2
      go_ret2
      exact ⟨_, by rw [HP.out]; rfl, by rw [HP.out]; exact HOWN.out, HBL.out⟩
set_option maxRecDepth 100000 in
set_option maxHeartbeats 4000000 in
theorem refPack_4 {w : World} (n group : Int) (op : OpD) (why amount : Int) (rows : List (ByteArray × Int)) (body : List (BitVec 8)) {ra : Option Addr} {rc : Nat} {ba : Option Addr} {bc : Nat} (hd : LetD.ok ⟨4, n, group, op, why, amount, rows, body⟩) (hf : LetD.fits ⟨4, n, group, op, why, amount, rows, body⟩ = true) (h : LetAt w ⟨4, n, group, op, why, amount, rows, body⟩ ra rc ba bc) :
    Calls Try.prog 9 #[.agg (LetD.v ⟨4, n, group, op, why, amount, rows, body⟩ ra rc ba bc).cells] w fun e w' => ∃ v, e = .returned (.tuple #[v, .int .i64 (LetD.pack ⟨4, n, group, op, why, amount, rows, body⟩).2]) ∧ w'.ownsRow w.heap.size 5 1 v (LetD.pack ⟨4, n, group, op, why, amount, rows, body⟩).1.length (cellsOf (LetD.pack ⟨4, n, group, op, why, amount, rows, body⟩).1) ∧ Below w.heap.size w w' := by
  obtain ⟨ok, os, od, oa, oy, ol, oh⟩ := op
  show Calls Try.prog 9 #[.agg #[.int .i64 4, .int .i64 n, .int .i64 group, .int .i64 ok, .string os, .string od, .int .i64 oa, .string oy, .int .i64 ol, .int .i64 oh, .int .i64 why, .int .i64 amount, .slice ra rows.length rc, .slice ba body.length bc]] w _
  generalize hw1 : w.alloc (.cells #[.int .i64 4, .int .i64 n, .int .i64 group, .int .i64 ok, .string os, .string od, .int .i64 oa, .string oy, .int .i64 ol, .int .i64 oh, .int .i64 why, .int .i64 amount, .slice ra rows.length rc, .slice ba body.length bc] 30) = w1
  have b1 : Below w.heap.size w w1 := by rw [← hw1]; exact (Below.refl _ w).alloc (Nat.le_refl _) _
  have hh : w1.heap[w.heap.size]? = some (.cells #[.int .i64 4, .int .i64 n, .int .i64 group, .int .i64 ok, .string os, .string od, .int .i64 oa, .string oy, .int .i64 ol, .int .i64 oh, .int .i64 why, .int .i64 amount, .slice ra rows.length rc, .slice ba body.length bc] 30 (0, 0)) := by rw [← hw1]; exact heap_alloc_new w _
  have CC : Hid (∀ W, Below w1.heap.size w1 W → W.heap[w.heap.size]? = some (.cells #[.int .i64 4, .int .i64 n, .int .i64 group, .int .i64 ok, .string os, .string od, .int .i64 oa, .string oy, .int .i64 ol, .int .i64 oh, .int .i64 why, .int .i64 amount, .slice ra rows.length rc, .slice ba body.length bc] 30 (0, 0))) := fun W hW => (hW.block _ (Array.getElem?_eq_some_iff.1 hh).1).trans hh
  have C41 := long_any (w := w1) (d := ⟨4, n, group, ⟨ok, os, od, oa, oy, ol, oh⟩, why, amount, rows, body⟩) (by simp) (by simp) (h.below b1)
  rw [hf] at C41
  have C41' : Calls Try.prog 35 #[.agg #[.int .i64 4, .int .i64 n, .int .i64 group, .int .i64 ok, .string os, .string od, .int .i64 oa, .string oy, .int .i64 ol, .int .i64 oh, .int .i64 why, .int .i64 amount, .slice ra rows.length rc, .slice ba body.length bc]] w1 fun e w' => e = .returned (.bool false) ∧ Below w1.heap.size w1 w' := C41
  have HD : Hid (LetD.ok ⟨4, n, group, ⟨ok, os, od, oa, oy, ol, oh⟩, why, amount, rows, body⟩) := hd
  have HF : Hid (LetD.fits ⟨4, n, group, ⟨ok, os, od, oa, oy, ol, oh⟩, why, amount, rows, body⟩ = true) := hf
  have HL : Hid (LetAt w ⟨4, n, group, ⟨ok, os, od, oa, oy, ol, oh⟩, why, amount, rows, body⟩ ra rc ba bc) := h
  have B1 : Hid (Below w.heap.size w w1) := b1
  have HW : Hid (_ = w1) := hw1
  clear hw1 b1 hh C41 hd hf h
  go_enter Try.func9, Try.ntmps9
  go_wp2_with fail
  rw [HW.out]
  refine C41'.mono ?_
  rintro e w2 ⟨rfl, b2⟩
  have g2 := CC.out w2 b2
  have c0 : w2.cell? ⟨w.heap.size, 0, none⟩ = some (.int .i64 4) := by simp [World.cell?, g2]
  have R2 : Hid (Row8 w1 w2 none 0 []) := ⟨b2, owns_none _ _⟩
  have C42 := refInt_row R2.out (by simp) (n := 4) ⟨by decide, by decide⟩
  have C42' : Calls Try.prog 36 #[.slice none 0 0, .int .i64 4] w2 fun e w' => ∃ a' c', e = .returned (.slice a' (enc (zig 4)).length c') ∧ Row8 w1 w' a' c' (enc (zig 4)) := C42
  clear C41' b2 g2 C42 HW
  go_wp2_with fail
  refine C42'.mono ?_
  rintro e w3 ⟨a3, c3, rfl, r3⟩
  have g3 := CC.out w3 r3.bel
  have d0 : w3.cell? ⟨w.heap.size, 0, none⟩ = some (.int .i64 4) := by simp [World.cell?, g3]
  have l3 : (enc (zig 4)).length ≤ 10 := enc_ten (zig_lt 4 ⟨by decide, by decide⟩)
  have L3 : Hid ((enc (zig 4)).length ≤ 10) := l3
  have R3 : Hid (Row8 w1 w3 a3 c3 (enc (zig 4))) := r3
  have E3 : Hid (enc (zig 4) = enc (zig 4)) := rfl
  obtain ⟨L, eL⟩ : ∃ L, enc (zig 4) = L := ⟨_, rfl⟩
  rw [eL] at R3 L3
  rw [eL]
  have EL : Hid (enc (zig 4) = L) := eL
  clear C42' r3 l3 c0 eL E3 R2
  have q1 : w3.cell? ⟨w.heap.size, 1, none⟩ = some (.int .i64 n) := by simp [World.cell?, g3]
  have C := refInt_row R3.out (by have := L3.out; omega) HD.out.n
  have N4 : Hid ((enc (zig n)).length ≤ 10) := enc_ten (zig_lt n HD.out.n)
  clear g3
  simp only at C
  go_wp2_with fail
  refine C.mono ?_
  clear C q1 d0
  rintro e w4 ⟨a4, c4, rfl, r4⟩
  have g4 := CC.out w4 r4.bel
  have R4 : Hid (Row8 w1 w4 a4 c4 (L ++ enc (zig n))) := r4
  have L4 : Hid ((L ++ enc (zig n)).length ≤ 20) := by have := L3.out; have := N4.out; show _ ≤ _; rw [List.length_append]; omega
  obtain ⟨M4, eM⟩ : ∃ M, L ++ enc (zig n) = M := ⟨_, rfl⟩
  rw [eM] at R4 L4
  rw [eM]
  have EM4 : Hid (L ++ enc (zig n) = M4) := eM
  clear eM r4
  have q13 : w4.cell? ⟨w.heap.size, 13, none⟩ = some (.slice ba body.length bc) := by simp [World.cell?, g4]
  have hz : body.length ≤ 65536 := by simpa [LetD.fits] using HF.out
  have hbd := (HL.out.below (B1.out.trans (R4.out.bel.mono B1.out.size))).body
  have C := refBytes_any none 0 0 [] ba body.length bc body w4 (seen_none _) (fun _ => rfl) hbd HL.out.nil (by omega)
  have HZ : Hid (body.length ≤ 65536) := hz
  clear g4 hbd hz
  go_wp2_with fail
  refine C.mono ?_
  clear C q13
  rintro e w8 ⟨v8, rfl, o8, b8⟩
  rw [Nat.zero_add, List.nil_append] at o8
  have hsl : (sz body).length ≤ 65546 := by have := sz_length_le body (by have := HZ.out; omega); have := HZ.out; omega
  obtain ⟨a8, c8, rfl, s8, n8, _⟩ := owned_seen o8 (by unfold maxLen; omega)
  obtain ⟨a9, c9, w9, run9, r9⟩ := R4.out.append (by have := L4.out; omega) b8 s8 n8 (by omega)
  have RUN : Hid _ := run9
  have R9 : Hid (Row8 w1 w9 a9 c9 (M4 ++ sz body)) := r9
  clear o8 b8 hsl s8 n8 run9 r9
  all_goals
    have HBY : Hid ((M4 ++ sz body) = LetD.bytes ⟨4, n, group, ⟨ok, os, od, oa, oy, ol, oh⟩, why, amount, rows, body⟩) := by
      show _ = _
      rw [← EM4.out, ← EL.out]
      simp [LetD.bytes, intsB]
    rw [HBY.out] at R9 RUN
    try rw [HBY.out]
    have HOWN : Hid (w9.ownsRow w.heap.size 5 1 (.slice a9 (LetD.bytes ⟨4, n, group, ⟨ok, os, od, oa, oy, ol, oh⟩, why, amount, rows, body⟩).length c9) (LetD.bytes ⟨4, n, group, ⟨ok, os, od, oa, oy, ol, oh⟩, why, amount, rows, body⟩).length (cellsOf (LetD.bytes ⟨4, n, group, ⟨ok, os, od, oa, oy, ol, oh⟩, why, amount, rows, body⟩))) := owns_mono' R9.out.own B1.out.size
    have HBL : Hid (Below w.heap.size w w9) := B1.out.trans (R9.out.bel.mono B1.out.size)
    have PS : Hid (1048576 < (LetD.bytes ⟨4, n, group, ⟨ok, os, od, oa, oy, ol, oh⟩, why, amount, rows, body⟩).length → LetD.pack ⟨4, n, group, ⟨ok, os, od, oa, oy, ol, oh⟩, why, amount, rows, body⟩ = ([], 3)) := fun hb => pack_size (by simp) HF.out hb
    have PO : Hid (¬ 1048576 < (LetD.bytes ⟨4, n, group, ⟨ok, os, od, oa, oy, ol, oh⟩, why, amount, rows, body⟩).length → LetD.pack ⟨4, n, group, ⟨ok, os, od, oa, oy, ol, oh⟩, why, amount, rows, body⟩ = (LetD.bytes ⟨4, n, group, ⟨ok, os, od, oa, oy, ol, oh⟩, why, amount, rows, body⟩, 0)) := fun hb => pack_ok (by simp) HF.out hb
    clear HBY HF HD HL R3 R4 R9
    generalize LetD.bytes ⟨4, n, group, ⟨ok, os, od, oa, oy, ol, oh⟩, why, amount, rows, body⟩ = BY at *
    by_cases hb : 1048576 < BY.length
    · have HP : Hid _ := PS.out hb
      have hb' : (1048576 : Int) < (BY.length : Int) := by omega
      clear hb
      go_wp2_with (at_builtin; refine wpList_append_known rfl (.tmp 53) (.tmp 56) 28 28 rfl _ _ rfl rfl _ _ RUN.out ?_)
      go_ret2
      exact ⟨_, by rw [HP.out]; rfl, by rw [HP.out]; exact owns_none _ _, HBL.out⟩
    · have HP : Hid _ := PO.out hb
      have hb' : ¬ (1048576 : Int) < (BY.length : Int) := by omega
      clear hb
      go_wp2_with (at_builtin; refine wpList_append_known rfl (.tmp 53) (.tmp 56) 28 28 rfl _ _ rfl rfl _ _ RUN.out ?_)
      go_ret2
      exact ⟨_, by rw [HP.out]; rfl, by rw [HP.out]; exact HOWN.out, HBL.out⟩
set_option maxRecDepth 100000 in
set_option maxHeartbeats 4000000 in
theorem refPack_5 {w : World} (n group : Int) (op : OpD) (why amount : Int) (rows : List (ByteArray × Int)) (body : List (BitVec 8)) {ra : Option Addr} {rc : Nat} {ba : Option Addr} {bc : Nat} (hd : LetD.ok ⟨5, n, group, op, why, amount, rows, body⟩) (hf : LetD.fits ⟨5, n, group, op, why, amount, rows, body⟩ = true) (h : LetAt w ⟨5, n, group, op, why, amount, rows, body⟩ ra rc ba bc) :
    Calls Try.prog 9 #[.agg (LetD.v ⟨5, n, group, op, why, amount, rows, body⟩ ra rc ba bc).cells] w fun e w' => ∃ v, e = .returned (.tuple #[v, .int .i64 (LetD.pack ⟨5, n, group, op, why, amount, rows, body⟩).2]) ∧ w'.ownsRow w.heap.size 5 1 v (LetD.pack ⟨5, n, group, op, why, amount, rows, body⟩).1.length (cellsOf (LetD.pack ⟨5, n, group, op, why, amount, rows, body⟩).1) ∧ Below w.heap.size w w' := by
  obtain ⟨ok, os, od, oa, oy, ol, oh⟩ := op
  show Calls Try.prog 9 #[.agg #[.int .i64 5, .int .i64 n, .int .i64 group, .int .i64 ok, .string os, .string od, .int .i64 oa, .string oy, .int .i64 ol, .int .i64 oh, .int .i64 why, .int .i64 amount, .slice ra rows.length rc, .slice ba body.length bc]] w _
  generalize hw1 : w.alloc (.cells #[.int .i64 5, .int .i64 n, .int .i64 group, .int .i64 ok, .string os, .string od, .int .i64 oa, .string oy, .int .i64 ol, .int .i64 oh, .int .i64 why, .int .i64 amount, .slice ra rows.length rc, .slice ba body.length bc] 30) = w1
  have b1 : Below w.heap.size w w1 := by rw [← hw1]; exact (Below.refl _ w).alloc (Nat.le_refl _) _
  have hh : w1.heap[w.heap.size]? = some (.cells #[.int .i64 5, .int .i64 n, .int .i64 group, .int .i64 ok, .string os, .string od, .int .i64 oa, .string oy, .int .i64 ol, .int .i64 oh, .int .i64 why, .int .i64 amount, .slice ra rows.length rc, .slice ba body.length bc] 30 (0, 0)) := by rw [← hw1]; exact heap_alloc_new w _
  have CC : Hid (∀ W, Below w1.heap.size w1 W → W.heap[w.heap.size]? = some (.cells #[.int .i64 5, .int .i64 n, .int .i64 group, .int .i64 ok, .string os, .string od, .int .i64 oa, .string oy, .int .i64 ol, .int .i64 oh, .int .i64 why, .int .i64 amount, .slice ra rows.length rc, .slice ba body.length bc] 30 (0, 0))) := fun W hW => (hW.block _ (Array.getElem?_eq_some_iff.1 hh).1).trans hh
  have C41 := long_any (w := w1) (d := ⟨5, n, group, ⟨ok, os, od, oa, oy, ol, oh⟩, why, amount, rows, body⟩) (by simp) (by simp) (h.below b1)
  rw [hf] at C41
  have C41' : Calls Try.prog 35 #[.agg #[.int .i64 5, .int .i64 n, .int .i64 group, .int .i64 ok, .string os, .string od, .int .i64 oa, .string oy, .int .i64 ol, .int .i64 oh, .int .i64 why, .int .i64 amount, .slice ra rows.length rc, .slice ba body.length bc]] w1 fun e w' => e = .returned (.bool false) ∧ Below w1.heap.size w1 w' := C41
  have HD : Hid (LetD.ok ⟨5, n, group, ⟨ok, os, od, oa, oy, ol, oh⟩, why, amount, rows, body⟩) := hd
  have HF : Hid (LetD.fits ⟨5, n, group, ⟨ok, os, od, oa, oy, ol, oh⟩, why, amount, rows, body⟩ = true) := hf
  have HL : Hid (LetAt w ⟨5, n, group, ⟨ok, os, od, oa, oy, ol, oh⟩, why, amount, rows, body⟩ ra rc ba bc) := h
  have B1 : Hid (Below w.heap.size w w1) := b1
  have HW : Hid (_ = w1) := hw1
  clear hw1 b1 hh C41 hd hf h
  go_enter Try.func9, Try.ntmps9
  go_wp2_with fail
  rw [HW.out]
  refine C41'.mono ?_
  rintro e w2 ⟨rfl, b2⟩
  have g2 := CC.out w2 b2
  have c0 : w2.cell? ⟨w.heap.size, 0, none⟩ = some (.int .i64 5) := by simp [World.cell?, g2]
  have R2 : Hid (Row8 w1 w2 none 0 []) := ⟨b2, owns_none _ _⟩
  have C42 := refInt_row R2.out (by simp) (n := 5) ⟨by decide, by decide⟩
  have C42' : Calls Try.prog 36 #[.slice none 0 0, .int .i64 5] w2 fun e w' => ∃ a' c', e = .returned (.slice a' (enc (zig 5)).length c') ∧ Row8 w1 w' a' c' (enc (zig 5)) := C42
  clear C41' b2 g2 C42 HW
  go_wp2_with fail
  refine C42'.mono ?_
  rintro e w3 ⟨a3, c3, rfl, r3⟩
  have g3 := CC.out w3 r3.bel
  have d0 : w3.cell? ⟨w.heap.size, 0, none⟩ = some (.int .i64 5) := by simp [World.cell?, g3]
  have l3 : (enc (zig 5)).length ≤ 10 := enc_ten (zig_lt 5 ⟨by decide, by decide⟩)
  have L3 : Hid ((enc (zig 5)).length ≤ 10) := l3
  have R3 : Hid (Row8 w1 w3 a3 c3 (enc (zig 5))) := r3
  have E3 : Hid (enc (zig 5) = enc (zig 5)) := rfl
  obtain ⟨L, eL⟩ : ∃ L, enc (zig 5) = L := ⟨_, rfl⟩
  rw [eL] at R3 L3
  rw [eL]
  have EL : Hid (enc (zig 5) = L) := eL
  clear C42' r3 l3 c0 eL E3 R2
  have q1 : w3.cell? ⟨w.heap.size, 1, none⟩ = some (.int .i64 n) := by simp [World.cell?, g3]
  have C := refInt_row R3.out (by have := L3.out; omega) HD.out.n
  have N4 : Hid ((enc (zig n)).length ≤ 10) := enc_ten (zig_lt n HD.out.n)
  clear g3
  simp only at C
  go_wp2_with fail
  refine C.mono ?_
  clear C q1 d0
  rintro e w4 ⟨a4, c4, rfl, r4⟩
  have g4 := CC.out w4 r4.bel
  have R4 : Hid (Row8 w1 w4 a4 c4 (L ++ enc (zig n))) := r4
  have L4 : Hid ((L ++ enc (zig n)).length ≤ 20) := by have := L3.out; have := N4.out; show _ ≤ _; rw [List.length_append]; omega
  obtain ⟨M4, eM⟩ : ∃ M, L ++ enc (zig n) = M := ⟨_, rfl⟩
  rw [eM] at R4 L4
  rw [eM]
  have EM4 : Hid (L ++ enc (zig n) = M4) := eM
  clear eM r4
  have q2 : w4.cell? ⟨w.heap.size, 2, none⟩ = some (.int .i64 group) := by simp [World.cell?, g4]
  have C := refInt_row R4.out (by have := L4.out; omega) HD.out.group
  have N5 : Hid ((enc (zig group)).length ≤ 10) := enc_ten (zig_lt group HD.out.group)
  clear g4
  simp only at C
  go_wp2_with fail
  refine C.mono ?_
  clear C q2
  rintro e w5 ⟨a5, c5, rfl, r5⟩
  have g5 := CC.out w5 r5.bel
  have R5 : Hid (Row8 w1 w5 a5 c5 (M4 ++ enc (zig group))) := r5
  have L5 : Hid ((M4 ++ enc (zig group)).length ≤ 30) := by have := L4.out; have := N5.out; show _ ≤ _; rw [List.length_append]; omega
  obtain ⟨M5, eM⟩ : ∃ M, M4 ++ enc (zig group) = M := ⟨_, rfl⟩
  rw [eM] at R5 L5
  rw [eM]
  have EM5 : Hid (M4 ++ enc (zig group) = M5) := eM
  clear eM r5
  have q13 : w5.cell? ⟨w.heap.size, 13, none⟩ = some (.slice ba body.length bc) := by simp [World.cell?, g5]
  have hz : body.length ≤ 65536 := by simpa [LetD.fits] using HF.out
  have hbd := (HL.out.below (B1.out.trans (R5.out.bel.mono B1.out.size))).body
  have C := refBytes_any none 0 0 [] ba body.length bc body w5 (seen_none _) (fun _ => rfl) hbd HL.out.nil (by omega)
  have HZ : Hid (body.length ≤ 65536) := hz
  clear g5 hbd hz
  go_wp2_with fail
  refine C.mono ?_
  clear C q13
  rintro e w8 ⟨v8, rfl, o8, b8⟩
  rw [Nat.zero_add, List.nil_append] at o8
  have hsl : (sz body).length ≤ 65546 := by have := sz_length_le body (by have := HZ.out; omega); have := HZ.out; omega
  obtain ⟨a8, c8, rfl, s8, n8, _⟩ := owned_seen o8 (by unfold maxLen; omega)
  obtain ⟨a9, c9, w9, run9, r9⟩ := R5.out.append (by have := L5.out; omega) b8 s8 n8 (by omega)
  have RUN : Hid _ := run9
  have R9 : Hid (Row8 w1 w9 a9 c9 (M5 ++ sz body)) := r9
  clear o8 b8 hsl s8 n8 run9 r9
  all_goals
    have HBY : Hid ((M5 ++ sz body) = LetD.bytes ⟨5, n, group, ⟨ok, os, od, oa, oy, ol, oh⟩, why, amount, rows, body⟩) := by
      show _ = _
      rw [← EM5.out, ← EM4.out, ← EL.out]
      simp [LetD.bytes, intsB]
    rw [HBY.out] at R9 RUN
    try rw [HBY.out]
    have HOWN : Hid (w9.ownsRow w.heap.size 5 1 (.slice a9 (LetD.bytes ⟨5, n, group, ⟨ok, os, od, oa, oy, ol, oh⟩, why, amount, rows, body⟩).length c9) (LetD.bytes ⟨5, n, group, ⟨ok, os, od, oa, oy, ol, oh⟩, why, amount, rows, body⟩).length (cellsOf (LetD.bytes ⟨5, n, group, ⟨ok, os, od, oa, oy, ol, oh⟩, why, amount, rows, body⟩))) := owns_mono' R9.out.own B1.out.size
    have HBL : Hid (Below w.heap.size w w9) := B1.out.trans (R9.out.bel.mono B1.out.size)
    have PS : Hid (1048576 < (LetD.bytes ⟨5, n, group, ⟨ok, os, od, oa, oy, ol, oh⟩, why, amount, rows, body⟩).length → LetD.pack ⟨5, n, group, ⟨ok, os, od, oa, oy, ol, oh⟩, why, amount, rows, body⟩ = ([], 3)) := fun hb => pack_size (by simp) HF.out hb
    have PO : Hid (¬ 1048576 < (LetD.bytes ⟨5, n, group, ⟨ok, os, od, oa, oy, ol, oh⟩, why, amount, rows, body⟩).length → LetD.pack ⟨5, n, group, ⟨ok, os, od, oa, oy, ol, oh⟩, why, amount, rows, body⟩ = (LetD.bytes ⟨5, n, group, ⟨ok, os, od, oa, oy, ol, oh⟩, why, amount, rows, body⟩, 0)) := fun hb => pack_ok (by simp) HF.out hb
    clear HBY HF HD HL R3 R4 R5 R9
    generalize LetD.bytes ⟨5, n, group, ⟨ok, os, od, oa, oy, ol, oh⟩, why, amount, rows, body⟩ = BY at *
    by_cases hb : 1048576 < BY.length
    · have HP : Hid _ := PS.out hb
      have hb' : (1048576 : Int) < (BY.length : Int) := by omega
      clear hb
      go_wp2_with (at_builtin; refine wpList_append_known rfl (.tmp 68) (.tmp 71) 28 28 rfl _ _ rfl rfl _ _ RUN.out ?_)
      go_ret2
      exact ⟨_, by rw [HP.out]; rfl, by rw [HP.out]; exact owns_none _ _, HBL.out⟩
    · have HP : Hid _ := PO.out hb
      have hb' : ¬ (1048576 : Int) < (BY.length : Int) := by omega
      clear hb
      go_wp2_with (at_builtin; refine wpList_append_known rfl (.tmp 68) (.tmp 71) 28 28 rfl _ _ rfl rfl _ _ RUN.out ?_)
      go_ret2
      exact ⟨_, by rw [HP.out]; rfl, by rw [HP.out]; exact HOWN.out, HBL.out⟩
end Go.Proofs.Ytmcippolnekogaa

namespace Go.Proofs.Ytmcippolnekogaa
open Go.RowKit Cod
attribute [local go_sem] Oper.semAt_some
set_option linter.unusedVariables false

set_option maxRecDepth 100000 in
set_option maxHeartbeats 1600000 in
theorem refPack_any {w : World} {d : LetD} {ra : Option Addr} {rc : Nat} {ba : Option Addr} {bc : Nat} (hd : d.ok) (h : LetAt w d ra rc ba bc) :
    Calls Try.prog 9 #[.agg (d.v ra rc ba bc).cells] w fun e w' => ∃ v, e = .returned (.tuple #[v, .int .i64 d.pack.2]) ∧ w'.ownsRow w.heap.size 5 1 v d.pack.1.length (cellsOf d.pack.1) ∧ Below w.heap.size w w' := by
  by_cases hi : d.kind < 1 ∨ 5 < d.kind
  case neg =>
    cases hf : d.fits with
    | true =>
      obtain ⟨kind, n, group, op, why, amount, rows, body⟩ := d
      simp only at hi
      rcases kinds (k := kind) (by omega) (by omega) with rfl | rfl | rfl | rfl | rfl
      · exact refPack_1 n group op why amount rows body hd hf h
      · exact refPack_2 n group op why amount rows body hd hf h
      · exact refPack_3 n group op why amount rows body hd hf h
      · exact refPack_4 n group op why amount rows body hd hf h
      · exact refPack_5 n group op why amount rows body hd hf h
    | false =>
      obtain ⟨C, eC, lC, c0, aC⟩ := v_cells (d.v ra rc ba bc)
      have HP : Hid _ := pack_fits hi hf
      have bA := (Below.refl _ w).alloc (Nat.le_refl _) (.cells C.toArray 30)
      have C41 := long_any (by omega) (by omega) (h.below bA)
      rw [hf, eC] at C41
      have k0 : (w.alloc (.cells C.toArray 30)).cell? ⟨w.heap.size, 0, none⟩ = some (.int .i64 d.kind) := by
        rw [World.cell?_alloc_mark]; simpa [LetD.v] using c0
      have HH : Hid _ := heap_alloc_new w (.cells C.toArray 30)
      have HZ : Hid ((Try.prog.info? 30).map (·.size) = some C.toArray.size) := by
        have e : (Try.prog.info? 30).map (·.size) = some 14 := by kernel_rfl
        show _ = _
        rw [e, List.size_toArray, lC]
      have BA : Hid (Below w.heap.size w _) := bA
      have n1 : ¬ d.kind < 1 := by omega
      have n5 : ¬ 5 < d.kind := by omega
      rw [eC]
      clear eC lC c0 aC bA hd h hf hi
      go_enter Try.func9, Try.ntmps9
      go_wp2_with (refine wpList_load_row rfl 30 (.tmp 1) rfl w.heap.size rfl 30 C.toArray (0, 0) _ HH.out Try.underlying30 rfl HZ.out ?_)
      refine C41.mono ?_
      rintro e w2 ⟨rfl, b2⟩
      have B2 : Hid (Below w.heap.size w w2) := BA.out.trans (b2.mono BA.out.size)
      clear b2 C41 k0
      go_wp2
      go_ret2
      exact ⟨_, by rw [HP.out]; rfl, by rw [HP.out]; exact owns_none _ _, B2.out⟩
  obtain ⟨C, eC, lC, c0, aC⟩ := v_cells (d.v ra rc ba bc)
  have HP : Hid _ := pack_arg hi
  have k0 : (w.alloc (.cells C.toArray 30)).cell? ⟨w.heap.size, 0, none⟩ = some (.int .i64 d.kind) := by
    rw [World.cell?_alloc_mark]; simpa [LetD.v] using c0
  have BA : Hid (Below w.heap.size w _) := (Below.refl _ w).alloc (Nat.le_refl _) (.cells C.toArray 30)
  rw [eC]
  rcases hi with ha | ha
  · clear eC lC c0 aC hd h
    go_enter Try.func9, Try.ntmps9
    go_wp2
    go_ret2
    exact ⟨_, by rw [HP.out]; rfl, by rw [HP.out]; exact owns_none _ _, BA.out⟩
  · have ha' : ¬ d.kind < 1 := by omega
    clear eC lC c0 aC hd h
    go_enter Try.func9, Try.ntmps9
    go_wp2
    go_ret2
    exact ⟨_, by rw [HP.out]; rfl, by rw [HP.out]; exact owns_none _ _, BA.out⟩
end Go.Proofs.Ytmcippolnekogaa
