/- The reference's disk: Image and Read. -/
import Derived.Test.YtnpebdnfdbeiaaaRDsk
namespace Go.Proofs.Ytnpebdnfdbeiaaa
open Go.RowKit
set_option linter.unusedVariables false

theorem take_secs (I : List (BitVec 8)) (k : Nat) : I.take (256 * k) ++ sec I k = I.take (256 * (k + 1)) := by
  unfold sec
  rw [← List.take_add]
  rfl
set_option maxRecDepth 100000 in
set_option maxHeartbeats 1600000 in
theorem refImage_any (m : RM) (n : Nat) (s : DS) (w : World) (h : RDsk w m n s) : Calls Try.prog 29 #[.pointer (some ⟨m.R, 0, none⟩)] w fun e w' => ∃ v, e = .returned v ∧ w'.ownsRow w.heap.size 5 1 v (256 * n) (cellsOf s.img) ∧ Below w.heap.size w w' := by
  have H : Hid (RDsk w m n s) := h
  obtain ⟨g, c, es⟩ := h.sform
  have ES : Hid (m.sv = .slice (some ⟨g, 0, none⟩) n c) := es
  have HN : Hid (n ≤ 4096) := h.ok.n2
  obtain ⟨R, eR⟩ : ∃ R, m.R = R := ⟨_, rfl⟩
  have ER : Hid (m.R = R) := eR
  rw [eR]
  clear h es eR
  go_enter Try.func29, Try.ntmps29
  go_wp2_with fail
  go_loopw [3, 4] (fun v i wr => ∃ (k : Nat) (va : Option Addr) (vl vc : Nat), v = .slice va vl vc ∧ i = .int .i64 k ∧ Hid (k ≤ n) ∧ Hid (wr.ownsRow w.heap.size 5 1 (.slice va vl vc) (256 * k) (cellsOf (s.img.take (256 * k)))) ∧ Hid (Below w.heap.size w wr)) (fun _ i _ => n - (intOf i).toNat)
  case atStart => exact ⟨0, none, 0, 0, rfl, rfl, Nat.zero_le _, World.ownsRow_nil _ _ _ _, Below.refl _ w⟩
  case round =>
    obtain ⟨k, va, vl, vc, rfl, rfl, hk, hO, hB⟩ := hrel
    have h0 := H.out.below hB.out
    have c0 := h0.cells.1
    rw [ES.out, ER.out] at c0
    by_cases hlt : k < n
    · have hgs : k < m.gs.length := by rw [h0.ls]; exact hlt
      have c1 := (h0.s_at ES.out hgs).1
      have cc := (h0.cs k hgs).seen
      obtain ⟨gk, ek⟩ : ∃ x, m.gs[k] = x := ⟨_, rfl⟩
      rw [ek] at c1 cc
      obtain ⟨v4, w4, hr4, o4, g4⟩ := run_append_bytes 22 wr w.heap.size (.slice va vl vc) (256 * k) (s.img.take (256 * k)) hO.out (some ⟨gk, 0, none⟩) 256 256 (sec s.img k) cc (fun e => by cases e) (by have := HN.out; omega) hB.out.size
      rw [take_secs] at o4
      have e4 : ∃ a l c, v4 = .slice a l c := by
        rcases o4.2 with ⟨e, _⟩ | ⟨g, c, cur, e, _⟩
        · exact ⟨_, _, _, e⟩
        · exact ⟨_, _, _, e⟩
      obtain ⟨a4, l4, p4, rfl⟩ := e4
      have O4 : Hid (w4.ownsRow w.heap.size 5 1 (.slice a4 l4 p4) (256 * (k + 1)) (cellsOf (s.img.take (256 * (k + 1)))) ∧ Below w.heap.size w w4) := ⟨o4, hB.out.grown g4 hB.out.size (fun j e => (hO.out.lt j e).1)⟩
      have HR : Hid _ := hr4
      have h1 : (k : Int) < (n : Int) := by omega
      have h2 : (k : Int) < 4096 := by have := HN.out; omega
      have HLT : Hid (k < n) := hlt
      have WK : Hid ((k : Int) + 1 = ((k + 1 : Nat) : Int)) := by show (k : Int) + 1 = ((k + 1 : Nat) : Int); omega
      clear h0 hlt hgs cc ek o4 g4 hr4 hk hO hB
      go_wp2_with (at_builtin; refine wpList_append_known rfl (.tmp 14) (.tmp 21) 22 22 rfl _ _ rfl rfl _ _ HR.out ?_)
      rw [WK.out]
      go_roundw
      case rel => exact ⟨k + 1, a4, l4, p4, rfl, rfl, HLT.out, O4.out.1, O4.out.2⟩
      case measure => exact less_by HLT.out
    · obtain rfl : k = n := by have := hk.out; omega
      have h1 : ¬ (k : Int) < (k : Int) := by omega
      have tk : s.img.take (256 * k) = s.img := List.take_of_length_le (by have := h0.ok.li; omega)
      have hO' : Hid (wr.ownsRow w.heap.size 5 1 (.slice va vl vc) (256 * k) (cellsOf s.img)) := by have := hO.out; rw [tk] at this; exact this
      clear h0 hlt tk hO hk
      go_wp2
      go_ret
      exact ⟨_, rfl, hO'.out, hB.out⟩
/-- The last write of a sector, of some first ones. -/
def lastTo (s : DS) (i k : Nat) : List (BitVec 8) := (s.ws.take k).foldl (fun b x => if x.1 = i then x.2 else b) (sec s.img i)
theorem lastTo_step (s : DS) (i k : Nat) (h : k < s.ws.length) : lastTo s i (k + 1) = if s.ws[k].1 = i then s.ws[k].2 else lastTo s i k := by
  unfold lastTo
  rw [List.take_succ_eq_append_getElem h, List.foldl_append]
  rfl
theorem last_all : ∀ (ws : List (Nat × List (BitVec 8))) (l : List (BitVec 8)) (n i : Nat), l.length = 256 * n → (∀ x ∈ ws, x.1 < n ∧ x.2.length = 256) → ws.foldl (fun b x => if x.1 = i then x.2 else b) (sec l i) = sec (reachAll l ws) i
  | [], l, n, i, _, _ => rfl
  | x :: ws, l, n, i, h, hw => by
    have hx := hw x List.mem_cons_self
    show ws.foldl _ (if x.1 = i then x.2 else sec l i) = sec (reachAll (patch l x.1 x.2) ws) i
    rw [← last_all ws (patch l x.1 x.2) n i (patch_ok h hx.1 (by omega)) (fun y hy => hw y (List.mem_cons_of_mem _ hy))]
    congr 1
    split
    · rename_i e; rw [← e, sec_patch_same (by omega) hx.2]
    · rename_i e; rw [sec_patch_ne (by omega) (by omega) e]
theorem lastTo_all {s : DS} {n : Nat} (h : s.ok n) (e : s.even) (i : Nat) : lastTo s i s.ws.length = readD s i := by
  have e' : s.now = reachAll s.img s.ws := e
  unfold lastTo readD
  rw [List.take_of_length_le (Nat.le_refl _), e', last_all s.ws s.img n i h.li h.lw]
set_option maxRecDepth 100000 in
set_option maxHeartbeats 1600000 in
theorem refRead_any (m : RM) (n : Nat) (s : DS) (i : Nat) (w : World) (h : RDsk w m n s) (he : s.even) (hi : i < n) : Calls Try.prog 33 #[.pointer (some ⟨m.R, 0, none⟩), .int .i64 (i : Int)] w fun e w' => ∃ g, e = .returned (.tuple #[.slice (some ⟨g, 0, none⟩) 256 256, .int .i64 0]) ∧ w.heap.size ≤ g ∧ Con w' g (readD s i) ∧ Below w.heap.size w w' := by
  have H : Hid (RDsk w m n s) := h
  have HE : Hid (lastTo s i s.ws.length = readD s i) := lastTo_all h.ok he i
  obtain ⟨g, c, es⟩ := h.sform
  obtain ⟨la, lc, el⟩ := h.lform
  have ES : Hid (m.sv = .slice (some ⟨g, 0, none⟩) n c) := es
  have hgs : i < m.gs.length := by rw [h.ls]; exact hi
  have c0 := h.cells.1
  have c1 := h.cells.2.1
  have c2 := (h.s_at es hgs).1
  have k0 : Con w m.gs[i] (lastTo s i 0) := h.cs i hgs
  obtain ⟨g0, e0⟩ : ∃ x, m.gs[i] = x := ⟨_, rfl⟩
  have hLK : Hid (s.ws.length ≤ 1000000) := h.ok.lk
  have EL : Hid (m.lv = .slice la s.ws.length lc) := el
  obtain ⟨R, eR⟩ : ∃ R, m.R = R := ⟨_, rfl⟩
  rw [es, eR] at c0
  rw [el, eR] at c1
  rw [e0] at c2 k0
  rw [eR]
  obtain ⟨N, eN⟩ : ∃ N, s.ws.length = N := ⟨_, rfl⟩
  have EN : Hid (s.ws.length = N) := eN
  rw [eN] at c1
  have K0 : Hid (Con w g0 (lastTo s i 0)) := k0
  have g1 : ¬ (i : Int) < 0 := by omega
  have g2 : ¬ (n : Int) ≤ (i : Int) := by omega
  clear h he hi es el e0 eR hgs eN k0
  go_enter Try.func33, Try.ntmps33
  go_wp2_with fail
  go_loopw [6, 7] (fun v j wr => ∃ (k gk : Nat), v = .slice (some ⟨gk, 0, none⟩) 256 256 ∧ j = .int .i64 k ∧ Hid (k ≤ N) ∧ Hid (Con w gk (lastTo s i k)) ∧ wr = w) (fun _ j _ => N - (intOf j).toNat)
  case atStart => exact ⟨0, g0, rfl, rfl, Nat.zero_le _, K0.out, rfl⟩
  case round =>
    clear K0
    obtain ⟨k, gk, rfl, rfl, hk, hC, rfl⟩ := hrel
    by_cases hlt : k < N
    · have hws : k < s.ws.length := by rw [EN.out]; exact hlt
      obtain ⟨gv, cv, hg, ev, d0, d1⟩ := H.out.l_at hws
      rw [EL.out] at ev
      have ev' : la = some ⟨gv, 0, none⟩ := by cases ev; rfl
      have hst := lastTo_step s i k hws
      have cl := H.out.cl k hg hws
      obtain ⟨gl, egl⟩ : ∃ x, m.gl[k] = x := ⟨_, rfl⟩
      obtain ⟨x, ex⟩ : ∃ x, s.ws[k] = x := ⟨_, rfl⟩
      rw [egl] at d1 cl
      rw [ex] at d0 cl hst
      subst ev'
      have h1 : (k : Int) < (N : Int) := by omega
      have h2 : (k : Int) < 1000000 := by have := hLK.out; have := EN.out; omega
      have HLT : Hid (k < N) := hlt
      have WK : Hid ((k : Int) + 1 = ((k + 1 : Nat) : Int)) := by show (k : Int) + 1 = ((k + 1 : Nat) : Int); omega
      obtain ⟨x1, x2⟩ := x
      have hd0 : wr.cell? ⟨gv, k * 2, none⟩ = some (.int .i64 (x1 : Int)) := d0
      clear d0
      by_cases hx : x1 = i
      · have CN : Hid (Con wr gl (lastTo s i (k + 1))) := by show Con wr gl (lastTo s i (k + 1)); rw [hst, if_pos hx]; exact cl
        subst hx
        clear hst cl ex egl hlt hk ev hC hws hg
        go_wp2
        rw [WK.out]
        go_roundw
        case rel => exact ⟨k + 1, gl, rfl, rfl, HLT.out, CN.out, trivial⟩
        case measure => exact less_by HLT.out
      · have CN : Hid (Con wr gk (lastTo s i (k + 1))) := by show Con wr gk (lastTo s i (k + 1)); rw [hst, if_neg hx]; exact hC.out
        have hxf : ((x1 : Int) == (i : Int)) = false := by rw [beq_eq_false_iff_ne]; omega
        clear hst cl ex egl hlt hk ev hC hx hws hg
        go_wp2
        rw [WK.out]
        go_roundw
        case rel => exact ⟨k + 1, gk, rfl, rfl, HLT.out, CN.out, trivial⟩
        case measure => exact less_by HLT.out
    · have hk2 : k = N := by have := hk.out; omega
      have h1 : ¬ (k : Int) < (N : Int) := by omega
      have CE : Con wr gk (readD s i) := by rw [← HE.out, EN.out, ← hk2]; exact hC.out
      have PF : Hid (pad ((readD s i).take 256) = readD s i) := pad_full CE.len
      have HF := full_ref (some ⟨gk, 0, none⟩) 256 256 (readD s i) wr CE.seen
      rw [PF.out] at HF
      clear hlt hk hk2 hC CE PF
      go_wp2_with fail
      refine HF.mono ?_
      rintro e w' ⟨g', rfl, q1, q2, q3⟩
      have Q : Hid (wr.heap.size ≤ g' ∧ Con w' g' (readD s i) ∧ Below wr.heap.size wr w') := ⟨q1, q2, q3⟩
      clear q1 q2 q3 HF
      go_wp2
      go_ret2
      exact ⟨g', rfl, Q.out⟩
set_option maxRecDepth 100000 in
theorem refRead_no (m : RM) (n : Nat) (s : DS) (i : Int) (w : World) (h : RDsk w m n s) (hi : ¬ (0 ≤ i ∧ i < n)) : Calls Try.prog 33 #[.pointer (some ⟨m.R, 0, none⟩), .int .i64 i] w fun e w' => e = .returned (.tuple #[.slice none 0 0, .int .i64 1]) ∧ w' = w := by
  obtain ⟨g, c, es⟩ := h.sform
  have c0 := h.cells.1
  rw [es] at c0
  obtain ⟨R, eR⟩ : ∃ R, m.R = R := ⟨_, rfl⟩
  rw [eR] at c0
  rw [eR]
  clear es eR h
  rcases Int.lt_or_le i 0 with h1 | h1
  · clear hi
    go_enter Try.func33, Try.ntmps33
    go_wp2
    go_ret2
    exact ⟨rfl, rfl⟩
  · have h2 : (n : Int) ≤ i := by omega
    have h3 : ¬ i < 0 := by omega
    clear hi h1
    go_enter Try.func33, Try.ntmps33
    go_wp2
    go_ret2
    exact ⟨rfl, rfl⟩
end Go.Proofs.Ytnpebdnfdbeiaaa
