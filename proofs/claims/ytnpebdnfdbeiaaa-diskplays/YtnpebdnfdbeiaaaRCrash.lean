/- The reference's disk: Crash. -/
import Derived.Test.YtnpebdnfdbeiaaaRSync
namespace Go.Proofs.Ytnpebdnfdbeiaaa
open Go.RowKit
set_option linter.unusedVariables false

/-- Of some first writes what is kept has reached an image. -/
def crashTo (l : List (BitVec 8)) (ws : List (Nat × List (BitVec 8))) (zs : List Int) : Nat → List (BitVec 8)
  | 0 => l
  | k + 1 => patch (crashTo l ws zs k) (ws.getD k (0, [])).1 ((ws.getD k (0, [])).2.take (clamp (zs.getD k 0)))
theorem crashTo_cons (l : List (BitVec 8)) (x : Nat × List (BitVec 8)) (ws : List (Nat × List (BitVec 8))) (zs : List Int) : ∀ k, crashTo l (x :: ws) zs (k + 1) = crashTo (patch l x.1 (x.2.take (clamp (zs.getD 0 0)))) ws zs.tail k
  | 0 => rfl
  | k + 1 => by
    show patch (crashTo l (x :: ws) zs (k + 1)) ((x :: ws).getD (k + 1) (0, [])).1 (((x :: ws).getD (k + 1) (0, [])).2.take (clamp (zs.getD (k + 1) 0))) = _
    rw [crashTo_cons l x ws zs k]
    have e : zs.getD (k + 1) 0 = zs.tail.getD k 0 := by cases zs <;> simp
    rw [e]
    rfl
theorem patch_none (l : List (BitVec 8)) (n : Nat) : patch l n [] = l := by unfold patch; simp
theorem reachSome_none (l : List (BitVec 8)) (ws : List (Nat × List (BitVec 8))) : reachSome l ws [] = l := by cases ws <;> rfl
theorem crashTo_all : ∀ (ws : List (Nat × List (BitVec 8))) (zs : List Int) (l : List (BitVec 8)), crashTo l ws zs ws.length = reachSome l ws zs
  | [], zs, l => by cases zs <;> rfl
  | x :: ws, zs, l => by
    show crashTo l (x :: ws) zs (ws.length + 1) = _
    rw [crashTo_cons, crashTo_all ws zs.tail]
    cases zs with
    | nil =>
      have e : clamp (([] : List Int).getD 0 0) = 0 := by decide
      rw [e, List.take_zero, patch_none]
      show reachSome l ws [] = reachSome l (x :: ws) []
      rw [reachSome_none, reachSome_none]
    | cons z zs => rfl
theorem crashTo_length {l : List (BitVec 8)} {ws : List (Nat × List (BitVec 8))} {zs : List Int} {n : Nat} (h : l.length = 256 * n) (hw : ∀ x ∈ ws, x.1 < n ∧ x.2.length = 256) : ∀ k, k ≤ ws.length → (crashTo l ws zs k).length = 256 * n
  | 0, _ => h
  | k + 1, hk => by
    have hx : ws.getD k (0, []) ∈ ws := by simp [List.getD_eq_getElem?_getD, List.getElem?_eq_getElem (show k < ws.length by omega)]
    exact patch_ok (crashTo_length h hw k (by omega)) (hw _ hx).1 (by rw [List.length_take]; have := (hw _ hx).2; omega)
theorem patch_mix {l q : List (BitVec 8)} {n i : Nat} (h : l.length = 256 * n) (hi : i < n) (hq : q.length ≤ 256) : patch l i (q ++ (sec l i).drop q.length) = patch l i q := by
  have hs : (sec l i).length = 256 := sec_length (by omega)
  have hl : (q ++ (sec l i).drop q.length).length = 256 := by simp [hs]; omega
  refine List.ext_getElem? fun j => ?_
  rw [patch_at (by omega), patch_at (by omega), hl]
  by_cases h1 : j < 256 * i
  · rw [if_pos h1, if_pos h1]
  · rw [if_neg h1, if_neg h1]
    by_cases h2 : j < 256 * i + q.length
    · rw [if_pos (by omega), if_pos h2, List.getElem?_append_left (by omega)]
    · rw [if_neg h2]
      by_cases h3 : j < 256 * i + 256
      · rw [if_pos h3, List.getElem?_append_right (by omega), List.getElem?_drop, sec_at, if_pos (by omega)]
        congr 1
        omega
      · rw [if_neg h3]
/-- Some first bytes are another one's. -/
def mix (x y : List (BitVec 8)) (j : Nat) : List (BitVec 8) := x.take j ++ y.drop j
theorem mix_step {x y : List (BitVec 8)} {j : Nat} (hx : x.length = 256) (hy : y.length = 256) (hj : j < 256) : (mix x y j).set j (x.getD j 0#8) = mix x y (j + 1) := by
  unfold mix
  have hl : (x.take j).length = j := by simp; omega
  have ed : y.drop j = y[j] :: y.drop (j + 1) := List.drop_eq_getElem_cons (by omega)
  rw [ed, List.set_append_right _ _ (by omega), hl, Nat.sub_self, List.set_cons_zero, List.take_succ_eq_append_getElem (by omega), List.append_assoc]
  simp [show j < x.length by omega]
theorem mix_length {x y : List (BitVec 8)} {j : Nat} (hx : x.length = 256) (hy : y.length = 256) (hj : j ≤ 256) : (mix x y j).length = 256 := by unfold mix; simp; omega
theorem mix_end {x y : List (BitVec 8)} {j : Nat} (hx : x.length = 256) (hj : j ≤ 256) : mix x y j = x.take j ++ y.drop (x.take j).length := by unfold mix; congr 2; simp; omega
set_option maxRecDepth 100000 in
set_option maxHeartbeats 6400000 in
theorem refCrash_any (m : RM) (n : Nat) (s : DS) (a : Option Addr) (len cap : Nat) (zs : List Int) (w : World) (h : RDsk w m n s) (hz : IAt w a len zs) (hno : ∀ y, a = some y → zs ≠ [] → ¬ m.own y.block) :
    Calls Try.prog 27 #[.pointer (some ⟨m.R, 0, none⟩), .slice a len cap] w fun e w' => ∃ m', (∃ u, e = .returned u) ∧ RDo w w' m m' n (crashD s zs) := by
  have H : Hid (RDsk w m n s) := h
  have HZ : Hid (IAt w a len zs ∧ ∀ y, a = some y → zs ≠ [] → ¬ m.own y.block) := ⟨hz, hno⟩
  obtain ⟨R, eR⟩ : ∃ R, m.R = R := ⟨_, rfl⟩
  have ER : Hid (m.R = R) := eR
  rw [eR]
  have OK : Hid ((crashD s zs).ok n) := crashD_ok h.ok zs
  have CE : Hid (crashTo s.img s.ws zs s.ws.length = (crashD s zs).img) := crashTo_all s.ws zs s.img
  obtain ⟨gv, cv, es⟩ := h.sform
  obtain ⟨la, lc, el⟩ := h.lform
  have ES : Hid (m.sv = .slice (some ⟨gv, 0, none⟩) n cv) := es
  have EL : Hid (m.lv = .slice la s.ws.length lc) := el
  have HLK : Hid (s.ws.length ≤ 1000000) := h.ok.lk
  have HL : Hid (len = zs.length ∧ zs.length ≤ maxLen) := ⟨hz.1, hz.2.1⟩
  obtain ⟨N, eN⟩ : ∃ N, s.ws.length = N := ⟨_, rfl⟩
  have EN : Hid (s.ws.length = N) := eN
  clear h eR es el eN hz hno
  go_enter Try.func27, Try.ntmps27
  go_wp2_with fail
  go_loopw [4] (fun i wr => ∃ (k : Nat) (mk : RM), i = .int .i64 k ∧ Hid (k ≤ N) ∧ Hid (mk.lv = m.lv ∧ mk.gl = m.gl ∧ mk.sv = m.sv) ∧ Hid (RDsk wr mk n { s with img := crashTo s.img s.ws zs k }) ∧ Hid (ROnly m w wr) ∧ Hid (m.next mk w.heap.size)) (fun i _ => N - (intOf i).toNat)
  case atStart => exact ⟨0, m, rfl, Nat.zero_le _, ⟨rfl, rfl, rfl⟩, H.out, ROnly.refl m w, RM.next.refl m _⟩
  case round =>
    obtain ⟨k, mk, rfl, hk, hm, hD, hO, hX⟩ := hrel
    have eRk : mk.R = R := hX.out.R.trans ER.out
    have d1 := hD.out.cells.2.1
    rw [hm.out.1, EL.out, EN.out, eRk] at d1
    by_cases hlt : k < N
    · have hws : k < s.ws.length := by rw [EN.out]; exact hlt
      obtain ⟨gw, cw, hg, ev, u8, u9⟩ := hD.out.l_at (i := k) hws
      have lw := H.out.ok.lw _ (List.getElem_mem hws)
      have cl : Con wr mk.gl[k] s.ws[k].2 := hD.out.cl k hg hws
      have eget : s.ws.getD k (0, []) = s.ws[k] := by simp [List.getD_eq_getElem?_getD, List.getElem?_eq_getElem hws]
      have hst : crashTo s.img s.ws zs (k + 1) = patch (crashTo s.img s.ws zs k) (s.ws.getD k (0, [])).1 ((s.ws.getD k (0, [])).2.take (clamp (zs.getD k 0))) := rfl
      rw [eget] at hst
      have il : (crashTo s.img s.ws zs k).length = 256 * n := hD.out.ok.li
      obtain ⟨I, eI⟩ : ∃ I, crashTo s.img s.ws zs k = I := ⟨_, rfl⟩
      rw [eI] at hst il hD
      have ev2 : la = some ⟨gw, 0, none⟩ := by
        rw [hm.out.1, EL.out] at ev
        cases ev; rfl
      have esk : mk.sv = .slice (some ⟨gv, 0, none⟩) n cv := hm.out.2.2.trans ES.out
      have elk : mk.lv = .slice (some ⟨gw, 0, none⟩) N lc := by rw [hm.out.1, EL.out, EN.out, ev2]
      subst ev2
      obtain ⟨gl, egl⟩ : ∃ x, mk.gl[k] = x := ⟨_, rfl⟩
      obtain ⟨x1, x2, ex⟩ : ∃ x1 x2, s.ws[k] = (x1, x2) := ⟨_, _, rfl⟩
      have hx1 : x1 < n := by rw [ex] at lw; exact lw.1
      have hx2 : x2.length = 256 := by rw [ex] at lw; exact lw.2
      have hgs : x1 < mk.gs.length := by rw [hD.out.ls]; exact hx1
      obtain ⟨go, ego⟩ : ∃ x, mk.gs[x1] = x := ⟨_, rfl⟩
      have cgo : Con wr go (sec I x1) := by rw [← ego]; exact hD.out.cs x1 hgs
      have sl1 : (sec I x1).length = 256 := sec_length (by omega)
      rw [egl, ex] at cl
      rw [ex] at hst
      have FAC : Hid (∀ X, Below wr.drew.heap.size wr.drew X → X.cell? ⟨R, 0, none⟩ = some (.slice (some ⟨gv, 0, none⟩) n cv) ∧ X.cell? ⟨R, 1, none⟩ = some (.slice (some ⟨gw, 0, none⟩) N lc) ∧ X.cell? ⟨gw, k * 2, none⟩ = some (.int .i64 (x1 : Int)) ∧ X.cell? ⟨gv, x1, none⟩ = some (.slice (some ⟨go, 0, none⟩) 256 256) ∧ X.cell? ⟨gw, k * 2 + 1, none⟩ = some (.slice (some ⟨gl, 0, none⟩) 256 256)) := fun X bX => by
        have q := hD.out.below ((Below.refl wr.heap.size wr).drew.trans bX)
        have q0 := q.cells.1
        have q1 := q.cells.2.1
        rw [esk, eRk] at q0
        rw [elk, eRk] at q1
        obtain ⟨gw', cw', hg', ev', u0, u1⟩ := q.l_at (i := k) hws
        rw [elk] at ev'
        obtain rfl : gw = gw' := by cases ev'; rfl
        have u0' : X.cell? ⟨gw, k * 2, none⟩ = some (.int .i64 (s.ws[k].1 : Int)) := u0
        have q2 := (q.s_at esk hgs).1
        rw [ego] at q2
        rw [egl] at u1
        rw [ex] at u0'
        exact ⟨q0, q1, u0', q2, u1⟩
      have HF : Hid (Calls Try.prog 19 #[.slice (some ⟨go, 0, none⟩) 256 256] wr.drew _) := full_ref (some ⟨go, 0, none⟩) 256 256 (sec I x1) wr.drew (cgo.below (Below.refl _ wr).drew).seen
      have PF : Hid (pad ((sec I x1).take 256) = sec I x1) := pad_full sl1
      have neR : R ≠ gv := fun e => hD.out.R_s (k := gv) (by rw [esk]; rfl) (by rw [eRk]; exact e.symm)
      have neL : gw ≠ gv := hD.out.s_l (k := gv) (j := gw) (by rw [esk]; rfl) (by rw [elk]; rfl)
      have FROZ : Hid (∀ X, Below wr.drew.heap.size wr.drew X → X.frozen? ⟨gv, x1, none⟩ = false) := fun X bX => ((hD.out.below ((Below.refl wr.heap.size wr).drew.trans bX)).s_at esk hgs).2
      have CLX : Hid (∀ X, Below wr.drew.heap.size wr.drew X → Con X gl x2) := fun X bX => cl.below ((Below.refl wr.heap.size wr).drew.trans bX)
      have zk : Hid (∃ z : Int, zs.getD k 0 = z ∧ i64in z ∧ ((k < len ∧ ∃ ga off, a = some ⟨ga, off, none⟩ ∧ wr.cell? ⟨ga, off + k, none⟩ = some (.int .i64 z)) ∨ (¬ k < len ∧ z = 0))) := by
        by_cases hkl : k < len
        · have hkz : k < zs.length := by have := HL.out.1; omega
          rcases HZ.out.1.2.2.2 with e0 | ⟨ga, off, ea, hc⟩
          · omega
          · refine ⟨zs[k], by simp [List.getD_eq_getElem?_getD, List.getElem?_eq_getElem hkz], HZ.out.1.2.2.1 _ (List.getElem_mem hkz), .inl ⟨hkl, ga, off, ea, ?_⟩⟩
            have hc' := hc k hkz
            have lt := World.block_lt_of_cell? w _ hc'
            have nb := HZ.out.2 _ ea (fun e => by rw [e] at hkz; cases hkz)
            rw [World.cell?_of_block (w := w) (a := ⟨ga, off + k, none⟩) (hO.out.block ga lt nb)]
            exact hc'
        · have hkz : zs.length ≤ k := by have := HL.out.1; omega
          exact ⟨0, by simp [List.getD_eq_getElem?_getD, List.getElem?_eq_none hkz], ⟨by omega, by omega⟩, .inr ⟨hkl, rfl⟩⟩
      have PUTT : Hid (∀ (X : World) (G : Nat), Below wr.drew.heap.size wr.drew X → Con X G (mix x2 (sec I x1) (clamp (zs.getD k 0))) → RDsk (X.drew.setCell ⟨gv, x1, none⟩ (.slice (some ⟨G, 0, none⟩) 256 256)) { mk with gs := mk.gs.set x1 G } n { s with img := crashTo s.img s.ws zs (k + 1) }) := fun X G bX cG => by
        have q := ((hD.out.below ((Below.refl wr.heap.size wr).drew.trans bX)).below (Below.refl _ X).drew).put (G := G) (i := x1) esk hx1 (cG.below (Below.refl _ X).drew)
        rw [hst]
        rw [mix_end hx2 (clamp_le _)] at q
        have q' : patch I x1 (x2.take (clamp (zs.getD k 0)) ++ (sec I x1).drop (x2.take (clamp (zs.getD k 0))).length) = patch I x1 (x2.take (clamp (zs.getD k 0))) := patch_mix il hx1 (by simp; omega)
        rw [show ({ s with img := I } : DS).img = I from rfl, q'] at q
        exact q
      have OO : Hid (∀ (X : World) (G : Nat), Below wr.drew.heap.size wr.drew X → ROnly m w (X.drew.setCell ⟨gv, x1, none⟩ (.slice (some ⟨G, 0, none⟩) 256 256))) := fun X G bX => ROnly.trans (ROnly.trans hO.out (RM.next.refl m _) (ROnly.of_below ((Below.refl wr.heap.size wr).drew.trans bX))).drew (RM.next.refl m _) (ROnly.set (.inr (.inl (by rw [ES.out]; rfl))) _)
      have NX : Hid (∀ G, wr.heap.size ≤ G → m.next { mk with gs := mk.gs.set x1 G } w.heap.size) := fun G hG => put_next hX.out (.inr (Nat.le_trans hO.out.size hG))
      have h1 : (k : Int) < (N : Int) := by omega
      have h2 : (k : Int) < 1000000 := by have := HLK.out; have := EN.out; omega
      have h3 : (x1 : Int) < (n : Int) := by omega
      have h4 : (0 : Int) ≤ (x1 : Int) := by omega
      have HLT : Hid (k < N) := hlt
      have HM : Hid (mk.lv = m.lv ∧ mk.gl = m.gl ∧ mk.sv = m.sv) := hm.out
      have WK : Hid ((k : Int) + 1 = ((k + 1 : Nat) : Int)) := by show (k : Int) + 1 = ((k + 1 : Nat) : Int); omega
      have L2 : Hid (x2.length = 256 ∧ (sec I x1).length = 256 ∧ R ≠ gv ∧ gw ≠ gv) := ⟨hx2, sl1, neR, neL⟩
      obtain ⟨z, ez, zi, zc⟩ := zk.out
      rw [ez] at PUTT
      have ZI : Hid (i64in z) := zi
      clear u8 u9 hlt hk hm hD hO hX cl lw hst eget il eI ev esk elk hws hg ex egl ego hx1 hx2 hgs cgo sl1 eRk neR neL zk ez zi HZ H
      rcases zc with ⟨zl, ga, off, rfl, cz⟩ | ⟨zl, rfl⟩
      · have zl' : (k : Int) < (len : Int) := by omega
        clear zl
        go_wp2_with fail
        refine wp_region_held_drew (S := fun X => Below wr.drew.heap.size wr.drew X) (by kernel_rfl) (Below.refl _ _) (fun hHeld => ?_)
        refine take_run (i := 0) (oi := { dst := some 25, op := Go.Op.move (Go.Operand.tmp 0), type := 28, pos := "ref.go:120", after := #[], guard := none }) (v := .pointer (some ⟨R, 0, none⟩)) rfl (by kernel_rfl) (by kernel_rfl) (by kernel_rfl) (fun _ _ _ h => h) (by rfl) ?_ hHeld ?_
        · (intro wq hSw; go_simp <;> with_reducible rfl)
        try simp only [Act.put, List.setIfInBounds_toArray, List.set_cons_zero, List.set_cons_succ]
        refine take_run (i := 1) (oi := { dst := some 26, op := Go.Op.nilCheck (Go.Operand.tmp 25), type := 0, pos := "ref.go:120", after := #[{ on := 0, ground := Go.Ground.data }], guard := none }) (v := .pointer (some ⟨R, 0, none⟩)) rfl (by kernel_rfl) (by kernel_rfl) (by kernel_rfl) (fun _ _ _ h => h) (by rfl) ?_ hHeld ?_
        · (intro wq hSw; go_simp <;> with_reducible rfl)
        try simp only [Act.put, List.setIfInBounds_toArray, List.set_cons_zero, List.set_cons_succ]
        refine take_run (i := 2) (oi := { dst := some 27, op := Go.Op.fieldAddr 39 (Go.Operand.tmp 26) 0, type := 0, pos := "ref.go:120", after := #[{ on := 1, ground := Go.Ground.data }], guard := none }) (v := .pointer (some ⟨R, 0, none⟩)) rfl (by kernel_rfl) (by kernel_rfl) (by kernel_rfl) (fun _ _ _ h => h) (by rfl) ?_ hHeld ?_
        · (intro wq hSw; go_simp <;> with_reducible rfl)
        try simp only [Act.put, List.setIfInBounds_toArray, List.set_cons_zero, List.set_cons_succ]
        refine take_run (i := 3) (oi := { dst := some 28, op := Go.Op.load 36 (Go.Operand.tmp 27), type := 36, pos := "ref.go:120", after := #[{ on := 2, ground := Go.Ground.data }], guard := none }) (v := .slice (some ⟨gv, 0, none⟩) n cv) rfl (by kernel_rfl) (by kernel_rfl) (by kernel_rfl) (fun _ _ _ h => h) (by rfl) ?_ hHeld ?_
        · (intro wq hSw; obtain ⟨s0, s1, s2, s3, s4⟩ := FAC.out wq hSw; go_simp <;> with_reducible rfl)
        try simp only [Act.put, List.setIfInBounds_toArray, List.set_cons_zero, List.set_cons_succ]
        refine take_run (i := 4) (oi := { dst := some 29, op := Go.Op.move (Go.Operand.tmp 0), type := 28, pos := "ref.go:120", after := #[], guard := none }) (v := .pointer (some ⟨R, 0, none⟩)) rfl (by kernel_rfl) (by kernel_rfl) (by kernel_rfl) (fun _ _ _ h => h) (by rfl) ?_ hHeld ?_
        · (intro wq hSw; go_simp <;> with_reducible rfl)
        try simp only [Act.put, List.setIfInBounds_toArray, List.set_cons_zero, List.set_cons_succ]
        refine take_run (i := 5) (oi := { dst := some 30, op := Go.Op.nilCheck (Go.Operand.tmp 29), type := 0, pos := "ref.go:120", after := #[{ on := 4, ground := Go.Ground.data }], guard := none }) (v := .pointer (some ⟨R, 0, none⟩)) rfl (by kernel_rfl) (by kernel_rfl) (by kernel_rfl) (fun _ _ _ h => h) (by rfl) ?_ hHeld ?_
        · (intro wq hSw; go_simp <;> with_reducible rfl)
        try simp only [Act.put, List.setIfInBounds_toArray, List.set_cons_zero, List.set_cons_succ]
        refine take_run (i := 6) (oi := { dst := some 31, op := Go.Op.fieldAddr 39 (Go.Operand.tmp 30) 1, type := 0, pos := "ref.go:120", after := #[{ on := 5, ground := Go.Ground.data }], guard := none }) (v := .pointer (some ⟨R, 1, none⟩)) rfl (by kernel_rfl) (by kernel_rfl) (by kernel_rfl) (fun _ _ _ h => h) (by rfl) ?_ hHeld ?_
        · (intro wq hSw; go_simp <;> with_reducible rfl)
        try simp only [Act.put, List.setIfInBounds_toArray, List.set_cons_zero, List.set_cons_succ]
        refine take_run (i := 7) (oi := { dst := some 32, op := Go.Op.load 37 (Go.Operand.tmp 31), type := 37, pos := "ref.go:120", after := #[{ on := 6, ground := Go.Ground.data }], guard := none }) (v := .slice (some ⟨gw, 0, none⟩) N lc) rfl (by kernel_rfl) (by kernel_rfl) (by kernel_rfl) (fun _ _ _ h => h) (by rfl) ?_ hHeld ?_
        · (intro wq hSw; obtain ⟨s0, s1, s2, s3, s4⟩ := FAC.out wq hSw; go_simp <;> with_reducible rfl)
        try simp only [Act.put, List.setIfInBounds_toArray, List.set_cons_zero, List.set_cons_succ]
        refine take_run (i := 8) (oi := { dst := some 33, op := Go.Op.move (Go.Operand.tmp 4), type := 3, pos := "ref.go:120", after := #[], guard := none }) (v := .int .i64 (k : Int)) rfl (by kernel_rfl) (by kernel_rfl) (by kernel_rfl) (fun _ _ _ h => h) (by rfl) ?_ hHeld ?_
        · (intro wq hSw; go_simp <;> with_reducible rfl)
        try simp only [Act.put, List.setIfInBounds_toArray, List.set_cons_zero, List.set_cons_succ]
        refine take_run (i := 9) (oi := { dst := some 34, op := Go.Op.indexAddr 37 (Go.Operand.tmp 32) (Go.Operand.tmp 33), type := 0, pos := "ref.go:120", after := #[{ on := 7, ground := Go.Ground.data }, { on := 8, ground := Go.Ground.data }], guard := none }) (v := .pointer (some ⟨gw, k * 2, none⟩)) rfl (by kernel_rfl) (by kernel_rfl) (by kernel_rfl) (fun _ _ _ h => h) (by rfl) ?_ hHeld ?_
        · (intro wq hSw; go_simp <;> with_reducible rfl)
        try simp only [Act.put, List.setIfInBounds_toArray, List.set_cons_zero, List.set_cons_succ]
        refine take_run (i := 10) (oi := { dst := some 35, op := Go.Op.fieldAddr 69 (Go.Operand.tmp 34) 0, type := 0, pos := "ref.go:120", after := #[{ on := 9, ground := Go.Ground.data }], guard := none }) (v := .pointer (some ⟨gw, k * 2, none⟩)) rfl (by kernel_rfl) (by kernel_rfl) (by kernel_rfl) (fun _ _ _ h => h) (by rfl) ?_ hHeld ?_
        · (intro wq hSw; go_simp <;> with_reducible rfl)
        try simp only [Act.put, List.setIfInBounds_toArray, List.set_cons_zero, List.set_cons_succ]
        refine take_run (i := 11) (oi := { dst := some 36, op := Go.Op.load 3 (Go.Operand.tmp 35), type := 3, pos := "ref.go:120", after := #[{ on := 10, ground := Go.Ground.data }], guard := none }) (v := .int .i64 (x1 : Int)) rfl (by kernel_rfl) (by kernel_rfl) (by kernel_rfl) (fun _ _ _ h => h) (by rfl) ?_ hHeld ?_
        · (intro wq hSw; obtain ⟨s0, s1, s2, s3, s4⟩ := FAC.out wq hSw; go_simp <;> with_reducible rfl)
        try simp only [Act.put, List.setIfInBounds_toArray, List.set_cons_zero, List.set_cons_succ]
        refine take_run (i := 12) (oi := { dst := some 37, op := Go.Op.indexAddr 36 (Go.Operand.tmp 28) (Go.Operand.tmp 36), type := 0, pos := "ref.go:120", after := #[{ on := 3, ground := Go.Ground.data }, { on := 11, ground := Go.Ground.data }], guard := none }) (v := .pointer (some ⟨gv, x1, none⟩)) rfl (by kernel_rfl) (by kernel_rfl) (by kernel_rfl) (fun _ _ _ h => h) (by rfl) ?_ hHeld ?_
        · (intro wq hSw; go_simp <;> with_reducible rfl)
        try simp only [Act.put, List.setIfInBounds_toArray, List.set_cons_zero, List.set_cons_succ]
        refine take_run (i := 13) (oi := { dst := some 38, op := Go.Op.load 22 (Go.Operand.tmp 37), type := 22, pos := "ref.go:120", after := #[{ on := 12, ground := Go.Ground.data }], guard := none }) (v := .slice (some ⟨go, 0, none⟩) 256 256) rfl (by kernel_rfl) (by kernel_rfl) (by kernel_rfl) (fun _ _ _ h => h) (by rfl) ?_ hHeld ?_
        · (intro wq hSw; obtain ⟨s0, s1, s2, s3, s4⟩ := FAC.out wq hSw; go_simp <;> with_reducible rfl)
        try simp only [Act.put, List.setIfInBounds_toArray, List.set_cons_zero, List.set_cons_succ]
        refine take_call (i := 14) (oi := { dst := some 39, op := Go.Op.call { callee := Go.Callee.value (Go.Operand.func 19), args := #[Go.Operand.tmp 38], argTypes := #[22] }, type := 22, pos := "ref.go:120", after := #[{ on := 13, ground := Go.Ground.data }], guard := none }) rfl (by kernel_rfl) (by rfl) 19 _ (by go_simp <;> with_reducible rfl) ?_
        refine (HF.out).mono ?_
        rintro e y1 ⟨G, rfl, hg0, hg1, bx⟩
        refine ⟨.slice (some ⟨G, 0, none⟩) 256 256, rfl, bx, ?_⟩
        try simp only [Act.put, List.setIfInBounds_toArray, List.set_cons_zero, List.set_cons_succ]
        refine take_run (i := 15) (oi := { dst := some 6, op := Go.Op.assign (Go.Operand.tmp 39), type := 22, pos := "ref.go:120", after := #[{ on := 14, ground := Go.Ground.data }, { on := 14, ground := Go.Ground.chain }, { on := 0, ground := Go.Ground.phase }, { on := 1, ground := Go.Ground.phase }, { on := 2, ground := Go.Ground.phase }, { on := 3, ground := Go.Ground.phase }, { on := 4, ground := Go.Ground.phase }, { on := 5, ground := Go.Ground.phase }, { on := 6, ground := Go.Ground.phase }, { on := 7, ground := Go.Ground.phase }, { on := 8, ground := Go.Ground.phase }, { on := 9, ground := Go.Ground.phase }, { on := 10, ground := Go.Ground.phase }, { on := 11, ground := Go.Ground.phase }, { on := 12, ground := Go.Ground.phase }, { on := 13, ground := Go.Ground.phase }, { on := 14, ground := Go.Ground.phase }], guard := none }) (v := .slice (some ⟨G, 0, none⟩) 256 256) rfl (by kernel_rfl) (by kernel_rfl) (by kernel_rfl) (fun _ _ _ h => h) (by rfl) ?_ bx ?_
        · (intro wq hSw; go_simp <;> with_reducible rfl)
        try simp only [Act.put, List.setIfInBounds_toArray, List.set_cons_zero, List.set_cons_succ]
        refine wpAnyH_done (by kernel_rfl) ?_ _
        clear hHeld
        have O1 : Hid (y1.ownsRow 0 5 1 (.slice (some ⟨G, 0, none⟩) 256 256) 256 (cellsOf (mix x2 (sec I x1) 0)) ∧ Below wr.drew.heap.size wr.drew y1) := ⟨by have := hg1; rw [PF.out] at this; exact this, bx⟩
        have HG : Hid (wr.heap.size ≤ G) := hg0
        clear hg0 hg1 bx HF PF
        obtain ⟨wo, ewo⟩ : ∃ wo, wo = wr := ⟨_, rfl⟩
        subst ewo
        go_wp2_with fail
        go_loopw [7] (fun i wy => ∃ j : Nat, i = .int .i64 j ∧ Hid (j ≤ 256 ∧ (j : Int) ≤ max z 0) ∧ Hid (wy.ownsRow 0 5 1 (.slice (some ⟨G, 0, none⟩) 256 256) 256 (cellsOf (mix x2 (sec I x1) j))) ∧ Hid (Below wo.drew.heap.size wo.drew wy)) (fun i _ => 256 - (intOf i).toNat)
        case atStart => exact ⟨0, rfl, ⟨Nat.zero_le _, by omega⟩, O1.out.1, O1.out.2⟩
        case round =>
          clear O1
          obtain ⟨jq, rfl, hj, hO2, hB2⟩ := hrel
          by_cases hjl : jq < 256 ∧ (jq : Int) < z
          · have fa := FAC.out wr hB2.out
            have d1 := fa.2.1
            have d2 := fa.2.2.2.2
            have cx := CLX.out wr hB2.out
            have d3 : wr.cell? ⟨gl, jq, none⟩ = some (.int .u8 (V (x2.getD jq 0#8))) := by
              have := World.ownsRow.cellAt cx jq (by omega)
              rw [this]
              simp [cellsOf, L2.out.1, hjl.1]
            have ml : (mix x2 (sec I x1) jq).length = 256 := mix_length L2.out.1 L2.out.2.1 hj.out.1
            have d4 : wr.cell? ⟨G, jq, none⟩ = some (.int .u8 (V ((mix x2 (sec I x1) jq).getD jq 0#8))) := by
              rw [hO2.out.cellAt jq (by omega)]
              simp [cellsOf, ml, hjl.1]
            have d5 := hO2.out.frozenAt jq
            have ST : Hid ((wr.setCell ⟨G, jq, none⟩ (.int .u8 (V (x2.getD jq 0#8)))).ownsRow 0 5 1 (.slice (some ⟨G, 0, none⟩) 256 256) 256 (cellsOf (mix x2 (sec I x1) (jq + 1))) ∧ Below wo.drew.heap.size wo.drew (wr.setCell ⟨G, jq, none⟩ (.int .u8 (V (x2.getD jq 0#8))))) := by
              refine ⟨?_, hB2.out.setCell (p := ⟨G, jq, none⟩) HG.out _⟩
              rw [← mix_step L2.out.1 L2.out.2.1 hjl.1, ← cellsOf_set]
              exact (hO2.out.stored jq _).1
            have j1 : (jq : Int) < 256 := by omega
            have j2 : (jq : Int) < z := hjl.2
            have HJ : Hid (jq < 256 ∧ (jq : Int) < z) := hjl
            have WJ : Hid ((jq : Int) + 1 = ((jq + 1 : Nat) : Int)) := by show (jq : Int) + 1 = ((jq + 1 : Nat) : Int); omega
            obtain ⟨v1, e1⟩ : ∃ x, V (x2.getD jq 0#8) = x := ⟨_, rfl⟩
            obtain ⟨v2, e2⟩ : ∃ x, V ((mix x2 (sec I x1) jq).getD jq 0#8) = x := ⟨_, rfl⟩
            rw [e1] at d3 ST
            rw [e2] at d4
            clear fa cx ml hjl hj hO2 hB2 e1 e2 FAC CLX PUTT OO NX FROZ
            go_wp2
            rw [WJ.out]
            go_roundw
            case rel => exact ⟨jq + 1, rfl, ⟨HJ.out.1, by have := HJ.out.2; omega⟩, ST.out.1, ST.out.2⟩
            case measure => exact less_by HJ.out.1
          · have hx : ¬ (jq : Int) < 256 ∨ ((jq : Int) < 256 ∧ ¬ (jq : Int) < z) := by omega
            have hjc : Hid (jq = clamp z) := by show jq = clamp z; unfold clamp; have := hj.out; omega
            clear hjl CLX
            rcases hx with h5 | ⟨h5, h6⟩
            all_goals
              have AE : Hid (jq = clamp z) := hjc.out
              have CG : Con wr G (mix x2 (sec I x1) (clamp z)) := by rw [← AE.out]; exact Con.form hO2.out
              have PT : Hid _ := PUTT.out wr G hB2.out CG
              have OT : Hid _ := OO.out wr G hB2.out
              have NT : Hid _ := NX.out G HG.out
              have fa := FAC.out wr hB2.out
              have FA2 : Hid (wr.drew.cell? ⟨R, 0, none⟩ = some (.slice (some ⟨gv, 0, none⟩) n cv) ∧ wr.drew.cell? ⟨R, 1, none⟩ = some (.slice (some ⟨gw, 0, none⟩) N lc) ∧ wr.drew.cell? ⟨gw, k * 2, none⟩ = some (.int .i64 (x1 : Int))) := ⟨fa.1, fa.2.1, fa.2.2.1⟩
              have AFT : Hid ((wr.drew.setCell ⟨gv, x1, none⟩ (.slice (some ⟨G, 0, none⟩) 256 256)).cell? ⟨R, 0, none⟩ = some (.slice (some ⟨gv, 0, none⟩) n cv) ∧ (wr.drew.setCell ⟨gv, x1, none⟩ (.slice (some ⟨G, 0, none⟩) 256 256)).cell? ⟨R, 1, none⟩ = some (.slice (some ⟨gw, 0, none⟩) N lc) ∧ (wr.drew.setCell ⟨gv, x1, none⟩ (.slice (some ⟨G, 0, none⟩) 256 256)).cell? ⟨gw, k * 2, none⟩ = some (.int .i64 (x1 : Int))) := ⟨cell_else FA2.out.1 L2.out.2.2.1, cell_else FA2.out.2.1 L2.out.2.2.1, cell_else FA2.out.2.2 L2.out.2.2.2⟩
              have y0 : wr.drew.cell? ⟨gv, x1, none⟩ = some (.slice (some ⟨go, 0, none⟩) 256 256) := fa.2.2.2.1
              have y1 : wr.drew.frozen? ⟨gv, x1, none⟩ = false := FROZ.out wr hB2.out
              clear hj AE CG fa hO2 hB2 PUTT OO NX FAC FROZ
              go_wp2_with fail
              refine wp_region_held_drew (S := fun X => X.cell? ⟨R, 0, none⟩ = some (.slice (some ⟨gv, 0, none⟩) n cv) ∧ X.cell? ⟨R, 1, none⟩ = some (.slice (some ⟨gw, 0, none⟩) N lc) ∧ X.cell? ⟨gw, k * 2, none⟩ = some (.int .i64 (x1 : Int))) (by kernel_rfl) FA2.out (fun hHeld => ?_)
              refine take_run (i := 0) (oi := { dst := some 63, op := Go.Op.move (Go.Operand.tmp 0), type := 28, pos := "ref.go:124", after := #[], guard := none }) (v := .pointer (some ⟨R, 0, none⟩)) rfl (by kernel_rfl) (by kernel_rfl) (by kernel_rfl) (fun _ _ _ h => h) (by rfl) ?_ hHeld ?_
              · (intro wq hSw; go_simp <;> with_reducible rfl)
              try simp only [Act.put, List.setIfInBounds_toArray, List.set_cons_zero, List.set_cons_succ]
              refine take_run (i := 1) (oi := { dst := some 64, op := Go.Op.nilCheck (Go.Operand.tmp 63), type := 0, pos := "ref.go:124", after := #[{ on := 0, ground := Go.Ground.data }], guard := none }) (v := .pointer (some ⟨R, 0, none⟩)) rfl (by kernel_rfl) (by kernel_rfl) (by kernel_rfl) (fun _ _ _ h => h) (by rfl) ?_ hHeld ?_
              · (intro wq hSw; go_simp <;> with_reducible rfl)
              try simp only [Act.put, List.setIfInBounds_toArray, List.set_cons_zero, List.set_cons_succ]
              refine take_run (i := 2) (oi := { dst := some 65, op := Go.Op.fieldAddr 39 (Go.Operand.tmp 64) 0, type := 0, pos := "ref.go:124", after := #[{ on := 1, ground := Go.Ground.data }], guard := none }) (v := .pointer (some ⟨R, 0, none⟩)) rfl (by kernel_rfl) (by kernel_rfl) (by kernel_rfl) (fun _ _ _ h => h) (by rfl) ?_ hHeld ?_
              · (intro wq hSw; go_simp <;> with_reducible rfl)
              try simp only [Act.put, List.setIfInBounds_toArray, List.set_cons_zero, List.set_cons_succ]
              refine take_run (i := 3) (oi := { dst := some 66, op := Go.Op.load 36 (Go.Operand.tmp 65), type := 36, pos := "ref.go:124", after := #[{ on := 2, ground := Go.Ground.data }], guard := none }) (v := .slice (some ⟨gv, 0, none⟩) n cv) rfl (by kernel_rfl) (by kernel_rfl) (by kernel_rfl) (fun _ _ _ h => h) (by rfl) ?_ hHeld ?_
              · (intro wq hSw; obtain ⟨s0, s1, s2⟩ := hSw; go_simp <;> with_reducible rfl)
              try simp only [Act.put, List.setIfInBounds_toArray, List.set_cons_zero, List.set_cons_succ]
              refine take_run (i := 4) (oi := { dst := some 67, op := Go.Op.move (Go.Operand.tmp 0), type := 28, pos := "ref.go:124", after := #[], guard := none }) (v := .pointer (some ⟨R, 0, none⟩)) rfl (by kernel_rfl) (by kernel_rfl) (by kernel_rfl) (fun _ _ _ h => h) (by rfl) ?_ hHeld ?_
              · (intro wq hSw; go_simp <;> with_reducible rfl)
              try simp only [Act.put, List.setIfInBounds_toArray, List.set_cons_zero, List.set_cons_succ]
              refine take_run (i := 5) (oi := { dst := some 68, op := Go.Op.nilCheck (Go.Operand.tmp 67), type := 0, pos := "ref.go:124", after := #[{ on := 4, ground := Go.Ground.data }], guard := none }) (v := .pointer (some ⟨R, 0, none⟩)) rfl (by kernel_rfl) (by kernel_rfl) (by kernel_rfl) (fun _ _ _ h => h) (by rfl) ?_ hHeld ?_
              · (intro wq hSw; go_simp <;> with_reducible rfl)
              try simp only [Act.put, List.setIfInBounds_toArray, List.set_cons_zero, List.set_cons_succ]
              refine take_run (i := 6) (oi := { dst := some 69, op := Go.Op.fieldAddr 39 (Go.Operand.tmp 68) 1, type := 0, pos := "ref.go:124", after := #[{ on := 5, ground := Go.Ground.data }], guard := none }) (v := .pointer (some ⟨R, 1, none⟩)) rfl (by kernel_rfl) (by kernel_rfl) (by kernel_rfl) (fun _ _ _ h => h) (by rfl) ?_ hHeld ?_
              · (intro wq hSw; go_simp <;> with_reducible rfl)
              try simp only [Act.put, List.setIfInBounds_toArray, List.set_cons_zero, List.set_cons_succ]
              refine take_run (i := 7) (oi := { dst := some 70, op := Go.Op.load 37 (Go.Operand.tmp 69), type := 37, pos := "ref.go:124", after := #[{ on := 6, ground := Go.Ground.data }], guard := none }) (v := .slice (some ⟨gw, 0, none⟩) N lc) rfl (by kernel_rfl) (by kernel_rfl) (by kernel_rfl) (fun _ _ _ h => h) (by rfl) ?_ hHeld ?_
              · (intro wq hSw; obtain ⟨s0, s1, s2⟩ := hSw; go_simp <;> with_reducible rfl)
              try simp only [Act.put, List.setIfInBounds_toArray, List.set_cons_zero, List.set_cons_succ]
              refine take_run (i := 8) (oi := { dst := some 71, op := Go.Op.move (Go.Operand.tmp 4), type := 3, pos := "ref.go:124", after := #[], guard := none }) (v := .int .i64 (k : Int)) rfl (by kernel_rfl) (by kernel_rfl) (by kernel_rfl) (fun _ _ _ h => h) (by rfl) ?_ hHeld ?_
              · (intro wq hSw; go_simp <;> with_reducible rfl)
              try simp only [Act.put, List.setIfInBounds_toArray, List.set_cons_zero, List.set_cons_succ]
              refine take_run (i := 9) (oi := { dst := some 72, op := Go.Op.indexAddr 37 (Go.Operand.tmp 70) (Go.Operand.tmp 71), type := 0, pos := "ref.go:124", after := #[{ on := 7, ground := Go.Ground.data }, { on := 8, ground := Go.Ground.data }], guard := none }) (v := .pointer (some ⟨gw, k * 2, none⟩)) rfl (by kernel_rfl) (by kernel_rfl) (by kernel_rfl) (fun _ _ _ h => h) (by rfl) ?_ hHeld ?_
              · (intro wq hSw; go_simp <;> with_reducible rfl)
              try simp only [Act.put, List.setIfInBounds_toArray, List.set_cons_zero, List.set_cons_succ]
              refine take_run (i := 10) (oi := { dst := some 73, op := Go.Op.fieldAddr 69 (Go.Operand.tmp 72) 0, type := 0, pos := "ref.go:124", after := #[{ on := 9, ground := Go.Ground.data }], guard := none }) (v := .pointer (some ⟨gw, k * 2, none⟩)) rfl (by kernel_rfl) (by kernel_rfl) (by kernel_rfl) (fun _ _ _ h => h) (by rfl) ?_ hHeld ?_
              · (intro wq hSw; go_simp <;> with_reducible rfl)
              try simp only [Act.put, List.setIfInBounds_toArray, List.set_cons_zero, List.set_cons_succ]
              refine take_run (i := 11) (oi := { dst := some 74, op := Go.Op.load 3 (Go.Operand.tmp 73), type := 3, pos := "ref.go:124", after := #[{ on := 10, ground := Go.Ground.data }], guard := none }) (v := .int .i64 (x1 : Int)) rfl (by kernel_rfl) (by kernel_rfl) (by kernel_rfl) (fun _ _ _ h => h) (by rfl) ?_ hHeld ?_
              · (intro wq hSw; obtain ⟨s0, s1, s2⟩ := hSw; go_simp <;> with_reducible rfl)
              try simp only [Act.put, List.setIfInBounds_toArray, List.set_cons_zero, List.set_cons_succ]
              refine take_run (i := 12) (oi := { dst := some 75, op := Go.Op.move (Go.Operand.tmp 6), type := 22, pos := "ref.go:124", after := #[], guard := none }) (v := .slice (some ⟨G, 0, none⟩) 256 256) rfl (by kernel_rfl) (by kernel_rfl) (by kernel_rfl) (fun _ _ _ h => h) (by rfl) ?_ hHeld ?_
              · (intro wq hSw; go_simp <;> with_reducible rfl)
              try simp only [Act.put, List.setIfInBounds_toArray, List.set_cons_zero, List.set_cons_succ]
              refine take_run (i := 13) (oi := { dst := some 76, op := Go.Op.indexAddr 36 (Go.Operand.tmp 66) (Go.Operand.tmp 74), type := 0, pos := "ref.go:124", after := #[{ on := 3, ground := Go.Ground.data }, { on := 11, ground := Go.Ground.data }, { on := 0, ground := Go.Ground.phase }, { on := 1, ground := Go.Ground.phase }, { on := 2, ground := Go.Ground.phase }, { on := 3, ground := Go.Ground.phase }, { on := 4, ground := Go.Ground.phase }, { on := 5, ground := Go.Ground.phase }, { on := 6, ground := Go.Ground.phase }, { on := 7, ground := Go.Ground.phase }, { on := 8, ground := Go.Ground.phase }, { on := 9, ground := Go.Ground.phase }, { on := 10, ground := Go.Ground.phase }, { on := 11, ground := Go.Ground.phase }, { on := 12, ground := Go.Ground.phase }], guard := none }) (v := .pointer (some ⟨gv, x1, none⟩)) rfl (by kernel_rfl) (by kernel_rfl) (by kernel_rfl) (fun _ _ _ h => h) (by rfl) ?_ hHeld ?_
              · (intro wq hSw; go_simp <;> with_reducible rfl)
              try simp only [Act.put, List.setIfInBounds_toArray, List.set_cons_zero, List.set_cons_succ]
              refine take_put (i := 14) (oi := { dst := none, op := Go.Op.store 22 (Go.Operand.tmp 76) (Go.Operand.tmp 75), type := 0, pos := "ref.go:124", after := #[{ on := 13, ground := Go.Ground.data }, { on := 12, ground := Go.Ground.data }, { on := 0, ground := Go.Ground.phase }, { on := 1, ground := Go.Ground.phase }, { on := 2, ground := Go.Ground.phase }, { on := 3, ground := Go.Ground.phase }, { on := 4, ground := Go.Ground.phase }, { on := 5, ground := Go.Ground.phase }, { on := 6, ground := Go.Ground.phase }, { on := 7, ground := Go.Ground.phase }, { on := 8, ground := Go.Ground.phase }, { on := 9, ground := Go.Ground.phase }, { on := 10, ground := Go.Ground.phase }, { on := 11, ground := Go.Ground.phase }, { on := 12, ground := Go.Ground.phase }], guard := none }) (w' := wr.drew.setCell ⟨gv, x1, none⟩ (.slice (some ⟨G, 0, none⟩) 256 256)) rfl (by kernel_rfl) (by rfl) (by go_simp <;> with_reducible rfl) AFT.out ?_
              try simp only [Act.put]
              refine wpAnyH_done (by kernel_rfl) ?_ _
              clear hHeld
              go_wp2
              rw [WK.out]
              go_roundw
              case rel => exact ⟨k + 1, { mk with gs := mk.gs.set x1 G }, rfl, HLT.out, HM.out, PT.out, OT.out, NT.out⟩
              case measure => exact less_by HLT.out
      · have zl' : ¬ (k : Int) < (len : Int) := by omega
        clear zl
        go_wp2_with fail
        refine wp_region_held_drew (S := fun X => Below wr.drew.heap.size wr.drew X) (by kernel_rfl) (Below.refl _ _) (fun hHeld => ?_)
        refine take_run (i := 0) (oi := { dst := some 25, op := Go.Op.move (Go.Operand.tmp 0), type := 28, pos := "ref.go:120", after := #[], guard := none }) (v := .pointer (some ⟨R, 0, none⟩)) rfl (by kernel_rfl) (by kernel_rfl) (by kernel_rfl) (fun _ _ _ h => h) (by rfl) ?_ hHeld ?_
        · (intro wq hSw; go_simp <;> with_reducible rfl)
        try simp only [Act.put, List.setIfInBounds_toArray, List.set_cons_zero, List.set_cons_succ]
        refine take_run (i := 1) (oi := { dst := some 26, op := Go.Op.nilCheck (Go.Operand.tmp 25), type := 0, pos := "ref.go:120", after := #[{ on := 0, ground := Go.Ground.data }], guard := none }) (v := .pointer (some ⟨R, 0, none⟩)) rfl (by kernel_rfl) (by kernel_rfl) (by kernel_rfl) (fun _ _ _ h => h) (by rfl) ?_ hHeld ?_
        · (intro wq hSw; go_simp <;> with_reducible rfl)
        try simp only [Act.put, List.setIfInBounds_toArray, List.set_cons_zero, List.set_cons_succ]
        refine take_run (i := 2) (oi := { dst := some 27, op := Go.Op.fieldAddr 39 (Go.Operand.tmp 26) 0, type := 0, pos := "ref.go:120", after := #[{ on := 1, ground := Go.Ground.data }], guard := none }) (v := .pointer (some ⟨R, 0, none⟩)) rfl (by kernel_rfl) (by kernel_rfl) (by kernel_rfl) (fun _ _ _ h => h) (by rfl) ?_ hHeld ?_
        · (intro wq hSw; go_simp <;> with_reducible rfl)
        try simp only [Act.put, List.setIfInBounds_toArray, List.set_cons_zero, List.set_cons_succ]
        refine take_run (i := 3) (oi := { dst := some 28, op := Go.Op.load 36 (Go.Operand.tmp 27), type := 36, pos := "ref.go:120", after := #[{ on := 2, ground := Go.Ground.data }], guard := none }) (v := .slice (some ⟨gv, 0, none⟩) n cv) rfl (by kernel_rfl) (by kernel_rfl) (by kernel_rfl) (fun _ _ _ h => h) (by rfl) ?_ hHeld ?_
        · (intro wq hSw; obtain ⟨s0, s1, s2, s3, s4⟩ := FAC.out wq hSw; go_simp <;> with_reducible rfl)
        try simp only [Act.put, List.setIfInBounds_toArray, List.set_cons_zero, List.set_cons_succ]
        refine take_run (i := 4) (oi := { dst := some 29, op := Go.Op.move (Go.Operand.tmp 0), type := 28, pos := "ref.go:120", after := #[], guard := none }) (v := .pointer (some ⟨R, 0, none⟩)) rfl (by kernel_rfl) (by kernel_rfl) (by kernel_rfl) (fun _ _ _ h => h) (by rfl) ?_ hHeld ?_
        · (intro wq hSw; go_simp <;> with_reducible rfl)
        try simp only [Act.put, List.setIfInBounds_toArray, List.set_cons_zero, List.set_cons_succ]
        refine take_run (i := 5) (oi := { dst := some 30, op := Go.Op.nilCheck (Go.Operand.tmp 29), type := 0, pos := "ref.go:120", after := #[{ on := 4, ground := Go.Ground.data }], guard := none }) (v := .pointer (some ⟨R, 0, none⟩)) rfl (by kernel_rfl) (by kernel_rfl) (by kernel_rfl) (fun _ _ _ h => h) (by rfl) ?_ hHeld ?_
        · (intro wq hSw; go_simp <;> with_reducible rfl)
        try simp only [Act.put, List.setIfInBounds_toArray, List.set_cons_zero, List.set_cons_succ]
        refine take_run (i := 6) (oi := { dst := some 31, op := Go.Op.fieldAddr 39 (Go.Operand.tmp 30) 1, type := 0, pos := "ref.go:120", after := #[{ on := 5, ground := Go.Ground.data }], guard := none }) (v := .pointer (some ⟨R, 1, none⟩)) rfl (by kernel_rfl) (by kernel_rfl) (by kernel_rfl) (fun _ _ _ h => h) (by rfl) ?_ hHeld ?_
        · (intro wq hSw; go_simp <;> with_reducible rfl)
        try simp only [Act.put, List.setIfInBounds_toArray, List.set_cons_zero, List.set_cons_succ]
        refine take_run (i := 7) (oi := { dst := some 32, op := Go.Op.load 37 (Go.Operand.tmp 31), type := 37, pos := "ref.go:120", after := #[{ on := 6, ground := Go.Ground.data }], guard := none }) (v := .slice (some ⟨gw, 0, none⟩) N lc) rfl (by kernel_rfl) (by kernel_rfl) (by kernel_rfl) (fun _ _ _ h => h) (by rfl) ?_ hHeld ?_
        · (intro wq hSw; obtain ⟨s0, s1, s2, s3, s4⟩ := FAC.out wq hSw; go_simp <;> with_reducible rfl)
        try simp only [Act.put, List.setIfInBounds_toArray, List.set_cons_zero, List.set_cons_succ]
        refine take_run (i := 8) (oi := { dst := some 33, op := Go.Op.move (Go.Operand.tmp 4), type := 3, pos := "ref.go:120", after := #[], guard := none }) (v := .int .i64 (k : Int)) rfl (by kernel_rfl) (by kernel_rfl) (by kernel_rfl) (fun _ _ _ h => h) (by rfl) ?_ hHeld ?_
        · (intro wq hSw; go_simp <;> with_reducible rfl)
        try simp only [Act.put, List.setIfInBounds_toArray, List.set_cons_zero, List.set_cons_succ]
        refine take_run (i := 9) (oi := { dst := some 34, op := Go.Op.indexAddr 37 (Go.Operand.tmp 32) (Go.Operand.tmp 33), type := 0, pos := "ref.go:120", after := #[{ on := 7, ground := Go.Ground.data }, { on := 8, ground := Go.Ground.data }], guard := none }) (v := .pointer (some ⟨gw, k * 2, none⟩)) rfl (by kernel_rfl) (by kernel_rfl) (by kernel_rfl) (fun _ _ _ h => h) (by rfl) ?_ hHeld ?_
        · (intro wq hSw; go_simp <;> with_reducible rfl)
        try simp only [Act.put, List.setIfInBounds_toArray, List.set_cons_zero, List.set_cons_succ]
        refine take_run (i := 10) (oi := { dst := some 35, op := Go.Op.fieldAddr 69 (Go.Operand.tmp 34) 0, type := 0, pos := "ref.go:120", after := #[{ on := 9, ground := Go.Ground.data }], guard := none }) (v := .pointer (some ⟨gw, k * 2, none⟩)) rfl (by kernel_rfl) (by kernel_rfl) (by kernel_rfl) (fun _ _ _ h => h) (by rfl) ?_ hHeld ?_
        · (intro wq hSw; go_simp <;> with_reducible rfl)
        try simp only [Act.put, List.setIfInBounds_toArray, List.set_cons_zero, List.set_cons_succ]
        refine take_run (i := 11) (oi := { dst := some 36, op := Go.Op.load 3 (Go.Operand.tmp 35), type := 3, pos := "ref.go:120", after := #[{ on := 10, ground := Go.Ground.data }], guard := none }) (v := .int .i64 (x1 : Int)) rfl (by kernel_rfl) (by kernel_rfl) (by kernel_rfl) (fun _ _ _ h => h) (by rfl) ?_ hHeld ?_
        · (intro wq hSw; obtain ⟨s0, s1, s2, s3, s4⟩ := FAC.out wq hSw; go_simp <;> with_reducible rfl)
        try simp only [Act.put, List.setIfInBounds_toArray, List.set_cons_zero, List.set_cons_succ]
        refine take_run (i := 12) (oi := { dst := some 37, op := Go.Op.indexAddr 36 (Go.Operand.tmp 28) (Go.Operand.tmp 36), type := 0, pos := "ref.go:120", after := #[{ on := 3, ground := Go.Ground.data }, { on := 11, ground := Go.Ground.data }], guard := none }) (v := .pointer (some ⟨gv, x1, none⟩)) rfl (by kernel_rfl) (by kernel_rfl) (by kernel_rfl) (fun _ _ _ h => h) (by rfl) ?_ hHeld ?_
        · (intro wq hSw; go_simp <;> with_reducible rfl)
        try simp only [Act.put, List.setIfInBounds_toArray, List.set_cons_zero, List.set_cons_succ]
        refine take_run (i := 13) (oi := { dst := some 38, op := Go.Op.load 22 (Go.Operand.tmp 37), type := 22, pos := "ref.go:120", after := #[{ on := 12, ground := Go.Ground.data }], guard := none }) (v := .slice (some ⟨go, 0, none⟩) 256 256) rfl (by kernel_rfl) (by kernel_rfl) (by kernel_rfl) (fun _ _ _ h => h) (by rfl) ?_ hHeld ?_
        · (intro wq hSw; obtain ⟨s0, s1, s2, s3, s4⟩ := FAC.out wq hSw; go_simp <;> with_reducible rfl)
        try simp only [Act.put, List.setIfInBounds_toArray, List.set_cons_zero, List.set_cons_succ]
        refine take_call (i := 14) (oi := { dst := some 39, op := Go.Op.call { callee := Go.Callee.value (Go.Operand.func 19), args := #[Go.Operand.tmp 38], argTypes := #[22] }, type := 22, pos := "ref.go:120", after := #[{ on := 13, ground := Go.Ground.data }], guard := none }) rfl (by kernel_rfl) (by rfl) 19 _ (by go_simp <;> with_reducible rfl) ?_
        refine (HF.out).mono ?_
        rintro e y1 ⟨G, rfl, hg0, hg1, bx⟩
        refine ⟨.slice (some ⟨G, 0, none⟩) 256 256, rfl, bx, ?_⟩
        try simp only [Act.put, List.setIfInBounds_toArray, List.set_cons_zero, List.set_cons_succ]
        refine take_run (i := 15) (oi := { dst := some 6, op := Go.Op.assign (Go.Operand.tmp 39), type := 22, pos := "ref.go:120", after := #[{ on := 14, ground := Go.Ground.data }, { on := 14, ground := Go.Ground.chain }, { on := 0, ground := Go.Ground.phase }, { on := 1, ground := Go.Ground.phase }, { on := 2, ground := Go.Ground.phase }, { on := 3, ground := Go.Ground.phase }, { on := 4, ground := Go.Ground.phase }, { on := 5, ground := Go.Ground.phase }, { on := 6, ground := Go.Ground.phase }, { on := 7, ground := Go.Ground.phase }, { on := 8, ground := Go.Ground.phase }, { on := 9, ground := Go.Ground.phase }, { on := 10, ground := Go.Ground.phase }, { on := 11, ground := Go.Ground.phase }, { on := 12, ground := Go.Ground.phase }, { on := 13, ground := Go.Ground.phase }, { on := 14, ground := Go.Ground.phase }], guard := none }) (v := .slice (some ⟨G, 0, none⟩) 256 256) rfl (by kernel_rfl) (by kernel_rfl) (by kernel_rfl) (fun _ _ _ h => h) (by rfl) ?_ bx ?_
        · (intro wq hSw; go_simp <;> with_reducible rfl)
        try simp only [Act.put, List.setIfInBounds_toArray, List.set_cons_zero, List.set_cons_succ]
        refine wpAnyH_done (by kernel_rfl) ?_ _
        clear hHeld
        have O1 : Hid (y1.ownsRow 0 5 1 (.slice (some ⟨G, 0, none⟩) 256 256) 256 (cellsOf (mix x2 (sec I x1) 0)) ∧ Below wr.drew.heap.size wr.drew y1) := ⟨by have := hg1; rw [PF.out] at this; exact this, bx⟩
        have HG : Hid (wr.heap.size ≤ G) := hg0
        clear hg0 hg1 bx HF PF
        obtain ⟨wo, ewo⟩ : ∃ wo, wo = wr := ⟨_, rfl⟩
        subst ewo
        go_wp2_with fail
        go_loopw [7] (fun i wy => ∃ j : Nat, i = .int .i64 j ∧ Hid (j ≤ 256 ∧ (j : Int) ≤ max 0 0) ∧ Hid (wy.ownsRow 0 5 1 (.slice (some ⟨G, 0, none⟩) 256 256) 256 (cellsOf (mix x2 (sec I x1) j))) ∧ Hid (Below wo.drew.heap.size wo.drew wy)) (fun i _ => 256 - (intOf i).toNat)
        case atStart => exact ⟨0, rfl, ⟨Nat.zero_le _, by omega⟩, O1.out.1, O1.out.2⟩
        case round =>
          clear O1
          obtain ⟨jq, rfl, hj, hO2, hB2⟩ := hrel
          by_cases hjl : jq < 256 ∧ (jq : Int) < 0
          · exfalso
            have := hjl.2
            omega
          · have hx : ¬ (jq : Int) < 256 ∨ ((jq : Int) < 256 ∧ ¬ (jq : Int) < 0) := by omega
            have hjc : Hid (jq = clamp 0) := by show jq = clamp 0; unfold clamp; have := hj.out; omega
            clear hjl CLX
            rcases hx with h5 | ⟨h5, h6⟩
            all_goals
              have AE : Hid (jq = clamp 0) := hjc.out
              have CG : Con wr G (mix x2 (sec I x1) (clamp 0)) := by rw [← AE.out]; exact Con.form hO2.out
              have PT : Hid _ := PUTT.out wr G hB2.out CG
              have OT : Hid _ := OO.out wr G hB2.out
              have NT : Hid _ := NX.out G HG.out
              have fa := FAC.out wr hB2.out
              have FA2 : Hid (wr.drew.cell? ⟨R, 0, none⟩ = some (.slice (some ⟨gv, 0, none⟩) n cv) ∧ wr.drew.cell? ⟨R, 1, none⟩ = some (.slice (some ⟨gw, 0, none⟩) N lc) ∧ wr.drew.cell? ⟨gw, k * 2, none⟩ = some (.int .i64 (x1 : Int))) := ⟨fa.1, fa.2.1, fa.2.2.1⟩
              have AFT : Hid ((wr.drew.setCell ⟨gv, x1, none⟩ (.slice (some ⟨G, 0, none⟩) 256 256)).cell? ⟨R, 0, none⟩ = some (.slice (some ⟨gv, 0, none⟩) n cv) ∧ (wr.drew.setCell ⟨gv, x1, none⟩ (.slice (some ⟨G, 0, none⟩) 256 256)).cell? ⟨R, 1, none⟩ = some (.slice (some ⟨gw, 0, none⟩) N lc) ∧ (wr.drew.setCell ⟨gv, x1, none⟩ (.slice (some ⟨G, 0, none⟩) 256 256)).cell? ⟨gw, k * 2, none⟩ = some (.int .i64 (x1 : Int))) := ⟨cell_else FA2.out.1 L2.out.2.2.1, cell_else FA2.out.2.1 L2.out.2.2.1, cell_else FA2.out.2.2 L2.out.2.2.2⟩
              have y0 : wr.drew.cell? ⟨gv, x1, none⟩ = some (.slice (some ⟨go, 0, none⟩) 256 256) := fa.2.2.2.1
              have y1 : wr.drew.frozen? ⟨gv, x1, none⟩ = false := FROZ.out wr hB2.out
              clear hj AE CG fa hO2 hB2 PUTT OO NX FAC FROZ
              go_wp2_with fail
              refine wp_region_held_drew (S := fun X => X.cell? ⟨R, 0, none⟩ = some (.slice (some ⟨gv, 0, none⟩) n cv) ∧ X.cell? ⟨R, 1, none⟩ = some (.slice (some ⟨gw, 0, none⟩) N lc) ∧ X.cell? ⟨gw, k * 2, none⟩ = some (.int .i64 (x1 : Int))) (by kernel_rfl) FA2.out (fun hHeld => ?_)
              refine take_run (i := 0) (oi := { dst := some 63, op := Go.Op.move (Go.Operand.tmp 0), type := 28, pos := "ref.go:124", after := #[], guard := none }) (v := .pointer (some ⟨R, 0, none⟩)) rfl (by kernel_rfl) (by kernel_rfl) (by kernel_rfl) (fun _ _ _ h => h) (by rfl) ?_ hHeld ?_
              · (intro wq hSw; go_simp <;> with_reducible rfl)
              try simp only [Act.put, List.setIfInBounds_toArray, List.set_cons_zero, List.set_cons_succ]
              refine take_run (i := 1) (oi := { dst := some 64, op := Go.Op.nilCheck (Go.Operand.tmp 63), type := 0, pos := "ref.go:124", after := #[{ on := 0, ground := Go.Ground.data }], guard := none }) (v := .pointer (some ⟨R, 0, none⟩)) rfl (by kernel_rfl) (by kernel_rfl) (by kernel_rfl) (fun _ _ _ h => h) (by rfl) ?_ hHeld ?_
              · (intro wq hSw; go_simp <;> with_reducible rfl)
              try simp only [Act.put, List.setIfInBounds_toArray, List.set_cons_zero, List.set_cons_succ]
              refine take_run (i := 2) (oi := { dst := some 65, op := Go.Op.fieldAddr 39 (Go.Operand.tmp 64) 0, type := 0, pos := "ref.go:124", after := #[{ on := 1, ground := Go.Ground.data }], guard := none }) (v := .pointer (some ⟨R, 0, none⟩)) rfl (by kernel_rfl) (by kernel_rfl) (by kernel_rfl) (fun _ _ _ h => h) (by rfl) ?_ hHeld ?_
              · (intro wq hSw; go_simp <;> with_reducible rfl)
              try simp only [Act.put, List.setIfInBounds_toArray, List.set_cons_zero, List.set_cons_succ]
              refine take_run (i := 3) (oi := { dst := some 66, op := Go.Op.load 36 (Go.Operand.tmp 65), type := 36, pos := "ref.go:124", after := #[{ on := 2, ground := Go.Ground.data }], guard := none }) (v := .slice (some ⟨gv, 0, none⟩) n cv) rfl (by kernel_rfl) (by kernel_rfl) (by kernel_rfl) (fun _ _ _ h => h) (by rfl) ?_ hHeld ?_
              · (intro wq hSw; obtain ⟨s0, s1, s2⟩ := hSw; go_simp <;> with_reducible rfl)
              try simp only [Act.put, List.setIfInBounds_toArray, List.set_cons_zero, List.set_cons_succ]
              refine take_run (i := 4) (oi := { dst := some 67, op := Go.Op.move (Go.Operand.tmp 0), type := 28, pos := "ref.go:124", after := #[], guard := none }) (v := .pointer (some ⟨R, 0, none⟩)) rfl (by kernel_rfl) (by kernel_rfl) (by kernel_rfl) (fun _ _ _ h => h) (by rfl) ?_ hHeld ?_
              · (intro wq hSw; go_simp <;> with_reducible rfl)
              try simp only [Act.put, List.setIfInBounds_toArray, List.set_cons_zero, List.set_cons_succ]
              refine take_run (i := 5) (oi := { dst := some 68, op := Go.Op.nilCheck (Go.Operand.tmp 67), type := 0, pos := "ref.go:124", after := #[{ on := 4, ground := Go.Ground.data }], guard := none }) (v := .pointer (some ⟨R, 0, none⟩)) rfl (by kernel_rfl) (by kernel_rfl) (by kernel_rfl) (fun _ _ _ h => h) (by rfl) ?_ hHeld ?_
              · (intro wq hSw; go_simp <;> with_reducible rfl)
              try simp only [Act.put, List.setIfInBounds_toArray, List.set_cons_zero, List.set_cons_succ]
              refine take_run (i := 6) (oi := { dst := some 69, op := Go.Op.fieldAddr 39 (Go.Operand.tmp 68) 1, type := 0, pos := "ref.go:124", after := #[{ on := 5, ground := Go.Ground.data }], guard := none }) (v := .pointer (some ⟨R, 1, none⟩)) rfl (by kernel_rfl) (by kernel_rfl) (by kernel_rfl) (fun _ _ _ h => h) (by rfl) ?_ hHeld ?_
              · (intro wq hSw; go_simp <;> with_reducible rfl)
              try simp only [Act.put, List.setIfInBounds_toArray, List.set_cons_zero, List.set_cons_succ]
              refine take_run (i := 7) (oi := { dst := some 70, op := Go.Op.load 37 (Go.Operand.tmp 69), type := 37, pos := "ref.go:124", after := #[{ on := 6, ground := Go.Ground.data }], guard := none }) (v := .slice (some ⟨gw, 0, none⟩) N lc) rfl (by kernel_rfl) (by kernel_rfl) (by kernel_rfl) (fun _ _ _ h => h) (by rfl) ?_ hHeld ?_
              · (intro wq hSw; obtain ⟨s0, s1, s2⟩ := hSw; go_simp <;> with_reducible rfl)
              try simp only [Act.put, List.setIfInBounds_toArray, List.set_cons_zero, List.set_cons_succ]
              refine take_run (i := 8) (oi := { dst := some 71, op := Go.Op.move (Go.Operand.tmp 4), type := 3, pos := "ref.go:124", after := #[], guard := none }) (v := .int .i64 (k : Int)) rfl (by kernel_rfl) (by kernel_rfl) (by kernel_rfl) (fun _ _ _ h => h) (by rfl) ?_ hHeld ?_
              · (intro wq hSw; go_simp <;> with_reducible rfl)
              try simp only [Act.put, List.setIfInBounds_toArray, List.set_cons_zero, List.set_cons_succ]
              refine take_run (i := 9) (oi := { dst := some 72, op := Go.Op.indexAddr 37 (Go.Operand.tmp 70) (Go.Operand.tmp 71), type := 0, pos := "ref.go:124", after := #[{ on := 7, ground := Go.Ground.data }, { on := 8, ground := Go.Ground.data }], guard := none }) (v := .pointer (some ⟨gw, k * 2, none⟩)) rfl (by kernel_rfl) (by kernel_rfl) (by kernel_rfl) (fun _ _ _ h => h) (by rfl) ?_ hHeld ?_
              · (intro wq hSw; go_simp <;> with_reducible rfl)
              try simp only [Act.put, List.setIfInBounds_toArray, List.set_cons_zero, List.set_cons_succ]
              refine take_run (i := 10) (oi := { dst := some 73, op := Go.Op.fieldAddr 69 (Go.Operand.tmp 72) 0, type := 0, pos := "ref.go:124", after := #[{ on := 9, ground := Go.Ground.data }], guard := none }) (v := .pointer (some ⟨gw, k * 2, none⟩)) rfl (by kernel_rfl) (by kernel_rfl) (by kernel_rfl) (fun _ _ _ h => h) (by rfl) ?_ hHeld ?_
              · (intro wq hSw; go_simp <;> with_reducible rfl)
              try simp only [Act.put, List.setIfInBounds_toArray, List.set_cons_zero, List.set_cons_succ]
              refine take_run (i := 11) (oi := { dst := some 74, op := Go.Op.load 3 (Go.Operand.tmp 73), type := 3, pos := "ref.go:124", after := #[{ on := 10, ground := Go.Ground.data }], guard := none }) (v := .int .i64 (x1 : Int)) rfl (by kernel_rfl) (by kernel_rfl) (by kernel_rfl) (fun _ _ _ h => h) (by rfl) ?_ hHeld ?_
              · (intro wq hSw; obtain ⟨s0, s1, s2⟩ := hSw; go_simp <;> with_reducible rfl)
              try simp only [Act.put, List.setIfInBounds_toArray, List.set_cons_zero, List.set_cons_succ]
              refine take_run (i := 12) (oi := { dst := some 75, op := Go.Op.move (Go.Operand.tmp 6), type := 22, pos := "ref.go:124", after := #[], guard := none }) (v := .slice (some ⟨G, 0, none⟩) 256 256) rfl (by kernel_rfl) (by kernel_rfl) (by kernel_rfl) (fun _ _ _ h => h) (by rfl) ?_ hHeld ?_
              · (intro wq hSw; go_simp <;> with_reducible rfl)
              try simp only [Act.put, List.setIfInBounds_toArray, List.set_cons_zero, List.set_cons_succ]
              refine take_run (i := 13) (oi := { dst := some 76, op := Go.Op.indexAddr 36 (Go.Operand.tmp 66) (Go.Operand.tmp 74), type := 0, pos := "ref.go:124", after := #[{ on := 3, ground := Go.Ground.data }, { on := 11, ground := Go.Ground.data }, { on := 0, ground := Go.Ground.phase }, { on := 1, ground := Go.Ground.phase }, { on := 2, ground := Go.Ground.phase }, { on := 3, ground := Go.Ground.phase }, { on := 4, ground := Go.Ground.phase }, { on := 5, ground := Go.Ground.phase }, { on := 6, ground := Go.Ground.phase }, { on := 7, ground := Go.Ground.phase }, { on := 8, ground := Go.Ground.phase }, { on := 9, ground := Go.Ground.phase }, { on := 10, ground := Go.Ground.phase }, { on := 11, ground := Go.Ground.phase }, { on := 12, ground := Go.Ground.phase }], guard := none }) (v := .pointer (some ⟨gv, x1, none⟩)) rfl (by kernel_rfl) (by kernel_rfl) (by kernel_rfl) (fun _ _ _ h => h) (by rfl) ?_ hHeld ?_
              · (intro wq hSw; go_simp <;> with_reducible rfl)
              try simp only [Act.put, List.setIfInBounds_toArray, List.set_cons_zero, List.set_cons_succ]
              refine take_put (i := 14) (oi := { dst := none, op := Go.Op.store 22 (Go.Operand.tmp 76) (Go.Operand.tmp 75), type := 0, pos := "ref.go:124", after := #[{ on := 13, ground := Go.Ground.data }, { on := 12, ground := Go.Ground.data }, { on := 0, ground := Go.Ground.phase }, { on := 1, ground := Go.Ground.phase }, { on := 2, ground := Go.Ground.phase }, { on := 3, ground := Go.Ground.phase }, { on := 4, ground := Go.Ground.phase }, { on := 5, ground := Go.Ground.phase }, { on := 6, ground := Go.Ground.phase }, { on := 7, ground := Go.Ground.phase }, { on := 8, ground := Go.Ground.phase }, { on := 9, ground := Go.Ground.phase }, { on := 10, ground := Go.Ground.phase }, { on := 11, ground := Go.Ground.phase }, { on := 12, ground := Go.Ground.phase }], guard := none }) (w' := wr.drew.setCell ⟨gv, x1, none⟩ (.slice (some ⟨G, 0, none⟩) 256 256)) rfl (by kernel_rfl) (by rfl) (by go_simp <;> with_reducible rfl) AFT.out ?_
              try simp only [Act.put]
              refine wpAnyH_done (by kernel_rfl) ?_ _
              clear hHeld
              go_wp2
              rw [WK.out]
              go_roundw
              case rel => exact ⟨k + 1, { mk with gs := mk.gs.set x1 G }, rfl, HLT.out, HM.out, PT.out, OT.out, NT.out⟩
              case measure => exact less_by HLT.out
    · have hk2 : k = s.ws.length := by have := hk.out; have := EN.out; omega
      have h1 : ¬ (k : Int) < (N : Int) := by omega
      have hd1 := block_put hD.out.hd 1 (.slice none 0 0)
      have hd2 := block_put hd1 2 (.bool false)
      have hd3 := block_put hd2 3 (.bool false)
      have hd4 := block_put hd3 4 (.bool false)
      rw [eRk] at hd1 hd2 hd3 hd4
      have c1 := hD.out.cells.2.1
      have c2 := hD.out.cells.2.2.1
      have c3 := hD.out.cells.2.2.2.1
      have c4 := hD.out.cells.2.2.2.2.1
      have fz := hD.out.cells.2.2.2.2.2
      rw [eRk] at c1 c2 c3 c4 fz
      have f1 := fz 1
      have c2' : (wr.setCell ⟨R, 1, none⟩ (.slice none 0 0)).cell? ⟨R, 2, none⟩ = some (.bool s.fa) := by simp [World.cell?, hd1]
      have f2' : (wr.setCell ⟨R, 1, none⟩ (.slice none 0 0)).frozen? ⟨R, 2, none⟩ = false := by simp [World.frozen?, hd1]
      have c3' : ((wr.setCell ⟨R, 1, none⟩ (.slice none 0 0)).setCell ⟨R, 2, none⟩ (.bool false)).cell? ⟨R, 3, none⟩ = some (.bool s.fu) := by simp [World.cell?, hd2]
      have f3' : ((wr.setCell ⟨R, 1, none⟩ (.slice none 0 0)).setCell ⟨R, 2, none⟩ (.bool false)).frozen? ⟨R, 3, none⟩ = false := by simp [World.frozen?, hd2]
      have c4' : (((wr.setCell ⟨R, 1, none⟩ (.slice none 0 0)).setCell ⟨R, 2, none⟩ (.bool false)).setCell ⟨R, 3, none⟩ (.bool false)).cell? ⟨R, 4, none⟩ = some (.bool s.de) := by simp [World.cell?, hd3]
      have f4' : (((wr.setCell ⟨R, 1, none⟩ (.slice none 0 0)).setCell ⟨R, 2, none⟩ (.bool false)).setCell ⟨R, 3, none⟩ (.bool false)).frozen? ⟨R, 4, none⟩ = false := by simp [World.frozen?, hd3]
      have FIN : Hid (RDo w ((((wr.setCell ⟨R, 1, none⟩ (.slice none 0 0)).setCell ⟨R, 2, none⟩ (.bool false)).setCell ⟨R, 3, none⟩ (.bool false)).setCell ⟨R, 4, none⟩ (.bool false)) m { mk with lv := .slice none 0 0, gl := [] } n (crashD s zs)) := by
        have far : ∀ (W : World) (i : Nat) (v : Value) (j : Nat), j ≠ R → (W.setCell ⟨R, i, none⟩ v).heap[j]? = W.heap[j]? := fun W i v j hj => Below.heap_setCell _ _ _ j (fun e => hj (by simpa using e))
        have oo : ∀ (W : World) (i : Nat) (v : Value), ROnly m W (W.setCell ⟨R, i, none⟩ v) := fun W i v => by rw [← ER.out]; exact ROnly.set (.inl rfl) _
        refine ⟨hD.out.clear (s' := crashD s zs) ?_ (fun j hj => ?_) OK.out (by rw [← CE.out, ← hk2]) rfl, ROnly.trans (ROnly.trans (ROnly.trans (ROnly.trans hO.out (RM.next.refl m _) (oo _ _ _)) (RM.next.refl m _) (oo _ _ _)) (RM.next.refl m _) (oo _ _ _)) (RM.next.refl m _) (oo _ _ _), clear_next hX.out⟩
        · rw [eRk, hd4]
          simp
          exact ⟨rfl, rfl, rfl⟩
        · rw [eRk] at hj
          rw [far _ _ _ _ hj, far _ _ _ _ hj, far _ _ _ _ hj, far _ _ _ _ hj]
      clear hlt hk hm hD hO hX hk2 eRk hd1 hd2 hd3 hd4 fz c2 c3 c4 CE OK
      go_wp2
      first | (go_end0; exact ⟨⟨_, rfl⟩, _, FIN.out⟩) | exact ⟨_, rfl, ⟨_, rfl⟩, _, FIN.out⟩ | exact ⟨⟨_, rfl⟩, _, FIN.out⟩
end Go.Proofs.Ytnpebdnfdbeiaaa
