/- The law's fixed calls: the second answer. -/
import Derived.Test.YtcmhkeaimgppgaaMKt
import Derived.Test.YtcmhkeaimgppgaaMKr8
namespace Go.Proofs.Ytcmhkeaimgppgaa
open Go.RowKit Go.Shelf
attribute [local go_sem] Oper.semAt_some
set_option linter.unusedVariables false

set_option maxRecDepth 100000 in
set_option maxHeartbeats 8000000 in
theorem known_r13 (s0 s4 s5 s6 s7 s8 s9 s10 s11 s12 s13 s14 s15 s16 s17 s18 s19 s20 s21 s22 s23 s24 s25 s26 s27 s28 s29 s30 s31 s32 s33 s34 s35 s36 s37 s38 s39 s40 s41 s42 s43 s44 s45 s46 s47 s48 s49 s50 s51 s52 s53 s54 s55 s56 s57 s58 s59 s60 s61 s62 s63 s64 s65 s66 s67 s68 s69 s70 s71 s72 s73 s74 s75 s76 s77 s78 s79 s80 s81 s82 s83 s84 s85 s86 s87 s88 s89 s90 s91 s92 s93 s94 s95 s96 s97 s98 s99 s100 s101 s102 s103 s104 s105 s106 s107 s108 s109 s110 s111 s112 s113 s114 s115 s116 s117 s118 s119 s120 s121 s122 : Value) (w : World) (base : Bs) (G Bx g c : Nat) (M : MD) (x : MvD) (C : List Value) (q : AskI) (cur : Array Value) (r : ResD) (hr : r = ⟨0, false, 0, 0, .slice none 0 0, none, 0, []⟩) (hC : AskC C q) (hm : MvIn w base G M) (hb : base.ok w.heap.size) (hx : w.heap[Bx]? = some (.cells #[.int .i64 x.slot, .int .i64 x.fr, .int .i64 x.to, .int .i64 x.ep, .int .i64 x.ph, .int .i64 x.n] 47 (0, 0))) (hgc : w.heap[g]? = some (.cells cur 54 (0, 0))) (hl : w.rangeAt g 0 C)
    (Q : Exit → Act → World → Prop) (hP : ∀ c (a : Act) (d : Tmp) (v : Value) w, Q (.panic c) (a.put (some d) v) w → Q (.panic c) a w)
    (hQ : ∀ (W' : World) (v72 v73 v74 v75 v76 v77 v78 : Value), MvIn W' base G (toldM M x q r).1 → OnlyR w W' G → Q .normal { tmps := #[s0, .pointer (some ⟨G, 0, none⟩), .pointer (some ⟨Bx, 0, none⟩), .slice (some ⟨g, 0, none⟩) 1 c, s4, s5, s6, s7, s8, s9, s10, s11, s12, s13, s14, s15, s16, s17, s18, s19, s20, s21, s22, s23, s24, s25, s26, s27, s28, s29, s30, s31, s32, s33, s34, s35, s36, s37, s38, s39, s40, s41, s42, s43, s44, s45, s46, s47, s48, s49, s50, s51, s52, s53, s54, s55, s56, s57, s58, s59, s60, s61, s62, s63, s64, s65, s66, s67, s68, s69, s70, s71, v72, v73, v74, v75, v76, v77, v78, s79, s80, s81, s82, s83, s84, s85, s86, s87, s88, s89, s90, s91, s92, s93, s94, s95, s96, s97, s98, s99, s100, s101, s102, s103, s104, s105, s106, s107, s108, s109, s110, s111, s112, s113, s114, s115, s116, s117, s118, s119, s120, s121, s122], defers := [] } W') :
    (Code.region 13 #[{ dst := some 72, op := Go.Op.move (Go.Operand.tmp 1), type := 23, pos := "law.go:71", after := #[], guard := none }, { dst := some 73, op := Go.Op.load 47 (Go.Operand.tmp 2), type := 47, pos := "law.go:71", after := #[], guard := none }, { dst := some 74, op := Go.Op.move (Go.Operand.tmp 3), type := 45, pos := "law.go:71", after := #[], guard := none }, { dst := some 75, op := Go.Op.indexAddr 45 (Go.Operand.tmp 74) (Go.Operand.const (Go.Value.int Go.IntKind.i64 0)), type := 0, pos := "law.go:71", after := #[{ on := 2, ground := Go.Ground.data }], guard := none }, { dst := some 76, op := Go.Op.load 54 (Go.Operand.tmp 75), type := 54, pos := "law.go:71", after := #[{ on := 3, ground := Go.Ground.data }], guard := none }, { dst := some 77, op := Go.Op.build 57 #[], type := 57, pos := "law.go:71", after := #[], guard := none }, { dst := some 78, op := Go.Op.call { callee := Go.Callee.value (Go.Operand.func 14), args := #[Go.Operand.tmp 72, Go.Operand.tmp 73, Go.Operand.tmp 76, Go.Operand.tmp 77], argTypes := #[23, 47, 54, 57] }, type := 61, pos := "law.go:71", after := #[{ on := 0, ground := Go.Ground.data }, { on := 1, ground := Go.Ground.data }, { on := 4, ground := Go.Ground.data }, { on := 5, ground := Go.Ground.data }], guard := none }] true).wp Try.prog Q { tmps := #[s0, .pointer (some ⟨G, 0, none⟩), .pointer (some ⟨Bx, 0, none⟩), .slice (some ⟨g, 0, none⟩) 1 c, s4, s5, s6, s7, s8, s9, s10, s11, s12, s13, s14, s15, s16, s17, s18, s19, s20, s21, s22, s23, s24, s25, s26, s27, s28, s29, s30, s31, s32, s33, s34, s35, s36, s37, s38, s39, s40, s41, s42, s43, s44, s45, s46, s47, s48, s49, s50, s51, s52, s53, s54, s55, s56, s57, s58, s59, s60, s61, s62, s63, s64, s65, s66, s67, s68, s69, s70, s71, s72, s73, s74, s75, s76, s77, s78, s79, s80, s81, s82, s83, s84, s85, s86, s87, s88, s89, s90, s91, s92, s93, s94, s95, s96, s97, s98, s99, s100, s101, s102, s103, s104, s105, s106, s107, s108, s109, s110, s111, s112, s113, s114, s115, s116, s117, s118, s119, s120, s121, s122], defers := [] } w := by
  obtain ⟨ma, mc, mg, _⟩ := hm.ex
  have nx : Bx ≠ G := fun e => by
    rw [e, mg] at hx
    injection hx with hx
    injection hx with _ hx
    exact absurd hx (by decide)
  have ng : g ≠ G := fun e => by
    rw [e, mg] at hgc
    injection hgc with hgc
    injection hgc with _ hgc
    exact absurd hgc (by decide)
  have lx : Bx < w.heap.size := (Array.getElem?_eq_some_iff.1 hx).1
  have lg : g < w.heap.size := (Array.getElem?_eq_some_iff.1 hgc).1
  have BX : Hid (∀ W, OnlyR w W G → W.heap[Bx]? = some (.cells #[.int .i64 x.slot, .int .i64 x.fr, .int .i64 x.to, .int .i64 x.ep, .int .i64 x.ph, .int .i64 x.n] 47 (0, 0))) := fun W hW => (hW.block _ lx nx).trans hx
  have BL : Hid (∀ W, OnlyR w W G → W.rangeAt g 0 C) := fun W hW j v hv => by
    have := hl j v hv
    simp only [World.cell?] at this ⊢
    rw [hW.block _ lg ng]
    exact this
  have HSZ : Hid ((Try.prog.info? 54).map (·.size) = some C.length) := by
    have e : (Try.prog.info? 54).map (·.size) = some 18 := by kernel_rfl
    show _ = _
    rw [e, hC.len]
  have HM : Hid (MvIn w base G M) := hm
  have HB : Hid (base.ok w.heap.size) := hb
  have HC : Hid (AskC C q) := hC
  have HQ : Hid _ := hQ
  have HP : Hid _ := hP
  have HT : Hid (∀ W, Below w.heap.size w W → Calls Try.prog 14 #[.pointer (some ⟨G, 0, none⟩), .agg #[.int .i64 x.slot, .int .i64 x.fr, .int .i64 x.to, .int .i64 x.ep, .int .i64 x.ph, .int .i64 x.n], .agg C.toArray, .agg #[.int .i64 0, .bool false, .int .i64 0, .int .i64 0, .slice none 0 0, .slice none 0 0]] W fun e w' => e = .returned (.tuple #[.agg (toldC (toldM M x q r).2 x), .bool (toldM M x q r).2]) ∧ MvIn w' base G (toldM M x q r).1 ∧ OnlyR W w' G) := fun W hW => by
    have := told_any (hm.below hW) (hb.mono hW.size) x C q hC r (by rw [hr]; exact ⟨seen_nil W, fun _ => rfl, by simp⟩)
    rw [hr] at this ⊢
    exact this
  have TA1 : Hid ((Try.prog.info? 60).map (·.size) = some (toldC (toldM M x q r).2 x).size) := by show _ = _; cases (toldM M x q r).2 <;> kernel_rfl
  have TA2 : Hid ((#[.int .i64 0, .int .i64 0, .int .i64 0, .int .i64 0, .int .i64 0] : Array Value).size = (toldC (toldM M x q r).2 x).size) := by show _ = _; cases (toldM M x q r).2 <;> rfl
  have TA3 : Hid ((toldC (toldM M x q r).2 x).all (·.oneCell') = true) := by show _ = _; cases (toldM M x q r).2 <;> simp [toldC, Value.oneCell']
  clear hx hgc hl mg nx ng lx lg hm hb hC hQ hP hr
  generalize toldM M x q r = tm at *
  generalize toldC tm.2 x = tc at *
  refine wp_region_held_drew (S := fun W => OnlyR w W G) (by kernel_rfl) (OnlyR.of_below (Below.refl _ w).drew G) (fun hHeld => ?_)
  have bD : Below w.heap.size w w.drew := (Below.refl _ w).drew
  refine take_run (i := 0) (oi := { dst := some 72, op := Go.Op.move (Go.Operand.tmp 1), type := 23, pos := "law.go:71", after := #[], guard := none }) (v := .pointer (some ⟨G, 0, none⟩)) rfl (by kernel_rfl) (by kernel_rfl) (by kernel_rfl) (fun _ _ _ h => HP.out _ _ _ _ _ h) (by rfl) ?_ hHeld ?_
  · (intro wq hSw; go_simp <;> with_reducible rfl)
  try simp only [Act.put, List.setIfInBounds_toArray, List.set_cons_zero, List.set_cons_succ]
  refine take_row (i := 1) (oi := { dst := some 73, op := Go.Op.load 47 (Go.Operand.tmp 2), type := 47, pos := "law.go:71", after := #[], guard := none }) rfl (by kernel_rfl) (by kernel_rfl) (by kernel_rfl) 47 (.tmp 2) Bx 47 #[.int .i64 x.slot, .int .i64 x.fr, .int .i64 x.to, .int .i64 x.ep, .int .i64 x.ph, .int .i64 x.n] (0, 0) _ (fun _ _ _ h => HP.out _ _ _ _ _ h) (by rfl) rfl (by go_simp <;> with_reducible rfl) (fun W hW => BX.out W hW) Try.underlying47 rfl (by kernel_rfl) hHeld ?_
  try simp only [Act.put, List.setIfInBounds_toArray, List.set_cons_zero, List.set_cons_succ]
  refine take_run (i := 2) (oi := { dst := some 74, op := Go.Op.move (Go.Operand.tmp 3), type := 45, pos := "law.go:71", after := #[], guard := none }) (v := .slice (some ⟨g, 0, none⟩) 1 c) rfl (by kernel_rfl) (by kernel_rfl) (by kernel_rfl) (fun _ _ _ h => HP.out _ _ _ _ _ h) (by rfl) ?_ hHeld ?_
  · (intro wq hSw; go_simp <;> with_reducible rfl)
  try simp only [Act.put, List.setIfInBounds_toArray, List.set_cons_zero, List.set_cons_succ]
  refine take_run (i := 3) (oi := { dst := some 75, op := Go.Op.indexAddr 45 (Go.Operand.tmp 74) (Go.Operand.const (Go.Value.int Go.IntKind.i64 0)), type := 0, pos := "law.go:71", after := #[{ on := 2, ground := Go.Ground.data }], guard := none }) (v := .pointer (some ⟨g, 0, none⟩)) rfl (by kernel_rfl) (by kernel_rfl) (by kernel_rfl) (fun _ _ _ h => HP.out _ _ _ _ _ h) (by rfl) ?_ hHeld ?_
  · (intro wq hSw; go_simp <;> with_reducible rfl)
  try simp only [Act.put, List.setIfInBounds_toArray, List.set_cons_zero, List.set_cons_succ]
  refine take_mid (i := 4) (oi := { dst := some 76, op := Go.Op.load 54 (Go.Operand.tmp 75), type := 54, pos := "law.go:71", after := #[{ on := 3, ground := Go.Ground.data }], guard := none }) rfl (by kernel_rfl) (by kernel_rfl) (by kernel_rfl) 54 (.tmp 75) g 0 C _ (fun _ _ _ h => HP.out _ _ _ _ _ h) (by rfl) rfl (by go_simp <;> with_reducible rfl) (fun W hW => BL.out W hW) Try.underlying54 rfl HSZ.out hHeld ?_
  try simp only [Act.put, List.setIfInBounds_toArray, List.set_cons_zero, List.set_cons_succ]
  refine take_run (i := 5) (oi := { dst := some 77, op := Go.Op.build 57 #[], type := 57, pos := "law.go:71", after := #[], guard := none }) (v := .agg #[.int .i64 0, .bool false, .int .i64 0, .int .i64 0, .slice none 0 0, .slice none 0 0]) rfl (by kernel_rfl) (by kernel_rfl) (by kernel_rfl) (fun _ _ _ h => HP.out _ _ _ _ _ h) (by rfl) ?_ hHeld ?_
  · (intro wq hSw; go_simp <;> with_reducible rfl)
  try simp only [Act.put, List.setIfInBounds_toArray, List.set_cons_zero, List.set_cons_succ]
  refine take_call (i := 6) (oi := { dst := some 78, op := Go.Op.call { callee := Go.Callee.value (Go.Operand.func 14), args := #[Go.Operand.tmp 72, Go.Operand.tmp 73, Go.Operand.tmp 76, Go.Operand.tmp 77], argTypes := #[23, 47, 54, 57] }, type := 61, pos := "law.go:71", after := #[{ on := 0, ground := Go.Ground.data }, { on := 1, ground := Go.Ground.data }, { on := 4, ground := Go.Ground.data }, { on := 5, ground := Go.Ground.data }], guard := none }) rfl (by kernel_rfl) (by rfl) 14 _ (by go_simp <;> with_reducible rfl) ?_
  refine (HT.out _ bD).mono ?_
  rintro e w9 ⟨rfl, m9, o9'⟩
  have o9 : OnlyR w w9 G := hHeld.trans o9'
  refine ⟨_, rfl, o9, ?_⟩
  try simp only [Act.put, List.setIfInBounds_toArray, List.set_cons_zero, List.set_cons_succ]
  refine wpAnyH_done (by kernel_rfl) ?_ _
  exact HQ.out _ _ _ _ _ _ _ _ m9 o9
end Go.Proofs.Ytcmhkeaimgppgaa

namespace Go.Proofs.Ytcmhkeaimgppgaa
open Go.RowKit Go.Shelf
attribute [local go_sem] Oper.semAt_some
set_option linter.unusedVariables false

/-- A law's own mover beside its move: what asks answers where something is asked. -/
theorem my_asks {w W : World} {base : Bs} {G Bx : Nat} {M : MD} {x : MvD} {p : PAsk} (hm : MvIn W base G M) (hG : w.heap.size ≤ G) (hb : Below w.heap.size w W) (hx : W.heap[Bx]? = some (.cells #[.int .i64 x.slot, .int .i64 x.fr, .int .i64 x.to, .int .i64 x.ep, .int .i64 x.ph, .int .i64 x.n] 47 (0, 0))) (hp : askP (knowM M x) x = some p) (hl : p.l.length ≤ 140737488351232) :
    Calls Try.prog 7 #[.pointer (some ⟨G, 0, none⟩), .agg #[.int .i64 x.slot, .int .i64 x.fr, .int .i64 x.to, .int .i64 x.ep, .int .i64 x.ph, .int .i64 x.n]] W fun e W' => ∃ g c ua uc cur, e = .returned (.slice (some ⟨g, 0, none⟩) 1 c) ∧ W'.rangeAt g 0 (AskV.cells (p.v (.slice ua p.l.length uc))) ∧ W'.heap[g]? = some (.cells cur 54 (0, 0)) ∧ Seen W' ua p.l.length p.l ∧ (ua = none → uc = 0) ∧ MvIn W' base G (knowM M x) ∧ Below w.heap.size w W' ∧ W'.heap[Bx]? = some (.cells #[.int .i64 x.slot, .int .i64 x.fr, .int .i64 x.to, .int .i64 x.ep, .int .i64 x.ph, .int .i64 x.n] 47 (0, 0)) ∧ OnlyR W W' G ∧ ua ≠ some ⟨g, 0, none⟩ ∧ W.heap.size ≤ g := by
  refine (asks_any hm x).mono ?_
  rintro e W' ⟨v, rfl, ht, h1, h2⟩
  rw [hp] at ht
  obtain ⟨u, r1, r2⟩ := ht
  obtain ⟨ua, uc, rfl, hs, hn, _⟩ := owned_seen r2 (by unfold maxLen; omega)
  obtain ⟨g, c, rfl, hr, hbg, hlt, cur, hg⟩ := told_row r1 rfl
  have nx : Bx ≠ G := fun e => by
    obtain ⟨ma, mc, mg, _⟩ := hm.ex
    rw [e, mg] at hx
    injection hx with hx
    injection hx with _ hx
    exact absurd hx (by decide)
  refine ⟨g, c, ua, uc, cur, rfl, hr, hg, hs, hn, h1, hb.trans (h2.toBelow hG hb.size), (h2.block _ (Array.getElem?_eq_some_iff.1 hx).1 nx).trans hx, h2, fun e => ?_, hbg⟩
  subst e
  obtain ⟨_, _, cur2, hc⟩ := row_kind r2 rfl
  rw [hg] at hc
  injection hc with hc
  injection hc with _ hc
  exact absurd hc (by decide)
def X1 : MvD := ⟨3, 1, 2, 1, 1, 1⟩
def X2 : MvD := ⟨3, 1, 2, 1, 2, 1⟩
def K1 : MD := ⟨1, false, [], 0⟩
def K2 (Z : List (BitVec 8)) : MD := ⟨1, true, Z, 0⟩
def K3 (Z : List (BitVec 8)) : MD := ⟨1, true, Z, 1000⟩
def R1 (Z : List (BitVec 8)) : ResD := ⟨0, false, 0, 0, .slice none 0 0, none, 0, Z⟩
def R2 : ResD := ⟨0, false, 0, 0, .slice none 0 0, none, 0, []⟩
theorem e1 : knowM MD.zero X1 = K1 := by simp [knowM, X1, MD.zero, K1]
theorem e2 : askP K1 X1 = some ⟨1, 8, 3, 1, 0, false, []⟩ := rfl
theorem e3 (Z : List (BitVec 8)) (hZ : Z.length = 1500) (ua : Option Addr) (uc : Nat) : toldM K1 X1 ⟨1, 8, 3, 1, 0, false, ua, 0, uc⟩ (R1 Z) = (K2 Z, true) := by
  simp [toldM, dutyG, dutiesL, X1, K1, knowM, learnQ, learnM, heldM, R1, K2]
theorem e4 (Z : List (BitVec 8)) (hZ : Z.length = 1500) : knowM (K2 Z) X2 = K2 Z := by simp [knowM, X2, K2]
theorem e5 (Z : List (BitVec 8)) (hZ : Z.length = 1500) : askP (K2 Z) X2 = some ⟨2, 9, 3, 1, 0, false, Z.take 1000⟩ := by
  simp [askP, X2, K2, endM, hZ]
theorem e6 (Z : List (BitVec 8)) (hZ : Z.length = 1500) (ua : Option Addr) (uc : Nat) : toldM (K2 Z) X2 ⟨2, 9, 3, 1, 0, false, ua, 1000, uc⟩ R2 = (K3 Z, false) := by
  simp [toldM, dutyG, dutiesL, X2, K2, knowM, learnQ, learnM, installedM, R2, K3, hZ]
theorem e7 (Z : List (BitVec 8)) (hZ : Z.length = 1500) : knowM (K3 Z) X2 = K3 Z := by simp [knowM, X2, K3]
theorem e8 (Z : List (BitVec 8)) (hZ : Z.length = 1500) : askP (K3 Z) X2 = some ⟨2, 9, 3, 1, 1000, true, (Z.drop 1000).take 500⟩ := by
  simp [askP, X2, K3, endM, hZ]
end Go.Proofs.Ytcmhkeaimgppgaa

namespace Go.Proofs.Ytcmhkeaimgppgaa
open Go.RowKit Go.Shelf
attribute [local go_sem] Oper.semAt_some
set_option linter.unusedVariables false

set_option maxRecDepth 100000 in
set_option maxHeartbeats 8000000 in
theorem sends_r8 (s1 s2 s3 s4 s8 s9 s10 s11 s12 s13 s14 s15 s16 s17 s18 s19 s20 s21 s22 s23 s24 s25 s26 s27 s28 s29 s30 s31 s32 s33 s34 s35 s36 s37 s38 s39 s40 s41 s42 s43 s44 s45 s46 s47 s48 s49 s50 s51 s52 s53 s54 s55 s56 s57 s58 s59 s60 s61 s62 s63 s64 s65 s66 s67 s68 s69 s70 s71 s72 s73 s74 s75 s76 s77 s78 s79 s80 s81 s82 s83 s84 s85 s86 s87 s88 s89 s90 s91 s92 s93 s94 s95 s96 s97 s98 s99 s100 s101 s102 s103 s104 s105 s106 s107 s108 s109 s110 s111 s112 s113 s114 s115 s116 s117 s118 s119 s120 s121 s122 s123 s124 s125 s126 s127 s128 s129 s130 s131 s132 s133 s134 s135 s136 s137 s138 s139 s140 s141 s142 s143 s144 s145 s146 s147 s148 s149 s150 s151 s152 s153 s154 s155 s156 s157 s158 s159 : Value) (w : World) (base : Bs) (G Bx g c : Nat) (M : MD) (x : MvD) (C : List Value) (q : AskI) (cur : Array Value) (da : Option Addr) (dc : Nat) (l : List (BitVec 8)) (hs : Seen w da l.length l) (hnil : da = none → dc = 0) (hln : l.length ≤ 140737488351232) (r : ResD) (hr : r = ⟨0, false, 0, 0, .slice none 0 0, da, dc, l⟩) (hC : AskC C q) (hm : MvIn w base G M) (hb : base.ok w.heap.size) (hx : w.heap[Bx]? = some (.cells #[.int .i64 x.slot, .int .i64 x.fr, .int .i64 x.to, .int .i64 x.ep, .int .i64 x.ph, .int .i64 x.n] 47 (0, 0))) (hgc : w.heap[g]? = some (.cells cur 54 (0, 0))) (hl : w.rangeAt g 0 C)
    (Q : Exit → Act → World → Prop) (hP : ∀ c (a : Act) (d : Tmp) (v : Value) w, Q (.panic c) (a.put (some d) v) w → Q (.panic c) a w)
    (hQ : ∀ (W' : World) (v40 v41 v42 v43 v44 v45 v46 v47 : Value), MvIn W' base G (toldM M x q r).1 → OnlyR w W' G → Q .normal { tmps := #[.slice da l.length dc, s1, s2, s3, s4, .pointer (some ⟨G, 0, none⟩), .pointer (some ⟨Bx, 0, none⟩), .slice (some ⟨g, 0, none⟩) 1 c, s8, s9, s10, s11, s12, s13, s14, s15, s16, s17, s18, s19, s20, s21, s22, s23, s24, s25, s26, s27, s28, s29, s30, s31, s32, s33, s34, s35, s36, s37, s38, s39, v40, v41, v42, v43, v44, v45, v46, v47, s48, s49, s50, s51, s52, s53, s54, s55, s56, s57, s58, s59, s60, s61, s62, s63, s64, s65, s66, s67, s68, s69, s70, s71, s72, s73, s74, s75, s76, s77, s78, s79, s80, s81, s82, s83, s84, s85, s86, s87, s88, s89, s90, s91, s92, s93, s94, s95, s96, s97, s98, s99, s100, s101, s102, s103, s104, s105, s106, s107, s108, s109, s110, s111, s112, s113, s114, s115, s116, s117, s118, s119, s120, s121, s122, s123, s124, s125, s126, s127, s128, s129, s130, s131, s132, s133, s134, s135, s136, s137, s138, s139, s140, s141, s142, s143, s144, s145, s146, s147, s148, s149, s150, s151, s152, s153, s154, s155, s156, s157, s158, s159], defers := [] } W') :
    (Code.region 8 #[{ dst := some 40, op := Go.Op.move (Go.Operand.tmp 5), type := 23, pos := "law.go:353", after := #[], guard := none }, { dst := some 41, op := Go.Op.load 47 (Go.Operand.tmp 6), type := 47, pos := "law.go:353", after := #[], guard := none }, { dst := some 42, op := Go.Op.move (Go.Operand.tmp 7), type := 45, pos := "law.go:353", after := #[], guard := none }, { dst := some 43, op := Go.Op.indexAddr 45 (Go.Operand.tmp 42) (Go.Operand.const (Go.Value.int Go.IntKind.i64 0)), type := 0, pos := "law.go:353", after := #[{ on := 2, ground := Go.Ground.data }], guard := none }, { dst := some 44, op := Go.Op.load 54 (Go.Operand.tmp 43), type := 54, pos := "law.go:353", after := #[{ on := 3, ground := Go.Ground.data }], guard := none }, { dst := some 45, op := Go.Op.move (Go.Operand.tmp 0), type := 26, pos := "law.go:353", after := #[], guard := none }, { dst := some 46, op := Go.Op.build 57 #[(3, Go.Operand.tmp 45)], type := 57, pos := "law.go:353", after := #[{ on := 5, ground := Go.Ground.data }], guard := none }, { dst := some 47, op := Go.Op.call { callee := Go.Callee.value (Go.Operand.func 14), args := #[Go.Operand.tmp 40, Go.Operand.tmp 41, Go.Operand.tmp 44, Go.Operand.tmp 46], argTypes := #[23, 47, 54, 57] }, type := 61, pos := "law.go:353", after := #[{ on := 0, ground := Go.Ground.data }, { on := 1, ground := Go.Ground.data }, { on := 4, ground := Go.Ground.data }, { on := 6, ground := Go.Ground.data }], guard := none }] true).wp Try.prog Q { tmps := #[.slice da l.length dc, s1, s2, s3, s4, .pointer (some ⟨G, 0, none⟩), .pointer (some ⟨Bx, 0, none⟩), .slice (some ⟨g, 0, none⟩) 1 c, s8, s9, s10, s11, s12, s13, s14, s15, s16, s17, s18, s19, s20, s21, s22, s23, s24, s25, s26, s27, s28, s29, s30, s31, s32, s33, s34, s35, s36, s37, s38, s39, s40, s41, s42, s43, s44, s45, s46, s47, s48, s49, s50, s51, s52, s53, s54, s55, s56, s57, s58, s59, s60, s61, s62, s63, s64, s65, s66, s67, s68, s69, s70, s71, s72, s73, s74, s75, s76, s77, s78, s79, s80, s81, s82, s83, s84, s85, s86, s87, s88, s89, s90, s91, s92, s93, s94, s95, s96, s97, s98, s99, s100, s101, s102, s103, s104, s105, s106, s107, s108, s109, s110, s111, s112, s113, s114, s115, s116, s117, s118, s119, s120, s121, s122, s123, s124, s125, s126, s127, s128, s129, s130, s131, s132, s133, s134, s135, s136, s137, s138, s139, s140, s141, s142, s143, s144, s145, s146, s147, s148, s149, s150, s151, s152, s153, s154, s155, s156, s157, s158, s159], defers := [] } w := by
  obtain ⟨ma, mc, mg, _⟩ := hm.ex
  have nx : Bx ≠ G := fun e => by
    rw [e, mg] at hx
    injection hx with hx
    injection hx with _ hx
    exact absurd hx (by decide)
  have ng : g ≠ G := fun e => by
    rw [e, mg] at hgc
    injection hgc with hgc
    injection hgc with _ hgc
    exact absurd hgc (by decide)
  have lx : Bx < w.heap.size := (Array.getElem?_eq_some_iff.1 hx).1
  have lg : g < w.heap.size := (Array.getElem?_eq_some_iff.1 hgc).1
  have BX : Hid (∀ W, OnlyR w W G → W.heap[Bx]? = some (.cells #[.int .i64 x.slot, .int .i64 x.fr, .int .i64 x.to, .int .i64 x.ep, .int .i64 x.ph, .int .i64 x.n] 47 (0, 0))) := fun W hW => (hW.block _ lx nx).trans hx
  have BL : Hid (∀ W, OnlyR w W G → W.rangeAt g 0 C) := fun W hW j v hv => by
    have := hl j v hv
    simp only [World.cell?] at this ⊢
    rw [hW.block _ lg ng]
    exact this
  have HSZ : Hid ((Try.prog.info? 54).map (·.size) = some C.length) := by
    have e : (Try.prog.info? 54).map (·.size) = some 18 := by kernel_rfl
    show _ = _
    rw [e, hC.len]
  have HM : Hid (MvIn w base G M) := hm
  have HB : Hid (base.ok w.heap.size) := hb
  have HC : Hid (AskC C q) := hC
  have HQ : Hid _ := hQ
  have HP : Hid _ := hP
  have HT : Hid (∀ W, Below w.heap.size w W → Calls Try.prog 14 #[.pointer (some ⟨G, 0, none⟩), .agg #[.int .i64 x.slot, .int .i64 x.fr, .int .i64 x.to, .int .i64 x.ep, .int .i64 x.ph, .int .i64 x.n], .agg C.toArray, .agg #[.int .i64 0, .bool false, .int .i64 0, .int .i64 0, .slice none 0 0, .slice da l.length dc]] W fun e w' => e = .returned (.tuple #[.agg (toldC (toldM M x q r).2 x), .bool (toldM M x q r).2]) ∧ MvIn w' base G (toldM M x q r).1 ∧ OnlyR W w' G) := fun W hW => by
    have := told_any (hm.below hW) (hb.mono hW.size) x C q hC r (by rw [hr]; exact ⟨hs.below hW, hnil, hln⟩)
    rw [hr] at this ⊢
    exact this
  have TA1 : Hid ((Try.prog.info? 60).map (·.size) = some (toldC (toldM M x q r).2 x).size) := by show _ = _; cases (toldM M x q r).2 <;> kernel_rfl
  have TA2 : Hid ((#[.int .i64 0, .int .i64 0, .int .i64 0, .int .i64 0, .int .i64 0] : Array Value).size = (toldC (toldM M x q r).2 x).size) := by show _ = _; cases (toldM M x q r).2 <;> rfl
  have TA3 : Hid ((toldC (toldM M x q r).2 x).all (·.oneCell') = true) := by show _ = _; cases (toldM M x q r).2 <;> simp [toldC, Value.oneCell']
  clear hx hgc hl mg nx ng lx lg hm hb hC hQ hP hr
  generalize toldM M x q r = tm at *
  generalize toldC tm.2 x = tc at *
  refine wp_region_held_drew (S := fun W => OnlyR w W G) (by kernel_rfl) (OnlyR.of_below (Below.refl _ w).drew G) (fun hHeld => ?_)
  have bD : Below w.heap.size w w.drew := (Below.refl _ w).drew
  refine take_run (i := 0) (oi := { dst := some 40, op := Go.Op.move (Go.Operand.tmp 5), type := 23, pos := "law.go:353", after := #[], guard := none }) (v := .pointer (some ⟨G, 0, none⟩)) rfl (by kernel_rfl) (by kernel_rfl) (by kernel_rfl) (fun _ _ _ h => HP.out _ _ _ _ _ h) (by rfl) ?_ hHeld ?_
  · (intro wq hSw; go_simp <;> with_reducible rfl)
  try simp only [Act.put, List.setIfInBounds_toArray, List.set_cons_zero, List.set_cons_succ]
  refine take_row (i := 1) (oi := { dst := some 41, op := Go.Op.load 47 (Go.Operand.tmp 6), type := 47, pos := "law.go:353", after := #[], guard := none }) rfl (by kernel_rfl) (by kernel_rfl) (by kernel_rfl) 47 (.tmp 6) Bx 47 #[.int .i64 x.slot, .int .i64 x.fr, .int .i64 x.to, .int .i64 x.ep, .int .i64 x.ph, .int .i64 x.n] (0, 0) _ (fun _ _ _ h => HP.out _ _ _ _ _ h) (by rfl) rfl (by go_simp <;> with_reducible rfl) (fun W hW => BX.out W hW) Try.underlying47 rfl (by kernel_rfl) hHeld ?_
  try simp only [Act.put, List.setIfInBounds_toArray, List.set_cons_zero, List.set_cons_succ]
  refine take_run (i := 2) (oi := { dst := some 42, op := Go.Op.move (Go.Operand.tmp 7), type := 45, pos := "law.go:353", after := #[], guard := none }) (v := .slice (some ⟨g, 0, none⟩) 1 c) rfl (by kernel_rfl) (by kernel_rfl) (by kernel_rfl) (fun _ _ _ h => HP.out _ _ _ _ _ h) (by rfl) ?_ hHeld ?_
  · (intro wq hSw; go_simp <;> with_reducible rfl)
  try simp only [Act.put, List.setIfInBounds_toArray, List.set_cons_zero, List.set_cons_succ]
  refine take_run (i := 3) (oi := { dst := some 43, op := Go.Op.indexAddr 45 (Go.Operand.tmp 42) (Go.Operand.const (Go.Value.int Go.IntKind.i64 0)), type := 0, pos := "law.go:353", after := #[{ on := 2, ground := Go.Ground.data }], guard := none }) (v := .pointer (some ⟨g, 0, none⟩)) rfl (by kernel_rfl) (by kernel_rfl) (by kernel_rfl) (fun _ _ _ h => HP.out _ _ _ _ _ h) (by rfl) ?_ hHeld ?_
  · (intro wq hSw; go_simp <;> with_reducible rfl)
  try simp only [Act.put, List.setIfInBounds_toArray, List.set_cons_zero, List.set_cons_succ]
  refine take_mid (i := 4) (oi := { dst := some 44, op := Go.Op.load 54 (Go.Operand.tmp 43), type := 54, pos := "law.go:353", after := #[{ on := 3, ground := Go.Ground.data }], guard := none }) rfl (by kernel_rfl) (by kernel_rfl) (by kernel_rfl) 54 (.tmp 43) g 0 C _ (fun _ _ _ h => HP.out _ _ _ _ _ h) (by rfl) rfl (by go_simp <;> with_reducible rfl) (fun W hW => BL.out W hW) Try.underlying54 rfl HSZ.out hHeld ?_
  try simp only [Act.put, List.setIfInBounds_toArray, List.set_cons_zero, List.set_cons_succ]
  refine take_run (i := 5) (oi := { dst := some 45, op := Go.Op.move (Go.Operand.tmp 0), type := 26, pos := "law.go:353", after := #[], guard := none }) (v := .slice da l.length dc) rfl (by kernel_rfl) (by kernel_rfl) (by kernel_rfl) (fun _ _ _ h => HP.out _ _ _ _ _ h) (by rfl) ?_ hHeld ?_
  · (intro wq hSw; go_simp <;> with_reducible rfl)
  try simp only [Act.put, List.setIfInBounds_toArray, List.set_cons_zero, List.set_cons_succ]
  refine take_run (i := 6) (oi := { dst := some 46, op := Go.Op.build 57 #[(3, Go.Operand.tmp 45)], type := 57, pos := "law.go:353", after := #[{ on := 5, ground := Go.Ground.data }], guard := none }) (v := .agg #[.int .i64 0, .bool false, .int .i64 0, .int .i64 0, .slice none 0 0, .slice da l.length dc]) rfl (by kernel_rfl) (by kernel_rfl) (by kernel_rfl) (fun _ _ _ h => HP.out _ _ _ _ _ h) (by rfl) ?_ hHeld ?_
  · (intro wq hSw; go_simp <;> with_reducible rfl)
  try simp only [Act.put, List.setIfInBounds_toArray, List.set_cons_zero, List.set_cons_succ]
  refine take_call (i := 7) (oi := { dst := some 47, op := Go.Op.call { callee := Go.Callee.value (Go.Operand.func 14), args := #[Go.Operand.tmp 40, Go.Operand.tmp 41, Go.Operand.tmp 44, Go.Operand.tmp 46], argTypes := #[23, 47, 54, 57] }, type := 61, pos := "law.go:353", after := #[{ on := 0, ground := Go.Ground.data }, { on := 1, ground := Go.Ground.data }, { on := 4, ground := Go.Ground.data }, { on := 6, ground := Go.Ground.data }], guard := none }) rfl (by kernel_rfl) (by rfl) 14 _ (by go_simp <;> with_reducible rfl) ?_
  refine (HT.out _ bD).mono ?_
  rintro e w9 ⟨rfl, m9, o9'⟩
  have o9 : OnlyR w w9 G := hHeld.trans o9'
  refine ⟨_, rfl, o9, ?_⟩
  try simp only [Act.put, List.setIfInBounds_toArray, List.set_cons_zero, List.set_cons_succ]
  refine wpAnyH_done (by kernel_rfl) ?_ _
  exact HQ.out _ _ _ _ _ _ _ _ _ m9 o9
end Go.Proofs.Ytcmhkeaimgppgaa
