/- A result read: the program. Written by gen_xgr.py. -/
import Derived.Test.YtogbcciocgpknaaXGa
import Derived.Test.YtogbcciocgpknaaTaK
import Derived.Test.YtogbcciocgpknaaTaM
import Derived.Test.YtogbcciocgpknaaTaL
import Derived.Great.BuildSlice
import Derived.WalkSmall
import Derived.Test.YtogbcciocgpknaaTaX
import Derived.Test.YtogbcciocgpknaaXUa
import Derived.Test.YtogbcciocgpknaaXKnown
import Derived.Test.YtogbcciocgpknaaTaT
namespace Go.Proofs.Ytogbcciocgpknaa
open Go.RowKit Cod
attribute [local go_sem] Oper.semAt_some
set_option linter.unusedVariables false
set_option maxRecDepth 100000 in
set_option maxHeartbeats 4000000 in
theorem tGet_any {v : Value} {l : List (BitVec 8)} {w : World} (h : Got w v l) (hm : l.length ≤ 140737488355328) : Calls Try.prog 13 #[v] w fun e w' => Gotten w w' l e := by
  obtain ⟨a, cap, rfl, h, hnil⟩ := h
  have Q0 := heap_alloc_new w (.cells #[.int .i64 0, .bool false, .int .i64 0, .int .i64 0, .slice none 0 0, .slice none 0 0] 43)
  by_cases h1 : 1048576 < l.length
  · have e1 : grW l = 3 := by unfold grW; rw [if_pos h1]
    have HE : Hid (grW l = 3) := e1
    have q0 : (1048576 : Int) < (l.length : Int) := by omega
    have q1 : decide ((1048576 : Int) < (l.length : Int)) = true := decide_eq_true q0
    have Q1 : Hid _ := Q0
    clear h hnil hm h1 Q0 e1
    generalize l.length = n at *
    go_enter Try.func13, Try.ntmps13
    go_wp2_with (first
      | (refine wpList_buildTo rfl 43 _ rfl (some 10) rfl #[.int .i64 0, .bool false, .int .i64 0, .int .i64 0, .slice none 0 0, .slice none 0 0] (by kernel_rfl) ?_)
      | (refine wpList_store_row rfl 43 (.tmp 2) (.tmp 10) rfl w.heap.size #[.int .i64 0, .bool false, .int .i64 0, .int .i64 0, .slice none 0 0, .slice none 0 0] rfl rfl 43 _ Q1.out (by kernel_rfl) rfl (by simp [Value.oneCell']) ?_))
    exact bodyPost_ret (results_ct (p := 2) (u := 3) rfl _ _ w.heap.size 43 _ _ _ rfl (setRow_selfX Q1.out) Try.underlying43 rfl (by kernel_rfl)) rfl (gottenZ 3 (by rw [HE.out]; decide) (by rw [HE.out]; rfl) (below_rowX ((Below.refl _ w).alloc (Nat.le_refl _) _) (Nat.le_refl _) _))
  have e1 : grW l = gcE l := by unfold grW; rw [if_neg h1]
  have HE1 : Hid (grW l = gcE l) := e1
  have bA : Below w.heap.size w (w.alloc (.cells #[.int .i64 0, .bool false, .int .i64 0, .int .i64 0, .slice none 0 0, .slice none 0 0] 43)) := (Below.refl _ w).alloc (Nat.le_refl _) _
  have qA := BlX.new w #[.int .i64 0, .bool false, .int .i64 0, .int .i64 0, .slice none 0 0, .slice none 0 0] 43
  have HN := newReader_any a l.length cap l (w.alloc (.cells #[.int .i64 0, .bool false, .int .i64 0, .int .i64 0, .slice none 0 0, .slice none 0 0] 43)) (h.below bA) hnil hm
  obtain ⟨wA, eA⟩ : ∃ x, w.alloc (.cells #[.int .i64 0, .bool false, .int .i64 0, .int .i64 0, .slice none 0 0, .slice none 0 0] 43) = x := ⟨_, rfl⟩
  obtain ⟨Q, eQ⟩ : ∃ x, w.heap.size = x := ⟨_, rfl⟩
  rw [eA] at HN bA qA
  rw [eQ] at qA
  have EA : Hid _ := eA
  have EQ : Hid (w.heap.size = Q) := eQ
  have HA : Hid (Below w.heap.size w wA ∧ BlX wA Q #[.int .i64 0, .bool false, .int .i64 0, .int .i64 0, .slice none 0 0, .slice none 0 0] 43) := ⟨bA, qA⟩
  have q0 : ¬ (1048576 : Int) < (l.length : Int) := by omega
  have q1 : decide ((1048576 : Int) < (l.length : Int)) = false := decide_eq_false q0
  clear h hnil hm h1 bA qA eA eQ e1 Q0
  obtain ⟨n, en⟩ : ∃ n, l.length = n := ⟨_, rfl⟩
  rw [en] at HN q0 q1
  rw [en]
  clear en
  go_enter Try.func13, Try.ntmps13
  go_wp2_with fail
  rw [EA.out, EQ.out]
  refine HN.mono ?_
  clear HN
  rintro e w1 ⟨R, rfl, hR, r1, b1⟩
  have hz : Q < wA.heap.size := HA.out.2.lt
  have hz1 : wA.heap.size ≤ w1.heap.size := b1.size
  have hz2 : R < w1.heap.size := r1.lt
  have P0 : Hid (GSx w (w1.alloc (.cells #[.int .i64 0, .bool false, .int .i64 0, .int .i64 0, .slice none 0 0, .slice none 0 0] 43)) 43 Q R w1.heap.size l #[.int .i64 0, .bool false, .int .i64 0, .int .i64 0, .slice none 0 0, .slice none 0 0] (pX0 l)) :=
    ⟨(HA.out.2.below b1).alloc _, BlX.new w1 _ _, r1.below ((Below.refl _ w1).alloc (Nat.le_refl _) _), (HA.out.1.trans (b1.mono HA.out.1.size)).alloc (Nat.le_trans HA.out.1.size b1.size) _, Nat.le_of_eq EQ.out, Nat.le_trans HA.out.1.size b1.size, Nat.le_trans HA.out.1.size hR, by omega, by omega, hz2⟩
  obtain ⟨w2, e2⟩ : ∃ x, w1.alloc (.cells #[.int .i64 0, .bool false, .int .i64 0, .int .i64 0, .slice none 0 0, .slice none 0 0] 43) = x := ⟨_, rfl⟩
  obtain ⟨S, eS⟩ : ∃ x, w1.heap.size = x := ⟨_, rfl⟩
  have E2 : Hid _ := e2
  have ES : Hid (w1.heap.size = S) := eS
  rw [e2, eS] at P0
  clear e2 eS r1 b1 hR HA hz hz1 hz2
  have HX := rInt_any R l (pX0 l).1 (pX0 l).2 _ P0.out.r
  rw [pcI0_is, pX1_a, pX1_b] at HX
  go_wp2_with fail
  rw [E2.out, ES.out]
  clear E2 ES
  refine HX.mono ?_
  clear HX
  rintro e x0 ⟨rfl, r0, g0⟩
  have J0 : Hid (GSx w x0 43 Q R S l #[.int .i64 0, .bool false, .int .i64 0, .int .i64 0, .slice none 0 0, .slice none 0 0] (pX1 l)) := P0.out.read g0 r0
  have c0 : x0.cell? ⟨S, 0, none⟩ = some (.int .i64 0) := J0.out.s.cell 0
  have f0 := J0.out.s.fz 0
  clear r0 g0 P0
  have P1 : Hid (GSx w (x0.setCell ⟨S, 0, none⟩ (.int .i64 (pcI0 l))) 43 Q R S l #[.int .i64 (pcI0 l), .bool false, .int .i64 0, .int .i64 0, .slice none 0 0, .slice none 0 0] (pX1 l)) := J0.out.put 0 _
  clear J0
  have HX := rBool_any R l (pX1 l).1 (pX1 l).2 _ P1.out.r
  rw [gcL_is, gX2_a, gX2_b] at HX
  go_wp2_with fail
  refine HX.mono ?_
  clear HX c0 f0
  rintro e x1 ⟨rfl, r1, g1⟩
  have J1 : Hid (GSx w x1 43 Q R S l #[.int .i64 (pcI0 l), .bool false, .int .i64 0, .int .i64 0, .slice none 0 0, .slice none 0 0] (gX2 l)) := P1.out.read g1 r1
  have c1 : x1.cell? ⟨S, 1, none⟩ = some (.bool false) := J1.out.s.cell 1
  have f1 := J1.out.s.fz 1
  clear r1 g1 P1
  have P2 : Hid (GSx w (x1.setCell ⟨S, 1, none⟩ (.bool (gcL l))) 43 Q R S l #[.int .i64 (pcI0 l), .bool (gcL l), .int .i64 0, .int .i64 0, .slice none 0 0, .slice none 0 0] (gX2 l)) := J1.out.put 1 _
  clear J1
  have HX := getReply_own R l (gX2 l).1 (gX2 l).2 _ P2.out.r
  rw [gcY_is, gcM_is, gcR_is, gX3_a, gX3_b] at HX
  go_wp2_with fail
  refine HX.mono ?_
  clear HX c1 f1
  rintro e x2 ⟨qa, qn, qc, rfl, hq6, hqn, oR, r2, g2⟩
  subst hqn
  have QL : Hid ((gcR l).length ≤ 600) := hq6
  have sz1 : S < (x1.setCell ⟨S, 1, none⟩ (.bool (gcL l))).heap.size := P2.out.s.lt
  obtain ⟨BR, eBR⟩ : ∃ BR, (x1.setCell ⟨S, 1, none⟩ (.bool (gcL l))).heap.size = BR := ⟨_, rfl⟩
  rw [eBR] at oR sz1
  have SB : Hid (S < BR) := sz1
  have OR0 : Hid (x2.ownsRow BR 62 2 (.slice qa (gcR l).length qc) (gcR l).length (rowCells (gcR l))) := oR
  clear oR hq6 eBR sz1
  have J2 : Hid (GSx w x2 43 Q R S l #[.int .i64 (pcI0 l), .bool (gcL l), .int .i64 0, .int .i64 0, .slice none 0 0, .slice none 0 0] (gX3 l)) := P2.out.read g2 r2
  have TT : Hid (x2.there S 2 3) := J2.out.s.there (by simp)
  have OR1' : Hid ((x2.setCells S 2 [.int .i64 (gcY l), .int .i64 (gcM l), .slice qa (gcR l).length qc]).ownsRow BR 62 2 (.slice qa (gcR l).length qc) (gcR l).length (rowCells (gcR l))) := owns_set (owns_set (owns_set OR0.out ⟨S, 2, none⟩ _ SB.out) ⟨S, 3, none⟩ _ SB.out) ⟨S, 4, none⟩ _ SB.out
  have P3' : Hid (GSx w (x2.setCells S 2 [.int .i64 (gcY l), .int .i64 (gcM l), .slice qa (gcR l).length qc]) 43 Q R S l #[.int .i64 (pcI0 l), .bool (gcL l), .int .i64 (gcY l), .int .i64 (gcM l), .slice qa (gcR l).length qc, .slice none 0 0] (gX3 l)) := J2.out.puts [.int .i64 (gcY l), .int .i64 (gcM l), .slice qa (gcR l).length qc] 2
  obtain ⟨wX, eX⟩ : ∃ wX, x2.setCells S 2 (#[.int .i64 (gcY l), .int .i64 (gcM l), .slice qa (gcR l).length qc] : Array Value).toList = wX := ⟨_, rfl⟩
  have P3 : Hid (GSx w wX 43 Q R S l #[.int .i64 (pcI0 l), .bool (gcL l), .int .i64 (gcY l), .int .i64 (gcM l), .slice qa (gcR l).length qc, .slice none 0 0] (gX3 l)) := by rw [← eX]; exact P3'.out
  have OR1 : Hid (wX.ownsRow BR 62 2 (.slice qa (gcR l).length qc) (gcR l).length (rowCells (gcR l))) := by rw [← eX]; exact OR1'.out
  have EX : Hid (x2.setCells S 2 (#[.int .i64 (gcY l), .int .i64 (gcM l), .slice qa (gcR l).length qc] : Array Value).toList = wX) := eX
  clear r2 g2 P2 P3' eX J2 OR0 OR1'
  have HX := rBytes_any R l (gX3 l).1 (gX3 l).2 _ P3.out.r
  rw [gcD_is, gX4_a, gX4_b] at HX
  go_wp2_with (first
    | (refine wpList_store_mid rfl 32 (.tmp 21) (.tmp 20) rfl S 2 #[.int .i64 (gcY l), .int .i64 (gcM l), .slice qa (gcR l).length qc] rfl rfl TT.out (by kernel_rfl) (by simp [Value.oneCell']) ?_; rw [EX.out]))
  refine HX.mono ?_
  clear HX
  rintro e x3 ⟨dv, rfl, od, ld, r3, g3⟩
  have FD : Hid (Far x3 wX.heap.size dv (gcD l) ∧ (gcD l).length ≤ 65536) := ⟨far_owned od (by unfold maxLen; omega), ld⟩
  have fd := FD.out.1
  obtain ⟨da, dc, rfl, _⟩ := fd
  have sz0 : S < wX.heap.size := P3.out.s.lt
  have SD : Hid (S < wX.heap.size) := sz0
  clear od ld sz0
  have J3 : Hid (GSx w x3 43 Q R S l #[.int .i64 (pcI0 l), .bool (gcL l), .int .i64 (gcY l), .int .i64 (gcM l), .slice qa (gcR l).length qc, .slice none 0 0] (gX4 l)) := P3.out.read g3 r3
  have OR2 : Hid (x3.ownsRow BR 62 2 (.slice qa (gcR l).length qc) (gcR l).length (rowCells (gcR l))) := owns_far OR1.out g3 (by have := SB.out; have := P3.out.rs; omega)
  have c3 : x3.cell? ⟨S, 5, none⟩ = some (.slice none 0 0) := J3.out.s.cell 5
  have f3 := J3.out.s.fz 5
  clear r3 g3 P3
  have P4 : Hid (GSx w (x3.setCell ⟨S, 5, none⟩ (.slice da (gcD l).length dc)) 43 Q R S l #[.int .i64 (pcI0 l), .bool (gcL l), .int .i64 (gcY l), .int .i64 (gcM l), .slice qa (gcR l).length qc, .slice da (gcD l).length dc] (gX4 l)) := J3.out.put 5 _
  clear J3
  have FE : Hid (Far (x3.setCell ⟨S, 5, none⟩ (.slice da (gcD l).length dc)) wX.heap.size (.slice da (gcD l).length dc) (gcD l)) := FD.out.1.since (fun q hq => Below.heap_setCell _ _ _ _ (by have := SD.out; show q ≠ S; omega))
  have FRw : Hid (FarR (x3.setCell ⟨S, 5, none⟩ (.slice da (gcD l).length dc)) BR qa (gcR l)) := farR_owned (owns_set OR2.out ⟨S, 5, none⟩ _ SB.out) rfl (by have := QL.out; omega)
  clear OR1 OR2
  have HX := rEnd_any R l (gX4 l).1 (gX4 l).2 _ P4.out.r
  rw [gcE_is] at HX
  go_wp2_with fail
  refine HX.mono ?_
  clear HX c3 f3
  rintro e y1 ⟨rfl, nq, rfl⟩
  have H7 : Hid (GSx w ((x3.setCell ⟨S, 5, none⟩ (.slice da (gcD l).length dc)).drewN nq) 43 Q R S l #[.int .i64 (pcI0 l), .bool (gcL l), .int .i64 (gcY l), .int .i64 (gcM l), .slice qa (gcR l).length qc, .slice da (gcD l).length dc] (gX4 l)) := P4.out.drewN nq
  have F7 : Hid (Far ((x3.setCell ⟨S, 5, none⟩ (.slice da (gcD l).length dc)).drewN nq) wX.heap.size (.slice da (gcD l).length dc) (gcD l)) := FE.out.since (fun _ _ => rfl)
  have F8 : Hid (FarR ((x3.setCell ⟨S, 5, none⟩ (.slice da (gcD l).length dc)).drewN nq) BR qa (gcR l)) := FRw.out.since (fun _ _ => rfl)
  obtain ⟨bs, ebs⟩ : ∃ b, wX.heap.size = b := ⟨_, rfl⟩
  rw [ebs] at F7 SD
  clear P4 FE FRw ebs
  generalize (x3.setCell ⟨S, 5, none⟩ (.slice da (gcD l).length dc)).drewN nq = y2 at *
  by_cases he : gcE l = 0
  · have HE : Hid (gcE l = 0) := he
    have RG : Hid (y2.rangeAt S 0 [.int .i64 (pcI0 l), .bool (gcL l), .int .i64 (gcY l), .int .i64 (gcM l), .slice qa (gcR l).length qc, .slice da (gcD l).length dc]) := H7.out.s.range
    have QQ : Hid _ := H7.out.q
    rw [he]
    rw [show ((0 : Nat) : Int) = 0 from rfl]
    clear he
    go_wp2_with (first
      | (refine wpList_load_mid rfl 43 (.tmp 5) rfl S 0 rfl [.int .i64 (pcI0 l), .bool (gcL l), .int .i64 (gcY l), .int .i64 (gcM l), .slice qa (gcR l).length qc, .slice da (gcD l).length dc] _ RG.out Try.underlying43 rfl (by kernel_rfl) ?_)
      | (refine wpList_store_row rfl 43 (.tmp 2) (.tmp 31) rfl Q #[.int .i64 (pcI0 l), .bool (gcL l), .int .i64 (gcY l), .int .i64 (gcM l), .slice qa (gcR l).length qc, .slice da (gcD l).length dc] rfl rfl 43 _ QQ.out (by kernel_rfl) (by simp) (by simp [Value.oneCell']) ?_))
    have FR : Far (y2.setRow Q #[.int .i64 (pcI0 l), .bool (gcL l), .int .i64 (gcY l), .int .i64 (gcM l), .slice qa (gcR l).length qc, .slice da (gcD l).length dc]) bs (.slice da (gcD l).length dc) (gcD l) := F7.out.since (fun k hk => setRow_other _ _ _ _ (by have := SD.out; have := H7.out.qs; omega))
    have FQR : FarR (y2.setRow Q #[.int .i64 (pcI0 l), .bool (gcL l), .int .i64 (gcY l), .int .i64 (gcM l), .slice qa (gcR l).length qc, .slice da (gcD l).length dc]) BR qa (gcR l) := F8.out.since (fun k hk => setRow_other _ _ _ _ (by have := SB.out; have := H7.out.qs; omega))
    have FQ : Hid (Gotten w (y2.setRow Q #[.int .i64 (pcI0 l), .bool (gcL l), .int .i64 (gcY l), .int .i64 (gcM l), .slice qa (gcR l).length qc, .slice da (gcD l).length dc]) l (.returned (.tuple #[.agg #[.int .i64 (pcI0 l), .bool (gcL l), .int .i64 (gcY l), .int .i64 (gcM l), .slice qa (gcR l).length qc, .slice da (gcD l).length dc], .int .i64 0]))) := gottenY (HE1.out.trans HE.out) (FQR.mono (by have := SB.out; have := H7.out.hs; omega)) QL.out (FR.mono (by have := SD.out; have := H7.out.hs; omega)) FD.out.2 (below_rowX H7.out.b H7.out.hq _)
    clear FR FQR
    exact bodyPost_ret (results_ct (p := 2) (u := 3) rfl _ _ Q 43 _ _ _ rfl (setRow_selfX QQ.out) Try.underlying43 rfl (by kernel_rfl)) rfl FQ.out
  · have HE : Hid (gcE l ≠ 0) := he
    have he1 : ¬ ((gcE l : Int) = 0) := by omega
    have he2 : ((gcE l : Int) != 0) = true := by simpa using he
    have QQ : Hid _ := H7.out.q
    clear he
    go_wp2_with (first
      | (refine wpList_buildTo rfl 43 _ rfl (some 29) rfl #[.int .i64 0, .bool false, .int .i64 0, .int .i64 0, .slice none 0 0, .slice none 0 0] (by kernel_rfl) ?_)
      | (refine wpList_store_row rfl 43 (.tmp 2) (.tmp 29) rfl Q #[.int .i64 0, .bool false, .int .i64 0, .int .i64 0, .slice none 0 0, .slice none 0 0] rfl rfl 43 _ QQ.out (by kernel_rfl) rfl (by simp [Value.oneCell']) ?_))
    exact bodyPost_ret (results_ct (p := 2) (u := 3) rfl _ _ Q 43 _ _ _ rfl (setRow_selfX QQ.out) Try.underlying43 rfl (by kernel_rfl)) rfl (gottenZ (gcE l : Nat) (by rw [HE1.out]; exact HE.out) (by rw [HE1.out]) (below_rowX H7.out.b H7.out.hq _))
end Go.Proofs.Ytogbcciocgpknaa

namespace Go.Proofs.Ytogbcciocgpknaa
open Go.RowKit Go.Shelf
attribute [local go_sem] Oper.semAt_some
set_option linter.unusedVariables false

set_option maxRecDepth 100000 in
set_option maxHeartbeats 8000000 in
theorem tb_if2 (X : World) (T : Nat) (pv : Value) (y : Int) (wt : Bool) (r1 r2 : Int) (qb : Option Addr) (qd : Nat) (rows : List (ByteArray × Int)) (eb : Option Addr) (ed : Nat) (el : List (BitVec 8)) (lg : Bool) (s0 s1 s2 s3 s5 s6 s7 s8 s9 s10 s13 s14 s15 s16 s17 s18 s19 s20 s21 s22 s23 s24 s25 s27 s28 s29 s30 s31 s32 s33 s34 s35 s36 s37 s38 s39 s40 s41 s42 s43 s44 s45 s46 s47 s48 s49 s50 s51 s52 s53 s54 s55 s56 s57 s58 s59 s60 s61 s62 s63 s64 s65 s66 s67 s68 s69 s70 s71 s72 s73 s74 s75 s76 s77 s78 s79 s80 s81 s82 s83 s84 s85 s86 s87 s88 s89 s90 s91 s92 s93 s94 s95 s96 s97 s98 s99 s100 s101 s102 s103 s104 s105 s106 s107 s108 s109 s110 s111 s112 s113 s114 s115 s116 s117 s118 s119 s120 s121 s122 s123 s124 s125 s126 s127 s128 s129 s130 s131 s132 s133 s134 s135 s136 s137 s138 s139 s140 s141 s142 s143 s144 s145 s146 s147 s148 s149 s150 s151 s152 s153 s154 s155 s156 s157 s158 s159 s160 s161 s162 s163 s164 s165 s166 s167 s168 s169 s170 s171 s172 s173 s174 s175 s176 s177 s178 s179 s180 s181 s182 s183 s184 s185 s186 s187 s188 s189 s190 s191 s192 s193 s194 s195 s196 : Value) (hlg : longN rows = lg)
    (hT : X.heap[T]? = some (.cells #[.int .i64 y, .bool wt, .int .i64 r1, .int .i64 r2, .slice qb rows.length qd, .slice eb el.length ed] 34 (0, 0))) (hr : RowsAt X qb rows.length rows) (hs : Seen X eb el.length el) (hp : Got X pv (resL y wt r1 r2 rows el)) (hl : (resL y wt r1 r2 rows el).length ≤ 140737488355328) (h1 : i64ok y) (h2 : i64ok r1) (h3 : i64ok r2) (hi : ∀ r ∈ rows, i64ok r.2)
    (K : Act → World → Prop) (Q : Exit → Act → World → Prop)
    (hK : ∀ (u28 u29 u176 u177 u178 u179 u180 u181 u182 u183 u184 u185 u186 u187 u188 u189 u190 u191 u192 u193 u194 u195 : Value) (Y : World), Below X.heap.size X Y → K { tmps := #[s0, s1, s2, s3, .pointer (some ⟨T, 0, none⟩), s5, s6, s7, s8, s9, s10, pv, .int .i64 (resW y wt r1 r2 rows el), s13, s14, s15, s16, s17, s18, s19, s20, s21, s22, s23, s24, s25, .bool lg, s27, u28, u29, s30, s31, s32, s33, s34, s35, s36, s37, s38, s39, s40, s41, s42, s43, s44, s45, s46, s47, s48, s49, s50, s51, s52, s53, s54, s55, s56, s57, s58, s59, s60, s61, s62, s63, s64, s65, s66, s67, s68, s69, s70, s71, s72, s73, s74, s75, s76, s77, s78, s79, s80, s81, s82, s83, s84, s85, s86, s87, s88, s89, s90, s91, s92, s93, s94, s95, s96, s97, s98, s99, s100, s101, s102, s103, s104, s105, s106, s107, s108, s109, s110, s111, s112, s113, s114, s115, s116, s117, s118, s119, s120, s121, s122, s123, s124, s125, s126, s127, s128, s129, s130, s131, s132, s133, s134, s135, s136, s137, s138, s139, s140, s141, s142, s143, s144, s145, s146, s147, s148, s149, s150, s151, s152, s153, s154, s155, s156, s157, s158, s159, s160, s161, s162, s163, s164, s165, s166, s167, s168, s169, s170, s171, s172, s173, s174, s175, u176, u177, u178, u179, u180, u181, u182, u183, u184, u185, u186, u187, u188, u189, u190, u191, u192, u193, u194, u195, s196], defers := [] } Y) :
    ((Go.Code.region 24 #[{ dst := some 176, op := Go.Op.move (Go.Operand.tmp 12), type := 24, pos := "law.go:116", after := #[], guard := none }, { dst := some 177, op := Go.Op.binOp Go.BinOp.eql 24 (Go.Operand.tmp 176) (Go.Operand.const (Go.Value.int Go.IntKind.i64 0)) 24, type := 4, pos := "law.go:116", after := #[{ on := 0, ground := Go.Ground.data }], guard := none }, { dst := some 178, op := Go.Op.move (Go.Operand.tmp 177), type := 4, pos := "law.go:116", after := #[{ on := 1, ground := Go.Ground.data }], guard := none }, { dst := some 179, op := Go.Op.move (Go.Operand.tmp 26), type := 4, pos := "law.go:116", after := #[{ on := 2, ground := Go.Ground.guard }], guard := some (2, true) }, { dst := some 180, op := Go.Op.unOp Go.UnOp.not 4 (Go.Operand.tmp 179), type := 4, pos := "law.go:116", after := #[{ on := 3, ground := Go.Ground.data }, { on := 2, ground := Go.Ground.guard }], guard := some (2, true) }, { dst := some 181, op := Go.Op.pick (Go.Operand.tmp 178) (Go.Operand.tmp 180) (Go.Operand.const (Go.Value.bool false)), type := 4, pos := "law.go:116", after := #[{ on := 2, ground := Go.Ground.data }, { on := 4, ground := Go.Ground.data }], guard := none }] false).seq (Go.Code.cond (Go.Operand.tmp 181) ((Go.Code.region 25 #[{ dst := some 183, op := Go.Op.move (Go.Operand.tmp 11), type := 25, pos := "law.go:117", after := #[], guard := none }, { dst := some 184, op := Go.Op.call { callee := Go.Callee.value (Go.Operand.func 13), args := #[Go.Operand.tmp 183], argTypes := #[25] }, type := 51, pos := "law.go:117", after := #[{ on := 0, ground := Go.Ground.data }], guard := none }, { dst := some 182, op := Go.Op.move (Go.Operand.tmp 184), type := 51, pos := "law.go:117", after := #[{ on := 1, ground := Go.Ground.data }], guard := none }, { dst := some 185, op := Go.Op.extract (Go.Operand.tmp 182) 0, type := 43, pos := "law.go:117", after := #[{ on := 2, ground := Go.Ground.data }], guard := none }, { dst := some 186, op := Go.Op.extract (Go.Operand.tmp 182) 1, type := 24, pos := "law.go:117", after := #[{ on := 2, ground := Go.Ground.data }, { on := 6, ground := Go.Ground.gcOnly Go.Departure.lateStores }], guard := none }, { dst := some 28, op := Go.Op.alloc 43, type := 0, pos := "law.go:117", after := #[], guard := none }, { dst := none, op := Go.Op.store 43 (Go.Operand.tmp 28) (Go.Operand.tmp 185), type := 0, pos := "law.go:117", after := #[{ on := 5, ground := Go.Ground.data }, { on := 3, ground := Go.Ground.data }, { on := 1, ground := Go.Ground.chain }, { on := 0, ground := Go.Ground.phase }, { on := 1, ground := Go.Ground.phase }, { on := 2, ground := Go.Ground.phase }, { on := 3, ground := Go.Ground.phase }, { on := 4, ground := Go.Ground.textOnly Go.Departure.lateStores }, { on := 5, ground := Go.Ground.phase }], guard := none }, { dst := some 29, op := Go.Op.assign (Go.Operand.tmp 186), type := 24, pos := "law.go:117", after := #[{ on := 4, ground := Go.Ground.data }, { on := 6, ground := Go.Ground.chain }, { on := 0, ground := Go.Ground.phase }, { on := 1, ground := Go.Ground.phase }, { on := 2, ground := Go.Ground.phase }, { on := 3, ground := Go.Ground.phase }, { on := 4, ground := Go.Ground.phase }, { on := 5, ground := Go.Ground.phase }, { on := 6, ground := Go.Ground.phase }], guard := none }] false).seq ((Go.Code.region 26 #[{ dst := some 187, op := Go.Op.move (Go.Operand.tmp 29), type := 24, pos := "law.go:118", after := #[], guard := none }, { dst := some 188, op := Go.Op.binOp Go.BinOp.neq 24 (Go.Operand.tmp 187) (Go.Operand.const (Go.Value.int Go.IntKind.i64 0)) 24, type := 4, pos := "law.go:118", after := #[{ on := 0, ground := Go.Ground.data }], guard := none }, { dst := some 189, op := Go.Op.move (Go.Operand.tmp 188), type := 4, pos := "law.go:118", after := #[{ on := 1, ground := Go.Ground.data }], guard := none }, { dst := some 190, op := Go.Op.load 43 (Go.Operand.tmp 28), type := 43, pos := "law.go:118", after := #[{ on := 2, ground := Go.Ground.guard }], guard := some (2, false) }, { dst := some 191, op := Go.Op.call { callee := Go.Callee.value (Go.Operand.func 18), args := #[Go.Operand.tmp 190], argTypes := #[43] }, type := 34, pos := "law.go:118", after := #[{ on := 3, ground := Go.Ground.data }, { on := 2, ground := Go.Ground.chain }, { on := 2, ground := Go.Ground.guard }], guard := some (2, false) }, { dst := some 192, op := Go.Op.load 34 (Go.Operand.tmp 4), type := 34, pos := "law.go:118", after := #[{ on := 2, ground := Go.Ground.guard }], guard := some (2, false) }, { dst := some 193, op := Go.Op.call { callee := Go.Callee.value (Go.Operand.func 17), args := #[Go.Operand.tmp 191, Go.Operand.tmp 192], argTypes := #[34, 34] }, type := 4, pos := "law.go:118", after := #[{ on := 4, ground := Go.Ground.data }, { on := 5, ground := Go.Ground.data }, { on := 4, ground := Go.Ground.chain }, { on := 2, ground := Go.Ground.guard }], guard := some (2, false) }, { dst := some 194, op := Go.Op.unOp Go.UnOp.not 4 (Go.Operand.tmp 193), type := 4, pos := "law.go:118", after := #[{ on := 6, ground := Go.Ground.data }, { on := 2, ground := Go.Ground.guard }], guard := some (2, false) }, { dst := some 195, op := Go.Op.pick (Go.Operand.tmp 189) (Go.Operand.const (Go.Value.bool true)) (Go.Operand.tmp 194), type := 4, pos := "law.go:118", after := #[{ on := 2, ground := Go.Ground.data }, { on := 7, ground := Go.Ground.data }], guard := none }] true).seq (Go.Code.cond (Go.Operand.tmp 195) ((Go.Code.region 27 #[{ dst := some 6, op := Go.Op.assign (Go.Operand.const (Go.Value.bool false)), type := 4, pos := "law.go:119", after := #[], guard := none }] false).seq Go.Code.ret) Go.Code.skip))) Go.Code.skip)).wp Try.prog (Exit.then K Q) { tmps := #[s0, s1, s2, s3, .pointer (some ⟨T, 0, none⟩), s5, s6, s7, s8, s9, s10, pv, .int .i64 (resW y wt r1 r2 rows el), s13, s14, s15, s16, s17, s18, s19, s20, s21, s22, s23, s24, s25, .bool lg, s27, s28, s29, s30, s31, s32, s33, s34, s35, s36, s37, s38, s39, s40, s41, s42, s43, s44, s45, s46, s47, s48, s49, s50, s51, s52, s53, s54, s55, s56, s57, s58, s59, s60, s61, s62, s63, s64, s65, s66, s67, s68, s69, s70, s71, s72, s73, s74, s75, s76, s77, s78, s79, s80, s81, s82, s83, s84, s85, s86, s87, s88, s89, s90, s91, s92, s93, s94, s95, s96, s97, s98, s99, s100, s101, s102, s103, s104, s105, s106, s107, s108, s109, s110, s111, s112, s113, s114, s115, s116, s117, s118, s119, s120, s121, s122, s123, s124, s125, s126, s127, s128, s129, s130, s131, s132, s133, s134, s135, s136, s137, s138, s139, s140, s141, s142, s143, s144, s145, s146, s147, s148, s149, s150, s151, s152, s153, s154, s155, s156, s157, s158, s159, s160, s161, s162, s163, s164, s165, s166, s167, s168, s169, s170, s171, s172, s173, s174, s175, s176, s177, s178, s179, s180, s181, s182, s183, s184, s185, s186, s187, s188, s189, s190, s191, s192, s193, s194, s195, s196], defers := [] } X := by
  have HK : Hid _ := hK
  have HT : Hid (X.heap[T]? = some (.cells #[.int .i64 y, .bool wt, .int .i64 r1, .int .i64 r2, .slice qb rows.length qd, .slice eb el.length ed] 34 (0, 0))) := hT
  have HS : Hid (Seen X eb el.length el ∧ RowsAt X qb rows.length rows) := ⟨hs, hr⟩
  have HP : Hid (Got X pv (resL y wt r1 r2 rows el) ∧ (resL y wt r1 r2 rows el).length ≤ 140737488355328) := ⟨hp, hl⟩
  have HI : Hid (i64ok y ∧ i64ok r1 ∧ i64ok r2 ∧ (∀ r ∈ rows, i64ok r.2)) := ⟨h1, h2, h3, hi⟩
  clear hK hT hs hr hp hl h1 h2 h3 hi
  by_cases h0 : resW y wt r1 r2 rows el = 0
  · have hb : (resW y wt r1 r2 rows el == 0) = true := by rw [h0]; rfl
    have H0 : Hid (resW y wt r1 r2 rows el = 0) := h0
    clear h0
    cases lg with
    | true =>
      clear H0
      generalize resW y wt r1 r2 rows el = aw at *
      refine wp_seq (tb24_b X aw _ _ _ _ _ _ _ _ _ _ _ _ _ _ _ _ _ _ _ _ _ _ _ _ _ _ _ _ _ _ _ _ _ _ _ _ _ _ _ _ _ _ _ _ _ _ _ _ _ _ _ _ _ _ _ _ _ _ _ _ _ _ _ _ _ _ _ _ _ _ _ _ _ _ _ _ _ _ _ _ _ _ _ _ _ _ _ _ _ _ _ _ _ _ _ _ _ _ _ _ _ _ _ _ _ _ _ _ _ _ _ _ _ _ _ _ _ _ _ _ _ _ _ _ _ _ _ _ _ _ _ _ _ _ _ _ _ _ _ _ _ _ _ _ _ _ _ _ _ _ _ _ _ _ _ _ _ _ _ _ _ _ _ _ _ _ _ _ _ _ _ _ _ _ _ _ _ _ _ _ _ _ _ _ _ _ _ _ _ _ _ _ _ _ _ hb _ ?_)
      intro u176 u177 u178 u179 u180
      clear hb
      go_wp2_with fail
      exact HK.out _ _ _ _ _ _ _ _ _ _ _ _ _ _ _ _ _ _ _ _ _ _ _ (Below.refl _ X)
    | false =>
      obtain ⟨b0, b1, b2, b3, b4, b5, b6⟩ := res_back HI.out.1 HI.out.2.1 HI.out.2.2.1 HI.out.2.2.2 (longN_no hlg) H0.out
      have BK : Hid _ := And.intro b0 (And.intro b1 (And.intro b2 (And.intro b3 (And.intro b4 (And.intro b5 b6)))))
      clear b0 b1 b2 b3 b4 b5 b6 H0 hlg
      generalize resW y wt r1 r2 rows el = aw at *
      refine wp_seq (tb24_c X aw _ _ _ _ _ _ _ _ _ _ _ _ _ _ _ _ _ _ _ _ _ _ _ _ _ _ _ _ _ _ _ _ _ _ _ _ _ _ _ _ _ _ _ _ _ _ _ _ _ _ _ _ _ _ _ _ _ _ _ _ _ _ _ _ _ _ _ _ _ _ _ _ _ _ _ _ _ _ _ _ _ _ _ _ _ _ _ _ _ _ _ _ _ _ _ _ _ _ _ _ _ _ _ _ _ _ _ _ _ _ _ _ _ _ _ _ _ _ _ _ _ _ _ _ _ _ _ _ _ _ _ _ _ _ _ _ _ _ _ _ _ _ _ _ _ _ _ _ _ _ _ _ _ _ _ _ _ _ _ _ _ _ _ _ _ _ _ _ _ _ _ _ _ _ _ _ _ _ _ _ _ _ _ _ _ _ _ _ _ _ _ _ _ _ _ hb _ ?_)
      intro u176 u177 u178 u179 u180
      clear hb
      go_wp2_with fail
      refine (tGet_any HP.out.1 HP.out.2).mono ?_
      rintro e w1 ⟨qa, qc, ea, ec, rfl, fr, _, fd, _, y1⟩
      rw [BK.out.1, BK.out.2.1, BK.out.2.2.1, BK.out.2.2.2.1, BK.out.2.2.2.2.1, BK.out.2.2.2.2.2.1, BK.out.2.2.2.2.2.2]
      rw [BK.out.2.2.2.2.2.1] at fr
      rw [BK.out.2.2.2.2.2.2] at fd
      obtain ⟨_, _, eq, sn, _, _⟩ := fd
      cases eq
      have SN : Hid (Seen w1 ea el.length el ∧ RowsAt w1 qa rows.length rows) := ⟨sn, fr.1⟩
      have Y1 : Hid (Below X.heap.size X w1) := y1
      clear sn y1 fr BK
      have HA0 := heap_alloc_new w1 (.cells #[.int .i64 y, .bool wt, .int .i64 r1, .int .i64 r2, .slice qa rows.length qc, .slice ea el.length ec] 43)
      have yA : Below w1.heap.size w1 (w1.alloc (.cells #[.int .i64 y, .bool wt, .int .i64 r1, .int .i64 r2, .slice qa rows.length qc, .slice ea el.length ec] 43)) := (Below.refl _ w1).alloc (Nat.le_refl _) _
      obtain ⟨w2, e2⟩ : ∃ w2, w1.alloc (.cells #[.int .i64 y, .bool wt, .int .i64 r1, .int .i64 r2, .slice qa rows.length qc, .slice ea el.length ec] 43) = w2 := ⟨_, rfl⟩
      rw [e2] at HA0 yA
      have E2 : Hid _ := e2
      have HA : Hid _ := HA0
      have YA : Hid (Below w1.heap.size w1 w2) := yA
      clear HA0 yA e2
      repeat
        (fail_if_success (guard_target =~ (Code.region 26 _ _).wp _ _ _ _)
         first | go_values | go_skip | go_guarded | go_step | go_upon | go_back | go_simp)
      rw [show _ = w2 from E2.out]
      have Y2 : Below X.heap.size X w2 := Y1.out.trans (YA.out.mono Y1.out.size)
      refine tb_r26 w2 w1.heap.size T y wt r1 r2 qa qc qb qd rows ea ec eb ed el _ _ _ _ _ _ _ _ _ _ _ _ _ _ _ _ _ _ _ _ _ _ _ _ _ _ _ _ _ _ _ _ _ _ _ _ _ _ _ _ _ _ _ _ _ _ _ _ _ _ _ _ _ _ _ _ _ _ _ _ _ _ _ _ _ _ _ _ _ _ _ _ _ _ _ _ _ _ _ _ _ _ _ _ _ _ _ _ _ _ _ _ _ _ _ _ _ _ _ _ _ _ _ _ _ _ _ _ _ _ _ _ _ _ _ _ _ _ _ _ _ _ _ _ _ _ _ _ _ _ _ _ _ _ _ _ _ _ _ _ _ _ _ _ _ _ _ _ _ _ _ _ _ _ _ _ _ _ _ _ _ _ _ _ _ _ _ _ _ _ _ _ _ _ _ _ _ _ _ _ _ _ _ _ _ _ _ _ _ _ _ _ _ _ HA.out ((Y2.block _ (Array.getElem?_eq_some_iff.1 HT.out).1).trans HT.out) (SN.out.2.below YA.out) (HS.out.2.below Y2) (SN.out.1.below YA.out) (HS.out.1.below Y2) _ _ ?_
      intro u187 u188 u189 u190 u191 u192 u193 u194 Y bY
      have YY : Hid (Below X.heap.size X Y) := Y2.trans (bY.mono Y2.size)
      clear bY Y2
      go_wp2_with fail
      exact HK.out _ _ _ _ _ _ _ _ _ _ _ _ _ _ _ _ _ _ _ _ _ _ _ YY.out
  · have hb : (resW y wt r1 r2 rows el == 0) = false := by simpa using h0
    clear h0
    generalize resW y wt r1 r2 rows el = aw at *
    cases lg with
    | true =>
      refine wp_seq (tb24_a2 X aw _ _ _ _ _ _ _ _ _ _ _ _ _ _ _ _ _ _ _ _ _ _ _ _ _ _ _ _ _ _ _ _ _ _ _ _ _ _ _ _ _ _ _ _ _ _ _ _ _ _ _ _ _ _ _ _ _ _ _ _ _ _ _ _ _ _ _ _ _ _ _ _ _ _ _ _ _ _ _ _ _ _ _ _ _ _ _ _ _ _ _ _ _ _ _ _ _ _ _ _ _ _ _ _ _ _ _ _ _ _ _ _ _ _ _ _ _ _ _ _ _ _ _ _ _ _ _ _ _ _ _ _ _ _ _ _ _ _ _ _ _ _ _ _ _ _ _ _ _ _ _ _ _ _ _ _ _ _ _ _ _ _ _ _ _ _ _ _ _ _ _ _ _ _ _ _ _ _ _ _ _ _ _ _ _ _ _ _ _ _ _ _ _ _ _ hb _ ?_)
      intro u176 u177 u178 u179 u180
      clear hb
      go_wp2_with fail
      exact HK.out _ _ _ _ _ _ _ _ _ _ _ _ _ _ _ _ _ _ _ _ _ _ _ (Below.refl _ X)
    | false =>
      refine wp_seq (tb24_a X aw _ _ _ _ _ _ _ _ _ _ _ _ _ _ _ _ _ _ _ _ _ _ _ _ _ _ _ _ _ _ _ _ _ _ _ _ _ _ _ _ _ _ _ _ _ _ _ _ _ _ _ _ _ _ _ _ _ _ _ _ _ _ _ _ _ _ _ _ _ _ _ _ _ _ _ _ _ _ _ _ _ _ _ _ _ _ _ _ _ _ _ _ _ _ _ _ _ _ _ _ _ _ _ _ _ _ _ _ _ _ _ _ _ _ _ _ _ _ _ _ _ _ _ _ _ _ _ _ _ _ _ _ _ _ _ _ _ _ _ _ _ _ _ _ _ _ _ _ _ _ _ _ _ _ _ _ _ _ _ _ _ _ _ _ _ _ _ _ _ _ _ _ _ _ _ _ _ _ _ _ _ _ _ _ _ _ _ _ _ _ _ _ _ _ _ hb _ ?_)
      intro u176 u177 u178 u179 u180
      clear hb
      go_wp2_with fail
      exact HK.out _ _ _ _ _ _ _ _ _ _ _ _ _ _ _ _ _ _ _ _ _ _ _ (Below.refl _ X)
end Go.Proofs.Ytogbcciocgpknaa

namespace Go.Proofs.Ytogbcciocgpknaa
open Go.RowKit Go.Shelf Cod
attribute [local go_sem] Oper.semAt_some
set_option linter.unusedVariables false
set_option maxRecDepth 100000 in
set_option maxHeartbeats 16000000 in
theorem tb_tail (Y5 Y15 : World) (A B og oc : Nat) (bl : List (BitVec 8)) (xv pv : Value) (g : Int) (k ok : Int) (of_ ot : ByteArray) (oa : Int) (oy : ByteArray) (os oh : Int) (id nm : ByteArray) (n why slot ep at_ : Int) (last : Bool) (da : Option Addr) (dc : Nat) (dl : List (BitVec 8)) (C : CmdV) (hC : C = ⟨k, ok, of_, ot, oa, oy, os, oh, id, nm, n, why, slot, ep, at_, last, .slice da dl.length dc⟩) (y : Int) (wt : Bool) (r1 r2 : Int) (qa : Option Addr) (qc : Nat) (rows : List (ByteArray × Int)) (ea : Option Addr) (ec : Nat) (el : List (BitVec 8)) (s0 s1 s2 s5 s6 s9 s10 s13 s14 s16 s17 s18 s19 s20 s21 s22 s23 s24 s25 s26 s27 s28 s29 s30 s31 s32 s33 s34 s35 s36 s37 s38 s39 s40 s41 s42 s43 s44 s45 s46 s47 s48 s49 s50 s51 s52 s53 s54 s55 s56 s57 s58 s59 s60 s61 s62 s63 s64 s65 s66 s67 s68 s69 s70 s71 s72 s73 s74 s75 s76 s77 s78 s79 s80 s81 s82 s83 s84 s85 s86 s87 s88 s89 s90 s91 s92 s93 s94 s95 s96 s97 s98 s99 s100 s101 s102 s103 s104 s105 s106 s107 s108 s109 s110 s111 s112 s113 s114 s115 s116 s117 s118 s119 s120 s121 s122 s123 s124 s125 s126 s127 s128 s129 s130 s131 s132 s133 s134 s135 s136 s137 s138 s139 s140 s141 s142 s143 s144 s145 s146 s147 s148 s149 s150 s151 s152 s153 s154 s155 s156 s157 s158 s159 s160 s161 s162 s163 s164 s165 s166 s167 s168 s169 s170 s171 s172 s173 s174 s175 s176 s177 s178 s179 s180 s181 s182 s183 s184 s185 s186 s187 s188 s189 s190 s191 s192 s193 s194 s195 s196 : Value)
    (hQA : Y5.heap[A]? = some (.cells #[.int .i64 g, .int .i64 k, .int .i64 ok, .string of_, .string ot, .int .i64 oa, .string oy, .int .i64 os, .int .i64 oh, .string id, .string nm, .int .i64 n, .int .i64 why, .int .i64 slot, .int .i64 ep, .int .i64 at_, .bool last, .slice da dl.length dc] 29 (0, 0))) (hQR : Y5.heap[B]? = some (.cells #[.int .i64 y, .bool wt, .int .i64 r1, .int .i64 r2, .slice qa rows.length qc, .slice ea el.length ec] 34 (0, 0))) (hd : Seen Y5 da dl.length dl) (hg : i64ok g) (hc : C.In)
    (hr : RowsAt Y5 qa rows.length rows) (hrz : rowsSize rows ≤ 70000000000000) (he : Seen Y5 ea el.length el) (hem : el.length ≤ 70000000000000) (hi1 : i64ok y) (hi2 : i64ok r1) (hi3 : i64ok r2) (hri : ∀ r ∈ rows, i64ok r.2)
    (gx : Got Y5 xv (askL g C dl)) (gp : Got Y5 pv (resL y wt r1 r2 rows el)) (ho : Y15.ownsRow Y5.heap.size 5 1 (.slice (some ⟨og, 0, none⟩) bl.length oc) bl.length (cellsOf bl)) (hbm : bl.length + 1 ≤ 140737488355328) (b15 : Below Y5.heap.size Y5 Y15)
    (Q : Exit → Act → World → Prop) (hQ : ∀ (u24 u25 u26 u27 u28 u29 u128 u129 u130 u131 u132 u133 u134 u135 u136 u137 u138 u139 u140 u141 u142 u143 u144 u145 u146 u147 u148 u149 u150 u151 u152 u153 u154 u155 u156 u157 u158 u159 u160 u161 u162 u163 u164 u165 u166 u167 u168 u169 u170 u171 u172 u173 u174 u175 u176 u177 u178 u179 u180 u181 u182 u183 u184 u185 u186 u187 u188 u189 u190 u191 u192 u193 u194 u195 u196 : Value) (Z : World), Below Y5.heap.size Y5 Z → Q .ret { tmps := #[s0, s1, s2, .pointer (some ⟨A, 0, none⟩), .pointer (some ⟨B, 0, none⟩), s5, .bool true, xv, .int .i64 (askW g C dl), s9, s10, pv, .int .i64 (resW y wt r1 r2 rows el), s13, s14, .slice (some ⟨og, 0, none⟩) bl.length oc, s16, s17, s18, s19, s20, s21, s22, s23, u24, u25, u26, u27, u28, u29, s30, s31, s32, s33, s34, s35, s36, s37, s38, s39, s40, s41, s42, s43, s44, s45, s46, s47, s48, s49, s50, s51, s52, s53, s54, s55, s56, s57, s58, s59, s60, s61, s62, s63, s64, s65, s66, s67, s68, s69, s70, s71, s72, s73, s74, s75, s76, s77, s78, s79, s80, s81, s82, s83, s84, s85, s86, s87, s88, s89, s90, s91, s92, s93, s94, s95, s96, s97, s98, s99, s100, s101, s102, s103, s104, s105, s106, s107, s108, s109, s110, s111, s112, s113, s114, s115, s116, s117, s118, s119, s120, s121, s122, s123, s124, s125, s126, s127, u128, u129, u130, u131, u132, u133, u134, u135, u136, u137, u138, u139, u140, u141, u142, u143, u144, u145, u146, u147, u148, u149, u150, u151, u152, u153, u154, u155, u156, u157, u158, u159, u160, u161, u162, u163, u164, u165, u166, u167, u168, u169, u170, u171, u172, u173, u174, u175, u176, u177, u178, u179, u180, u181, u182, u183, u184, u185, u186, u187, u188, u189, u190, u191, u192, u193, u194, u195, u196], defers := [] } Z) :
    ((Go.Code.region 14 #[{ dst := some 128, op := Go.Op.move (Go.Operand.tmp 15), type := 25, pos := "law.go:105", after := #[], guard := none }, { dst := some 129, op := Go.Op.call { callee := Go.Callee.value (Go.Operand.func 20), args := #[Go.Operand.tmp 128], argTypes := #[25] }, type := 0, pos := "law.go:105", after := #[{ on := 0, ground := Go.Ground.data }], guard := none }] false).seq (((Go.Code.region 15 #[{ dst := some 130, op := Go.Op.move (Go.Operand.tmp 8), type := 24, pos := "law.go:106", after := #[], guard := none }, { dst := some 131, op := Go.Op.binOp Go.BinOp.eql 24 (Go.Operand.tmp 130) (Go.Operand.const (Go.Value.int Go.IntKind.i64 0)) 24, type := 4, pos := "law.go:106", after := #[{ on := 0, ground := Go.Ground.data }], guard := none }, { dst := some 132, op := Go.Op.move (Go.Operand.tmp 131), type := 4, pos := "law.go:106", after := #[{ on := 1, ground := Go.Ground.data }], guard := none }, { dst := some 133, op := Go.Op.fieldAddr 29 (Go.Operand.tmp 3) 0, type := 0, pos := "law.go:106", after := #[{ on := 2, ground := Go.Ground.guard }], guard := some (2, true) }, { dst := some 134, op := Go.Op.load 3 (Go.Operand.tmp 133), type := 3, pos := "law.go:106", after := #[{ on := 3, ground := Go.Ground.data }, { on := 2, ground := Go.Ground.guard }], guard := some (2, true) }, { dst := some 135, op := Go.Op.binOp Go.BinOp.geq 3 (Go.Operand.tmp 134) (Go.Operand.const (Go.Value.int Go.IntKind.i64 0)) 3, type := 4, pos := "law.go:106", after := #[{ on := 4, ground := Go.Ground.data }, { on := 2, ground := Go.Ground.guard }], guard := some (2, true) }, { dst := some 136, op := Go.Op.pick (Go.Operand.tmp 132) (Go.Operand.tmp 135) (Go.Operand.const (Go.Value.bool false)), type := 4, pos := "law.go:106", after := #[{ on := 2, ground := Go.Ground.data }, { on := 5, ground := Go.Ground.data }], guard := none }, { dst := some 137, op := Go.Op.move (Go.Operand.tmp 136), type := 4, pos := "law.go:106", after := #[{ on := 6, ground := Go.Ground.data }, { on := 2, ground := Go.Ground.chain }], guard := none }, { dst := some 138, op := Go.Op.fieldAddr 29 (Go.Operand.tmp 3) 0, type := 0, pos := "law.go:106", after := #[{ on := 7, ground := Go.Ground.guard }], guard := some (7, true) }, { dst := some 139, op := Go.Op.load 3 (Go.Operand.tmp 138), type := 3, pos := "law.go:106", after := #[{ on := 8, ground := Go.Ground.data }, { on := 7, ground := Go.Ground.guard }], guard := some (7, true) }, { dst := some 140, op := Go.Op.binOp Go.BinOp.leq 3 (Go.Operand.tmp 139) (Go.Operand.const (Go.Value.int Go.IntKind.i64 3)) 3, type := 4, pos := "law.go:106", after := #[{ on := 9, ground := Go.Ground.data }, { on := 7, ground := Go.Ground.guard }], guard := some (7, true) }, { dst := some 141, op := Go.Op.pick (Go.Operand.tmp 137) (Go.Operand.tmp 140) (Go.Operand.const (Go.Value.bool false)), type := 4, pos := "law.go:106", after := #[{ on := 7, ground := Go.Ground.data }, { on := 10, ground := Go.Ground.data }], guard := none }] false).seq (Go.Code.cond (Go.Operand.tmp 141) ((Go.Code.region 16 #[{ dst := some 143, op := Go.Op.move (Go.Operand.tmp 7), type := 25, pos := "law.go:107", after := #[], guard := none }, { dst := some 144, op := Go.Op.call { callee := Go.Callee.value (Go.Operand.func 11), args := #[Go.Operand.tmp 143], argTypes := #[25] }, type := 47, pos := "law.go:107", after := #[{ on := 0, ground := Go.Ground.data }], guard := none }, { dst := some 142, op := Go.Op.move (Go.Operand.tmp 144), type := 47, pos := "law.go:107", after := #[{ on := 1, ground := Go.Ground.data }], guard := none }, { dst := some 145, op := Go.Op.extract (Go.Operand.tmp 142) 0, type := 40, pos := "law.go:107", after := #[{ on := 2, ground := Go.Ground.data }], guard := none }, { dst := some 146, op := Go.Op.extract (Go.Operand.tmp 142) 1, type := 24, pos := "law.go:107", after := #[{ on := 2, ground := Go.Ground.data }, { on := 6, ground := Go.Ground.gcOnly Go.Departure.lateStores }], guard := none }, { dst := some 24, op := Go.Op.alloc 40, type := 0, pos := "law.go:107", after := #[], guard := none }, { dst := none, op := Go.Op.store 40 (Go.Operand.tmp 24) (Go.Operand.tmp 145), type := 0, pos := "law.go:107", after := #[{ on := 5, ground := Go.Ground.data }, { on := 3, ground := Go.Ground.data }, { on := 1, ground := Go.Ground.chain }, { on := 0, ground := Go.Ground.phase }, { on := 1, ground := Go.Ground.phase }, { on := 2, ground := Go.Ground.phase }, { on := 3, ground := Go.Ground.phase }, { on := 4, ground := Go.Ground.textOnly Go.Departure.lateStores }, { on := 5, ground := Go.Ground.phase }], guard := none }, { dst := some 25, op := Go.Op.assign (Go.Operand.tmp 146), type := 24, pos := "law.go:107", after := #[{ on := 4, ground := Go.Ground.data }, { on := 6, ground := Go.Ground.chain }, { on := 0, ground := Go.Ground.phase }, { on := 1, ground := Go.Ground.phase }, { on := 2, ground := Go.Ground.phase }, { on := 3, ground := Go.Ground.phase }, { on := 4, ground := Go.Ground.phase }, { on := 5, ground := Go.Ground.phase }, { on := 6, ground := Go.Ground.phase }], guard := none }] false).seq ((Go.Code.region 17 #[{ dst := some 147, op := Go.Op.move (Go.Operand.tmp 25), type := 24, pos := "law.go:108", after := #[], guard := none }, { dst := some 148, op := Go.Op.binOp Go.BinOp.neq 24 (Go.Operand.tmp 147) (Go.Operand.const (Go.Value.int Go.IntKind.i64 0)) 24, type := 4, pos := "law.go:108", after := #[{ on := 0, ground := Go.Ground.data }], guard := none }, { dst := some 149, op := Go.Op.move (Go.Operand.tmp 148), type := 4, pos := "law.go:108", after := #[{ on := 1, ground := Go.Ground.data }], guard := none }, { dst := some 150, op := Go.Op.load 40 (Go.Operand.tmp 24), type := 40, pos := "law.go:108", after := #[{ on := 2, ground := Go.Ground.guard }], guard := some (2, false) }, { dst := some 151, op := Go.Op.call { callee := Go.Callee.value (Go.Operand.func 16), args := #[Go.Operand.tmp 150], argTypes := #[40] }, type := 29, pos := "law.go:108", after := #[{ on := 3, ground := Go.Ground.data }, { on := 2, ground := Go.Ground.chain }, { on := 2, ground := Go.Ground.guard }], guard := some (2, false) }, { dst := some 152, op := Go.Op.load 29 (Go.Operand.tmp 3), type := 29, pos := "law.go:108", after := #[{ on := 2, ground := Go.Ground.guard }], guard := some (2, false) }, { dst := some 153, op := Go.Op.call { callee := Go.Callee.value (Go.Operand.func 15), args := #[Go.Operand.tmp 151, Go.Operand.tmp 152], argTypes := #[29, 29] }, type := 4, pos := "law.go:108", after := #[{ on := 4, ground := Go.Ground.data }, { on := 5, ground := Go.Ground.data }, { on := 4, ground := Go.Ground.chain }, { on := 2, ground := Go.Ground.guard }], guard := some (2, false) }, { dst := some 154, op := Go.Op.unOp Go.UnOp.not 4 (Go.Operand.tmp 153), type := 4, pos := "law.go:108", after := #[{ on := 6, ground := Go.Ground.data }, { on := 2, ground := Go.Ground.guard }], guard := some (2, false) }, { dst := some 155, op := Go.Op.pick (Go.Operand.tmp 149) (Go.Operand.const (Go.Value.bool true)) (Go.Operand.tmp 154), type := 4, pos := "law.go:108", after := #[{ on := 2, ground := Go.Ground.data }, { on := 7, ground := Go.Ground.data }], guard := none }] true).seq (Go.Code.cond (Go.Operand.tmp 155) ((Go.Code.region 18 #[{ dst := some 6, op := Go.Op.assign (Go.Operand.const (Go.Value.bool false)), type := 4, pos := "law.go:109", after := #[], guard := none }] false).seq Go.Code.ret) Go.Code.skip))) Go.Code.skip)).seq ((Go.Code.region 19 #[{ dst := some 26, op := Go.Op.assign (Go.Operand.const (Go.Value.bool false)), type := 4, pos := "law.go:112", after := #[], guard := none }] false).seq (((Go.Code.region 20 #[{ dst := some 27, op := Go.Op.assign (Go.Operand.const (Go.Value.int Go.IntKind.i64 0)), type := 3, pos := "law.go:113", after := #[], guard := none }] false).seq (Go.Code.block 0 (((Go.Code.region 21 #[{ dst := some 156, op := Go.Op.move (Go.Operand.tmp 27), type := 3, pos := "law.go:113", after := #[], guard := none }, { dst := some 157, op := Go.Op.fieldAddr 34 (Go.Operand.tmp 4) 2, type := 0, pos := "law.go:113", after := #[], guard := none }, { dst := some 158, op := Go.Op.fieldAddr 32 (Go.Operand.tmp 157) 2, type := 0, pos := "law.go:113", after := #[{ on := 1, ground := Go.Ground.data }], guard := none }, { dst := some 159, op := Go.Op.load 30 (Go.Operand.tmp 158), type := 30, pos := "law.go:113", after := #[{ on := 2, ground := Go.Ground.data }], guard := none }, { dst := some 160, op := Go.Op.call { callee := Go.Callee.builtin Go.Builtin.len, args := #[Go.Operand.tmp 159], argTypes := #[30] }, type := 3, pos := "law.go:113", after := #[{ on := 3, ground := Go.Ground.data }], guard := none }, { dst := some 161, op := Go.Op.binOp Go.BinOp.lss 3 (Go.Operand.tmp 156) (Go.Operand.tmp 160) 3, type := 4, pos := "law.go:113", after := #[{ on := 0, ground := Go.Ground.data }, { on := 4, ground := Go.Ground.data }], guard := none }] false).seq (Go.Code.cond (Go.Operand.tmp 161) Go.Code.skip (Go.Code.exit 0))).seq ((Go.Code.block 1 (Go.Code.region 23 #[{ dst := some 164, op := Go.Op.move (Go.Operand.tmp 26), type := 4, pos := "law.go:114", after := #[], guard := none }, { dst := some 165, op := Go.Op.move (Go.Operand.tmp 164), type := 4, pos := "law.go:114", after := #[{ on := 0, ground := Go.Ground.data }], guard := none }, { dst := some 166, op := Go.Op.fieldAddr 34 (Go.Operand.tmp 4) 2, type := 0, pos := "law.go:114", after := #[{ on := 1, ground := Go.Ground.guard }], guard := some (1, false) }, { dst := some 167, op := Go.Op.fieldAddr 32 (Go.Operand.tmp 166) 2, type := 0, pos := "law.go:114", after := #[{ on := 2, ground := Go.Ground.data }, { on := 1, ground := Go.Ground.guard }], guard := some (1, false) }, { dst := some 168, op := Go.Op.load 30 (Go.Operand.tmp 167), type := 30, pos := "law.go:114", after := #[{ on := 3, ground := Go.Ground.data }, { on := 1, ground := Go.Ground.guard }], guard := some (1, false) }, { dst := some 169, op := Go.Op.move (Go.Operand.tmp 27), type := 3, pos := "law.go:114", after := #[{ on := 1, ground := Go.Ground.guard }], guard := some (1, false) }, { dst := some 170, op := Go.Op.indexAddr 30 (Go.Operand.tmp 168) (Go.Operand.tmp 169), type := 0, pos := "law.go:114", after := #[{ on := 4, ground := Go.Ground.data }, { on := 5, ground := Go.Ground.data }, { on := 1, ground := Go.Ground.guard }], guard := some (1, false) }, { dst := some 171, op := Go.Op.fieldAddr 62 (Go.Operand.tmp 170) 0, type := 0, pos := "law.go:114", after := #[{ on := 6, ground := Go.Ground.data }, { on := 1, ground := Go.Ground.guard }], guard := some (1, false) }, { dst := some 172, op := Go.Op.load 9 (Go.Operand.tmp 171), type := 9, pos := "law.go:114", after := #[{ on := 7, ground := Go.Ground.data }, { on := 1, ground := Go.Ground.guard }], guard := some (1, false) }, { dst := some 173, op := Go.Op.call { callee := Go.Callee.builtin Go.Builtin.len, args := #[Go.Operand.tmp 172], argTypes := #[9] }, type := 3, pos := "law.go:114", after := #[{ on := 8, ground := Go.Ground.data }, { on := 1, ground := Go.Ground.guard }], guard := some (1, false) }, { dst := some 174, op := Go.Op.binOp Go.BinOp.gtr 3 (Go.Operand.tmp 173) (Go.Operand.const (Go.Value.int Go.IntKind.i64 65536)) 3, type := 4, pos := "law.go:114", after := #[{ on := 9, ground := Go.Ground.data }, { on := 1, ground := Go.Ground.guard }], guard := some (1, false) }, { dst := some 175, op := Go.Op.pick (Go.Operand.tmp 165) (Go.Operand.const (Go.Value.bool true)) (Go.Operand.tmp 174), type := 4, pos := "law.go:114", after := #[{ on := 1, ground := Go.Ground.data }, { on := 10, ground := Go.Ground.data }], guard := none }, { dst := some 26, op := Go.Op.assign (Go.Operand.tmp 175), type := 4, pos := "law.go:114", after := #[{ on := 11, ground := Go.Ground.data }, { on := 1, ground := Go.Ground.chain }, { on := 0, ground := Go.Ground.phase }, { on := 1, ground := Go.Ground.phase }, { on := 2, ground := Go.Ground.phase }, { on := 3, ground := Go.Ground.phase }, { on := 4, ground := Go.Ground.phase }, { on := 5, ground := Go.Ground.phase }, { on := 6, ground := Go.Ground.phase }, { on := 7, ground := Go.Ground.phase }, { on := 8, ground := Go.Ground.phase }, { on := 9, ground := Go.Ground.phase }, { on := 10, ground := Go.Ground.phase }, { on := 11, ground := Go.Ground.phase }], guard := none }] false)).seq (Go.Code.region 22 #[{ dst := some 162, op := Go.Op.move (Go.Operand.tmp 27), type := 3, pos := "law.go:113", after := #[], guard := none }, { dst := some 163, op := Go.Op.binOp Go.BinOp.add 3 (Go.Operand.tmp 162) (Go.Operand.const (Go.Value.int Go.IntKind.i64 1)) 3, type := 3, pos := "law.go:113", after := #[{ on := 0, ground := Go.Ground.data }], guard := none }, { dst := some 27, op := Go.Op.assign (Go.Operand.tmp 163), type := 3, pos := "law.go:113", after := #[{ on := 1, ground := Go.Ground.data }, { on := 0, ground := Go.Ground.phase }, { on := 1, ground := Go.Ground.phase }], guard := none }] false))).loop)).seq (((Go.Code.region 24 #[{ dst := some 176, op := Go.Op.move (Go.Operand.tmp 12), type := 24, pos := "law.go:116", after := #[], guard := none }, { dst := some 177, op := Go.Op.binOp Go.BinOp.eql 24 (Go.Operand.tmp 176) (Go.Operand.const (Go.Value.int Go.IntKind.i64 0)) 24, type := 4, pos := "law.go:116", after := #[{ on := 0, ground := Go.Ground.data }], guard := none }, { dst := some 178, op := Go.Op.move (Go.Operand.tmp 177), type := 4, pos := "law.go:116", after := #[{ on := 1, ground := Go.Ground.data }], guard := none }, { dst := some 179, op := Go.Op.move (Go.Operand.tmp 26), type := 4, pos := "law.go:116", after := #[{ on := 2, ground := Go.Ground.guard }], guard := some (2, true) }, { dst := some 180, op := Go.Op.unOp Go.UnOp.not 4 (Go.Operand.tmp 179), type := 4, pos := "law.go:116", after := #[{ on := 3, ground := Go.Ground.data }, { on := 2, ground := Go.Ground.guard }], guard := some (2, true) }, { dst := some 181, op := Go.Op.pick (Go.Operand.tmp 178) (Go.Operand.tmp 180) (Go.Operand.const (Go.Value.bool false)), type := 4, pos := "law.go:116", after := #[{ on := 2, ground := Go.Ground.data }, { on := 4, ground := Go.Ground.data }], guard := none }] false).seq (Go.Code.cond (Go.Operand.tmp 181) ((Go.Code.region 25 #[{ dst := some 183, op := Go.Op.move (Go.Operand.tmp 11), type := 25, pos := "law.go:117", after := #[], guard := none }, { dst := some 184, op := Go.Op.call { callee := Go.Callee.value (Go.Operand.func 13), args := #[Go.Operand.tmp 183], argTypes := #[25] }, type := 51, pos := "law.go:117", after := #[{ on := 0, ground := Go.Ground.data }], guard := none }, { dst := some 182, op := Go.Op.move (Go.Operand.tmp 184), type := 51, pos := "law.go:117", after := #[{ on := 1, ground := Go.Ground.data }], guard := none }, { dst := some 185, op := Go.Op.extract (Go.Operand.tmp 182) 0, type := 43, pos := "law.go:117", after := #[{ on := 2, ground := Go.Ground.data }], guard := none }, { dst := some 186, op := Go.Op.extract (Go.Operand.tmp 182) 1, type := 24, pos := "law.go:117", after := #[{ on := 2, ground := Go.Ground.data }, { on := 6, ground := Go.Ground.gcOnly Go.Departure.lateStores }], guard := none }, { dst := some 28, op := Go.Op.alloc 43, type := 0, pos := "law.go:117", after := #[], guard := none }, { dst := none, op := Go.Op.store 43 (Go.Operand.tmp 28) (Go.Operand.tmp 185), type := 0, pos := "law.go:117", after := #[{ on := 5, ground := Go.Ground.data }, { on := 3, ground := Go.Ground.data }, { on := 1, ground := Go.Ground.chain }, { on := 0, ground := Go.Ground.phase }, { on := 1, ground := Go.Ground.phase }, { on := 2, ground := Go.Ground.phase }, { on := 3, ground := Go.Ground.phase }, { on := 4, ground := Go.Ground.textOnly Go.Departure.lateStores }, { on := 5, ground := Go.Ground.phase }], guard := none }, { dst := some 29, op := Go.Op.assign (Go.Operand.tmp 186), type := 24, pos := "law.go:117", after := #[{ on := 4, ground := Go.Ground.data }, { on := 6, ground := Go.Ground.chain }, { on := 0, ground := Go.Ground.phase }, { on := 1, ground := Go.Ground.phase }, { on := 2, ground := Go.Ground.phase }, { on := 3, ground := Go.Ground.phase }, { on := 4, ground := Go.Ground.phase }, { on := 5, ground := Go.Ground.phase }, { on := 6, ground := Go.Ground.phase }], guard := none }] false).seq ((Go.Code.region 26 #[{ dst := some 187, op := Go.Op.move (Go.Operand.tmp 29), type := 24, pos := "law.go:118", after := #[], guard := none }, { dst := some 188, op := Go.Op.binOp Go.BinOp.neq 24 (Go.Operand.tmp 187) (Go.Operand.const (Go.Value.int Go.IntKind.i64 0)) 24, type := 4, pos := "law.go:118", after := #[{ on := 0, ground := Go.Ground.data }], guard := none }, { dst := some 189, op := Go.Op.move (Go.Operand.tmp 188), type := 4, pos := "law.go:118", after := #[{ on := 1, ground := Go.Ground.data }], guard := none }, { dst := some 190, op := Go.Op.load 43 (Go.Operand.tmp 28), type := 43, pos := "law.go:118", after := #[{ on := 2, ground := Go.Ground.guard }], guard := some (2, false) }, { dst := some 191, op := Go.Op.call { callee := Go.Callee.value (Go.Operand.func 18), args := #[Go.Operand.tmp 190], argTypes := #[43] }, type := 34, pos := "law.go:118", after := #[{ on := 3, ground := Go.Ground.data }, { on := 2, ground := Go.Ground.chain }, { on := 2, ground := Go.Ground.guard }], guard := some (2, false) }, { dst := some 192, op := Go.Op.load 34 (Go.Operand.tmp 4), type := 34, pos := "law.go:118", after := #[{ on := 2, ground := Go.Ground.guard }], guard := some (2, false) }, { dst := some 193, op := Go.Op.call { callee := Go.Callee.value (Go.Operand.func 17), args := #[Go.Operand.tmp 191, Go.Operand.tmp 192], argTypes := #[34, 34] }, type := 4, pos := "law.go:118", after := #[{ on := 4, ground := Go.Ground.data }, { on := 5, ground := Go.Ground.data }, { on := 4, ground := Go.Ground.chain }, { on := 2, ground := Go.Ground.guard }], guard := some (2, false) }, { dst := some 194, op := Go.Op.unOp Go.UnOp.not 4 (Go.Operand.tmp 193), type := 4, pos := "law.go:118", after := #[{ on := 6, ground := Go.Ground.data }, { on := 2, ground := Go.Ground.guard }], guard := some (2, false) }, { dst := some 195, op := Go.Op.pick (Go.Operand.tmp 189) (Go.Operand.const (Go.Value.bool true)) (Go.Operand.tmp 194), type := 4, pos := "law.go:118", after := #[{ on := 2, ground := Go.Ground.data }, { on := 7, ground := Go.Ground.data }], guard := none }] true).seq (Go.Code.cond (Go.Operand.tmp 195) ((Go.Code.region 27 #[{ dst := some 6, op := Go.Op.assign (Go.Operand.const (Go.Value.bool false)), type := 4, pos := "law.go:119", after := #[], guard := none }] false).seq Go.Code.ret) Go.Code.skip))) Go.Code.skip)).seq ((Go.Code.region 28 #[{ dst := some 196, op := Go.Op.call { callee := Go.Callee.value (Go.Operand.func 21), args := #[], argTypes := #[] }, type := 4, pos := "law.go:122", after := #[], guard := none }, { dst := some 6, op := Go.Op.assign (Go.Operand.tmp 196), type := 4, pos := "law.go:122", after := #[{ on := 0, ground := Go.Ground.data }, { on := 0, ground := Go.Ground.chain }, { on := 0, ground := Go.Ground.phase }], guard := none }] false).seq Go.Code.ret)))))).wp Try.prog Q { tmps := #[s0, s1, s2, .pointer (some ⟨A, 0, none⟩), .pointer (some ⟨B, 0, none⟩), s5, s6, xv, .int .i64 (askW g C dl), s9, s10, pv, .int .i64 (resW y wt r1 r2 rows el), s13, s14, .slice (some ⟨og, 0, none⟩) bl.length oc, s16, s17, s18, s19, s20, s21, s22, s23, s24, s25, s26, s27, s28, s29, s30, s31, s32, s33, s34, s35, s36, s37, s38, s39, s40, s41, s42, s43, s44, s45, s46, s47, s48, s49, s50, s51, s52, s53, s54, s55, s56, s57, s58, s59, s60, s61, s62, s63, s64, s65, s66, s67, s68, s69, s70, s71, s72, s73, s74, s75, s76, s77, s78, s79, s80, s81, s82, s83, s84, s85, s86, s87, s88, s89, s90, s91, s92, s93, s94, s95, s96, s97, s98, s99, s100, s101, s102, s103, s104, s105, s106, s107, s108, s109, s110, s111, s112, s113, s114, s115, s116, s117, s118, s119, s120, s121, s122, s123, s124, s125, s126, s127, s128, s129, s130, s131, s132, s133, s134, s135, s136, s137, s138, s139, s140, s141, s142, s143, s144, s145, s146, s147, s148, s149, s150, s151, s152, s153, s154, s155, s156, s157, s158, s159, s160, s161, s162, s163, s164, s165, s166, s167, s168, s169, s170, s171, s172, s173, s174, s175, s176, s177, s178, s179, s180, s181, s182, s183, s184, s185, s186, s187, s188, s189, s190, s191, s192, s193, s194, s195, s196], defers := [] } Y15 := by
  have EC : Hid _ := hC
  have QA : Hid (Y5.heap[A]? = some (.cells #[.int .i64 g, .int .i64 k, .int .i64 ok, .string of_, .string ot, .int .i64 oa, .string oy, .int .i64 os, .int .i64 oh, .string id, .string nm, .int .i64 n, .int .i64 why, .int .i64 slot, .int .i64 ep, .int .i64 at_, .bool last, .slice da dl.length dc] 29 (0, 0))) := hQA
  have QR : Hid (Y5.heap[B]? = some (.cells #[.int .i64 y, .bool wt, .int .i64 r1, .int .i64 r2, .slice qa rows.length qc, .slice ea el.length ec] 34 (0, 0))) := hQR
  have HC : Hid (i64ok g ∧ C.In) := ⟨hg, hc⟩
  have HD : Hid (Seen Y5 da dl.length dl) := hd
  have HR : Hid (RowsAt Y5 qa rows.length rows ∧ rowsSize rows ≤ 70000000000000) := ⟨hr, hrz⟩
  have HI : Hid (i64ok y ∧ i64ok r1 ∧ i64ok r2 ∧ (∀ r ∈ rows, i64ok r.2)) := ⟨hi1, hi2, hi3, hri⟩
  have HE : Hid (Seen Y5 ea el.length el ∧ el.length ≤ 70000000000000) := ⟨he, hem⟩
  have GX : Hid (Got Y5 xv (askL g C dl)) := gx
  have GP : Hid (Got Y5 pv (resL y wt r1 r2 rows el)) := gp
  have O15 : Hid (Y15.ownsRow Y5.heap.size 5 1 (.slice (some ⟨og, 0, none⟩) bl.length oc) bl.length (cellsOf bl)) := ho
  have B15 : Hid (Below Y5.heap.size Y5 Y15) := b15
  have HBm : Hid (bl.length + 1 ≤ 140737488355328) := hbm
  have HQ : Hid _ := hQ
  clear hC hQA hQR hg hc hd hr hrz hi1 hi2 hi3 hri he hem gx gp ho b15 hbm hQ
  go_wp2_with fail
  refine (spoil_any Y5.heap.size _ bl.length bl Y15 O15.out B15.out.size HBm.out).mono ?_
  rintro e Y16 ⟨⟨u129, rfl⟩, b16⟩
  have B16 : Hid (Below Y5.heap.size Y5 Y16) := B15.out.trans b16
  clear b16 O15 B15
  repeat
    (fail_if_success (guard_target =~ (Code.seq (Code.region 15 _ _) _).wp _ _ _ _)
     first | go_values | go_skip | go_guarded | go_step | go_upon | go_back | go_simp)
  refine tb_if1 Y16 A xv g k ok of_ ot oa oy os oh id nm n why slot ep at_ last da dc dl C EC.out _ _ _ _ _ _ _ _ _ _ _ _ _ _ _ _ _ _ _ _ _ _ _ _ _ _ _ _ _ _ _ _ _ _ _ _ _ _ _ _ _ _ _ _ _ _ _ _ _ _ _ _ _ _ _ _ _ _ _ _ _ _ _ _ _ _ _ _ _ _ _ _ _ _ _ _ _ _ _ _ _ _ _ _ _ _ _ _ _ _ _ _ _ _ _ _ _ _ _ _ _ _ _ _ _ _ _ _ _ _ _ _ _ _ _ _ _ _ _ _ _ _ _ _ _ _ _ _ _ _ _ _ _ _ _ _ _ _ _ _ _ _ _ _ _ _ _ _ _ _ _ _ _ _ _ _ _ _ _ _ _ _ _ _ _ _ _ _ _ _ _ _ _ _ _ _ _ _ _ _ _ _ _ _ _ _ _ _ _ _ _ _ _ _ ((B16.out.block _ (Array.getElem?_eq_some_iff.1 QA.out).1).trans QA.out) (HD.out.below B16.out) (GX.out.below B16.out) HC.out.1 HC.out.2 _ _ ?_
  intro u24 u25 u130 u131 u132 u133 u134 u135 u136 u137 u138 u139 u140 u141 u142 u143 u144 u145 u146 u147 u148 u149 u150 u151 u152 u153 u154 u155 Y17 b17
  have B17 : Hid (Below Y5.heap.size Y5 Y17) := B16.out.trans (b17.mono B16.out.size)
  clear b17
  repeat
    (fail_if_success (guard_target =~ (Code.seq (Code.region 20 _ _) _).wp _ _ _ _)
     first | go_values | go_skip | go_guarded | go_step | go_upon | go_back | go_simp)
  refine tb_long Y17 B y wt r1 r2 qa qc rows (.slice ea el.length ec) _ _ _ _ _ _ _ _ _ _ _ _ _ _ _ _ _ _ _ _ _ _ _ _ _ _ _ _ _ _ _ _ _ _ _ _ _ _ _ _ _ _ _ _ _ _ _ _ _ _ _ _ _ _ _ _ _ _ _ _ _ _ _ _ _ _ _ _ _ _ _ _ _ _ _ _ _ _ _ _ _ _ _ _ _ _ _ _ _ _ _ _ _ _ _ _ _ _ _ _ _ _ _ _ _ _ _ _ _ _ _ _ _ _ _ _ _ _ _ _ _ _ _ _ _ _ _ _ _ _ _ _ _ _ _ _ _ _ _ _ _ _ _ _ _ _ _ _ _ _ _ _ _ _ _ _ _ _ _ _ _ _ _ _ _ _ _ _ _ _ _ _ _ _ _ _ _ _ _ _ _ _ _ _ _ _ _ _ _ _ _ _ _ _ _ ((B17.out.block _ (Array.getElem?_eq_some_iff.1 QR.out).1).trans QR.out) (HR.out.1.below B17.out) _ _ ?_
  intro u27 u156 u157 u158 u159 u160 u161 u162 u163 u164 u165 u166 u167 u168 u169 u170 u171 u172 u173 u174 u175
  repeat
    (fail_if_success (guard_target =~ (Code.seq (Code.region 24 _ _) _).wp _ _ _ _)
     first | go_values | go_skip | go_guarded | go_step | go_upon | go_back | go_simp)
  have hll : (resL y wt r1 r2 rows el).length ≤ 140737488355328 := by
    unfold resL
    split
    · simp
    · have h := resH_le (wt := wt) HI.out.1 HI.out.2.1 HI.out.2.2.1 HI.out.2.2.2 HR.out.2
      have h2 := sz_length_le el (by have := HE.out.2; omega)
      have h3 := HR.out.2
      have h4 := HE.out.2
      unfold resB
      rw [List.length_append]
      omega
  refine tb_if2 Y17 B pv y wt r1 r2 qa qc rows ea ec el (longN rows) _ _ _ _ _ _ _ _ _ _ _ _ _ _ _ _ _ _ _ _ _ _ _ _ _ _ _ _ _ _ _ _ _ _ _ _ _ _ _ _ _ _ _ _ _ _ _ _ _ _ _ _ _ _ _ _ _ _ _ _ _ _ _ _ _ _ _ _ _ _ _ _ _ _ _ _ _ _ _ _ _ _ _ _ _ _ _ _ _ _ _ _ _ _ _ _ _ _ _ _ _ _ _ _ _ _ _ _ _ _ _ _ _ _ _ _ _ _ _ _ _ _ _ _ _ _ _ _ _ _ _ _ _ _ _ _ _ _ _ _ _ _ _ _ _ _ _ _ _ _ _ _ _ _ _ _ _ _ _ _ _ _ _ _ _ _ _ _ _ _ _ _ _ _ _ _ _ _ _ _ _ _ _ _ _ _ _ _ _ _ _ _ _ rfl ((B17.out.block _ (Array.getElem?_eq_some_iff.1 QR.out).1).trans QR.out) (HR.out.1.below B17.out) (HE.out.1.below B17.out) (GP.out.below B17.out) hll HI.out.1 HI.out.2.1 HI.out.2.2.1 HI.out.2.2.2 _ _ ?_
  intro u28 u29 u176 u177 u178 u179 u180 u181 u182 u183 u184 u185 u186 u187 u188 u189 u190 u191 u192 u193 u194 u195 Y18 b18
  have B18 : Hid (Below Y5.heap.size Y5 Y18) := B17.out.trans (b18.mono B17.out.size)
  clear b18 hll
  have HK := knownX_any Y18
  go_wp2_with fail
  refine HK.mono ?_
  rintro e Y19 ⟨rfl, b19⟩
  have B19 : Hid (Below Y5.heap.size Y5 Y19) := B18.out.trans (b19.mono B18.out.size)
  clear b19 HK
  go_wp2_with fail
  exact HQ.out _ _ _ _ _ _ _ _ _ _ _ _ _ _ _ _ _ _ _ _ _ _ _ _ _ _ _ _ _ _ _ _ _ _ _ _ _ _ _ _ _ _ _ _ _ _ _ _ _ _ _ _ _ _ _ _ _ _ _ _ _ _ _ _ _ _ _ _ _ _ _ _ _ _ _ _ B19.out
end Go.Proofs.Ytogbcciocgpknaa
