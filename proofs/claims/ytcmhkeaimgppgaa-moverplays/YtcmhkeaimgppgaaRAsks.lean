/- The reference's mover: Asks. -/
import Derived.Test.YtcmhkeaimgppgaaRR14
namespace Go.Proofs.Ytcmhkeaimgppgaa
open Go.RowKit Go.Shelf
attribute [local go_sem] Oper.semAt_some
set_option linter.unusedVariables false
set_option linter.unusedSimpArgs false

/-- What the reference's Asks answers. -/
def RAsked (o : Option PAsk) (s : Nat) (v : Value) (X : World) : Prop :=
  match o with
  | none => v = .slice none 0 0
  | some p => ∃ B ua uc, v = .slice (some ⟨B, 0, none⟩) 1 1 ∧ s ≤ B ∧ X.heap[B]? = some (.cells (AskV.cells (p.v (.slice ua p.l.length uc))).toArray 35 (0, 0)) ∧ X.ownsRow s 5 1 (.slice ua p.l.length uc) p.l.length (cellsOf p.l)
/-- What is there while it is made: the command in its box. -/
structure RA1 (w V : World) (base : Bs) (G N : Nat) (R : MD) (sl fr to ep ph n : Int) (C : Array Value) : Prop where
  m : RvIn V base G R
  x : V.heap[w.heap.size]? = some (.cells #[.int .i64 sl, .int .i64 fr, .int .i64 to, .int .i64 ep, .int .i64 ph, .int .i64 n] 37 (0, 0))
  c : V.heap[N]? = some (.cells C 33 (0, 0))
  ch : OnlyR w V G
  lo : w.heap.size < N
section
variable {w V : World} {base : Bs} {G N : Nat} {R : MD} {sl fr to ep ph n : Int} {C : Array Value}
theorem RA1.set (h : RA1 w V base G N R sl fr to ep ph n C) (hg : G < w.heap.size) (i : Nat) (v : Value) : RA1 w (V.setCell ⟨N, i, none⟩ v) base G N R sl fr to ep ph n (C.setIfInBounds i v) := by
  have lo := h.lo
  have e := setCell_eq_setRow V N i _ _ _ v h.c
  rw [e]
  exact ⟨h.m.other (Q := N) (by omega) h.c (fun cur z e => by injection e with _ e; exact absurd e (by decide)) (fun g hg _ => setRow_other _ _ _ _ hg), (setRow_other _ _ _ _ (by omega)).trans h.x, setRow_self h.c, ⟨h.ch.os, h.ch.tape, h.ch.output, by simpa using h.ch.size, fun k hk hn => (setRow_other _ _ _ _ (by omega)).trans (h.ch.block k hk hn)⟩, lo⟩
theorem RA1.below {V' : World} (h : RA1 w V base G N R sl fr to ep ph n C) (b : Below V.heap.size V V') : RA1 w V' base G N R sl fr to ep ph n C :=
  ⟨h.m.below b, (b.block _ (Array.getElem?_eq_some_iff.1 h.x).1).trans h.x, (b.block _ (Array.getElem?_eq_some_iff.1 h.c).1).trans h.c, h.ch.trans (OnlyR.of_below b G), h.lo⟩
theorem RA1.fz (h : RA1 w V base G N R sl fr to ep ph n C) (i : Nat) : V.frozen? ⟨N, i, none⟩ = false := by simp [World.frozen?, h.c]
theorem RA1.cell (h : RA1 w V base G N R sl fr to ep ph n C) (i : Nat) : V.cell? ⟨N, i, none⟩ = C[i]? := by simp [World.cell?, h.c]
theorem RA1.xc (h : RA1 w V base G N R sl fr to ep ph n C) (i : Nat) : V.cell? ⟨w.heap.size, i, none⟩ = (#[.int .i64 sl, .int .i64 fr, .int .i64 to, .int .i64 ep, .int .i64 ph, .int .i64 n] : Array Value)[i]? := by simp only [World.cell?, h.x]; rfl
end
theorem build_ask1 (s0 s1 s2 s3 s4 s5 s6 s7 s8 s9 s10 s11 s12 s13 s14 s15 s16 s17 s18 s19 s20 s21 s22 s23 s24 s25 s26 s27 s28 s29 s30 s31 s32 s33 s34 s35 s36 s37 s38 s39 s40 s41 s42 s43 s44 s45 s46 s47 s48 s49 s50 s51 s52 s53 s54 s55 s56 s57 s58 s59 s60 s61 s62 s63 s64 s65 s66 s67 s68 s69 s70 s71 s72 s73 s74 s75 s76 s77 s78 s79 s80 s81 s82 s83 s84 s85 s86 s87 s88 s89 s90 s91 s92 : Value) (g k at_ sl ep : Int) (last : Bool) (d : Value) (X : World) :
    (execOp ({ tmps := #[s0, s1, s2, s3, s4, s5, s6, s7, s8, s9, s10, s11, s12, s13, s14, s15, s16, s17, s18, s19, s20, s21, s22, s23, s24, s25, s26, s27, s28, s29, s30, s31, s32, s33, s34, s35, s36, s37, s38, s39, s40, s41, s42, s43, s44, s45, s46, s47, s48, s49, s50, s51, s52, s53, s54, s55, s56, s57, s58, s59, s60, s61, s62, s63, s64, s65, s66, s67, s68, s69, s70, s71, s72, s73, s74, s75, s76, s77, s78, s79, s80, s81, s82, s83, s84, s85, s86, s87, s88, s89, s90, .agg #[.int .i64 g, .int .i64 k, .int .i64 0, .string ⟨#[]⟩, .string ⟨#[]⟩, .int .i64 0, .string ⟨#[]⟩, .int .i64 0, .int .i64 0, .string ⟨#[]⟩, .string ⟨#[]⟩, .int .i64 0, .int .i64 0, .int .i64 sl, .int .i64 ep, .int .i64 at_, .bool last, d], s92], defers := [] } : Act).eval ({ dst := some 92, op := Go.Op.buildSlice 49 1 #[(0, Go.Operand.tmp 91)], type := 49, pos := "ref.go:53", after := #[{ on := 2, ground := Go.Ground.data }], guard := none } : Oper)).run Try.prog X = .ok (.value (.slice (some ⟨X.heap.size, 0, none⟩) 1 1)) (X.alloc (.cells #[.int .i64 g, .int .i64 k, .int .i64 0, .string ⟨#[]⟩, .string ⟨#[]⟩, .int .i64 0, .string ⟨#[]⟩, .int .i64 0, .int .i64 0, .string ⟨#[]⟩, .string ⟨#[]⟩, .int .i64 0, .int .i64 0, .int .i64 sl, .int .i64 ep, .int .i64 at_, .bool last, d] 35)) := by
  kernel_rfl
theorem RA1.own_set {w V : World} {base : Bs} {G N : Nat} {R : MD} {sl fr to ep ph n : Int} {C : Array Value} (h : RA1 w V base G N R sl fr to ep ph n C) {B m : Nat} {v : Value} {l : List Value} (hu : V.ownsRow B 5 1 v m l) (i : Nat) (u : Value) : (V.setCell ⟨N, i, none⟩ u).ownsRow B 5 1 v m l := by
  refine owns_kept hu (fun g e => Below.heap_setCell _ _ _ _ (fun e2 => ?_))
  obtain ⟨_, _, cur, hc⟩ := row_kind hu e
  have h9 := h.c
  change g = N at e2
  rw [← e2, hc] at h9
  injection h9 with h9
  injection h9 with _ h9
  exact absurd h9 (by decide)
theorem inst_wrap (K : MD) (hf : K.at_ ≤ K.d.length) (hl : K.d.length ≤ 140737488351232) : wrap64 ((K.at_ : Int) + 1000) = ((K.at_ + 1000 : Nat) : Int) := by unfold wrap64; omega
theorem inst_lt (K : MD) (h : K.d.length < K.at_ + 1000) : ((K.d.length : Nat) : Int) < ((K.at_ + 1000 : Nat) : Int) ∧ endM K = K.d.length := ⟨by omega, by unfold endM; rw [if_pos h]⟩
theorem inst_ge (K : MD) (h : ¬ K.d.length < K.at_ + 1000) : ∃ (E : Nat) (LB : Bool), K.at_ + 1000 = E ∧ ¬ (((K.d.length : Nat) : Int) < ((E : Nat) : Int)) ∧ endM K = E ∧ E ≤ K.d.length ∧ ((((E : Nat) : Int) == ((K.d.length : Nat) : Int)) = LB) ∧ decide (E = K.d.length) = LB ∧ K.at_ ≤ E := ⟨K.at_ + 1000, decide (K.at_ + 1000 = K.d.length), rfl, by omega, by unfold endM; rw [if_neg h], by omega, by
  by_cases e : K.at_ + 1000 = K.d.length
  · simp [e]
  · simp [e]; omega, rfl, by omega⟩
theorem inst_len (K : MD) (e : Nat) (h1 : K.at_ ≤ e) (h2 : e ≤ K.d.length) : ((K.d.drop K.at_).take (e - K.at_)).length = e - K.at_ := by simp; omega
theorem inst_ask (K : MD) (sl fr to ep n : Int) (hhs : K.has = true) (e : Nat) (he : endM K = e) (LB : Bool) (hLB : decide (e = K.d.length) = LB) : askP K ⟨sl, fr, to, ep, 2, n⟩ = some ⟨to, 9, sl, ep, K.at_, LB, (K.d.drop K.at_).take (e - K.at_)⟩ := by
  subst hLB
  unfold askP
  rw [if_neg (by dsimp only; decide), if_pos rfl, if_pos hhs, he]
theorem wpList_val {P : Program} {w w' : World} {ops : Array Oper} {rest : List Oper} {o : Oper} {a : Act} {Q : Exit → Act → World → Prop} (v : Value) (hgd : o.guard = none) (hx : (execOp a.eval o).run P w = .ok (.value v) w') (h : wpList P ops Q rest (a.put o.dst v) w') : wpList P ops Q (o :: rest) a w :=
  wpList_plain hgd fun K hK => by
    unfold Oper.wp
    rw [hx, Oper.upon_value]
    exact hK _ _ h
theorem RA1.fin {w V : World} {base : Bs} {G N : Nat} {R : MD} {sl fr to ep ph n : Int} {C : Array Value} (h : RA1 w V base G N R sl fr to ep ph n C) (p : PAsk) (ua : Option Addr) (uc : Nat) (hu : V.ownsRow w.heap.size 5 1 (.slice ua p.l.length uc) p.l.length (cellsOf p.l)) (B : Nat) (hB : V.heap.size = B) :
    RAsked (some p) w.heap.size (.slice (some ⟨B, 0, none⟩) 1 1) (V.alloc (.cells (AskV.cells (p.v (.slice ua p.l.length uc))).toArray 35)) ∧ RvIn (V.alloc (.cells (AskV.cells (p.v (.slice ua p.l.length uc))).toArray 35)) base G R ∧ OnlyR w (V.alloc (.cells (AskV.cells (p.v (.slice ua p.l.length uc))).toArray 35)) G :=
  by
  subst hB
  exact ⟨⟨V.heap.size, ua, uc, rfl, h.ch.size, heap_alloc_new V _, owns_kept hu (fun g e => Below.heap_alloc _ _ _ (row_kind hu e).2.1)⟩, h.m.alloc _, h.ch.alloc _⟩
set_option maxRecDepth 100000 in
set_option maxHeartbeats 4000000 in
theorem rasks_any {w : World} {base : Bs} {G : Nat} {R : MD} (h : RvIn w base G R) (x : MvD) : Calls Try.prog 9 #[.pointer (some ⟨G, 0, none⟩), .agg #[.int .i64 x.slot, .int .i64 x.fr, .int .i64 x.to, .int .i64 x.ep, .int .i64 x.ph, .int .i64 x.n]] w fun e w' => ∃ v, e = .returned v ∧ RAsked (askP (rknowM R x) x) w.heap.size v w' ∧ RvIn w' base G (rknowM R x) ∧ OnlyR w w' G := by
  have bA : Below w.heap.size w (w.alloc (.cells #[.int .i64 x.slot, .int .i64 x.fr, .int .i64 x.to, .int .i64 x.ep, .int .i64 x.ph, .int .i64 x.n] 37)) := (Below.refl _ w).alloc (Nat.le_refl _) _
  have HK := rknow_any (h.below bA) x
  have q1 := heap_alloc_new w (.cells #[.int .i64 x.slot, .int .i64 x.fr, .int .i64 x.to, .int .i64 x.ep, .int .i64 x.ph, .int .i64 x.n] 37)
  have hlt := h.lt
  have oA := OnlyR.of_below bA G
  generalize hK : rknowM R x = K at *
  clear hK
  have hT : ∀ w2, RvIn w2 base G K → OnlyR (w.alloc (.cells #[.int .i64 x.slot, .int .i64 x.fr, .int .i64 x.to, .int .i64 x.ep, .int .i64 x.ph, .int .i64 x.n] 37)) w2 G → RA1 w ((w2.alloc (.cells #[.int .i64 0, .int .i64 0, .string ⟨#[]⟩, .string ⟨#[]⟩, .int .i64 0, .string ⟨#[]⟩, .int .i64 0, .int .i64 0, .string ⟨#[]⟩, .string ⟨#[]⟩, .int .i64 0, .int .i64 0, .int .i64 0, .int .i64 0, .int .i64 0, .bool false, .slice none 0 0] 33)).setRow w2.heap.size #[.int .i64 8, .int .i64 0, .string ⟨#[]⟩, .string ⟨#[]⟩, .int .i64 0, .string ⟨#[]⟩, .int .i64 0, .int .i64 0, .string ⟨#[]⟩, .string ⟨#[]⟩, .int .i64 0, .int .i64 0, .int .i64 x.slot, .int .i64 x.ep, .int .i64 0, .bool false, .slice none 0 0]) base G w2.heap.size K x.slot x.fr x.to x.ep x.ph x.n #[.int .i64 8, .int .i64 0, .string ⟨#[]⟩, .string ⟨#[]⟩, .int .i64 0, .string ⟨#[]⟩, .int .i64 0, .int .i64 0, .string ⟨#[]⟩, .string ⟨#[]⟩, .int .i64 0, .int .i64 0, .int .i64 x.slot, .int .i64 x.ep, .int .i64 0, .bool false, .slice none 0 0] ∧ w2.heap[w.heap.size]? = some (.cells #[.int .i64 x.slot, .int .i64 x.fr, .int .i64 x.to, .int .i64 x.ep, .int .i64 x.ph, .int .i64 x.n] 37 (0, 0)) := fun w2 h2 o2 => by
    have hs : w.heap.size < w2.heap.size := Nat.lt_of_lt_of_le (Array.getElem?_eq_some_iff.1 q1).1 o2.size
    have x2 : w2.heap[w.heap.size]? = some (.cells #[.int .i64 x.slot, .int .i64 x.fr, .int .i64 x.to, .int .i64 x.ep, .int .i64 x.ph, .int .i64 x.n] 37 (0, 0)) := (o2.block _ (Array.getElem?_eq_some_iff.1 q1).1 (by omega)).trans q1
    have b3 : Below w2.heap.size w2 ((w2.alloc (.cells #[.int .i64 0, .int .i64 0, .string ⟨#[]⟩, .string ⟨#[]⟩, .int .i64 0, .string ⟨#[]⟩, .int .i64 0, .int .i64 0, .string ⟨#[]⟩, .string ⟨#[]⟩, .int .i64 0, .int .i64 0, .int .i64 0, .int .i64 0, .int .i64 0, .bool false, .slice none 0 0] 33)).setRow w2.heap.size #[.int .i64 8, .int .i64 0, .string ⟨#[]⟩, .string ⟨#[]⟩, .int .i64 0, .string ⟨#[]⟩, .int .i64 0, .int .i64 0, .string ⟨#[]⟩, .string ⟨#[]⟩, .int .i64 0, .int .i64 0, .int .i64 x.slot, .int .i64 x.ep, .int .i64 0, .bool false, .slice none 0 0]) := below_row ((Below.refl _ w2).alloc (Nat.le_refl _) _) (Nat.le_refl _) _
    exact ⟨⟨h2.below b3, (b3.block _ hs).trans x2, setRow_self (heap_alloc_new w2 _), (oA.trans o2).trans (OnlyR.of_below b3 G), hs⟩, x2⟩
  have HT : Hid _ := hT
  have Q1 : Hid _ := q1
  have HG : Hid (G < w.heap.size) := hlt
  obtain ⟨sl, fr, to, ep, ph, n⟩ := x
  dsimp only at *
  clear h bA q1 hlt oA hT
  by_cases p1 : ph < 1
  · have HE : Hid (askP K ⟨sl, fr, to, ep, ph, n⟩ = none) := by show _ = _; unfold askP; rw [if_neg (by dsimp only; omega), if_neg (by dsimp only; omega), if_neg (by dsimp only; omega)]
    go_enter Try.func9, Try.ntmps9
    go_wp2_with (first | (refine wpList_load_row rfl 37 (.tmp 3) rfl w.heap.size rfl 37 _ (0, 0) _ Q1.out Try.underlying37 rfl (by kernel_rfl) ?_))
    refine HK.mono ?_
    clear HK
    rintro e w2 ⟨⟨kv, rfl⟩, h2, o2⟩
    obtain ⟨ra, x2⟩ := HT.out w2 h2 o2
    have y0 : w2.cell? ⟨w.heap.size, 0, none⟩ = some (.int .i64 sl) := by simp only [World.cell?, x2]; rfl
    have y3 : w2.cell? ⟨w.heap.size, 3, none⟩ = some (.int .i64 ep) := by simp only [World.cell?, x2]; rfl
    have yA0 : (w2.alloc (.cells #[.int .i64 0, .int .i64 0, .string ⟨#[]⟩, .string ⟨#[]⟩, .int .i64 0, .string ⟨#[]⟩, .int .i64 0, .int .i64 0, .string ⟨#[]⟩, .string ⟨#[]⟩, .int .i64 0, .int .i64 0, .int .i64 0, .int .i64 0, .int .i64 0, .bool false, .slice none 0 0] 33)).heap[w2.heap.size]? = some (.cells #[.int .i64 0, .int .i64 0, .string ⟨#[]⟩, .string ⟨#[]⟩, .int .i64 0, .string ⟨#[]⟩, .int .i64 0, .int .i64 0, .string ⟨#[]⟩, .string ⟨#[]⟩, .int .i64 0, .int .i64 0, .int .i64 0, .int .i64 0, .int .i64 0, .bool false, .slice none 0 0] 33 (0, 0)) := heap_alloc_new w2 _
    obtain ⟨V, eV⟩ : ∃ V, V = (w2.alloc (.cells #[.int .i64 0, .int .i64 0, .string ⟨#[]⟩, .string ⟨#[]⟩, .int .i64 0, .string ⟨#[]⟩, .int .i64 0, .int .i64 0, .string ⟨#[]⟩, .string ⟨#[]⟩, .int .i64 0, .int .i64 0, .int .i64 0, .int .i64 0, .int .i64 0, .bool false, .slice none 0 0] 33)).setRow w2.heap.size #[.int .i64 8, .int .i64 0, .string ⟨#[]⟩, .string ⟨#[]⟩, .int .i64 0, .string ⟨#[]⟩, .int .i64 0, .int .i64 0, .string ⟨#[]⟩, .string ⟨#[]⟩, .int .i64 0, .int .i64 0, .int .i64 sl, .int .i64 ep, .int .i64 0, .bool false, .slice none 0 0] := ⟨_, rfl⟩
    rw [← eV] at ra
    obtain ⟨N, eN⟩ : ∃ N, N = w2.heap.size := ⟨_, rfl⟩
    have N2 : Hid _ := yA0
    have EV : Hid _ := eV
    have v1 := ra.xc 1
    have v2 := ra.xc 2
    have v4 := ra.xc 4
    simp only [List.getElem?_toArray, List.getElem?_cons_zero, List.getElem?_cons_succ] at v1 v2 v4
    have RA : Hid _ := ra
    clear ra x2 yA0 h2 o2 HT eV eN N
    have g0 := RA.out.fz 0
    have g0c := RA.out.cell 0
    simp only [List.getElem?_toArray, List.getElem?_cons_zero, List.getElem?_cons_succ] at g0c
    obtain ⟨a, c, mg, mo⟩ := RA.out.m.ex
    have m1 : V.cell? ⟨G, 1, none⟩ = some (.bool K.has) := by simp only [World.cell?, mg]; rfl
    have MO : Hid _ := mo
    have MG : Hid _ := mg
    clear mo mg
    go_wp2_with (first
      | (refine wpList_buildTo rfl 33 _ rfl (some 15) rfl #[.int .i64 8, .int .i64 0, .string ⟨#[]⟩, .string ⟨#[]⟩, .int .i64 0, .string ⟨#[]⟩, .int .i64 0, .int .i64 0, .string ⟨#[]⟩, .string ⟨#[]⟩, .int .i64 0, .int .i64 0, .int .i64 sl, .int .i64 ep, .int .i64 0, .bool false, .slice none 0 0] (by kernel_rfl) ?_)
      | (refine wpList_store_row rfl 33 (.tmp 5) (.tmp 15) rfl w2.heap.size #[.int .i64 8, .int .i64 0, .string ⟨#[]⟩, .string ⟨#[]⟩, .int .i64 0, .string ⟨#[]⟩, .int .i64 0, .int .i64 0, .string ⟨#[]⟩, .string ⟨#[]⟩, .int .i64 0, .int .i64 0, .int .i64 sl, .int .i64 ep, .int .i64 0, .bool false, .slice none 0 0] rfl rfl 33 _ N2.out (by kernel_rfl) rfl (by simp [Value.oneCell']) ?_; rw [← EV.out]))
    go_ret
    exact ⟨_, rfl, by rw [HE.out]; rfl, RA.out.m, RA.out.ch⟩
  · by_cases p3 : 3 < ph
    · have HE : Hid (askP K ⟨sl, fr, to, ep, ph, n⟩ = none) := by show _ = _; unfold askP; rw [if_neg (by dsimp only; omega), if_neg (by dsimp only; omega), if_neg (by dsimp only; omega)]
      go_enter Try.func9, Try.ntmps9
      go_wp2_with (first | (refine wpList_load_row rfl 37 (.tmp 3) rfl w.heap.size rfl 37 _ (0, 0) _ Q1.out Try.underlying37 rfl (by kernel_rfl) ?_))
      refine HK.mono ?_
      clear HK
      rintro e w2 ⟨⟨kv, rfl⟩, h2, o2⟩
      obtain ⟨ra, x2⟩ := HT.out w2 h2 o2
      have y0 : w2.cell? ⟨w.heap.size, 0, none⟩ = some (.int .i64 sl) := by simp only [World.cell?, x2]; rfl
      have y3 : w2.cell? ⟨w.heap.size, 3, none⟩ = some (.int .i64 ep) := by simp only [World.cell?, x2]; rfl
      have yA0 : (w2.alloc (.cells #[.int .i64 0, .int .i64 0, .string ⟨#[]⟩, .string ⟨#[]⟩, .int .i64 0, .string ⟨#[]⟩, .int .i64 0, .int .i64 0, .string ⟨#[]⟩, .string ⟨#[]⟩, .int .i64 0, .int .i64 0, .int .i64 0, .int .i64 0, .int .i64 0, .bool false, .slice none 0 0] 33)).heap[w2.heap.size]? = some (.cells #[.int .i64 0, .int .i64 0, .string ⟨#[]⟩, .string ⟨#[]⟩, .int .i64 0, .string ⟨#[]⟩, .int .i64 0, .int .i64 0, .string ⟨#[]⟩, .string ⟨#[]⟩, .int .i64 0, .int .i64 0, .int .i64 0, .int .i64 0, .int .i64 0, .bool false, .slice none 0 0] 33 (0, 0)) := heap_alloc_new w2 _
      obtain ⟨V, eV⟩ : ∃ V, V = (w2.alloc (.cells #[.int .i64 0, .int .i64 0, .string ⟨#[]⟩, .string ⟨#[]⟩, .int .i64 0, .string ⟨#[]⟩, .int .i64 0, .int .i64 0, .string ⟨#[]⟩, .string ⟨#[]⟩, .int .i64 0, .int .i64 0, .int .i64 0, .int .i64 0, .int .i64 0, .bool false, .slice none 0 0] 33)).setRow w2.heap.size #[.int .i64 8, .int .i64 0, .string ⟨#[]⟩, .string ⟨#[]⟩, .int .i64 0, .string ⟨#[]⟩, .int .i64 0, .int .i64 0, .string ⟨#[]⟩, .string ⟨#[]⟩, .int .i64 0, .int .i64 0, .int .i64 sl, .int .i64 ep, .int .i64 0, .bool false, .slice none 0 0] := ⟨_, rfl⟩
      rw [← eV] at ra
      obtain ⟨N, eN⟩ : ∃ N, N = w2.heap.size := ⟨_, rfl⟩
      have N2 : Hid _ := yA0
      have EV : Hid _ := eV
      have v1 := ra.xc 1
      have v2 := ra.xc 2
      have v4 := ra.xc 4
      simp only [List.getElem?_toArray, List.getElem?_cons_zero, List.getElem?_cons_succ] at v1 v2 v4
      have RA : Hid _ := ra
      clear ra x2 yA0 h2 o2 HT eV eN N
      have g0 := RA.out.fz 0
      have g0c := RA.out.cell 0
      simp only [List.getElem?_toArray, List.getElem?_cons_zero, List.getElem?_cons_succ] at g0c
      obtain ⟨a, c, mg, mo⟩ := RA.out.m.ex
      have m1 : V.cell? ⟨G, 1, none⟩ = some (.bool K.has) := by simp only [World.cell?, mg]; rfl
      have MO : Hid _ := mo
      have MG : Hid _ := mg
      clear mo mg
      go_wp2_with (first
        | (refine wpList_buildTo rfl 33 _ rfl (some 15) rfl #[.int .i64 8, .int .i64 0, .string ⟨#[]⟩, .string ⟨#[]⟩, .int .i64 0, .string ⟨#[]⟩, .int .i64 0, .int .i64 0, .string ⟨#[]⟩, .string ⟨#[]⟩, .int .i64 0, .int .i64 0, .int .i64 sl, .int .i64 ep, .int .i64 0, .bool false, .slice none 0 0] (by kernel_rfl) ?_)
        | (refine wpList_store_row rfl 33 (.tmp 5) (.tmp 15) rfl w2.heap.size #[.int .i64 8, .int .i64 0, .string ⟨#[]⟩, .string ⟨#[]⟩, .int .i64 0, .string ⟨#[]⟩, .int .i64 0, .int .i64 0, .string ⟨#[]⟩, .string ⟨#[]⟩, .int .i64 0, .int .i64 0, .int .i64 sl, .int .i64 ep, .int .i64 0, .bool false, .slice none 0 0] rfl rfl 33 _ N2.out (by kernel_rfl) rfl (by simp [Value.oneCell']) ?_; rw [← EV.out]))
      go_ret
      exact ⟨_, rfl, by rw [HE.out]; rfl, RA.out.m, RA.out.ch⟩
    · by_cases q3 : ph = 3
      · subst q3
        have HE : Hid (askP K ⟨sl, fr, to, ep, 3, n⟩ = some ⟨fr, 10, sl, ep, 0, false, []⟩) := by show _ = _; rfl
        clear p1 p3
        go_enter Try.func9, Try.ntmps9
        go_wp2_with (first | (refine wpList_load_row rfl 37 (.tmp 3) rfl w.heap.size rfl 37 _ (0, 0) _ Q1.out Try.underlying37 rfl (by kernel_rfl) ?_))
        refine HK.mono ?_
        clear HK
        rintro e w2 ⟨⟨kv, rfl⟩, h2, o2⟩
        obtain ⟨ra, x2⟩ := HT.out w2 h2 o2
        have y0 : w2.cell? ⟨w.heap.size, 0, none⟩ = some (.int .i64 sl) := by simp only [World.cell?, x2]; rfl
        have y3 : w2.cell? ⟨w.heap.size, 3, none⟩ = some (.int .i64 ep) := by simp only [World.cell?, x2]; rfl
        have yA0 : (w2.alloc (.cells #[.int .i64 0, .int .i64 0, .string ⟨#[]⟩, .string ⟨#[]⟩, .int .i64 0, .string ⟨#[]⟩, .int .i64 0, .int .i64 0, .string ⟨#[]⟩, .string ⟨#[]⟩, .int .i64 0, .int .i64 0, .int .i64 0, .int .i64 0, .int .i64 0, .bool false, .slice none 0 0] 33)).heap[w2.heap.size]? = some (.cells #[.int .i64 0, .int .i64 0, .string ⟨#[]⟩, .string ⟨#[]⟩, .int .i64 0, .string ⟨#[]⟩, .int .i64 0, .int .i64 0, .string ⟨#[]⟩, .string ⟨#[]⟩, .int .i64 0, .int .i64 0, .int .i64 0, .int .i64 0, .int .i64 0, .bool false, .slice none 0 0] 33 (0, 0)) := heap_alloc_new w2 _
        obtain ⟨V, eV⟩ : ∃ V, V = (w2.alloc (.cells #[.int .i64 0, .int .i64 0, .string ⟨#[]⟩, .string ⟨#[]⟩, .int .i64 0, .string ⟨#[]⟩, .int .i64 0, .int .i64 0, .string ⟨#[]⟩, .string ⟨#[]⟩, .int .i64 0, .int .i64 0, .int .i64 0, .int .i64 0, .int .i64 0, .bool false, .slice none 0 0] 33)).setRow w2.heap.size #[.int .i64 8, .int .i64 0, .string ⟨#[]⟩, .string ⟨#[]⟩, .int .i64 0, .string ⟨#[]⟩, .int .i64 0, .int .i64 0, .string ⟨#[]⟩, .string ⟨#[]⟩, .int .i64 0, .int .i64 0, .int .i64 sl, .int .i64 ep, .int .i64 0, .bool false, .slice none 0 0] := ⟨_, rfl⟩
        rw [← eV] at ra
        obtain ⟨N, eN⟩ : ∃ N, N = w2.heap.size := ⟨_, rfl⟩
        have N2 : Hid _ := yA0
        have EV : Hid _ := eV
        have v1 := ra.xc 1
        have v2 := ra.xc 2
        have v4 := ra.xc 4
        simp only [List.getElem?_toArray, List.getElem?_cons_zero, List.getElem?_cons_succ] at v1 v2 v4
        have RA : Hid _ := ra
        clear ra x2 yA0 h2 o2 HT eV eN N
        have g0 := RA.out.fz 0
        have g0c := RA.out.cell 0
        simp only [List.getElem?_toArray, List.getElem?_cons_zero, List.getElem?_cons_succ] at g0c
        obtain ⟨a, c, mg, mo⟩ := RA.out.m.ex
        have m1 : V.cell? ⟨G, 1, none⟩ = some (.bool K.has) := by simp only [World.cell?, mg]; rfl
        have MO : Hid _ := mo
        have MG : Hid _ := mg
        clear mo mg
        have r4 : RA1 w (V.setCell ⟨w2.heap.size, 0, none⟩ (.int .i64 10)) base G w2.heap.size K sl fr to ep 3 n #[.int .i64 10, .int .i64 0, .string ⟨#[]⟩, .string ⟨#[]⟩, .int .i64 0, .string ⟨#[]⟩, .int .i64 0, .int .i64 0, .string ⟨#[]⟩, .string ⟨#[]⟩, .int .i64 0, .int .i64 0, .int .i64 sl, .int .i64 ep, .int .i64 0, .bool false, .slice none 0 0] := RA.out.set HG.out 0 _
        have R4 : Hid _ := r4
        clear r4
        have HFin : Hid _ := (RA1.fin R4.out ⟨fr, 10, sl, ep, 0, false, []⟩ none 0 (World.ownsRow_nil _ _ _ _) V.heap.size (by simp))
        have HC2 : Hid _ := (R4.out).c
        go_wp2_with (first
          | (refine wpList_buildTo rfl 33 _ rfl (some 15) rfl #[.int .i64 8, .int .i64 0, .string ⟨#[]⟩, .string ⟨#[]⟩, .int .i64 0, .string ⟨#[]⟩, .int .i64 0, .int .i64 0, .string ⟨#[]⟩, .string ⟨#[]⟩, .int .i64 0, .int .i64 0, .int .i64 sl, .int .i64 ep, .int .i64 0, .bool false, .slice none 0 0] (by kernel_rfl) ?_)
          | (refine wpList_store_row rfl 33 (.tmp 5) (.tmp 15) rfl w2.heap.size #[.int .i64 8, .int .i64 0, .string ⟨#[]⟩, .string ⟨#[]⟩, .int .i64 0, .string ⟨#[]⟩, .int .i64 0, .int .i64 0, .string ⟨#[]⟩, .string ⟨#[]⟩, .int .i64 0, .int .i64 0, .int .i64 sl, .int .i64 ep, .int .i64 0, .bool false, .slice none 0 0] rfl rfl 33 _ N2.out (by kernel_rfl) rfl (by simp [Value.oneCell']) ?_; rw [← EV.out])
          | (refine wpList_load_row rfl 33 (.tmp 5) rfl w2.heap.size rfl 33 #[.int .i64 10, .int .i64 0, .string ⟨#[]⟩, .string ⟨#[]⟩, .int .i64 0, .string ⟨#[]⟩, .int .i64 0, .int .i64 0, .string ⟨#[]⟩, .string ⟨#[]⟩, .int .i64 0, .int .i64 0, .int .i64 sl, .int .i64 ep, .int .i64 0, .bool false, .slice none 0 0] (0, 0) _ HC2.out Try.underlying33 rfl (by kernel_rfl) ?_)
          | (refine wpList_buildTo rfl 35 _ rfl (some 91) rfl #[.int .i64 fr, .int .i64 10, .int .i64 0, .string ⟨#[]⟩, .string ⟨#[]⟩, .int .i64 0, .string ⟨#[]⟩, .int .i64 0, .int .i64 0, .string ⟨#[]⟩, .string ⟨#[]⟩, .int .i64 0, .int .i64 0, .int .i64 sl, .int .i64 ep, .int .i64 0, .bool false, .slice none 0 0] (by kernel_rfl) ?_)
          | (refine wpList_val (o := { dst := some 92, op := Go.Op.buildSlice 49 1 #[(0, Go.Operand.tmp 91)], type := 49, pos := "ref.go:53", after := #[{ on := 2, ground := Go.Ground.data }], guard := none }) _ rfl (build_ask1 _ _ _ _ _ _ _ _ _ _ _ _ _ _ _ _ _ _ _ _ _ _ _ _ _ _ _ _ _ _ _ _ _ _ _ _ _ _ _ _ _ _ _ _ _ _ _ _ _ _ _ _ _ _ _ _ _ _ _ _ _ _ _ _ _ _ _ _ _ _ _ _ _ _ _ _ _ _ _ _ _ _ _ _ _ _ _ _ _ _ _ undef _ (fr) (10) (0) sl ep (false) (.slice none 0 0) _) ?_))
        go_ret
        exact ⟨_, rfl, by rw [HE.out]; exact HFin.out.1, HFin.out.2.1, HFin.out.2.2⟩
      · by_cases q2 : ph = 2
        · subst q2
          obtain ⟨hs, hhs⟩ : ∃ hs, K.has = hs := ⟨_, rfl⟩
          cases hs with
          | false =>
            have HE : Hid (askP K ⟨sl, fr, to, ep, 2, n⟩ = some ⟨fr, 8, sl, ep, 0, false, []⟩) := by show _ = _; unfold askP; rw [if_neg (by dsimp only; decide), if_pos rfl, if_neg (by rw [hhs]; decide)]
            clear p1 p3 q3
            go_enter Try.func9, Try.ntmps9
            go_wp2_with (first | (refine wpList_load_row rfl 37 (.tmp 3) rfl w.heap.size rfl 37 _ (0, 0) _ Q1.out Try.underlying37 rfl (by kernel_rfl) ?_))
            refine HK.mono ?_
            clear HK
            rintro e w2 ⟨⟨kv, rfl⟩, h2, o2⟩
            obtain ⟨ra, x2⟩ := HT.out w2 h2 o2
            have y0 : w2.cell? ⟨w.heap.size, 0, none⟩ = some (.int .i64 sl) := by simp only [World.cell?, x2]; rfl
            have y3 : w2.cell? ⟨w.heap.size, 3, none⟩ = some (.int .i64 ep) := by simp only [World.cell?, x2]; rfl
            have yA0 : (w2.alloc (.cells #[.int .i64 0, .int .i64 0, .string ⟨#[]⟩, .string ⟨#[]⟩, .int .i64 0, .string ⟨#[]⟩, .int .i64 0, .int .i64 0, .string ⟨#[]⟩, .string ⟨#[]⟩, .int .i64 0, .int .i64 0, .int .i64 0, .int .i64 0, .int .i64 0, .bool false, .slice none 0 0] 33)).heap[w2.heap.size]? = some (.cells #[.int .i64 0, .int .i64 0, .string ⟨#[]⟩, .string ⟨#[]⟩, .int .i64 0, .string ⟨#[]⟩, .int .i64 0, .int .i64 0, .string ⟨#[]⟩, .string ⟨#[]⟩, .int .i64 0, .int .i64 0, .int .i64 0, .int .i64 0, .int .i64 0, .bool false, .slice none 0 0] 33 (0, 0)) := heap_alloc_new w2 _
            obtain ⟨V, eV⟩ : ∃ V, V = (w2.alloc (.cells #[.int .i64 0, .int .i64 0, .string ⟨#[]⟩, .string ⟨#[]⟩, .int .i64 0, .string ⟨#[]⟩, .int .i64 0, .int .i64 0, .string ⟨#[]⟩, .string ⟨#[]⟩, .int .i64 0, .int .i64 0, .int .i64 0, .int .i64 0, .int .i64 0, .bool false, .slice none 0 0] 33)).setRow w2.heap.size #[.int .i64 8, .int .i64 0, .string ⟨#[]⟩, .string ⟨#[]⟩, .int .i64 0, .string ⟨#[]⟩, .int .i64 0, .int .i64 0, .string ⟨#[]⟩, .string ⟨#[]⟩, .int .i64 0, .int .i64 0, .int .i64 sl, .int .i64 ep, .int .i64 0, .bool false, .slice none 0 0] := ⟨_, rfl⟩
            rw [← eV] at ra
            obtain ⟨N, eN⟩ : ∃ N, N = w2.heap.size := ⟨_, rfl⟩
            have N2 : Hid _ := yA0
            have EV : Hid _ := eV
            have v1 := ra.xc 1
            have v2 := ra.xc 2
            have v4 := ra.xc 4
            simp only [List.getElem?_toArray, List.getElem?_cons_zero, List.getElem?_cons_succ] at v1 v2 v4
            have RA : Hid _ := ra
            clear ra x2 yA0 h2 o2 HT eV eN N
            have g0 := RA.out.fz 0
            have g0c := RA.out.cell 0
            simp only [List.getElem?_toArray, List.getElem?_cons_zero, List.getElem?_cons_succ] at g0c
            obtain ⟨a, c, mg, mo⟩ := RA.out.m.ex
            have m1 : V.cell? ⟨G, 1, none⟩ = some (.bool K.has) := by simp only [World.cell?, mg]; rfl
            have MO : Hid _ := mo
            have MG : Hid _ := mg
            clear mo mg
            rw [hhs] at m1
            have HFin : Hid _ := (RA1.fin RA.out ⟨fr, 8, sl, ep, 0, false, []⟩ none 0 (World.ownsRow_nil _ _ _ _) V.heap.size (by simp))
            have HC2 : Hid _ := (RA.out).c
            go_wp2_with (first
              | (refine wpList_buildTo rfl 33 _ rfl (some 15) rfl #[.int .i64 8, .int .i64 0, .string ⟨#[]⟩, .string ⟨#[]⟩, .int .i64 0, .string ⟨#[]⟩, .int .i64 0, .int .i64 0, .string ⟨#[]⟩, .string ⟨#[]⟩, .int .i64 0, .int .i64 0, .int .i64 sl, .int .i64 ep, .int .i64 0, .bool false, .slice none 0 0] (by kernel_rfl) ?_)
              | (refine wpList_store_row rfl 33 (.tmp 5) (.tmp 15) rfl w2.heap.size #[.int .i64 8, .int .i64 0, .string ⟨#[]⟩, .string ⟨#[]⟩, .int .i64 0, .string ⟨#[]⟩, .int .i64 0, .int .i64 0, .string ⟨#[]⟩, .string ⟨#[]⟩, .int .i64 0, .int .i64 0, .int .i64 sl, .int .i64 ep, .int .i64 0, .bool false, .slice none 0 0] rfl rfl 33 _ N2.out (by kernel_rfl) rfl (by simp [Value.oneCell']) ?_; rw [← EV.out])
              | (refine wpList_load_row rfl 33 (.tmp 5) rfl w2.heap.size rfl 33 #[.int .i64 8, .int .i64 0, .string ⟨#[]⟩, .string ⟨#[]⟩, .int .i64 0, .string ⟨#[]⟩, .int .i64 0, .int .i64 0, .string ⟨#[]⟩, .string ⟨#[]⟩, .int .i64 0, .int .i64 0, .int .i64 sl, .int .i64 ep, .int .i64 0, .bool false, .slice none 0 0] (0, 0) _ HC2.out Try.underlying33 rfl (by kernel_rfl) ?_)
              | (refine wpList_buildTo rfl 35 _ rfl (some 91) rfl #[.int .i64 fr, .int .i64 8, .int .i64 0, .string ⟨#[]⟩, .string ⟨#[]⟩, .int .i64 0, .string ⟨#[]⟩, .int .i64 0, .int .i64 0, .string ⟨#[]⟩, .string ⟨#[]⟩, .int .i64 0, .int .i64 0, .int .i64 sl, .int .i64 ep, .int .i64 0, .bool false, .slice none 0 0] (by kernel_rfl) ?_)
              | (refine wpList_val (o := { dst := some 92, op := Go.Op.buildSlice 49 1 #[(0, Go.Operand.tmp 91)], type := 49, pos := "ref.go:53", after := #[{ on := 2, ground := Go.Ground.data }], guard := none }) _ rfl (build_ask1 _ _ _ _ _ _ _ _ _ _ _ _ _ _ _ _ _ _ _ _ _ _ _ _ _ _ _ _ _ _ _ _ _ _ _ _ _ _ _ _ _ _ _ _ _ _ _ _ _ _ _ _ _ _ _ _ _ _ _ _ _ _ _ _ _ _ _ _ _ _ _ _ _ _ _ _ _ _ _ _ _ _ _ _ _ _ _ _ _ _ _ undef _ (fr) (8) (0) sl ep (false) (.slice none 0 0) _) ?_))
            go_ret
            exact ⟨_, rfl, by rw [HE.out]; exact HFin.out.1, HFin.out.2.1, HFin.out.2.2⟩
          | true =>
            clear p1 p3 q3
            go_enter Try.func9, Try.ntmps9
            go_wp2_with (first | (refine wpList_load_row rfl 37 (.tmp 3) rfl w.heap.size rfl 37 _ (0, 0) _ Q1.out Try.underlying37 rfl (by kernel_rfl) ?_))
            refine HK.mono ?_
            clear HK
            rintro e w2 ⟨⟨kv, rfl⟩, h2, o2⟩
            obtain ⟨ra, x2⟩ := HT.out w2 h2 o2
            have y0 : w2.cell? ⟨w.heap.size, 0, none⟩ = some (.int .i64 sl) := by simp only [World.cell?, x2]; rfl
            have y3 : w2.cell? ⟨w.heap.size, 3, none⟩ = some (.int .i64 ep) := by simp only [World.cell?, x2]; rfl
            have yA0 : (w2.alloc (.cells #[.int .i64 0, .int .i64 0, .string ⟨#[]⟩, .string ⟨#[]⟩, .int .i64 0, .string ⟨#[]⟩, .int .i64 0, .int .i64 0, .string ⟨#[]⟩, .string ⟨#[]⟩, .int .i64 0, .int .i64 0, .int .i64 0, .int .i64 0, .int .i64 0, .bool false, .slice none 0 0] 33)).heap[w2.heap.size]? = some (.cells #[.int .i64 0, .int .i64 0, .string ⟨#[]⟩, .string ⟨#[]⟩, .int .i64 0, .string ⟨#[]⟩, .int .i64 0, .int .i64 0, .string ⟨#[]⟩, .string ⟨#[]⟩, .int .i64 0, .int .i64 0, .int .i64 0, .int .i64 0, .int .i64 0, .bool false, .slice none 0 0] 33 (0, 0)) := heap_alloc_new w2 _
            obtain ⟨V, eV⟩ : ∃ V, V = (w2.alloc (.cells #[.int .i64 0, .int .i64 0, .string ⟨#[]⟩, .string ⟨#[]⟩, .int .i64 0, .string ⟨#[]⟩, .int .i64 0, .int .i64 0, .string ⟨#[]⟩, .string ⟨#[]⟩, .int .i64 0, .int .i64 0, .int .i64 0, .int .i64 0, .int .i64 0, .bool false, .slice none 0 0] 33)).setRow w2.heap.size #[.int .i64 8, .int .i64 0, .string ⟨#[]⟩, .string ⟨#[]⟩, .int .i64 0, .string ⟨#[]⟩, .int .i64 0, .int .i64 0, .string ⟨#[]⟩, .string ⟨#[]⟩, .int .i64 0, .int .i64 0, .int .i64 sl, .int .i64 ep, .int .i64 0, .bool false, .slice none 0 0] := ⟨_, rfl⟩
            rw [← eV] at ra
            obtain ⟨N, eN⟩ : ∃ N, N = w2.heap.size := ⟨_, rfl⟩
            have N2 : Hid _ := yA0
            have EV : Hid _ := eV
            have v1 := ra.xc 1
            have v2 := ra.xc 2
            have v4 := ra.xc 4
            simp only [List.getElem?_toArray, List.getElem?_cons_zero, List.getElem?_cons_succ] at v1 v2 v4
            have RA : Hid _ := ra
            clear ra x2 yA0 h2 o2 HT eV eN N
            have g0 := RA.out.fz 0
            have g0c := RA.out.cell 0
            simp only [List.getElem?_toArray, List.getElem?_cons_zero, List.getElem?_cons_succ] at g0c
            obtain ⟨a, c, mg, mo⟩ := RA.out.m.ex
            have m1 : V.cell? ⟨G, 1, none⟩ = some (.bool K.has) := by simp only [World.cell?, mg]; rfl
            have MO : Hid _ := mo
            have MG : Hid _ := mg
            clear mo mg
            rw [hhs] at m1
            have hfit := RA.out.m.fits
            have hlen := RA.out.m.len
            have hw := inst_wrap K hfit hlen
            have r1 : RA1 w (V.setCell ⟨w2.heap.size, 0, none⟩ (.int .i64 9)) base G w2.heap.size K sl fr to ep 2 n #[.int .i64 9, .int .i64 0, .string ⟨#[]⟩, .string ⟨#[]⟩, .int .i64 0, .string ⟨#[]⟩, .int .i64 0, .int .i64 0, .string ⟨#[]⟩, .string ⟨#[]⟩, .int .i64 0, .int .i64 0, .int .i64 sl, .int .i64 ep, .int .i64 0, .bool false, .slice none 0 0] := RA.out.set HG.out 0 _
            have r2 : RA1 w ((V.setCell ⟨w2.heap.size, 0, none⟩ (.int .i64 9)).setCell ⟨w2.heap.size, 14, none⟩ (.int .i64 (K.at_ : Int))) base G w2.heap.size K sl fr to ep 2 n #[.int .i64 9, .int .i64 0, .string ⟨#[]⟩, .string ⟨#[]⟩, .int .i64 0, .string ⟨#[]⟩, .int .i64 0, .int .i64 0, .string ⟨#[]⟩, .string ⟨#[]⟩, .int .i64 0, .int .i64 0, .int .i64 sl, .int .i64 ep, .int .i64 (K.at_ : Int), .bool false, .slice none 0 0] := r1.set HG.out 14 _
            obtain ⟨a1, c1, mg1, mo1⟩ := r1.m.ex
            obtain ⟨a2, c2, mg2, mo2⟩ := r2.m.ex
            have z3 : (V.setCell ⟨w2.heap.size, 0, none⟩ (.int .i64 9)).cell? ⟨G, 3, none⟩ = some (.int .i64 (K.at_ : Int)) := by simp only [World.cell?, mg1]; rfl
            have z14 := r1.cell 14
            have z14f := r1.fz 14
            simp only [List.getElem?_toArray, List.getElem?_cons_zero, List.getElem?_cons_succ] at z14
            have y3' : ((V.setCell ⟨w2.heap.size, 0, none⟩ (.int .i64 9)).setCell ⟨w2.heap.size, 14, none⟩ (.int .i64 (K.at_ : Int))).cell? ⟨G, 3, none⟩ = some (.int .i64 (K.at_ : Int)) := by simp only [World.cell?, mg2]; rfl
            have y2' : ((V.setCell ⟨w2.heap.size, 0, none⟩ (.int .i64 9)).setCell ⟨w2.heap.size, 14, none⟩ (.int .i64 (K.at_ : Int))).cell? ⟨G, 2, none⟩ = some (.slice a2 K.d.length c2) := by simp only [World.cell?, mg2]; rfl
            have R2' : Hid _ := r2
            have MG2 : Hid _ := mg2
            have MO2 : Hid _ := mo2
            have HF : Hid (K.at_ ≤ K.d.length ∧ K.d.length ≤ 140737488351232) := ⟨hfit, hlen⟩
            clear r1 r2 mg1 mo1 mg2 mo2 hfit hlen
            by_cases hq : K.d.length < K.at_ + 1000
            · obtain ⟨hqI, hqE⟩ := inst_lt K hq
              have HE : Hid _ := inst_ask K sl fr to ep n hhs K.d.length hqE true (by simp)
              have HLn : Hid _ := inst_len K K.d.length HF.out.1 (Nat.le_refl _)
              clear hq hqE
              go_wp2_with (first
                | (refine wpList_buildTo rfl 33 _ rfl (some 15) rfl #[.int .i64 8, .int .i64 0, .string ⟨#[]⟩, .string ⟨#[]⟩, .int .i64 0, .string ⟨#[]⟩, .int .i64 0, .int .i64 0, .string ⟨#[]⟩, .string ⟨#[]⟩, .int .i64 0, .int .i64 0, .int .i64 sl, .int .i64 ep, .int .i64 0, .bool false, .slice none 0 0] (by kernel_rfl) ?_)
                | (refine wpList_store_row rfl 33 (.tmp 5) (.tmp 15) rfl w2.heap.size #[.int .i64 8, .int .i64 0, .string ⟨#[]⟩, .string ⟨#[]⟩, .int .i64 0, .string ⟨#[]⟩, .int .i64 0, .int .i64 0, .string ⟨#[]⟩, .string ⟨#[]⟩, .int .i64 0, .int .i64 0, .int .i64 sl, .int .i64 ep, .int .i64 0, .bool false, .slice none 0 0] rfl rfl 33 _ N2.out (by kernel_rfl) rfl (by simp [Value.oneCell']) ?_; rw [← EV.out]))
              refine rasks_r14 _ _ _ _ _ _ _ _ _ _ _ _ _ _ _ _ _ _ _ _ _ _ _ _ _ _ _ _ _ _ _ _ _ _ _ _ _ _ _ _ _ _ _ _ _ _ _ _ _ _ _ _ _ _ _ _ _ _ _ _ _ _ _ _ _ _ _ _ _ _ _ _ _ _ _ _ _ _ _ _ _ _ _ _ _ _ _ _ _ _ ((V.setCell ⟨w2.heap.size, 0, none⟩ (.int .i64 9)).setCell ⟨w2.heap.size, 14, none⟩ (.int .i64 (K.at_ : Int))) G w2.heap.size K.at_ K.d.length c2 (K.d.length) a2 K.has K.n _ base.n K.d MG2.out R2'.out.c rfl MO2.out.1 (HF.out.1) (Nat.le_refl _) HF.out.2 _ (fun _ _ _ _ _ h => h) ?_
              rintro W' ua uc v65 v66 v67 v68 v69 v70 v71 v72 v73 v74 v75 v76 v77 v78 b3 own3 n3
              have r3' := R2'.out.below b3
              have r3 : RA1 w (W'.setCell ⟨w2.heap.size, 16, none⟩ (.slice ua (K.d.length - K.at_) uc)) base G w2.heap.size K sl fr to ep 2 n #[.int .i64 9, .int .i64 0, .string ⟨#[]⟩, .string ⟨#[]⟩, .int .i64 0, .string ⟨#[]⟩, .int .i64 0, .int .i64 0, .string ⟨#[]⟩, .string ⟨#[]⟩, .int .i64 0, .int .i64 0, .int .i64 sl, .int .i64 ep, .int .i64 (K.at_ : Int), .bool false, .slice ua (K.d.length - K.at_) uc] := r3'.set HG.out 16 _
              have own4 := r3'.own_set own3 16 (.slice ua (K.d.length - K.at_) uc)
              have own5 := ownsRow_low (r3.own_set own4 15 (.bool (true))) R2'.out.ch.size
              have r4 : RA1 w ((W'.setCell ⟨w2.heap.size, 16, none⟩ (.slice ua (K.d.length - K.at_) uc)).setCell ⟨w2.heap.size, 15, none⟩ (.bool (true))) base G w2.heap.size K sl fr to ep 2 n #[.int .i64 9, .int .i64 0, .string ⟨#[]⟩, .string ⟨#[]⟩, .int .i64 0, .string ⟨#[]⟩, .int .i64 0, .int .i64 0, .string ⟨#[]⟩, .string ⟨#[]⟩, .int .i64 0, .int .i64 0, .int .i64 sl, .int .i64 ep, .int .i64 (K.at_ : Int), .bool (true), .slice ua (K.d.length - K.at_) uc] := r3.set HG.out 15 _
              obtain ⟨a3, c3, mg3, _⟩ := r3.m.ex
              have u2 : (W'.setCell ⟨w2.heap.size, 16, none⟩ (.slice ua (K.d.length - K.at_) uc)).cell? ⟨G, 2, none⟩ = some (.slice a3 K.d.length c3) := by simp only [World.cell?, mg3]; rfl
              have u15 := r3.cell 15
              have u15f := r3.fz 15
              have u4 := r4.xc 2
              simp only [List.getElem?_toArray, List.getElem?_cons_zero, List.getElem?_cons_succ] at u15 u4
              have hfin := RA1.fin r4 ⟨to, 9, sl, ep, K.at_, true, (K.d.drop K.at_).take (K.d.length - K.at_)⟩ ua uc (by dsimp only; rw [HLn.out]; exact own5) W'.heap.size (by simp)
              dsimp only at hfin
              rw [HLn.out] at hfin
              have HFin : Hid _ := hfin
              have HC2 : Hid _ := r4.c
              clear r3' r3 own3 own4 own5 r4 mg3 n3 b3 hfin z3 z14 z14f y2' y3'
              go_wp2_with (first
                | (refine wpList_load_row rfl 33 (.tmp 5) rfl w2.heap.size rfl 33 #[.int .i64 9, .int .i64 0, .string ⟨#[]⟩, .string ⟨#[]⟩, .int .i64 0, .string ⟨#[]⟩, .int .i64 0, .int .i64 0, .string ⟨#[]⟩, .string ⟨#[]⟩, .int .i64 0, .int .i64 0, .int .i64 sl, .int .i64 ep, .int .i64 (K.at_ : Int), .bool (true), .slice ua (K.d.length - K.at_) uc] (0, 0) _ HC2.out Try.underlying33 rfl (by kernel_rfl) ?_)
                | (refine wpList_buildTo rfl 35 _ rfl (some 91) rfl #[.int .i64 to, .int .i64 9, .int .i64 0, .string ⟨#[]⟩, .string ⟨#[]⟩, .int .i64 0, .string ⟨#[]⟩, .int .i64 0, .int .i64 0, .string ⟨#[]⟩, .string ⟨#[]⟩, .int .i64 0, .int .i64 0, .int .i64 sl, .int .i64 ep, .int .i64 (K.at_ : Int), .bool (true), .slice ua (K.d.length - K.at_) uc] (by kernel_rfl) ?_)
                | (refine wpList_val (o := { dst := some 92, op := Go.Op.buildSlice 49 1 #[(0, Go.Operand.tmp 91)], type := 49, pos := "ref.go:53", after := #[{ on := 2, ground := Go.Ground.data }], guard := none }) _ rfl (build_ask1 _ _ _ _ _ _ _ _ _ _ _ _ _ _ _ _ _ _ _ _ _ _ _ _ _ _ _ _ _ _ _ _ _ _ _ _ _ _ _ _ _ _ _ _ _ _ _ _ _ _ _ _ _ _ _ _ _ _ _ _ _ _ _ _ _ _ _ _ _ _ _ _ _ _ _ _ _ _ _ _ _ _ _ _ _ _ _ _ _ _ _ undef _ (to) (9) ((K.at_ : Int)) sl ep (true) (.slice ua (K.d.length - K.at_) uc) _) ?_))
              go_ret
              exact ⟨_, rfl, by rw [HE.out]; exact HFin.out.1, HFin.out.2.1, HFin.out.2.2⟩
            · obtain ⟨E, LB, hEq, hqI, hqE, hqL, hqB, hqD, hqA⟩ := inst_ge K hq
              have hw2 : wrap64 ((K.at_ : Int) + 1000) = ((E : Nat) : Int) := by rw [hw, hEq]
              have HE : Hid _ := inst_ask K sl fr to ep n hhs E hqE LB hqD
              have HLn : Hid _ := inst_len K E hqA hqL
              have HQL : Hid (E ≤ K.d.length) := hqL
              have HQA : Hid (K.at_ ≤ E) := hqA
              clear hq hqE hqL hqA hqD hw hEq
              go_wp2_with (first
                | (refine wpList_buildTo rfl 33 _ rfl (some 15) rfl #[.int .i64 8, .int .i64 0, .string ⟨#[]⟩, .string ⟨#[]⟩, .int .i64 0, .string ⟨#[]⟩, .int .i64 0, .int .i64 0, .string ⟨#[]⟩, .string ⟨#[]⟩, .int .i64 0, .int .i64 0, .int .i64 sl, .int .i64 ep, .int .i64 0, .bool false, .slice none 0 0] (by kernel_rfl) ?_)
                | (refine wpList_store_row rfl 33 (.tmp 5) (.tmp 15) rfl w2.heap.size #[.int .i64 8, .int .i64 0, .string ⟨#[]⟩, .string ⟨#[]⟩, .int .i64 0, .string ⟨#[]⟩, .int .i64 0, .int .i64 0, .string ⟨#[]⟩, .string ⟨#[]⟩, .int .i64 0, .int .i64 0, .int .i64 sl, .int .i64 ep, .int .i64 0, .bool false, .slice none 0 0] rfl rfl 33 _ N2.out (by kernel_rfl) rfl (by simp [Value.oneCell']) ?_; rw [← EV.out]))
              try rw [hw2]
              refine rasks_r14 _ _ _ _ _ _ _ _ _ _ _ _ _ _ _ _ _ _ _ _ _ _ _ _ _ _ _ _ _ _ _ _ _ _ _ _ _ _ _ _ _ _ _ _ _ _ _ _ _ _ _ _ _ _ _ _ _ _ _ _ _ _ _ _ _ _ _ _ _ _ _ _ _ _ _ _ _ _ _ _ _ _ _ _ _ _ _ _ _ _ ((V.setCell ⟨w2.heap.size, 0, none⟩ (.int .i64 9)).setCell ⟨w2.heap.size, 14, none⟩ (.int .i64 (K.at_ : Int))) G w2.heap.size K.at_ K.d.length c2 (E) a2 K.has K.n _ base.n K.d MG2.out R2'.out.c rfl MO2.out.1 HQA.out (HQL.out) HF.out.2 _ (fun _ _ _ _ _ h => h) ?_
              rintro W' ua uc v65 v66 v67 v68 v69 v70 v71 v72 v73 v74 v75 v76 v77 v78 b3 own3 n3
              have r3' := R2'.out.below b3
              have r3 : RA1 w (W'.setCell ⟨w2.heap.size, 16, none⟩ (.slice ua (E - K.at_) uc)) base G w2.heap.size K sl fr to ep 2 n #[.int .i64 9, .int .i64 0, .string ⟨#[]⟩, .string ⟨#[]⟩, .int .i64 0, .string ⟨#[]⟩, .int .i64 0, .int .i64 0, .string ⟨#[]⟩, .string ⟨#[]⟩, .int .i64 0, .int .i64 0, .int .i64 sl, .int .i64 ep, .int .i64 (K.at_ : Int), .bool false, .slice ua (E - K.at_) uc] := r3'.set HG.out 16 _
              have own4 := r3'.own_set own3 16 (.slice ua (E - K.at_) uc)
              have own5 := ownsRow_low (r3.own_set own4 15 (.bool (LB))) R2'.out.ch.size
              have r4 : RA1 w ((W'.setCell ⟨w2.heap.size, 16, none⟩ (.slice ua (E - K.at_) uc)).setCell ⟨w2.heap.size, 15, none⟩ (.bool (LB))) base G w2.heap.size K sl fr to ep 2 n #[.int .i64 9, .int .i64 0, .string ⟨#[]⟩, .string ⟨#[]⟩, .int .i64 0, .string ⟨#[]⟩, .int .i64 0, .int .i64 0, .string ⟨#[]⟩, .string ⟨#[]⟩, .int .i64 0, .int .i64 0, .int .i64 sl, .int .i64 ep, .int .i64 (K.at_ : Int), .bool (LB), .slice ua (E - K.at_) uc] := r3.set HG.out 15 _
              obtain ⟨a3, c3, mg3, _⟩ := r3.m.ex
              have u2 : (W'.setCell ⟨w2.heap.size, 16, none⟩ (.slice ua (E - K.at_) uc)).cell? ⟨G, 2, none⟩ = some (.slice a3 K.d.length c3) := by simp only [World.cell?, mg3]; rfl
              have u15 := r3.cell 15
              have u15f := r3.fz 15
              have u4 := r4.xc 2
              simp only [List.getElem?_toArray, List.getElem?_cons_zero, List.getElem?_cons_succ] at u15 u4
              have hfin := RA1.fin r4 ⟨to, 9, sl, ep, K.at_, LB, (K.d.drop K.at_).take (E - K.at_)⟩ ua uc (by dsimp only; rw [HLn.out]; exact own5) W'.heap.size (by simp)
              dsimp only at hfin
              rw [HLn.out] at hfin
              have HFin : Hid _ := hfin
              have HC2 : Hid _ := r4.c
              clear r3' r3 own3 own4 own5 r4 mg3 n3 b3 hfin z3 z14 z14f y2' y3'
              go_wp2_with (first
                | (refine wpList_load_row rfl 33 (.tmp 5) rfl w2.heap.size rfl 33 #[.int .i64 9, .int .i64 0, .string ⟨#[]⟩, .string ⟨#[]⟩, .int .i64 0, .string ⟨#[]⟩, .int .i64 0, .int .i64 0, .string ⟨#[]⟩, .string ⟨#[]⟩, .int .i64 0, .int .i64 0, .int .i64 sl, .int .i64 ep, .int .i64 (K.at_ : Int), .bool (LB), .slice ua (E - K.at_) uc] (0, 0) _ HC2.out Try.underlying33 rfl (by kernel_rfl) ?_)
                | (refine wpList_buildTo rfl 35 _ rfl (some 91) rfl #[.int .i64 to, .int .i64 9, .int .i64 0, .string ⟨#[]⟩, .string ⟨#[]⟩, .int .i64 0, .string ⟨#[]⟩, .int .i64 0, .int .i64 0, .string ⟨#[]⟩, .string ⟨#[]⟩, .int .i64 0, .int .i64 0, .int .i64 sl, .int .i64 ep, .int .i64 (K.at_ : Int), .bool (LB), .slice ua (E - K.at_) uc] (by kernel_rfl) ?_)
                | (refine wpList_val (o := { dst := some 92, op := Go.Op.buildSlice 49 1 #[(0, Go.Operand.tmp 91)], type := 49, pos := "ref.go:53", after := #[{ on := 2, ground := Go.Ground.data }], guard := none }) _ rfl (build_ask1 _ _ _ _ _ _ _ _ _ _ _ _ _ _ _ _ _ _ _ _ _ _ _ _ _ _ _ _ _ _ _ _ _ _ _ _ _ _ _ _ _ _ _ _ _ _ _ _ _ _ _ _ _ _ _ _ _ _ _ _ _ _ _ _ _ _ _ _ _ _ _ _ _ _ _ _ _ _ _ _ _ _ _ _ _ _ _ _ _ _ _ undef _ (to) (9) ((K.at_ : Int)) sl ep (LB) (.slice ua (E - K.at_) uc) _) ?_))
              go_ret
              exact ⟨_, rfl, by rw [HE.out]; exact HFin.out.1, HFin.out.2.1, HFin.out.2.2⟩
        · have p1' : ph = 1 := by omega
          subst p1'
          have HE : Hid (askP K ⟨sl, fr, to, ep, 1, n⟩ = some ⟨fr, 8, sl, ep, 0, false, []⟩) := by show _ = _; rfl
          clear p1 p3 q3 q2
          go_enter Try.func9, Try.ntmps9
          go_wp2_with (first | (refine wpList_load_row rfl 37 (.tmp 3) rfl w.heap.size rfl 37 _ (0, 0) _ Q1.out Try.underlying37 rfl (by kernel_rfl) ?_))
          refine HK.mono ?_
          clear HK
          rintro e w2 ⟨⟨kv, rfl⟩, h2, o2⟩
          obtain ⟨ra, x2⟩ := HT.out w2 h2 o2
          have y0 : w2.cell? ⟨w.heap.size, 0, none⟩ = some (.int .i64 sl) := by simp only [World.cell?, x2]; rfl
          have y3 : w2.cell? ⟨w.heap.size, 3, none⟩ = some (.int .i64 ep) := by simp only [World.cell?, x2]; rfl
          have yA0 : (w2.alloc (.cells #[.int .i64 0, .int .i64 0, .string ⟨#[]⟩, .string ⟨#[]⟩, .int .i64 0, .string ⟨#[]⟩, .int .i64 0, .int .i64 0, .string ⟨#[]⟩, .string ⟨#[]⟩, .int .i64 0, .int .i64 0, .int .i64 0, .int .i64 0, .int .i64 0, .bool false, .slice none 0 0] 33)).heap[w2.heap.size]? = some (.cells #[.int .i64 0, .int .i64 0, .string ⟨#[]⟩, .string ⟨#[]⟩, .int .i64 0, .string ⟨#[]⟩, .int .i64 0, .int .i64 0, .string ⟨#[]⟩, .string ⟨#[]⟩, .int .i64 0, .int .i64 0, .int .i64 0, .int .i64 0, .int .i64 0, .bool false, .slice none 0 0] 33 (0, 0)) := heap_alloc_new w2 _
          obtain ⟨V, eV⟩ : ∃ V, V = (w2.alloc (.cells #[.int .i64 0, .int .i64 0, .string ⟨#[]⟩, .string ⟨#[]⟩, .int .i64 0, .string ⟨#[]⟩, .int .i64 0, .int .i64 0, .string ⟨#[]⟩, .string ⟨#[]⟩, .int .i64 0, .int .i64 0, .int .i64 0, .int .i64 0, .int .i64 0, .bool false, .slice none 0 0] 33)).setRow w2.heap.size #[.int .i64 8, .int .i64 0, .string ⟨#[]⟩, .string ⟨#[]⟩, .int .i64 0, .string ⟨#[]⟩, .int .i64 0, .int .i64 0, .string ⟨#[]⟩, .string ⟨#[]⟩, .int .i64 0, .int .i64 0, .int .i64 sl, .int .i64 ep, .int .i64 0, .bool false, .slice none 0 0] := ⟨_, rfl⟩
          rw [← eV] at ra
          obtain ⟨N, eN⟩ : ∃ N, N = w2.heap.size := ⟨_, rfl⟩
          have N2 : Hid _ := yA0
          have EV : Hid _ := eV
          have v1 := ra.xc 1
          have v2 := ra.xc 2
          have v4 := ra.xc 4
          simp only [List.getElem?_toArray, List.getElem?_cons_zero, List.getElem?_cons_succ] at v1 v2 v4
          have RA : Hid _ := ra
          clear ra x2 yA0 h2 o2 HT eV eN N
          have g0 := RA.out.fz 0
          have g0c := RA.out.cell 0
          simp only [List.getElem?_toArray, List.getElem?_cons_zero, List.getElem?_cons_succ] at g0c
          obtain ⟨a, c, mg, mo⟩ := RA.out.m.ex
          have m1 : V.cell? ⟨G, 1, none⟩ = some (.bool K.has) := by simp only [World.cell?, mg]; rfl
          have MO : Hid _ := mo
          have MG : Hid _ := mg
          clear mo mg
          have HFin : Hid _ := (RA1.fin RA.out ⟨fr, 8, sl, ep, 0, false, []⟩ none 0 (World.ownsRow_nil _ _ _ _) V.heap.size (by simp))
          have HC2 : Hid _ := (RA.out).c
          go_wp2_with (first
            | (refine wpList_buildTo rfl 33 _ rfl (some 15) rfl #[.int .i64 8, .int .i64 0, .string ⟨#[]⟩, .string ⟨#[]⟩, .int .i64 0, .string ⟨#[]⟩, .int .i64 0, .int .i64 0, .string ⟨#[]⟩, .string ⟨#[]⟩, .int .i64 0, .int .i64 0, .int .i64 sl, .int .i64 ep, .int .i64 0, .bool false, .slice none 0 0] (by kernel_rfl) ?_)
            | (refine wpList_store_row rfl 33 (.tmp 5) (.tmp 15) rfl w2.heap.size #[.int .i64 8, .int .i64 0, .string ⟨#[]⟩, .string ⟨#[]⟩, .int .i64 0, .string ⟨#[]⟩, .int .i64 0, .int .i64 0, .string ⟨#[]⟩, .string ⟨#[]⟩, .int .i64 0, .int .i64 0, .int .i64 sl, .int .i64 ep, .int .i64 0, .bool false, .slice none 0 0] rfl rfl 33 _ N2.out (by kernel_rfl) rfl (by simp [Value.oneCell']) ?_; rw [← EV.out])
            | (refine wpList_load_row rfl 33 (.tmp 5) rfl w2.heap.size rfl 33 #[.int .i64 8, .int .i64 0, .string ⟨#[]⟩, .string ⟨#[]⟩, .int .i64 0, .string ⟨#[]⟩, .int .i64 0, .int .i64 0, .string ⟨#[]⟩, .string ⟨#[]⟩, .int .i64 0, .int .i64 0, .int .i64 sl, .int .i64 ep, .int .i64 0, .bool false, .slice none 0 0] (0, 0) _ HC2.out Try.underlying33 rfl (by kernel_rfl) ?_)
            | (refine wpList_buildTo rfl 35 _ rfl (some 91) rfl #[.int .i64 fr, .int .i64 8, .int .i64 0, .string ⟨#[]⟩, .string ⟨#[]⟩, .int .i64 0, .string ⟨#[]⟩, .int .i64 0, .int .i64 0, .string ⟨#[]⟩, .string ⟨#[]⟩, .int .i64 0, .int .i64 0, .int .i64 sl, .int .i64 ep, .int .i64 0, .bool false, .slice none 0 0] (by kernel_rfl) ?_)
            | (refine wpList_val (o := { dst := some 92, op := Go.Op.buildSlice 49 1 #[(0, Go.Operand.tmp 91)], type := 49, pos := "ref.go:53", after := #[{ on := 2, ground := Go.Ground.data }], guard := none }) _ rfl (build_ask1 _ _ _ _ _ _ _ _ _ _ _ _ _ _ _ _ _ _ _ _ _ _ _ _ _ _ _ _ _ _ _ _ _ _ _ _ _ _ _ _ _ _ _ _ _ _ _ _ _ _ _ _ _ _ _ _ _ _ _ _ _ _ _ _ _ _ _ _ _ _ _ _ _ _ _ _ _ _ _ _ _ _ _ _ _ _ _ _ _ _ _ undef _ (fr) (8) (0) sl ep (false) (.slice none 0 0) _) ?_))
          go_ret
          exact ⟨_, rfl, by rw [HE.out]; exact HFin.out.1, HFin.out.2.1, HFin.out.2.2⟩
end Go.Proofs.Ytcmhkeaimgppgaa
