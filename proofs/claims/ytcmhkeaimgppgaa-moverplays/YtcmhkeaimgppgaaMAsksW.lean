/- The law's list of what is asked. -/
import Derived.Test.YtcmhkeaimgppgaaMOut
namespace Go.Proofs.Ytcmhkeaimgppgaa
open Go.RowKit Go.Shelf
attribute [local go_sem] Oper.semAt_some
set_option linter.unusedVariables false

/-- What was handed on, with its bytes. -/
def Had (o : Option PAsk) (B : Nat) (pre : List AskV) (X : World) : Prop := pre = [] ∨ ∃ p u, o = some p ∧ pre = [p.v u] ∧ X.ownsRow B 5 1 u p.l.length (cellsOf p.l)
theorem Had.kept {o : Option PAsk} {B : Nat} {pre : List AskV} {X Z : World} (h : Had o B pre X) (k : ∀ g cur, g < X.heap.size → X.heap[g]? = some (.cells cur 5 (0, 0)) → Z.heap[g]? = X.heap[g]?) : Had o B pre Z := by
  rcases h with h | ⟨p, u, h1, h2, h3⟩
  · exact .inl h
  · refine .inr ⟨p, u, h1, h2, owns_kept h3 (fun g e => ?_)⟩
    obtain ⟨_, hl, cur, hc⟩ := row_kind h3 e
    exact k g cur hl hc
/-- What the law's asks answers. -/
def AsksTold (o : Option PAsk) (B : Nat) (v : Value) (X : World) : Prop :=
  match o with
  | none => X.ownsRow B 54 18 v 0 []
  | some p => ∃ u, X.ownsRow B 54 18 v 1 (AskV.cells (p.v u)) ∧ X.ownsRow B 5 1 u p.l.length (cellsOf p.l)
theorem ownsRow_low {X : World} {B B' : Nat} {t : TypeId} {s n : Nat} {v : Value} {l : List Value} (h : X.ownsRow B t s v n l) (hb : B' ≤ B) : X.ownsRow B' t s v n l :=
  ⟨h.1, h.2.imp id (fun ⟨g, cp, cur, e1, e2, e3⟩ => ⟨g, cp, cur, e1, Nat.le_trans hb e2, e3⟩)⟩
set_option maxRecDepth 100000 in
set_option maxHeartbeats 4000000 in
theorem asks_any {w : World} {base : Bs} {G : Nat} {M : MD} (h : MvIn w base G M) (x : MvD) :
    Calls Try.prog 7 #[.pointer (some ⟨G, 0, none⟩), .agg #[.int .i64 x.slot, .int .i64 x.fr, .int .i64 x.to, .int .i64 x.ep, .int .i64 x.ph, .int .i64 x.n]] w fun e w' => ∃ v, e = .returned v ∧ AsksTold (askP (knowM M x) x) w.heap.size v w' ∧ MvIn w' base G (knowM M x) ∧ OnlyR w w' G := by
  have bA : Below w.heap.size w ((w.alloc (.cells #[.int .i64 x.slot, .int .i64 x.fr, .int .i64 x.to, .int .i64 x.ep, .int .i64 x.ph, .int .i64 x.n] 47)).alloc (.cells #[.slice none 0 0] 45)) := ((Below.refl _ w).alloc (Nat.le_refl _) _).alloc (by simp) _
  have HF := masks_any (h.below bA) x
  have q2 := heap_two w (.cells #[.int .i64 x.slot, .int .i64 x.fr, .int .i64 x.to, .int .i64 x.ep, .int .i64 x.ph, .int .i64 x.n] 47) (.cells #[.slice none 0 0] 45)
  have hlt := h.lt
  have HT : Hid (∀ w2, OnlyR ((w.alloc (.cells #[.int .i64 x.slot, .int .i64 x.fr, .int .i64 x.to, .int .i64 x.ep, .int .i64 x.ph, .int .i64 x.n] 47)).alloc (.cells #[.slice none 0 0] 45)) w2 G → w2.heap[w.heap.size + 1]? = some (.cells #[.slice none 0 0] 45 (0, 0)) ∧ w.heap.size + 1 < w2.heap.size ∧ OnlyR w w2 G) := fun w2 o2 => by
    have hs : w.heap.size + 1 < ((w.alloc (.cells #[.int .i64 x.slot, .int .i64 x.fr, .int .i64 x.to, .int .i64 x.ep, .int .i64 x.ph, .int .i64 x.n] 47)).alloc (.cells #[.slice none 0 0] 45)).heap.size := (Array.getElem?_eq_some_iff.1 q2).1
    exact ⟨(o2.block _ hs (by omega)).trans q2, Nat.lt_of_lt_of_le hs o2.size, (OnlyR.of_below bA G).trans o2⟩
  have HG : Hid (G < w.heap.size) := hlt
  have hsome := seqA_some
  obtain ⟨o, ho⟩ : ∃ o, askP (knowM M x) x = o := ⟨_, rfl⟩
  rw [ho] at HF ⊢
  clear ho
  refine (callsIn_wide (n := 5)).1 ?_
  refine callsIn_of_wp_marks Try.func7 rfl trivial ?_ rfl
  simp only [Try.ntmps7, List.size_toArray, List.length_cons, List.length_nil, Nat.reduceAdd, Nat.reduceSub, Array.replicate_succ, Array.replicate_zero, List.push_toArray, List.append_toArray, List.nil_append, List.cons_append]
  clear h bA q2 hlt
  gi_wp2_with fail
  refine ⟨trivial, (callsIn_wide.2 HF).mono ?_⟩
  rintro e w2 ⟨Bi, Ba, rfl, hF, hM, hO⟩
  have HFn : Hid (AskFn w2 Bi Ba o) := hF
  have HM2 : Hid (MvIn w2 base G (knowM M x)) := hM
  obtain ⟨t1, t2, t3⟩ := HT.out w2 hO
  have T2 : Hid (w.heap.size + 1 < w2.heap.size) := t2
  have HO2 : Hid (OnlyR w w2 G) := t3
  have H2 : Hid (OutI w2 w2 (w.heap.size + 1) [] (.slice none 0 0)) := ⟨OnlyR.refl _ _, t1, World.ownsRow_nil _ _ _ _, t2⟩
  clear HF hF hM hO t1 t2 t3 HT
  gi_wp2_with fail
  clear hsome
  refine range_V (n := 5) (gf := 30) (lb := #[.pointer (some ⟨Bi, 0, none⟩), .pointer (some ⟨Ba, 0, none⟩)]) (w0 := w2) rfl (enters_of Try.func30 (by kernel_rfl) rfl)
    (masks2_seq (5 - 1) Bi Ba o w2 HFn.out) (fun _ _ => trivial) (fun _ _ _ _ _ _ => trivial) (Below.refl _ _) (fun _ => rfl)
    (fun pre X => ∃ v, OutI w2 X (w.heap.size + 1) pre v ∧ Had o w2.heap.size pre X) (fun _ _ _ => False)
    (fun pre X Z h hb => by obtain ⟨v, h, h'⟩ := h; exact ⟨v, h.below hb, h'.kept (fun g _ hg _ => hb.block g hg)⟩) (fun _ _ _ _ h _ => h)
    (fun pre X l o o' hl h ho hc => by
      obtain ⟨v, h, h'⟩ := h
      refine ⟨v, h.put o' hl ho hc, h'.kept (fun g cur hg hq => World.putObj_heap_other (fun e2 => ?_))⟩
      rw [e2, ho] at hq
      cases hq
      simp [Obj.isCells] at hc) (fun _ _ _ _ _ _ _ h _ _ => h) ⟨_, H2.out, .inl rfl⟩
    (fun (pre : List AskV) (y : AskV) (act : Act) (X : World) => RM o w2.heap.size pre y X ∧ ∃ Bx, X.heap[Bx]? = some (.cells (AskV.cells y).toArray 54 (0, 0)) ∧ act = { tmps := #[.pointer (some ⟨G, 0, none⟩), .agg #[.int .i64 x.slot, .int .i64 x.fr, .int .i64 x.to, .int .i64 x.ep, .int .i64 x.ph, .int .i64 x.n], undef, .pointer (some ⟨w.heap.size, 0, none⟩), .slice none 0 0, .pointer (some ⟨w.heap.size + 1, 0, none⟩), .func (.func 30) #[] #[.pointer (some ⟨Bi, 0, none⟩), .pointer (some ⟨Ba, 0, none⟩)], .pointer (some ⟨Bx, 0, none⟩), .pointer (some ⟨G, 0, none⟩), .agg #[.int .i64 x.slot, .int .i64 x.fr, .int .i64 x.to, .int .i64 x.ep, .int .i64 x.ph, .int .i64 x.n], .func (.func 30) #[] #[.pointer (some ⟨Bi, 0, none⟩), .pointer (some ⟨Ba, 0, none⟩)], .func (.func 30) #[] #[.pointer (some ⟨Bi, 0, none⟩), .pointer (some ⟨Ba, 0, none⟩)], .bool false, .func (.func 30) #[] #[.pointer (some ⟨Bi, 0, none⟩), .pointer (some ⟨Ba, 0, none⟩)], .agg (AskV.cells y).toArray, undef, undef, undef, undef, undef], defers := [] })
    ?hAx ?assign ?body ?done (fun _ _ _ _ _ _ h _ => h.elim)
  case hAx =>
    rintro pre y act _ X Z row ⟨⟨h1, p, u, h2, h3, h4⟩, Bx, h5, h6⟩ hg hrow
    refine ⟨⟨h1, p, u, h2, h3, owns_kept h4 (fun g e => ?_)⟩, Bx, (grownBy_keeps_cells hg (fun r e => (hrow r e).2) h5 rfl).trans h5, h6⟩
    obtain ⟨_, _, cur, hc⟩ := row_kind h4 e
    exact grownBy_keeps_cells hg (fun r e => (hrow r e).2) hc rfl
  case assign =>
    rintro l' pre y X K ⟨v, hv, hh⟩ hr hK
    obtain ⟨h1, p, u, h2, rfl, h4⟩ := hr
    obtain ⟨ua, uc, e5, _⟩ := row_form h4
    have hall : (AskV.cells (p.v u)).toArray.all (·.oneCell') = true := by rw [e5]; exact askAll _ rfl
    have bA : Below X.heap.size X ((X.alloc (.cells #[.int .i64 0, .int .i64 0, .int .i64 0, .string ⟨#[]⟩, .string ⟨#[]⟩, .int .i64 0, .string ⟨#[]⟩, .int .i64 0, .int .i64 0, .string ⟨#[]⟩, .string ⟨#[]⟩, .int .i64 0, .int .i64 0, .int .i64 0, .int .i64 0, .int .i64 0, .bool false, .slice none 0 0] 54)).setRow X.heap.size (AskV.cells (p.v u)).toArray) := below_row ((Below.refl _ X).alloc (Nat.le_refl _) _) (Nat.le_refl _) _
    rw [zip_one]
    obtain ⟨g, k, slot, ep, at_, last, l⟩ := p
    simp only [PAsk.v, mAsk_cells, List.setIfInBounds_toArray, List.set_cons_zero, List.set_cons_succ] at hall bA ⊢
    refine asks_assign _ _ (w.heap.size + 1) _ _ _ _ _ undef _ undef _ _ _ _ _ _ undef _ _ _ _ _ _ _ _ _ _ _ _ _ _ _ _ _ _ _ _ _ _ _ X _ hall ?_
    refine hK _ _ (kf_of_below bA) trivial ⟨v, hv.below bA, hh.kept (fun g _ hg _ => bA.block g hg)⟩ ⟨⟨h1, ⟨g, k, slot, ep, at_, last, l⟩, u, h2, rfl, owns_kept h4 (fun g e => bA.block g (row_kind h4 e).2.1)⟩, X.heap.size, ?_, rfl⟩
    simp only [PAsk.v, mAsk_cells]
    exact setRow_self (heap_alloc_new X _)
  case body =>
    rintro l' pre y act X ⟨v, hv, hh⟩ ⟨⟨rfl, p, u, h2, rfl, h4⟩, Bx, hx, rfl⟩
    obtain ⟨ua, uc, e5, _⟩ := row_form h4
    obtain ⟨v', Z, hrun, hz, hzf, ho, hkx, hkf⟩ := hv.more (by simp) (p.v u) (by rw [e5]; rfl)
    have cx : X.cell? ⟨w.heap.size + 1, 0, none⟩ = some v := by simp only [World.cell?, hv.bx]; rfl
    obtain ⟨a5, c5, e6, _⟩ := row_form ho.row
    rw [List.length_append, List.length_singleton] at e6
    subst e6
    obtain ⟨a6, c6, e7, _⟩ := row_form hv.row
    subst e7
    have HH : Hid (Had o w2.heap.size ([] ++ [p.v u]) (Z.setCell ⟨w.heap.size + 1, 0, none⟩ (.slice a5 (([] : List AskV).length + 1) c5))) := .inr ⟨p, u, h2, rfl, hkx _ _ _ _ h4⟩
    have HO : Hid _ := ho
    have HKF : Hid _ := hkf
    have HRun : Hid _ := hrun
    clear hrun ho hkx hkf hv hh h4
    obtain ⟨g, k, slot, ep, at_, last, l⟩ := p
    simp only [PAsk.v, mAsk_cells] at HRun hx ⊢
    exact asks_body _ _ (w.heap.size + 1) Bx _ _ _ _ _ undef _ undef _ _ _ _ _ _ _ _ _ _ _ _ _ _ _ _ _ _ _ _ _ _ _ _ _ _ _ _ _ _ X Z _ _ _ _ _ _ _ cx hx HRun.out hz hzf (fun act => ⟨HKF.out _, trivial, _, HO.out, HH.out⟩)
  case done =>
    rintro D xs X hD hS ⟨v, hv, hh⟩ hK
    have cx : X.cell? ⟨w.heap.size + 1, 0, none⟩ = some v := by simp only [World.cell?, hv.bx]; rfl
    have HV : Hid _ := hv
    have HH : Hid _ := hh
    have HSM : Hid _ := hS
    have HK : Hid (X.heap[D]? = some (.deferred (some []))) := hK
    have HDD : Hid (w2.heap.size ≤ D) := hD
    clear hv hK hh hS hD
    gi_wp2
    refine ⟨by simp, .inl ⟨_, _, rfl, run_takeDeferred HK.out, ?_⟩⟩
    have hp := HV.out.put (.deferred none) HDD.out HK.out rfl
    have hh := Had.kept HH.out (Z := X.putObj D (.deferred none)) (fun g cur hg hq => World.putObj_heap_other (fun e2 => by rw [e2, HK.out] at hq; cases hq))
    have hlo : w.heap.size ≤ w2.heap.size := by have := T2.out; omega
    refine ⟨_, results_tmp rfl _ _ _, v, rfl, ?_, ?_, ?_⟩
    · rcases HSM.out with ⟨h1, rfl⟩ | ⟨p, u, h1, rfl⟩
      · rw [h1]
        exact ownsRow_low hp.row hlo
      · rw [h1]
        rcases hh with hh | ⟨p', u', h3, h4, h5⟩
        · cases hh
        · rw [h1] at h3
          cases h3
          have e8 : p.v u = p.v u' := List.head_eq_of_cons_eq h4
          refine ⟨u', ?_, ownsRow_low h5 hlo⟩
          have := ownsRow_low hp.row hlo
          rw [e8] at this
          simpa [flat] using this
    · have e9 := hp.bx
      refine HM2.out.other (Q := w.heap.size + 1) (o := .cells #[.slice none 0 0] 45 (0, 0)) (by have := HG.out; omega) H2.out.bx (fun cur z e => ?_) (fun g hg hl => hp.ch.block g hl hg)
      injection e with _ e
      exact absurd e (by decide)
    · exact ⟨hp.ch.os.trans HO2.out.os, hp.ch.tape.trans HO2.out.tape, hp.ch.output.trans HO2.out.output, Nat.le_trans HO2.out.size hp.ch.size, fun k hk hn => (hp.ch.block k (Nat.lt_of_lt_of_le hk HO2.out.size) (by omega)).trans (HO2.out.block k hk hn)⟩
end Go.Proofs.Ytcmhkeaimgppgaa
