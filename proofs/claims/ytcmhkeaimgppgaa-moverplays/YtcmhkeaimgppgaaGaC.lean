/- Package mover: ownAsk. -/
import Derived.Test.YtcmhkeaimgppgaaMAskM
namespace Go.Proofs.Ytcmhkeaimgppgaa
open Go.RowKit
attribute [local go_sem] Oper.semAt_some
set_option linter.unusedVariables false

/-- The same ask with other bytes. -/
def withData (x : AskV) (v : Value) : AskV := (x.1, { x.2 with data := v })
theorem withData_cells (x : AskV) (v : Value) : (AskV.cells x).set 17 v = AskV.cells (withData x v) := rfl
set_option maxRecDepth 100000 in
set_option maxHeartbeats 1600000 in
theorem ownAsk_any (x : AskV) (pa : Option Addr) (pn pc : Nat) (l : List (BitVec 8)) (w : World) (hd : x.2.data = .slice pa pn pc) (hs : Seen w pa pn l) (hnil : pa = none → pc = 0) (hm : pn ≤ 140737488355328) :
    Calls Try.prog 31 #[.agg (AskV.cells x).toArray] w fun e w' => ∃ v, e = .returned (.agg (AskV.cells (withData x v)).toArray) ∧ w'.ownsRow w.heap.size 5 1 v pn (cellsOf l) ∧ Below w.heap.size w w' := by
  have hc1 : (Try.prog.info? 54).map (·.size) = some (AskV.cells x).toArray.size := by kernel_rfl
  have hc2 : (#[.int .i64 0, .int .i64 0, .int .i64 0, .string ⟨#[]⟩, .string ⟨#[]⟩, .int .i64 0, .string ⟨#[]⟩, .int .i64 0, .int .i64 0, .string ⟨#[]⟩, .string ⟨#[]⟩, .int .i64 0, .int .i64 0, .int .i64 0, .int .i64 0, .int .i64 0, .bool false, .slice none 0 0] : Array Value).size = (AskV.cells x).toArray.size := rfl
  have hc4 : (AskV.cells x)[17]? = some (.slice pa pn pc) := by rw [← hd]; rfl
  have hset : ∀ v, (AskV.cells x).set 17 v = AskV.cells (withData x v) := fun v => rfl
  have hall : ∀ v : Value, v.oneCell' = true → ((AskV.cells x).set 17 v).toArray.all (·.oneCell') = true := fun v h => by rw [hset]; exact askAll _ h
  simp only [← hset]
  generalize AskV.cells x = C at *
  have bA : Below w.heap.size w ((w.alloc (.cells C.toArray 54)).alloc (.cells #[.int .i64 0, .int .i64 0, .int .i64 0, .string ⟨#[]⟩, .string ⟨#[]⟩, .int .i64 0, .string ⟨#[]⟩, .int .i64 0, .int .i64 0, .string ⟨#[]⟩, .string ⟨#[]⟩, .int .i64 0, .int .i64 0, .int .i64 0, .int .i64 0, .int .i64 0, .bool false, .slice none 0 0] 54)) := ((Below.refl _ w).alloc (Nat.le_refl _) _).alloc (by simp) _
  have q2 := heap_two w (.cells C.toArray 54) (.cells #[.int .i64 0, .int .i64 0, .int .i64 0, .string ⟨#[]⟩, .string ⟨#[]⟩, .int .i64 0, .string ⟨#[]⟩, .int .i64 0, .int .i64 0, .string ⟨#[]⟩, .string ⟨#[]⟩, .int .i64 0, .int .i64 0, .int .i64 0, .int .i64 0, .int .i64 0, .bool false, .slice none 0 0] 54)
  have q1 : ((w.alloc (.cells C.toArray 54)).alloc (.cells #[.int .i64 0, .int .i64 0, .int .i64 0, .string ⟨#[]⟩, .string ⟨#[]⟩, .int .i64 0, .string ⟨#[]⟩, .int .i64 0, .int .i64 0, .string ⟨#[]⟩, .string ⟨#[]⟩, .int .i64 0, .int .i64 0, .int .i64 0, .int .i64 0, .int .i64 0, .bool false, .slice none 0 0] 54)).heap[w.heap.size]? = some (.cells C.toArray 54 (0, 0)) := by rw [Below.heap_alloc _ _ _ (by simp), heap_alloc_new]
  have p17 : ((w.alloc (.cells C.toArray 54)).alloc (.cells #[.int .i64 0, .int .i64 0, .int .i64 0, .string ⟨#[]⟩, .string ⟨#[]⟩, .int .i64 0, .string ⟨#[]⟩, .int .i64 0, .int .i64 0, .string ⟨#[]⟩, .string ⟨#[]⟩, .int .i64 0, .int .i64 0, .int .i64 0, .int .i64 0, .int .i64 0, .bool false, .slice none 0 0] 54)).cell? ⟨w.heap.size, 17, none⟩ = some (.slice pa pn pc) := by simp only [World.cell?, q1]; simpa using hc4
  have HC := clone_any pa pn pc l ((w.alloc (.cells C.toArray 54)).alloc (.cells #[.int .i64 0, .int .i64 0, .int .i64 0, .string ⟨#[]⟩, .string ⟨#[]⟩, .int .i64 0, .string ⟨#[]⟩, .int .i64 0, .int .i64 0, .string ⟨#[]⟩, .string ⟨#[]⟩, .int .i64 0, .int .i64 0, .int .i64 0, .int .i64 0, .int .i64 0, .bool false, .slice none 0 0] 54)) (hs.below bA) hnil hm
  have Q1 : Hid _ := q1
  have Q2 : Hid _ := q2
  have BA : Hid _ := bA
  have C1 : Hid _ := hc1
  have C2 : Hid _ := hc2
  have HALL : Hid _ := hall
  have HM : Hid (pn ≤ 140737488355328) := hm
  clear q1 q2 bA hc1 hc2 hall hc4 hset hm hs hnil hd
  go_enter Try.func31, Try.ntmps31
  go_wp2_with fail
  refine HC.mono ?_
  clear HC p17
  generalize (w.alloc (.cells C.toArray 54)).alloc (.cells #[.int .i64 0, .int .i64 0, .int .i64 0, .string ⟨#[]⟩, .string ⟨#[]⟩, .int .i64 0, .string ⟨#[]⟩, .int .i64 0, .int .i64 0, .string ⟨#[]⟩, .string ⟨#[]⟩, .int .i64 0, .int .i64 0, .int .i64 0, .int .i64 0, .int .i64 0, .bool false, .slice none 0 0] 54) = V at *
  rintro e w2 ⟨v, rfl, o, b2⟩
  obtain ⟨va, vc, rfl, hseen, _⟩ := owned_seen o (by have := HM.out; unfold maxLen; omega)
  have l1 : w.heap.size + 1 < V.heap.size := (Array.getElem?_eq_some_iff.1 Q2.out).1
  have l0 : w.heap.size < V.heap.size := by omega
  have r1 : w2.heap[w.heap.size]? = _ := (b2.block _ l0).trans Q1.out
  have r2 : w2.heap[w.heap.size + 1]? = _ := (b2.block _ l1).trans Q2.out
  have bw := BA.out.trans (b2.mono BA.out.size)
  have z17 : ∃ u, w2.cell? ⟨w.heap.size, 17, none⟩ = some u := by
    simp only [World.cell?, r1]
    have hl : C.length = 18 := by have := C2.out; simpa using this.symm
    exact ⟨C[17], by simp [hl]⟩
  obtain ⟨u, z17⟩ := z17
  have f17 : w2.frozen? ⟨w.heap.size, 17, none⟩ = false := by simp only [World.frozen?, r1]; rfl
  have e3 : w2.setCell ⟨w.heap.size, 17, none⟩ (.slice va pn vc) = w2.setRow w.heap.size (C.set 17 (.slice va pn vc)).toArray := by
    rw [setCell_eq_setRow w2 w.heap.size 17 _ _ _ (.slice va pn vc) r1]
    simp
  obtain ⟨V3, h3⟩ : ∃ V3, V3 = w2.setCell ⟨w.heap.size, 17, none⟩ (.slice va pn vc) := ⟨_, rfl⟩
  have n3 : V3.heap[w.heap.size]? = some (.cells (C.set 17 (.slice va pn vc)).toArray 54 (0, 0)) := by rw [h3, e3]; exact setRow_self r1
  have s3 : V3.heap[w.heap.size + 1]? = some (.cells #[.int .i64 0, .int .i64 0, .int .i64 0, .string ⟨#[]⟩, .string ⟨#[]⟩, .int .i64 0, .string ⟨#[]⟩, .int .i64 0, .int .i64 0, .string ⟨#[]⟩, .string ⟨#[]⟩, .int .i64 0, .int .i64 0, .int .i64 0, .int .i64 0, .int .i64 0, .bool false, .slice none 0 0] 54 (0, 0)) := by rw [h3, e3]; exact (setRow_other _ _ _ _ (by omega)).trans r2
  have bw3 : Below w.heap.size w V3 := by rw [h3, e3]; exact below_row bw (Nat.le_refl _) _
  have o3 : V3.ownsRow w.heap.size 5 1 (.slice va pn vc) pn (cellsOf l) := by
    rw [h3, e3]
    have ob := owns_kept (w' := w2.setRow w.heap.size (C.set 17 (.slice va pn vc)).toArray) o (fun g e => setRow_other _ _ _ _ (by have := (row_kind o e).1; omega))
    exact ⟨ob.1, ob.2.imp id (fun ⟨g, cp, cur, e1, e2, e3⟩ => ⟨g, cp, cur, e1, by omega, e3⟩)⟩
  have K1 : Hid ((Try.prog.info? 54).map (·.size) = some (C.set 17 (.slice va pn vc)).toArray.size) := by show _ = _; rw [C1.out]; simp
  have K2 : Hid ((#[.int .i64 0, .int .i64 0, .int .i64 0, .string ⟨#[]⟩, .string ⟨#[]⟩, .int .i64 0, .string ⟨#[]⟩, .int .i64 0, .int .i64 0, .string ⟨#[]⟩, .string ⟨#[]⟩, .int .i64 0, .int .i64 0, .int .i64 0, .int .i64 0, .int .i64 0, .bool false, .slice none 0 0] : Array Value).size = (C.set 17 (.slice va pn vc)).toArray.size) := by show _ = _; rw [C2.out]; simp
  have K3 : Hid _ := HALL.out (.slice va pn vc) rfl
  have N3 : Hid _ := n3
  have S3 : Hid _ := s3
  have BW3 : Hid _ := bw3
  have O3 : Hid _ := o3
  have H3 : Hid _ := h3
  clear n3 s3 bw3 o3 h3 e3 r1 r2 bw l1 l0 o b2 hseen Q1 Q2 BA C1 C2 HALL
  generalize hC : (C.set 17 (.slice va pn vc)) = C' at *
  have HCC : Hid _ := hC
  clear hC
  go_wp2_with (first
    | (rw [← H3.out]; refine wpList_load_row rfl 54 (.tmp 1) rfl w.heap.size rfl 54 _ (0, 0) _ N3.out Try.underlying54 rfl K1.out ?_)
    | (refine wpList_store_row rfl 54 (.tmp 2) (.tmp 9) rfl (w.heap.size + 1) C'.toArray rfl rfl 54 _ S3.out K1.out K2.out K3.out ?_))
  refine bodyPost_ret (results_cell_row rfl _ _ (w.heap.size + 1) 54 _ _ _ rfl (setRow_self S3.out) Try.underlying54 rfl K1.out) rfl ⟨.slice va pn vc, ?_, owns_kept O3.out (fun g e => setRow_other _ _ _ _ ?_), below_row BW3.out (by omega) _⟩
  · rw [HCC.out]
  · rintro rfl
    obtain ⟨_, _, cur, hk⟩ := row_kind O3.out e
    rw [S3.out] at hk
    injection hk with hk
    injection hk with _ hk
    exact absurd hk (by decide)
end Go.Proofs.Ytcmhkeaimgppgaa

namespace Go.Proofs.Ytcmhkeaimgppgaa
open Go.RowKit
attribute [local go_sem] Oper.semAt_some
set_option linter.unusedVariables false

/-- What is asked, with its bytes. -/
structure PAsk where
  g : Int
  k : Int
  slot : Int
  ep : Int
  at_ : Int
  last : Bool
  l : List (BitVec 8)
def PAsk.v (p : PAsk) (v : Value) : AskV := mAsk p.g p.k p.slot p.ep p.at_ p.last v
def askP (M : MD) (x : MvD) : Option PAsk :=
  if x.ph = 1 then some ⟨x.fr, 8, x.slot, x.ep, 0, false, []⟩
  else if x.ph = 2 then (if M.has = true then some ⟨x.to, 9, x.slot, x.ep, M.at_, decide (endM M = M.d.length), (M.d.drop M.at_).take (endM M - M.at_)⟩ else some ⟨x.fr, 8, x.slot, x.ep, 0, false, []⟩)
  else if x.ph = 3 then some ⟨x.fr, 10, x.slot, x.ep, 0, false, []⟩ else none
theorem seen_nil (w : World) : Seen w none 0 [] := ⟨rfl, by simp, .inl rfl⟩
/-- A piece of bytes that are owned. -/
theorem piece_seen {w : World} {base n : Nat} {a : Option Addr} {c : Nat} {l : List (BitVec 8)} (h : w.ownsRow base 5 1 (.slice a n c) n (cellsOf l)) (i e : Nat) (hi : i ≤ e) (he : e ≤ n) (hn : n ≤ 140737488351232) :
    ∃ pa pc, sliced a i e c 1 = .slice pa (e - i) pc ∧ Seen w pa (e - i) ((l.drop i).take (e - i)) ∧ (pa = none → pc = 0) := by
  have hl : l.length = n := by have := h.1; rw [cellsOf_length] at this; omega
  obtain ⟨a', c', e1, hs, h0, hc⟩ := owned_seen h (by unfold maxLen; omega)
  cases e1
  refine ⟨if c = i then a else a.map (·.add (i * 1)), c - i, rfl, ⟨by simp; omega, by simp; unfold maxLen; omega, ?_⟩, ?_⟩
  · by_cases z : e - i = 0
    · exact .inl z
    · rcases hs.2.2 with h3 | ⟨b, off, ha, hcell⟩
      · omega
      · have hne : c ≠ i := by omega
        refine .inr ⟨b, off + i, by rw [if_neg hne, ha]; simp [Addr.add], fun j hj => ?_⟩
        simp at hj
        have := hcell (i + j) (by omega)
        rw [← Nat.add_assoc] at this
        rw [this]
        congr 3
        simp only [List.getD_eq_getElem?_getD]
        rw [List.getElem?_take, if_pos (by omega), List.getElem?_drop]
  · intro hp
    by_cases z : c = i
    · omega
    · rw [if_neg z] at hp
      cases a with
      | none => have := h0 rfl; omega
      | some x => cases hp
theorem askM_isSome (M : MD) (x : MvD) (pv : Value) : (askM M x pv).isSome = (askP M x).isSome := by
  unfold askM askP
  repeat' split
  all_goals rfl
theorem askM_some {w : World} {base : Nat} {M : MD} {a : Option Addr} {c : Nat} (h : w.ownsRow base 5 1 (.slice a M.d.length c) M.d.length (cellsOf M.d)) (hf : M.at_ ≤ M.d.length) (hl : M.d.length ≤ 140737488351232) (x : MvD) {p : PAsk} (hp : askP M x = some p) :
    ∃ pa pc, askM M x (sliced a M.at_ (endM M) c 1) = some (p.v (.slice pa p.l.length pc)) ∧ Seen w pa p.l.length p.l ∧ (pa = none → pc = 0) ∧ p.l.length ≤ 140737488351232 := by
  unfold askP at hp
  unfold askM
  by_cases h1 : x.ph = 1
  · rw [if_pos h1] at hp ⊢
    cases hp
    exact ⟨none, 0, rfl, seen_nil w, fun _ => rfl, by simp⟩
  · rw [if_neg h1] at hp ⊢
    by_cases h2 : x.ph = 2
    · rw [if_pos h2] at hp ⊢
      by_cases h3 : M.has = true
      · rw [if_pos h3] at hp ⊢
        cases hp
        obtain ⟨pa, pc, e1, hs, h0⟩ := piece_seen h M.at_ (endM M) (endM_ge hf) (endM_le M) hl
        have e2 : ((M.d.drop M.at_).take (endM M - M.at_)).length = endM M - M.at_ := by
          have := endM_le M
          simp
          omega
        refine ⟨pa, pc, ?_, by dsimp only; rw [e2]; exact hs, h0, by dsimp only; rw [e2]; have := endM_le M; omega⟩
        rw [e1]
        dsimp only [PAsk.v]
        rw [e2]
      · rw [if_neg h3] at hp ⊢
        cases hp
        exact ⟨none, 0, rfl, seen_nil w, fun _ => rfl, by simp⟩
    · rw [if_neg h2] at hp ⊢
      by_cases h3 : x.ph = 3
      · rw [if_pos h3] at hp ⊢
        cases hp
        exact ⟨none, 0, rfl, seen_nil w, fun _ => rfl, by simp⟩
      · rw [if_neg h3] at hp
        cases hp
/-- What Asks answers: a function with two boxes. -/
structure AskFn (w : World) (Bi Ba : Nat) (o : Option PAsk) : Prop where
  bi : w.heap[Bi]? = some (.cells #[.bool o.isSome] 4 (0, 0))
  ba : ∀ p, o = some p → ∃ pa pc, w.heap[Ba]? = some (.cells (AskV.cells (p.v (.slice pa p.l.length pc))).toArray 54 (0, 0)) ∧ Seen w pa p.l.length p.l ∧ (pa = none → pc = 0) ∧ p.l.length ≤ 140737488351232
theorem AskFn.below {w w' : World} {Bi Ba : Nat} {o : Option PAsk} (h : AskFn w Bi Ba o) (b : Below w.heap.size w w') : AskFn w' Bi Ba o :=
  ⟨(b.block _ (Array.getElem?_eq_some_iff.1 h.bi).1).trans h.bi, fun p hp => by
    obtain ⟨pa, pc, h1, h2, h3⟩ := h.ba p hp
    exact ⟨pa, pc, (b.block _ (Array.getElem?_eq_some_iff.1 h1).1).trans h1, h2.below b, h3⟩⟩
theorem getD_data {o : Option AskV} {x : AskV} (h : o = some x) : o.getD (0, CmdV.zero) = x := by rw [h]; rfl
set_option maxRecDepth 100000 in
set_option maxHeartbeats 1600000 in
theorem masks_any {w : World} {base : Bs} {G : Nat} {M : MD} (h : MvIn w base G M) (x : MvD) : Calls Try.prog 21 #[.pointer (some ⟨G, 0, none⟩), .agg #[.int .i64 x.slot, .int .i64 x.fr, .int .i64 x.to, .int .i64 x.ep, .int .i64 x.ph, .int .i64 x.n]] w fun e w' => ∃ Bi Ba, e = .returned (.func (.func 30) #[] #[.pointer (some ⟨Bi, 0, none⟩), .pointer (some ⟨Ba, 0, none⟩)]) ∧ AskFn w' Bi Ba (askP (knowM M x) x) ∧ MvIn w' base G (knowM M x) ∧ OnlyR w w' G := by
  have bA : Below w.heap.size w (w.alloc (.cells #[.int .i64 x.slot, .int .i64 x.fr, .int .i64 x.to, .int .i64 x.ep, .int .i64 x.ph, .int .i64 x.n] 47)) := (Below.refl _ w).alloc (Nat.le_refl _) _
  have HK := know_any (h.below bA) x
  have q1 := heap_alloc_new w (.cells #[.int .i64 x.slot, .int .i64 x.fr, .int .i64 x.to, .int .i64 x.ep, .int .i64 x.ph, .int .i64 x.n] 47)
  have nG : w.heap.size ≠ G := by have := h.lt; omega
  have oA := OnlyR.of_below bA G
  have HX : Hid (∃ y, y = x) := ⟨x, rfl⟩
  have hKW : ∀ w2, OnlyR (w.alloc (.cells #[.int .i64 x.slot, .int .i64 x.fr, .int .i64 x.to, .int .i64 x.ep, .int .i64 x.ph, .int .i64 x.n] 47)) w2 G → w2.heap[w.heap.size]? = some (.cells #[.int .i64 x.slot, .int .i64 x.fr, .int .i64 x.to, .int .i64 x.ep, .int .i64 x.ph, .int .i64 x.n] 47 (0, 0)) := fun w2 o2 => (o2.block _ (by simp) nG).trans q1
  have HKW : Hid _ := hKW
  have Q1 : Hid _ := q1
  have OA : Hid _ := oA
  clear q1 h bA oA nG hKW
  go_enter Try.func21, Try.ntmps21
  go_wp2_with (first | (refine wpList_load_row rfl 47 (.tmp 3) rfl w.heap.size rfl 47 _ (0, 0) _ Q1.out Try.underlying47 rfl (by kernel_rfl) ?_))
  refine HK.mono ?_
  clear HK
  rintro e w2 ⟨⟨v, rfl⟩, h2, o2⟩
  have R2 : Hid _ := HKW.out w2 o2
  have H2 : Hid (MvIn w2 base G (knowM M x)) := h2
  have O2 : Hid (OnlyR w w2 G) := OA.out.trans o2
  obtain ⟨a, c, g2, r2⟩ := h2.ex
  obtain ⟨a', c', e1, _, _, hlc⟩ := owned_seen r2.1 (by have := h2.len; unfold maxLen; omega)
  cases e1
  have HA := ask_any (knowM M x) x G a c w2 g2 h2.fits h2.len hlc
  have hsm := askM_isSome (knowM M x) x (sliced a (knowM M x).at_ (endM (knowM M x)) c 1)
  have hso := fun p hp => askM_some (p := p) r2.1 h2.fits h2.len x hp
  generalize askM (knowM M x) x (sliced a (knowM M x).at_ (endM (knowM M x)) c 1) = oa at *
  rw [hsm] at HA
  have hc1 : (Try.prog.info? 54).map (·.size) = some (AskV.cells (oa.getD (0, CmdV.zero))).toArray.size := by kernel_rfl
  have hc2 : (#[.int .i64 0, .int .i64 0, .int .i64 0, .string ⟨#[]⟩, .string ⟨#[]⟩, .int .i64 0, .string ⟨#[]⟩, .int .i64 0, .int .i64 0, .string ⟨#[]⟩, .string ⟨#[]⟩, .int .i64 0, .int .i64 0, .int .i64 0, .int .i64 0, .int .i64 0, .bool false, .slice none 0 0] : Array Value).size = (AskV.cells (oa.getD (0, CmdV.zero))).toArray.size := rfl
  have hc3 : (AskV.cells (oa.getD (0, CmdV.zero))).toArray.all (·.oneCell') = true := by
    cases hq : askP (knowM M x) x with
    | none =>
      have e0 : oa = none := by rw [hq] at hsm; simpa using hsm
      rw [e0]
      exact askAll _ rfl
    | some p =>
      obtain ⟨pa, pc, e2, _⟩ := hso p hq
      rw [e2]
      exact askAll _ rfl
  have HSO : Hid (∀ p, askP (knowM M x) x = some p → ∃ pa pc, AskV.cells (oa.getD (0, CmdV.zero)) = AskV.cells (p.v (.slice pa p.l.length pc)) ∧ Seen w2 pa p.l.length p.l ∧ (pa = none → pc = 0) ∧ p.l.length ≤ 140737488351232) := fun p hp => by
    obtain ⟨pa, pc, e2, h5⟩ := hso p hp
    exact ⟨pa, pc, by rw [e2]; rfl, h5⟩
  generalize AskV.cells (oa.getD (0, CmdV.zero)) = C at *
  obtain ⟨bs, hbs⟩ : ∃ bs, (askP (knowM M x) x).isSome = bs := ⟨_, rfl⟩
  rw [hbs] at HA
  have BS : Hid _ := hbs
  clear hbs
  have C1 : Hid _ := hc1
  have C2 : Hid _ := hc2
  have C3 : Hid _ := hc3
  clear hc1 hc2 hc3 hso hsm g2 r2 hlc h2 o2 HKW OA
  go_wp2_with (first | (refine wpList_load_row rfl 47 (.tmp 3) rfl w.heap.size rfl 47 _ (0, 0) _ R2.out Try.underlying47 rfl (by kernel_rfl) ?_))
  refine HA.mono ?_
  clear HA
  rintro e w3 ⟨rfl, b3⟩
  have n3 : ((w3.alloc (.cells #[.int .i64 0, .int .i64 0, .int .i64 0, .string ⟨#[]⟩, .string ⟨#[]⟩, .int .i64 0, .string ⟨#[]⟩, .int .i64 0, .int .i64 0, .string ⟨#[]⟩, .string ⟨#[]⟩, .int .i64 0, .int .i64 0, .int .i64 0, .int .i64 0, .int .i64 0, .bool false, .slice none 0 0] 54)).alloc (.cells #[.bool false] 4)).heap[w3.heap.size]? = some (.cells #[.int .i64 0, .int .i64 0, .int .i64 0, .string ⟨#[]⟩, .string ⟨#[]⟩, .int .i64 0, .string ⟨#[]⟩, .int .i64 0, .int .i64 0, .string ⟨#[]⟩, .string ⟨#[]⟩, .int .i64 0, .int .i64 0, .int .i64 0, .int .i64 0, .int .i64 0, .bool false, .slice none 0 0] 54 (0, 0)) := by rw [Below.heap_alloc _ _ _ (by simp), heap_alloc_new]
  have n3' := heap_two w3 (.cells #[.int .i64 0, .int .i64 0, .int .i64 0, .string ⟨#[]⟩, .string ⟨#[]⟩, .int .i64 0, .string ⟨#[]⟩, .int .i64 0, .int .i64 0, .string ⟨#[]⟩, .string ⟨#[]⟩, .int .i64 0, .int .i64 0, .int .i64 0, .int .i64 0, .int .i64 0, .bool false, .slice none 0 0] 54) (.cells #[.bool false] 4)
  obtain ⟨V4, e4⟩ : ∃ V4, V4 = ((w3.alloc (.cells #[.int .i64 0, .int .i64 0, .int .i64 0, .string ⟨#[]⟩, .string ⟨#[]⟩, .int .i64 0, .string ⟨#[]⟩, .int .i64 0, .int .i64 0, .string ⟨#[]⟩, .string ⟨#[]⟩, .int .i64 0, .int .i64 0, .int .i64 0, .int .i64 0, .int .i64 0, .bool false, .slice none 0 0] 54)).alloc (.cells #[.bool false] 4)).setRow w3.heap.size C.toArray := ⟨_, rfl⟩
  have m4 : V4.heap[w3.heap.size]? = some (.cells C.toArray 54 (0, 0)) := by rw [e4]; exact setRow_self n3
  have k4 : V4.heap[w3.heap.size + 1]? = some (.cells #[.bool false] 4 (0, 0)) := by rw [e4]; exact (setRow_other _ _ _ _ (by omega)).trans n3'
  have b4 : Below w3.heap.size w3 V4 := by rw [e4]; exact below_row (((Below.refl _ w3).alloc (Nat.le_refl _) _).alloc (by simp) _) (Nat.le_refl _) _
  have z0 : V4.cell? ⟨w3.heap.size + 1, 0, none⟩ = some (.bool false) := by simp only [World.cell?, k4]; rfl
  have f0 : V4.frozen? ⟨w3.heap.size + 1, 0, none⟩ = false := by simp only [World.frozen?, k4]; rfl
  have N3 : Hid _ := n3
  have B3 : Hid _ := b3
  have E4 : Hid _ := e4
  have M4 : Hid _ := m4
  have K4 : Hid _ := k4
  have B4 : Hid _ := b4
  clear n3 b3 n3' e4 m4 k4 b4
  go_wp2_with (first | (refine wpList_store_row rfl 54 (.tmp 5) (.tmp 16) rfl w3.heap.size C.toArray rfl rfl 54 _ N3.out C1.out C2.out C3.out ?_; rw [← E4.out]))
  go_ret
  have b5 : Below w3.heap.size w3 (V4.setCell ⟨w3.heap.size + 1, 0, none⟩ (.bool bs)) := Below.setCell B4.out (by show w3.heap.size ≤ w3.heap.size + 1; omega) _
  have b6 : Below w2.heap.size w2 (V4.setCell ⟨w3.heap.size + 1, 0, none⟩ (.bool bs)) := B3.out.trans (b5.mono B3.out.size)
  refine ⟨w3.heap.size + 1, w3.heap.size, rfl, ⟨?_, fun p hp => ?_⟩, H2.out.below b6, O2.out.trans (OnlyR.of_below b6 G)⟩
  · rw [BS.out, setCell_eq_setRow V4 _ 0 _ _ _ _ K4.out]
    exact setRow_self K4.out
  · obtain ⟨pa, pc, e5, h5, h6⟩ := HSO.out p hp
    refine ⟨pa, pc, ?_, h5.below b6, h6⟩
    rw [← e5, setCell_eq_setRow V4 _ 0 _ _ _ _ K4.out]
    exact (setRow_other _ _ _ _ (by omega)).trans M4.out
end Go.Proofs.Ytcmhkeaimgppgaa
