/- Package net: Drop. -/
import Derived.Test.YtccmehbdnnelhaaNGe
namespace Go.Proofs.Ytccmehbdnnelhaa
open Go.RowKit Go.Maps
attribute [local go_sem] Oper.semAt_some
set_option linter.unusedVariables false

theorem exec_delN {P : Program} {o : Oper} {a : Act} {w w' : World} {v u x : Value} (s y : Operand) (t k : TypeId) (ho : o.op = .call { callee := .builtin .delete, args := #[s, y], argTypes := #[t, k] }) (hs : a.eval s = u) (hx : a.eval y = x) (hr : (Builtin.delete_ #[t, k] o.type #[u, x]).run P w = .ok v w') : (execOp a.eval o).run P w = .ok (.value v) w' := by
  unfold execOp
  simp only [ho, resolve, invoke, builtin, Sem.run_bind, Sem.run_pure, Result.andThen_ok, List.map_toArray, List.map_cons, List.map_nil, hs, hx, hr]
theorem tSP : (63 : TypeId) ≠ 69 := by decide
theorem tSN : (63 : TypeId) ≠ 38 := by decide
/-- What Drop has made, behind Delete. -/
structure CutTold (w : World) (base N B Sb T : Nat) (bx : Int → Value) (L : List Post) (to : Int) (at_ g n cap i : Nat) : Prop where
  s2 : ∀ w2 : World, w2.ownsRow base 69 4 (.slice (some ⟨g, 0, none⟩) (n - 1) cap) (n - 1) (cells4 ((box L to).eraseIdx at_)) → w.grownBy w2 (some g) → w2.heap[N]? = some (.cells #[.map (some B), .int .i64 (T : Int)] 38 (0, 0)) ∧ w2.heap[Sb]? = some (.cells #[.int .i64 to, .int .i64 (at_ : Int)] 63 (0, 0))
  next : ∀ w2 : World, w2.ownsRow base 69 4 (.slice (some ⟨g, 0, none⟩) (n - 1) cap) (n - 1) (cells4 ((box L to).eraseIdx at_)) → w.grownBy w2 (some g) →
    ∃ w3, (Instr.mapUpdate 36 (.map (some B)) (.int .i64 to) (.slice (some ⟨g, 0, none⟩) (n - 1) cap)).run Try.prog w2 = .ok () w3 ∧ (w3.heap[N]? = some (.cells #[.map (some B), .int .i64 (T : Int)] 38 (0, 0)) ∧ w3.heap[Sb]? = some (.cells #[.int .i64 to, .int .i64 (at_ : Int)] 63 (0, 0))) ∧
      (∀ X : World, (∀ q : Nat, X.heap[q]? = w3.heap[q]?) → (Instr.lookup 36 (.map (some B)) (.int .i64 to) false).run Try.prog X = .ok (.slice (some ⟨g, 0, none⟩) (n - 1) cap) X) ∧
      (1 < n → ∀ X : World, Below w3.heap.size w3 X → ∃ bx', NetIn X base N B bx' (L.eraseIdx i) T ∧ NKeep base w X) ∧
      (n = 1 → ∀ X : World, Below w3.heap.size w3 X → X.heap.size = w3.heap.size → ∃ w4, (Builtin.delete_ #[36, 3] 0 #[.map (some B), .int .i64 to]).run Try.prog X = .ok (.tuple #[]) w4 ∧ (w4.heap[N]? = some (.cells #[.map (some B), .int .i64 (T : Int)] 38 (0, 0)) ∧ w4.heap[Sb]? = some (.cells #[.int .i64 to, .int .i64 (at_ : Int)] 63 (0, 0))) ∧ ∃ bx', NetIn w4 base N B bx' (L.eraseIdx i) T ∧ NKeep base w w4)
theorem cut_told {w : World} {base N B Sb T : Nat} {bx : Int → Value} {L : List Post} (h : NetIn w base N B bx L T) {i : Nat} (hi : i < L.length) {g n cap : Nat} (hb : bx L[i].to = .slice (some ⟨g, 0, none⟩) n cap) (hn : n = (box L L[i].to).length) (hat : spotOf L i < n)
    (ho : w.ownsRow base 69 4 (.slice (some ⟨g, 0, none⟩) n cap) n (cells4 (box L L[i].to))) (hS : w.heap[Sb]? = some (.cells #[.int .i64 L[i].to, .int .i64 (spotOf L i : Nat)] 63 (0, 0))) (hT : T ≤ 1000000000000) : CutTold w base N B Sb T bx L L[i].to (spotOf L i) g n cap i := by
  have hlen : (box (L.eraseIdx i) L[i].to).length = n - 1 := by rw [box_erase_eq h.ris hi, List.length_eraseIdx, if_pos (by omega), hn]
  have hkw : kwf L[i].to := h.kwf (List.getElem_mem hi)
  refine ⟨fun w2 ho2 hgr => ?_, fun w2 ho2 hgr => ?_⟩
  · have k2 : KeepC w w2 := KeepC.grown hgr ho
    exact ⟨(k2 N _ _ _ h.hN tPN).trans h.hN, (k2 Sb _ _ _ hS tSP).trans hS⟩
  · obtain ⟨w3, hr3, k2, k3, kr, nk, hg3, gB, m3⟩ := net_cut h hi hb hn ho ho2 hgr hT
    have o3 : w3.ownsRow base 69 4 (.slice (some ⟨g, 0, none⟩) (n - 1) cap) (n - 1) (cells4 ((box L L[i].to).eraseIdx (spotOf L i))) := owns_kept ho2 (fun q e => by
      obtain rfl : g = q := by simpa [Value.ownBlock] using e
      exact hg3)
    have hNn := (k3 N _ _ _ h.hN tPN).trans h.hN
    have hSn := (k3 Sb _ _ _ hS tSP).trans hS
    have hbs : base ≤ w3.heap.size := Nat.le_trans (Nat.le_of_lt (Nat.lt_of_le_of_lt h.bN h.ltN)) nk.2.1
    refine ⟨w3, hr3, ⟨hNn, hSn⟩, fun X hX => ?_, fun h1 X hX => ?_, fun h1 X hX hsz => ?_⟩
    · have := (m3.kept (hX B)).look hkw
      rw [if_pos rfl] at this
      exact this
    · have mX := m3.kept (hX.block B m3.lt)
      have kcX : KeepC w X := k3.trans (fun q cs t z e _ => hX.block q (Array.getElem?_eq_some_iff.1 e).1)
      refine ⟨fun j => if j = L[i].to then .slice (some ⟨g, 0, none⟩) (n - 1) cap else bx j, net_dropped (bx' := fun j => if j = L[i].to then .slice (some ⟨g, 0, none⟩) (n - 1) cap else bx j) h hi kcX (fun j hj q e => ?_) ?_ (fun j hj => if_neg hj) ?_ (fun q e => ?_), nk.trans (NKeep.of_below hX hbs)⟩
      · have lt := (row_lt4 (h.row j) e).2
        rw [hX.block q (Nat.lt_of_lt_of_le lt nk.2.1)]
        exact kr j hj q e
      · have e : (fun j => decide (box L j ≠ []) || decide (j = L[i].to)) = fun k => decide (box (L.eraseIdx i) k ≠ []) := by
          funext j
          by_cases e : j = L[i].to
          · subst e
            have : box (L.eraseIdx i) L[i].to ≠ [] := fun x => by rw [x] at hlen; simp at hlen; omega
            simp [this]
          · rw [box_erase_ne hi (fun x => e x.symm)]
            simp [e]
        rw [← e]
        exact mX
      · rw [if_pos rfl, hlen, box_erase_eq h.ris hi]
        exact owns_kept o3 (fun q e => hX.block q (row_lt4 o3 e).2)
      · rw [if_pos rfl] at e
        rw [hb]
        exact e
    · have mX := m3.kept (hX.block B m3.lt)
      obtain ⟨w4, hr4, m4, ht4⟩ := mX.drop hkw 0
      have kX : KeepC w3 X := fun q cs t z e _ => hX.block q (Array.getElem?_eq_some_iff.1 e).1
      have k34 : KeepC w3 w4 := kX.trans (KeepC.turned ht4)
      have k4 : KeepC w w4 := k3.trans k34
      have hnil : box (L.eraseIdx i) L[i].to = [] := List.eq_nil_of_length_eq_zero (by omega)
      refine ⟨w4, hr4, ⟨(k4 N _ _ _ h.hN tPN).trans h.hN, (k4 Sb _ _ _ hS tSP).trans hS⟩, fun j => if j = L[i].to then nilS else if j = L[i].to then .slice (some ⟨g, 0, none⟩) (n - 1) cap else bx j, net_dropped (bx' := fun j => if j = L[i].to then nilS else if j = L[i].to then .slice (some ⟨g, 0, none⟩) (n - 1) cap else bx j) h hi k4 (fun j hj q e => ?_) ?_ (fun j hj => ?_) ?_ (fun q e => ?_), nk.trans ((NKeep.of_below hX hbs).trans ⟨?_, ht4.grown.size, fun q cs t z e h1 _ => KeepC.turned ht4 q cs t z e h1⟩)⟩
      · have lt := (row_lt4 (h.row j) e).2
        obtain ⟨cur, hc⟩ := row_kind (h.row j) e
        obtain ⟨es, cl, hmap⟩ := h.hM.isMap
        have nB : q ≠ B := fun eq => by subst eq; rw [hc] at hmap; cases hmap
        rw [mapTurned_block ht4 (by rw [hsz]; exact Nat.lt_of_lt_of_le lt nk.2.1) nB, hX.block q (Nat.lt_of_lt_of_le lt nk.2.1)]
        exact kr j hj q e
      · have e : (fun j => (decide (box L j ≠ []) || decide (j = L[i].to)) && !decide (j = L[i].to)) = fun k => decide (box (L.eraseIdx i) k ≠ []) := by
          funext j
          by_cases e : j = L[i].to
          · subst e
            simp [hnil]
          · rw [box_erase_ne hi (fun x => e x.symm)]
            simp [e]
        rw [← e]
        exact m4
      · show (if j = L[i].to then nilS else if j = L[i].to then _ else bx j) = bx j
        rw [if_neg hj, if_neg hj]
      · rw [if_pos rfl, hnil]
        exact World.ownsRow_nil _ _ _ _
      · rw [if_pos rfl] at e
        cases e
      · have hb3 : base ≤ X.heap.size := by rw [hsz]; exact hbs
        exact (Below.refl base X).grown ht4.grown hb3 (fun j e => by cases e; exact h.bB)
theorem spot_block (w : World) (to : Int) (at_ : Int) : ((w.alloc (.cells #[.int .i64 0, .int .i64 0] 63)).setRow w.heap.size #[.int .i64 to, .int .i64 at_]).heap[w.heap.size]? = some (.cells #[.int .i64 to, .int .i64 at_] 63 (0, 0)) := setRow_heap _ _ _ _ _ _ (heap_alloc_new w _)
theorem spot_below (w : World) (cs : Array Value) : Below w.heap.size w ((w.alloc (.cells #[.int .i64 0, .int .i64 0] 63)).setRow w.heap.size cs) := rowN_below ((Below.refl _ w).alloc (Nat.le_refl _) _) (Nat.le_refl _)
theorem cut_all {w1 : World} {base N B T : Nat} {bx : Int → Value} {L : List Post} (h1 : NetIn w1 base N B bx L T) {i : Nat} (hi : i < L.length) {to : Int} {at_ : Nat} (eto : L[i].to = to) (eat : spotOf L i = at_) (hT : T ≤ 1000000000000) {Sb : Nat} (eSb : w1.heap.size = Sb) {ws : World} (ews : w1.alloc (.cells #[.int .i64 to, .int .i64 (at_ : Int)] 63) = ws) :
    ∃ g n cap, at_ < n ∧ n ≤ 10000 ∧ CutTold ws.drew base N B Sb T bx L to at_ g n cap i ∧
      (Calls Try.prog 32 #[.slice (some ⟨g, 0, none⟩) n cap, .int .i64 (at_ : Int), .int .i64 ((at_ + 1 : Nat) : Int)] ws.drew fun e w' => e = .returned (.slice (some ⟨g, 0, none⟩) (n - 1) cap) ∧ w'.ownsRow base 69 4 (.slice (some ⟨g, 0, none⟩) (n - 1) cap) (n - 1) (cells4 ((box L to).eraseIdx at_)) ∧ ws.drew.grownBy w' (some g)) ∧
      (Instr.lookup 36 (.map (some B)) (.int .i64 to) false).run Try.prog ws.drew = .ok (.slice (some ⟨g, 0, none⟩) n cap) ws.drew ∧ ws.drew.heap[Sb]? = some (.cells #[.int .i64 to, .int .i64 (at_ : Int)] 63 (0, 0)) ∧ ws.drew.heap[N]? = some (.cells #[.map (some B), .int .i64 (T : Int)] 38 (0, 0)) ∧ NKeep base w1 ws.drew := by
  subst eto
  subst eat
  subst eSb
  subst ews
  have bS := (Below.refl _ w1).alloc (Nat.le_refl _) (.cells #[.int .i64 L[i].to, .int .i64 (spotOf L i : Nat)] 63)
  have hSb := heap_alloc_new w1 (.cells #[.int .i64 L[i].to, .int .i64 (spotOf L i : Nat)] 63)
  have hs := h1.below bS
  have hbs : base ≤ w1.heap.size := Nat.le_of_lt (Nat.lt_of_le_of_lt h1.bN h1.ltN)
  obtain ⟨g, n, cap, hb, hn, hat, hn2, ho⟩ := net_box hs hi
  have hlk := (hs.below (Below.refl _ _).drew).hM.look (hs.kwf (List.getElem_mem hi))
  rw [hb] at hlk
  exact ⟨g, n, cap, hat, hn2, cut_told (hs.below (Below.refl _ _).drew) hi hb hn hat ho hSb hT, delete_any (w := (w1.alloc (.cells #[.int .i64 L[i].to, .int .i64 (spotOf L i : Nat)] 63)).drew) ho hn (hs.one _) (spotOf L i) hat (by omega), hlk, hSb, hs.hN, (NKeep.of_below bS hbs).trans (NKeep.of_below (Below.refl _ _).drew (Nat.le_trans hbs bS.size))⟩
set_option maxRecDepth 100000 in
set_option maxHeartbeats 4000000 in
theorem drop_any {w : World} {base N B T : Nat} {bx : Int → Value} {L : List Post} (h : NetIn w base N B bx L T) (k : Int) (hT : T ≤ 1000000000000) : Calls Try.prog 17 #[.pointer (some ⟨N, 0, none⟩), .int .i64 k] w fun e w' =>
    ((k < 0 ∨ (L.length : Int) ≤ k) ∧ e = .returned (.int .i64 1) ∧ Below w.heap.size w w') ∨ ∃ (i : Nat) (hi : i < L.length), k = (i : Int) ∧ e = .returned (.int .i64 0) ∧ ∃ bx', NetIn w' base N B bx' (L.eraseIdx i) T ∧ NKeep base w w' := by
  have HF := find_any h k hT
  have H : Hid (NetIn w base N B bx L T) := h
  have HT : Hid (T ≤ 1000000000000) := hT
  clear h hT
  go_enter Try.func17, Try.ntmps17
  go_wp2_with fail
  refine HF.mono ?_
  rintro e w1 ⟨ft, b1⟩
  clear HF
  have hz := heap_alloc_new w1 (.cells #[.int .i64 0, .int .i64 0] 63)
  have HZ : Hid ((w1.alloc (.cells #[.int .i64 0, .int .i64 0] 63)).heap[w1.heap.size]? = some (.cells #[.int .i64 0, .int .i64 0] 63 (0, 0))) := hz
  have B1 : Hid (Below w.heap.size w w1) := b1
  rcases ft with ⟨hk, rfl⟩ | ⟨i, hi, rfl, rfl⟩
  · have BS := spot_below w1 #[.int .i64 0, .int .i64 0]
    have HBS : Hid _ := BS
    clear hz b1 BS
    go_wp2_with (first | (refine wpList_store_row rfl 63 (.tmp 5) (.tmp 11) rfl w1.heap.size #[.int .i64 0, .int .i64 0] rfl rfl 63 _ HZ.out (by kernel_rfl) rfl (by simp [Value.oneCell']) ?_))
    go_ret
    exact .inl ⟨hk, rfl, B1.out.trans (HBS.out.mono B1.out.size)⟩
  · have h1 := H.out.below b1
    have HI : Hid (i < L.length) := hi
    obtain ⟨to, eto⟩ : ∃ to, (L[i]'hi).to = to := ⟨_, rfl⟩
    obtain ⟨at_, eat⟩ : ∃ at_, spotOf L i = at_ := ⟨_, rfl⟩
    obtain ⟨Sb, eSb⟩ : ∃ Sb, w1.heap.size = Sb := ⟨_, rfl⟩
    obtain ⟨ws, ews⟩ : ∃ ws, w1.alloc (.cells #[.int .i64 to, .int .i64 (at_ : Int)] 63) = ws := ⟨_, rfl⟩
    obtain ⟨g, n, cap, hat, hn2, CT, hdl, hlk, hSb, hNn, kk0⟩ := cut_all h1 hi eto eat HT.out eSb ews
    have hbs : base ≤ w.heap.size := Nat.le_of_lt (Nat.lt_of_le_of_lt H.out.bN H.out.ltN)
    have kk := (NKeep.of_below b1 hbs).trans kk0
    have wat : IntKind.i64.wrap ((at_ : Int) + 1) = ((at_ + 1 : Nat) : Int) := by rw [IntKind.wrap_i64]; omega
    have HCUT : Hid (CutTold ws.drew base N B Sb T bx L to at_ g n cap i) := CT
    have HS : Hid (ws.drew.heap[Sb]? = some (.cells #[.int .i64 to, .int .i64 (at_ : Int)] 63 (0, 0))) := hSb
    have HN : Hid (ws.drew.heap[N]? = some (.cells #[.map (some B), .int .i64 (T : Int)] 38 (0, 0))) := hNn
    have HLK : Hid ((Instr.lookup 36 (.map (some B)) (.int .i64 to) false).run Try.prog ws.drew = .ok (.slice (some ⟨g, 0, none⟩) n cap) ws.drew) := hlk
    have KK : Hid (NKeep base w ws.drew) := kk
    have HNN : Hid (at_ < n ∧ n ≤ 10000) := ⟨hat, hn2⟩
    rw [eto, eat]
    clear CT hSb hNn kk kk0 hlk hz b1 h1 hat hn2 eto eat B1 hbs
    go_wp2_with (first | (rw [ews]) | fail)
    try rw [ews]
    try rw [eSb]
    refine wp_region_held_drew (S := fun X => X.heap[N]? = some (.cells #[.map (some B), .int .i64 (T : Int)] 38 (0, 0)) ∧ X.heap[Sb]? = some (.cells #[.int .i64 to, .int .i64 (at_ : Int)] 63 (0, 0))) (by kernel_rfl) ⟨HN.out, HS.out⟩ (fun hHeld => ?_)
    refine take_run (i := 0) (oi := { dst := some 16, op := Go.Op.move (Go.Operand.tmp 0), type := 23, pos := "net.go:162", after := #[], guard := none }) (v := .pointer (some ⟨N, 0, none⟩)) rfl (by kernel_rfl) (by kernel_rfl) (by kernel_rfl) (fun _ _ _ h => h) (by rfl) ?_ hHeld ?_
    · (intro wq hSw; go_simp <;> with_reducible rfl)
    try simp only [Act.put, List.setIfInBounds_toArray, List.set_cons_zero, List.set_cons_succ]
    refine take_run (i := 1) (oi := { dst := some 17, op := Go.Op.nilCheck (Go.Operand.tmp 16), type := 0, pos := "net.go:162", after := #[{ on := 0, ground := Go.Ground.data }], guard := none }) (v := .pointer (some ⟨N, 0, none⟩)) rfl (by kernel_rfl) (by kernel_rfl) (by kernel_rfl) (fun _ _ _ h => h) (by rfl) ?_ hHeld ?_
    · (intro wq hSw; go_simp <;> with_reducible rfl)
    try simp only [Act.put, List.setIfInBounds_toArray, List.set_cons_zero, List.set_cons_succ]
    refine take_run (i := 2) (oi := { dst := some 18, op := Go.Op.fieldAddr 38 (Go.Operand.tmp 17) 0, type := 0, pos := "net.go:162", after := #[{ on := 1, ground := Go.Ground.data }], guard := none }) (v := .pointer (some ⟨N, 0, none⟩)) rfl (by kernel_rfl) (by kernel_rfl) (by kernel_rfl) (fun _ _ _ h => h) (by rfl) ?_ hHeld ?_
    · (intro wq hSw; go_simp <;> with_reducible rfl)
    try simp only [Act.put, List.setIfInBounds_toArray, List.set_cons_zero, List.set_cons_succ]
    refine take_run (i := 3) (oi := { dst := some 19, op := Go.Op.load 36 (Go.Operand.tmp 18), type := 36, pos := "net.go:162", after := #[{ on := 2, ground := Go.Ground.data }], guard := none }) (v := .map (some B)) rfl (by kernel_rfl) (by kernel_rfl) (by kernel_rfl) (fun _ _ _ h => h) (by rfl) ?_ hHeld ?_
    · (intro wq hSw; have cN := (show wq.cell? ⟨N, 0, none⟩ = some (.map (some B)) by have := hSw.1; simp [World.cell?, this]); go_simp <;> with_reducible rfl)
    try simp only [Act.put, List.setIfInBounds_toArray, List.set_cons_zero, List.set_cons_succ]
    refine take_run (i := 4) (oi := { dst := some 20, op := Go.Op.fieldAddr 63 (Go.Operand.tmp 5) 0, type := 0, pos := "net.go:162", after := #[], guard := none }) (v := .pointer (some ⟨Sb, 0, none⟩)) rfl (by kernel_rfl) (by kernel_rfl) (by kernel_rfl) (fun _ _ _ h => h) (by rfl) ?_ hHeld ?_
    · (intro wq hSw; go_simp <;> with_reducible rfl)
    try simp only [Act.put, List.setIfInBounds_toArray, List.set_cons_zero, List.set_cons_succ]
    refine take_run (i := 5) (oi := { dst := some 21, op := Go.Op.load 3 (Go.Operand.tmp 20), type := 3, pos := "net.go:162", after := #[{ on := 4, ground := Go.Ground.data }], guard := none }) (v := .int .i64 to) rfl (by kernel_rfl) (by kernel_rfl) (by kernel_rfl) (fun _ _ _ h => h) (by rfl) ?_ hHeld ?_
    · (intro wq hSw; have cP := (show wq.cell? ⟨Sb, 0, none⟩ = some (.int .i64 to) by have := hSw.2; simp [World.cell?, this]); go_simp <;> with_reducible rfl)
    try simp only [Act.put, List.setIfInBounds_toArray, List.set_cons_zero, List.set_cons_succ]
    refine take_run (i := 6) (oi := { dst := some 22, op := Go.Op.move (Go.Operand.tmp 0), type := 23, pos := "net.go:162", after := #[], guard := none }) (v := .pointer (some ⟨N, 0, none⟩)) rfl (by kernel_rfl) (by kernel_rfl) (by kernel_rfl) (fun _ _ _ h => h) (by rfl) ?_ hHeld ?_
    · (intro wq hSw; go_simp <;> with_reducible rfl)
    try simp only [Act.put, List.setIfInBounds_toArray, List.set_cons_zero, List.set_cons_succ]
    refine take_run (i := 7) (oi := { dst := some 23, op := Go.Op.nilCheck (Go.Operand.tmp 22), type := 0, pos := "net.go:162", after := #[{ on := 6, ground := Go.Ground.data }], guard := none }) (v := .pointer (some ⟨N, 0, none⟩)) rfl (by kernel_rfl) (by kernel_rfl) (by kernel_rfl) (fun _ _ _ h => h) (by rfl) ?_ hHeld ?_
    · (intro wq hSw; go_simp <;> with_reducible rfl)
    try simp only [Act.put, List.setIfInBounds_toArray, List.set_cons_zero, List.set_cons_succ]
    refine take_run (i := 8) (oi := { dst := some 24, op := Go.Op.fieldAddr 38 (Go.Operand.tmp 23) 0, type := 0, pos := "net.go:162", after := #[{ on := 7, ground := Go.Ground.data }], guard := none }) (v := .pointer (some ⟨N, 0, none⟩)) rfl (by kernel_rfl) (by kernel_rfl) (by kernel_rfl) (fun _ _ _ h => h) (by rfl) ?_ hHeld ?_
    · (intro wq hSw; go_simp <;> with_reducible rfl)
    try simp only [Act.put, List.setIfInBounds_toArray, List.set_cons_zero, List.set_cons_succ]
    refine take_run (i := 9) (oi := { dst := some 25, op := Go.Op.load 36 (Go.Operand.tmp 24), type := 36, pos := "net.go:162", after := #[{ on := 8, ground := Go.Ground.data }], guard := none }) (v := .map (some B)) rfl (by kernel_rfl) (by kernel_rfl) (by kernel_rfl) (fun _ _ _ h => h) (by rfl) ?_ hHeld ?_
    · (intro wq hSw; have cN := (show wq.cell? ⟨N, 0, none⟩ = some (.map (some B)) by have := hSw.1; simp [World.cell?, this]); go_simp <;> with_reducible rfl)
    try simp only [Act.put, List.setIfInBounds_toArray, List.set_cons_zero, List.set_cons_succ]
    refine take_run (i := 10) (oi := { dst := some 26, op := Go.Op.fieldAddr 63 (Go.Operand.tmp 5) 0, type := 0, pos := "net.go:162", after := #[], guard := none }) (v := .pointer (some ⟨Sb, 0, none⟩)) rfl (by kernel_rfl) (by kernel_rfl) (by kernel_rfl) (fun _ _ _ h => h) (by rfl) ?_ hHeld ?_
    · (intro wq hSw; go_simp <;> with_reducible rfl)
    try simp only [Act.put, List.setIfInBounds_toArray, List.set_cons_zero, List.set_cons_succ]
    refine take_run (i := 11) (oi := { dst := some 27, op := Go.Op.load 3 (Go.Operand.tmp 26), type := 3, pos := "net.go:162", after := #[{ on := 10, ground := Go.Ground.data }], guard := none }) (v := .int .i64 to) rfl (by kernel_rfl) (by kernel_rfl) (by kernel_rfl) (fun _ _ _ h => h) (by rfl) ?_ hHeld ?_
    · (intro wq hSw; have cP := (show wq.cell? ⟨Sb, 0, none⟩ = some (.int .i64 to) by have := hSw.2; simp [World.cell?, this]); go_simp <;> with_reducible rfl)
    try simp only [Act.put, List.setIfInBounds_toArray, List.set_cons_zero, List.set_cons_succ]
    refine take_run (i := 13) (oi := { dst := some 29, op := Go.Op.fieldAddr 63 (Go.Operand.tmp 5) 1, type := 0, pos := "net.go:162", after := #[], guard := none }) (v := .pointer (some ⟨Sb, 1, none⟩)) rfl (by kernel_rfl) (by kernel_rfl) (by kernel_rfl) (fun _ _ _ h => h) (by rfl) ?_ hHeld ?_
    · (intro wq hSw; go_simp <;> with_reducible rfl)
    try simp only [Act.put, List.setIfInBounds_toArray, List.set_cons_zero, List.set_cons_succ]
    refine take_run (i := 14) (oi := { dst := some 30, op := Go.Op.load 3 (Go.Operand.tmp 29), type := 3, pos := "net.go:162", after := #[{ on := 13, ground := Go.Ground.data }], guard := none }) (v := .int .i64 (at_ : Int)) rfl (by kernel_rfl) (by kernel_rfl) (by kernel_rfl) (fun _ _ _ h => h) (by rfl) ?_ hHeld ?_
    · (intro wq hSw; have cP := (show wq.cell? ⟨Sb, 1, none⟩ = some (.int .i64 (at_ : Int)) by have := hSw.2; simp [World.cell?, this]); go_simp <;> with_reducible rfl)
    try simp only [Act.put, List.setIfInBounds_toArray, List.set_cons_zero, List.set_cons_succ]
    refine take_run (i := 15) (oi := { dst := some 31, op := Go.Op.fieldAddr 63 (Go.Operand.tmp 5) 1, type := 0, pos := "net.go:162", after := #[], guard := none }) (v := .pointer (some ⟨Sb, 1, none⟩)) rfl (by kernel_rfl) (by kernel_rfl) (by kernel_rfl) (fun _ _ _ h => h) (by rfl) ?_ hHeld ?_
    · (intro wq hSw; go_simp <;> with_reducible rfl)
    try simp only [Act.put, List.setIfInBounds_toArray, List.set_cons_zero, List.set_cons_succ]
    refine take_run (i := 16) (oi := { dst := some 32, op := Go.Op.load 3 (Go.Operand.tmp 31), type := 3, pos := "net.go:162", after := #[{ on := 15, ground := Go.Ground.data }], guard := none }) (v := .int .i64 (at_ : Int)) rfl (by kernel_rfl) (by kernel_rfl) (by kernel_rfl) (fun _ _ _ h => h) (by rfl) ?_ hHeld ?_
    · (intro wq hSw; have cP := (show wq.cell? ⟨Sb, 1, none⟩ = some (.int .i64 (at_ : Int)) by have := hSw.2; simp [World.cell?, this]); go_simp <;> with_reducible rfl)
    try simp only [Act.put, List.setIfInBounds_toArray, List.set_cons_zero, List.set_cons_succ]
    refine take_run (i := 17) (oi := { dst := some 33, op := Go.Op.binOp Go.BinOp.add 3 (Go.Operand.tmp 32) (Go.Operand.const (Go.Value.int Go.IntKind.i64 1)) 3, type := 3, pos := "net.go:162", after := #[{ on := 16, ground := Go.Ground.data }], guard := none }) (v := .int .i64 ((at_ + 1 : Nat) : Int)) rfl (by kernel_rfl) (by kernel_rfl) (by kernel_rfl) (fun _ _ _ h => h) (by rfl) ?_ hHeld ?_
    · (intro wq hSw; go_simp <;> with_reducible rfl)
    try simp only [Act.put, List.setIfInBounds_toArray, List.set_cons_zero, List.set_cons_succ]
    refine take_val (i := 12) (oi := { dst := some 28, op := Go.Op.lookup 36 (Go.Operand.tmp 25) (Go.Operand.tmp 27) false, type := 66, pos := "net.go:162", after := #[{ on := 9, ground := Go.Ground.data }, { on := 11, ground := Go.Ground.data }], guard := none }) (.slice (some ⟨g, 0, none⟩) n cap) rfl (by kernel_rfl) (by rfl) (by have cc := HLK.out; go_simp <;> with_reducible rfl) hHeld ?_
    try simp only [Act.put, List.setIfInBounds_toArray, List.set_cons_zero, List.set_cons_succ]
    refine take_call (i := 18) (oi := { dst := some 34, op := Go.Op.call { callee := Go.Callee.value (Go.Operand.func 32), args := #[Go.Operand.tmp 28, Go.Operand.tmp 30, Go.Operand.tmp 33], argTypes := #[66, 3, 3] }, type := 66, pos := "net.go:162", after := #[{ on := 12, ground := Go.Ground.data }, { on := 14, ground := Go.Ground.data }, { on := 17, ground := Go.Ground.data }], guard := none }) rfl (by kernel_rfl) (by rfl) 32 _ (by go_simp <;> with_reducible rfl) ?_
    refine (hdl).mono ?_
    rintro e w2 ⟨rfl, ho2, hg2⟩
    refine ⟨.slice (some ⟨g, 0, none⟩) (n - 1) cap, rfl, HCUT.out.s2 w2 ho2 hg2, ?_⟩
    try simp only [Act.put, List.setIfInBounds_toArray, List.set_cons_zero, List.set_cons_succ]
    obtain ⟨w3, hup, hs3, CT⟩ := HCUT.out.next w2 ho2 hg2
    have HUP : Hid _ := hup
    have HS3 : Hid _ := hs3
    have HCT : Hid _ := CT
    clear hup hs3 CT
    refine take_eff (i := 19) (oi := { dst := none, op := Go.Op.mapUpdate 36 (Go.Operand.tmp 19) (Go.Operand.tmp 21) (Go.Operand.tmp 34), type := 0, pos := "net.go:162", after := #[{ on := 3, ground := Go.Ground.data }, { on := 5, ground := Go.Ground.data }, { on := 18, ground := Go.Ground.data }, { on := 18, ground := Go.Ground.chain }, { on := 0, ground := Go.Ground.phase }, { on := 1, ground := Go.Ground.phase }, { on := 2, ground := Go.Ground.phase }, { on := 3, ground := Go.Ground.phase }, { on := 4, ground := Go.Ground.phase }, { on := 5, ground := Go.Ground.phase }, { on := 6, ground := Go.Ground.phase }, { on := 7, ground := Go.Ground.phase }, { on := 8, ground := Go.Ground.phase }, { on := 9, ground := Go.Ground.phase }, { on := 10, ground := Go.Ground.phase }, { on := 11, ground := Go.Ground.phase }, { on := 12, ground := Go.Ground.phase }, { on := 13, ground := Go.Ground.phase }, { on := 14, ground := Go.Ground.phase }, { on := 15, ground := Go.Ground.phase }, { on := 16, ground := Go.Ground.phase }, { on := 17, ground := Go.Ground.phase }, { on := 18, ground := Go.Ground.phase }], guard := none }) rfl (by kernel_rfl) (by rfl) (by have cc := HUP.out; go_simp <;> with_reducible rfl) HS3.out ?_
    try simp only [Act.put]
    refine wpAnyH_done (by kernel_rfl) ?_ _
    clear hHeld hdl HLK HCUT HUP
    have mm : n - 1 < n := by have := HNN.out; omega
    obtain ⟨m1, em⟩ : ∃ m1, n - 1 = m1 := ⟨_, rfl⟩
    have q1 : w3.drew.cell? ⟨N, 0, none⟩ = some (.map (some B)) := by have := HS3.out.1; show w3.cell? _ = _; simp [World.cell?, this]
    have q2 : w3.drew.cell? ⟨Sb, 0, none⟩ = some (.int .i64 to) := by have := HS3.out.2; show w3.cell? _ = _; simp [World.cell?, this]
    have q3 := HCT.out.1 w3.drew (fun q => rfl)
    rw [em] at q3
    rw [em]
    go_wp2_with fail
    refine wp_region_held_drew (S := fun X => X = w3.drew) (by kernel_rfl) rfl (fun hHeld => ?_)
    refine take_run (i := 0) (oi := { dst := some 35, op := Go.Op.move (Go.Operand.tmp 0), type := 23, pos := "net.go:163", after := #[], guard := none }) (v := .pointer (some ⟨N, 0, none⟩)) rfl (by kernel_rfl) (by kernel_rfl) (by kernel_rfl) (fun _ _ _ h => h) (by rfl) ?_ hHeld ?_
    · (intro wq hSw; go_simp <;> with_reducible rfl)
    try simp only [Act.put, List.setIfInBounds_toArray, List.set_cons_zero, List.set_cons_succ]
    refine take_run (i := 1) (oi := { dst := some 36, op := Go.Op.nilCheck (Go.Operand.tmp 35), type := 0, pos := "net.go:163", after := #[{ on := 0, ground := Go.Ground.data }], guard := none }) (v := .pointer (some ⟨N, 0, none⟩)) rfl (by kernel_rfl) (by kernel_rfl) (by kernel_rfl) (fun _ _ _ h => h) (by rfl) ?_ hHeld ?_
    · (intro wq hSw; go_simp <;> with_reducible rfl)
    try simp only [Act.put, List.setIfInBounds_toArray, List.set_cons_zero, List.set_cons_succ]
    refine take_run (i := 2) (oi := { dst := some 37, op := Go.Op.fieldAddr 38 (Go.Operand.tmp 36) 0, type := 0, pos := "net.go:163", after := #[{ on := 1, ground := Go.Ground.data }], guard := none }) (v := .pointer (some ⟨N, 0, none⟩)) rfl (by kernel_rfl) (by kernel_rfl) (by kernel_rfl) (fun _ _ _ h => h) (by rfl) ?_ hHeld ?_
    · (intro wq hSw; go_simp <;> with_reducible rfl)
    try simp only [Act.put, List.setIfInBounds_toArray, List.set_cons_zero, List.set_cons_succ]
    refine take_run (i := 3) (oi := { dst := some 38, op := Go.Op.load 36 (Go.Operand.tmp 37), type := 36, pos := "net.go:163", after := #[{ on := 2, ground := Go.Ground.data }], guard := none }) (v := .map (some B)) rfl (by kernel_rfl) (by kernel_rfl) (by kernel_rfl) (fun _ _ _ h => h) (by rfl) ?_ hHeld ?_
    · (intro wq hSw; subst hSw; go_simp <;> with_reducible rfl)
    try simp only [Act.put, List.setIfInBounds_toArray, List.set_cons_zero, List.set_cons_succ]
    refine take_run (i := 4) (oi := { dst := some 39, op := Go.Op.fieldAddr 63 (Go.Operand.tmp 5) 0, type := 0, pos := "net.go:163", after := #[], guard := none }) (v := .pointer (some ⟨Sb, 0, none⟩)) rfl (by kernel_rfl) (by kernel_rfl) (by kernel_rfl) (fun _ _ _ h => h) (by rfl) ?_ hHeld ?_
    · (intro wq hSw; go_simp <;> with_reducible rfl)
    try simp only [Act.put, List.setIfInBounds_toArray, List.set_cons_zero, List.set_cons_succ]
    refine take_run (i := 5) (oi := { dst := some 40, op := Go.Op.load 3 (Go.Operand.tmp 39), type := 3, pos := "net.go:163", after := #[{ on := 4, ground := Go.Ground.data }], guard := none }) (v := .int .i64 to) rfl (by kernel_rfl) (by kernel_rfl) (by kernel_rfl) (fun _ _ _ h => h) (by rfl) ?_ hHeld ?_
    · (intro wq hSw; subst hSw; go_simp <;> with_reducible rfl)
    try simp only [Act.put, List.setIfInBounds_toArray, List.set_cons_zero, List.set_cons_succ]
    refine take_run (i := 6) (oi := { dst := some 41, op := Go.Op.lookup 36 (Go.Operand.tmp 38) (Go.Operand.tmp 40) false, type := 66, pos := "net.go:163", after := #[{ on := 3, ground := Go.Ground.data }, { on := 5, ground := Go.Ground.data }], guard := none }) (v := .slice (some ⟨g, 0, none⟩) m1 cap) rfl (by kernel_rfl) (by kernel_rfl) (by kernel_rfl) (fun _ _ _ h => h) (by rfl) ?_ hHeld ?_
    · (intro wq hSw; subst hSw; go_simp <;> with_reducible rfl)
    try simp only [Act.put, List.setIfInBounds_toArray, List.set_cons_zero, List.set_cons_succ]
    refine take_run (i := 7) (oi := { dst := some 42, op := Go.Op.call { callee := Go.Callee.builtin Go.Builtin.len, args := #[Go.Operand.tmp 41], argTypes := #[66] }, type := 3, pos := "net.go:163", after := #[{ on := 6, ground := Go.Ground.data }], guard := none }) (v := .int .i64 (m1 : Int)) rfl (by kernel_rfl) (by kernel_rfl) (by kernel_rfl) (fun _ _ _ h => h) (by rfl) ?_ hHeld ?_
    · (intro wq hSw; go_simp <;> with_reducible rfl)
    try simp only [Act.put, List.setIfInBounds_toArray, List.set_cons_zero, List.set_cons_succ]
    refine take_run (i := 8) (oi := { dst := some 43, op := Go.Op.binOp Go.BinOp.eql 3 (Go.Operand.tmp 42) (Go.Operand.const (Go.Value.int Go.IntKind.i64 0)) 3, type := 4, pos := "net.go:163", after := #[{ on := 7, ground := Go.Ground.data }], guard := none }) (v := .bool ((m1 : Int) == 0)) rfl (by kernel_rfl) (by kernel_rfl) (by kernel_rfl) (fun _ _ _ h => h) (by rfl) ?_ hHeld ?_
    · (intro wq hSw; go_simp <;> with_reducible rfl)
    try simp only [Act.put, List.setIfInBounds_toArray, List.set_cons_zero, List.set_cons_succ]
    refine wpAnyH_done (by kernel_rfl) ?_ _
    clear q1 q2 q3 hHeld
    by_cases hm0 : m1 = 0
    · have q4 : ((m1 : Int) == 0) = true := by simp [hm0]
      have hn1 : n = 1 := by have := HNN.out; omega
      obtain ⟨w4, hde, hs4, bx', hfin, hkeep⟩ := HCT.out.2.2 hn1 w3.drew.drew ((Below.refl _ w3).drew.drew) rfl
      have HDE : Hid _ := hde
      have HS4 : Hid (w4.heap[N]? = some (.cells #[.map (some B), .int .i64 (T : Int)] 38 (0, 0)) ∧ w4.heap[Sb]? = some (.cells #[.int .i64 to, .int .i64 (at_ : Int)] 63 (0, 0))) := hs4
      have FIN : Hid (∃ bx', NetIn w4 base N B bx' (L.eraseIdx i) T ∧ NKeep base w w4) := ⟨bx', hfin, KK.out.trans hkeep⟩
      clear hde hs4 hfin hkeep HCT mm em hm0 hn1
      go_wp2_with fail
      refine wp_region_held_drew (S := fun X => X.heap[N]? = some (.cells #[.map (some B), .int .i64 (T : Int)] 38 (0, 0)) ∧ X.heap[Sb]? = some (.cells #[.int .i64 to, .int .i64 (at_ : Int)] 63 (0, 0))) (by kernel_rfl) HS3.out (fun hHeld => ?_)
      refine take_run (i := 0) (oi := { dst := some 44, op := Go.Op.move (Go.Operand.tmp 0), type := 23, pos := "net.go:164", after := #[], guard := none }) (v := .pointer (some ⟨N, 0, none⟩)) rfl (by kernel_rfl) (by kernel_rfl) (by kernel_rfl) (fun _ _ _ h => h) (by rfl) ?_ hHeld ?_
      · (intro wq hSw; go_simp <;> with_reducible rfl)
      try simp only [Act.put, List.setIfInBounds_toArray, List.set_cons_zero, List.set_cons_succ]
      refine take_run (i := 1) (oi := { dst := some 45, op := Go.Op.nilCheck (Go.Operand.tmp 44), type := 0, pos := "net.go:164", after := #[{ on := 0, ground := Go.Ground.data }], guard := none }) (v := .pointer (some ⟨N, 0, none⟩)) rfl (by kernel_rfl) (by kernel_rfl) (by kernel_rfl) (fun _ _ _ h => h) (by rfl) ?_ hHeld ?_
      · (intro wq hSw; go_simp <;> with_reducible rfl)
      try simp only [Act.put, List.setIfInBounds_toArray, List.set_cons_zero, List.set_cons_succ]
      refine take_run (i := 2) (oi := { dst := some 46, op := Go.Op.fieldAddr 38 (Go.Operand.tmp 45) 0, type := 0, pos := "net.go:164", after := #[{ on := 1, ground := Go.Ground.data }], guard := none }) (v := .pointer (some ⟨N, 0, none⟩)) rfl (by kernel_rfl) (by kernel_rfl) (by kernel_rfl) (fun _ _ _ h => h) (by rfl) ?_ hHeld ?_
      · (intro wq hSw; go_simp <;> with_reducible rfl)
      try simp only [Act.put, List.setIfInBounds_toArray, List.set_cons_zero, List.set_cons_succ]
      refine take_run (i := 3) (oi := { dst := some 47, op := Go.Op.load 36 (Go.Operand.tmp 46), type := 36, pos := "net.go:164", after := #[{ on := 2, ground := Go.Ground.data }], guard := none }) (v := .map (some B)) rfl (by kernel_rfl) (by kernel_rfl) (by kernel_rfl) (fun _ _ _ h => h) (by rfl) ?_ hHeld ?_
      · (intro wq hSw; have cN := (show wq.cell? ⟨N, 0, none⟩ = some (.map (some B)) by have := hSw.1; simp [World.cell?, this]); go_simp <;> with_reducible rfl)
      try simp only [Act.put, List.setIfInBounds_toArray, List.set_cons_zero, List.set_cons_succ]
      refine take_run (i := 4) (oi := { dst := some 48, op := Go.Op.fieldAddr 63 (Go.Operand.tmp 5) 0, type := 0, pos := "net.go:164", after := #[], guard := none }) (v := .pointer (some ⟨Sb, 0, none⟩)) rfl (by kernel_rfl) (by kernel_rfl) (by kernel_rfl) (fun _ _ _ h => h) (by rfl) ?_ hHeld ?_
      · (intro wq hSw; go_simp <;> with_reducible rfl)
      try simp only [Act.put, List.setIfInBounds_toArray, List.set_cons_zero, List.set_cons_succ]
      refine take_run (i := 5) (oi := { dst := some 49, op := Go.Op.load 3 (Go.Operand.tmp 48), type := 3, pos := "net.go:164", after := #[{ on := 4, ground := Go.Ground.data }], guard := none }) (v := .int .i64 to) rfl (by kernel_rfl) (by kernel_rfl) (by kernel_rfl) (fun _ _ _ h => h) (by rfl) ?_ hHeld ?_
      · (intro wq hSw; have cP := (show wq.cell? ⟨Sb, 0, none⟩ = some (.int .i64 to) by have := hSw.2; simp [World.cell?, this]); go_simp <;> with_reducible rfl)
      try simp only [Act.put, List.setIfInBounds_toArray, List.set_cons_zero, List.set_cons_succ]
      refine take_val (i := 6) (oi := { dst := none, op := Go.Op.call { callee := Go.Callee.builtin Go.Builtin.delete, args := #[Go.Operand.tmp 47, Go.Operand.tmp 49], argTypes := #[36, 3] }, type := 0, pos := "net.go:164", after := #[{ on := 3, ground := Go.Ground.data }, { on := 5, ground := Go.Ground.data }], guard := none }) (.tuple #[]) rfl (by kernel_rfl) (by rfl) (exec_delN (.tmp 47) (.tmp 49) 36 3 rfl rfl rfl HDE.out) HS4.out ?_
      try simp only [Act.put]
      refine wpAnyH_done (by kernel_rfl) ?_ _
      go_wp2
      go_ret
      exact .inr ⟨i, HI.out, rfl, rfl, FIN.out⟩
    · have q4 : ((m1 : Int) == 0) = false := by simp [hm0]
      obtain ⟨bx', hfin, hkeep⟩ := HCT.out.2.1 (by omega) w3.drew ((Below.refl _ w3).drew)
      have FIN : Hid (∃ bx', NetIn w3.drew base N B bx' (L.eraseIdx i) T ∧ NKeep base w w3.drew) := ⟨bx', hfin, KK.out.trans hkeep⟩
      clear hfin hkeep HCT mm em hm0
      go_wp2
      go_ret
      exact .inr ⟨i, HI.out, rfl, rfl, FIN.out⟩
end Go.Proofs.Ytccmehbdnnelhaa
