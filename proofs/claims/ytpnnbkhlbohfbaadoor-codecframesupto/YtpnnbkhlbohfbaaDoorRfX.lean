/- What the reference's SpoilEntries and SpoilMsg do: no memory below what they are handed is changed. -/
import Derived.Test.YtpnnbkhlbohfbaaDoorRefSp
import Derived.Test.YtpnnbkhlbohfbaaDoorK4
namespace Go.Proofs.YtpnnbkhlbohfbaaDoor
open Go.RowKit Cod
set_option linter.unusedVariables false

/-- A row of bytes of which nothing is told but where it lies and how long it is. -/
theorem append_x (base : Nat) (v : Value) (n : Nat) (xs : List Value) (x : Value) (w : World) (ho : w.ownsRow base 5 1 v n xs) (hx : x.oneCell' = true) (hbase : base ≤ w.heap.size) (hm : n + 1 ≤ 140737488355328) :
    ∃ g c w', (Builtin.append_ #[22, 22] 22 #[v, .slice (some ⟨w.heap.size, 0, none⟩) 1 1]).run Tryd.prog (w.alloc (.cells #[x] 5)) = .ok (.slice (some ⟨g, 0, none⟩) (n + 1) c) w' ∧
      w'.ownsRow base 5 1 (.slice (some ⟨g, 0, none⟩) (n + 1) c) (n + 1) (xs ++ [x]) ∧ w.grownBy w' v.ownBlock ∧ (v.ownBlock = some g ∨ w.heap.size ≤ g) ∧ ∃ ys, w'.ownsRow base 5 1 v n ys := by
  obtain ⟨i0, hi, hz0, hz1, hz2⟩ := info_parts info5
  have hnew : ∀ (j : Nat) (u : Value), [x][j]? = some u → (w.alloc (.cells #[x] 5)).cell? ((⟨w.heap.size, 0, none⟩ : Addr).add j) = some u := World.news_of_block (cs := #[x]) (t := 5) (fr := (0, 0)) (heap_alloc_new w _)
  obtain ⟨g, c, w2, hr2, o2, g2, hat, hlt2⟩ := run_append_lies (P := Tryd.prog) (w.alloc (.cells #[x] 5)) 22 22 base 5 i0 (.int .u8 0) 1 1 Tryd.underlying22 hi hz0 hz1 hz2 rfl (by omega) v n xs (ho.alloc _) ⟨w.heap.size, 0, none⟩ 1 1 [x] rfl hnew (by simpa using hx) (by omega) (by unfold maxLen; omega) (by omega) (by simp; omega) (w.heap.size + 1) (by simp)
  refine ⟨g, c, w2, hr2, o2, (grown_alloc (grown_refl w _) _).trans g2, hat.imp id (fun h => by omega), ?_⟩
  rcases (ho.alloc (.cells #[x] 5)).2 with ⟨rfl, rfl⟩ | ⟨b, cap, cur, rfl, hb, hcell, hn, hcm, hcs, htake⟩
  · exact ⟨[], World.ownsRow_nil _ _ _ _⟩
  · by_cases hroom : n + 1 ≤ cap
    · obtain ⟨w3, hr3, o3, _⟩ := run_append_fits (P := Tryd.prog) (w.alloc (.cells #[x] 5)) base 22 22 5 i0 1 Tryd.underlying22 hi hz1 b n cap xs (ho.alloc _) ⟨w.heap.size, 0, none⟩ 1 1 [x] rfl hnew (by simpa using hx) hroom
      rw [hr2] at hr3
      injection hr3 with e1 e2
      subst e2
      rcases o3.2 with ⟨e, _⟩ | ⟨b', cap', cur', e, hb', hcell', hn', hcm', hcs', _⟩
      · cases e
      · cases e
        exact ⟨cur'.toList.take (n * 1), by rw [List.length_take, Array.length_toList]; omega, .inr ⟨b, cap, cur', rfl, hb', hcell', by omega, hcm', hcs', rfl⟩⟩
    · have holds : ∀ j u, xs[j]? = some u → (w.alloc (.cells #[x] 5)).cell? ((⟨b, 0, none⟩ : Addr).add j) = some u := (ho.alloc (.cells #[x] 5)).cells (g := b) rfl
      have hr3 := run_append_grow (P := Tryd.prog) (w.alloc (.cells #[x] 5)) 22 22 5 i0 (.int .u8 0) Tryd.underlying22 hi hz0 ⟨b, 0, none⟩ n cap xs (by rw [hz1]; exact ho.1) holds ⟨w.heap.size, 0, none⟩ 1 1 [x] (by rw [hz1]; rfl) hnew (by omega) (by omega) (growslice_fits (by omega) (by rw [hz2]; omega))
      rw [hr2] at hr3
      injection hr3 with e1 e2
      subst e2
      exact ⟨xs, by simpa using ho.1, .inr ⟨b, cap, cur, rfl, hb, (Below.heap_alloc (w.alloc (.cells #[x] 5)).drew _ _ (by have := (Array.getElem?_eq_some_iff.1 hcell).1; simpa using this)).trans hcell, hn, hcm, hcs, htake⟩⟩
theorem owns_store {w : World} {base n k : Nat} {v : Value} {xs : List Value} (h : w.ownsRow base 5 1 v n xs) (g : Nat) (u : Value) : ∃ ys, (w.setCell ⟨g, k, none⟩ u).ownsRow base 5 1 v n ys := by
  rcases h.2 with ⟨rfl, rfl⟩ | ⟨b, cap, cur, rfl, hb, hcell, hn, hcm, hcs, htake⟩
  · exact ⟨[], World.ownsRow_nil _ _ _ _⟩
  · by_cases e : b = g
    · subst e
      have hs : (cur.setIfInBounds k u).size = cur.size := by simp
      exact ⟨(cur.setIfInBounds k u).toList.take (n * 1), by rw [List.length_take, Array.length_toList]; omega, .inr ⟨b, cap, _, rfl, hb, set_block hcell k u, hn, hcm, by omega, rfl⟩⟩
    · exact ⟨xs, h.1, .inr ⟨b, cap, cur, rfl, hb, (Below.heap_setCell _ _ _ b (fun e' => e (by simpa using e'))).trans hcell, hn, hcm, hcs, htake⟩⟩
set_option maxRecDepth 100000 in
set_option maxHeartbeats 1600000 in
/-- Spoil of a row of bytes of which nothing else is told. -/
theorem spoil_x (base : Nat) (v : Value) (n : Nat) (xs : List Value) (w : World) (ho : w.ownsRow base 5 1 v n xs) (hbase : base ≤ w.heap.size) (hm : n + 1 ≤ 140737488355328) :
    Calls Tryd.prog 10 #[v] w fun e w' => (∃ u, e = .returned u) ∧ w.grownBy w' v.ownBlock ∧ ∃ ys, w'.ownsRow base 5 1 v n ys := by
  -- keep
  obtain ⟨va, vc, rfl, hvn⟩ := owned_form ho
  have HO : Hid (w.ownsRow base 5 1 (.slice va n vc) n xs) := ho
  have HBs : Hid _ := hbase
  have HM : Hid _ := hm
  clear ho hbase hm hvn
  go_enter Tryd.func10, Tryd.ntmps10
  go_wp2
  go_loopw [2] (fun i wr => ∃ (k : Nat) (ys : List Value), k ≤ n ∧ i = .int .i64 k ∧ wr.ownsRow base 5 1 (.slice va n vc) n ys ∧ w.grownBy wr (Value.slice va n vc).ownBlock) (fun i _ => n - (intOf i).toNat)
  case atStart => exact ⟨0, xs, Nat.zero_le _, rfl, HO.out, grown_refl w _⟩
  case round =>
    obtain ⟨k, ys, hk, rfl, ho, hb⟩ := hrel
    by_cases hlt : k < n
    · obtain ⟨g, c, e, hg1, hg2⟩ := ho.form (by omega)
      cases e
      have hlen : ys.length = n * 1 := ho.1
      have hcell : wr.cell? ⟨g, k, none⟩ = ys[k]? := ho.cellAt k (by omega)
      have hc2 : wr.cell? ⟨g, k, none⟩ = some (ys[k]'(by omega)) := by rw [hcell, List.getElem?_eq_getElem (by omega)]
      generalize ys[k]'(by omega) = yk at hc2
      have hfr := ho.frozenAt k
      obtain ⟨zs, hz⟩ := owns_store (k := k) ho g (.int .u8 90)
      have HS : Hid _ := hz
      have HB : Hid (w.grownBy (wr.setCell ⟨g, k, none⟩ (.int .u8 90)) (Value.slice (some ⟨g, 0, none⟩) n vc).ownBlock) := grown_at hb g k _ (.inl rfl)
      have hm' := HM.out
      have hlt' : (k : Int) < n := by omega
      clear ho hb hcell hz hlen
      go_wp2
      go_roundw
      case rel => exact ⟨k + 1, zs, by omega, by go_num, HS.out, HB.out⟩
      case measure => simp only [intOf]; omega
    · obtain rfl : k = n := by omega
      have hbs : base ≤ wr.heap.size := Nat.le_trans HBs.out hb.size
      obtain ⟨g, c, w2, hr2, o2, g2, hat, ys2, hy2⟩ := append_x base (.slice va k vc) k ys (.int .u8 91) wr ho rfl hbs HM.out
      have hlen : ys.length = k := by simpa using ho.1
      have hc2 : w2.cell? ⟨g, k, none⟩ = some (.int .u8 91) := by
        rw [o2.cellAt k (by omega), List.getElem?_append_right (by omega), hlen]
        simp
      have hfr := o2.frozenAt k
      have HR : Hid _ := hr2
      have gA : w.grownBy w2 (Value.slice va k vc).ownBlock := hb.trans g2
      have HB : Hid (w.grownBy (w2.setCell ⟨g, k, none⟩ (.int .u8 92)) (Value.slice va k vc).ownBlock) := grown_at gA g k _ (by
        rcases hat with h | h
        · exact .inl h
        · have := hb.size
          exact .inr (by omega))
      have HY : Hid (∃ ys, (w2.setCell ⟨g, k, none⟩ (.int .u8 92)).ownsRow base 5 1 (.slice va k vc) k ys) := owns_store hy2 g _
      have hm' := HM.out
      have hw : IntKind.i64.wrap ((k : Int) + 1 - 1) = k := by rw [IntKind.wrap_i64]; omega
      clear hr2 o2 g2 ho hb gA hat hy2 hlen
      go_wp2_with (at_builtin; refine wpList_append_known rfl (.tmp 12) (.tmp 13) 22 22 rfl _ _ rfl rfl _ _ HR.out ?_)
      exact bodyPost_end (results_none rfl _ _ _) rfl ⟨⟨_, rfl⟩, HB.out, HY.out⟩
/-- Rows of bytes that lay ahead of a Spoil lie behind it. -/
theorem owns_spoilt {w w' : World} {base base' n n' : Nat} {v v' : Value} {xs xs' ys : List Value} (h : w.ownsRow base' 5 1 v' n' xs') (ho : w.ownsRow base 5 1 v n xs) (hg : w.grownBy w' v.ownBlock) (hy : w'.ownsRow base 5 1 v n ys) : ∃ zs, w'.ownsRow base' 5 1 v' n' zs := by
  rcases h.2 with ⟨rfl, rfl⟩ | ⟨b, cap, cur, rfl, hb, hcell, hn, hcm, hcs, htake⟩
  · exact ⟨[], World.ownsRow_nil _ _ _ _⟩
  · by_cases e : v.ownBlock = some b
    · rcases ho.2 with ⟨rfl, _⟩ | ⟨b1, cap1, cur1, rfl, hb1, hcell1, hn1, hcm1, hcs1, _⟩
      · cases e
      · obtain rfl : b1 = b := by simpa [Value.ownBlock] using e
        rw [hcell] at hcell1
        injection hcell1 with hcell1
        injection hcell1 with hcur
        subst hcur
        rcases hy.2 with ⟨e, _⟩ | ⟨b2, cap2, cur2, e, hb2, hcell2, hn2, hcm2, hcs2, _⟩
        · cases e
        · cases e
          exact ⟨cur2.toList.take (n' * 1), by rw [List.length_take, Array.length_toList]; omega, .inr ⟨b1, cap, cur2, rfl, hb, hcell2, hn, hcm, by omega, rfl⟩⟩
    · exact ⟨xs', h.1, .inr ⟨b, cap, cur, rfl, hb, (hg.block b (Array.getElem?_eq_some_iff.1 hcell).1 (fun e' => e e'.symm)).trans hcell, hn, hcm, hcs, htake⟩⟩
/-- A row of another kind is as it was where a row of bytes has changed. -/
theorem owns_apart {w w' : World} {base base' n k size : Nat} {t : TypeId} {v u : Value} {xs ys : List Value} (h : w.ownsRow base' t size u k ys) (hu : w.ownsRow base 5 1 v n xs) (ht : t ≠ 5) (hg : w.grownBy w' v.ownBlock) : w'.ownsRow base' t size u k ys := by
  refine ⟨h.1, h.2.imp id ?_⟩
  rintro ⟨g, cap, cur, e1, e2, e3, e4⟩
  refine ⟨g, cap, cur, e1, e2, ?_, e4⟩
  rw [hg.block g (Array.getElem?_eq_some_iff.1 e3).1 (fun e => ?_)]
  · exact e3
  · rcases hu.2 with ⟨e5, _⟩ | ⟨g', cap', cur', e5, _, e6, _⟩
    · rw [e5] at e
      cases e
    · rw [e5] at e
      have : g = g' := by simpa [Value.ownBlock] using e
      subst this
      rw [e3] at e6
      injection e6 with e6
      injection e6 with _ e7
      exact ht e7
/-- Entries of which nothing is told but where they lie: a row of so many, in each the slice of its bytes. -/
structure EntX (w : World) (base n : Nat) (v : Value) (us : List Value) : Prop where
  row : ∃ xs, w.ownsRow base 55 2 v n xs ∧ (∀ j, j < n → ∃ z, xs[j * 2]? = some (.int .i64 z)) ∧ ∀ j, j < n → xs[j * 2 + 1]? = us[j]?
  len : us.length = n
  own : ∀ u ∈ us, ∃ m xs, m ≤ 65536 ∧ w.ownsRow base 5 1 u m xs
/-- Whatever is neither bytes nor entries is kept. -/
def KeepO (w w' : World) : Prop := ∀ (k : Nat) (cs : Array Value) (t : TypeId) (z : Nat × Nat), w.heap[k]? = some (.cells cs t z) → t ≠ 5 → t ≠ 55 → w'.heap[k]? = some (.cells cs t z)
theorem KeepO.spoil {w w1 w2 : World} {base n : Nat} {v : Value} {xs : List Value} (h : KeepO w w1) (hu : w1.ownsRow base 5 1 v n xs) (hg : w1.grownBy w2 v.ownBlock) : KeepO w w2 := fun k cs t z hk h5 h6 => by
  have h1 := h k cs t z hk h5 h6
  rw [hg.block k (Array.getElem?_eq_some_iff.1 h1).1 (fun e => ?_)]
  · exact h1
  · rcases hu.2 with ⟨e5, _⟩ | ⟨g', cap', cur', e5, _, e6, _⟩
    · rw [e5] at e
      cases e
    · rw [e5] at e
      have : k = g' := by simpa [Value.ownBlock] using e
      subst this
      rw [h1] at e6
      injection e6 with e6
      injection e6 with _ e7
      exact h5 e7
theorem KeepO.store {w w1 : World} {base n c : Nat} {g : Nat} {xs : List Value} (h : KeepO w w1) (hu : w1.ownsRow base 55 2 (.slice (some ⟨g, 0, none⟩) n c) n xs) (j : Nat) (u : Value) : KeepO w (w1.setCell ⟨g, j, none⟩ u) := fun k cs t z hk h5 h6 => by
  have h1 := h k cs t z hk h5 h6
  rw [Below.heap_setCell _ _ _ k (fun e => ?_)]
  · exact h1
  · have : k = g := by simpa using e
    subst this
    rcases hu.2 with ⟨e5, _⟩ | ⟨g', cap', cur', e5, _, e6, _⟩
    · cases e5
    · cases e5
      rw [h1] at e6
      injection e6 with e6
      injection e6 with _ e7
      exact h6 e7
set_option maxRecDepth 100000 in
set_option maxHeartbeats 1600000 in
theorem spoilEnts_any (base n : Nat) (v : Value) (us : List Value) (w : World) (h : EntX w base n v us) (hbase : base ≤ w.heap.size) (hm : n + 1 ≤ 140737488355328) :
    Calls Tryd.prog 33 #[v] w fun e w' => (∃ u, e = .returned u) ∧ Below base w w' ∧ KeepO w w' ∧ ∀ m' v' xs', w.ownsRow base 5 1 v' m' xs' → ∃ zs, w'.ownsRow base 5 1 v' m' zs := by
  -- keep
  obtain ⟨xs0, hr0, _⟩ := h.row
  obtain ⟨va, vc, rfl⟩ : ∃ va vc, v = .slice va n vc := by
    rcases hr0.2 with ⟨rfl, rfl⟩ | ⟨g, c, cur, rfl, _⟩
    · exact ⟨none, 0, rfl⟩
    · exact ⟨_, c, rfl⟩
  have HE : Hid (EntX w base n (.slice va n vc) us) := h
  have HBs : Hid _ := hbase
  have HM : Hid _ := hm
  have HL : Hid (us.length = n) := h.len
  clear h hbase hm hr0
  go_enter Tryd.func33, Tryd.ntmps33
  go_wp2
  go_loopw [2] (fun i wr => ∃ (k : Nat), k ≤ n ∧ i = .int .i64 k ∧ Hid (EntX wr base n (.slice va n vc) us) ∧ Hid (Below base w wr) ∧ Hid (KeepO w wr) ∧ Hid (∀ m' v' xs', w.ownsRow base 5 1 v' m' xs' → ∃ zs, wr.ownsRow base 5 1 v' m' zs)) (fun i _ => n - (intOf i).toNat)
  case atStart => exact ⟨0, Nat.zero_le _, rfl, HE, Below.refl _ _, fun _ _ _ _ h _ _ => h, fun _ _ _ h => ⟨_, h⟩⟩
  case round =>
    obtain ⟨k, hk, rfl, he, hb, ho', hs⟩ := hrel
    by_cases hlt : k < n
    · obtain ⟨xs, hr, hz, hu⟩ := he.out.row
      obtain ⟨g, c, e, hg1, hg2⟩ := hr.form (by omega)
      cases e
      have hlen : xs.length = n * 2 := hr.1
      have hus : k < us.length := by have := HL.out; omega
      obtain ⟨z, hz1⟩ := hz k hlt
      have hu1 := hu k hlt
      rw [List.getElem?_eq_getElem hus] at hu1
      obtain ⟨m, ys, hm1, ho⟩ := he.out.own us[k] (List.getElem_mem hus)
      have HUin : Hid (us[k] ∈ us) := List.getElem_mem hus
      generalize us[k] = u at *
      have c1 : wr.cell? ⟨g, k * 2 + 1, none⟩ = some u := by rw [hr.cellAt (k * 2 + 1) (by omega)]; exact hu1
      have f1 := hr.frozenAt (k * 2 + 1)
      have hbs : base ≤ wr.heap.size := Nat.le_trans HBs.out hb.out.size
      have SX := spoil_x base u m ys wr ho hbs (by omega)
      have HR : Hid (wr.ownsRow base 55 2 (.slice (some ⟨g, 0, none⟩) n vc) n xs) := hr
      have HZ : Hid (∀ j, j < n → ∃ z, xs[j * 2]? = some (.int .i64 z)) := hz
      have HU : Hid (∀ j, j < n → xs[j * 2 + 1]? = us[j]?) := hu
      have HO : Hid (wr.ownsRow base 5 1 u m ys) := ho
      have HX1 : Hid (xs[k * 2]? = some (.int .i64 z)) := hz1
      have HLN : Hid (xs.length = n * 2) := hlen
      have HKN : Hid (k < n) := hlt
      have hlt' : (k : Int) < n := by omega
      have hm' := HM.out
      clear hr hz hu ho hz1 hlen hus hbs hu1 hm1
      go_wp2_with fail
      refine SX.mono ?_
      clear SX
      rintro e w2 ⟨⟨q, rfl⟩, g2, ys2, hy2⟩
      have R2 := owns_apart HR.out HO.out (by decide) g2
      have c2 : w2.cell? ⟨g, k * 2, none⟩ = some (.int .i64 z) := by rw [R2.cellAt (k * 2) (by have := HLN.out; have := HKN.out; omega)]; exact HX1.out
      have f2 := R2.frozenAt (k * 2)
      have E3 : Hid (EntX (w2.setCell ⟨g, k * 2, none⟩ (.int .i64 99)) base n (.slice (some ⟨g, 0, none⟩) n vc) us) := by
        refine ⟨⟨xs.set (k * 2) (.int .i64 99), ?_, ?_, ?_⟩, HL.out, ?_⟩
        · exact (R2.stored (k * 2) (.int .i64 99)).1
        · intro j hj
          by_cases hjk : j = k
          · subst hjk
            exact ⟨99, by rw [List.getElem?_set_self (by have := HLN.out; omega)]⟩
          · rw [List.getElem?_set_ne (by omega)]
            exact HZ.out j hj
        · intro j hj
          rw [List.getElem?_set_ne (by omega)]
          exact HU.out j hj
        · intro x hx
          obtain ⟨m', xs', h1, h2⟩ := he.out.own x hx
          obtain ⟨zs, hzs⟩ := owns_spoilt h2 HO.out g2 hy2
          obtain ⟨zs', hzs'⟩ := owns_store (k := k * 2) hzs g (.int .i64 99)
          exact ⟨m', zs', h1, hzs'⟩
      have B3 : Hid (Below base w (w2.setCell ⟨g, k * 2, none⟩ (.int .i64 99))) := by
        refine (hb.out.grown g2 (Nat.le_trans HBs.out hb.out.size) (fun q e => (HO.out.lt _ e).1)).setCell ?_ _
        exact hg1
      have O3 : Hid (KeepO w (w2.setCell ⟨g, k * 2, none⟩ (.int .i64 99))) := (ho'.out.spoil HO.out g2).store R2 _ _
      have K3 : Hid (∀ m' v' xs', w.ownsRow base 5 1 v' m' xs' → ∃ zs, (w2.setCell ⟨g, k * 2, none⟩ (.int .i64 99)).ownsRow base 5 1 v' m' zs) := fun m' v' xs' h => by
        obtain ⟨zs, hz⟩ := hs.out m' v' xs' h
        obtain ⟨zs2, hz2⟩ := owns_spoilt hz HO.out g2 hy2
        exact owns_store hz2 g _
      clear g2 hy2 R2 c1 f1 he hb hs ho' hg1 hg2 HUin
      go_wp2
      go_roundw
      case rel => exact ⟨k + 1, by have := HKN.out; omega, by go_num, E3, B3, O3, K3⟩
      case measure => simp only [intOf]; have := HKN.out; omega
    · obtain rfl : k = n := by omega
      go_wp2
      exact bodyPost_end (results_none rfl _ _ _) rfl ⟨⟨_, rfl⟩, hb.out, ho'.out, hs.out⟩
set_option maxRecDepth 100000 in
set_option maxHeartbeats 1600000 in
theorem spoilMsg_any (base n m : Nat) (v d : Value) (us xs : List Value) (h1 h2 h3 h4 h5 h6 h7 h8 : Int) (b9 : Bool) (w : World) (h : EntX w base n v us) (hd : w.ownsRow base 5 1 d m xs) (hbase : base ≤ w.heap.size) (hn : n + 1 ≤ 140737488355328) (hm : m + 1 ≤ 140737488355328) :
    Calls Tryd.prog 11 #[.agg #[.int .i64 h1, .int .i64 h2, .int .i64 h3, .int .i64 h4, .int .i64 h5, .int .i64 h6, .int .i64 h7, .int .i64 h8, .bool b9, v, d]] w fun e w' => (∃ u, e = .returned u) ∧ Below base w w' := by
  -- keep
  obtain ⟨w1, hw1⟩ : ∃ w1, w.alloc (.cells #[.int .i64 h1, .int .i64 h2, .int .i64 h3, .int .i64 h4, .int .i64 h5, .int .i64 h6, .int .i64 h7, .int .i64 h8, .bool b9, v, d] 29) = w1 := ⟨_, rfl⟩
  have HX : Hid (w1.heap[w.heap.size]? = some (.cells #[.int .i64 h1, .int .i64 h2, .int .i64 h3, .int .i64 h4, .int .i64 h5, .int .i64 h6, .int .i64 h7, .int .i64 h8, .bool b9, v, d] 29 (0, 0))) := by rw [← hw1]; exact heap_alloc_new w _
  have B1 : Hid (Below base w w1) := by rw [← hw1]; exact (Below.refl _ w).alloc hbase _
  have HD : Hid (w1.ownsRow base 5 1 d m xs) := by rw [← hw1]; exact hd.alloc _
  have E1 : EntX w1 base n v us := by
    rw [← hw1]
    obtain ⟨xs0, hr, hz, hu⟩ := h.row
    exact ⟨⟨xs0, hr.alloc _, hz, hu⟩, h.len, fun u hu => by obtain ⟨m', ys, h1, h2⟩ := h.own u hu; exact ⟨m', ys, h1, h2.alloc _⟩⟩
  have SE := spoilEnts_any base n v us w1 E1 (Nat.le_trans hbase B1.out.size) hn
  have HM : Hid _ := hm
  have HBs : Hid _ := hbase
  have c9 : w1.cell? ⟨w.heap.size, 9, none⟩ = some v := by simp [World.cell?, HX.out]
  have f9 : w1.frozen? ⟨w.heap.size, 9, none⟩ = false := by simp [World.frozen?, HX.out]
  have HLT : Hid (w.heap.size < w1.heap.size) := (Array.getElem?_eq_some_iff.1 HX.out).1
  clear h hd hbase hn hm E1
  go_enter Tryd.func11, Tryd.ntmps11
  go_wp2_with fail
  refine SE.mono ?_
  clear SE
  rintro e w2 ⟨⟨q, rfl⟩, b2, o2, k2⟩
  have hx2 := o2 _ _ _ _ HX.out (by decide) (by decide)
  have c10 : w2.cell? ⟨w.heap.size, 10, none⟩ = some d := by simp [World.cell?, hx2]
  have f10 : w2.frozen? ⟨w.heap.size, 10, none⟩ = false := by simp [World.frozen?, hx2]
  obtain ⟨ys, hy⟩ := k2 _ _ _ HD.out
  have B2 : Hid (Below base w w2) := B1.out.trans b2
  have SD := spoil_x base d m ys w2 hy (Nat.le_trans HBs.out B2.out.size) HM.out
  have HY : Hid _ := hy
  clear b2 o2 k2 hx2 hy c9 f9
  go_wp2_with fail
  refine SD.mono ?_
  clear SD
  rintro e w3 ⟨⟨q3, rfl⟩, g3, _⟩
  have B3 : Below base w w3 := B2.out.grown g3 (Nat.le_trans HBs.out B2.out.size) (fun q e => (World.ownsRow.lt HY.out _ e).1)
  have HB3 : Hid _ := B3
  clear g3
  go_wp2
  exact bodyPost_end (results_none rfl _ _ _) rfl ⟨⟨_, rfl⟩, HB3.out⟩
end Go.Proofs.YtpnnbkhlbohfbaaDoor
