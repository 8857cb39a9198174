/- Package journal: a record's pieces. -/
import Derived.Test.YtikpmaecbfebkaaDoorJSect
import Derived.Deep.AppendLies
namespace Go.Proofs.YtikpmaecbfebkaaDoor
open Go.RowKit
set_option linter.unusedVariables false

/-- A record's bytes, its sum ahead of them. -/
def wholeB (b : List (BitVec 8)) : List (BitVec 8) := leB 4 (Crc.more 0#32 b).toNat ++ b
theorem wholeB_length (b : List (BitVec 8)) : (wholeB b).length = 4 + b.length := by unfold wholeB; rw [List.length_append, leB_length]
def pl (L j : Nat) : Nat := min 242 (L - 242 * j)
def pcell (g L : Nat) (f : Nat → Nat) (j : Nat) : List Value := [.int .u8 (f j : Int), .slice (some ⟨g, 242 * j, none⟩) (pl L j) (pl L j)]
def pcells (g L : Nat) (f : Nat → Nat) (K : Nat) : List Value := (List.range K).flatMap (pcell g L f)
theorem pcells_succ (g L : Nat) (f : Nat → Nat) (K : Nat) : pcells g L f (K + 1) = pcells g L f K ++ pcell g L f K := by simp [pcells, List.range_succ]
theorem pcells_length (g L : Nat) (f : Nat → Nat) : ∀ K, (pcells g L f K).length = K * 2
  | 0 => rfl
  | K + 1 => by rw [pcells_succ, List.length_append, pcells_length g L f K]; simp [pcell]; omega
theorem pcells_at (g L : Nat) (f : Nat → Nat) : ∀ K j, j < K → (pcells g L f K)[j * 2]? = some (.int .u8 (f j : Int)) ∧ (pcells g L f K)[j * 2 + 1]? = some (.slice (some ⟨g, 242 * j, none⟩) (pl L j) (pl L j))
  | K + 1, j, hj => by
    rw [pcells_succ]
    by_cases h : j < K
    · obtain ⟨a, b⟩ := pcells_at g L f K j h
      rw [List.getElem?_append_left (by rw [pcells_length]; omega), List.getElem?_append_left (by rw [pcells_length]; omega)]
      exact ⟨a, b⟩
    · obtain rfl : j = K := by omega
      rw [List.getElem?_append_right (by rw [pcells_length]; omega), List.getElem?_append_right (by rw [pcells_length]; omega), pcells_length]
      rw [show j * 2 - j * 2 = 0 by omega, show j * 2 + 1 - j * 2 = 1 by omega]
      exact ⟨rfl, rfl⟩
theorem pcells_set (g L : Nat) (f : Nat → Nat) (K j x : Nat) (hj : j < K) : (pcells g L f K).set (j * 2) (.int .u8 (x : Int)) = pcells g L (fun i => if i = j then x else f i) K := by
  refine List.ext_getElem? fun q => ?_
  rw [List.getElem?_set, pcells_length]
  by_cases hq : q < K * 2
  · obtain ⟨i, e⟩ : ∃ i, q = i * 2 ∨ q = i * 2 + 1 := ⟨q / 2, by omega⟩
    have hi : i < K := by omega
    have a1 := pcells_at g L f K i hi
    have a2 := pcells_at g L (fun i => if i = j then x else f i) K i hi
    rcases e with e | e
    · subst e
      by_cases hij : i = j
      · subst hij
        rw [if_pos rfl, if_pos (by omega), a2.1]
        simp
      · rw [if_neg (by omega), a1.1, a2.1]
        simp [hij]
    · subst e
      rw [if_neg (by omega), a1.2, a2.2]
  · rw [if_neg (by omega), List.getElem?_eq_none (by rw [pcells_length]; omega), List.getElem?_eq_none (by rw [pcells_length]; omega)]
/-- A piece's marks. -/
def mrk (K j : Nat) : Nat := (if j = 0 then 1 else 0) + (if j + 1 = K then 2 else 0)
theorem pcells_same (g L : Nat) {f h : Nat → Nat} {K : Nat} (e : ∀ j, j < K → f j = h j) : pcells g L f K = pcells g L h K := by
  induction K with
  | zero => rfl
  | succ K ih => rw [pcells_succ, pcells_succ, ih (fun j hj => e j (by omega))]; unfold pcell; rw [e K (by omega)]
theorem mrk_eq (k j : Nat) (hj : j < k) : (if j = k - 1 then (if k - 1 = 0 then 1 else 0) + 2 else if j = 0 then 1 else 0) = mrk k j := by
  unfold mrk
  by_cases a1 : j = 0
  · by_cases a2 : j + 1 = k
    · rw [if_pos (by omega), if_pos (by omega), if_pos a1, if_pos a2]
    · rw [if_neg (by omega), if_pos a1, if_neg a2]
  · by_cases a2 : j + 1 = k
    · rw [if_pos (by omega), if_neg (by omega), if_neg a1, if_pos a2]
    · rw [if_neg (by omega), if_neg a1, if_neg a2]
theorem infoP : (Tryd.prog.info? 88).map (fun i => (i.zero, i.size, i.bytes)) = some (some (.agg #[.int .u8 0, .slice none 0 0]), 2, 32) := by kernel_rfl
theorem parts_append {w0 w : World} {v : Value} {g L k : Nat} (h : w.ownsRow w0.heap.size 88 2 v k (pcells g L (fun _ => 0) k)) (hb : w0.heap.size ≤ w.heap.size) (hk : k ≤ 100000) :
    ∃ P c w', (Builtin.append_ #[85, 85] 85 #[v, .slice (some ⟨w.heap.size, 0, none⟩) 1 1]).run Tryd.prog (w.alloc (.cells #[.int .u8 0, .slice (some ⟨g, 242 * k, none⟩) (pl L k) (pl L k)] 88)) = .ok (.slice (some ⟨P, 0, none⟩) (k + 1) c) w' ∧
      w'.ownsRow w0.heap.size 88 2 (.slice (some ⟨P, 0, none⟩) (k + 1) c) (k + 1) (pcells g L (fun _ => 0) (k + 1)) ∧ (w.alloc (.cells #[.int .u8 0, .slice (some ⟨g, 242 * k, none⟩) (pl L k) (pl L k)] 88)).grownBy w' v.ownBlock := by
  have o1 := owns_same h (fun j e => ((Below.refl w.heap.size w).alloc (Nat.le_refl _) (.cells #[.int .u8 0, .slice (some ⟨g, 242 * k, none⟩) (pl L k) (pl L k)] 88)).block j (h.lt j e).2)
  obtain ⟨i0, hi, hz0, hz1, hz2⟩ := info_parts infoP
  obtain ⟨P, c, w', hr, o', gr, hat, hlt⟩ := run_append_lies (P := Tryd.prog) (w.alloc (.cells #[.int .u8 0, .slice (some ⟨g, 242 * k, none⟩) (pl L k) (pl L k)] 88)) 85 85 w0.heap.size 88 i0 _ 2 32 Tryd.underlying85 hi hz0 hz1 hz2 rfl (by omega) v k _ o1
    ⟨w.heap.size, 0, none⟩ 1 1 (pcell g L (fun _ => 0) k) (by rfl) (World.news_of_block (cs := #[.int .u8 0, .slice (some ⟨g, 242 * k, none⟩) (pl L k) (pl L k)]) (t := 88) (fr := (0, 0)) (heap_alloc_new w _)) (by simp [pcell, Value.oneCell']) (by omega) (by unfold maxLen; omega) (by omega) (by simp; omega) _ rfl
  exact ⟨P, c, w', hr, by rw [pcells_succ]; exact o', gr⟩
set_option maxRecDepth 100000 in
set_option maxHeartbeats 6400000 in
theorem pieces_any (a : Option Addr) (cap : Nat) (b : List (BitVec 8)) (w : World) (hT : Tabs w) (hS : Seen w a b.length b) (hL : b.length ≤ 8192) :
    Calls Tryd.prog 51 #[.slice a b.length cap] w fun e w' => ∃ P c g, e = .returned (.slice (some ⟨P, 0, none⟩) (secs b.length) c) ∧ w'.ownsRow w.heap.size 88 2 (.slice (some ⟨P, 0, none⟩) (secs b.length) c) (secs b.length) (pcells g (4 + b.length) (mrk (secs b.length)) (secs b.length)) ∧ w'.ownsRow w.heap.size 5 1 (.slice (some ⟨g, 0, none⟩) (4 + b.length) (4 + b.length)) (4 + b.length) (cellsOf (wholeB b)) ∧ Below w.heap.size w w' := by
  obtain ⟨w2, hm2, o2, g2, z2⟩ := make_bytes w (4 + b.length) (by omega)
  have b2 : Below w.heap.size w w2 := (Below.refl _ w).grown g2 (Nat.le_refl _) (fun k e => by cases e)
  obtain ⟨len, el⟩ : ∃ n, b.length = n := ⟨_, rfl⟩
  have EL : Hid (b.length = len) := el
  obtain ⟨L, eL⟩ : ∃ L, 4 + len = L := ⟨_, rfl⟩
  have ELL : Hid (4 + len = L) := eL
  have HLm : Hid (len ≤ 8192) := by show len ≤ 8192; omega
  rw [el, eL] at hm2 o2
  rw [el] at hS
  rw [el, eL]
  have EI : Hid ((4 : Int) + (len : Int) = (L : Int)) := by show (4 : Int) + (len : Int) = (L : Int); omega
  have wL : IntKind.i64.wrap ((4 : Int) + (len : Int)) = (L : Int) := by rw [IntKind.wrap_i64]; omega
  have hcs := crc_lt (Crc.more 0#32 b)
  have WB : Hid (wholeB b = leB 4 (Crc.more 0#32 b).toNat ++ b) := rfl
  have SM : Hid (Calls Tryd.prog 71 #[.slice a len cap] w2.drew fun e w' => e = .returned (.int .u32 ((Crc.more 0#32 b).toNat : Nat)) ∧ ∃ n, w' = w2.drew.drewN n) := sum_any _ _ _ _ w2.drew ((hT.below b2 hT.size).below (Below.refl _ w2).drew (Nat.le_trans hT.size b2.size)) ((hS.below b2).below (Below.refl _ w2).drew)
  obtain ⟨cs, ecs⟩ : ∃ c, (Crc.more 0#32 b).toNat = c := ⟨_, rfl⟩
  rw [ecs] at SM hcs WB
  have wcs : IntKind.u64.wrap (cs : Int) = (cs : Int) := by rw [IntKind.wrap_u64]; omega
  obtain ⟨g, eg⟩ : ∃ g, w.heap.size = g := ⟨_, rfl⟩
  have EG : Hid (w.heap.size = g) := eg
  have PT : Hid (∀ nq, Calls Tryd.prog 70 #[.slice (some ⟨w.heap.size, 0, none⟩) 4 L, .int .u64 cs] (w2.drew.drewN nq) fun e w' => (∃ u, e = .returned u) ∧ w'.ownsRow w.heap.size 5 1 (.slice (some ⟨w.heap.size, 0, none⟩) L L) L (cellsOf (over (List.replicate L 0#8) 0 (leB 4 cs))) ∧ Just w.heap.size (w2.drew.drewN nq) w') := fun nq => put_any w.heap.size w.heap.size L L 0 4 L cs (List.replicate L 0#8) _ o2 (by omega) (by omega) (by omega) (by omega)
  have BW : Hid (Below w.heap.size w w2) := b2
  have HS : Hid (Seen w a len b) := hS
  have HM : Hid _ := hm2
  have u4 : (4 : Int) ≤ (L : Int) := by omega
  rw [eg] at HM PT
  clear hT hS hL hm2 o2 g2 z2 b2 el eL ecs eg
  have hK : ∀ k, k < secs len ↔ 242 * k < L := fun k => by have := ELL.out; unfold secs; omega
  have HK : Hid (∀ k, k < secs len ↔ 242 * k < L) := hK
  have HKp : Hid (1 ≤ secs len ∧ secs len ≤ 100) := by have := HLm.out; show _ ∧ _; unfold secs; omega
  obtain ⟨K, eK⟩ : ∃ K, secs len = K := ⟨_, rfl⟩
  rw [eK] at HK HKp
  rw [eK]
  have HLL : Hid (4 ≤ L ∧ L ≤ 8196) := by have := ELL.out; have := HLm.out; show _ ∧ _; omega
  clear hK eK
  go_enter Tryd.func51, Tryd.ntmps51
  go_wp2_with (refine wpList_value rfl (exec_make (t := 22) (l := .tmp 9) (c := .tmp 9) rfl rfl rfl HM.out) ?_)
  refine wp_region_held_drew (S := fun X => True) (by kernel_rfl) trivial (fun hHeld => ?_)
  refine take_run (i := 0) (oi := { dst := some 11, op := Go.Op.move (Go.Operand.tmp 3), type := 22, pos := "sector.go:64", after := #[], guard := none }) (v := .slice (some ⟨g, 0, none⟩) L L) rfl (by kernel_rfl) (by kernel_rfl) (by kernel_rfl) (fun _ _ _ h => h) (by rfl) ?_ hHeld ?_
  · (intro wq hSw; go_simp <;> with_reducible rfl)
  try simp only [Act.put, List.setIfInBounds_toArray, List.set_cons_zero, List.set_cons_succ]
  refine take_run (i := 1) (oi := { dst := some 12, op := Go.Op.slice 22 (Go.Operand.tmp 11) none (some (Go.Operand.const (Go.Value.int Go.IntKind.i64 4))) none, type := 22, pos := "sector.go:64", after := #[{ on := 0, ground := Go.Ground.data }], guard := none }) (v := .slice (some ⟨g, 0, none⟩) 4 L) rfl (by kernel_rfl) (by kernel_rfl) (by kernel_rfl) (fun _ _ _ h => h) (by rfl) ?_ hHeld ?_
  · (intro wq hSw; go_simp <;> with_reducible rfl)
  try simp only [Act.put, List.setIfInBounds_toArray, List.set_cons_zero, List.set_cons_succ]
  refine take_run (i := 2) (oi := { dst := some 13, op := Go.Op.move (Go.Operand.tmp 0), type := 22, pos := "sector.go:64", after := #[], guard := none }) (v := .slice a len cap) rfl (by kernel_rfl) (by kernel_rfl) (by kernel_rfl) (fun _ _ _ h => h) (by rfl) ?_ hHeld ?_
  · (intro wq hSw; go_simp <;> with_reducible rfl)
  try simp only [Act.put, List.setIfInBounds_toArray, List.set_cons_zero, List.set_cons_succ]
  refine take_call (i := 3) (oi := { dst := some 14, op := Go.Op.call { callee := Go.Callee.value (Go.Operand.func 71), args := #[Go.Operand.tmp 13], argTypes := #[22] }, type := 104, pos := "sector.go:64", after := #[{ on := 2, ground := Go.Ground.data }], guard := none }) rfl (by kernel_rfl) (by rfl) 71 _ (by go_simp <;> with_reducible rfl) ?_
  refine (SM.out).mono ?_
  rintro e y1 ⟨rfl, nq, rfl⟩
  refine ⟨.int .u32 (cs : Nat), rfl, trivial, ?_⟩
  try simp only [Act.put, List.setIfInBounds_toArray, List.set_cons_zero, List.set_cons_succ]
  refine take_run (i := 4) (oi := { dst := some 15, op := Go.Op.convert 104 103 (Go.Operand.tmp 14), type := 103, pos := "sector.go:64", after := #[{ on := 3, ground := Go.Ground.data }], guard := none }) (v := .int .u64 (cs : Nat)) rfl (by kernel_rfl) (by kernel_rfl) (by kernel_rfl) (fun _ _ _ h => h) (by rfl) ?_ hHeld ?_
  · (intro wq hSw; go_simp <;> with_reducible rfl)
  try simp only [Act.put, List.setIfInBounds_toArray, List.set_cons_zero, List.set_cons_succ]
  refine take_call (i := 5) (oi := { dst := some 16, op := Go.Op.call { callee := Go.Callee.value (Go.Operand.func 70), args := #[Go.Operand.tmp 12, Go.Operand.tmp 15], argTypes := #[22, 103] }, type := 0, pos := "sector.go:64", after := #[{ on := 1, ground := Go.Ground.data }, { on := 4, ground := Go.Ground.data }, { on := 3, ground := Go.Ground.chain }], guard := none }) rfl (by kernel_rfl) (by rfl) 70 _ (by go_simp <;> with_reducible rfl) ?_
  refine (PT.out nq).mono ?_
  rintro e y2 ⟨⟨u, rfl⟩, o2, j2⟩
  refine ⟨_, rfl, trivial, ?_⟩
  try simp only [Act.put, List.setIfInBounds_toArray, List.set_cons_zero, List.set_cons_succ]
  clear hHeld
  refine wpAnyH_done (by kernel_rfl) ?_ _
  have o2' : y2.ownsRow w.heap.size 5 1 (.slice (some ⟨g, 0, none⟩) L L) L (cellsOf (over (List.replicate L 0#8) 0 (leB 4 cs))) := by rw [EG.out]; exact o2
  clear o2
  have hq4 : off4 L + min len (L - 4) ≤ L := by unfold off4; have := ELL.out; split <;> omega
  have j20 : Below w.heap.size w y2 := just_below (BW.out.trans ((show Below w2.heap.size w2 (w2.drew.drewN nq) from (Below.refl w2.heap.size w2).drew.trans (below_drewN w2.drew nq)).mono BW.out.size)) j2 (by have := EG.out; omega)
  obtain ⟨x3, hc3, o3, j3⟩ := copy_bytes y2 w.heap.size g L L (off4 L) (L - 4) (L - 4) _ o2' a len cap b (HS.out.below j20) hq4 3
  have e3 : (over (List.replicate L 0#8) 0 (leB 4 cs)).take (off4 L) ++ b.take (L - 4) ++ (over (List.replicate L 0#8) 0 (leB 4 cs)).drop (off4 L + min len (L - 4)) = wholeB b := by
    have q1 := ELL.out
    have q2 := EL.out
    have q3 : over (List.replicate L 0#8) 0 (leB 4 cs) = leB 4 cs ++ List.replicate len 0#8 := by
      have := over_app [] (leB 4 cs) (List.replicate 4 0#8) (List.replicate len 0#8) (by rw [leB_length, List.length_replicate])
      rw [List.replicate_append_replicate, q1] at this
      exact this
    rw [q3, WB.out, List.take_of_length_le (l := b) (by omega)]
    unfold off4
    split
    · have hb : b = [] := List.eq_nil_of_length_eq_zero (by omega)
      subst hb
      have : len = 0 := by omega
      subst this
      simp
    · rw [List.take_left' (leB_length 4 cs), List.drop_of_length_le (by simp [leB_length]; omega), List.append_nil]
  rw [e3] at o3
  have HC3 : Hid _ := hc3
  have O3 : Hid (x3.ownsRow w.heap.size 5 1 (.slice (some ⟨g, 0, none⟩) L L) L (cellsOf (wholeB b)) ∧ Below w.heap.size w x3) := ⟨o3, just_below j20 j3 (by have := EG.out; omega)⟩
  have hif : (if L = 4 then some (⟨g, 0, none⟩ : Addr) else some ⟨g, 4, none⟩) = some ⟨g, off4 L, none⟩ := by unfold off4; split <;> rfl
  obtain ⟨q4, eq4⟩ : ∃ q, off4 L = q := ⟨_, rfl⟩
  rw [eq4] at hif HC3
  clear o2' j2 hq4 j20 hc3 o3 j3 e3 eq4 PT SM HM WB
  go_wp2_with (refine wpList_value rfl (exec_copy (d := .tmp 18) (s := .tmp 19) (t := 22) (tn := 22) rfl rfl rfl HC3.out) ?_)
  clear hif HC3
  go_loopw [4, 5] (fun v tv wr => ∃ (k : Nat) (va : Option Addr) (vl vc t : Nat), v = .slice va vl vc ∧ tv = .int .i64 (t : Int) ∧ Hid (t = 242 * k ∧ k ≤ K) ∧ Hid (wr.ownsRow w.heap.size 88 2 (.slice va vl vc) k (pcells g L (fun _ => 0) k)) ∧ Hid (wr.ownsRow w.heap.size 5 1 (.slice (some ⟨g, 0, none⟩) L L) L (cellsOf (wholeB b)) ∧ Below w.heap.size w wr)) (fun _ tv _ => 24200 - (intOf tv).toNat)
  case atStart => exact ⟨0, none, 0, 0, 0, rfl, rfl, ⟨rfl, Nat.zero_le _⟩, World.ownsRow_nil _ _ _ _, O3.out⟩
  case round =>
    clear O3
    obtain ⟨k, va, vl, vc, t, rfl, rfl, ht, hP, hW⟩ := hrel
    by_cases hlt : k < K
    · have htL : t < L := by have := (HK.out k).1 hlt; have := ht.out.1; omega
      have g1 : (t : Int) < (L : Int) := by omega
      have hb5 : (t : Int) < 24200 := by have := HLL.out; omega
      have w24 : IntKind.i64.wrap ((t : Int) + 242) = (t : Int) + 242 := by rw [IntKind.wrap_i64]; omega
      have t242 : 242 * k = t := ht.out.1.symm
      have HT2 : Hid (t + 242 = 242 * (k + 1) ∧ k + 1 ≤ K) := ⟨by omega, hlt⟩
      have WK : Hid ((t : Int) + 242 = ((t + 242 : Nat) : Int)) := by show (t : Int) + 242 = ((t + 242 : Nat) : Int); omega
      have HM2 : Hid (t < 24200) := by show t < 24200; omega
      by_cases hcase : L < t + 242
      · have h242 : (L : Int) < (t : Int) + 242 := by omega
        have plk : pl L k = L - t := by unfold pl; omega
        have hb1 : (t : Int) ≤ (L : Int) := by omega
        have hb3 : ¬ (L = t) := by omega
        obtain ⟨P, c, x4, hr, o4, g4⟩ := parts_append hP.out hW.out.2.size (by have := HKp.out; omega)
        rw [t242, plk] at hr
        rw [t242, plk] at g4
        have HR : Hid _ := hr
        have NX : Hid (x4.ownsRow w.heap.size 88 2 (.slice (some ⟨P, 0, none⟩) (k + 1) c) (k + 1) (pcells g L (fun _ => 0) (k + 1)) ∧ x4.ownsRow w.heap.size 5 1 (.slice (some ⟨g, 0, none⟩) L L) L (cellsOf (wholeB b)) ∧ Below w.heap.size w x4) := by
          have bA := hW.out.2.alloc hW.out.2.size (.cells #[.int .u8 0, .slice (some ⟨g, t, none⟩) (L - t) (L - t)] 88)
          refine ⟨o4, ?_, bA.grown g4 bA.size (fun j e => (hP.out.lt j e).1)⟩
          refine owns_same hW.out.1 (fun j e => ?_)
          have lj := hW.out.1.lt j e
          rw [g4.block j (by simp; omega) (fun e2 => ?_), Below.heap_alloc _ _ _ lj.2]
          rcases hP.out.2 with ⟨e3, _⟩ | ⟨g6, c6, cur6, e3, _, hg6, _⟩
          · rw [e3] at e2; cases e2
          · rw [e3] at e2
            obtain rfl : j = g6 := by simpa [Value.ownBlock] using e2
            rcases hW.out.1.2 with ⟨e5, _⟩ | ⟨g7, c7, cur7, e5, _, hg7, _⟩
            · cases e5
            · rw [e5] at e
              obtain rfl : g7 = j := by simpa [Value.ownBlock] using e
              rw [hg6] at hg7
              cases hg7
        clear hr o4 g4 plk t242 ht hP hW hlt htL
        go_wp2_with (at_builtin; refine wpList_append_known rfl (.tmp 32) (.tmp 39) 85 85 rfl _ _ rfl rfl _ _ HR.out ?_)
        rw [WK.out]
        go_roundw
        case rel => exact ⟨k + 1, some ⟨P, 0, none⟩, k + 1, c, t + 242, rfl, rfl, HT2.out, NX.out.1, NX.out.2⟩
        case measure => simp only [intOf]; have := HM2.out; omega
      · have h242 : ¬ (L : Int) < (t : Int) + 242 := by omega
        have plk : pl L k = 242 := by unfold pl; omega
        have hb1 : (t : Int) ≤ (t : Int) + 242 := by omega
        have hb2 : (t : Int) + 242 ≤ (L : Int) := by omega
        have tn : ((t : Int) + 242).toNat = t + 242 := by omega
        have hb6 : t + 242 - t = 242 := by omega
        have hb7 : (0 : Int) ≤ (t : Int) + 242 := by omega
        have hb3 : ¬ (t + 242 = t) := by omega
        obtain ⟨P, c, x4, hr, o4, g4⟩ := parts_append hP.out hW.out.2.size (by have := HKp.out; omega)
        rw [t242, plk] at hr
        rw [t242, plk] at g4
        have HR : Hid _ := hr
        have NX : Hid (x4.ownsRow w.heap.size 88 2 (.slice (some ⟨P, 0, none⟩) (k + 1) c) (k + 1) (pcells g L (fun _ => 0) (k + 1)) ∧ x4.ownsRow w.heap.size 5 1 (.slice (some ⟨g, 0, none⟩) L L) L (cellsOf (wholeB b)) ∧ Below w.heap.size w x4) := by
          have bA := hW.out.2.alloc hW.out.2.size (.cells #[.int .u8 0, .slice (some ⟨g, t, none⟩) (242) (242)] 88)
          refine ⟨o4, ?_, bA.grown g4 bA.size (fun j e => (hP.out.lt j e).1)⟩
          refine owns_same hW.out.1 (fun j e => ?_)
          have lj := hW.out.1.lt j e
          rw [g4.block j (by simp; omega) (fun e2 => ?_), Below.heap_alloc _ _ _ lj.2]
          rcases hP.out.2 with ⟨e3, _⟩ | ⟨g6, c6, cur6, e3, _, hg6, _⟩
          · rw [e3] at e2; cases e2
          · rw [e3] at e2
            obtain rfl : j = g6 := by simpa [Value.ownBlock] using e2
            rcases hW.out.1.2 with ⟨e5, _⟩ | ⟨g7, c7, cur7, e5, _, hg7, _⟩
            · cases e5
            · rw [e5] at e
              obtain rfl : g7 = j := by simpa [Value.ownBlock] using e
              rw [hg6] at hg7
              cases hg7
        clear hr o4 g4 plk t242 ht hP hW hlt htL
        go_wp2_with (at_builtin; refine wpList_append_known rfl (.tmp 32) (.tmp 39) 85 85 rfl _ _ rfl rfl _ _ HR.out ?_)
        rw [WK.out]
        go_roundw
        case rel => exact ⟨k + 1, some ⟨P, 0, none⟩, k + 1, c, t + 242, rfl, rfl, HT2.out, NX.out.1, NX.out.2⟩
        case measure => simp only [intOf]; have := HM2.out; omega
    · have hkK : k = K := by have := ht.out.2; omega
      subst hkK
      have g1 : ¬ (t : Int) < (L : Int) := by have := (HK.out k).2; have := ht.out.1; omega
      obtain ⟨P, c, ev⟩ : ∃ P c, Value.slice va vl vc = .slice (some ⟨P, 0, none⟩) k c := by
        rcases hP.out.2 with ⟨_, h0⟩ | ⟨P, c, cur, e, _⟩
        · have := HKp.out.1; omega
        · exact ⟨P, c, e⟩
      cases ev
      have hk1 := HKp.out.1
      have hP0 := hP.out
      have p0 := (pcells_at g L (fun _ => 0) k 0 (by omega)).1
      have c0 : wr.cell? ⟨P, 0, none⟩ = some (.int .u8 0) := by rw [hP0.cellAt 0 (by omega)]; exact p0
      have f0 := hP0.frozenAt 0
      have s1 := (hP0.stored 0 (.int .u8 ((1 : Nat) : Int))).1
      have e1 := pcells_set g L (fun _ => 0) k 0 1 (by omega)
      rw [Nat.zero_mul] at e1
      rw [e1] at s1
      have j1 := Just.set P 0 wr (.int .u8 ((1 : Nat) : Int))
      rw [show ((1 : Nat) : Int) = 1 from rfl] at s1 j1
      have p1 := (pcells_at g L (fun i => if i = 0 then 1 else 0) k (k - 1) (by omega)).1
      have c1 : (wr.setCell ⟨P, 0, none⟩ (.int .u8 1)).cell? ⟨P, (k - 1) * 2, none⟩ = some (.int .u8 ((if k - 1 = 0 then 1 else 0 : Nat) : Int)) := by rw [s1.cellAt _ (by omega)]; exact p1
      have f1 := s1.frozenAt ((k - 1) * 2)
      have s2 := (s1.stored ((k - 1) * 2) (.int .u8 (((if k - 1 = 0 then 1 else 0) + 2 : Nat) : Int))).1
      rw [pcells_set g L _ k (k - 1) _ (by omega), pcells_same g L (fun j hj => mrk_eq k j hj)] at s2
      have j2 := j1.trans (Just.set P ((k - 1) * 2) (wr.setCell ⟨P, 0, none⟩ (.int .u8 1)) (.int .u8 (((if k - 1 = 0 then 1 else 0) + 2 : Nat) : Int)))
      obtain ⟨om, eom⟩ : ∃ o, (if k - 1 = 0 then 1 else 0 : Nat) = o := ⟨_, rfl⟩
      have hom : om ≤ 1 := by rw [← eom]; split <;> omega
      rw [eom] at c1 s2 j2
      rw [show ((om + 2 : Nat) : Int) = (om : Int) + 2 by omega] at s2 j2
      have hor : bits BinOp.or IntKind.u8 (om : Int) 2 = (om : Int) + 2 := by
        rcases (show om = 0 ∨ om = 1 by omega) with h | h <;> rw [h] <;> decide
      have hor0 : bits BinOp.or IntKind.u8 0 1 = 1 := by decide
      have FIN : Hid (((wr.setCell ⟨P, 0, none⟩ (.int .u8 1)).setCell ⟨P, (k - 1) * 2, none⟩ (.int .u8 ((om : Int) + 2))).ownsRow w.heap.size 88 2 (.slice (some ⟨P, 0, none⟩) k vc) k (pcells g L (mrk k) k) ∧ ((wr.setCell ⟨P, 0, none⟩ (.int .u8 1)).setCell ⟨P, (k - 1) * 2, none⟩ (.int .u8 ((om : Int) + 2))).ownsRow w.heap.size 5 1 (.slice (some ⟨g, 0, none⟩) L L) L (cellsOf (wholeB b)) ∧ Below w.heap.size w ((wr.setCell ⟨P, 0, none⟩ (.int .u8 1)).setCell ⟨P, (k - 1) * 2, none⟩ (.int .u8 ((om : Int) + 2)))) := by
        refine ⟨s2, owns_same hW.out.1 (fun j e => j2.block j (fun e2 => ?_)), just_below hW.out.2 j2 (hP0.lt P rfl).1⟩
        rcases hP0.2 with ⟨e3, _⟩ | ⟨g6, c6, cur6, e3, _, hg6, _⟩
        · cases e3
        · cases e3
          rcases hW.out.1.2 with ⟨e5, _⟩ | ⟨g7, c7, cur7, e5, _, hg7, _⟩
          · cases e5
          · cases e5
            obtain rfl : g = j := by simpa [Value.ownBlock] using e
            rw [e2, hg6] at hg7
            cases hg7
      have hk100 : (k : Int) ≤ 100 := by have := HKp.out; omega
      have hkp : (1 : Int) ≤ (k : Int) := by omega
      have wk1 : IntKind.i64.wrap ((k : Int) - 1) = (k : Int) - 1 := by rw [IntKind.wrap_i64]; omega
      have tk1 : ((k : Int) - 1).toNat = k - 1 := by omega
      have lk1 : (k : Int) - 1 < (k : Int) := by omega
      have zk1 : (0 : Int) ≤ (k : Int) - 1 := by omega
      clear p0 e1 p1 s1 s2 j1 j2 eom hom hP hW hlt ht hP0 hk1
      go_wp2
      go_ret
      first | exact ⟨P, vc, g, rfl, FIN.out⟩ | exact ⟨P, vc, rfl, g, FIN.out⟩
end Go.Proofs.YtikpmaecbfebkaaDoor
