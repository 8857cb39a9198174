/- Package client: short, ints, Group. -/
import Derived.Test.YtaakdnbaljoehaaPuts
import Derived.Test.YtaakdnbaljoehaaSame
import Derived.Test.YtaakdnbaljoehaaSteps
import Derived.Great.BuildSlice
import Derived.Laws.Tables
import Derived.Deep.MidRow
namespace Go.Proofs.Ytaakdnbaljoehaa
open Go.RowKit Cod
attribute [local go_sem] Oper.semAt_some
set_option linter.unusedVariables false

/-- None of some texts is too long. -/
def shortL (ts : List ByteArray) : Bool := ts.all fun s => decide (s.size ≤ 65536)
theorem shortL_take {ts : List ByteArray} {k : Nat} (hk : k < ts.length) : shortL (ts.take (k + 1)) = (shortL (ts.take k) && decide (ts[k].size ≤ 65536)) := by
  rw [List.take_add_one, List.getElem?_eq_getElem hk]
  simp only [shortL, List.all_append, Option.toList_some, List.all_cons, List.all_nil, Bool.and_true]
theorem shortL_false {ts : List ByteArray} {k : Nat} (hk : k < ts.length) (h : 65536 < ts[k].size) : shortL ts = false := by
  simp only [shortL, List.all_eq_false]
  exact ⟨ts[k], List.getElem_mem hk, by simp; omega⟩
set_option maxHeartbeats 400000 in
theorem short_any (a : Option Addr) (cap : Nat) (ts : List ByteArray) (w : World) (hl : ts.length < 1000) (hc : ∀ j (hj : j < ts.length), ∃ b off, a = some ⟨b, off, none⟩ ∧ w.cell? ⟨b, off + j, none⟩ = some (.string ts[j])) :
    Calls Try.prog 58 #[.slice a ts.length cap] w fun e w' => e = .returned (.bool (shortL ts)) ∧ w' = w := by
  go_enter Try.func58, Try.ntmps58
  go_wp2
  go_loopw [7] (fun i wr => ∃ k : Nat, k ≤ ts.length ∧ i = .int .i64 k ∧ shortL (ts.take k) = true ∧ wr = w)
    (fun i _ => ts.length - (intOf i).toNat)
  case atStart => exact ⟨0, Nat.zero_le _, rfl, rfl, rfl⟩
  case round =>
    obtain ⟨k, hk, rfl, hs, rfl⟩ := hrel
    by_cases hlt : k < ts.length
    · obtain ⟨b, off, rfl, hck⟩ := hc k hlt
      have hT := shortL_take hlt
      have hF := shortL_false hlt
      generalize ts[k] = s at *
      by_cases hz : s.size ≤ 65536
      · have hz' : ¬ (65536 : Int) < (s.size : Int) := by omega
        have HT : Hid _ := hT
        clear hc hT hF
        go_wp2
        go_roundw
        case rel => exact ⟨k + 1, hlt, by go_num, by rw [HT.out, hs]; simp; exact hz, trivial⟩
        case measure => simp [intOf]; omega
      · have hz' : (65536 : Int) < (s.size : Int) := by omega
        have HF : Hid _ := hF (by omega)
        clear hc hT hF
        go_wp2
        go_ret
        exact ⟨by rw [HF.out]; rfl, rfl⟩
    · clear hc
      obtain rfl : k = ts.length := by omega
      rw [List.take_length] at hs
      have HS : Hid _ := hs
      clear hs
      go_wp2
      go_ret
      exact ⟨by rw [HS.out]; rfl, rfl⟩
/-- Numbers one behind the other. -/
def intsB (ns : List Int) : List (BitVec 8) := (ns.map fun n => enc (zig n)).flatten
theorem intsB_take {ns : List Int} {k : Nat} (hk : k < ns.length) : intsB (ns.take (k + 1)) = intsB (ns.take k) ++ enc (zig ns[k]) := by
  rw [List.take_add_one, List.getElem?_eq_getElem hk]
  simp only [intsB, List.map_append, List.flatten_append, Option.toList_some, List.map_cons, List.map_nil, List.flatten_cons, List.flatten_nil, List.append_nil]
theorem intsB_le : ∀ (ns : List Int), (∀ n ∈ ns, i64ok n) → (intsB ns).length ≤ 10 * ns.length
  | [], _ => by simp [intsB]
  | n :: rest, h => by
    have ih := intsB_le rest fun x hx => h x (List.mem_cons_of_mem _ hx)
    have e := enc_ten (zig_lt n (h n List.mem_cons_self))
    simp only [intsB, List.map_cons, List.flatten_cons, List.length_append, List.length_cons] at ih ⊢
    omega
set_option maxHeartbeats 400000 in
theorem ints_any (a : Option Addr) (cap : Nat) (ns : List Int) (w : World) (hl : ns.length < 1000) (hi : ∀ n ∈ ns, i64ok n) (hc : ∀ j (hj : j < ns.length), ∃ b off, a = some ⟨b, off, none⟩ ∧ w.cell? ⟨b, off + j, none⟩ = some (.int .i64 ns[j])) :
    Calls Try.prog 60 #[.slice a ns.length cap] w fun e w' => ∃ v, e = .returned v ∧ w'.ownsRow w.heap.size 5 1 v (intsB ns).length (cellsOf (intsB ns)) ∧ Below w.heap.size w w' := by
  have HI : Hid _ := hi
  have HC : Hid _ := hc
  clear hc hi
  go_enter Try.func60, Try.ntmps60
  go_wp2
  go_loopw [3, 8] (fun v i wr => ∃ k : Nat, k ≤ ns.length ∧ i = .int .i64 k ∧ wr.ownsRow w.heap.size 5 1 v (intsB (ns.take k)).length (cellsOf (intsB (ns.take k))) ∧ Below w.heap.size w wr)
    (fun _ i _ => ns.length - (intOf i).toNat)
  case atStart => exact ⟨0, Nat.zero_le _, rfl, ⟨rfl, .inl ⟨rfl, rfl⟩⟩, Below.refl _ _⟩
  case round =>
    obtain ⟨k, hk, rfl, ho, hb⟩ := hrel
    by_cases hlt : k < ns.length
    · obtain ⟨b, off, rfl, hck⟩ := HC.out k hlt
      have hcr : wr.cell? ⟨b, off + k, none⟩ = some (.int .i64 ns[k]) := by rw [hb.cell (p := ⟨b, off + k, none⟩) (World.block_lt_of_cell? w _ hck)]; exact hck
      have hT : Hid _ := intsB_take hlt
      have hN : Hid (i64ok ns[k]) := HI.out _ (List.getElem_mem hlt)
      have hLe : (intsB (ns.take k)).length ≤ 10 * ns.length := Nat.le_trans (intsB_le _ fun n hn => HI.out n (List.mem_of_mem_take hn)) (by simp; omega)
      obtain ⟨va, vc, rfl, hS, hnil, _⟩ := owned_seen ho (by unfold maxLen; omega)
      have HM : Hid ((intsB (ns.take k)).length + 10 ≤ 140737488355328) := by show _ ≤ _; omega
      have HS : Hid (Seen wr va (intsB (ns.take k)).length (intsB (ns.take k))) := hS
      have HN : Hid _ := hnil
      have HB : Hid _ := hb
      clear ho hb hck hLe hS hnil
      generalize intsB (ns.take k) = L at *
      generalize ns[k] = n at *
      go_wp2_with fail
      refine (int_any va L.length vc L n hN.out wr HS.out HN.out HM.out).mono ?_
      rintro e w1 ⟨v1, rfl, o1, b1⟩
      have O1 : Hid _ := o1
      have B1 : Hid _ := b1
      clear o1 b1 hcr
      go_wp2
      go_roundw
      case rel => exact ⟨k + 1, hlt, by go_num, by rw [hT.out, List.length_append]; exact owns_mono' O1.out HB.out.size, HB.out.trans (B1.out.mono HB.out.size)⟩
      case measure => simp [intOf]; omega
    · obtain rfl : k = ns.length := by omega
      rw [List.take_length] at ho
      go_wp2
      go_ret
      exact ⟨_, rfl, ho, hb⟩
def groupK (k : Int) : Int := if k = 6 ∨ k = 7 then 0 else -1
theorem opGroup_any (o : OpD) (w : World) : Calls Try.prog 25 #[o.val] w fun e w' => e = .returned (.int .i64 (groupK o.kind)) ∧ Below w.heap.size w w' := by
  obtain ⟨kind, src, dst, amount, key, slot, shard⟩ := o
  show Calls Try.prog 25 #[.agg #[.int .i64 kind, .string src, .string dst, .int .i64 amount, .string key, .int .i64 slot, .int .i64 shard]] w _
  have b1 : Hid (Below w.heap.size w (w.alloc (.cells #[.int .i64 kind, .string src, .string dst, .int .i64 amount, .string key, .int .i64 slot, .int .i64 shard] 23))) := (Below.refl _ w).alloc (Nat.le_refl _) _
  unfold groupK
  by_cases h6 : kind = 6
  · subst h6
    go_enter Try.func25, Try.ntmps25
    go_wp2
    go_ret
    exact ⟨rfl, b1.out⟩
  · have e6 : (kind == 6) = false := by simpa using h6
    by_cases h7 : kind = 7
    · subst h7
      go_enter Try.func25, Try.ntmps25
      go_wp2
      go_ret
      exact ⟨rfl, b1.out⟩
    · have e7 : (kind == 7) = false := by simpa using h7
      rw [if_neg (by rintro (h | h) <;> contradiction)]
      clear h6 h7
      go_enter Try.func25, Try.ntmps25
      go_wp2
      go_ret
      exact ⟨rfl, b1.out⟩
end Go.Proofs.Ytaakdnbaljoehaa

namespace Go.Proofs.Ytaakdnbaljoehaa
open Go.RowKit Cod
attribute [local go_sem] Oper.semAt_some
set_option linter.unusedVariables false

/-- A letter's cells. -/
structure LetV where
  kind : Int
  n : Int
  group : Int
  op : OpD
  why : Int
  amount : Int
  ra : Option Addr
  rn : Nat
  rc : Nat
  ba : Option Addr
  bn : Nat
  bc : Nat
def OpD.zero : OpD := ⟨0, ⟨#[]⟩, ⟨#[]⟩, 0, ⟨#[]⟩, 0, 0⟩
def LetV.cells (x : LetV) : Array Value := #[.int .i64 x.kind, .int .i64 x.n, .int .i64 x.group, .int .i64 x.op.kind, .string x.op.src, .string x.op.dst, .int .i64 x.op.amount, .string x.op.key, .int .i64 x.op.slot, .int .i64 x.op.shard, .int .i64 x.why, .int .i64 x.amount, .slice x.ra x.rn x.rc, .slice x.ba x.bn x.bc]
/-- What counts of a letter. -/
def LetV.just (x : LetV) : LetV :=
  if x.kind = 1 then { x with n := 0, group := 0, op := OpD.zero, why := 0, amount := 0, ra := none, rn := 0, rc := 0 }
  else if x.kind = 4 then { x with group := 0, op := OpD.zero, why := 0, amount := 0, ra := none, rn := 0, rc := 0 }
  else if x.kind = 5 then { x with op := OpD.zero, why := 0, amount := 0, ra := none, rn := 0, rc := 0 }
  else if x.kind = 2 then { x with group := 0, why := 0, amount := 0, ra := none, rn := 0, rc := 0, ba := none, bn := 0, bc := 0 }
  else if x.kind = 3 then { x with group := 0, op := OpD.zero, ba := none, bn := 0, bc := 0 }
  else x
theorem kinds {k : Int} (h1 : 1 ≤ k) (h5 : k ≤ 5) : k = 1 ∨ k = 2 ∨ k = 3 ∨ k = 4 ∨ k = 5 := by omega
theorem below_two (w : World) (o o' : Obj) : Below w.heap.size w ((w.alloc o).alloc o') := ((Below.refl _ w).alloc (Nat.le_refl _) _).alloc (by simp) _
theorem heapTwo (w : World) (o o' : Obj) : ((w.alloc o).alloc o').heap[w.heap.size + 1]? = some o' := by simpa using heap_alloc_new (w.alloc o) o'
set_option maxRecDepth 100000 in
set_option maxHeartbeats 1600000 in
theorem counting_any (x : LetV) (h1 : 1 ≤ x.kind) (h5 : x.kind ≤ 5) (w : World) : Calls Try.prog 38 #[.agg x.cells] w fun e w' => e = .returned (.agg x.just.cells) ∧ Below w.heap.size w w' := by
  obtain ⟨kind, n, group, ⟨ok, os, od, oa, oy, ol, oh⟩, why, amount, ra, rn, rc, ba, bn, bc⟩ := x
  simp only at h1 h5
  show Calls Try.prog 38 #[.agg #[.int .i64 kind, .int .i64 n, .int .i64 group, .int .i64 ok, .string os, .string od, .int .i64 oa, .string oy, .int .i64 ol, .int .i64 oh, .int .i64 why, .int .i64 amount, .slice ra rn rc, .slice ba bn bc]] w _
  rcases kinds h1 h5 with rfl | rfl | rfl | rfl | rfl
  all_goals
    clear h1 h5
    go_enter Try.func38, Try.ntmps38
    go_wp2
    exact bodyPost_ret (results_cell_row rfl _ _ (w.heap.size + 1) 46 _ (0, 0) _ rfl (heapTwo w _ _) Try.underlying46 rfl (by kernel_rfl)) rfl ⟨rfl, below_two w _ _⟩
end Go.Proofs.Ytaakdnbaljoehaa

namespace Go.Proofs.Ytaakdnbaljoehaa
open Go.RowKit Cod
attribute [local go_sem] Oper.semAt_some
set_option linter.unusedVariables false

def LetV.fits (x : LetV) (rows : List (ByteArray × Int)) : Bool := decide (x.bn ≤ 65536) && decide (x.rn ≤ 600) && shortL [x.op.src, x.op.dst, x.op.key] && shortL (rows.map (·.1))
set_option maxRecDepth 100000 in
set_option maxHeartbeats 1600000 in
theorem fits_any (x : LetV) (rows : List (ByteArray × Int)) (w : World) (hR : RowsAt w x.ra x.rn rows) : Calls Try.prog 39 #[.agg x.cells] w fun e w' => e = .returned (.bool (x.fits rows)) ∧ Below w.heap.size w w' := by
  obtain ⟨kind, n, group, ⟨ok, os, od, oa, oy, ol, oh⟩, why, amount, ra, rn, rc, ba, bn, bc⟩ := x
  simp only at hR
  simp only [LetV.fits]
  show Calls Try.prog 39 #[.agg #[.int .i64 kind, .int .i64 n, .int .i64 group, .int .i64 ok, .string os, .string od, .int .i64 oa, .string oy, .int .i64 ol, .int .i64 oh, .int .i64 why, .int .i64 amount, .slice ra rn rc, .slice ba bn bc]] w _
  have bA : Below w.heap.size w (w.alloc (.cells #[.int .i64 kind, .int .i64 n, .int .i64 group, .int .i64 ok, .string os, .string od, .int .i64 oa, .string oy, .int .i64 ol, .int .i64 oh, .int .i64 why, .int .i64 amount, .slice ra rn rc, .slice ba bn bc] 46)) := (Below.refl _ w).alloc (Nat.le_refl _) _
  have BA : Hid _ := bA
  by_cases h1 : bn ≤ 65536
  case neg =>
    have h1' : (65536 : Int) < (bn : Int) := by omega
    have HF : Hid (decide (bn ≤ 65536) = false) := decide_eq_false h1
    clear h1 hR bA
    go_enter Try.func39, Try.ntmps39
    go_wp2
    go_ret
    exact ⟨by rw [HF.out]; rfl, BA.out⟩
  have h1' : ¬ (65536 : Int) < (bn : Int) := by omega
  have D1 : Hid (decide (bn ≤ 65536) = true) := decide_eq_true h1
  by_cases h2 : rn ≤ 600
  case neg =>
    have h2' : (600 : Int) < (rn : Int) := by omega
    have HF : Hid (decide (rn ≤ 600) = false) := decide_eq_false h2
    clear h1 hR bA h2
    go_enter Try.func39, Try.ntmps39
    go_wp2
    go_ret
    exact ⟨by rw [HF.out]; simp, BA.out⟩
  have h2' : ¬ (600 : Int) < (rn : Int) := by omega
  have D2 : Hid (decide (rn ≤ 600) = true) := decide_eq_true h2
  have HR : Hid (RowsAt w ra rn rows) := hR
  have H2 : Hid (rn ≤ 600) := h2
  have HK : Hid (∀ o : Obj, ((w.alloc (.cells #[.int .i64 kind, .int .i64 n, .int .i64 group, .int .i64 ok, .string os, .string od, .int .i64 oa, .string oy, .int .i64 ol, .int .i64 oh, .int .i64 why, .int .i64 amount, .slice ra rn rc, .slice ba bn bc] 46)).alloc o).cell? ⟨w.heap.size, 12, none⟩ = some (.slice ra rn rc)) := fun o => by
    rw [((Below.refl _ (w.alloc _)).alloc (Nat.le_refl _) o).cell (p := ⟨w.heap.size, 12, none⟩) (by simp), World.cell?_alloc_mark]
    rfl
  have SH : ∀ W : World, Calls Try.prog 58 #[.slice (some ⟨W.heap.size, 0, none⟩) 3 3] (W.alloc (.cells #[.string os, .string od, .string oy] 9)) fun e w' => e = .returned (.bool (shortL [os, od, oy])) ∧ w' = W.alloc (.cells #[.string os, .string od, .string oy] 9) := fun W => short_any (some ⟨W.heap.size, 0, none⟩) 3 [os, od, oy] (W.alloc (.cells #[.string os, .string od, .string oy] 9)) (by simp) (fun j hj => ⟨_, _, rfl, by
    rw [World.cell?_alloc_mark]
    match j, hj with
    | 0, _ => rfl
    | 1, _ => rfl
    | 2, _ => rfl⟩)
  have SR : Hid (∀ (W : World) (s : ByteArray), Calls Try.prog 58 #[.slice (some ⟨W.heap.size, 0, none⟩) 1 1] (W.alloc (.cells #[.string s] 9)) fun e w' => e = .returned (.bool (shortL [s])) ∧ w' = W.alloc (.cells #[.string s] 9)) := fun W s => short_any (some ⟨W.heap.size, 0, none⟩) 1 [s] (W.alloc (.cells #[.string s] 9)) (by simp) (fun j hj => ⟨_, _, rfl, by
    rw [World.cell?_alloc_mark]
    match j, hj with
    | 0, _ => rfl⟩)
  have SH1 := SH (w.alloc (.cells #[.int .i64 kind, .int .i64 n, .int .i64 group, .int .i64 ok, .string os, .string od, .int .i64 oa, .string oy, .int .i64 ol, .int .i64 oh, .int .i64 why, .int .i64 amount, .slice ra rn rc, .slice ba bn bc] 46))
  rw [show (w.alloc (.cells #[.int .i64 kind, .int .i64 n, .int .i64 group, .int .i64 ok, .string os, .string od, .int .i64 oa, .string oy, .int .i64 ol, .int .i64 oh, .int .i64 why, .int .i64 amount, .slice ra rn rc, .slice ba bn bc] 46)).heap.size = w.heap.size + 1 by simp] at SH1
  clear h1 h2 hR bA SH
  go_enter Try.func39, Try.ntmps39
  go_wp2_with fail
  refine SH1.mono ?_
  rintro e w2 ⟨rfl, e2⟩
  have hc2 := HK.out (.cells #[.string os, .string od, .string oy] 9)
  rw [← e2] at hc2
  have B2 : Hid (Below w.heap.size w w2) := by show Below _ _ _; rw [e2]; exact below_two w _ _
  clear SH1 HK e2
  cases hs : shortL [os, od, oy] with
  | false =>
    have H0 : Hid _ := hs
    clear hs
    go_wp2
    go_ret
    exact ⟨by rw [H0.out]; simp, B2.out⟩
  | true =>
    obtain ⟨rfl, hR2, hR3⟩ := HR.out
    have H0 : Hid _ := hs
    clear hs
    go_wp2
    go_loopw [34] (fun i wr => ∃ k : Nat, k ≤ rows.length ∧ i = .int .i64 k ∧ shortL ((rows.map (·.1)).take k) = true ∧ Below w.heap.size w wr)
      (fun i _ => rows.length - (intOf i).toNat)
    case atStart => exact ⟨0, Nat.zero_le _, rfl, rfl, B2.out⟩
    case round =>
      obtain ⟨k, hk, rfl, hs, hb⟩ := hrel
      by_cases hlt : k < rows.length
      · obtain ⟨b, off, rfl, c1, c2⟩ := (HR.out.below hb).at hlt
        have hT : Hid _ := shortL_take (ts := rows.map (·.1)) (k := k) (by simpa using hlt)
        have hF : Hid _ := shortL_false (ts := rows.map (·.1)) (k := k) (by simpa using hlt)
        simp only [List.getElem_map] at hT hF
        have HS : Hid _ := hs
        have HB : Hid _ := hb
        clear hs hb hR3 HR
        generalize rows[k].1 = s at *
        generalize rows[k].2 = m at *
        have SS := SR.out (wr.alloc (.cells #[.string s, .int .i64 m] 59)) s
        rw [show (wr.alloc (.cells #[.string s, .int .i64 m] 59)).heap.size = wr.heap.size + 1 by simp] at SS
        have bN := below_two wr (.cells #[.string s, .int .i64 m] 59) (.cells #[.string s] 9)
        have BN : Hid _ := bN
        clear SR bN
        go_wp2_with fail
        refine SS.mono ?_
        rintro e w3 ⟨rfl, rfl⟩
        clear SS
        by_cases hz : s.size ≤ 65536
        · rw [show shortL [s] = true by simp [shortL, hz]]
          go_wp2
          go_roundw
          case rel => exact ⟨k + 1, hlt, by go_num, by rw [hT.out, HS.out]; simp; exact hz, HB.out.trans (BN.out.mono HB.out.size)⟩
          case measure => simp [intOf]; omega
        · rw [show shortL [s] = false by simp [shortL]; omega]
          have HZ := hF.out (by omega)
          go_wp2
          go_ret
          exact ⟨by rw [HZ]; simp, HB.out.trans (BN.out.mono HB.out.size)⟩
      · obtain rfl : k = rows.length := by omega
        rw [List.take_of_length_le (by simp)] at hs
        have HS : Hid _ := hs
        have HB : Hid _ := hb
        clear hs hb hR3 HR
        go_wp2
        go_ret
        exact ⟨by rw [HS.out, D1.out, D2.out, H0.out]; rfl, HB.out⟩
end Go.Proofs.Ytaakdnbaljoehaa

namespace Go.Proofs.Ytaakdnbaljoehaa
open Go.RowKit
set_option linter.unusedVariables false

section
variable {P : Program} {ops : Array Oper} {Q : Exit → Act → World → Prop} {md : Region.Mode} {S : World → Prop}
theorem take_val {i : Nat} {oi : Oper} {fuel : Nat} {listed : Array Bool} {a : Act} {w w' : World} (v : Value) (hi : ops[i]? = some oi) (hr : Region.ready md ops listed = [i]) (hw : Region.wanted oi (yielded ops a.tmps) = true)
    (hx : (execOp a.eval oi).run P w = .ok (.value v) w') (hS : S w') (h : wpAnyH P md ops Q S fuel (listed.setIfInBounds i true) (a.put oi.dst v) w') : wpAnyH P md ops Q S (fuel + 1) listed a w := by
  refine wpAnyH_all (rs := [i]) hr (by simp) (fun j hj => ?_)
  obtain rfl : j = i := by simpa using hj
  unfold wpOp
  simp only [hi, hw, if_true, Oper.wp, hx]
  rw [Oper.upon_value]
  exact .inl ⟨hS, h⟩
theorem take_eff {i : Nat} {oi : Oper} {fuel : Nat} {listed : Array Bool} {a : Act} {w w' : World} (hi : ops[i]? = some oi) (hr : Region.ready md ops listed = [i]) (hw : Region.wanted oi (yielded ops a.tmps) = true)
    (hx : (execOp a.eval oi).run P w = .ok .skip w') (hS : S w') (h : wpAnyH P md ops Q S fuel (listed.setIfInBounds i true) (a.put oi.dst undef) w') : wpAnyH P md ops Q S (fuel + 1) listed a w := by
  refine wpAnyH_all (rs := [i]) hr (by simp) (fun j hj => ?_)
  obtain rfl : j = i := by simpa using hj
  unfold wpOp
  simp only [hi, hw, if_true, Oper.wp, hx]
  rw [Oper.upon_skip]
  exact .inl ⟨hS, h⟩
/-- A struct within a row is read. -/
theorem take_mid {i : Nat} {oi : Oper} {fuel : Nat} {listed : Array Bool} {a : Act} {w : World} (hi : ops[i]? = some oi)
    (hs : Region.noSelect ops = true) (hf : Region.free md ops listed i = true) (hr : (Region.ready md ops listed).contains i = true) (ty : TypeId) (x : Operand) (b o : Nat) (cs : List Value) (d : TypeDesc)
    (hQ : ∀ c a w, Q (.panic c) (a.put oi.dst (.agg cs.toArray)) w → Q (.panic c) a w) (hw : Region.wanted oi (yielded ops a.tmps) = true) (ho : oi.op = .load ty x)
    (hx : a.eval x = .pointer (some ⟨b, o, none⟩)) (hg : ∀ w, S w → w.rangeAt b o cs)
    (hu : P.underlying ty = some d) (hd : d.isRow = true) (hz : (P.info? ty).map (·.size) = some cs.length) (hS : S w)
    (h : wpAnyH P md ops Q S fuel (listed.setIfInBounds i true) (a.put oi.dst (.agg cs.toArray)) w) : wpAnyH P md ops Q S (fuel + 1) listed a w :=
  take_run hi hs hf hr hQ hw (fun w' hS' => by
    unfold execOp
    simp only [ho, hx, Instr.loadAt, Instr.sureAddr, Sem.run_bind, Sem.run_pure, Result.andThen_ok, run_loadVar_mid w' b o ty cs d (hg w' hS') hu hd hz]) hS h
/-- A call or a value, the one or the other first. -/
theorem take_call_or {i j : Nat} {oi oj : Oper} {fuel : Nat} {listed : Array Bool} {a : Act} {w w2 : World} (v : Value) (hi : ops[i]? = some oi) (hj : ops[j]? = some oj) (hr : Region.ready md ops listed = [i, j]) (hw : Region.wanted oi (yielded ops a.tmps) = true) (hw2 : Region.wanted oj (yielded ops a.tmps) = true)
    (f : FuncId) (args : Array Value) (hx : (execOp a.eval oi).run P w = .ok (.enter f args) w) (hx2 : (execOp a.eval oj).run P w = .ok (.value v) w2) (hS2 : S w2)
    (h : Calls P f args w fun e w' => ∃ v, e = .returned v ∧ S w' ∧ wpAnyH P md ops Q S fuel (listed.setIfInBounds i true) (a.put oi.dst v) w')
    (h2 : wpAnyH P md ops Q S fuel (listed.setIfInBounds j true) (a.put oj.dst v) w2) : wpAnyH P md ops Q S (fuel + 1) listed a w := by
  refine wpAnyH_all (rs := [i, j]) hr (by simp) (fun k hk => ?_)
  rcases (by simpa using hk : k = i ∨ k = j) with rfl | rfl
  · unfold wpOp
    simp only [hi, hw, if_true, Oper.wp, hx]
    rw [Oper.upon_enter]
    refine .inl (h.mono fun e w' ⟨v, he, hS, hh⟩ => ?_)
    subst he
    exact ⟨hS, hh⟩
  · unfold wpOp
    simp only [hj, hw2, if_true, Oper.wp, hx2]
    rw [Oper.upon_value]
    exact .inl ⟨hS2, h2⟩
/-- A region that draws its order, of which no operation panics. -/
theorem wp_region_calm {id : Nat} {K : Act → World → Prop} {a : Act} {w : World} (hm : P.follows .mixedOrders = true) (hS : S w.drew)
    (h : S w.drew → wpAnyH P .any ops (Exit.then K (fun _ _ _ => False)) S ops.size (Array.replicate ops.size false) a w.drew) : (Code.region id ops true).wp P (Exit.then K Q) a w :=
  Code.wp_mono (fun e a w h => by cases e <;> first | exact h | exact h.elim) (wp_region_held_drew hm hS h)
end
end Go.Proofs.Ytaakdnbaljoehaa

namespace Go.Proofs.Ytaakdnbaljoehaa
open Go.RowKit Cod
attribute [local go_sem] Oper.semAt_some
set_option linter.unusedVariables false

theorem ints_new (W : World) (ns : List Int) (hl : ns.length < 1000) (hi : ∀ n ∈ ns, i64ok n) : Calls Try.prog 60 #[.slice (some ⟨W.heap.size, 0, none⟩) ns.length ns.length] (W.alloc (.cells (ns.map (Value.int .i64)).toArray 2)) fun e w' => ∃ v, e = .returned v ∧ w'.ownsRow W.heap.size 5 1 v (intsB ns).length (cellsOf (intsB ns)) ∧ Below W.heap.size W w' := by
  refine (ints_any (some ⟨W.heap.size, 0, none⟩) ns.length ns (W.alloc (.cells (ns.map (Value.int .i64)).toArray 2)) hl hi (fun j hj => ⟨_, _, rfl, ?_⟩)).mono ?_
  · rw [World.cell?_alloc_mark]
    simp [hj]
  · rintro e w' ⟨v, rfl, o, b⟩
    have bA : Below W.heap.size W (W.alloc (.cells (ns.map (Value.int .i64)).toArray 2)) := (Below.refl _ W).alloc (Nat.le_refl _) _
    exact ⟨v, rfl, owns_mono' o (by simp), bA.trans (b.mono bA.size)⟩
theorem ints_ok {ns : List Int} (h : ∀ n ∈ ns, i64ok n) : (intsB ns).length ≤ 10 * ns.length := intsB_le ns h
theorem ok2 (k : Int) (hk : i64ok k) {n : Int} (hn : i64ok n) : ∀ m ∈ [k, n], i64ok m := by
  intro m hm; simp at hm; rcases hm with rfl | rfl <;> assumption
theorem ok3 (k : Int) (hk : i64ok k) {n g : Int} (hn : i64ok n) (hg : i64ok g) : ∀ m ∈ [k, n, g], i64ok m := by
  intro m hm; simp at hm; rcases hm with rfl | rfl | rfl <;> assumption
theorem ok1 (k : Int) (hk : i64ok k) : ∀ m ∈ [k], i64ok m := by
  intro m hm; simp at hm; subst hm; exact hk
set_option maxRecDepth 100000 in
set_option maxHeartbeats 1600000 in
theorem form_call (n group : Int) (o : OpD) (why amount : Int) (ra : Option Addr) (rn rc : Nat) (ba : Option Addr) (bn bc : Nat) (w : World) (hn : i64ok n) (hg : i64ok group) (ho : o.ok) (hz : o.size ≤ 196608) : Calls Try.prog 40 #[.agg (LetV.cells ⟨2, n, group, o, why, amount, ra, rn, rc, ba, bn, bc⟩)] w fun e w' => ∃ v, e = .returned v ∧ w'.ownsRow w.heap.size 5 1 v (intsB [2, n] ++ o.bytes).length (cellsOf (intsB [2, n] ++ o.bytes)) ∧ Below w.heap.size w w' := by
  obtain ⟨ok, os, od, oa, oy, ol, oh⟩ := o
  show Calls Try.prog 40 #[.agg #[.int .i64 2, .int .i64 n, .int .i64 group, .int .i64 ok, .string os, .string od, .int .i64 oa, .string oy, .int .i64 ol, .int .i64 oh, .int .i64 why, .int .i64 amount, .slice ra rn rc, .slice ba bn bc]] w _
  generalize hw1 : w.alloc (.cells #[.int .i64 2, .int .i64 n, .int .i64 group, .int .i64 ok, .string os, .string od, .int .i64 oa, .string oy, .int .i64 ol, .int .i64 oh, .int .i64 why, .int .i64 amount, .slice ra rn rc, .slice ba bn bc] 46) = w1
  have b1 : Below w.heap.size w w1 := by rw [← hw1]; exact (Below.refl _ w).alloc (Nat.le_refl _) _
  have hh : w1.heap[w.heap.size]? = some (.cells #[.int .i64 2, .int .i64 n, .int .i64 group, .int .i64 ok, .string os, .string od, .int .i64 oa, .string oy, .int .i64 ol, .int .i64 oh, .int .i64 why, .int .i64 amount, .slice ra rn rc, .slice ba bn bc] 46 (0, 0)) := by rw [← hw1]; exact heap_alloc_new w _
  have hlt : w.heap.size < w1.heap.size := by rw [← hw1]; simp
  have cc : ∀ w', Below w1.heap.size w1 w' → w'.heap[w.heap.size]? = some (.cells #[.int .i64 2, .int .i64 n, .int .i64 group, .int .i64 ok, .string os, .string od, .int .i64 oa, .string oy, .int .i64 ol, .int .i64 oh, .int .i64 why, .int .i64 amount, .slice ra rn rc, .slice ba bn bc] 46 (0, 0)) := fun w' h => (h.block _ hlt).trans hh
  have k0 : w1.cell? ⟨w.heap.size, 0, none⟩ = some (.int .i64 2) := by simp [World.cell?, hh]
  have k1 : Hid (∀ w', Below w1.heap.size w1 w' → w'.cell? ⟨w.heap.size, 1, none⟩ = some (.int .i64 n)) := fun w' h => by simp [World.cell?, cc w' h]
  have k2 : Hid (∀ w', Below w1.heap.size w1 w' → w'.cell? ⟨w.heap.size, 2, none⟩ = some (.int .i64 group)) := fun w' h => by simp [World.cell?, cc w' h]
  have k13 : Hid (∀ w', Below w1.heap.size w1 w' → w'.cell? ⟨w.heap.size, 13, none⟩ = some (.slice ba bn bc)) := fun w' h => by simp [World.cell?, cc w' h]
  have kop : Hid (∀ w', Below w1.heap.size w1 w' → w'.rangeAt w.heap.size 3 [.int .i64 ok, .string os, .string od, .int .i64 oa, .string oy, .int .i64 ol, .int .i64 oh]) := fun w' h j v hv => by
    have hj : j < 7 := (List.getElem?_eq_some_iff.1 hv).1
    simp only [World.cell?, cc w' h]
    match j, hj with
    | 0, _ => simpa using hv
    | 1, _ => simpa using hv
    | 2, _ => simpa using hv
    | 3, _ => simpa using hv
    | 4, _ => simpa using hv
    | 5, _ => simpa using hv
    | 6, _ => simpa using hv
  have kre : Hid (∀ w', Below w1.heap.size w1 w' → w'.rangeAt w.heap.size 10 [.int .i64 why, .int .i64 amount, .slice ra rn rc]) := fun w' h j v hv => by
    have hj : j < 3 := (List.getElem?_eq_some_iff.1 hv).1
    simp only [World.cell?, cc w' h]
    match j, hj with
    | 0, _ => simpa using hv
    | 1, _ => simpa using hv
    | 2, _ => simpa using hv
  have hle := ints_ok (ok2 2 ⟨by decide, by decide⟩ hn)
  simp only [List.length_cons, List.length_nil] at hle
  have C60 : Hid (∀ w', Below w1.heap.size w1 w' → Calls Try.prog 60 #[.slice (some ⟨w'.heap.size, 0, none⟩) 2 2] (w'.alloc (.cells #[.int .i64 2, .int .i64 n] 2)) fun e w'' => ∃ v, e = .returned v ∧ w''.ownsRow w1.heap.size 5 1 v (intsB [2, n]).length (cellsOf (intsB [2, n])) ∧ Below w1.heap.size w1 w'') := fun w' h => by
    refine (ints_new w' [2, n] (by simp) (ok2 2 ⟨by decide, by decide⟩ hn)).mono ?_
    rintro e w'' ⟨v, rfl, o, b⟩
    exact ⟨v, rfl, owns_mono' o h.size, h.trans (b.mono h.size)⟩
  have C59 : Hid (∀ w' v, Below w1.heap.size w1 w' → w'.ownsRow w1.heap.size 5 1 v (intsB [2, n]).length (cellsOf (intsB [2, n])) → Calls Try.prog 59 #[v, .agg #[.int .i64 ok, .string os, .string od, .int .i64 oa, .string oy, .int .i64 ol, .int .i64 oh]] w' fun e w'' => ∃ v', e = .returned v' ∧ w''.ownsRow w1.heap.size 5 1 v' (intsB [2, n] ++ OpD.bytes ⟨ok, os, od, oa, oy, ol, oh⟩).length (cellsOf (intsB [2, n] ++ OpD.bytes ⟨ok, os, od, oa, oy, ol, oh⟩)) ∧ Below w1.heap.size w1 w'') := fun w' v h hv => by
    obtain ⟨va, vc, rfl, hS, hni, _⟩ := owned_seen hv (by unfold maxLen; omega)
    refine (putOp_any va _ vc _ ⟨ok, os, od, oa, oy, ol, oh⟩ ho w' hS hni (by omega)).mono ?_
    rintro e w'' ⟨v', rfl, o, b⟩
    exact ⟨v', rfl, by rw [List.length_append]; exact owns_mono' o h.size, h.trans (b.mono h.size)⟩
  have HW : Hid (_ = w1) := hw1
  have HB1 : Hid (Below w.heap.size w w1) := b1
  clear hw1 b1 hh hlt cc hn hg hz hle ho
  go_enter Try.func40, Try.ntmps40
  go_wp2_with fail
  rw [HW.out]
  clear k0
  refine wp_region_held_drew (S := fun W => Below w1.heap.size w1 W) (by kernel_rfl) (Below.refl _ w1).drew (fun hHeld => ?_)
  refine take_run (i := 0) (oi := { dst := some 16, op := Go.Op.move (Go.Operand.tmp 3), type := 2, pos := "letter.go:94", after := #[], guard := none }) (v := .int .i64 2) rfl (by kernel_rfl) (by kernel_rfl) (by kernel_rfl) (fun _ _ _ h => h) (by rfl) ?_ hHeld ?_
  · (intro wq hSw; go_simp <;> with_reducible rfl)
  try simp only [Act.put, List.setIfInBounds_toArray, List.set_cons_zero, List.set_cons_succ]
  refine take_run (i := 1) (oi := { dst := some 17, op := Go.Op.fieldAddr 46 (Go.Operand.tmp 1) 1, type := 0, pos := "letter.go:94", after := #[], guard := none }) (v := .pointer (some ⟨w.heap.size, 1, none⟩)) rfl (by kernel_rfl) (by kernel_rfl) (by kernel_rfl) (fun _ _ _ h => h) (by rfl) ?_ hHeld ?_
  · (intro wq hSw; go_simp <;> with_reducible rfl)
  try simp only [Act.put, List.setIfInBounds_toArray, List.set_cons_zero, List.set_cons_succ]
  refine take_run (i := 2) (oi := { dst := some 18, op := Go.Op.load 2 (Go.Operand.tmp 17), type := 2, pos := "letter.go:94", after := #[{ on := 1, ground := Go.Ground.data }], guard := none }) (v := .int .i64 n) rfl (by kernel_rfl) (by kernel_rfl) (by kernel_rfl) (fun _ _ _ h => h) (by rfl) ?_ hHeld ?_
  · (intro wq hSw; have hk := k1.out wq hSw; go_simp <;> with_reducible rfl)
  try simp only [Act.put, List.setIfInBounds_toArray, List.set_cons_zero, List.set_cons_succ]
  refine take_run (i := 5) (oi := { dst := some 21, op := Go.Op.fieldAddr 46 (Go.Operand.tmp 1) 3, type := 0, pos := "letter.go:94", after := #[], guard := none }) (v := .pointer (some ⟨w.heap.size, 3, none⟩)) rfl (by kernel_rfl) (by kernel_rfl) (by kernel_rfl) (fun _ _ _ h => h) (by rfl) ?_ hHeld ?_
  · (intro wq hSw; go_simp <;> with_reducible rfl)
  try simp only [Act.put, List.setIfInBounds_toArray, List.set_cons_zero, List.set_cons_succ]
  refine take_mid (i := 6) (oi := { dst := some 22, op := Go.Op.load 23 (Go.Operand.tmp 21), type := 23, pos := "letter.go:94", after := #[{ on := 5, ground := Go.Ground.data }], guard := none }) rfl (by kernel_rfl) (by kernel_rfl) (by kernel_rfl) 23 (.tmp 21) w.heap.size 3 [.int .i64 ok, .string os, .string od, .int .i64 oa, .string oy, .int .i64 ol, .int .i64 oh] _ (fun _ _ _ h => h) (by rfl) rfl (by go_simp <;> with_reducible rfl) (fun W hW => kop.out W hW) Try.underlying23 rfl (by kernel_rfl) hHeld ?_
  try simp only [Act.put, List.setIfInBounds_toArray, List.set_cons_zero, List.set_cons_succ]
  refine take_val (i := 3) (oi := { dst := some 19, op := Go.Op.buildSlice 118 2 #[(0, Go.Operand.tmp 16), (1, Go.Operand.tmp 18)], type := 118, pos := "letter.go:94", after := #[{ on := 0, ground := Go.Ground.data }, { on := 2, ground := Go.Ground.data }], guard := none }) (w' := w1.drew.alloc (.cells #[.int .i64 2, .int .i64 n] 2)) (.slice (some ⟨w1.drew.heap.size, 0, none⟩) 2 2) rfl (by kernel_rfl) (by rfl) (by go_simp <;> with_reducible rfl) (hHeld.alloc hHeld.size _) ?_
  try simp only [Act.put, List.setIfInBounds_toArray, List.set_cons_zero, List.set_cons_succ]
  refine take_call (i := 4) (oi := { dst := some 20, op := Go.Op.call { callee := Go.Callee.value (Go.Operand.func 60), args := #[Go.Operand.tmp 19], argTypes := #[118] }, type := 41, pos := "letter.go:94", after := #[{ on := 3, ground := Go.Ground.data }], guard := none }) rfl (by kernel_rfl) (by rfl) 60 _ (by go_simp <;> with_reducible rfl) ?_
  refine (C60.out _ hHeld).mono ?_
  rintro e w2 ⟨v2, rfl, o2, hb2⟩
  refine ⟨v2, rfl, hb2, ?_⟩
  try simp only [Act.put, List.setIfInBounds_toArray, List.set_cons_zero, List.set_cons_succ]
  refine take_call (i := 7) (oi := { dst := some 23, op := Go.Op.call { callee := Go.Callee.value (Go.Operand.func 59), args := #[Go.Operand.tmp 20, Go.Operand.tmp 22], argTypes := #[41, 23] }, type := 41, pos := "letter.go:94", after := #[{ on := 4, ground := Go.Ground.data }, { on := 6, ground := Go.Ground.data }, { on := 4, ground := Go.Ground.chain }], guard := none }) rfl (by kernel_rfl) (by rfl) 59 _ (by go_simp <;> with_reducible rfl) ?_
  refine (C59.out _ _ hb2 o2).mono ?_
  rintro e w3 ⟨v3, rfl, o3, hb3⟩
  refine ⟨v3, rfl, hb3, ?_⟩
  try simp only [Act.put, List.setIfInBounds_toArray, List.set_cons_zero, List.set_cons_succ]
  refine take_run (i := 8) (oi := { dst := some 2, op := Go.Op.assign (Go.Operand.tmp 23), type := 41, pos := "letter.go:94", after := #[{ on := 7, ground := Go.Ground.data }, { on := 7, ground := Go.Ground.chain }, { on := 0, ground := Go.Ground.phase }, { on := 1, ground := Go.Ground.phase }, { on := 2, ground := Go.Ground.phase }, { on := 3, ground := Go.Ground.phase }, { on := 4, ground := Go.Ground.phase }, { on := 5, ground := Go.Ground.phase }, { on := 6, ground := Go.Ground.phase }, { on := 7, ground := Go.Ground.phase }], guard := none }) (v := v3) rfl (by kernel_rfl) (by kernel_rfl) (by kernel_rfl) (fun _ _ _ h => h) (by rfl) ?_ hb3 ?_
  · (intro wq hSw; go_simp <;> with_reducible rfl)
  try simp only [Act.put, List.setIfInBounds_toArray, List.set_cons_zero, List.set_cons_succ]
  refine wpAnyH_done (by kernel_rfl) ?_ _
  have O3 : Hid _ := o3
  have B3 : Hid (Below w1.heap.size w1 w3) := hb3
  clear o3 hb3 o2 hb2 hHeld k1 k2 k13 kop kre C60 C59
  go_wp2
  go_ret
  exact ⟨_, rfl, owns_mono' O3.out HB1.out.size, HB1.out.trans (B3.out.mono HB1.out.size)⟩
set_option maxRecDepth 100000 in
set_option maxHeartbeats 1600000 in
theorem form_told (n group : Int) (o : OpD) (why amount : Int) (ra : Option Addr) (rn rc : Nat) (ba : Option Addr) (bn bc : Nat) (w : World) (hn : i64ok n) (hg : i64ok group) (rows : List (ByteArray × Int)) (h1 : i64ok why) (h2 : i64ok amount) (hr : ∀ r ∈ rows, i64ok r.2) (hR : RowsAt w ra rn rows) (hz : rowsSize rows ≤ 100000000000) : Calls Try.prog 40 #[.agg (LetV.cells ⟨3, n, group, o, why, amount, ra, rn, rc, ba, bn, bc⟩)] w fun e w' => ∃ v, e = .returned v ∧ w'.ownsRow w.heap.size 5 1 v (intsB [3, n] ++ (enc (zig why) ++ enc (zig amount) ++ enc rows.length ++ rowsB rows)).length (cellsOf (intsB [3, n] ++ (enc (zig why) ++ enc (zig amount) ++ enc rows.length ++ rowsB rows))) ∧ Below w.heap.size w w' := by
  obtain ⟨ok, os, od, oa, oy, ol, oh⟩ := o
  show Calls Try.prog 40 #[.agg #[.int .i64 3, .int .i64 n, .int .i64 group, .int .i64 ok, .string os, .string od, .int .i64 oa, .string oy, .int .i64 ol, .int .i64 oh, .int .i64 why, .int .i64 amount, .slice ra rn rc, .slice ba bn bc]] w _
  generalize hw1 : w.alloc (.cells #[.int .i64 3, .int .i64 n, .int .i64 group, .int .i64 ok, .string os, .string od, .int .i64 oa, .string oy, .int .i64 ol, .int .i64 oh, .int .i64 why, .int .i64 amount, .slice ra rn rc, .slice ba bn bc] 46) = w1
  have b1 : Below w.heap.size w w1 := by rw [← hw1]; exact (Below.refl _ w).alloc (Nat.le_refl _) _
  have hh : w1.heap[w.heap.size]? = some (.cells #[.int .i64 3, .int .i64 n, .int .i64 group, .int .i64 ok, .string os, .string od, .int .i64 oa, .string oy, .int .i64 ol, .int .i64 oh, .int .i64 why, .int .i64 amount, .slice ra rn rc, .slice ba bn bc] 46 (0, 0)) := by rw [← hw1]; exact heap_alloc_new w _
  have hlt : w.heap.size < w1.heap.size := by rw [← hw1]; simp
  have cc : ∀ w', Below w1.heap.size w1 w' → w'.heap[w.heap.size]? = some (.cells #[.int .i64 3, .int .i64 n, .int .i64 group, .int .i64 ok, .string os, .string od, .int .i64 oa, .string oy, .int .i64 ol, .int .i64 oh, .int .i64 why, .int .i64 amount, .slice ra rn rc, .slice ba bn bc] 46 (0, 0)) := fun w' h => (h.block _ hlt).trans hh
  have k0 : w1.cell? ⟨w.heap.size, 0, none⟩ = some (.int .i64 3) := by simp [World.cell?, hh]
  have k1 : Hid (∀ w', Below w1.heap.size w1 w' → w'.cell? ⟨w.heap.size, 1, none⟩ = some (.int .i64 n)) := fun w' h => by simp [World.cell?, cc w' h]
  have k2 : Hid (∀ w', Below w1.heap.size w1 w' → w'.cell? ⟨w.heap.size, 2, none⟩ = some (.int .i64 group)) := fun w' h => by simp [World.cell?, cc w' h]
  have k13 : Hid (∀ w', Below w1.heap.size w1 w' → w'.cell? ⟨w.heap.size, 13, none⟩ = some (.slice ba bn bc)) := fun w' h => by simp [World.cell?, cc w' h]
  have kop : Hid (∀ w', Below w1.heap.size w1 w' → w'.rangeAt w.heap.size 3 [.int .i64 ok, .string os, .string od, .int .i64 oa, .string oy, .int .i64 ol, .int .i64 oh]) := fun w' h j v hv => by
    have hj : j < 7 := (List.getElem?_eq_some_iff.1 hv).1
    simp only [World.cell?, cc w' h]
    match j, hj with
    | 0, _ => simpa using hv
    | 1, _ => simpa using hv
    | 2, _ => simpa using hv
    | 3, _ => simpa using hv
    | 4, _ => simpa using hv
    | 5, _ => simpa using hv
    | 6, _ => simpa using hv
  have kre : Hid (∀ w', Below w1.heap.size w1 w' → w'.rangeAt w.heap.size 10 [.int .i64 why, .int .i64 amount, .slice ra rn rc]) := fun w' h j v hv => by
    have hj : j < 3 := (List.getElem?_eq_some_iff.1 hv).1
    simp only [World.cell?, cc w' h]
    match j, hj with
    | 0, _ => simpa using hv
    | 1, _ => simpa using hv
    | 2, _ => simpa using hv
  have hle := ints_ok (ok2 3 ⟨by decide, by decide⟩ hn)
  simp only [List.length_cons, List.length_nil] at hle
  have C60 : Hid (∀ w', Below w1.heap.size w1 w' → Calls Try.prog 60 #[.slice (some ⟨w'.heap.size, 0, none⟩) 2 2] (w'.alloc (.cells #[.int .i64 3, .int .i64 n] 2)) fun e w'' => ∃ v, e = .returned v ∧ w''.ownsRow w1.heap.size 5 1 v (intsB [3, n]).length (cellsOf (intsB [3, n])) ∧ Below w1.heap.size w1 w'') := fun w' h => by
    refine (ints_new w' [3, n] (by simp) (ok2 3 ⟨by decide, by decide⟩ hn)).mono ?_
    rintro e w'' ⟨v, rfl, o, b⟩
    exact ⟨v, rfl, owns_mono' o h.size, h.trans (b.mono h.size)⟩
  have C59 : Hid (∀ w' v, Below w1.heap.size w1 w' → w'.ownsRow w1.heap.size 5 1 v (intsB [3, n]).length (cellsOf (intsB [3, n])) → Calls Try.prog 61 #[v, .agg #[.int .i64 why, .int .i64 amount, .slice ra rn rc]] w' fun e w'' => ∃ v', e = .returned v' ∧ w''.ownsRow w1.heap.size 5 1 v' (intsB [3, n] ++ (enc (zig why) ++ enc (zig amount) ++ enc rows.length ++ rowsB rows)).length (cellsOf (intsB [3, n] ++ (enc (zig why) ++ enc (zig amount) ++ enc rows.length ++ rowsB rows))) ∧ Below w1.heap.size w1 w'') := fun w' v h hv => by
    obtain ⟨va, vc, rfl, hS, hni, _⟩ := owned_seen hv (by unfold maxLen; omega)
    refine (putReply_any va _ vc _ why amount ra rn rc rows h1 h2 hr w' hS hni (hR.below (b1.trans (h.mono b1.size))) (by omega)).mono ?_
    rintro e w'' ⟨v', rfl, o, b⟩
    exact ⟨v', rfl, by rw [List.length_append]; exact owns_mono' o h.size, h.trans (b.mono h.size)⟩
  have HW : Hid (_ = w1) := hw1
  have HB1 : Hid (Below w.heap.size w w1) := b1
  clear hw1 b1 hh hlt cc hn hg hz hle hr hR h1 h2
  go_enter Try.func40, Try.ntmps40
  go_wp2_with fail
  rw [HW.out]
  clear k0
  refine wp_region_held_drew (S := fun W => Below w1.heap.size w1 W) (by kernel_rfl) (Below.refl _ w1).drew (fun hHeld => ?_)
  refine take_run (i := 0) (oi := { dst := some 26, op := Go.Op.move (Go.Operand.tmp 3), type := 2, pos := "letter.go:96", after := #[], guard := none }) (v := .int .i64 3) rfl (by kernel_rfl) (by kernel_rfl) (by kernel_rfl) (fun _ _ _ h => h) (by rfl) ?_ hHeld ?_
  · (intro wq hSw; go_simp <;> with_reducible rfl)
  try simp only [Act.put, List.setIfInBounds_toArray, List.set_cons_zero, List.set_cons_succ]
  refine take_run (i := 1) (oi := { dst := some 27, op := Go.Op.fieldAddr 46 (Go.Operand.tmp 1) 1, type := 0, pos := "letter.go:96", after := #[], guard := none }) (v := .pointer (some ⟨w.heap.size, 1, none⟩)) rfl (by kernel_rfl) (by kernel_rfl) (by kernel_rfl) (fun _ _ _ h => h) (by rfl) ?_ hHeld ?_
  · (intro wq hSw; go_simp <;> with_reducible rfl)
  try simp only [Act.put, List.setIfInBounds_toArray, List.set_cons_zero, List.set_cons_succ]
  refine take_run (i := 2) (oi := { dst := some 28, op := Go.Op.load 2 (Go.Operand.tmp 27), type := 2, pos := "letter.go:96", after := #[{ on := 1, ground := Go.Ground.data }], guard := none }) (v := .int .i64 n) rfl (by kernel_rfl) (by kernel_rfl) (by kernel_rfl) (fun _ _ _ h => h) (by rfl) ?_ hHeld ?_
  · (intro wq hSw; have hk := k1.out wq hSw; go_simp <;> with_reducible rfl)
  try simp only [Act.put, List.setIfInBounds_toArray, List.set_cons_zero, List.set_cons_succ]
  refine take_run (i := 5) (oi := { dst := some 31, op := Go.Op.fieldAddr 46 (Go.Operand.tmp 1) 4, type := 0, pos := "letter.go:96", after := #[], guard := none }) (v := .pointer (some ⟨w.heap.size, 10, none⟩)) rfl (by kernel_rfl) (by kernel_rfl) (by kernel_rfl) (fun _ _ _ h => h) (by rfl) ?_ hHeld ?_
  · (intro wq hSw; go_simp <;> with_reducible rfl)
  try simp only [Act.put, List.setIfInBounds_toArray, List.set_cons_zero, List.set_cons_succ]
  refine take_mid (i := 6) (oi := { dst := some 32, op := Go.Op.load 28 (Go.Operand.tmp 31), type := 28, pos := "letter.go:96", after := #[{ on := 5, ground := Go.Ground.data }], guard := none }) rfl (by kernel_rfl) (by kernel_rfl) (by kernel_rfl) 28 (.tmp 31) w.heap.size 10 [.int .i64 why, .int .i64 amount, .slice ra rn rc] _ (fun _ _ _ h => h) (by rfl) rfl (by go_simp <;> with_reducible rfl) (fun W hW => kre.out W hW) Try.underlying28 rfl (by kernel_rfl) hHeld ?_
  try simp only [Act.put, List.setIfInBounds_toArray, List.set_cons_zero, List.set_cons_succ]
  refine take_val (i := 3) (oi := { dst := some 29, op := Go.Op.buildSlice 118 2 #[(0, Go.Operand.tmp 26), (1, Go.Operand.tmp 28)], type := 118, pos := "letter.go:96", after := #[{ on := 0, ground := Go.Ground.data }, { on := 2, ground := Go.Ground.data }], guard := none }) (w' := w1.drew.alloc (.cells #[.int .i64 3, .int .i64 n] 2)) (.slice (some ⟨w1.drew.heap.size, 0, none⟩) 2 2) rfl (by kernel_rfl) (by rfl) (by go_simp <;> with_reducible rfl) (hHeld.alloc hHeld.size _) ?_
  try simp only [Act.put, List.setIfInBounds_toArray, List.set_cons_zero, List.set_cons_succ]
  refine take_call (i := 4) (oi := { dst := some 30, op := Go.Op.call { callee := Go.Callee.value (Go.Operand.func 60), args := #[Go.Operand.tmp 29], argTypes := #[118] }, type := 41, pos := "letter.go:96", after := #[{ on := 3, ground := Go.Ground.data }], guard := none }) rfl (by kernel_rfl) (by rfl) 60 _ (by go_simp <;> with_reducible rfl) ?_
  refine (C60.out _ hHeld).mono ?_
  rintro e w2 ⟨v2, rfl, o2, hb2⟩
  refine ⟨v2, rfl, hb2, ?_⟩
  try simp only [Act.put, List.setIfInBounds_toArray, List.set_cons_zero, List.set_cons_succ]
  refine take_call (i := 7) (oi := { dst := some 33, op := Go.Op.call { callee := Go.Callee.value (Go.Operand.func 61), args := #[Go.Operand.tmp 30, Go.Operand.tmp 32], argTypes := #[41, 28] }, type := 41, pos := "letter.go:96", after := #[{ on := 4, ground := Go.Ground.data }, { on := 6, ground := Go.Ground.data }, { on := 4, ground := Go.Ground.chain }], guard := none }) rfl (by kernel_rfl) (by rfl) 61 _ (by go_simp <;> with_reducible rfl) ?_
  refine (C59.out _ _ hb2 o2).mono ?_
  rintro e w3 ⟨v3, rfl, o3, hb3⟩
  refine ⟨v3, rfl, hb3, ?_⟩
  try simp only [Act.put, List.setIfInBounds_toArray, List.set_cons_zero, List.set_cons_succ]
  refine take_run (i := 8) (oi := { dst := some 2, op := Go.Op.assign (Go.Operand.tmp 33), type := 41, pos := "letter.go:96", after := #[{ on := 7, ground := Go.Ground.data }, { on := 7, ground := Go.Ground.chain }, { on := 0, ground := Go.Ground.phase }, { on := 1, ground := Go.Ground.phase }, { on := 2, ground := Go.Ground.phase }, { on := 3, ground := Go.Ground.phase }, { on := 4, ground := Go.Ground.phase }, { on := 5, ground := Go.Ground.phase }, { on := 6, ground := Go.Ground.phase }, { on := 7, ground := Go.Ground.phase }], guard := none }) (v := v3) rfl (by kernel_rfl) (by kernel_rfl) (by kernel_rfl) (fun _ _ _ h => h) (by rfl) ?_ hb3 ?_
  · (intro wq hSw; go_simp <;> with_reducible rfl)
  try simp only [Act.put, List.setIfInBounds_toArray, List.set_cons_zero, List.set_cons_succ]
  refine wpAnyH_done (by kernel_rfl) ?_ _
  have O3 : Hid _ := o3
  have B3 : Hid (Below w1.heap.size w1 w3) := hb3
  clear o3 hb3 o2 hb2 hHeld k1 k2 k13 kop kre C60 C59
  go_wp2
  go_ret
  exact ⟨_, rfl, owns_mono' O3.out HB1.out.size, HB1.out.trans (B3.out.mono HB1.out.size)⟩
set_option maxRecDepth 100000 in
set_option maxHeartbeats 1600000 in
theorem form_ask (n group : Int) (o : OpD) (why amount : Int) (ra : Option Addr) (rn rc : Nat) (ba : Option Addr) (bn bc : Nat) (w : World) (hn : i64ok n) (hg : i64ok group) (body : List (BitVec 8)) (hB : Seen w ba bn body) (hnil : ba = none → bc = 0) (hz : bn ≤ 65536) : Calls Try.prog 40 #[.agg (LetV.cells ⟨4, n, group, o, why, amount, ra, rn, rc, ba, bn, bc⟩)] w fun e w' => ∃ v, e = .returned v ∧ w'.ownsRow w.heap.size 5 1 v (intsB [4, n] ++ sz body).length (cellsOf (intsB [4, n] ++ sz body)) ∧ Below w.heap.size w w' := by
  obtain ⟨ok, os, od, oa, oy, ol, oh⟩ := o
  show Calls Try.prog 40 #[.agg #[.int .i64 4, .int .i64 n, .int .i64 group, .int .i64 ok, .string os, .string od, .int .i64 oa, .string oy, .int .i64 ol, .int .i64 oh, .int .i64 why, .int .i64 amount, .slice ra rn rc, .slice ba bn bc]] w _
  generalize hw1 : w.alloc (.cells #[.int .i64 4, .int .i64 n, .int .i64 group, .int .i64 ok, .string os, .string od, .int .i64 oa, .string oy, .int .i64 ol, .int .i64 oh, .int .i64 why, .int .i64 amount, .slice ra rn rc, .slice ba bn bc] 46) = w1
  have b1 : Below w.heap.size w w1 := by rw [← hw1]; exact (Below.refl _ w).alloc (Nat.le_refl _) _
  have hh : w1.heap[w.heap.size]? = some (.cells #[.int .i64 4, .int .i64 n, .int .i64 group, .int .i64 ok, .string os, .string od, .int .i64 oa, .string oy, .int .i64 ol, .int .i64 oh, .int .i64 why, .int .i64 amount, .slice ra rn rc, .slice ba bn bc] 46 (0, 0)) := by rw [← hw1]; exact heap_alloc_new w _
  have hlt : w.heap.size < w1.heap.size := by rw [← hw1]; simp
  have cc : ∀ w', Below w1.heap.size w1 w' → w'.heap[w.heap.size]? = some (.cells #[.int .i64 4, .int .i64 n, .int .i64 group, .int .i64 ok, .string os, .string od, .int .i64 oa, .string oy, .int .i64 ol, .int .i64 oh, .int .i64 why, .int .i64 amount, .slice ra rn rc, .slice ba bn bc] 46 (0, 0)) := fun w' h => (h.block _ hlt).trans hh
  have k0 : w1.cell? ⟨w.heap.size, 0, none⟩ = some (.int .i64 4) := by simp [World.cell?, hh]
  have k1 : Hid (∀ w', Below w1.heap.size w1 w' → w'.cell? ⟨w.heap.size, 1, none⟩ = some (.int .i64 n)) := fun w' h => by simp [World.cell?, cc w' h]
  have k2 : Hid (∀ w', Below w1.heap.size w1 w' → w'.cell? ⟨w.heap.size, 2, none⟩ = some (.int .i64 group)) := fun w' h => by simp [World.cell?, cc w' h]
  have k13 : Hid (∀ w', Below w1.heap.size w1 w' → w'.cell? ⟨w.heap.size, 13, none⟩ = some (.slice ba bn bc)) := fun w' h => by simp [World.cell?, cc w' h]
  have kop : Hid (∀ w', Below w1.heap.size w1 w' → w'.rangeAt w.heap.size 3 [.int .i64 ok, .string os, .string od, .int .i64 oa, .string oy, .int .i64 ol, .int .i64 oh]) := fun w' h j v hv => by
    have hj : j < 7 := (List.getElem?_eq_some_iff.1 hv).1
    simp only [World.cell?, cc w' h]
    match j, hj with
    | 0, _ => simpa using hv
    | 1, _ => simpa using hv
    | 2, _ => simpa using hv
    | 3, _ => simpa using hv
    | 4, _ => simpa using hv
    | 5, _ => simpa using hv
    | 6, _ => simpa using hv
  have kre : Hid (∀ w', Below w1.heap.size w1 w' → w'.rangeAt w.heap.size 10 [.int .i64 why, .int .i64 amount, .slice ra rn rc]) := fun w' h j v hv => by
    have hj : j < 3 := (List.getElem?_eq_some_iff.1 hv).1
    simp only [World.cell?, cc w' h]
    match j, hj with
    | 0, _ => simpa using hv
    | 1, _ => simpa using hv
    | 2, _ => simpa using hv
  have hle := ints_ok (ok2 4 ⟨by decide, by decide⟩ hn)
  simp only [List.length_cons, List.length_nil] at hle
  have C60 : Hid (∀ w', Below w1.heap.size w1 w' → Calls Try.prog 60 #[.slice (some ⟨w'.heap.size, 0, none⟩) 2 2] (w'.alloc (.cells #[.int .i64 4, .int .i64 n] 2)) fun e w'' => ∃ v, e = .returned v ∧ w''.ownsRow w1.heap.size 5 1 v (intsB [4, n]).length (cellsOf (intsB [4, n])) ∧ Below w1.heap.size w1 w'') := fun w' h => by
    refine (ints_new w' [4, n] (by simp) (ok2 4 ⟨by decide, by decide⟩ hn)).mono ?_
    rintro e w'' ⟨v, rfl, o, b⟩
    exact ⟨v, rfl, owns_mono' o h.size, h.trans (b.mono h.size)⟩
  have C59 : Hid (∀ w' v, Below w1.heap.size w1 w' → w'.ownsRow w1.heap.size 5 1 v (intsB [4, n]).length (cellsOf (intsB [4, n])) → Calls Try.prog 62 #[v, .slice ba bn bc] w' fun e w'' => ∃ v', e = .returned v' ∧ w''.ownsRow w1.heap.size 5 1 v' (intsB [4, n] ++ sz body).length (cellsOf (intsB [4, n] ++ sz body)) ∧ Below w1.heap.size w1 w'') := fun w' v h hv => by
    obtain ⟨va, vc, rfl, hS, hni, _⟩ := owned_seen hv (by unfold maxLen; omega)
    refine (bytes_any va _ vc _ ba bn bc body w' hS hni (hB.below (b1.trans (h.mono b1.size))) hnil (by omega)).mono ?_
    rintro e w'' ⟨v', rfl, o, b⟩
    exact ⟨v', rfl, by rw [List.length_append]; exact owns_mono' o h.size, h.trans (b.mono h.size)⟩
  have HW : Hid (_ = w1) := hw1
  have HB1 : Hid (Below w.heap.size w w1) := b1
  clear hw1 b1 hh hlt cc hn hg hz hle hB hnil
  go_enter Try.func40, Try.ntmps40
  go_wp2_with fail
  rw [HW.out]
  clear k0
  refine wp_region_held_drew (S := fun W => Below w1.heap.size w1 W) (by kernel_rfl) (Below.refl _ w1).drew (fun hHeld => ?_)
  refine take_run (i := 0) (oi := { dst := some 36, op := Go.Op.move (Go.Operand.tmp 3), type := 2, pos := "letter.go:98", after := #[], guard := none }) (v := .int .i64 4) rfl (by kernel_rfl) (by kernel_rfl) (by kernel_rfl) (fun _ _ _ h => h) (by rfl) ?_ hHeld ?_
  · (intro wq hSw; go_simp <;> with_reducible rfl)
  try simp only [Act.put, List.setIfInBounds_toArray, List.set_cons_zero, List.set_cons_succ]
  refine take_run (i := 1) (oi := { dst := some 37, op := Go.Op.fieldAddr 46 (Go.Operand.tmp 1) 1, type := 0, pos := "letter.go:98", after := #[], guard := none }) (v := .pointer (some ⟨w.heap.size, 1, none⟩)) rfl (by kernel_rfl) (by kernel_rfl) (by kernel_rfl) (fun _ _ _ h => h) (by rfl) ?_ hHeld ?_
  · (intro wq hSw; go_simp <;> with_reducible rfl)
  try simp only [Act.put, List.setIfInBounds_toArray, List.set_cons_zero, List.set_cons_succ]
  refine take_run (i := 2) (oi := { dst := some 38, op := Go.Op.load 2 (Go.Operand.tmp 37), type := 2, pos := "letter.go:98", after := #[{ on := 1, ground := Go.Ground.data }], guard := none }) (v := .int .i64 n) rfl (by kernel_rfl) (by kernel_rfl) (by kernel_rfl) (fun _ _ _ h => h) (by rfl) ?_ hHeld ?_
  · (intro wq hSw; have hk := k1.out wq hSw; go_simp <;> with_reducible rfl)
  try simp only [Act.put, List.setIfInBounds_toArray, List.set_cons_zero, List.set_cons_succ]
  refine take_run (i := 5) (oi := { dst := some 41, op := Go.Op.fieldAddr 46 (Go.Operand.tmp 1) 5, type := 0, pos := "letter.go:98", after := #[], guard := none }) (v := .pointer (some ⟨w.heap.size, 13, none⟩)) rfl (by kernel_rfl) (by kernel_rfl) (by kernel_rfl) (fun _ _ _ h => h) (by rfl) ?_ hHeld ?_
  · (intro wq hSw; go_simp <;> with_reducible rfl)
  try simp only [Act.put, List.setIfInBounds_toArray, List.set_cons_zero, List.set_cons_succ]
  refine take_run (i := 6) (oi := { dst := some 42, op := Go.Op.load 41 (Go.Operand.tmp 41), type := 41, pos := "letter.go:98", after := #[{ on := 5, ground := Go.Ground.data }], guard := none }) (v := .slice ba bn bc) rfl (by kernel_rfl) (by kernel_rfl) (by kernel_rfl) (fun _ _ _ h => h) (by rfl) ?_ hHeld ?_
  · (intro wq hSw; have hk := k13.out wq hSw; go_simp <;> with_reducible rfl)
  try simp only [Act.put, List.setIfInBounds_toArray, List.set_cons_zero, List.set_cons_succ]
  refine take_val (i := 3) (oi := { dst := some 39, op := Go.Op.buildSlice 118 2 #[(0, Go.Operand.tmp 36), (1, Go.Operand.tmp 38)], type := 118, pos := "letter.go:98", after := #[{ on := 0, ground := Go.Ground.data }, { on := 2, ground := Go.Ground.data }], guard := none }) (w' := w1.drew.alloc (.cells #[.int .i64 4, .int .i64 n] 2)) (.slice (some ⟨w1.drew.heap.size, 0, none⟩) 2 2) rfl (by kernel_rfl) (by rfl) (by go_simp <;> with_reducible rfl) (hHeld.alloc hHeld.size _) ?_
  try simp only [Act.put, List.setIfInBounds_toArray, List.set_cons_zero, List.set_cons_succ]
  refine take_call (i := 4) (oi := { dst := some 40, op := Go.Op.call { callee := Go.Callee.value (Go.Operand.func 60), args := #[Go.Operand.tmp 39], argTypes := #[118] }, type := 41, pos := "letter.go:98", after := #[{ on := 3, ground := Go.Ground.data }], guard := none }) rfl (by kernel_rfl) (by rfl) 60 _ (by go_simp <;> with_reducible rfl) ?_
  refine (C60.out _ hHeld).mono ?_
  rintro e w2 ⟨v2, rfl, o2, hb2⟩
  refine ⟨v2, rfl, hb2, ?_⟩
  try simp only [Act.put, List.setIfInBounds_toArray, List.set_cons_zero, List.set_cons_succ]
  refine take_call (i := 7) (oi := { dst := some 43, op := Go.Op.call { callee := Go.Callee.value (Go.Operand.func 62), args := #[Go.Operand.tmp 40, Go.Operand.tmp 42], argTypes := #[41, 41] }, type := 41, pos := "letter.go:98", after := #[{ on := 4, ground := Go.Ground.data }, { on := 6, ground := Go.Ground.data }, { on := 4, ground := Go.Ground.chain }], guard := none }) rfl (by kernel_rfl) (by rfl) 62 _ (by go_simp <;> with_reducible rfl) ?_
  refine (C59.out _ _ hb2 o2).mono ?_
  rintro e w3 ⟨v3, rfl, o3, hb3⟩
  refine ⟨v3, rfl, hb3, ?_⟩
  try simp only [Act.put, List.setIfInBounds_toArray, List.set_cons_zero, List.set_cons_succ]
  refine take_run (i := 8) (oi := { dst := some 2, op := Go.Op.assign (Go.Operand.tmp 43), type := 41, pos := "letter.go:98", after := #[{ on := 7, ground := Go.Ground.data }, { on := 7, ground := Go.Ground.chain }, { on := 0, ground := Go.Ground.phase }, { on := 1, ground := Go.Ground.phase }, { on := 2, ground := Go.Ground.phase }, { on := 3, ground := Go.Ground.phase }, { on := 4, ground := Go.Ground.phase }, { on := 5, ground := Go.Ground.phase }, { on := 6, ground := Go.Ground.phase }, { on := 7, ground := Go.Ground.phase }], guard := none }) (v := v3) rfl (by kernel_rfl) (by kernel_rfl) (by kernel_rfl) (fun _ _ _ h => h) (by rfl) ?_ hb3 ?_
  · (intro wq hSw; go_simp <;> with_reducible rfl)
  try simp only [Act.put, List.setIfInBounds_toArray, List.set_cons_zero, List.set_cons_succ]
  refine wpAnyH_done (by kernel_rfl) ?_ _
  have O3 : Hid _ := o3
  have B3 : Hid (Below w1.heap.size w1 w3) := hb3
  clear o3 hb3 o2 hb2 hHeld k1 k2 k13 kop kre C60 C59
  go_wp2
  go_ret
  exact ⟨_, rfl, owns_mono' O3.out HB1.out.size, HB1.out.trans (B3.out.mono HB1.out.size)⟩
set_option maxRecDepth 100000 in
set_option maxHeartbeats 1600000 in
theorem form_answer (n group : Int) (o : OpD) (why amount : Int) (ra : Option Addr) (rn rc : Nat) (ba : Option Addr) (bn bc : Nat) (w : World) (hn : i64ok n) (hg : i64ok group) (body : List (BitVec 8)) (hB : Seen w ba bn body) (hnil : ba = none → bc = 0) (hz : bn ≤ 65536) : Calls Try.prog 40 #[.agg (LetV.cells ⟨5, n, group, o, why, amount, ra, rn, rc, ba, bn, bc⟩)] w fun e w' => ∃ v, e = .returned v ∧ w'.ownsRow w.heap.size 5 1 v (intsB [5, n, group] ++ sz body).length (cellsOf (intsB [5, n, group] ++ sz body)) ∧ Below w.heap.size w w' := by
  obtain ⟨ok, os, od, oa, oy, ol, oh⟩ := o
  show Calls Try.prog 40 #[.agg #[.int .i64 5, .int .i64 n, .int .i64 group, .int .i64 ok, .string os, .string od, .int .i64 oa, .string oy, .int .i64 ol, .int .i64 oh, .int .i64 why, .int .i64 amount, .slice ra rn rc, .slice ba bn bc]] w _
  generalize hw1 : w.alloc (.cells #[.int .i64 5, .int .i64 n, .int .i64 group, .int .i64 ok, .string os, .string od, .int .i64 oa, .string oy, .int .i64 ol, .int .i64 oh, .int .i64 why, .int .i64 amount, .slice ra rn rc, .slice ba bn bc] 46) = w1
  have b1 : Below w.heap.size w w1 := by rw [← hw1]; exact (Below.refl _ w).alloc (Nat.le_refl _) _
  have hh : w1.heap[w.heap.size]? = some (.cells #[.int .i64 5, .int .i64 n, .int .i64 group, .int .i64 ok, .string os, .string od, .int .i64 oa, .string oy, .int .i64 ol, .int .i64 oh, .int .i64 why, .int .i64 amount, .slice ra rn rc, .slice ba bn bc] 46 (0, 0)) := by rw [← hw1]; exact heap_alloc_new w _
  have hlt : w.heap.size < w1.heap.size := by rw [← hw1]; simp
  have cc : ∀ w', Below w1.heap.size w1 w' → w'.heap[w.heap.size]? = some (.cells #[.int .i64 5, .int .i64 n, .int .i64 group, .int .i64 ok, .string os, .string od, .int .i64 oa, .string oy, .int .i64 ol, .int .i64 oh, .int .i64 why, .int .i64 amount, .slice ra rn rc, .slice ba bn bc] 46 (0, 0)) := fun w' h => (h.block _ hlt).trans hh
  have k0 : w1.cell? ⟨w.heap.size, 0, none⟩ = some (.int .i64 5) := by simp [World.cell?, hh]
  have k1 : Hid (∀ w', Below w1.heap.size w1 w' → w'.cell? ⟨w.heap.size, 1, none⟩ = some (.int .i64 n)) := fun w' h => by simp [World.cell?, cc w' h]
  have k2 : Hid (∀ w', Below w1.heap.size w1 w' → w'.cell? ⟨w.heap.size, 2, none⟩ = some (.int .i64 group)) := fun w' h => by simp [World.cell?, cc w' h]
  have k13 : Hid (∀ w', Below w1.heap.size w1 w' → w'.cell? ⟨w.heap.size, 13, none⟩ = some (.slice ba bn bc)) := fun w' h => by simp [World.cell?, cc w' h]
  have kop : Hid (∀ w', Below w1.heap.size w1 w' → w'.rangeAt w.heap.size 3 [.int .i64 ok, .string os, .string od, .int .i64 oa, .string oy, .int .i64 ol, .int .i64 oh]) := fun w' h j v hv => by
    have hj : j < 7 := (List.getElem?_eq_some_iff.1 hv).1
    simp only [World.cell?, cc w' h]
    match j, hj with
    | 0, _ => simpa using hv
    | 1, _ => simpa using hv
    | 2, _ => simpa using hv
    | 3, _ => simpa using hv
    | 4, _ => simpa using hv
    | 5, _ => simpa using hv
    | 6, _ => simpa using hv
  have kre : Hid (∀ w', Below w1.heap.size w1 w' → w'.rangeAt w.heap.size 10 [.int .i64 why, .int .i64 amount, .slice ra rn rc]) := fun w' h j v hv => by
    have hj : j < 3 := (List.getElem?_eq_some_iff.1 hv).1
    simp only [World.cell?, cc w' h]
    match j, hj with
    | 0, _ => simpa using hv
    | 1, _ => simpa using hv
    | 2, _ => simpa using hv
  have hle := ints_ok (ok3 5 ⟨by decide, by decide⟩ hn hg)
  simp only [List.length_cons, List.length_nil] at hle
  have C60 : Hid (∀ w', Below w1.heap.size w1 w' → Calls Try.prog 60 #[.slice (some ⟨w'.heap.size, 0, none⟩) 3 3] (w'.alloc (.cells #[.int .i64 5, .int .i64 n, .int .i64 group] 2)) fun e w'' => ∃ v, e = .returned v ∧ w''.ownsRow w1.heap.size 5 1 v (intsB [5, n, group]).length (cellsOf (intsB [5, n, group])) ∧ Below w1.heap.size w1 w'') := fun w' h => by
    refine (ints_new w' [5, n, group] (by simp) (ok3 5 ⟨by decide, by decide⟩ hn hg)).mono ?_
    rintro e w'' ⟨v, rfl, o, b⟩
    exact ⟨v, rfl, owns_mono' o h.size, h.trans (b.mono h.size)⟩
  have C59 : Hid (∀ w' v, Below w1.heap.size w1 w' → w'.ownsRow w1.heap.size 5 1 v (intsB [5, n, group]).length (cellsOf (intsB [5, n, group])) → Calls Try.prog 62 #[v, .slice ba bn bc] w' fun e w'' => ∃ v', e = .returned v' ∧ w''.ownsRow w1.heap.size 5 1 v' (intsB [5, n, group] ++ sz body).length (cellsOf (intsB [5, n, group] ++ sz body)) ∧ Below w1.heap.size w1 w'') := fun w' v h hv => by
    obtain ⟨va, vc, rfl, hS, hni, _⟩ := owned_seen hv (by unfold maxLen; omega)
    refine (bytes_any va _ vc _ ba bn bc body w' hS hni (hB.below (b1.trans (h.mono b1.size))) hnil (by omega)).mono ?_
    rintro e w'' ⟨v', rfl, o, b⟩
    exact ⟨v', rfl, by rw [List.length_append]; exact owns_mono' o h.size, h.trans (b.mono h.size)⟩
  have HW : Hid (_ = w1) := hw1
  have HB1 : Hid (Below w.heap.size w w1) := b1
  clear hw1 b1 hh hlt cc hn hg hz hle hB hnil
  go_enter Try.func40, Try.ntmps40
  go_wp2_with fail
  rw [HW.out]
  clear k0
  refine wp_region_held_drew (S := fun W => Below w1.heap.size w1 W) (by kernel_rfl) (Below.refl _ w1).drew (fun hHeld => ?_)
  refine take_run (i := 0) (oi := { dst := some 46, op := Go.Op.move (Go.Operand.tmp 3), type := 2, pos := "letter.go:100", after := #[], guard := none }) (v := .int .i64 5) rfl (by kernel_rfl) (by kernel_rfl) (by kernel_rfl) (fun _ _ _ h => h) (by rfl) ?_ hHeld ?_
  · (intro wq hSw; go_simp <;> with_reducible rfl)
  try simp only [Act.put, List.setIfInBounds_toArray, List.set_cons_zero, List.set_cons_succ]
  refine take_run (i := 1) (oi := { dst := some 47, op := Go.Op.fieldAddr 46 (Go.Operand.tmp 1) 1, type := 0, pos := "letter.go:100", after := #[], guard := none }) (v := .pointer (some ⟨w.heap.size, 1, none⟩)) rfl (by kernel_rfl) (by kernel_rfl) (by kernel_rfl) (fun _ _ _ h => h) (by rfl) ?_ hHeld ?_
  · (intro wq hSw; go_simp <;> with_reducible rfl)
  try simp only [Act.put, List.setIfInBounds_toArray, List.set_cons_zero, List.set_cons_succ]
  refine take_run (i := 2) (oi := { dst := some 48, op := Go.Op.load 2 (Go.Operand.tmp 47), type := 2, pos := "letter.go:100", after := #[{ on := 1, ground := Go.Ground.data }], guard := none }) (v := .int .i64 n) rfl (by kernel_rfl) (by kernel_rfl) (by kernel_rfl) (fun _ _ _ h => h) (by rfl) ?_ hHeld ?_
  · (intro wq hSw; have hk := k1.out wq hSw; go_simp <;> with_reducible rfl)
  try simp only [Act.put, List.setIfInBounds_toArray, List.set_cons_zero, List.set_cons_succ]
  refine take_run (i := 3) (oi := { dst := some 49, op := Go.Op.fieldAddr 46 (Go.Operand.tmp 1) 2, type := 0, pos := "letter.go:100", after := #[], guard := none }) (v := .pointer (some ⟨w.heap.size, 2, none⟩)) rfl (by kernel_rfl) (by kernel_rfl) (by kernel_rfl) (fun _ _ _ h => h) (by rfl) ?_ hHeld ?_
  · (intro wq hSw; go_simp <;> with_reducible rfl)
  try simp only [Act.put, List.setIfInBounds_toArray, List.set_cons_zero, List.set_cons_succ]
  refine take_run (i := 4) (oi := { dst := some 50, op := Go.Op.load 3 (Go.Operand.tmp 49), type := 3, pos := "letter.go:100", after := #[{ on := 3, ground := Go.Ground.data }], guard := none }) (v := .int .i64 group) rfl (by kernel_rfl) (by kernel_rfl) (by kernel_rfl) (fun _ _ _ h => h) (by rfl) ?_ hHeld ?_
  · (intro wq hSw; have hk := k2.out wq hSw; go_simp <;> with_reducible rfl)
  try simp only [Act.put, List.setIfInBounds_toArray, List.set_cons_zero, List.set_cons_succ]
  refine take_run (i := 7) (oi := { dst := some 53, op := Go.Op.fieldAddr 46 (Go.Operand.tmp 1) 5, type := 0, pos := "letter.go:100", after := #[], guard := none }) (v := .pointer (some ⟨w.heap.size, 13, none⟩)) rfl (by kernel_rfl) (by kernel_rfl) (by kernel_rfl) (fun _ _ _ h => h) (by rfl) ?_ hHeld ?_
  · (intro wq hSw; go_simp <;> with_reducible rfl)
  try simp only [Act.put, List.setIfInBounds_toArray, List.set_cons_zero, List.set_cons_succ]
  refine take_run (i := 8) (oi := { dst := some 54, op := Go.Op.load 41 (Go.Operand.tmp 53), type := 41, pos := "letter.go:100", after := #[{ on := 7, ground := Go.Ground.data }], guard := none }) (v := .slice ba bn bc) rfl (by kernel_rfl) (by kernel_rfl) (by kernel_rfl) (fun _ _ _ h => h) (by rfl) ?_ hHeld ?_
  · (intro wq hSw; have hk := k13.out wq hSw; go_simp <;> with_reducible rfl)
  try simp only [Act.put, List.setIfInBounds_toArray, List.set_cons_zero, List.set_cons_succ]
  refine take_val (i := 5) (oi := { dst := some 51, op := Go.Op.buildSlice 118 3 #[(0, Go.Operand.tmp 46), (1, Go.Operand.tmp 48), (2, Go.Operand.tmp 50)], type := 118, pos := "letter.go:100", after := #[{ on := 0, ground := Go.Ground.data }, { on := 2, ground := Go.Ground.data }, { on := 4, ground := Go.Ground.data }], guard := none }) (w' := w1.drew.alloc (.cells #[.int .i64 5, .int .i64 n, .int .i64 group] 2)) (.slice (some ⟨w1.drew.heap.size, 0, none⟩) 3 3) rfl (by kernel_rfl) (by rfl) (by go_simp <;> with_reducible rfl) (hHeld.alloc hHeld.size _) ?_
  try simp only [Act.put, List.setIfInBounds_toArray, List.set_cons_zero, List.set_cons_succ]
  refine take_call (i := 6) (oi := { dst := some 52, op := Go.Op.call { callee := Go.Callee.value (Go.Operand.func 60), args := #[Go.Operand.tmp 51], argTypes := #[118] }, type := 41, pos := "letter.go:100", after := #[{ on := 5, ground := Go.Ground.data }], guard := none }) rfl (by kernel_rfl) (by rfl) 60 _ (by go_simp <;> with_reducible rfl) ?_
  refine (C60.out _ hHeld).mono ?_
  rintro e w2 ⟨v2, rfl, o2, hb2⟩
  refine ⟨v2, rfl, hb2, ?_⟩
  try simp only [Act.put, List.setIfInBounds_toArray, List.set_cons_zero, List.set_cons_succ]
  refine take_call (i := 9) (oi := { dst := some 55, op := Go.Op.call { callee := Go.Callee.value (Go.Operand.func 62), args := #[Go.Operand.tmp 52, Go.Operand.tmp 54], argTypes := #[41, 41] }, type := 41, pos := "letter.go:100", after := #[{ on := 6, ground := Go.Ground.data }, { on := 8, ground := Go.Ground.data }, { on := 6, ground := Go.Ground.chain }], guard := none }) rfl (by kernel_rfl) (by rfl) 62 _ (by go_simp <;> with_reducible rfl) ?_
  refine (C59.out _ _ hb2 o2).mono ?_
  rintro e w3 ⟨v3, rfl, o3, hb3⟩
  refine ⟨v3, rfl, hb3, ?_⟩
  try simp only [Act.put, List.setIfInBounds_toArray, List.set_cons_zero, List.set_cons_succ]
  refine take_run (i := 10) (oi := { dst := some 2, op := Go.Op.assign (Go.Operand.tmp 55), type := 41, pos := "letter.go:100", after := #[{ on := 9, ground := Go.Ground.data }, { on := 9, ground := Go.Ground.chain }, { on := 0, ground := Go.Ground.phase }, { on := 1, ground := Go.Ground.phase }, { on := 2, ground := Go.Ground.phase }, { on := 3, ground := Go.Ground.phase }, { on := 4, ground := Go.Ground.phase }, { on := 5, ground := Go.Ground.phase }, { on := 6, ground := Go.Ground.phase }, { on := 7, ground := Go.Ground.phase }, { on := 8, ground := Go.Ground.phase }, { on := 9, ground := Go.Ground.phase }], guard := none }) (v := v3) rfl (by kernel_rfl) (by kernel_rfl) (by kernel_rfl) (fun _ _ _ h => h) (by rfl) ?_ hb3 ?_
  · (intro wq hSw; go_simp <;> with_reducible rfl)
  try simp only [Act.put, List.setIfInBounds_toArray, List.set_cons_zero, List.set_cons_succ]
  refine wpAnyH_done (by kernel_rfl) ?_ _
  have O3 : Hid _ := o3
  have B3 : Hid (Below w1.heap.size w1 w3) := hb3
  clear o3 hb3 o2 hb2 hHeld k1 k2 k13 kop kre C60 C59
  go_wp2
  go_ret
  exact ⟨_, rfl, owns_mono' O3.out HB1.out.size, HB1.out.trans (B3.out.mono HB1.out.size)⟩
set_option maxRecDepth 100000 in
set_option maxHeartbeats 1600000 in
theorem form_raft (n group : Int) (o : OpD) (why amount : Int) (ra : Option Addr) (rn rc : Nat) (ba : Option Addr) (bn bc : Nat) (w : World) (hn : i64ok n) (hg : i64ok group) (body : List (BitVec 8)) (hB : Seen w ba bn body) (hnil : ba = none → bc = 0) (hz : bn ≤ 65536) : Calls Try.prog 40 #[.agg (LetV.cells ⟨1, n, group, o, why, amount, ra, rn, rc, ba, bn, bc⟩)] w fun e w' => ∃ v, e = .returned v ∧ w'.ownsRow w.heap.size 5 1 v (intsB [1] ++ sz body).length (cellsOf (intsB [1] ++ sz body)) ∧ Below w.heap.size w w' := by
  obtain ⟨ok, os, od, oa, oy, ol, oh⟩ := o
  show Calls Try.prog 40 #[.agg #[.int .i64 1, .int .i64 n, .int .i64 group, .int .i64 ok, .string os, .string od, .int .i64 oa, .string oy, .int .i64 ol, .int .i64 oh, .int .i64 why, .int .i64 amount, .slice ra rn rc, .slice ba bn bc]] w _
  generalize hw1 : w.alloc (.cells #[.int .i64 1, .int .i64 n, .int .i64 group, .int .i64 ok, .string os, .string od, .int .i64 oa, .string oy, .int .i64 ol, .int .i64 oh, .int .i64 why, .int .i64 amount, .slice ra rn rc, .slice ba bn bc] 46) = w1
  have b1 : Below w.heap.size w w1 := by rw [← hw1]; exact (Below.refl _ w).alloc (Nat.le_refl _) _
  have hh : w1.heap[w.heap.size]? = some (.cells #[.int .i64 1, .int .i64 n, .int .i64 group, .int .i64 ok, .string os, .string od, .int .i64 oa, .string oy, .int .i64 ol, .int .i64 oh, .int .i64 why, .int .i64 amount, .slice ra rn rc, .slice ba bn bc] 46 (0, 0)) := by rw [← hw1]; exact heap_alloc_new w _
  have hlt : w.heap.size < w1.heap.size := by rw [← hw1]; simp
  have cc : ∀ w', Below w1.heap.size w1 w' → w'.heap[w.heap.size]? = some (.cells #[.int .i64 1, .int .i64 n, .int .i64 group, .int .i64 ok, .string os, .string od, .int .i64 oa, .string oy, .int .i64 ol, .int .i64 oh, .int .i64 why, .int .i64 amount, .slice ra rn rc, .slice ba bn bc] 46 (0, 0)) := fun w' h => (h.block _ hlt).trans hh
  have k0 : w1.cell? ⟨w.heap.size, 0, none⟩ = some (.int .i64 1) := by simp [World.cell?, hh]
  have k1 : Hid (∀ w', Below w1.heap.size w1 w' → w'.cell? ⟨w.heap.size, 1, none⟩ = some (.int .i64 n)) := fun w' h => by simp [World.cell?, cc w' h]
  have k2 : Hid (∀ w', Below w1.heap.size w1 w' → w'.cell? ⟨w.heap.size, 2, none⟩ = some (.int .i64 group)) := fun w' h => by simp [World.cell?, cc w' h]
  have k13 : Hid (∀ w', Below w1.heap.size w1 w' → w'.cell? ⟨w.heap.size, 13, none⟩ = some (.slice ba bn bc)) := fun w' h => by simp [World.cell?, cc w' h]
  have kop : Hid (∀ w', Below w1.heap.size w1 w' → w'.rangeAt w.heap.size 3 [.int .i64 ok, .string os, .string od, .int .i64 oa, .string oy, .int .i64 ol, .int .i64 oh]) := fun w' h j v hv => by
    have hj : j < 7 := (List.getElem?_eq_some_iff.1 hv).1
    simp only [World.cell?, cc w' h]
    match j, hj with
    | 0, _ => simpa using hv
    | 1, _ => simpa using hv
    | 2, _ => simpa using hv
    | 3, _ => simpa using hv
    | 4, _ => simpa using hv
    | 5, _ => simpa using hv
    | 6, _ => simpa using hv
  have kre : Hid (∀ w', Below w1.heap.size w1 w' → w'.rangeAt w.heap.size 10 [.int .i64 why, .int .i64 amount, .slice ra rn rc]) := fun w' h j v hv => by
    have hj : j < 3 := (List.getElem?_eq_some_iff.1 hv).1
    simp only [World.cell?, cc w' h]
    match j, hj with
    | 0, _ => simpa using hv
    | 1, _ => simpa using hv
    | 2, _ => simpa using hv
  have hle := ints_ok (ok1 1 ⟨by decide, by decide⟩)
  simp only [List.length_cons, List.length_nil] at hle
  have C60 : Hid (∀ w', Below w1.heap.size w1 w' → Calls Try.prog 60 #[.slice (some ⟨w'.heap.size, 0, none⟩) 1 1] (w'.alloc (.cells #[.int .i64 1] 2)) fun e w'' => ∃ v, e = .returned v ∧ w''.ownsRow w1.heap.size 5 1 v (intsB [1]).length (cellsOf (intsB [1])) ∧ Below w1.heap.size w1 w'') := fun w' h => by
    refine (ints_new w' [1] (by simp) (ok1 1 ⟨by decide, by decide⟩)).mono ?_
    rintro e w'' ⟨v, rfl, o, b⟩
    exact ⟨v, rfl, owns_mono' o h.size, h.trans (b.mono h.size)⟩
  have C59 : Hid (∀ w' v, Below w1.heap.size w1 w' → w'.ownsRow w1.heap.size 5 1 v (intsB [1]).length (cellsOf (intsB [1])) → Calls Try.prog 62 #[v, .slice ba bn bc] w' fun e w'' => ∃ v', e = .returned v' ∧ w''.ownsRow w1.heap.size 5 1 v' (intsB [1] ++ sz body).length (cellsOf (intsB [1] ++ sz body)) ∧ Below w1.heap.size w1 w'') := fun w' v h hv => by
    obtain ⟨va, vc, rfl, hS, hni, _⟩ := owned_seen hv (by unfold maxLen; omega)
    refine (bytes_any va _ vc _ ba bn bc body w' hS hni (hB.below (b1.trans (h.mono b1.size))) hnil (by omega)).mono ?_
    rintro e w'' ⟨v', rfl, o, b⟩
    exact ⟨v', rfl, by rw [List.length_append]; exact owns_mono' o h.size, h.trans (b.mono h.size)⟩
  have HW : Hid (_ = w1) := hw1
  have HB1 : Hid (Below w.heap.size w w1) := b1
  clear hw1 b1 hh hlt cc hn hg hz hle hB hnil
  go_enter Try.func40, Try.ntmps40
  go_wp2_with fail
  rw [HW.out]
  clear k0
  refine wp_region_held_drew (S := fun W => Below w1.heap.size w1 W) (by kernel_rfl) (Below.refl _ w1).drew (fun hHeld => ?_)
  refine take_run (i := 0) (oi := { dst := some 8, op := Go.Op.move (Go.Operand.tmp 3), type := 2, pos := "letter.go:102", after := #[], guard := none }) (v := .int .i64 1) rfl (by kernel_rfl) (by kernel_rfl) (by kernel_rfl) (fun _ _ _ h => h) (by rfl) ?_ hHeld ?_
  · (intro wq hSw; go_simp <;> with_reducible rfl)
  try simp only [Act.put, List.setIfInBounds_toArray, List.set_cons_zero, List.set_cons_succ]
  refine take_run (i := 3) (oi := { dst := some 11, op := Go.Op.fieldAddr 46 (Go.Operand.tmp 1) 5, type := 0, pos := "letter.go:102", after := #[], guard := none }) (v := .pointer (some ⟨w.heap.size, 13, none⟩)) rfl (by kernel_rfl) (by kernel_rfl) (by kernel_rfl) (fun _ _ _ h => h) (by rfl) ?_ hHeld ?_
  · (intro wq hSw; go_simp <;> with_reducible rfl)
  try simp only [Act.put, List.setIfInBounds_toArray, List.set_cons_zero, List.set_cons_succ]
  refine take_run (i := 4) (oi := { dst := some 12, op := Go.Op.load 41 (Go.Operand.tmp 11), type := 41, pos := "letter.go:102", after := #[{ on := 3, ground := Go.Ground.data }], guard := none }) (v := .slice ba bn bc) rfl (by kernel_rfl) (by kernel_rfl) (by kernel_rfl) (fun _ _ _ h => h) (by rfl) ?_ hHeld ?_
  · (intro wq hSw; have hk := k13.out wq hSw; go_simp <;> with_reducible rfl)
  try simp only [Act.put, List.setIfInBounds_toArray, List.set_cons_zero, List.set_cons_succ]
  refine take_val (i := 1) (oi := { dst := some 9, op := Go.Op.buildSlice 118 1 #[(0, Go.Operand.tmp 8)], type := 118, pos := "letter.go:102", after := #[{ on := 0, ground := Go.Ground.data }], guard := none }) (w' := w1.drew.alloc (.cells #[.int .i64 1] 2)) (.slice (some ⟨w1.drew.heap.size, 0, none⟩) 1 1) rfl (by kernel_rfl) (by rfl) (by go_simp <;> with_reducible rfl) (hHeld.alloc hHeld.size _) ?_
  try simp only [Act.put, List.setIfInBounds_toArray, List.set_cons_zero, List.set_cons_succ]
  refine take_call (i := 2) (oi := { dst := some 10, op := Go.Op.call { callee := Go.Callee.value (Go.Operand.func 60), args := #[Go.Operand.tmp 9], argTypes := #[118] }, type := 41, pos := "letter.go:102", after := #[{ on := 1, ground := Go.Ground.data }], guard := none }) rfl (by kernel_rfl) (by rfl) 60 _ (by go_simp <;> with_reducible rfl) ?_
  refine (C60.out _ hHeld).mono ?_
  rintro e w2 ⟨v2, rfl, o2, hb2⟩
  refine ⟨v2, rfl, hb2, ?_⟩
  try simp only [Act.put, List.setIfInBounds_toArray, List.set_cons_zero, List.set_cons_succ]
  refine take_call (i := 5) (oi := { dst := some 13, op := Go.Op.call { callee := Go.Callee.value (Go.Operand.func 62), args := #[Go.Operand.tmp 10, Go.Operand.tmp 12], argTypes := #[41, 41] }, type := 41, pos := "letter.go:102", after := #[{ on := 2, ground := Go.Ground.data }, { on := 4, ground := Go.Ground.data }, { on := 2, ground := Go.Ground.chain }], guard := none }) rfl (by kernel_rfl) (by rfl) 62 _ (by go_simp <;> with_reducible rfl) ?_
  refine (C59.out _ _ hb2 o2).mono ?_
  rintro e w3 ⟨v3, rfl, o3, hb3⟩
  refine ⟨v3, rfl, hb3, ?_⟩
  try simp only [Act.put, List.setIfInBounds_toArray, List.set_cons_zero, List.set_cons_succ]
  refine take_run (i := 6) (oi := { dst := some 2, op := Go.Op.assign (Go.Operand.tmp 13), type := 41, pos := "letter.go:102", after := #[{ on := 5, ground := Go.Ground.data }, { on := 5, ground := Go.Ground.chain }, { on := 0, ground := Go.Ground.phase }, { on := 1, ground := Go.Ground.phase }, { on := 2, ground := Go.Ground.phase }, { on := 3, ground := Go.Ground.phase }, { on := 4, ground := Go.Ground.phase }, { on := 5, ground := Go.Ground.phase }], guard := none }) (v := v3) rfl (by kernel_rfl) (by kernel_rfl) (by kernel_rfl) (fun _ _ _ h => h) (by rfl) ?_ hb3 ?_
  · (intro wq hSw; go_simp <;> with_reducible rfl)
  try simp only [Act.put, List.setIfInBounds_toArray, List.set_cons_zero, List.set_cons_succ]
  refine wpAnyH_done (by kernel_rfl) ?_ _
  have O3 : Hid _ := o3
  have B3 : Hid (Below w1.heap.size w1 w3) := hb3
  clear o3 hb3 o2 hb2 hHeld k1 k2 k13 kop kre C60 C59
  go_wp2
  go_ret
  exact ⟨_, rfl, owns_mono' O3.out HB1.out.size, HB1.out.trans (B3.out.mono HB1.out.size)⟩
end Go.Proofs.Ytaakdnbaljoehaa

namespace Go.Proofs.Ytaakdnbaljoehaa
open Go.RowKit Cod
attribute [local go_sem] Oper.semAt_some
set_option linter.unusedVariables false

/-- A letter. -/
structure LetD where
  kind : Int
  n : Int
  group : Int
  op : OpD
  why : Int
  amount : Int
  rows : List (ByteArray × Int)
  body : List (BitVec 8)
structure LetD.ok (d : LetD) : Prop where
  kind : i64ok d.kind
  n : i64ok d.n
  group : i64ok d.group
  op : d.op.ok
  why : i64ok d.why
  amount : i64ok d.amount
  rows : ∀ r ∈ d.rows, i64ok r.2
def LetD.v (d : LetD) (ra : Option Addr) (rc : Nat) (ba : Option Addr) (bc : Nat) : LetV := ⟨d.kind, d.n, d.group, d.op, d.why, d.amount, ra, d.rows.length, rc, ba, d.body.length, bc⟩
/-- Its lists lie in memory. -/
structure LetAt (w : World) (d : LetD) (ra : Option Addr) (rc : Nat) (ba : Option Addr) (bc : Nat) : Prop where
  rows : RowsAt w ra d.rows.length d.rows
  body : Seen w ba d.body.length d.body
  nil : ba = none → bc = 0
theorem LetAt.below {w w' : World} {d : LetD} {ra : Option Addr} {rc : Nat} {ba : Option Addr} {bc : Nat} (h : LetAt w d ra rc ba bc) (b : Below w.heap.size w w') : LetAt w' d ra rc ba bc := ⟨h.rows.below b, h.body.below b, h.nil⟩
theorem rows_nil (w : World) : RowsAt w none 0 [] := ⟨rfl, by simp, .inl rfl⟩
theorem seen_none (w : World) : Seen w none 0 [] := ⟨rfl, by simp, .inl rfl⟩
/-- A letter without what does not count. -/
def LetD.just (d : LetD) : LetD :=
  if d.kind = 1 then { d with n := 0, group := 0, op := OpD.zero, why := 0, amount := 0, rows := [] }
  else if d.kind = 4 then { d with group := 0, op := OpD.zero, why := 0, amount := 0, rows := [] }
  else if d.kind = 5 then { d with op := OpD.zero, why := 0, amount := 0, rows := [] }
  else if d.kind = 2 then { d with group := 0, why := 0, amount := 0, rows := [], body := [] }
  else if d.kind = 3 then { d with group := 0, op := OpD.zero, body := [] }
  else d
def replyL (why amount : Int) (rows : List (ByteArray × Int)) : List (BitVec 8) := enc (zig why) ++ enc (zig amount) ++ enc rows.length ++ rowsB rows
def LetD.fits (d : LetD) : Bool :=
  if d.kind = 2 then shortL [d.op.src, d.op.dst, d.op.key]
  else if d.kind = 3 then decide (d.rows.length ≤ 600) && shortL (d.rows.map (·.1))
  else decide (d.body.length ≤ 65536)
def LetD.bytes (d : LetD) : List (BitVec 8) :=
  if d.kind = 2 then intsB [2, d.n] ++ d.op.bytes
  else if d.kind = 3 then intsB [3, d.n] ++ replyL d.why d.amount d.rows
  else if d.kind = 4 then intsB [4, d.n] ++ sz d.body
  else if d.kind = 5 then intsB [5, d.n, d.group] ++ sz d.body
  else intsB [1] ++ sz d.body
/-- What Pack answers. -/
def LetD.pack (d : LetD) : List (BitVec 8) × Int :=
  if d.kind < 1 ∨ 5 < d.kind then ([], 1)
  else if d.fits = false then ([], 3)
  else if 1048576 < d.bytes.length then ([], 3)
  else (d.bytes, 0)
theorem just_kind (d : LetD) : d.just.kind = d.kind := by unfold LetD.just; repeat' (first | rfl | split)
theorem just_v {w : World} {d : LetD} {ra : Option Addr} {rc : Nat} {ba : Option Addr} {bc : Nat} (h1 : 1 ≤ d.kind) (h5 : d.kind ≤ 5) (h : LetAt w d ra rc ba bc) : ∃ ra' rc' ba' bc', (d.v ra rc ba bc).just = d.just.v ra' rc' ba' bc' ∧ LetAt w d.just ra' rc' ba' bc' := by
  obtain ⟨kind, n, group, op, why, amount, rows, body⟩ := d
  simp only at h1 h5
  rcases kinds h1 h5 with rfl | rfl | rfl | rfl | rfl
  · exact ⟨none, 0, ba, bc, rfl, rows_nil w, h.body, h.nil⟩
  · exact ⟨none, 0, none, 0, rfl, rows_nil w, seen_none w, fun _ => rfl⟩
  · exact ⟨ra, rc, none, 0, rfl, h.rows, seen_none w, fun _ => rfl⟩
  · exact ⟨none, 0, ba, bc, rfl, rows_nil w, h.body, h.nil⟩
  · exact ⟨none, 0, ba, bc, rfl, rows_nil w, h.body, h.nil⟩
theorem size_zero : (⟨#[]⟩ : ByteArray).size = 0 := rfl
theorem just_fits {d : LetD} (h1 : 1 ≤ d.kind) (h5 : d.kind ≤ 5) (ra : Option Addr) (rc : Nat) (ba : Option Addr) (bc : Nat) : (d.just.v ra rc ba bc).fits d.just.rows = d.fits := by
  obtain ⟨kind, n, group, op, why, amount, rows, body⟩ := d
  simp only at h1 h5
  rcases kinds h1 h5 with rfl | rfl | rfl | rfl | rfl <;> simp [LetD.just, LetD.v, LetV.fits, LetD.fits, shortL, OpD.zero, size_zero]
theorem short_mem {ts : List ByteArray} (h : shortL ts = true) {s : ByteArray} (hs : s ∈ ts) : s.size ≤ 65536 := by
  simp only [shortL, List.all_eq_true, decide_eq_true_eq] at h
  exact h s hs
theorem rowsSize_short : ∀ {rows : List (ByteArray × Int)}, shortL (rows.map (·.1)) = true → rowsSize rows ≤ rows.length * 65556
  | [], _ => by simp [rowsSize]
  | r :: rest, h => by
    have ih := rowsSize_short (rows := rest) (by simp only [shortL, List.map_cons, List.all_cons, Bool.and_eq_true] at h; exact h.2)
    have := short_mem h (s := r.1) (by simp)
    simp only [rowsSize, List.map_cons, List.sum_cons, List.length_cons] at ih ⊢
    omega
/-- form, of whatever letter that fits. -/
theorem form_any {w : World} {d : LetD} {ra : Option Addr} {rc : Nat} {ba : Option Addr} {bc : Nat} (h1 : 1 ≤ d.kind) (h5 : d.kind ≤ 5) (hd : d.ok) (hf : d.fits = true) (h : LetAt w d.just ra rc ba bc) :
    Calls Try.prog 40 #[.agg (d.just.v ra rc ba bc).cells] w fun e w' => ∃ v, e = .returned v ∧ w'.ownsRow w.heap.size 5 1 v d.bytes.length (cellsOf d.bytes) ∧ Below w.heap.size w w' := by
  obtain ⟨kind, n, group, op, why, amount, rows, body⟩ := d
  obtain ⟨k1, k2, k3, k4, k5, k6, k7⟩ := hd
  simp only at h1 h5 k1 k2 k3 k4 k5 k6 k7
  rcases kinds h1 h5 with rfl | rfl | rfl | rfl | rfl
  · have hz : body.length ≤ 65536 := by simpa [LetD.fits] using hf
    exact form_raft 0 0 OpD.zero 0 0 ra 0 rc ba body.length bc w ⟨by decide, by decide⟩ ⟨by decide, by decide⟩ body h.body h.nil hz
  · have hf' : shortL [op.src, op.dst, op.key] = true := hf
    exact form_call n 0 op 0 0 ra 0 rc ba 0 bc w k2 ⟨by decide, by decide⟩ k4 (by
      have a := short_mem hf' (s := op.src) (by simp)
      have b := short_mem hf' (s := op.dst) (by simp)
      have c := short_mem hf' (s := op.key) (by simp)
      unfold OpD.size; omega)
  · have hf' : (decide (rows.length ≤ 600) && shortL (rows.map (·.1))) = true := hf
    rw [Bool.and_eq_true] at hf'
    have hl : rows.length ≤ 600 := by simpa using hf'.1
    have hs := rowsSize_short hf'.2
    exact form_told n 0 OpD.zero why amount ra rows.length rc ba 0 bc w k2 ⟨by decide, by decide⟩ rows k5 k6 k7 h.rows (by omega)
  · have hz : body.length ≤ 65536 := by simpa [LetD.fits] using hf
    exact form_ask n 0 OpD.zero 0 0 ra 0 rc ba body.length bc w k2 ⟨by decide, by decide⟩ body h.body h.nil hz
  · have hz : body.length ≤ 65536 := by simpa [LetD.fits] using hf
    exact form_answer n group OpD.zero 0 0 ra 0 rc ba body.length bc w k2 k3 body h.body h.nil hz
theorem pack_arg {d : LetD} (h : d.kind < 1 ∨ 5 < d.kind) : d.pack = ([], 1) := if_pos h
theorem pack_fits {d : LetD} (h : ¬ (d.kind < 1 ∨ 5 < d.kind)) (hf : d.fits = false) : d.pack = ([], 3) := by rw [LetD.pack, if_neg h, if_pos hf]
theorem pack_size {d : LetD} (h : ¬ (d.kind < 1 ∨ 5 < d.kind)) (hf : d.fits = true) (hb : 1048576 < d.bytes.length) : d.pack = ([], 3) := by rw [LetD.pack, if_neg h, if_neg (by simp [hf]), if_pos hb]
theorem pack_ok {d : LetD} (h : ¬ (d.kind < 1 ∨ 5 < d.kind)) (hf : d.fits = true) (hb : ¬ 1048576 < d.bytes.length) : d.pack = (d.bytes, 0) := by rw [LetD.pack, if_neg h, if_neg (by simp [hf]), if_neg hb]
theorem owns_none (w : World) (base : Nat) : w.ownsRow base 5 1 (.slice none 0 0) 0 (cellsOf []) := ⟨rfl, .inl ⟨rfl, rfl⟩⟩
theorem row_form' {w : World} {base n : Nat} {v : Value} {xs : List Value} {t : TypeId} {s : Nat} (h : w.ownsRow base t s v n xs) : ∃ a c, v = .slice a n c ∧ (a = none → c = 0) ∧ n ≤ c := by
  rcases h.2 with ⟨rfl, rfl⟩ | ⟨g, c, cur, rfl, hb, hg, hnc, hcm, hcs, ht⟩
  · exact ⟨none, 0, rfl, fun _ => rfl, Nat.le_refl _⟩
  · exact ⟨_, c, rfl, fun e => (by cases e), hnc⟩
theorem v_cells (x : LetV) : ∃ C : List Value, x.cells = C.toArray ∧ C.length = 14 ∧ C[0]? = some (.int .i64 x.kind) ∧ C.toArray.all (·.oneCell') = true := ⟨_, rfl, rfl, rfl, by simp [Value.oneCell']⟩
set_option maxRecDepth 100000 in
set_option maxHeartbeats 1600000 in
/-- WHAT Pack DOES. -/
theorem pack_any {w : World} {d : LetD} {ra : Option Addr} {rc : Nat} {ba : Option Addr} {bc : Nat} (hd : d.ok) (h : LetAt w d ra rc ba bc) :
    Calls Try.prog 15 #[.agg (d.v ra rc ba bc).cells] w fun e w' => ∃ v, e = .returned (.tuple #[v, .int .i64 d.pack.2]) ∧ w'.ownsRow w.heap.size 5 1 v d.pack.1.length (cellsOf d.pack.1) ∧ Below w.heap.size w w' := by
  obtain ⟨C, eC, lC, c0, aC⟩ := v_cells (d.v ra rc ba bc)
  have HC : Hid _ := eC
  have bA := (Below.refl _ w).alloc (Nat.le_refl _) (.cells C.toArray 46)
  have hh := heap_alloc_new w (.cells C.toArray 46)
  have k0 : (w.alloc (.cells C.toArray 46)).cell? ⟨w.heap.size, 0, none⟩ = some (.int .i64 d.kind) := by
    rw [World.cell?_alloc_mark]; simpa [LetD.v] using c0
  have BA : Hid _ := bA
  have HH : Hid _ := hh
  have HZ : Hid ((Try.prog.info? 46).map (·.size) = some C.toArray.size) := by
    have e : (Try.prog.info? 46).map (·.size) = some 14 := by kernel_rfl
    show _ = _
    rw [e, List.size_toArray, lC]
  rw [eC]
  by_cases ha : d.kind < 1 ∨ 5 < d.kind
  · have HP : Hid _ := pack_arg ha
    rcases ha with ha | ha
    · clear eC lC c0 aC bA hh hd h
      go_enter Try.func15, Try.ntmps15
      go_wp2
      go_ret2
      exact ⟨_, by rw [HP.out]; rfl, by rw [HP.out]; exact owns_none _ _, BA.out⟩
    · have ha' : ¬ d.kind < 1 := by omega
      clear eC lC c0 aC bA hh hd h
      go_enter Try.func15, Try.ntmps15
      go_wp2
      go_ret2
      exact ⟨_, by rw [HP.out]; rfl, by rw [HP.out]; exact owns_none _ _, BA.out⟩
  · have h1 : 1 ≤ d.kind := by omega
    have h5 : d.kind ≤ 5 := by omega
    have n1 : ¬ d.kind < 1 := by omega
    have n5 : ¬ 5 < d.kind := by omega
    obtain ⟨ra', rc', ba', bc', ej, hj⟩ := just_v h1 h5 h
    obtain ⟨D, eD, lD, d0, aD⟩ := v_cells (d.just.v ra' rc' ba' bc')
    have C38 := counting_any (d.v ra rc ba bc) h1 h5 (w.alloc (.cells C.toArray 46))
    rw [ej, eC, eD] at C38
    have HJ : Hid (LetAt w d.just ra' rc' ba' bc') := hj
    have HA : Hid (¬ (d.kind < 1 ∨ 5 < d.kind)) := ha
    have H1 : Hid (1 ≤ d.kind) := h1
    have H5 : Hid (d.kind ≤ 5) := h5
    have HD : Hid d.ok := hd
    have ED : Hid (LetV.cells _ = D.toArray) := eD
    have HS : Hid (C.toArray.size = D.toArray.size) := by show _ = _; rw [List.size_toArray, List.size_toArray, lC, lD]
    have HZD : Hid ((Try.prog.info? 46).map (·.size) = some D.toArray.size) := by show _ = _; rw [← HS.out]; exact HZ.out
    have AD : Hid _ := aD
    clear eC lC c0 aC bA hh hd h h1 h5 ej hj eD lD d0 aD ha
    go_enter Try.func15, Try.ntmps15
    go_wp2_with (refine wpList_load_row rfl 46 (.tmp 1) rfl w.heap.size rfl 46 C.toArray (0, 0) _ HH.out Try.underlying46 rfl HZ.out ?_)
    refine C38.mono ?_
    rintro e w2 ⟨rfl, b2⟩
    have hb2 : w2.heap[w.heap.size]? = some (.cells C.toArray 46 (0, 0)) := (b2.block _ (by simp)).trans HH.out
    have HB2 : Hid _ := hb2
    have B2 : Hid (Below w.heap.size w w2) := BA.out.trans (b2.mono BA.out.size)
    have lt2 : w.heap.size < w2.heap.size := (Array.getElem?_eq_some_iff.1 hb2).1
    have B3 : Hid (Below w.heap.size w (w2.setRow w.heap.size D.toArray)) := ⟨B2.out.os, B2.out.tape, B2.out.output, by simpa [World.setRow] using B2.out.size, fun k hk => (setRow_other _ _ _ _ (by omega)).trans (B2.out.block k hk)⟩
    have S3 : Hid ((w2.setRow w.heap.size D.toArray).heap[w.heap.size]? = some (.cells D.toArray 46 (0, 0))) := setRow_heap w2 _ _ _ _ _ hb2
    clear C38 k0 hb2 b2 lt2
    obtain ⟨w3, e3⟩ : ∃ w3, w2.setRow w.heap.size D.toArray = w3 := ⟨_, rfl⟩
    rw [e3] at B3 S3
    have E3 : Hid (w2.setRow w.heap.size D.toArray = w3) := e3
    clear e3
    have C39 := fits_any (d.just.v ra' rc' ba' bc') d.just.rows w3 (HJ.out.below B3.out).rows
    rw [just_fits H1.out H5.out, ED.out] at C39
    go_wp2_with (first
      | (refine wpList_store_row rfl 46 (.tmp 1) (.tmp 14) rfl w.heap.size D.toArray rfl rfl 46 _ HB2.out HZD.out HS.out AD.out ?_; rw [E3.out])
      | (refine wpList_load_row rfl 46 (.tmp 1) rfl w.heap.size rfl 46 D.toArray (0, 0) _ S3.out Try.underlying46 rfl HZD.out ?_))
    refine C39.mono ?_
    rintro e w4 ⟨rfl, b4⟩
    have B4 : Hid (Below w.heap.size w w4) := B3.out.trans (b4.mono B3.out.size)
    have S4 : Hid (w4.heap[w.heap.size]? = some (.cells D.toArray 46 (0, 0))) := (b4.block _ (Array.getElem?_eq_some_iff.1 S3.out).1).trans S3.out
    clear C39 b4 E3 HB2
    cases hf : d.fits with
    | false =>
      have HP : Hid _ := pack_fits HA.out hf
      clear hf
      go_wp2
      go_ret2
      exact ⟨_, by rw [HP.out]; rfl, by rw [HP.out]; exact owns_none _ _, B4.out⟩
    | true =>
      have C40 := form_any H1.out H5.out HD.out hf (HJ.out.below B4.out)
      rw [ED.out] at C40
      have HF : Hid (d.fits = true) := hf
      clear hf
      go_wp2_with (refine wpList_load_row rfl 46 (.tmp 1) rfl w.heap.size rfl 46 D.toArray (0, 0) _ S4.out Try.underlying46 rfl HZD.out ?_)
      refine C40.mono ?_
      rintro e w5 ⟨v5, rfl, o5, b5⟩
      have B5 : Hid (Below w.heap.size w w5) := B4.out.trans (b5.mono B4.out.size)
      obtain ⟨a5, c5, rfl, hnil5, _⟩ := row_form' o5
      have O5 : Hid (w5.ownsRow w.heap.size 5 1 (.slice a5 d.bytes.length c5) d.bytes.length (cellsOf d.bytes)) := owns_mono' o5 B4.out.size
      clear o5 b5 C40 S4 S3
      by_cases hb : 1048576 < d.bytes.length
      · have HP : Hid _ := pack_size HA.out HF.out hb
        have hb' : (1048576 : Int) < (d.bytes.length : Int) := by omega
        clear hb
        go_wp2
        go_ret2
        exact ⟨_, by rw [HP.out]; rfl, by rw [HP.out]; exact owns_none _ _, B5.out⟩
      · have HP : Hid _ := pack_ok HA.out HF.out hb
        have hb' : ¬ (1048576 : Int) < (d.bytes.length : Int) := by omega
        clear hb
        go_wp2
        go_ret2
        exact ⟨_, by rw [HP.out]; rfl, by rw [HP.out]; exact O5.out, B5.out⟩
end Go.Proofs.Ytaakdnbaljoehaa
