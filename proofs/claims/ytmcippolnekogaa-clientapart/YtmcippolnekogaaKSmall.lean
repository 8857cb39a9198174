/- Package client: short, ints, Group. -/
import Derived.Test.YtmcippolnekogaaPuts
import Derived.Test.YtmcippolnekogaaSame
import Derived.Test.YtmcippolnekogaaSteps
namespace Go.Proofs.Ytmcippolnekogaa
open Go.RowKit Cod
attribute [local go_sem] Oper.semAt_some
set_option linter.unusedVariables false

/-- None of some texts is too long. -/
def shortL (ts : List ByteArray) : Bool := ts.all fun s => decide (s.size ≤ 65536)
theorem shortL_take {ts : List ByteArray} {k : Nat} (hk : k < ts.length) : shortL (ts.take (k + 1)) = (shortL (ts.take k) && decide (ts[k].size ≤ 65536)) := by
  rw [List.take_add_one, List.getElem?_eq_getElem hk]
  simp only [shortL, List.all_append, Option.toList_some, List.all_cons, List.all_nil, Bool.and_true]
theorem shortL_false {ts : List ByteArray} {k : Nat} (hk : k < ts.length) (h : 65536 < ts[k].size) : shortL ts = false := by
  simp only [shortL, List.all_eq_false]
  exact ⟨ts[k], List.getElem_mem hk, by simp; omega⟩
set_option maxHeartbeats 400000 in
theorem short_any (a : Option Addr) (cap : Nat) (ts : List ByteArray) (w : World) (hl : ts.length < 1000) (hc : ∀ j (hj : j < ts.length), ∃ b off, a = some ⟨b, off, none⟩ ∧ w.cell? ⟨b, off + j, none⟩ = some (.string ts[j])) :
    Calls Try.prog 57 #[.slice a ts.length cap] w fun e w' => e = .returned (.bool (shortL ts)) ∧ w' = w := by
  go_enter Try.func57, Try.ntmps57
  go_wp2
  go_loopw [7] (fun i wr => ∃ k : Nat, k ≤ ts.length ∧ i = .int .i64 k ∧ shortL (ts.take k) = true ∧ wr = w)
    (fun i _ => ts.length - (intOf i).toNat)
  case atStart => exact ⟨0, Nat.zero_le _, rfl, rfl, rfl⟩
  case round =>
    obtain ⟨k, hk, rfl, hs, rfl⟩ := hrel
    by_cases hlt : k < ts.length
    · obtain ⟨b, off, rfl, hck⟩ := hc k hlt
      have hT := shortL_take hlt
      have hF := shortL_false hlt
      generalize ts[k] = s at *
      by_cases hz : s.size ≤ 65536
      · have hz' : ¬ (65536 : Int) < (s.size : Int) := by omega
        have HT : Hid _ := hT
        clear hc hT hF
        go_wp2
        go_roundw
        case rel => exact ⟨k + 1, hlt, by go_num, by rw [HT.out, hs]; simp; exact hz, trivial⟩
        case measure => simp [intOf]; omega
      · have hz' : (65536 : Int) < (s.size : Int) := by omega
        have HF : Hid _ := hF (by omega)
        clear hc hT hF
        go_wp2
        go_ret
        exact ⟨by rw [HF.out]; rfl, rfl⟩
    · clear hc
      obtain rfl : k = ts.length := by omega
      rw [List.take_length] at hs
      have HS : Hid _ := hs
      clear hs
      go_wp2
      go_ret
      exact ⟨by rw [HS.out]; rfl, rfl⟩
/-- Numbers one behind the other. -/
def intsB (ns : List Int) : List (BitVec 8) := (ns.map fun n => enc (zig n)).flatten
theorem intsB_take {ns : List Int} {k : Nat} (hk : k < ns.length) : intsB (ns.take (k + 1)) = intsB (ns.take k) ++ enc (zig ns[k]) := by
  rw [List.take_add_one, List.getElem?_eq_getElem hk]
  simp only [intsB, List.map_append, List.flatten_append, Option.toList_some, List.map_cons, List.map_nil, List.flatten_cons, List.flatten_nil, List.append_nil]
theorem intsB_le : ∀ (ns : List Int), (∀ n ∈ ns, i64ok n) → (intsB ns).length ≤ 10 * ns.length
  | [], _ => by simp [intsB]
  | n :: rest, h => by
    have ih := intsB_le rest fun x hx => h x (List.mem_cons_of_mem _ hx)
    have e := enc_ten (zig_lt n (h n List.mem_cons_self))
    simp only [intsB, List.map_cons, List.flatten_cons, List.length_append, List.length_cons] at ih ⊢
    omega
set_option maxHeartbeats 400000 in
theorem ints_any (a : Option Addr) (cap : Nat) (ns : List Int) (w : World) (hl : ns.length < 1000) (hi : ∀ n ∈ ns, i64ok n) (hc : ∀ j (hj : j < ns.length), ∃ b off, a = some ⟨b, off, none⟩ ∧ w.cell? ⟨b, off + j, none⟩ = some (.int .i64 ns[j])) :
    Calls Try.prog 59 #[.slice a ns.length cap] w fun e w' => ∃ v, e = .returned v ∧ w'.ownsRow w.heap.size 5 1 v (intsB ns).length (cellsOf (intsB ns)) ∧ Below w.heap.size w w' := by
  have HI : Hid _ := hi
  have HC : Hid _ := hc
  clear hc hi
  go_enter Try.func59, Try.ntmps59
  go_wp2
  go_loopw [3, 8] (fun v i wr => ∃ k : Nat, k ≤ ns.length ∧ i = .int .i64 k ∧ wr.ownsRow w.heap.size 5 1 v (intsB (ns.take k)).length (cellsOf (intsB (ns.take k))) ∧ Below w.heap.size w wr)
    (fun _ i _ => ns.length - (intOf i).toNat)
  case atStart => exact ⟨0, Nat.zero_le _, rfl, ⟨rfl, .inl ⟨rfl, rfl⟩⟩, Below.refl _ _⟩
  case round =>
    obtain ⟨k, hk, rfl, ho, hb⟩ := hrel
    by_cases hlt : k < ns.length
    · obtain ⟨b, off, rfl, hck⟩ := HC.out k hlt
      have hcr : wr.cell? ⟨b, off + k, none⟩ = some (.int .i64 ns[k]) := by rw [hb.cell (p := ⟨b, off + k, none⟩) (World.block_lt_of_cell? w _ hck)]; exact hck
      have hT : Hid _ := intsB_take hlt
      have hN : Hid (i64ok ns[k]) := HI.out _ (List.getElem_mem hlt)
      have hLe : (intsB (ns.take k)).length ≤ 10 * ns.length := Nat.le_trans (intsB_le _ fun n hn => HI.out n (List.mem_of_mem_take hn)) (by simp; omega)
      obtain ⟨va, vc, rfl, hS, hnil, _⟩ := owned_seen ho (by unfold maxLen; omega)
      have HM : Hid ((intsB (ns.take k)).length + 10 ≤ 140737488355328) := by show _ ≤ _; omega
      have HS : Hid (Seen wr va (intsB (ns.take k)).length (intsB (ns.take k))) := hS
      have HN : Hid _ := hnil
      have HB : Hid _ := hb
      clear ho hb hck hLe hS hnil
      generalize intsB (ns.take k) = L at *
      generalize ns[k] = n at *
      go_wp2_with fail
      refine (int_any va L.length vc L n hN.out wr HS.out HN.out HM.out).mono ?_
      rintro e w1 ⟨v1, rfl, o1, b1⟩
      have O1 : Hid _ := o1
      have B1 : Hid _ := b1
      clear o1 b1 hcr
      go_wp2
      go_roundw
      case rel => exact ⟨k + 1, hlt, by go_num, by rw [hT.out, List.length_append]; exact owns_mono' O1.out HB.out.size, HB.out.trans (B1.out.mono HB.out.size)⟩
      case measure => simp [intOf]; omega
    · obtain rfl : k = ns.length := by omega
      rw [List.take_length] at ho
      go_wp2
      go_ret
      exact ⟨_, rfl, ho, hb⟩
def groupK (k : Int) : Int := if k = 6 ∨ k = 7 then 0 else -1
theorem opGroup_any (o : OpD) (w : World) : Calls Try.prog 12 #[o.val] w fun e w' => e = .returned (.int .i64 (groupK o.kind)) ∧ Below w.heap.size w w' := by
  obtain ⟨kind, src, dst, amount, key, slot, shard⟩ := o
  show Calls Try.prog 12 #[.agg #[.int .i64 kind, .string src, .string dst, .int .i64 amount, .string key, .int .i64 slot, .int .i64 shard]] w _
  have b1 : Hid (Below w.heap.size w (w.alloc (.cells #[.int .i64 kind, .string src, .string dst, .int .i64 amount, .string key, .int .i64 slot, .int .i64 shard] 23))) := (Below.refl _ w).alloc (Nat.le_refl _) _
  unfold groupK
  by_cases h6 : kind = 6
  · subst h6
    go_enter Try.func12, Try.ntmps12
    go_wp2
    go_ret
    exact ⟨rfl, b1.out⟩
  · have e6 : (kind == 6) = false := by simpa using h6
    by_cases h7 : kind = 7
    · subst h7
      go_enter Try.func12, Try.ntmps12
      go_wp2
      go_ret
      exact ⟨rfl, b1.out⟩
    · have e7 : (kind == 7) = false := by simpa using h7
      rw [if_neg (by rintro (h | h) <;> contradiction)]
      clear h6 h7
      go_enter Try.func12, Try.ntmps12
      go_wp2
      go_ret
      exact ⟨rfl, b1.out⟩
end Go.Proofs.Ytmcippolnekogaa
