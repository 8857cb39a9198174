/- DiskPlays: the law. -/
import Derived.Test.YtnpebdnfdbeiaaaRPair
import Derived.Test.YtnpebdnfdbeiaaaDKnown
import Derived.Test.YtnpebdnfdbeiaaaLent
namespace Go.Proofs.Ytnpebdnfdbeiaaa
open Go.RowKit
set_option linter.unusedVariables false

theorem PairM.grown {w0 w w' : World} {md : DM} {mr : RM} {n g : Nat} {s t : DS} (h : PairM w0 w md mr n s t) (gr : w.grownBy w' (some g)) (hg : w0.heap.size ≤ g) (h1 : ¬ md.own g) (h2 : ¬ mr.all g) : PairM w0 w' md mr n s t :=
  ⟨⟨h.d.d.same (fun k hk => gr.block k (h.d.d.lt hk) (fun e => h1 (Option.some.inj e ▸ hk))), h.d.f, h.d.b.grown gr h.d.b.size (fun k e => Option.some.inj e ▸ hg)⟩, h.r.same (fun k hk => gr.block k (h.r.lt hk) (fun e => h2 (Option.some.inj e ▸ hk))), h.f, h.a⟩
/-- What was lent, and the two disks that were loaded. -/
theorem plays_start {w w2 w3 w4 w5 : World} {g c n : Nat} {l : List (BitVec 8)} {md : DM} {mr : RM} (b2 : Below w.heap.size w w2) (o3 : w3.ownsRow w2.heap.size 5 1 (.slice (some ⟨g, 0, none⟩) (256 * n + 1) c) (256 * n + 1) (cellsOf (l ++ [167#8]))) (b3 : Below w2.heap.size w2 w3)
    (d4 : Dsk w4 md n (loadD l)) (b4 : Below w3.heap.size w3 w4) (f4 : ∀ k, md.own k → w3.heap.size ≤ k) (d5 : RDsk w5 mr n (loadD l)) (b5 : Below w4.heap.size w4 w5) (f5 : ∀ k, mr.all k → w4.heap.size ≤ k) :
    PairM w w5 md mr n (loadD l) (loadD l) ∧ w5.ownsRow w2.heap.size 5 1 (.slice (some ⟨g, 0, none⟩) (256 * n + 1) c) (256 * n + 1) (cellsOf (l ++ [167#8])) ∧ w.heap.size ≤ g ∧ ¬ md.own g ∧ ¬ mr.all g ∧ w2.heap.size ≤ w5.heap.size := by
  have hg := o3.lt g rfl
  have s1 := b2.size
  have s2 := b3.size
  have s3 := b4.size
  have s4 := b5.size
  have bb : Below w3.heap.size w3 w5 := b4.trans (b5.mono b4.size)
  refine ⟨⟨⟨d4.below b5, fun k hk => by have := f4 k hk; omega, (b2.trans (b3.mono b2.size)).trans (bb.mono (by omega))⟩, d5, fun k hk => by have := f5 k hk; omega, fun k hk hr => by have := d4.lt hk; have := f5 k hr; omega⟩, owns_same o3 (fun k e => bb.block k (o3.lt k e).2), by omega, fun e => by have := f4 g e; omega, fun e => by have := f5 g e; omega, by omega⟩

set_option maxRecDepth 100000 in
set_option maxHeartbeats 12800000 in
theorem plays_none_ok (sn : Nat) (hs1 : 1 ≤ sn) (hs2 : sn ≤ 4096) (ia : Option Addr) (icap il : Nat) (l : List (BitVec 8)) (a : Option Addr) (len cap : Nat) (w : World) (hno : ¬ (il % 256 = 0 ∧ 1 ≤ il / 256 ∧ il / 256 ≤ 4096)) (hs : Seen w ia il l) (hnil : ia = none → icap = 0) (hc : il ≤ icap) (hcm : icap ≤ 140737488351232) :
    Calls Try.prog 3 #[.int .i64 (sn : Int), .slice ia il icap, .slice a len cap] w fun e w' => e = .returned (.bool true) ∧ Below w.heap.size w w' := by
  have HS : Hid (Seen w ia il l) := hs
  have HNil : Hid (ia = none → icap = 0) := hnil
  have HLen : Hid (il ≤ icap ∧ icap ≤ 140737488351232 ∧ l.length = il) := ⟨hc, hcm, hs.1.symm⟩
  have HNo : Hid (¬ (il % 256 = 0 ∧ 1 ≤ il / 256 ∧ il / 256 ≤ 4096)) := hno
  have HMx : Hid (il ≤ maxLen) := by show il ≤ maxLen; unfold maxLen; omega
  clear hs hnil hc hcm hno
  go_enter Try.func3, Try.ntmps3
  go_wp2_with fail
  refine (new_any sn w hs1 hs2).mono ?_
  rintro e w1 ⟨mn, rfl, _, b1, _⟩
  have B1 : Hid (Below w.heap.size w w1) := b1
  obtain ⟨Dn, eDn⟩ : ∃ D, mn.D = D := ⟨_, rfl⟩
  rw [eDn]
  clear b1 eDn
  go_wp2_with fail
  refine (refNew_any sn w1 hs1 hs2).mono ?_
  rintro e w2 ⟨Rn, rfl, b2⟩
  have B2 : Hid (Below w.heap.size w w2) := B1.out.trans (b2.mono B1.out.size)
  clear b2 B1
  go_wp2_with fail
  refine (lent_any ia (il) icap l w2 (HS.out.below B2.out) HNil.out (by have := HLen.out; omega)).mono ?_
  rintro e w3 ⟨g, c, rfl, o3, b3⟩
  have O3 : Hid (w3.ownsRow w2.heap.size 5 1 (.slice (some ⟨g, 0, none⟩) (il + 1) c) (il + 1) (cellsOf (l ++ [167#8])) ∧ Below w2.heap.size w2 w3) := ⟨o3, b3⟩
  clear o3 b3
  go_wp2_with fail
  refine (load_no (some ⟨g, 0, none⟩) il c w3 HMx.out HNo.out).mono ?_
  rintro e w4 ⟨rfl, rfl⟩
  go_wp2_with fail
  refine (refLoad_no ia il icap w4 HMx.out HNo.out).mono ?_
  rintro e w5 ⟨rfl, rfl⟩
  go_wp2_with fail
  refine (kept_any g c il l ia icap w5 w2.heap.size O3.out.1 ((HS.out.below B2.out).below O3.out.2) (by have := HLen.out; omega)).mono ?_
  rintro e w6 ⟨rfl, rfl⟩
  go_wp2_with fail
  refine (spoil_row w2.heap.size _ _ _ w6 (owns_less O3.out.1 HLen.out.2.2) O3.out.2.size (by have := HLen.out; omega)).mono ?_
  rintro e w7 ⟨⟨u, rfl⟩, g7⟩
  have B7 : Hid (Below w.heap.size w w7) := (B2.out.trans (O3.out.2.mono B2.out.size)).grown g7 (B2.out.trans (O3.out.2.mono B2.out.size)).size (fun k e => Nat.le_trans B2.out.size (O3.out.1.lt k e).1)
  clear g7 O3 B2 HS HNil
  go_wp2_with fail
  refine (known_any _).mono ?_
  rintro e y ⟨rfl, b⟩
  have B : Hid (Below w.heap.size w y) := B7.out.trans (b.mono B7.out.size)
  clear b
  go_wp2
  go_ret
  exact ⟨rfl, B.out⟩

set_option maxRecDepth 100000 in
set_option maxHeartbeats 12800000 in
theorem plays_none_no (sec : Int) (hsn : ¬ (1 ≤ sec ∧ sec ≤ 4096)) (ia : Option Addr) (icap il : Nat) (l : List (BitVec 8)) (a : Option Addr) (len cap : Nat) (w : World) (hno : ¬ (il % 256 = 0 ∧ 1 ≤ il / 256 ∧ il / 256 ≤ 4096)) (hs : Seen w ia il l) (hnil : ia = none → icap = 0) (hc : il ≤ icap) (hcm : icap ≤ 140737488351232) :
    Calls Try.prog 3 #[.int .i64 sec, .slice ia il icap, .slice a len cap] w fun e w' => e = .returned (.bool true) ∧ Below w.heap.size w w' := by
  have HS : Hid (Seen w ia il l) := hs
  have HNil : Hid (ia = none → icap = 0) := hnil
  have HLen : Hid (il ≤ icap ∧ icap ≤ 140737488351232 ∧ l.length = il) := ⟨hc, hcm, hs.1.symm⟩
  have HNo : Hid (¬ (il % 256 = 0 ∧ 1 ≤ il / 256 ∧ il / 256 ≤ 4096)) := hno
  have HMx : Hid (il ≤ maxLen) := by show il ≤ maxLen; unfold maxLen; omega
  clear hs hnil hc hcm hno
  go_enter Try.func3, Try.ntmps3
  go_wp2_with fail
  refine (new_no sec w hsn).mono ?_
  rintro e w1 ⟨rfl, rfl⟩
  go_wp2_with fail
  refine (refNew_no sec w1 hsn).mono ?_
  rintro e w2 ⟨rfl, rfl⟩
  have B2 : Hid (Below w2.heap.size w2 w2) := Below.refl _ _
  go_wp2_with fail
  refine (lent_any ia (il) icap l w2 (HS.out.below B2.out) HNil.out (by have := HLen.out; omega)).mono ?_
  rintro e w3 ⟨g, c, rfl, o3, b3⟩
  have O3 : Hid (w3.ownsRow w2.heap.size 5 1 (.slice (some ⟨g, 0, none⟩) (il + 1) c) (il + 1) (cellsOf (l ++ [167#8])) ∧ Below w2.heap.size w2 w3) := ⟨o3, b3⟩
  clear o3 b3
  go_wp2_with fail
  refine (load_no (some ⟨g, 0, none⟩) il c w3 HMx.out HNo.out).mono ?_
  rintro e w4 ⟨rfl, rfl⟩
  go_wp2_with fail
  refine (refLoad_no ia il icap w4 HMx.out HNo.out).mono ?_
  rintro e w5 ⟨rfl, rfl⟩
  go_wp2_with fail
  refine (kept_any g c il l ia icap w5 w2.heap.size O3.out.1 ((HS.out.below B2.out).below O3.out.2) (by have := HLen.out; omega)).mono ?_
  rintro e w6 ⟨rfl, rfl⟩
  go_wp2_with fail
  refine (spoil_row w2.heap.size _ _ _ w6 (owns_less O3.out.1 HLen.out.2.2) O3.out.2.size (by have := HLen.out; omega)).mono ?_
  rintro e w7 ⟨⟨u, rfl⟩, g7⟩
  have B7 : Hid (Below w2.heap.size w2 w7) := (B2.out.trans (O3.out.2.mono B2.out.size)).grown g7 (B2.out.trans (O3.out.2.mono B2.out.size)).size (fun k e => Nat.le_trans B2.out.size (O3.out.1.lt k e).1)
  clear g7 O3 B2 HS HNil
  go_wp2_with fail
  refine (known_any _).mono ?_
  rintro e y ⟨rfl, b⟩
  have B : Hid (Below w2.heap.size w2 y) := B7.out.trans (b.mono B7.out.size)
  clear b
  go_wp2
  go_ret
  exact ⟨rfl, B.out⟩
end Go.Proofs.Ytnpebdnfdbeiaaa
