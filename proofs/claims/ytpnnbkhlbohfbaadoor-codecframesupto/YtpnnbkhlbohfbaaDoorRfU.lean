/- The reference's Unmsg. -/
import Derived.Test.YtpnnbkhlbohfbaaDoorK1
import Derived.Test.YtpnnbkhlbohfbaaDoorUnmsg3
namespace Go.Proofs.YtpnnbkhlbohfbaaDoor
open Go.RowKit Cod
set_option linter.unusedVariables false

/-- What is there while a message is read: the result, the Reader, the message in its box. -/
structure UmF (w0 w : World) (R A M : Nat) (l : List (BitVec 8)) (at_ why : Nat) (cs : Array Value) : Prop where
  rdr : RRd w R A M l at_ why
  res : w.heap[w0.heap.size]? = some (.cells zeroM 29 (0, 0))
  box : w.heap[M]? = some (.cells cs 29 (0, 0))
  below : Below w0.heap.size w0 w
  lR : w0.heap.size < R
  lM : R < M
theorem RRd.far {w w' : World} {R A B : Nat} {l : List (BitVec 8)} {at_ why : Nat} (h : RRd w R A B l at_ why) (k : ∀ g, g = R ∨ g < B → g < w.heap.size → w'.heap[g]? = w.heap[g]?) : RRd w' R A B l at_ why :=
  h.since (k R (.inl rfl) h.lt) (fun g hg hs => k g (.inr hg) hs)
section
variable {w0 w w' : World} {R A M : Nat} {l : List (BitVec 8)} {at_ why at' why' : Nat} {cs : Array Value}
theorem UmF.call (h : UmF w0 w R A M l at_ why cs) (hr : RRd w' R A M l at' why') (hg : w.grownBy w' (some R)) : UmF w0 w' R A M l at' why' cs := by
  have l1 := h.lR
  have l2 := h.lM
  have s1 := (Array.getElem?_eq_some_iff.1 h.res).1
  have s2 := (Array.getElem?_eq_some_iff.1 h.box).1
  exact ⟨hr, by rw [hg.block _ s1 (fun e => by have := Option.some.inj e; omega)]; exact h.res, by rw [hg.block _ s2 (fun e => by have := Option.some.inj e; omega)]; exact h.box, below_grown h.below hg h.below.size (by omega), l1, l2⟩
theorem UmF.grow {row : Option Nat} (h : UmF w0 w R A M l at_ why cs) (hg : w.grownBy w' row) (hr : ∀ g, row = some g → M < g) : UmF w0 w' R A M l at_ why cs := by
  have l1 := h.lR
  have l2 := h.lM
  have s1 := (Array.getElem?_eq_some_iff.1 h.res).1
  have s2 := (Array.getElem?_eq_some_iff.1 h.box).1
  exact ⟨h.rdr.far (fun g hg1 hs => hg.block _ hs (fun e => by have := hr _ e.symm; omega)), by rw [hg.block _ s1 (fun e => by have := hr _ e.symm; omega)]; exact h.res, by rw [hg.block _ s2 (fun e => by have := hr _ e.symm; omega)]; exact h.box, h.below.grown hg h.below.size (fun k e => by have := hr k e; omega), l1, l2⟩
theorem UmF.alloc (h : UmF w0 w R A M l at_ why cs) (o : Obj) : UmF w0 (w.alloc o) R A M l at_ why cs :=
  h.grow (row := none) (grown_alloc (grown_refl w none) o) (fun g e => by cases e)
theorem UmF.store (h : UmF w0 w R A M l at_ why cs) (i : Nat) (v : Value) : UmF w0 (w.setCell ⟨M, i, none⟩ v) R A M l at_ why (cs.setIfInBounds i v) := by
  have l1 := h.lR
  have l2 := h.lM
  exact ⟨h.rdr.far (fun g hg1 _ => Below.heap_setCell _ _ _ _ (by show g ≠ M; omega)), by rw [Below.heap_setCell _ _ _ _ (by show ¬ _; simp; omega)]; exact h.res, set_block h.box i v, h.below.setCell (by show w0.heap.size ≤ M; omega) v, l1, l2⟩
theorem UmF.drewN (h : UmF w0 w R A M l at_ why cs) (n : Nat) : UmF w0 (w.drewN n) R A M l at_ why cs :=
  ⟨h.rdr, h.res, h.box, below_drewN' h.below n, h.lR, h.lM⟩
theorem UmF.cell (h : UmF w0 w R A M l at_ why cs) (i : Nat) : w.cell? ⟨M, i, none⟩ = cs[i]? ∧ w.frozen? ⟨M, i, none⟩ = false := by
  constructor
  · simp [World.cell?, h.box]
  · simp [World.frozen?, h.box]
end
/-- Behind an error nothing more is read. -/
theorem rEnts_stuck (l : List (BitVec 8)) (a y k : Nat) (ha : a ≤ l.length) (h : (rEnts l a y k).2.2 ≠ 0) : ∀ m, (rEnts l a y (k + m)).2.2 = (rEnts l a y k).2.2
  | 0 => rfl
  | m + 1 => by
    have ih := rEnts_stuck l a y k ha h m
    have g := rEnts_goes l a y ha (k + m)
    have e : Goes l (rEnts l a y (k + m)).2.1 (rEnts l a y (k + m)).2.2 (rEnts l a y (k + m + 1)).2.1 (rEnts l a y (k + m + 1)).2.2 := rEn_goes l _ _ g.2.1
    rw [show k + (m + 1) = k + m + 1 from rfl, (e.2.2 (by rw [ih]; exact h)).2, ih]
theorem rEnd_err {l : List (BitVec 8)} {a y : Nat} (h : y ≠ 0) : rEnd l a y = y := by unfold rEnd; rw [if_pos h]
theorem end_stop {l : List (BitVec 8)} {a y : Nat} (ha : a ≤ l.length) (hy : y ≠ 0) : rEnd l (rS l a y).2.1 (rS l a y).2.2 = y := by
  have e := ((rS_goes l a y ha).2.2 hy).2
  rw [e]
  exact rEnd_err hy
/-- However the entries end: the end's error. -/
theorem end_same (l : List (BitVec 8)) (p y n k : Nat) (hN : p ≤ l.length) (hk : k ≤ n) (h : k = n ∨ (rEnts l p y k).2.2 ≠ 0) :
    rEnd l (rS l (rEnts l p y k).2.1 (rEnts l p y k).2.2).2.1 (rS l (rEnts l p y k).2.1 (rEnts l p y k).2.2).2.2 = rEnd l (rS l (rEnts l p y n).2.1 (rEnts l p y n).2.2).2.1 (rS l (rEnts l p y n).2.1 (rEnts l p y n).2.2).2.2 ∧ (rEnd l (rS l (rEnts l p y n).2.1 (rEnts l p y n).2.2).2.1 (rS l (rEnts l p y n).2.1 (rEnts l p y n).2.2).2.2 = 0 → k = n) := by
  by_cases hy : (rEnts l p y k).2.2 = 0
  · have hk2 : k = n := h.resolve_right (fun e => e hy)
    subst hk2
    exact ⟨rfl, fun _ => rfl⟩
  · have e1 := end_stop (rEnts_goes l p y hN k).2.1 hy
    have st := rEnts_stuck l p y k hN hy (n - k)
    rw [show k + (n - k) = n by omega] at st
    have e2 := end_stop (rEnts_goes l p y hN n).2.1 (y := (rEnts l p y n).2.2) (by rw [st]; exact hy)
    rw [e1, e2, st]
    exact ⟨rfl, fun e => absurd e hy⟩
theorem unEnd_eq (l : List (BitVec 8)) : unEnd l = rEnd l (rS l (rEnts l (unN l).2.1 (unN l).2.2 (unN l).1).2.1 (rEnts l (unN l).2.1 (unN l).2.2 (unN l).1).2.2).2.1 (rS l (rEnts l (unN l).2.1 (unN l).2.2 (unN l).1).2.1 (rEnts l (unN l).2.1 (unN l).2.2 (unN l).1).2.2).2.2 := by rw [unEnd, unD, unE]
theorem unN_le (l : List (BitVec 8)) : (unN l).2.1 ≤ l.length := by
  have g := rHd_goes l 0 0 (Nat.zero_le _)
  unfold unN
  exact (rC_goes l 4096 _ _ g.2.1).2.1
set_option maxRecDepth 100000 in
set_option maxHeartbeats 6400000 in
theorem runmsg_any (a : Option Addr) (len cap : Nat) (l : List (BitVec 8)) (w : World) (hS : Seen w a len l) (hn : a = none → cap = 0) (hm : len ≤ 140737488355328) :
    Calls Tryd.prog 8 #[.slice a len cap] w fun e w' => UnTold w w' l e ∧ Below w.heap.size w w' := by
  obtain rfl : len = l.length := hS.1
  have hz : Hid ((w.alloc (.cells #[.int .i64 0, .int .i64 0, .int .i64 0, .int .i64 0, .int .i64 0, .int .i64 0, .int .i64 0, .int .i64 0, .bool false, .slice none 0 0, .slice none 0 0] 29)).heap[w.heap.size]? = some (.cells #[.int .i64 0, .int .i64 0, .int .i64 0, .int .i64 0, .int .i64 0, .int .i64 0, .int .i64 0, .int .i64 0, .bool false, .slice none 0 0, .slice none 0 0] 29 (0, 0))) := heap_alloc_new w _
  by_cases g1 : (1048576 : Int) < (l.length : Int)
  · have HU : Hid (1048576 < l.length) := by show _ < _; omega
    have BZ : Hid (Below w.heap.size w ((w.alloc (.cells #[.int .i64 0, .int .i64 0, .int .i64 0, .int .i64 0, .int .i64 0, .int .i64 0, .int .i64 0, .int .i64 0, .bool false, .slice none 0 0, .slice none 0 0] 29)).setRow w.heap.size #[.int .i64 0, .int .i64 0, .int .i64 0, .int .i64 0, .int .i64 0, .int .i64 0, .int .i64 0, .int .i64 0, .bool false, .slice none 0 0, .slice none 0 0])) := Below.row ((Below.refl _ w).alloc (Nat.le_refl _) _) (Nat.le_refl _)
    have hy : Hid (((w.alloc (.cells #[.int .i64 0, .int .i64 0, .int .i64 0, .int .i64 0, .int .i64 0, .int .i64 0, .int .i64 0, .int .i64 0, .bool false, .slice none 0 0, .slice none 0 0] 29)).setRow w.heap.size #[.int .i64 0, .int .i64 0, .int .i64 0, .int .i64 0, .int .i64 0, .int .i64 0, .int .i64 0, .int .i64 0, .bool false, .slice none 0 0, .slice none 0 0]).heap[w.heap.size]? = some (.cells #[.int .i64 0, .int .i64 0, .int .i64 0, .int .i64 0, .int .i64 0, .int .i64 0, .int .i64 0, .int .i64 0, .bool false, .slice none 0 0, .slice none 0 0] 29 (0, 0))) := setRow_heap _ _ _ _ _ _ hz.out
    clear hS hn hm
    go_enter Tryd.func8, Tryd.ntmps8
    go_wp2_with (first
      | (refine wpList_store_row rfl 29 (.tmp 2) (.tmp 18) rfl w.heap.size #[.int .i64 0, .int .i64 0, .int .i64 0, .int .i64 0, .int .i64 0, .int .i64 0, .int .i64 0, .int .i64 0, .bool false, .slice none 0 0, .slice none 0 0] rfl rfl 29 _ hz.out (by kernel_rfl) rfl (by simp [Value.oneCell']) ?_))
    exact bodyPost_ret (results_msg rfl _ _ w.heap.size 29 _ _ _ rfl hy.out Tryd.underlying29 rfl (by kernel_rfl)) rfl ⟨.inl ⟨HU.out, rfl⟩, BZ.out⟩
  have bA : Below w.heap.size w (w.alloc (.cells #[.int .i64 0, .int .i64 0, .int .i64 0, .int .i64 0, .int .i64 0, .int .i64 0, .int .i64 0, .int .i64 0, .bool false, .slice none 0 0, .slice none 0 0] 29)) := (Below.refl _ w).alloc (Nat.le_refl _) _
  have HO := refOf_any a l.length cap l (w.alloc (.cells #[.int .i64 0, .int .i64 0, .int .i64 0, .int .i64 0, .int .i64 0, .int .i64 0, .int .i64 0, .int .i64 0, .bool false, .slice none 0 0, .slice none 0 0] 29)) (hS.below bA) hn hm
  rw [World.size_alloc] at HO
  have HL : Hid (l.length ≤ 1048576) := by show _ ≤ _; omega
  have BA : Hid (Below w.heap.size w (w.alloc (.cells #[.int .i64 0, .int .i64 0, .int .i64 0, .int .i64 0, .int .i64 0, .int .i64 0, .int .i64 0, .int .i64 0, .bool false, .slice none 0 0, .slice none 0 0] 29))) := bA
  clear hS hn hm bA
  have C1 : Hid (∀ A M R w', RRd w' R A M l 0 0 → Calls Tryd.prog 27 #[.pointer (some ⟨R, 0, none⟩)] w' fun e w'' => e = .returned (.int .i64 (zag (rHd1 l 0 0).1)) ∧ RRd w'' R A M l (rHd1 l 0 0).2.1 (rHd1 l 0 0).2.2 ∧ w'.grownBy w'' (some R)) := fun A M R w' h => by rw [rHd1]; exact refRInt_any R A M l _ _ w' h
  have C2 : Hid (∀ A M R w', RRd w' R A M l (rHd1 l 0 0).2.1 (rHd1 l 0 0).2.2 → Calls Tryd.prog 27 #[.pointer (some ⟨R, 0, none⟩)] w' fun e w'' => e = .returned (.int .i64 (zag (rHd2 l 0 0).1)) ∧ RRd w'' R A M l (rHd2 l 0 0).2.1 (rHd2 l 0 0).2.2 ∧ w'.grownBy w'' (some R)) := fun A M R w' h => by rw [rHd2]; exact refRInt_any R A M l _ _ w' h
  have C3 : Hid (∀ A M R w', RRd w' R A M l (rHd2 l 0 0).2.1 (rHd2 l 0 0).2.2 → Calls Tryd.prog 27 #[.pointer (some ⟨R, 0, none⟩)] w' fun e w'' => e = .returned (.int .i64 (zag (rHd3 l 0 0).1)) ∧ RRd w'' R A M l (rHd3 l 0 0).2.1 (rHd3 l 0 0).2.2 ∧ w'.grownBy w'' (some R)) := fun A M R w' h => by rw [rHd3]; exact refRInt_any R A M l _ _ w' h
  have C4 : Hid (∀ A M R w', RRd w' R A M l (rHd3 l 0 0).2.1 (rHd3 l 0 0).2.2 → Calls Tryd.prog 27 #[.pointer (some ⟨R, 0, none⟩)] w' fun e w'' => e = .returned (.int .i64 (zag (rHd4 l 0 0).1)) ∧ RRd w'' R A M l (rHd4 l 0 0).2.1 (rHd4 l 0 0).2.2 ∧ w'.grownBy w'' (some R)) := fun A M R w' h => by rw [rHd4]; exact refRInt_any R A M l _ _ w' h
  have C5 : Hid (∀ A M R w', RRd w' R A M l (rHd4 l 0 0).2.1 (rHd4 l 0 0).2.2 → Calls Tryd.prog 27 #[.pointer (some ⟨R, 0, none⟩)] w' fun e w'' => e = .returned (.int .i64 (zag (rHd5 l 0 0).1)) ∧ RRd w'' R A M l (rHd5 l 0 0).2.1 (rHd5 l 0 0).2.2 ∧ w'.grownBy w'' (some R)) := fun A M R w' h => by rw [rHd5]; exact refRInt_any R A M l _ _ w' h
  have C6 : Hid (∀ A M R w', RRd w' R A M l (rHd5 l 0 0).2.1 (rHd5 l 0 0).2.2 → Calls Tryd.prog 27 #[.pointer (some ⟨R, 0, none⟩)] w' fun e w'' => e = .returned (.int .i64 (zag (rHd6 l 0 0).1)) ∧ RRd w'' R A M l (rHd6 l 0 0).2.1 (rHd6 l 0 0).2.2 ∧ w'.grownBy w'' (some R)) := fun A M R w' h => by rw [rHd6]; exact refRInt_any R A M l _ _ w' h
  have C7 : Hid (∀ A M R w', RRd w' R A M l (rHd6 l 0 0).2.1 (rHd6 l 0 0).2.2 → Calls Tryd.prog 27 #[.pointer (some ⟨R, 0, none⟩)] w' fun e w'' => e = .returned (.int .i64 (zag (rHd7 l 0 0).1)) ∧ RRd w'' R A M l (rHd7 l 0 0).2.1 (rHd7 l 0 0).2.2 ∧ w'.grownBy w'' (some R)) := fun A M R w' h => by rw [rHd7]; exact refRInt_any R A M l _ _ w' h
  have C8 : Hid (∀ A M R w', RRd w' R A M l (rHd7 l 0 0).2.1 (rHd7 l 0 0).2.2 → Calls Tryd.prog 27 #[.pointer (some ⟨R, 0, none⟩)] w' fun e w'' => e = .returned (.int .i64 (zag (rHd8 l 0 0).1)) ∧ RRd w'' R A M l (rHd8 l 0 0).2.1 (rHd8 l 0 0).2.2 ∧ w'.grownBy w'' (some R)) := fun A M R w' h => by rw [rHd8]; exact refRInt_any R A M l _ _ w' h
  have C9 : Hid (∀ A M R w', RRd w' R A M l (rHd8 l 0 0).2.1 (rHd8 l 0 0).2.2 → Calls Tryd.prog 28 #[.pointer (some ⟨R, 0, none⟩)] w' fun e w'' => e = .returned (.bool (rHd9 l 0 0).1) ∧ RRd w'' R A M l (rHd9 l 0 0).2.1 (rHd9 l 0 0).2.2 ∧ w'.grownBy w'' (some R)) := fun A M R w' h => by rw [rHd9]; exact refRBool_any R A M l _ _ w' h
  have CN : Hid (∀ A M R w', RRd w' R A M l (rHd9 l 0 0).2.1 (rHd9 l 0 0).2.2 → Calls Tryd.prog 29 #[.pointer (some ⟨R, 0, none⟩), .int .i64 4096] w' fun e w'' => e = .returned (.int .i64 (unN l).1) ∧ RRd w'' R A M l (unN l).2.1 (unN l).2.2 ∧ w'.grownBy w'' (some R)) := fun A M R w' h => by rw [unN]; exact refRCount_any R A M l 4096 (by omega) (by omega) _ _ w' h
  have hn4 : (unN l).1 ≤ 4096 := by rw [unN]; exact rC_most l 4096 _ _ (by omega)
  have HES : Hid (∀ k, k ≤ (unN l).1 → k = (unN l).1 ∨ (rEnts l (unN l).2.1 (unN l).2.2 k).2.2 ≠ 0 → rEnd l (rS l (rEnts l (unN l).2.1 (unN l).2.2 k).2.1 (rEnts l (unN l).2.1 (unN l).2.2 k).2.2).2.1 (rS l (rEnts l (unN l).2.1 (unN l).2.2 k).2.1 (rEnts l (unN l).2.1 (unN l).2.2 k).2.2).2.2 = unEnd l ∧ (unEnd l = 0 → k = (unN l).1)) := fun k hk h => by rw [unEnd_eq]; exact end_same l _ _ _ k (unN_le l) hk h
  have HUE : Hid (unE l = rEnts l (unN l).2.1 (unN l).2.2 (unN l).1 ∧ unD l = rS l (unE l).2.1 (unE l).2.2) := ⟨by rw [unE], by rw [unD]⟩
  have HHD : Hid (rHdV l 0 0 = ⟨zag (rHd1 l 0 0).1, zag (rHd2 l 0 0).1, zag (rHd3 l 0 0).1, zag (rHd4 l 0 0).1, zag (rHd5 l 0 0).1, zag (rHd6 l 0 0).1, zag (rHd7 l 0 0).1, zag (rHd8 l 0 0).1, (rHd9 l 0 0).1⟩) := by show _ = _; rw [rHdV]
  generalize zag (rHd1 l 0 0).1 = h1 at *
  generalize (rHd1 l 0 0).2.1 = p1 at *
  generalize (rHd1 l 0 0).2.2 = y1 at *
  generalize zag (rHd2 l 0 0).1 = h2 at *
  generalize (rHd2 l 0 0).2.1 = p2 at *
  generalize (rHd2 l 0 0).2.2 = y2 at *
  generalize zag (rHd3 l 0 0).1 = h3 at *
  generalize (rHd3 l 0 0).2.1 = p3 at *
  generalize (rHd3 l 0 0).2.2 = y3 at *
  generalize zag (rHd4 l 0 0).1 = h4 at *
  generalize (rHd4 l 0 0).2.1 = p4 at *
  generalize (rHd4 l 0 0).2.2 = y4 at *
  generalize zag (rHd5 l 0 0).1 = h5 at *
  generalize (rHd5 l 0 0).2.1 = p5 at *
  generalize (rHd5 l 0 0).2.2 = y5 at *
  generalize zag (rHd6 l 0 0).1 = h6 at *
  generalize (rHd6 l 0 0).2.1 = p6 at *
  generalize (rHd6 l 0 0).2.2 = y6 at *
  generalize zag (rHd7 l 0 0).1 = h7 at *
  generalize (rHd7 l 0 0).2.1 = p7 at *
  generalize (rHd7 l 0 0).2.2 = y7 at *
  generalize zag (rHd8 l 0 0).1 = h8 at *
  generalize (rHd8 l 0 0).2.1 = p8 at *
  generalize (rHd8 l 0 0).2.2 = y8 at *
  generalize (rHd9 l 0 0).1 = h9 at *
  generalize (rHd9 l 0 0).2.1 = p9 at *
  generalize (rHd9 l 0 0).2.2 = y9 at *
  generalize (unN l).1 = n at *
  generalize (unN l).2.1 = pN at *
  generalize (unN l).2.2 = yN at *
  go_enter Tryd.func8, Tryd.ntmps8
  go_wp2_with fail
  refine HO.mono ?_
  rintro e x1 ⟨R, rfl, hR, r1, b1⟩
  have hz1 := (b1.block w.heap.size (by simp)).trans hz.out
  obtain ⟨M, hM⟩ : ∃ M, x1.heap.size = M := ⟨_, rfl⟩
  have hRM : R < M := by have := r1.lt; omega
  rw [hM] at r1
  have bB : Below x1.heap.size x1 (x1.alloc (.cells #[.int .i64 0, .int .i64 0, .int .i64 0, .int .i64 0, .int .i64 0, .int .i64 0, .int .i64 0, .int .i64 0, .bool false, .slice none 0 0, .slice none 0 0] 29)) := (Below.refl _ x1).alloc (Nat.le_refl _) _
  have f0 : Hid (UmF w (x1.alloc (.cells #[.int .i64 0, .int .i64 0, .int .i64 0, .int .i64 0, .int .i64 0, .int .i64 0, .int .i64 0, .int .i64 0, .bool false, .slice none 0 0, .slice none 0 0] 29)) R (w.heap.size + 1) M l 0 0 #[.int .i64 0, .int .i64 0, .int .i64 0, .int .i64 0, .int .i64 0, .int .i64 0, .int .i64 0, .int .i64 0, .bool false, .slice none 0 0, .slice none 0 0]) :=
    ⟨r1.far (fun g hg hs => bB.block g hs), (bB.block _ (Array.getElem?_eq_some_iff.1 hz1).1).trans hz1, by rw [← hM]; exact heap_alloc_new x1 _, (BA.out.trans ((b1.mono (by simp)).trans (bB.mono (by have := b1.size; simp at this; omega)))), by omega, hRM⟩
  clear HO r1 b1 hz1 bB BA hz g1
  go_wp2_with fail
  refine (C1.out _ _ _ _ f0.out.rdr).mono ?_
  rintro e v1 ⟨rfl, r1, g1⟩
  have f1 : Hid (UmF w v1 R (w.heap.size + 1) M l p1 y1 #[.int .i64 0, .int .i64 0, .int .i64 0, .int .i64 0, .int .i64 0, .int .i64 0, .int .i64 0, .int .i64 0, .bool false, .slice none 0 0, .slice none 0 0]) := f0.out.call r1 g1
  clear r1 g1 C1 f0
  try rw [hM]
  go_wp2_with fail
  refine (C2.out _ _ _ _ f1.out.rdr).mono ?_
  rintro e v2 ⟨rfl, r2, g2⟩
  have f2 : Hid (UmF w v2 R (w.heap.size + 1) M l p2 y2 #[.int .i64 0, .int .i64 0, .int .i64 0, .int .i64 0, .int .i64 0, .int .i64 0, .int .i64 0, .int .i64 0, .bool false, .slice none 0 0, .slice none 0 0]) := f1.out.call r2 g2
  clear r2 g2 C2 f1
  go_wp2_with fail
  refine (C3.out _ _ _ _ f2.out.rdr).mono ?_
  rintro e v3 ⟨rfl, r3, g3⟩
  have f3 : Hid (UmF w v3 R (w.heap.size + 1) M l p3 y3 #[.int .i64 0, .int .i64 0, .int .i64 0, .int .i64 0, .int .i64 0, .int .i64 0, .int .i64 0, .int .i64 0, .bool false, .slice none 0 0, .slice none 0 0]) := f2.out.call r3 g3
  clear r3 g3 C3 f2
  go_wp2_with fail
  refine (C4.out _ _ _ _ f3.out.rdr).mono ?_
  rintro e v4 ⟨rfl, r4, g4⟩
  have f4 : Hid (UmF w v4 R (w.heap.size + 1) M l p4 y4 #[.int .i64 0, .int .i64 0, .int .i64 0, .int .i64 0, .int .i64 0, .int .i64 0, .int .i64 0, .int .i64 0, .bool false, .slice none 0 0, .slice none 0 0]) := f3.out.call r4 g4
  clear r4 g4 C4 f3
  go_wp2_with fail
  refine (C5.out _ _ _ _ f4.out.rdr).mono ?_
  rintro e v5 ⟨rfl, r5, g5⟩
  have d5 : UmF w v5 R (w.heap.size + 1) M l p5 y5 #[.int .i64 0, .int .i64 0, .int .i64 0, .int .i64 0, .int .i64 0, .int .i64 0, .int .i64 0, .int .i64 0, .bool false, .slice none 0 0, .slice none 0 0] := f4.out.call r5 g5
  have c5 : v5.cell? ⟨M, 4, none⟩ = some (.int .i64 0) := (d5.cell 4).1
  have z5 := (d5.cell 4).2
  have f5 : Hid (UmF w (v5.setCell ⟨M, 4, none⟩ (.int .i64 h5)) R (w.heap.size + 1) M l p5 y5 #[.int .i64 0, .int .i64 0, .int .i64 0, .int .i64 0, .int .i64 h5, .int .i64 0, .int .i64 0, .int .i64 0, .bool false, .slice none 0 0, .slice none 0 0]) := d5.store 4 _
  clear r5 g5 C5 f4 d5
  go_wp2_with fail
  refine (C6.out _ _ _ _ f5.out.rdr).mono ?_
  rintro e v6 ⟨rfl, r6, g6⟩
  have d6 : UmF w v6 R (w.heap.size + 1) M l p6 y6 #[.int .i64 0, .int .i64 0, .int .i64 0, .int .i64 0, .int .i64 h5, .int .i64 0, .int .i64 0, .int .i64 0, .bool false, .slice none 0 0, .slice none 0 0] := f5.out.call r6 g6
  have c6 : v6.cell? ⟨M, 5, none⟩ = some (.int .i64 0) := (d6.cell 5).1
  have z6 := (d6.cell 5).2
  have f6 : Hid (UmF w (v6.setCell ⟨M, 5, none⟩ (.int .i64 h6)) R (w.heap.size + 1) M l p6 y6 #[.int .i64 0, .int .i64 0, .int .i64 0, .int .i64 0, .int .i64 h5, .int .i64 h6, .int .i64 0, .int .i64 0, .bool false, .slice none 0 0, .slice none 0 0]) := d6.store 5 _
  clear r6 g6 C6 f5 d6
  go_wp2_with fail
  refine (C7.out _ _ _ _ f6.out.rdr).mono ?_
  rintro e v7 ⟨rfl, r7, g7⟩
  have d7 : UmF w v7 R (w.heap.size + 1) M l p7 y7 #[.int .i64 0, .int .i64 0, .int .i64 0, .int .i64 0, .int .i64 h5, .int .i64 h6, .int .i64 0, .int .i64 0, .bool false, .slice none 0 0, .slice none 0 0] := f6.out.call r7 g7
  have c7 : v7.cell? ⟨M, 6, none⟩ = some (.int .i64 0) := (d7.cell 6).1
  have z7 := (d7.cell 6).2
  have f7 : Hid (UmF w (v7.setCell ⟨M, 6, none⟩ (.int .i64 h7)) R (w.heap.size + 1) M l p7 y7 #[.int .i64 0, .int .i64 0, .int .i64 0, .int .i64 0, .int .i64 h5, .int .i64 h6, .int .i64 h7, .int .i64 0, .bool false, .slice none 0 0, .slice none 0 0]) := d7.store 6 _
  clear r7 g7 C7 f6 d7
  go_wp2_with fail
  refine (C8.out _ _ _ _ f7.out.rdr).mono ?_
  rintro e v8 ⟨rfl, r8, g8⟩
  have d8 : UmF w v8 R (w.heap.size + 1) M l p8 y8 #[.int .i64 0, .int .i64 0, .int .i64 0, .int .i64 0, .int .i64 h5, .int .i64 h6, .int .i64 h7, .int .i64 0, .bool false, .slice none 0 0, .slice none 0 0] := f7.out.call r8 g8
  have c8 : v8.cell? ⟨M, 7, none⟩ = some (.int .i64 0) := (d8.cell 7).1
  have z8 := (d8.cell 7).2
  have f8 : Hid (UmF w (v8.setCell ⟨M, 7, none⟩ (.int .i64 h8)) R (w.heap.size + 1) M l p8 y8 #[.int .i64 0, .int .i64 0, .int .i64 0, .int .i64 0, .int .i64 h5, .int .i64 h6, .int .i64 h7, .int .i64 h8, .bool false, .slice none 0 0, .slice none 0 0]) := d8.store 7 _
  clear r8 g8 C8 f7 d8
  go_wp2_with fail
  refine (C9.out _ _ _ _ f8.out.rdr).mono ?_
  rintro e v9 ⟨rfl, r9, g9⟩
  have d9 : UmF w v9 R (w.heap.size + 1) M l p9 y9 #[.int .i64 0, .int .i64 0, .int .i64 0, .int .i64 0, .int .i64 h5, .int .i64 h6, .int .i64 h7, .int .i64 h8, .bool false, .slice none 0 0, .slice none 0 0] := f8.out.call r9 g9
  have c9 : v9.cell? ⟨M, 8, none⟩ = some (.bool false) := (d9.cell 8).1
  have z9 := (d9.cell 8).2
  have f9 : Hid (UmF w (v9.setCell ⟨M, 8, none⟩ (.bool h9)) R (w.heap.size + 1) M l p9 y9 #[.int .i64 0, .int .i64 0, .int .i64 0, .int .i64 0, .int .i64 h5, .int .i64 h6, .int .i64 h7, .int .i64 h8, .bool h9, .slice none 0 0, .slice none 0 0]) := d9.store 8 _
  clear r9 g9 C9 f8 d9
  go_wp2_with fail
  refine (CN.out _ _ _ _ f9.out.rdr).mono ?_
  rintro e vN ⟨rfl, rN, gN⟩
  have fN : Hid (UmF w vN R (w.heap.size + 1) M l pN yN #[.int .i64 0, .int .i64 0, .int .i64 0, .int .i64 0, .int .i64 h5, .int .i64 h6, .int .i64 h7, .int .i64 h8, .bool h9, .slice none 0 0, .slice none 0 0]) := f9.out.call rN gN
  clear rN gN CN f9 c5 c6 c7 c8 c9 z5 z6 z7 z8 z9
  have hlR := fN.out.lR
  have hlM := fN.out.lM
  go_wp2_with fail
  go_loopw [11] (fun i wr => ∃ (k : Nat) (va : Option Addr) (vn vc : Nat) (es : List EntV), k ≤ n ∧ i = .int .i64 k ∧ Hid (UmF w wr R (w.heap.size + 1) M l (rEnts l pN yN k).2.1 (rEnts l pN yN k).2.2 #[.int .i64 0, .int .i64 0, .int .i64 0, .int .i64 0, .int .i64 h5, .int .i64 h6, .int .i64 h7, .int .i64 h8, .bool h9, .slice va vn vc, .slice none 0 0]) ∧ Hid (es.length = k) ∧ Hid (es.map Prod.fst = (rEnts l pN yN k).1) ∧ Hid (wr.ownsRow (M + 1) 55 2 (.slice va vn vc) k (entCells es)) ∧ Hid (∀ e ∈ es, EOwn wr (M + 1) e))
    (fun i _ => n - (intOf i).toNat)
  case atStart => exact ⟨0, none, 0, 0, [], Nat.zero_le _, rfl, fN, rfl, rfl, World.ownsRow_nil _ _ _ _, fun e he => by cases he⟩
  case round =>
    obtain ⟨k, va, vn, vc, es, hk, rfl, HF, HEL, HEM, HO, HEO⟩ := hrel
    clear fN
    obtain ⟨_, _, _, _, ce, _⟩ := HF.out.rdr.cells
    obtain ⟨yk, hyk⟩ : ∃ yk, (rEnts l pN yN k).2.2 = yk := ⟨_, rfl⟩
    rw [hyk] at ce
    by_cases hgo : k < n ∧ yk = 0
    · obtain ⟨hkn, rfl⟩ := hgo
      have HT : Hid (∀ w', RRd w' R (w.heap.size + 1) M l (rEnts l pN yN k).2.1 (rEnts l pN yN k).2.2 → Calls Tryd.prog 27 #[.pointer (some ⟨R, 0, none⟩)] w' fun e w'' => e = .returned (.int .i64 (zag (rEn1 l (rEnts l pN yN k).2.1 (rEnts l pN yN k).2.2).1)) ∧ RRd w'' R (w.heap.size + 1) M l (rEn1 l (rEnts l pN yN k).2.1 (rEnts l pN yN k).2.2).2.1 (rEn1 l (rEnts l pN yN k).2.1 (rEnts l pN yN k).2.2).2.2 ∧ w'.grownBy w'' (some R)) := fun w' h => refRInt_any R _ M l _ _ w' h
      have HB : Hid (∀ w', RRd w' R (w.heap.size + 1) M l (rEn1 l (rEnts l pN yN k).2.1 (rEnts l pN yN k).2.2).2.1 (rEn1 l (rEnts l pN yN k).2.1 (rEnts l pN yN k).2.2).2.2 → Calls Tryd.prog 30 #[.pointer (some ⟨R, 0, none⟩)] w' fun e w'' => ∃ v, e = .returned v ∧ w''.ownsRow w'.heap.size 5 1 v (rEn2 l (rEnts l pN yN k).2.1 (rEnts l pN yN k).2.2).1.length (cellsOf (rEn2 l (rEnts l pN yN k).2.1 (rEnts l pN yN k).2.2).1) ∧ (rEn2 l (rEnts l pN yN k).2.1 (rEnts l pN yN k).2.2).1.length ≤ 65536 ∧ RRd w'' R (w.heap.size + 1) M l (rEnts l pN yN (k + 1)).2.1 (rEnts l pN yN (k + 1)).2.2 ∧ w'.grownBy w'' (some R)) := fun w' h => refRBytes_any R _ M l _ _ w' h
      have HS : Hid ((rEnts l pN yN (k + 1)).1 = (rEnts l pN yN k).1 ++ [(zag (rEn1 l (rEnts l pN yN k).2.1 (rEnts l pN yN k).2.2).1, (rEn2 l (rEnts l pN yN k).2.1 (rEnts l pN yN k).2.2).1)]) := rEnts_next l pN yN k
      generalize zag (rEn1 l (rEnts l pN yN k).2.1 (rEnts l pN yN k).2.2).1 = rt at *
      generalize (rEn2 l (rEnts l pN yN k).2.1 (rEnts l pN yN k).2.2).1 = rp at *
      generalize (rEn1 l (rEnts l pN yN k).2.1 (rEnts l pN yN k).2.2).2.1 = p5 at *
      generalize (rEn1 l (rEnts l pN yN k).2.1 (rEnts l pN yN k).2.2).2.2 = y5' at *
      have hkni : (k : Int) < (n : Int) := by omega
      have HK : Hid (k + 1 ≤ n) := hkn
      have HYK : Hid _ := hyk
      clear hkn hyk hk
      go_wp2_with fail
      refine (HT.out _ HF.out.rdr).mono ?_
      rintro e xa ⟨rfl, ra, ga⟩
      have FA : Hid (UmF w xa R (w.heap.size + 1) M l p5 y5' #[.int .i64 0, .int .i64 0, .int .i64 0, .int .i64 0, .int .i64 h5, .int .i64 h6, .int .i64 h7, .int .i64 h8, .bool h9, .slice va vn vc, .slice none 0 0]) := HF.out.call ra ga
      have OA : Hid (xa.ownsRow (M + 1) 55 2 (.slice va vn vc) k (entCells es)) := owns_far HO.out ga (by omega)
      have EA : Hid (∀ e ∈ es, EOwn xa (M + 1) e) := fun e he => (HEO.out e he).far ga (by omega)
      clear HT ra ga HF HO HEO ce
      go_wp2_with fail
      refine (HB.out _ FA.out.rdr).mono ?_
      rintro e xb ⟨v, rfl, ov, lv, rb, gb⟩
      have lMa : M < xa.heap.size := (Array.getElem?_eq_some_iff.1 FA.out.box).1
      have fB := FA.out.call rb gb
      have oB := owns_far OA.out gb (show R < M + 1 by omega)
      have eB : ∀ e ∈ es, EOwn xb (M + 1) e := fun e he => (EA.out e he).far gb (by omega)
      have eN : EOwn xb (M + 1) ((rt, rp), v) := ⟨lv, owns_mono' ov (by omega)⟩
      obtain ⟨i0, hi, hz0, hz1, hz2⟩ := info_parts info_entry
      have bN : Below xb.heap.size xb (xb.alloc (.cells #[.int .i64 rt, v] 55)) := (Below.refl _ xb).alloc (Nat.le_refl _) _
      obtain ⟨ba, bc, rfl, _⟩ := row_form ov
      have hlM2 : M < xb.heap.size := (Array.getElem?_eq_some_iff.1 fB.box).1
      obtain ⟨gg, cap2, Zw, hrun, hown3, hgrow, _, _⟩ := run_append_lies (P := Tryd.prog) (w := xb.alloc (.cells #[.int .i64 rt, .slice ba rp.length bc] 55)) 27 27 (M + 1) 55 i0 _ 2 32 Tryd.underlying27 hi hz0 hz1 hz2 rfl (by omega) (.slice va vn vc) k (entCells es) (oB.alloc _) ⟨xb.heap.size, 0, none⟩ 1 1 [.int .i64 rt, .slice ba rp.length bc] rfl (World.news_of_block (cs := #[.int .i64 rt, .slice ba rp.length bc]) (t := 55) (fr := (0, 0)) (heap_alloc_new xb _)) (by simp [Value.oneCell']) (by omega) (by have := HK.out; unfold maxLen; omega) (by have := HK.out; omega) (by simp; omega) (xb.heap.size + 1) (by simp)
      have fC := (fB.alloc (.cells #[.int .i64 rt, .slice ba rp.length bc] 55)).grow hgrow (fun g e => (oB.lt _ e).1)
      have kc : Zw.cell? ⟨M, 9, none⟩ = some (.slice va vn vc) := (fC.cell 9).1
      have kf := (fC.cell 9).2
      have kb : xb.cell? ⟨M, 9, none⟩ = some (.slice va vn vc) := (fB.cell 9).1
      have FD : Hid (UmF w (Zw.setCell ⟨M, 9, none⟩ (.slice (some ⟨gg, 0, none⟩) (k + 1) cap2)) R (w.heap.size + 1) M l (rEnts l pN yN (k + 1)).2.1 (rEnts l pN yN (k + 1)).2.2 #[.int .i64 0, .int .i64 0, .int .i64 0, .int .i64 0, .int .i64 h5, .int .i64 h6, .int .i64 h7, .int .i64 h8, .bool h9, .slice (some ⟨gg, 0, none⟩) (k + 1) cap2, .slice none 0 0]) := fC.store 9 _
      have OD : Hid ((Zw.setCell ⟨M, 9, none⟩ (.slice (some ⟨gg, 0, none⟩) (k + 1) cap2)).ownsRow (M + 1) 55 2 (.slice (some ⟨gg, 0, none⟩) (k + 1) cap2) (k + 1) (entCells (es ++ [((rt, rp), .slice ba rp.length bc)]))) := by
        show World.ownsRow _ _ _ _ _ _ _
        rw [entCells_snoc]
        exact owns_set hown3 _ _ (by show M < M + 1; omega)
      have ED : Hid (∀ e ∈ es ++ [((rt, rp), Value.slice ba rp.length bc)], EOwn (Zw.setCell ⟨M, 9, none⟩ (.slice (some ⟨gg, 0, none⟩) (k + 1) cap2)) (M + 1) e) := fun e he => by
        have ho := oB.alloc (.cells #[.int .i64 rt, .slice ba rp.length bc] 55)
        rcases List.mem_append.1 he with he | he
        · exact ((((eB e he).alloc _)).other ho (by decide) hgrow).set _ _ (by show M < M + 1; omega)
        · have he' : e = ((rt, rp), Value.slice ba rp.length bc) := by simpa using he
          subst he'
          exact ((eN.alloc _).other ho (by decide) hgrow).set _ _ (by show M < M + 1; omega)
      have MD : Hid ((es ++ [((rt, rp), Value.slice ba rp.length bc)]).map Prod.fst = (rEnts l pN yN (k + 1)).1) := by
        show _ = _
        rw [HS.out, List.map_append, HEM.out]
        rfl
      have LD : Hid ((es ++ [((rt, rp), Value.slice ba rp.length bc)]).length = k + 1) := by show _ = _; rw [List.length_append, HEL.out]; rfl
      have HRun : Hid _ := hrun
      clear HB rb gb fB oB eB eN bN hrun hown3 hgrow fC hi hz0 hz1 hz2 FA OA EA ov lv hlM2 lMa
      go_wp2_with (at_builtin; refine wpList_append_known rfl (.tmp 63) (.tmp 67) 27 27 rfl _ _ rfl rfl _ _ HRun.out ?_)
      go_roundw
      case rel => exact ⟨k + 1, some ⟨gg, 0, none⟩, k + 1, cap2, _, HK.out, by go_num, FD, LD, MD, OD, ED⟩
      case measure => have := HK.out; simp only [intOf]; omega
    · have hor : k = n ∨ (rEnts l pN yN k).2.2 ≠ 0 := by rw [hyk]; by_cases hkn : k = n; exact .inl hkn; exact .inr (fun e => hgo ⟨by omega, e⟩)
      obtain ⟨hEnd, hFull⟩ := HES.out k hk hor
      have HBy : Hid (∀ w', RRd w' R (w.heap.size + 1) M l (rEnts l pN yN k).2.1 (rEnts l pN yN k).2.2 → Calls Tryd.prog 30 #[.pointer (some ⟨R, 0, none⟩)] w' fun e w'' => RBT w' w'' R (w.heap.size + 1) M l (rS l (rEnts l pN yN k).2.1 (rEnts l pN yN k).2.2) e) := fun w' h => refRBytes_any R _ M l _ _ w' h
      have HDD : Hid (k = n → rS l (rEnts l pN yN k).2.1 (rEnts l pN yN k).2.2 = unD l) := fun e => by rw [HUE.out.2, HUE.out.1, e]
      have HEE : Hid (k = n → (rEnts l pN yN k).1 = (unE l).1) := fun e => by rw [HUE.out.1, e]
      obtain ⟨SS, hSS⟩ : ∃ SS, rS l (rEnts l pN yN k).2.1 (rEnts l pN yN k).2.2 = SS := ⟨_, rfl⟩
      rw [hSS] at hEnd HBy HDD
      have CE : Hid (∀ w', RRd w' R (w.heap.size + 1) M l SS.2.1 SS.2.2 → Calls Tryd.prog 31 #[.pointer (some ⟨R, 0, none⟩)] w' fun e w'' => e = .returned (.int .i64 (unEnd l)) ∧ ∃ n, w'' = w'.drewN n) := fun w' h => by rw [← hEnd]; exact refREnd_any R _ M l _ _ w' h
      have HFull : Hid (unEnd l = 0 → k = n) := hFull
      have hkk : (k : Int) ≤ (n : Int) := by omega
      have FIN : Hid (k = n ∨ yk ≠ 0) := by show _ ∨ _; rw [← hyk]; exact hor
      clear hEnd hFull hSS HES HUE hor hgo hyk hkk
      by_cases hkn : k < n
      · have hkni : (k : Int) < (n : Int) := by omega
        have hy0 : yk ≠ 0 := FIN.out.resolve_left (by omega)
        have hye : ((yk : Int) == 0) = false := by simpa using hy0
        clear hk
        go_wp2_with fail
        refine (HBy.out wr HF.out.rdr).mono ?_
        rintro e w6 ⟨v6, rfl, o6, l6, r6, g6⟩
        obtain ⟨xa, xc, rfl, _⟩ := row_form o6
        have hsz6 : M < wr.heap.size := (Array.getElem?_eq_some_iff.1 HF.out.box).1
        have f6 := HF.out.call r6 g6
        have k10 : w6.cell? ⟨M, 10, none⟩ = some (.slice none 0 0) := (f6.cell 10).1
        have kf10 := (f6.cell 10).2
        obtain ⟨xn, hxn⟩ : ∃ xn, SS.1.length = xn := ⟨_, rfl⟩
        rw [hxn] at o6 l6 ⊢
        have F7 : Hid (UmF w (w6.setCell ⟨M, 10, none⟩ (.slice xa xn xc)) R (w.heap.size + 1) M l SS.2.1 SS.2.2 #[.int .i64 0, .int .i64 0, .int .i64 0, .int .i64 0, .int .i64 h5, .int .i64 h6, .int .i64 h7, .int .i64 h8, .bool h9, .slice va vn vc, .slice xa xn xc]) := f6.store 10 _
        have O7 : Hid ((w6.setCell ⟨M, 10, none⟩ (.slice xa xn xc)).ownsRow (M + 1) 55 2 (.slice va vn vc) k (entCells es)) := owns_set (owns_far HO.out g6 (by omega)) _ _ (by show M < M + 1; omega)
        have E7 : Hid (∀ e ∈ es, EOwn (w6.setCell ⟨M, 10, none⟩ (.slice xa xn xc)) (M + 1) e) := fun e he => ((HEO.out e he).far g6 (by omega)).set _ _ (by show M < M + 1; omega)
        have D7 : Hid ((w6.setCell ⟨M, 10, none⟩ (.slice xa xn xc)).ownsRow (M + 1) 5 1 (.slice xa xn xc) xn (cellsOf SS.1)) := owns_set (owns_mono' o6 (by omega)) _ _ (by show M < M + 1; omega)
        have L6 : Hid (xn ≤ 65536) := l6
        have XN : Hid (SS.1.length = xn) := hxn
        clear f6 o6 l6 r6 g6 HF HO HEO HBy hxn ce hsz6
        go_wp2_with fail
        refine (CE.out _ F7.out.rdr).mono ?_
        rintro e w7 ⟨rfl, nd, rfl⟩
        have F8 := F7.out.drewN nd
        have O8 : Hid (((w6.setCell ⟨M, 10, none⟩ (.slice xa xn xc)).drewN nd).ownsRow (M + 1) 55 2 (.slice va vn vc) k (entCells es)) := O7.out
        have E8 : Hid (∀ e ∈ es, EOwn ((w6.setCell ⟨M, 10, none⟩ (.slice xa xn xc)).drewN nd) (M + 1) e) := fun e he => E7.out e he
        have D8 : Hid (((w6.setCell ⟨M, 10, none⟩ (.slice xa xn xc)).drewN nd).ownsRow (M + 1) 5 1 (.slice xa xn xc) xn (cellsOf SS.1)) := D7.out
        obtain ⟨w8, hw8⟩ : ∃ w8, (w6.setCell ⟨M, 10, none⟩ (.slice xa xn xc)).drewN nd = w8 := ⟨_, rfl⟩
        rw [hw8] at F8 O8 E8 D8 ⊢
        have F8H : Hid _ := F8
        clear hw8 F7 O7 E7 D7 CE k10 kf10
        have hres : Hid (w8.heap[w.heap.size]? = some (.cells #[.int .i64 0, .int .i64 0, .int .i64 0, .int .i64 0, .int .i64 0, .int .i64 0, .int .i64 0, .int .i64 0, .bool false, .slice none 0 0, .slice none 0 0] 29 (0, 0))) := F8.res
        have hz8 : Hid ((w8.setRow w.heap.size #[.int .i64 0, .int .i64 0, .int .i64 0, .int .i64 0, .int .i64 0, .int .i64 0, .int .i64 0, .int .i64 0, .bool false, .slice none 0 0, .slice none 0 0]).heap[w.heap.size]? = some (.cells #[.int .i64 0, .int .i64 0, .int .i64 0, .int .i64 0, .int .i64 0, .int .i64 0, .int .i64 0, .int .i64 0, .bool false, .slice none 0 0, .slice none 0 0] 29 (0, 0))) := setRow_heap _ _ _ _ _ _ hres.out
        have bz8 : Hid (Below w.heap.size w (w8.setRow w.heap.size #[.int .i64 0, .int .i64 0, .int .i64 0, .int .i64 0, .int .i64 0, .int .i64 0, .int .i64 0, .int .i64 0, .bool false, .slice none 0 0, .slice none 0 0])) := Below.row F8.below (Nat.le_refl _)
        obtain ⟨E, hE⟩ : ∃ E, unEnd l = E := ⟨_, rfl⟩
        rw [hE] at HFull ⊢
        have HE : Hid (unEnd l = E) := hE
        clear hE F8
        by_cases hu : E = 0
        · exact absurd (HFull.out hu) (by omega)
        · have hu' : ((E : Int) != 0) = true := by simp; omega
          have HUU : Hid (unEnd l ≠ 0) := by show _ ≠ _; rw [HE.out]; exact hu
          clear hu
          go_wp2_with (first
            | (refine wpList_store_row rfl 29 (.tmp 2) (.tmp 77) rfl w.heap.size #[.int .i64 0, .int .i64 0, .int .i64 0, .int .i64 0, .int .i64 0, .int .i64 0, .int .i64 0, .int .i64 0, .bool false, .slice none 0 0, .slice none 0 0] rfl rfl 29 _ hres.out (by kernel_rfl) rfl (by simp [Value.oneCell']) ?_))
          exact bodyPost_ret (results_msg rfl _ _ w.heap.size 29 _ _ _ rfl hz8.out Tryd.underlying29 rfl (by kernel_rfl)) rfl ⟨.inr (.inl ⟨HL.out, HUU.out, by rw [HE.out]; rfl⟩), bz8.out⟩
      · have hkni : ¬ (k : Int) < (n : Int) := by omega
        clear hk hkn
        go_wp2_with fail
        refine (HBy.out wr HF.out.rdr).mono ?_
        rintro e w6 ⟨v6, rfl, o6, l6, r6, g6⟩
        obtain ⟨xa, xc, rfl, _⟩ := row_form o6
        have hsz6 : M < wr.heap.size := (Array.getElem?_eq_some_iff.1 HF.out.box).1
        have f6 := HF.out.call r6 g6
        have k10 : w6.cell? ⟨M, 10, none⟩ = some (.slice none 0 0) := (f6.cell 10).1
        have kf10 := (f6.cell 10).2
        obtain ⟨xn, hxn⟩ : ∃ xn, SS.1.length = xn := ⟨_, rfl⟩
        rw [hxn] at o6 l6 ⊢
        have F7 : Hid (UmF w (w6.setCell ⟨M, 10, none⟩ (.slice xa xn xc)) R (w.heap.size + 1) M l SS.2.1 SS.2.2 #[.int .i64 0, .int .i64 0, .int .i64 0, .int .i64 0, .int .i64 h5, .int .i64 h6, .int .i64 h7, .int .i64 h8, .bool h9, .slice va vn vc, .slice xa xn xc]) := f6.store 10 _
        have O7 : Hid ((w6.setCell ⟨M, 10, none⟩ (.slice xa xn xc)).ownsRow (M + 1) 55 2 (.slice va vn vc) k (entCells es)) := owns_set (owns_far HO.out g6 (by omega)) _ _ (by show M < M + 1; omega)
        have E7 : Hid (∀ e ∈ es, EOwn (w6.setCell ⟨M, 10, none⟩ (.slice xa xn xc)) (M + 1) e) := fun e he => ((HEO.out e he).far g6 (by omega)).set _ _ (by show M < M + 1; omega)
        have D7 : Hid ((w6.setCell ⟨M, 10, none⟩ (.slice xa xn xc)).ownsRow (M + 1) 5 1 (.slice xa xn xc) xn (cellsOf SS.1)) := owns_set (owns_mono' o6 (by omega)) _ _ (by show M < M + 1; omega)
        have L6 : Hid (xn ≤ 65536) := l6
        have XN : Hid (SS.1.length = xn) := hxn
        clear f6 o6 l6 r6 g6 HF HO HEO HBy hxn ce hsz6
        go_wp2_with fail
        refine (CE.out _ F7.out.rdr).mono ?_
        rintro e w7 ⟨rfl, nd, rfl⟩
        have F8 := F7.out.drewN nd
        have O8 : Hid (((w6.setCell ⟨M, 10, none⟩ (.slice xa xn xc)).drewN nd).ownsRow (M + 1) 55 2 (.slice va vn vc) k (entCells es)) := O7.out
        have E8 : Hid (∀ e ∈ es, EOwn ((w6.setCell ⟨M, 10, none⟩ (.slice xa xn xc)).drewN nd) (M + 1) e) := fun e he => E7.out e he
        have D8 : Hid (((w6.setCell ⟨M, 10, none⟩ (.slice xa xn xc)).drewN nd).ownsRow (M + 1) 5 1 (.slice xa xn xc) xn (cellsOf SS.1)) := D7.out
        obtain ⟨w8, hw8⟩ : ∃ w8, (w6.setCell ⟨M, 10, none⟩ (.slice xa xn xc)).drewN nd = w8 := ⟨_, rfl⟩
        rw [hw8] at F8 O8 E8 D8 ⊢
        have F8H : Hid _ := F8
        clear hw8 F7 O7 E7 D7 CE k10 kf10
        have hres : Hid (w8.heap[w.heap.size]? = some (.cells #[.int .i64 0, .int .i64 0, .int .i64 0, .int .i64 0, .int .i64 0, .int .i64 0, .int .i64 0, .int .i64 0, .bool false, .slice none 0 0, .slice none 0 0] 29 (0, 0))) := F8.res
        have hz8 : Hid ((w8.setRow w.heap.size #[.int .i64 0, .int .i64 0, .int .i64 0, .int .i64 0, .int .i64 0, .int .i64 0, .int .i64 0, .int .i64 0, .bool false, .slice none 0 0, .slice none 0 0]).heap[w.heap.size]? = some (.cells #[.int .i64 0, .int .i64 0, .int .i64 0, .int .i64 0, .int .i64 0, .int .i64 0, .int .i64 0, .int .i64 0, .bool false, .slice none 0 0, .slice none 0 0] 29 (0, 0))) := setRow_heap _ _ _ _ _ _ hres.out
        have bz8 : Hid (Below w.heap.size w (w8.setRow w.heap.size #[.int .i64 0, .int .i64 0, .int .i64 0, .int .i64 0, .int .i64 0, .int .i64 0, .int .i64 0, .int .i64 0, .bool false, .slice none 0 0, .slice none 0 0])) := Below.row F8.below (Nat.le_refl _)
        obtain ⟨E, hE⟩ : ∃ E, unEnd l = E := ⟨_, rfl⟩
        rw [hE] at HFull ⊢
        have HE : Hid (unEnd l = E) := hE
        clear hE F8
        by_cases hu : E = 0
        · subst hu
          have hkn := HFull.out rfl
          clear HFull
          by_cases q0 : (h1 : Int) < 1
          · have HNA : Hid (¬ (rHdV l 0 0).addr) := by show ¬ _; rw [HHD.out]; intro h; obtain ⟨i1, i2, i3, i4, ⟨i5, i6⟩, i7, i8⟩ := h; dsimp only at *; omega
            clear hkn
            go_wp2_with (first
              | (refine wpList_store_row rfl 29 (.tmp 2) (.tmp 109) rfl w.heap.size #[.int .i64 0, .int .i64 0, .int .i64 0, .int .i64 0, .int .i64 0, .int .i64 0, .int .i64 0, .int .i64 0, .bool false, .slice none 0 0, .slice none 0 0] rfl rfl 29 _ hres.out (by kernel_rfl) rfl (by simp [Value.oneCell']) ?_))
            exact bodyPost_ret (results_msg rfl _ _ w.heap.size 29 _ _ _ rfl hz8.out Tryd.underlying29 rfl (by kernel_rfl)) rfl ⟨.inr (.inr (.inl ⟨HL.out, HE.out, HNA.out, rfl⟩)), bz8.out⟩
          by_cases q1 : (6 : Int) < h1
          · have HNA : Hid (¬ (rHdV l 0 0).addr) := by show ¬ _; rw [HHD.out]; intro h; obtain ⟨i1, i2, i3, i4, ⟨i5, i6⟩, i7, i8⟩ := h; dsimp only at *; omega
            clear hkn
            go_wp2_with (first
              | (refine wpList_store_row rfl 29 (.tmp 2) (.tmp 109) rfl w.heap.size #[.int .i64 0, .int .i64 0, .int .i64 0, .int .i64 0, .int .i64 0, .int .i64 0, .int .i64 0, .int .i64 0, .bool false, .slice none 0 0, .slice none 0 0] rfl rfl 29 _ hres.out (by kernel_rfl) rfl (by simp [Value.oneCell']) ?_))
            exact bodyPost_ret (results_msg rfl _ _ w.heap.size 29 _ _ _ rfl hz8.out Tryd.underlying29 rfl (by kernel_rfl)) rfl ⟨.inr (.inr (.inl ⟨HL.out, HE.out, HNA.out, rfl⟩)), bz8.out⟩
          by_cases q2 : h2 < (0 : Int)
          · have HNA : Hid (¬ (rHdV l 0 0).addr) := by show ¬ _; rw [HHD.out]; intro h; obtain ⟨i1, i2, i3, i4, ⟨i5, i6⟩, i7, i8⟩ := h; dsimp only at *; omega
            clear hkn
            go_wp2_with (first
              | (refine wpList_store_row rfl 29 (.tmp 2) (.tmp 109) rfl w.heap.size #[.int .i64 0, .int .i64 0, .int .i64 0, .int .i64 0, .int .i64 0, .int .i64 0, .int .i64 0, .int .i64 0, .bool false, .slice none 0 0, .slice none 0 0] rfl rfl 29 _ hres.out (by kernel_rfl) rfl (by simp [Value.oneCell']) ?_))
            exact bodyPost_ret (results_msg rfl _ _ w.heap.size 29 _ _ _ rfl hz8.out Tryd.underlying29 rfl (by kernel_rfl)) rfl ⟨.inr (.inr (.inl ⟨HL.out, HE.out, HNA.out, rfl⟩)), bz8.out⟩
          by_cases q3 : (3 : Int) < h2
          · have HNA : Hid (¬ (rHdV l 0 0).addr) := by show ¬ _; rw [HHD.out]; intro h; obtain ⟨i1, i2, i3, i4, ⟨i5, i6⟩, i7, i8⟩ := h; dsimp only at *; omega
            clear hkn
            go_wp2_with (first
              | (refine wpList_store_row rfl 29 (.tmp 2) (.tmp 109) rfl w.heap.size #[.int .i64 0, .int .i64 0, .int .i64 0, .int .i64 0, .int .i64 0, .int .i64 0, .int .i64 0, .int .i64 0, .bool false, .slice none 0 0, .slice none 0 0] rfl rfl 29 _ hres.out (by kernel_rfl) rfl (by simp [Value.oneCell']) ?_))
            exact bodyPost_ret (results_msg rfl _ _ w.heap.size 29 _ _ _ rfl hz8.out Tryd.underlying29 rfl (by kernel_rfl)) rfl ⟨.inr (.inr (.inl ⟨HL.out, HE.out, HNA.out, rfl⟩)), bz8.out⟩
          by_cases q4 : h3 < (0 : Int)
          · have HNA : Hid (¬ (rHdV l 0 0).addr) := by show ¬ _; rw [HHD.out]; intro h; obtain ⟨i1, i2, i3, i4, ⟨i5, i6⟩, i7, i8⟩ := h; dsimp only at *; omega
            clear hkn
            go_wp2_with (first
              | (refine wpList_store_row rfl 29 (.tmp 2) (.tmp 109) rfl w.heap.size #[.int .i64 0, .int .i64 0, .int .i64 0, .int .i64 0, .int .i64 0, .int .i64 0, .int .i64 0, .int .i64 0, .bool false, .slice none 0 0, .slice none 0 0] rfl rfl 29 _ hres.out (by kernel_rfl) rfl (by simp [Value.oneCell']) ?_))
            exact bodyPost_ret (results_msg rfl _ _ w.heap.size 29 _ _ _ rfl hz8.out Tryd.underlying29 rfl (by kernel_rfl)) rfl ⟨.inr (.inr (.inl ⟨HL.out, HE.out, HNA.out, rfl⟩)), bz8.out⟩
          by_cases q5 : (5 : Int) ≤ h3
          · have HNA : Hid (¬ (rHdV l 0 0).addr) := by show ¬ _; rw [HHD.out]; intro h; obtain ⟨i1, i2, i3, i4, ⟨i5, i6⟩, i7, i8⟩ := h; dsimp only at *; omega
            clear hkn
            go_wp2_with (first
              | (refine wpList_store_row rfl 29 (.tmp 2) (.tmp 109) rfl w.heap.size #[.int .i64 0, .int .i64 0, .int .i64 0, .int .i64 0, .int .i64 0, .int .i64 0, .int .i64 0, .int .i64 0, .bool false, .slice none 0 0, .slice none 0 0] rfl rfl 29 _ hres.out (by kernel_rfl) rfl (by simp [Value.oneCell']) ?_))
            exact bodyPost_ret (results_msg rfl _ _ w.heap.size 29 _ _ _ rfl hz8.out Tryd.underlying29 rfl (by kernel_rfl)) rfl ⟨.inr (.inr (.inl ⟨HL.out, HE.out, HNA.out, rfl⟩)), bz8.out⟩
          by_cases q6 : h4 < (0 : Int)
          · have HNA : Hid (¬ (rHdV l 0 0).addr) := by show ¬ _; rw [HHD.out]; intro h; obtain ⟨i1, i2, i3, i4, ⟨i5, i6⟩, i7, i8⟩ := h; dsimp only at *; omega
            clear hkn
            go_wp2_with (first
              | (refine wpList_store_row rfl 29 (.tmp 2) (.tmp 109) rfl w.heap.size #[.int .i64 0, .int .i64 0, .int .i64 0, .int .i64 0, .int .i64 0, .int .i64 0, .int .i64 0, .int .i64 0, .bool false, .slice none 0 0, .slice none 0 0] rfl rfl 29 _ hres.out (by kernel_rfl) rfl (by simp [Value.oneCell']) ?_))
            exact bodyPost_ret (results_msg rfl _ _ w.heap.size 29 _ _ _ rfl hz8.out Tryd.underlying29 rfl (by kernel_rfl)) rfl ⟨.inr (.inr (.inl ⟨HL.out, HE.out, HNA.out, rfl⟩)), bz8.out⟩
          by_cases q7 : (5 : Int) ≤ h4
          · have HNA : Hid (¬ (rHdV l 0 0).addr) := by show ¬ _; rw [HHD.out]; intro h; obtain ⟨i1, i2, i3, i4, ⟨i5, i6⟩, i7, i8⟩ := h; dsimp only at *; omega
            clear hkn
            go_wp2_with (first
              | (refine wpList_store_row rfl 29 (.tmp 2) (.tmp 109) rfl w.heap.size #[.int .i64 0, .int .i64 0, .int .i64 0, .int .i64 0, .int .i64 0, .int .i64 0, .int .i64 0, .int .i64 0, .bool false, .slice none 0 0, .slice none 0 0] rfl rfl 29 _ hres.out (by kernel_rfl) rfl (by simp [Value.oneCell']) ?_))
            exact bodyPost_ret (results_msg rfl _ _ w.heap.size 29 _ _ _ rfl hz8.out Tryd.underlying29 rfl (by kernel_rfl)) rfl ⟨.inr (.inr (.inl ⟨HL.out, HE.out, HNA.out, rfl⟩)), bz8.out⟩
          have HA : Hid (rHdV l 0 0).addr := by show HeadD.addr _; rw [HHD.out]; exact ⟨by dsimp only; omega, by dsimp only; omega, by dsimp only; omega, by dsimp only; omega, ⟨by dsimp only; omega, by dsimp only; omega⟩, by dsimp only; omega, by dsimp only; omega⟩
          have G0 := F8H.out.store 0 (.int .i64 h1)
          have G1 := G0.store 1 (.int .i64 h2)
          have G2 := G1.store 2 (.int .i64 h3)
          have G3 := G2.store 3 (.int .i64 h4)
          have j0 : w8.cell? ⟨M, 0, none⟩ = some (.int .i64 0) := (F8H.out.cell 0).1
          have j1 := (G0.cell 1).1
          have j2 := (G1.cell 2).1
          have j3 := (G2.cell 3).1
          have e0 := (F8H.out.cell 0).2
          have e1 := (G0.cell 1).2
          have e2 := (G1.cell 2).2
          have e3 := (G2.cell 3).2
          obtain ⟨W1, hW1⟩ : ∃ W1, w8.setCell ⟨M, 0, none⟩ (.int .i64 h1) = W1 := ⟨_, rfl⟩
          rw [hW1] at j1 e1 G0 G1 G2 G3 j2 e2 j3 e3
          obtain ⟨W2, hW2⟩ : ∃ W2, W1.setCell ⟨M, 1, none⟩ (.int .i64 h2) = W2 := ⟨_, rfl⟩
          rw [hW2] at G1 G2 G3 j2 e2 j3 e3
          obtain ⟨W3, hW3⟩ : ∃ W3, W2.setCell ⟨M, 2, none⟩ (.int .i64 h3) = W3 := ⟨_, rfl⟩
          rw [hW3] at G2 G3 j3 e3
          obtain ⟨W4, hW4⟩ : ∃ W4, W3.setCell ⟨M, 3, none⟩ (.int .i64 h4) = W4 := ⟨_, rfl⟩
          rw [hW4] at G3
          have hbox : Hid (W4.heap[M]? = some (.cells #[.int .i64 h1, .int .i64 h2, .int .i64 h3, .int .i64 h4, .int .i64 h5, .int .i64 h6, .int .i64 h7, .int .i64 h8, .bool h9, .slice va vn vc, .slice xa xn xc] 29 (0, 0))) := G3.box
          have hres4 : Hid (W4.heap[w.heap.size]? = some (.cells #[.int .i64 0, .int .i64 0, .int .i64 0, .int .i64 0, .int .i64 0, .int .i64 0, .int .i64 0, .int .i64 0, .bool false, .slice none 0 0, .slice none 0 0] 29 (0, 0))) := G3.res
          have j1' : W1.cell? ⟨M, 1, none⟩ = some (.int .i64 0) := j1
          have j2' : W2.cell? ⟨M, 2, none⟩ = some (.int .i64 0) := j2
          have j3' : W3.cell? ⟨M, 3, none⟩ = some (.int .i64 0) := j3
          have hzF : Hid ((W4.setRow w.heap.size #[.int .i64 h1, .int .i64 h2, .int .i64 h3, .int .i64 h4, .int .i64 h5, .int .i64 h6, .int .i64 h7, .int .i64 h8, .bool h9, .slice va vn vc, .slice xa xn xc]).heap[w.heap.size]? = some (.cells #[.int .i64 h1, .int .i64 h2, .int .i64 h3, .int .i64 h4, .int .i64 h5, .int .i64 h6, .int .i64 h7, .int .i64 h8, .bool h9, .slice va vn vc, .slice xa xn xc] 29 (0, 0))) := setRow_heap _ _ _ _ _ _ hres4.out
          have bzF : Hid (Below w.heap.size w (W4.setRow w.heap.size #[.int .i64 h1, .int .i64 h2, .int .i64 h3, .int .i64 h4, .int .i64 h5, .int .i64 h6, .int .i64 h7, .int .i64 h8, .bool h9, .slice va vn vc, .slice xa xn xc])) := Below.row G3.below (Nat.le_refl _)
          have mv : ∀ (t : TypeId) (s m : Nat) (v : Value) (xs : List Value), w8.ownsRow (M + 1) t s v m xs → (W4.setRow w.heap.size #[.int .i64 h1, .int .i64 h2, .int .i64 h3, .int .i64 h4, .int .i64 h5, .int .i64 h6, .int .i64 h7, .int .i64 h8, .bool h9, .slice va vn vc, .slice xa xn xc]).ownsRow w.heap.size t s v m xs := fun t s m v xs h => by
            have lR9 := F8H.out.lR
            have lM9 := F8H.out.lM
            have h2 := owns_setRow (owns_set (owns_set (owns_set (owns_set h ⟨M, 0, none⟩ (.int .i64 h1) (by show M < M + 1; omega)) ⟨M, 1, none⟩ (.int .i64 h2) (by show M < M + 1; omega)) ⟨M, 2, none⟩ (.int .i64 h3) (by show M < M + 1; omega)) ⟨M, 3, none⟩ (.int .i64 h4) (by show M < M + 1; omega)) w.heap.size #[.int .i64 h1, .int .i64 h2, .int .i64 h3, .int .i64 h4, .int .i64 h5, .int .i64 h6, .int .i64 h7, .int .i64 h8, .bool h9, .slice va vn vc, .slice xa xn xc] (by omega)
            rw [hW1, hW2, hW3, hW4] at h2
            exact owns_mono' h2 (by omega)
          have OZ : Hid ((W4.setRow w.heap.size #[.int .i64 h1, .int .i64 h2, .int .i64 h3, .int .i64 h4, .int .i64 h5, .int .i64 h6, .int .i64 h7, .int .i64 h8, .bool h9, .slice va vn vc, .slice xa xn xc]).ownsRow w.heap.size 55 2 (.slice va vn vc) es.length (entCells es)) := by show World.ownsRow _ _ _ _ _ _ _; rw [HEL.out]; exact mv _ _ _ _ _ O8.out
          have EZ : Hid (∀ e ∈ es, EOwn (W4.setRow w.heap.size #[.int .i64 h1, .int .i64 h2, .int .i64 h3, .int .i64 h4, .int .i64 h5, .int .i64 h6, .int .i64 h7, .int .i64 h8, .bool h9, .slice va vn vc, .slice xa xn xc]) w.heap.size e) := fun e he => ⟨(E8.out e he).1, mv _ _ _ _ _ (E8.out e he).2⟩
          have DZ : Hid ((W4.setRow w.heap.size #[.int .i64 h1, .int .i64 h2, .int .i64 h3, .int .i64 h4, .int .i64 h5, .int .i64 h6, .int .i64 h7, .int .i64 h8, .bool h9, .slice va vn vc, .slice xa xn xc]).ownsRow w.heap.size 5 1 (.slice xa xn xc) (unD l).1.length (cellsOf (unD l).1)) := by show World.ownsRow _ _ _ _ _ _ _; rw [← HDD.out hkn, XN.out]; exact mv _ _ _ _ _ D8.out
          have EM : Hid (es.map Prod.fst = (unE l).1) := by show _ = _; rw [← HEE.out hkn]; exact HEM.out
          have LD : Hid ((unD l).1.length ≤ 65536) := by show _ ≤ _; rw [← HDD.out hkn, XN.out]; exact L6.out
          have HW1 : Hid _ := hW1
          have HW2 : Hid _ := hW2
          have HW3 : Hid _ := hW3
          have HW4 : Hid _ := hW4
          clear G0 G1 G2 G3 mv hW1 hW2 hW3 hW4 j1 j2 j3 hkn
          dsimp only
          repeat
            (fail_if_success (guard_target =~ (Code.region 28 _ _).wp _ _ _ _)
             first | go_values | go_skip | go_guarded | go_step | go_upon | go_back)
          rw [show _ = W1 from HW1.out]
          repeat
            (fail_if_success (guard_target =~ (Code.region 29 _ _).wp _ _ _ _)
             first | go_values | go_skip | go_guarded | go_step | go_upon | go_back)
          rw [show _ = W2 from HW2.out]
          repeat
            (fail_if_success (guard_target =~ (Code.region 30 _ _).wp _ _ _ _)
             first | go_values | go_skip | go_guarded | go_step | go_upon | go_back)
          rw [show _ = W3 from HW3.out]
          repeat
            (fail_if_success (guard_target =~ (Code.region 31 _ _).wp _ _ _ _)
             first | go_values | go_skip | go_guarded | go_step | go_upon | go_back)
          rw [show _ = W4 from HW4.out]
          go_wp2_with (first
            | (refine wpList_load_row rfl 29 (.tmp 5) rfl M rfl 29 _ (0, 0) _ hbox.out Tryd.underlying29 rfl (by kernel_rfl) ?_)
            | (refine wpList_store_row rfl 29 (.tmp 2) (.tmp 118) rfl w.heap.size #[.int .i64 h1, .int .i64 h2, .int .i64 h3, .int .i64 h4, .int .i64 h5, .int .i64 h6, .int .i64 h7, .int .i64 h8, .bool h9, .slice va vn vc, .slice xa xn xc] rfl rfl 29 _ hres4.out (by kernel_rfl) rfl (by simp [Value.oneCell']) ?_))
          exact bodyPost_ret (results_msg rfl _ _ w.heap.size 29 _ _ _ rfl hzF.out Tryd.underlying29 rfl (by kernel_rfl)) rfl ⟨.inr (.inr (.inr ⟨HL.out, HE.out, HA.out, es, va, vn, vc, _, EM.out, by rw [HHD.out]; rfl, OZ.out, EZ.out, LD.out, DZ.out⟩)), bzF.out⟩
        · have hu' : ((E : Int) != 0) = true := by simp; omega
          have HUU : Hid (unEnd l ≠ 0) := by show _ ≠ _; rw [HE.out]; exact hu
          clear hu
          go_wp2_with (first
            | (refine wpList_store_row rfl 29 (.tmp 2) (.tmp 77) rfl w.heap.size #[.int .i64 0, .int .i64 0, .int .i64 0, .int .i64 0, .int .i64 0, .int .i64 0, .int .i64 0, .int .i64 0, .bool false, .slice none 0 0, .slice none 0 0] rfl rfl 29 _ hres.out (by kernel_rfl) rfl (by simp [Value.oneCell']) ?_))
          exact bodyPost_ret (results_msg rfl _ _ w.heap.size 29 _ _ _ rfl hz8.out Tryd.underlying29 rfl (by kernel_rfl)) rfl ⟨.inr (.inl ⟨HL.out, HUU.out, by rw [HE.out]; rfl⟩), bz8.out⟩
end Go.Proofs.YtpnnbkhlbohfbaaDoor
