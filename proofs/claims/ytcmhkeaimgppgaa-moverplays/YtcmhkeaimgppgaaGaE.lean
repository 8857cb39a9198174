/- Package mover: held. -/
import Derived.Test.YtcmhkeaimgppgaaGaB
namespace Go.Proofs.Ytcmhkeaimgppgaa
open Go.RowKit
attribute [local go_sem] Oper.semAt_some
set_option linter.unusedVariables false

/-- A result, with its bytes. -/
structure ResD where
  why : Int
  wait : Bool
  rw : Int
  ra : Int
  rows : Value
  da : Option Addr
  dc : Nat
  l : List (BitVec 8)
def ResD.cells (r : ResD) : List Value := [.int .i64 r.why, .bool r.wait, .int .i64 r.rw, .int .i64 r.ra, r.rows, .slice r.da r.l.length r.dc]
/-- A result's bytes in memory. -/
structure ResIn (w : World) (r : ResD) : Prop where
  seen : Seen w r.da r.l.length r.l
  nil : r.da = none → r.dc = 0
  len : r.l.length ≤ 140737488351232
theorem ResIn.below {w w' : World} {r : ResD} (h : ResIn w r) (b : Below w.heap.size w w') : ResIn w' r := ⟨h.seen.below b, h.nil, h.len⟩
def heldM (M : MD) (r : ResD) : MD × Bool := if r.why = 0 then (⟨M.n, true, r.l, if M.has = true ∧ M.at_ ≤ r.l.length then M.at_ else 0⟩, true) else (M, false)
/-- The walk behind the test. -/
theorem held_done {w : World} {base : Bs} {G : Nat} {M : MD} {r : ResD} {a : Option Addr} {c : Nat} (hG : base.n ≤ G) (k : Nat) (hk : k ≤ r.l.length) (hl : r.l.length ≤ 140737488351232) (n : Int) (hh : Bool) (d : List (BitVec 8))
    (h1 : w.heap[G]? = some (.cells #[.int .i64 n, .bool hh, .slice a d.length c, .int .i64 (k : Int)] 74 (0, 0))) {B : Nat} {va : Option Addr} {vc : Nat} (ho : w.ownsRow B 5 1 (.slice va r.l.length vc) r.l.length (cellsOf r.l)) (hB : base.ok B) :
    MvIn ((w.setCell ⟨G, 1, none⟩ (.bool true)).setCell ⟨G, 2, none⟩ (.slice va r.l.length vc)) base G ⟨n, true, r.l, k⟩ ∧ OnlyR w ((w.setCell ⟨G, 1, none⟩ (.bool true)).setCell ⟨G, 2, none⟩ (.slice va r.l.length vc)) G := by
  have e1 : w.setCell ⟨G, 1, none⟩ (.bool true) = w.setRow G #[.int .i64 n, .bool true, .slice a d.length c, .int .i64 (k : Int)] := (setCell_eq_setRow w G 1 _ _ _ (.bool true) h1).trans rfl
  have h2 : (w.setRow G #[.int .i64 n, .bool true, .slice a d.length c, .int .i64 (k : Int)]).heap[G]? = some (.cells #[.int .i64 n, .bool true, .slice a d.length c, .int .i64 (k : Int)] 74 (0, 0)) := setRow_self h1
  have e2 := (setCell_eq_setRow _ G 2 _ _ _ (.slice va r.l.length vc) h2)
  rw [e1, e2, setRow_setRow]
  refine ⟨⟨⟨va, vc, setRow_self h1, owns_kept ?_ (fun g e => setRow_other _ _ _ _ ?_), fun g e => hB.2 g (row_kind ho e).1⟩, hG, hk, hl⟩, (OnlyR.refl w G).setRow _⟩
  · exact ⟨ho.1, ho.2.imp id (fun ⟨g, cp, cur, e1, e2, e3⟩ => ⟨g, cp, cur, e1, Nat.le_trans hB.1 e2, e3⟩)⟩
  · rintro rfl
    obtain ⟨_, _, cur, hc⟩ := row_kind ho e
    rw [h1] at hc
    injection hc with hc
    injection hc with _ hc
    exact absurd hc (by decide)
set_option maxRecDepth 100000 in
set_option maxHeartbeats 1600000 in
theorem held_any {w : World} {base : Bs} {G : Nat} {M : MD} (h : MvIn w base G M) (hb : base.ok w.heap.size) (r : ResD) (hr : ResIn w r) :
    Calls Try.prog 33 #[.pointer (some ⟨G, 0, none⟩), .agg #[.int .i64 r.why, .bool r.wait, .int .i64 r.rw, .int .i64 r.ra, r.rows, .slice r.da r.l.length r.dc]] w fun e w' => e = .returned (.bool (heldM M r).2) ∧ MvIn w' base G (heldM M r).1 ∧ OnlyR w w' G := by
  have bA : Below w.heap.size w (w.alloc (.cells #[.int .i64 r.why, .bool r.wait, .int .i64 r.rw, .int .i64 r.ra, r.rows, .slice r.da r.l.length r.dc] 57)) := (Below.refl _ w).alloc (Nat.le_refl _) _
  have hA := h.below bA
  have rA := hr.below bA
  have n1 := heap_alloc_new w (.cells #[.int .i64 r.why, .bool r.wait, .int .i64 r.rw, .int .i64 r.ra, r.rows, .slice r.da r.l.length r.dc] 57)
  by_cases hw : r.why = 0
  · have HE : Hid (heldM M r = (⟨M.n, true, r.l, if M.has = true ∧ M.at_ ≤ r.l.length then M.at_ else 0⟩, true)) := by show _ = _; unfold heldM; rw [if_pos hw]
    rw [HE.out]
    clear HE
    have HC := fun W (hW : Below (w.alloc (.cells #[.int .i64 r.why, .bool r.wait, .int .i64 r.rw, .int .i64 r.ra, r.rows, .slice r.da r.l.length r.dc] 57)).heap.size (w.alloc (.cells #[.int .i64 r.why, .bool r.wait, .int .i64 r.rw, .int .i64 r.ra, r.rows, .slice r.da r.l.length r.dc] 57)) W) => clone_any r.da r.l.length r.dc r.l W (rA.seen.below hW) rA.nil (by have := rA.len; omega)
    obtain ⟨why, wait, rw, ra, rows, da, dc, l⟩ := r
    dsimp only at *
    subst hw
    obtain ⟨a, c, g1, w1⟩ := hA.ex
    have hlt := h.lt
    have nG : G ≠ w.heap.size := by omega
    have G1 : Hid ((w.alloc (.cells #[.int .i64 0, .bool wait, .int .i64 rw, .int .i64 ra, rows, .slice da l.length dc] 57)).heap[G]? = some (.cells #[.int .i64 M.n, .bool M.has, .slice a M.d.length c, .int .i64 (M.at_ : Int)] 74 (0, 0))) := g1
    have HO : Hid (OnlyR w (w.alloc (.cells #[.int .i64 0, .bool wait, .int .i64 rw, .int .i64 ra, rows, .slice da l.length dc] 57)) G) := OnlyR.of_below bA G
    have HLN : Hid (l.length ≤ 140737488351232) := rA.len
    have HBG : Hid (base.n ≤ G) := h.bG
    have HBB : Hid (base.ok w.heap.size) := hb
    have y1 : (w.alloc (.cells #[.int .i64 0, .bool wait, .int .i64 rw, .int .i64 ra, rows, .slice da l.length dc] 57)).cell? ⟨G, 1, none⟩ = some (.bool M.has) := by simp only [World.cell?, g1]; rfl
    have y3 : (w.alloc (.cells #[.int .i64 0, .bool wait, .int .i64 rw, .int .i64 ra, rows, .slice da l.length dc] 57)).cell? ⟨G, 3, none⟩ = some (.int .i64 M.at_) := by simp only [World.cell?, g1]; rfl
    have y3f : (w.alloc (.cells #[.int .i64 0, .bool wait, .int .i64 rw, .int .i64 ra, rows, .slice da l.length dc] 57)).frozen? ⟨G, 3, none⟩ = false := by simp only [World.frozen?, g1]; rfl
    have hseen : Seen _ da l.length l := rA.seen
    have hnil : da = none → dc = 0 := rA.nil
    have hlen : l.length ≤ 140737488351232 := rA.len
    have hsetG0 : ∀ nq, (((w.alloc (.cells #[.int .i64 0, .bool wait, .int .i64 rw, .int .i64 ra, rows, .slice da l.length dc] 57)).drewN nq).setCell ⟨G, 3, none⟩ (.int .i64 0)).heap[G]? = some (.cells #[.int .i64 M.n, .bool M.has, .slice a M.d.length c, .int .i64 ((0 : Nat) : Int)] 74 (0, 0)) := fun nq => by
      rw [setCell_eq_setRow ((w.alloc (.cells #[.int .i64 0, .bool wait, .int .i64 rw, .int .i64 ra, rows, .slice da l.length dc] 57)).drewN nq) G 3 _ _ _ _ g1]
      exact setRow_self (show ((w.alloc (.cells #[.int .i64 0, .bool wait, .int .i64 rw, .int .i64 ra, rows, .slice da l.length dc] 57)).drewN nq).heap[G]? = _ from g1)
    have hset5 : ∀ nq, (((w.alloc (.cells #[.int .i64 0, .bool wait, .int .i64 rw, .int .i64 ra, rows, .slice da l.length dc] 57)).drewN nq).setCell ⟨G, 3, none⟩ (.int .i64 0)).cell? ⟨w.heap.size, 5, none⟩ = some (.slice da l.length dc) := fun nq => by
      have : (((w.alloc (.cells #[.int .i64 0, .bool wait, .int .i64 rw, .int .i64 ra, rows, .slice da l.length dc] 57)).drewN nq).setCell ⟨G, 3, none⟩ (.int .i64 0)).heap[w.heap.size]? = _ := (Below.heap_setCell _ _ _ _ (Ne.symm nG)).trans n1
      simp only [World.cell?, this]
      rfl
    have hsetS : ∀ nq, Seen (((w.alloc (.cells #[.int .i64 0, .bool wait, .int .i64 rw, .int .i64 ra, rows, .slice da l.length dc] 57)).drewN nq).setCell ⟨G, 3, none⟩ (.int .i64 0)) da l.length l := fun nq => by
      obtain ⟨s1, s2, s3⟩ := hseen
      refine ⟨s1, s2, s3.imp id ?_⟩
      rintro ⟨b, off, e1, hc⟩
      refine ⟨b, off, e1, fun j hj => ?_⟩
      have hq := hc j hj
      have hne : b ≠ G := fun e2 => by
        subst e2
        generalize off + j = i at hq
        simp only [World.cell?, g1] at hq
        match i, hq with
        | 0, hq => simp at hq
        | 1, hq => simp at hq
        | 2, hq => simp at hq
        | 3, hq => simp at hq
        | i + 4, hq => simp at hq
      have e3 : (((w.alloc (.cells #[.int .i64 0, .bool wait, .int .i64 rw, .int .i64 ra, rows, .slice da l.length dc] 57)).drewN nq).setCell ⟨G, 3, none⟩ (.int .i64 0)).heap[b]? = (w.alloc (.cells #[.int .i64 0, .bool wait, .int .i64 rw, .int .i64 ra, rows, .slice da l.length dc] 57)).heap[b]? := Below.heap_setCell _ _ _ _ hne
      simp only [World.cell?, e3]
      exact hq
    have HCl := fun W (hW : Seen W da l.length l) => clone_any da l.length dc l W hW hnil (by omega)
    clear HC
    have HS0 : Hid _ := hseen
    have HSS : Hid _ := hsetS
    have HSG : Hid _ := hsetG0
    clear h hr bA hA rA n1 g1 w1 hlt hb hseen hnil hlen hsetS hsetG0
    obtain ⟨hs, hhs⟩ : ∃ hs, M.has = hs := ⟨_, rfl⟩
    cases hs with
    | false =>
      have HIF : Hid ((if M.has = true ∧ M.at_ ≤ l.length then M.at_ else 0) = 0) := by show _ = _; rw [hhs]; simp
      rw [hhs] at y1
      rw [HIF.out]
      clear HIF
      go_enter Try.func33, Try.ntmps33
      go_wp2
      go_quiet (fail)
      rename_i nq
      go_wp2_with fail
      refine (HCl _ (HSS.out nq)).mono ?_
      rintro e w3 ⟨v, rfl, o3, b3⟩
      obtain ⟨va, vc, rfl, _⟩ := owned_seen o3 (by have := HLN.out; unfold maxLen; omega)
      have gV : (((w.alloc (.cells #[.int .i64 0, .bool wait, .int .i64 rw, .int .i64 ra, rows, .slice da l.length dc] 57)).drewN nq).setCell ⟨G, 3, none⟩ (.int .i64 0)).heap[G]? = _ := HSG.out nq
      have oV : OnlyR w (((w.alloc (.cells #[.int .i64 0, .bool wait, .int .i64 rw, .int .i64 ra, rows, .slice da l.length dc] 57)).drewN nq).setCell ⟨G, 3, none⟩ (.int .i64 0)) G := (HO.out.drewN nq).set 3 _
      have bG : w3.heap[G]? = some (.cells #[.int .i64 M.n, .bool M.has, .slice a M.d.length c, .int .i64 ((0 : Nat) : Int)] 74 (0, 0)) := (b3.block _ (Array.getElem?_eq_some_iff.1 gV).1).trans gV
      have o5 := oV.trans (OnlyR.of_below b3 G)
      have hD := held_done (r := ⟨0, wait, rw, ra, rows, da, dc, l⟩) (M := M) HBG.out 0 (Nat.zero_le _) HLN.out M.n M.has M.d bG o3 (HBB.out.mono oV.size)
      have z1 : w3.cell? ⟨G, 1, none⟩ = some (.bool M.has) := by simp only [World.cell?, bG]; rfl
      have f1 : w3.frozen? ⟨G, 1, none⟩ = false := by simp only [World.frozen?, bG]; rfl
      have bG2 : (w3.setCell ⟨G, 1, none⟩ (.bool true)).heap[G]? = some (.cells #[.int .i64 M.n, .bool true, .slice a M.d.length c, .int .i64 ((0 : Nat) : Int)] 74 (0, 0)) := by rw [setCell_eq_setRow w3 G 1 _ _ _ _ bG]; exact setRow_self bG
      have z2 : (w3.setCell ⟨G, 1, none⟩ (.bool true)).cell? ⟨G, 2, none⟩ = some (.slice a M.d.length c) := by simp only [World.cell?, bG2]; rfl
      have f2 : (w3.setCell ⟨G, 1, none⟩ (.bool true)).frozen? ⟨G, 2, none⟩ = false := by simp only [World.frozen?, bG2]; rfl
      have HD : Hid _ := hD
      have O5 : Hid _ := o5
      clear hD bG bG2 o5 oV gV o3 b3 HCl y1 y3 y3f hset5
      go_wp2
      go_ret
      exact ⟨rfl, HD.out.1, O5.out.trans HD.out.2⟩
    | true =>
      rw [hhs] at y1
      by_cases ha : M.at_ ≤ l.length
      · have HIF : Hid ((if M.has = true ∧ M.at_ ≤ l.length then M.at_ else 0) = M.at_) := by show _ = _; rw [if_pos ⟨hhs, ha⟩]
        have HAT : Hid (M.at_ ≤ l.length) := ha
        have hd : ¬ l.length < M.at_ := by omega
        clear ha
        rw [HIF.out]
        clear HIF
        go_enter Try.func33, Try.ntmps33
        go_wp2
        go_quiet (fail)
        rename_i nq
        go_wp2_with fail
        refine (HCl ((w.alloc (.cells #[.int .i64 0, .bool wait, .int .i64 rw, .int .i64 ra, rows, .slice da l.length dc] 57)).drewN nq) ⟨rfl, HS0.out.2⟩).mono ?_
        rintro e w3 ⟨v, rfl, o3, b3⟩
        obtain ⟨va, vc, rfl, _⟩ := owned_seen o3 (by have := HLN.out; unfold maxLen; omega)
        have gV : ((w.alloc (.cells #[.int .i64 0, .bool wait, .int .i64 rw, .int .i64 ra, rows, .slice da l.length dc] 57)).drewN nq).heap[G]? = _ := G1.out
        have oV : OnlyR w ((w.alloc (.cells #[.int .i64 0, .bool wait, .int .i64 rw, .int .i64 ra, rows, .slice da l.length dc] 57)).drewN nq) G := HO.out.drewN nq
        have bG : w3.heap[G]? = some (.cells #[.int .i64 M.n, .bool M.has, .slice a M.d.length c, .int .i64 ((M.at_ : Nat) : Int)] 74 (0, 0)) := (b3.block _ (Array.getElem?_eq_some_iff.1 gV).1).trans gV
        have o5 := oV.trans (OnlyR.of_below b3 G)
        have hD := held_done (r := ⟨0, wait, rw, ra, rows, da, dc, l⟩) (M := M) HBG.out M.at_ (HAT.out) HLN.out M.n M.has M.d bG o3 (HBB.out.mono oV.size)
        have z1 : w3.cell? ⟨G, 1, none⟩ = some (.bool M.has) := by simp only [World.cell?, bG]; rfl
        have f1 : w3.frozen? ⟨G, 1, none⟩ = false := by simp only [World.frozen?, bG]; rfl
        have bG2 : (w3.setCell ⟨G, 1, none⟩ (.bool true)).heap[G]? = some (.cells #[.int .i64 M.n, .bool true, .slice a M.d.length c, .int .i64 ((M.at_ : Nat) : Int)] 74 (0, 0)) := by rw [setCell_eq_setRow w3 G 1 _ _ _ _ bG]; exact setRow_self bG
        have z2 : (w3.setCell ⟨G, 1, none⟩ (.bool true)).cell? ⟨G, 2, none⟩ = some (.slice a M.d.length c) := by simp only [World.cell?, bG2]; rfl
        have f2 : (w3.setCell ⟨G, 1, none⟩ (.bool true)).frozen? ⟨G, 2, none⟩ = false := by simp only [World.frozen?, bG2]; rfl
        have HD : Hid _ := hD
        have O5 : Hid _ := o5
        clear hD bG bG2 o5 oV gV o3 b3 HCl y1 y3 y3f hset5
        go_wp2
        go_ret
        exact ⟨rfl, HD.out.1, O5.out.trans HD.out.2⟩
      · have HIF : Hid ((if M.has = true ∧ M.at_ ≤ l.length then M.at_ else 0) = 0) := by show _ = _; rw [if_neg (fun e => ha e.2)]
        have hd : l.length < M.at_ := by omega
        clear ha
        rw [HIF.out]
        clear HIF
        go_enter Try.func33, Try.ntmps33
        go_wp2
        go_quiet (fail)
        rename_i nq
        go_wp2_with fail
        refine (HCl _ (HSS.out nq)).mono ?_
        rintro e w3 ⟨v, rfl, o3, b3⟩
        obtain ⟨va, vc, rfl, _⟩ := owned_seen o3 (by have := HLN.out; unfold maxLen; omega)
        have gV : (((w.alloc (.cells #[.int .i64 0, .bool wait, .int .i64 rw, .int .i64 ra, rows, .slice da l.length dc] 57)).drewN nq).setCell ⟨G, 3, none⟩ (.int .i64 0)).heap[G]? = _ := HSG.out nq
        have oV : OnlyR w (((w.alloc (.cells #[.int .i64 0, .bool wait, .int .i64 rw, .int .i64 ra, rows, .slice da l.length dc] 57)).drewN nq).setCell ⟨G, 3, none⟩ (.int .i64 0)) G := (HO.out.drewN nq).set 3 _
        have bG : w3.heap[G]? = some (.cells #[.int .i64 M.n, .bool M.has, .slice a M.d.length c, .int .i64 ((0 : Nat) : Int)] 74 (0, 0)) := (b3.block _ (Array.getElem?_eq_some_iff.1 gV).1).trans gV
        have o5 := oV.trans (OnlyR.of_below b3 G)
        have hD := held_done (r := ⟨0, wait, rw, ra, rows, da, dc, l⟩) (M := M) HBG.out 0 (Nat.zero_le _) HLN.out M.n M.has M.d bG o3 (HBB.out.mono oV.size)
        have z1 : w3.cell? ⟨G, 1, none⟩ = some (.bool M.has) := by simp only [World.cell?, bG]; rfl
        have f1 : w3.frozen? ⟨G, 1, none⟩ = false := by simp only [World.frozen?, bG]; rfl
        have bG2 : (w3.setCell ⟨G, 1, none⟩ (.bool true)).heap[G]? = some (.cells #[.int .i64 M.n, .bool true, .slice a M.d.length c, .int .i64 ((0 : Nat) : Int)] 74 (0, 0)) := by rw [setCell_eq_setRow w3 G 1 _ _ _ _ bG]; exact setRow_self bG
        have z2 : (w3.setCell ⟨G, 1, none⟩ (.bool true)).cell? ⟨G, 2, none⟩ = some (.slice a M.d.length c) := by simp only [World.cell?, bG2]; rfl
        have f2 : (w3.setCell ⟨G, 1, none⟩ (.bool true)).frozen? ⟨G, 2, none⟩ = false := by simp only [World.frozen?, bG2]; rfl
        have HD : Hid _ := hD
        have O5 : Hid _ := o5
        clear hD bG bG2 o5 oV gV o3 b3 HCl y1 y3 y3f hset5
        go_wp2
        go_ret
        exact ⟨rfl, HD.out.1, O5.out.trans HD.out.2⟩
  · have HE : Hid (heldM M r = (M, false)) := by show _ = _; unfold heldM; rw [if_neg hw]
    rw [HE.out]
    have hne : (r.why != 0) = true := by simpa using hw
    obtain ⟨why, wait, rw, ra, rows, da, dc, l⟩ := r
    have HA : Hid _ := hA
    have BA : Hid _ := bA
    dsimp only at *
    clear h hr bA hA rA n1 hw HE
    go_enter Try.func33, Try.ntmps33
    go_wp2
    go_ret
    exact ⟨rfl, HA.out, OnlyR.of_below BA.out G⟩
end Go.Proofs.Ytcmhkeaimgppgaa

namespace Go.Proofs.Ytcmhkeaimgppgaa
open Go.RowKit
attribute [local go_sem] Oper.semAt_some
set_option linter.unusedVariables false

def installedM (M : MD) (cat : Int) (cn : Nat) (last : Bool) (why : Int) : MD × Bool :=
  if M.has = true ∧ cat = (M.at_ : Int) then (if why = 0 then (⟨M.n, M.has, M.d, if M.d.length < M.at_ + cn then M.d.length else M.at_ + cn⟩, last) else if why = 5 ∨ why = 3 then (⟨M.n, M.has, M.d, 0⟩, false) else (M, false)) else (M, false)
theorem set_at {w : World} {base : Bs} {G : Nat} {M : MD} (h : MvIn w base G M) (nq k : Nat) (hk : k ≤ M.d.length) : MvIn ((w.drewN nq).setCell ⟨G, 3, none⟩ (.int .i64 (k : Int))) base G ⟨M.n, M.has, M.d, k⟩ := by
  obtain ⟨a, c, g1, w1⟩ := h.ex
  have g2 : (w.drewN nq).heap[G]? = _ := g1
  have w2 : (w.drewN nq).ownsRow base.n 5 1 (.slice a M.d.length c) M.d.length (cellsOf M.d) := w1.1
  rw [setCell_eq_setRow (w.drewN nq) G 3 _ _ _ _ g2]
  refine ⟨⟨a, c, setRow_self g2, owns_kept w2 (fun g e => setRow_other _ _ _ _ ?_), w1.2⟩, h.bG, hk, h.len⟩
  rintro rfl
  obtain ⟨_, _, cur, hc⟩ := row_kind w2 e
  rw [g2] at hc
  injection hc with hc
  injection hc with _ hc
  exact absurd hc (by decide)
set_option maxRecDepth 100000 in
set_option maxHeartbeats 1600000 in
theorem installed_any {w : World} {base : Bs} {G : Nat} {M : MD} (h : MvIn w base G M) (C : List Value) (cat : Int) (last : Bool) (ca : Option Addr) (cn cc : Nat) (why : Int)
    (h14 : C[14]? = some (.int .i64 cat)) (h15 : C[15]? = some (.bool last)) (h16 : C[16]? = some (.slice ca cn cc)) (hcn : cn ≤ 140737488355328) :
    Calls Try.prog 34 #[.pointer (some ⟨G, 0, none⟩), .agg C.toArray, .int .i64 why] w fun e w' => e = .returned (.bool (installedM M cat cn last why).2) ∧ MvIn w' base G (installedM M cat cn last why).1 ∧ OnlyR w w' G := by
  have bA : Below w.heap.size w (w.alloc (.cells C.toArray 52)) := (Below.refl _ w).alloc (Nat.le_refl _) _
  have hA := h.below bA
  have n1 := heap_alloc_new w (.cells C.toArray 52)
  obtain ⟨a, c, g1, _⟩ := hA.ex
  have hlen := h.len
  have hfit := h.fits
  have y1 : (w.alloc (.cells C.toArray 52)).cell? ⟨G, 1, none⟩ = some (.bool M.has) := by simp only [World.cell?, g1]; rfl
  have y2 : (w.alloc (.cells C.toArray 52)).cell? ⟨G, 2, none⟩ = some (.slice a M.d.length c) := by simp only [World.cell?, g1]; rfl
  have y3 : (w.alloc (.cells C.toArray 52)).cell? ⟨G, 3, none⟩ = some (.int .i64 M.at_) := by simp only [World.cell?, g1]; rfl
  have y3f : (w.alloc (.cells C.toArray 52)).frozen? ⟨G, 3, none⟩ = false := by simp only [World.frozen?, g1]; rfl
  have x14 : (w.alloc (.cells C.toArray 52)).cell? ⟨w.heap.size, 14, none⟩ = some (.int .i64 cat) := by simp only [World.cell?, n1]; simpa using h14
  have x15 : (w.alloc (.cells C.toArray 52)).cell? ⟨w.heap.size, 15, none⟩ = some (.bool last) := by simp only [World.cell?, n1]; simpa using h15
  have x16 : (w.alloc (.cells C.toArray 52)).cell? ⟨w.heap.size, 16, none⟩ = some (.slice ca cn cc) := by simp only [World.cell?, n1]; simpa using h16
  have nG : w.heap.size ≠ G := by have := h.lt; omega
  have z15 : ∀ nq v, (((w.alloc (.cells C.toArray 52)).drewN nq).setCell ⟨G, 3, none⟩ v).cell? ⟨w.heap.size, 15, none⟩ = some (.bool last) := fun nq v => by
    have : (((w.alloc (.cells C.toArray 52)).drewN nq).setCell ⟨G, 3, none⟩ v).heap[w.heap.size]? = _ := (Below.heap_setCell _ _ _ _ nG).trans n1
    simp only [World.cell?, this]
    simpa using h15
  have HA : Hid (MvIn (w.alloc (.cells C.toArray 52)) base G M) := hA
  have HO : Hid (OnlyR w (w.alloc (.cells C.toArray 52)) G) := OnlyR.of_below bA G
  clear h bA hA n1 g1 h14 h15 h16 nG
  by_cases hh : M.has = true
  · rw [hh] at y1
    by_cases hc : cat = (M.at_ : Int)
    · subst hc
      by_cases h0 : why = 0
      · subst h0
        have e1 : installedM M M.at_ cn last 0 = (⟨M.n, M.has, M.d, if M.d.length < M.at_ + cn then M.d.length else M.at_ + cn⟩, last) := by unfold installedM; rw [if_pos ⟨hh, rfl⟩, if_pos rfl]
        rw [e1]
        clear e1
        have hw : wrap64 ((M.at_ : Int) + (cn : Int)) = (M.at_ : Int) + (cn : Int) := by unfold wrap64; omega
        by_cases hq : M.d.length < M.at_ + cn
        · rw [if_pos hq]
          have HK : Hid (M.d.length ≤ M.d.length) := Nat.le_refl _
          have hq1 : (M.d.length : Int) < (M.at_ : Int) + (cn : Int) := by omega
          go_enter Try.func34, Try.ntmps34
          go_wp2
          go_quiet (fail)
          rename_i nq
          go_wp2
          go_region
          go_wp2
          go_ret
          exact ⟨rfl, hh ▸ set_at HA.out (nq + 1) (M.d.length) HK.out, (HO.out.drewN (nq + 1)).set 3 _⟩
        · rw [if_neg hq]
          have HK : Hid (M.at_ + cn ≤ M.d.length) := by show _ ≤ _; omega
          have hq1 : ¬ (M.d.length : Int) < (M.at_ : Int) + (cn : Int) := by omega
          clear hq
          go_enter Try.func34, Try.ntmps34
          go_wp2
          go_quiet (fail)
          rename_i nq
          go_wp2
          go_region
          go_wp2
          go_ret
          exact ⟨rfl, hh ▸ set_at HA.out (nq + 1) (M.at_ + cn) HK.out, (HO.out.drewN (nq + 1)).set 3 _⟩
      · have d0 : (why == 0) = false := by simpa using h0
        by_cases h5 : why = 5
        · subst h5
          have e1 : installedM M M.at_ cn last 5 = (⟨M.n, M.has, M.d, 0⟩, false) := by unfold installedM; rw [if_pos ⟨hh, rfl⟩]; rfl
          rw [e1]
          go_enter Try.func34, Try.ntmps34
          go_wp2
          go_quiet (fail)
          rename_i nq
          go_wp2
          go_ret
          exact ⟨rfl, set_at HA.out nq 0 (Nat.zero_le _), (HO.out.drewN nq).set 3 _⟩
        · have d5 : (why == 5) = false := by simpa using h5
          by_cases h3 : why = 3
          · subst h3
            have e1 : installedM M M.at_ cn last 3 = (⟨M.n, M.has, M.d, 0⟩, false) := by unfold installedM; rw [if_pos ⟨hh, rfl⟩]; rfl
            rw [e1]
            go_enter Try.func34, Try.ntmps34
            go_wp2
            go_quiet (fail)
            rename_i nq
            go_wp2
            go_ret
            exact ⟨rfl, set_at HA.out nq 0 (Nat.zero_le _), (HO.out.drewN nq).set 3 _⟩
          · have d3 : (why == 3) = false := by simpa using h3
            have e1 : installedM M M.at_ cn last why = (M, false) := by unfold installedM; rw [if_pos ⟨hh, rfl⟩, if_neg h0, if_neg (by simp [h5, h3])]
            rw [e1]
            go_enter Try.func34, Try.ntmps34
            go_wp2
            go_quiet (fail)
            rename_i nq
            go_wp2
            go_ret
            exact ⟨rfl, HA.out.drewN nq, HO.out.drewN nq⟩
    · have e1 : installedM M cat cn last why = (M, false) := by unfold installedM; rw [if_neg (fun e => hc e.2)]
      rw [e1]
      have dc : (cat != (M.at_ : Int)) = true := by simpa using hc
      clear hc e1
      go_enter Try.func34, Try.ntmps34
      go_wp2
      go_quiet (fail)
      rename_i nq
      go_wp2
      go_ret
      exact ⟨rfl, HA.out.drewN nq, HO.out.drewN nq⟩
  · have e1 : installedM M cat cn last why = (M, false) := by unfold installedM; rw [if_neg (fun e => hh e.1)]
    rw [e1]
    have hf : M.has = false := by simpa using hh
    rw [hf] at y1
    clear hh hf e1
    go_enter Try.func34, Try.ntmps34
    go_wp2
    go_quiet (fail)
    rename_i nq
    go_wp2
    go_ret
    exact ⟨rfl, HA.out.drewN nq, HO.out.drewN nq⟩
end Go.Proofs.Ytcmhkeaimgppgaa

namespace Go.Proofs.Ytcmhkeaimgppgaa
open Go.RowKit
attribute [local go_sem] Oper.semAt_some
set_option linter.unusedVariables false

def learnM (M : MD) (ph kind cat : Int) (cn : Nat) (last : Bool) (r : ResD) : MD × Bool :=
  if kind = 8 then ((heldM M r).1, (heldM M r).2 && decide (ph = 1)) else if kind = 9 then installedM M cat cn last r.why else (M, decide (r.why = 0))
set_option maxRecDepth 100000 in
set_option maxHeartbeats 1600000 in
theorem learn_any {w : World} {base : Bs} {G : Nat} {M : MD} (h : MvIn w base G M) (hb : base.ok w.heap.size) (ph : Int) (C : List Value) (kind cat : Int) (last : Bool) (ca : Option Addr) (cn cc : Nat) (r : ResD) (hr : ResIn w r) (hC : C.length = 17)
    (h0 : C[0]? = some (.int .i64 kind)) (h14 : C[14]? = some (.int .i64 cat)) (h15 : C[15]? = some (.bool last)) (h16 : C[16]? = some (.slice ca cn cc)) (hcn : cn ≤ 140737488355328) :
    Calls Try.prog 26 #[.pointer (some ⟨G, 0, none⟩), .int .i64 ph, .agg C.toArray, .agg #[.int .i64 r.why, .bool r.wait, .int .i64 r.rw, .int .i64 r.ra, r.rows, .slice r.da r.l.length r.dc]] w fun e w' => e = .returned (.bool (learnM M ph kind cat cn last r).2) ∧ MvIn w' base G (learnM M ph kind cat cn last r).1 ∧ OnlyR w w' G := by
  have bA : Below w.heap.size w ((w.alloc (.cells C.toArray 52)).alloc (.cells #[.int .i64 r.why, .bool r.wait, .int .i64 r.rw, .int .i64 r.ra, r.rows, .slice r.da r.l.length r.dc] 57)) := ((Below.refl _ w).alloc (Nat.le_refl _) _).alloc (by simp) _
  have hA := h.below bA
  have HH := held_any hA (hb.mono bA.size) r (hr.below bA)
  have HI := installed_any hA C cat last ca cn cc r.why h14 h15 h16 hcn
  have q2 := heap_two w (.cells C.toArray 52) (.cells #[.int .i64 r.why, .bool r.wait, .int .i64 r.rw, .int .i64 r.ra, r.rows, .slice r.da r.l.length r.dc] 57)
  have q1 : ((w.alloc (.cells C.toArray 52)).alloc (.cells #[.int .i64 r.why, .bool r.wait, .int .i64 r.rw, .int .i64 r.ra, r.rows, .slice r.da r.l.length r.dc] 57)).heap[w.heap.size]? = some (.cells C.toArray 52 (0, 0)) := by rw [Below.heap_alloc _ _ _ (by simp), heap_alloc_new]
  have x0 : ((w.alloc (.cells C.toArray 52)).alloc (.cells #[.int .i64 r.why, .bool r.wait, .int .i64 r.rw, .int .i64 r.ra, r.rows, .slice r.da r.l.length r.dc] 57)).cell? ⟨w.heap.size, 0, none⟩ = some (.int .i64 kind) := by simp only [World.cell?, q1]; simpa using h0
  have oA := OnlyR.of_below bA G
  have hsz : (Try.prog.info? 52).map (·.size) = some C.toArray.size := by
    have : (Try.prog.info? 52).map (·.size) = some 17 := by kernel_rfl
    rw [this]
    simp [hC]
  have Q1 : Hid _ := q1
  have Q2 : Hid _ := q2
  have OA : Hid _ := oA
  have HA : Hid _ := hA
  have HSZ : Hid _ := hsz
  clear h hb hr hC h0 h14 h15 h16 hcn bA hA q1 q2 oA hsz
  by_cases h8 : kind = 8
  · subst h8
    have e1 : learnM M ph 8 cat cn last r = ((heldM M r).1, (heldM M r).2 && decide (ph = 1)) := rfl
    rw [e1]
    clear e1 HI
    obtain ⟨b, hb⟩ : ∃ b, (heldM M r).2 = b := ⟨_, rfl⟩
    rw [hb] at HH ⊢
    clear hb
    generalize (heldM M r).1 = M2 at *
    obtain ⟨why, wait, rw, ra, rows, da, dc, l⟩ := r
    dsimp only at *
    go_enter Try.func26, Try.ntmps26
    go_wp2_with (first | (refine wpList_load_row rfl 57 (.tmp 7) rfl (w.heap.size + 1) rfl 57 _ (0, 0) _ Q2.out Try.underlying57 rfl (by kernel_rfl) ?_))
    refine HH.mono ?_
    rintro e w2 ⟨rfl, h2, o2⟩
    have O2 : Hid _ := OA.out.trans o2
    have H2 : Hid _ := h2
    clear HH h2 o2 x0
    cases b
    · go_wp2
      go_ret
      exact ⟨rfl, H2.out, O2.out⟩
    · go_wp2
      go_ret
      exact ⟨by simp; rfl, H2.out, O2.out⟩
  · have d8 : (kind == 8) = false := by simpa using h8
    by_cases h9 : kind = 9
    · subst h9
      have e1 : learnM M ph 9 cat cn last r = installedM M cat cn last r.why := rfl
      rw [e1]
      clear e1 HH
      generalize installedM M cat cn last r.why = MI at *
      obtain ⟨why, wait, rw, ra, rows, da, dc, l⟩ := r
      dsimp only at *
      go_enter Try.func26, Try.ntmps26
      go_wp2_with (first | (refine wpList_load_row rfl 52 (.tmp 6) rfl w.heap.size rfl 52 _ (0, 0) _ Q1.out Try.underlying52 rfl HSZ.out ?_))
      refine HI.mono ?_
      rintro e w2 ⟨rfl, h2, o2⟩
      have O2 : Hid _ := OA.out.trans o2
      have H2 : Hid _ := h2
      clear HI h2 o2 x0
      go_wp2
      go_ret
      exact ⟨rfl, H2.out, O2.out⟩
    · have d9 : (kind == 9) = false := by simpa using h9
      have e1 : learnM M ph kind cat cn last r = (M, decide (r.why = 0)) := by unfold learnM; rw [if_neg h8, if_neg h9]
      rw [e1]
      clear e1 HH HI h8 h9
      obtain ⟨why, wait, rw, ra, rows, da, dc, l⟩ := r
      dsimp only at *
      go_enter Try.func26, Try.ntmps26
      go_wp2
      go_ret
      exact ⟨by simp; rfl, HA.out, OA.out⟩
end Go.Proofs.Ytcmhkeaimgppgaa
