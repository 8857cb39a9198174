/- Package mover: held. -/
import Derived.Test.YtfnjlnlmodhahaaMSmall
namespace Go.Proofs.Ytfnjlnlmodhahaa
open Go.RowKit
attribute [local go_sem] Oper.semAt_some
set_option linter.unusedVariables false

/-- A result, with its bytes. -/
structure ResD where
  why : Int
  wait : Bool
  rw : Int
  ra : Int
  rows : Value
  da : Option Addr
  dc : Nat
  l : List (BitVec 8)
def ResD.cells (r : ResD) : List Value := [.int .i64 r.why, .bool r.wait, .int .i64 r.rw, .int .i64 r.ra, r.rows, .slice r.da r.l.length r.dc]
/-- A result's bytes in memory. -/
structure ResIn (w : World) (r : ResD) : Prop where
  seen : Seen w r.da r.l.length r.l
  nil : r.da = none → r.dc = 0
  len : r.l.length ≤ 140737488351232
theorem ResIn.below {w w' : World} {r : ResD} (h : ResIn w r) (b : Below w.heap.size w w') : ResIn w' r := ⟨h.seen.below b, h.nil, h.len⟩
def heldM (M : MD) (r : ResD) : MD × Bool := if r.why = 0 then (⟨M.n, true, r.l, if M.has = true ∧ M.at_ ≤ r.l.length then M.at_ else 0⟩, true) else (M, false)
/-- The walk behind the test. -/
theorem held_done {w : World} {base : Bs} {G : Nat} {M : MD} {r : ResD} {a : Option Addr} {c : Nat} (hG : base.n ≤ G) (k : Nat) (hk : k ≤ r.l.length) (hl : r.l.length ≤ 140737488351232) (n : Int) (hh : Bool) (d : List (BitVec 8))
    (h1 : w.heap[G]? = some (.cells #[.int .i64 n, .bool hh, .slice a d.length c, .int .i64 (k : Int)] 74 (0, 0))) {B : Nat} {va : Option Addr} {vc : Nat} (ho : w.ownsRow B 5 1 (.slice va r.l.length vc) r.l.length (cellsOf r.l)) (hB : base.ok B) :
    MvIn ((w.setCell ⟨G, 1, none⟩ (.bool true)).setCell ⟨G, 2, none⟩ (.slice va r.l.length vc)) base G ⟨n, true, r.l, k⟩ ∧ OnlyR w ((w.setCell ⟨G, 1, none⟩ (.bool true)).setCell ⟨G, 2, none⟩ (.slice va r.l.length vc)) G := by
  have e1 : w.setCell ⟨G, 1, none⟩ (.bool true) = w.setRow G #[.int .i64 n, .bool true, .slice a d.length c, .int .i64 (k : Int)] := (setCell_eq_setRow w G 1 _ _ _ (.bool true) h1).trans rfl
  have h2 : (w.setRow G #[.int .i64 n, .bool true, .slice a d.length c, .int .i64 (k : Int)]).heap[G]? = some (.cells #[.int .i64 n, .bool true, .slice a d.length c, .int .i64 (k : Int)] 74 (0, 0)) := setRow_self h1
  have e2 := (setCell_eq_setRow _ G 2 _ _ _ (.slice va r.l.length vc) h2)
  rw [e1, e2, setRow_setRow]
  refine ⟨⟨⟨va, vc, setRow_self h1, owns_kept ?_ (fun g e => setRow_other _ _ _ _ ?_), fun g e => hB.2 g (row_kind ho e).1⟩, hG, hk, hl⟩, (OnlyR.refl w G).setRow _⟩
  · exact ⟨ho.1, ho.2.imp id (fun ⟨g, cp, cur, e1, e2, e3⟩ => ⟨g, cp, cur, e1, Nat.le_trans hB.1 e2, e3⟩)⟩
  · rintro rfl
    obtain ⟨_, _, cur, hc⟩ := row_kind ho e
    rw [h1] at hc
    injection hc with hc
    injection hc with _ hc
    exact absurd hc (by decide)
set_option maxRecDepth 100000 in
set_option maxHeartbeats 1600000 in
theorem held_any {w : World} {base : Bs} {G : Nat} {M : MD} (h : MvIn w base G M) (hb : base.ok w.heap.size) (r : ResD) (hr : ResIn w r) :
    Calls Try.prog 33 #[.pointer (some ⟨G, 0, none⟩), .agg #[.int .i64 r.why, .bool r.wait, .int .i64 r.rw, .int .i64 r.ra, r.rows, .slice r.da r.l.length r.dc]] w fun e w' => e = .returned (.bool (heldM M r).2) ∧ MvIn w' base G (heldM M r).1 ∧ OnlyR w w' G := by
  have bA : Below w.heap.size w (w.alloc (.cells #[.int .i64 r.why, .bool r.wait, .int .i64 r.rw, .int .i64 r.ra, r.rows, .slice r.da r.l.length r.dc] 46)) := (Below.refl _ w).alloc (Nat.le_refl _) _
  have hA := h.below bA
  have rA := hr.below bA
  have n1 := heap_alloc_new w (.cells #[.int .i64 r.why, .bool r.wait, .int .i64 r.rw, .int .i64 r.ra, r.rows, .slice r.da r.l.length r.dc] 46)
  by_cases hw : r.why = 0
  · have HE : Hid (heldM M r = (⟨M.n, true, r.l, if M.has = true ∧ M.at_ ≤ r.l.length then M.at_ else 0⟩, true)) := by show _ = _; unfold heldM; rw [if_pos hw]
    rw [HE.out]
    clear HE
    have HC := fun W (hW : Below (w.alloc (.cells #[.int .i64 r.why, .bool r.wait, .int .i64 r.rw, .int .i64 r.ra, r.rows, .slice r.da r.l.length r.dc] 46)).heap.size (w.alloc (.cells #[.int .i64 r.why, .bool r.wait, .int .i64 r.rw, .int .i64 r.ra, r.rows, .slice r.da r.l.length r.dc] 46)) W) => clone_any r.da r.l.length r.dc r.l W (rA.seen.below hW) rA.nil (by have := rA.len; omega)
    obtain ⟨why, wait, rw, ra, rows, da, dc, l⟩ := r
    dsimp only at *
    subst hw
    obtain ⟨a, c, g1, w1⟩ := hA.ex
    have hlt := h.lt
    have nG : G ≠ w.heap.size := by omega
    have G1 : Hid ((w.alloc (.cells #[.int .i64 0, .bool wait, .int .i64 rw, .int .i64 ra, rows, .slice da l.length dc] 46)).heap[G]? = some (.cells #[.int .i64 M.n, .bool M.has, .slice a M.d.length c, .int .i64 (M.at_ : Int)] 74 (0, 0))) := g1
    have HO : Hid (OnlyR w (w.alloc (.cells #[.int .i64 0, .bool wait, .int .i64 rw, .int .i64 ra, rows, .slice da l.length dc] 46)) G) := OnlyR.of_below bA G
    have HLN : Hid (l.length ≤ 140737488351232) := rA.len
    have HBG : Hid (base.n ≤ G) := h.bG
    have HBB : Hid (base.ok w.heap.size) := hb
    have y1 : (w.alloc (.cells #[.int .i64 0, .bool wait, .int .i64 rw, .int .i64 ra, rows, .slice da l.length dc] 46)).cell? ⟨G, 1, none⟩ = some (.bool M.has) := by simp only [World.cell?, g1]; rfl
    have y3 : (w.alloc (.cells #[.int .i64 0, .bool wait, .int .i64 rw, .int .i64 ra, rows, .slice da l.length dc] 46)).cell? ⟨G, 3, none⟩ = some (.int .i64 M.at_) := by simp only [World.cell?, g1]; rfl
    have y3f : (w.alloc (.cells #[.int .i64 0, .bool wait, .int .i64 rw, .int .i64 ra, rows, .slice da l.length dc] 46)).frozen? ⟨G, 3, none⟩ = false := by simp only [World.frozen?, g1]; rfl
    have hseen : Seen _ da l.length l := rA.seen
    have hnil : da = none → dc = 0 := rA.nil
    have hlen : l.length ≤ 140737488351232 := rA.len
    have hsetG0 : ∀ nq, (((w.alloc (.cells #[.int .i64 0, .bool wait, .int .i64 rw, .int .i64 ra, rows, .slice da l.length dc] 46)).drewN nq).setCell ⟨G, 3, none⟩ (.int .i64 0)).heap[G]? = some (.cells #[.int .i64 M.n, .bool M.has, .slice a M.d.length c, .int .i64 ((0 : Nat) : Int)] 74 (0, 0)) := fun nq => by
      rw [setCell_eq_setRow ((w.alloc (.cells #[.int .i64 0, .bool wait, .int .i64 rw, .int .i64 ra, rows, .slice da l.length dc] 46)).drewN nq) G 3 _ _ _ _ g1]
      exact setRow_self (show ((w.alloc (.cells #[.int .i64 0, .bool wait, .int .i64 rw, .int .i64 ra, rows, .slice da l.length dc] 46)).drewN nq).heap[G]? = _ from g1)
    have hset5 : ∀ nq, (((w.alloc (.cells #[.int .i64 0, .bool wait, .int .i64 rw, .int .i64 ra, rows, .slice da l.length dc] 46)).drewN nq).setCell ⟨G, 3, none⟩ (.int .i64 0)).cell? ⟨w.heap.size, 5, none⟩ = some (.slice da l.length dc) := fun nq => by
      have : (((w.alloc (.cells #[.int .i64 0, .bool wait, .int .i64 rw, .int .i64 ra, rows, .slice da l.length dc] 46)).drewN nq).setCell ⟨G, 3, none⟩ (.int .i64 0)).heap[w.heap.size]? = _ := (Below.heap_setCell _ _ _ _ (Ne.symm nG)).trans n1
      simp only [World.cell?, this]
      rfl
    have hsetS : ∀ nq, Seen (((w.alloc (.cells #[.int .i64 0, .bool wait, .int .i64 rw, .int .i64 ra, rows, .slice da l.length dc] 46)).drewN nq).setCell ⟨G, 3, none⟩ (.int .i64 0)) da l.length l := fun nq => by
      obtain ⟨s1, s2, s3⟩ := hseen
      refine ⟨s1, s2, s3.imp id ?_⟩
      rintro ⟨b, off, e1, hc⟩
      refine ⟨b, off, e1, fun j hj => ?_⟩
      have hq := hc j hj
      have hne : b ≠ G := fun e2 => by
        subst e2
        generalize off + j = i at hq
        simp only [World.cell?, g1] at hq
        match i, hq with
        | 0, hq => simp at hq
        | 1, hq => simp at hq
        | 2, hq => simp at hq
        | 3, hq => simp at hq
        | i + 4, hq => simp at hq
      have e3 : (((w.alloc (.cells #[.int .i64 0, .bool wait, .int .i64 rw, .int .i64 ra, rows, .slice da l.length dc] 46)).drewN nq).setCell ⟨G, 3, none⟩ (.int .i64 0)).heap[b]? = (w.alloc (.cells #[.int .i64 0, .bool wait, .int .i64 rw, .int .i64 ra, rows, .slice da l.length dc] 46)).heap[b]? := Below.heap_setCell _ _ _ _ hne
      simp only [World.cell?, e3]
      exact hq
    have HCl := fun W (hW : Seen W da l.length l) => clone_any da l.length dc l W hW hnil (by omega)
    clear HC
    have HS0 : Hid _ := hseen
    have HSS : Hid _ := hsetS
    have HSG : Hid _ := hsetG0
    clear h hr bA hA rA n1 g1 w1 hlt hb hseen hnil hlen hsetS hsetG0
    obtain ⟨hs, hhs⟩ : ∃ hs, M.has = hs := ⟨_, rfl⟩
    cases hs with
    | false =>
      have HIF : Hid ((if M.has = true ∧ M.at_ ≤ l.length then M.at_ else 0) = 0) := by show _ = _; rw [hhs]; simp
      rw [hhs] at y1
      rw [HIF.out]
      clear HIF
      go_enter Try.func33, Try.ntmps33
      go_wp2
      go_quiet (fail)
      rename_i nq
      go_wp2_with fail
      refine (HCl _ (HSS.out nq)).mono ?_
      rintro e w3 ⟨v, rfl, o3, b3⟩
      obtain ⟨va, vc, rfl, _⟩ := owned_seen o3 (by have := HLN.out; unfold maxLen; omega)
      have gV : (((w.alloc (.cells #[.int .i64 0, .bool wait, .int .i64 rw, .int .i64 ra, rows, .slice da l.length dc] 46)).drewN nq).setCell ⟨G, 3, none⟩ (.int .i64 0)).heap[G]? = _ := HSG.out nq
      have oV : OnlyR w (((w.alloc (.cells #[.int .i64 0, .bool wait, .int .i64 rw, .int .i64 ra, rows, .slice da l.length dc] 46)).drewN nq).setCell ⟨G, 3, none⟩ (.int .i64 0)) G := (HO.out.drewN nq).set 3 _
      have bG : w3.heap[G]? = some (.cells #[.int .i64 M.n, .bool M.has, .slice a M.d.length c, .int .i64 ((0 : Nat) : Int)] 74 (0, 0)) := (b3.block _ (Array.getElem?_eq_some_iff.1 gV).1).trans gV
      have o5 := oV.trans (OnlyR.of_below b3 G)
      have hD := held_done (r := ⟨0, wait, rw, ra, rows, da, dc, l⟩) (M := M) HBG.out 0 (Nat.zero_le _) HLN.out M.n M.has M.d bG o3 (HBB.out.mono oV.size)
      have z1 : w3.cell? ⟨G, 1, none⟩ = some (.bool M.has) := by simp only [World.cell?, bG]; rfl
      have f1 : w3.frozen? ⟨G, 1, none⟩ = false := by simp only [World.frozen?, bG]; rfl
      have bG2 : (w3.setCell ⟨G, 1, none⟩ (.bool true)).heap[G]? = some (.cells #[.int .i64 M.n, .bool true, .slice a M.d.length c, .int .i64 ((0 : Nat) : Int)] 74 (0, 0)) := by rw [setCell_eq_setRow w3 G 1 _ _ _ _ bG]; exact setRow_self bG
      have z2 : (w3.setCell ⟨G, 1, none⟩ (.bool true)).cell? ⟨G, 2, none⟩ = some (.slice a M.d.length c) := by simp only [World.cell?, bG2]; rfl
      have f2 : (w3.setCell ⟨G, 1, none⟩ (.bool true)).frozen? ⟨G, 2, none⟩ = false := by simp only [World.frozen?, bG2]; rfl
      have HD : Hid _ := hD
      have O5 : Hid _ := o5
      clear hD bG bG2 o5 oV gV o3 b3 HCl y1 y3 y3f hset5
      go_wp2
      go_ret
      exact ⟨rfl, HD.out.1, O5.out.trans HD.out.2⟩
    | true =>
      rw [hhs] at y1
      by_cases ha : M.at_ ≤ l.length
      · have HIF : Hid ((if M.has = true ∧ M.at_ ≤ l.length then M.at_ else 0) = M.at_) := by show _ = _; rw [if_pos ⟨hhs, ha⟩]
        have HAT : Hid (M.at_ ≤ l.length) := ha
        have hd : ¬ l.length < M.at_ := by omega
        clear ha
        rw [HIF.out]
        clear HIF
        go_enter Try.func33, Try.ntmps33
        go_wp2
        go_quiet (fail)
        rename_i nq
        go_wp2_with fail
        refine (HCl ((w.alloc (.cells #[.int .i64 0, .bool wait, .int .i64 rw, .int .i64 ra, rows, .slice da l.length dc] 46)).drewN nq) ⟨rfl, HS0.out.2⟩).mono ?_
        rintro e w3 ⟨v, rfl, o3, b3⟩
        obtain ⟨va, vc, rfl, _⟩ := owned_seen o3 (by have := HLN.out; unfold maxLen; omega)
        have gV : ((w.alloc (.cells #[.int .i64 0, .bool wait, .int .i64 rw, .int .i64 ra, rows, .slice da l.length dc] 46)).drewN nq).heap[G]? = _ := G1.out
        have oV : OnlyR w ((w.alloc (.cells #[.int .i64 0, .bool wait, .int .i64 rw, .int .i64 ra, rows, .slice da l.length dc] 46)).drewN nq) G := HO.out.drewN nq
        have bG : w3.heap[G]? = some (.cells #[.int .i64 M.n, .bool M.has, .slice a M.d.length c, .int .i64 ((M.at_ : Nat) : Int)] 74 (0, 0)) := (b3.block _ (Array.getElem?_eq_some_iff.1 gV).1).trans gV
        have o5 := oV.trans (OnlyR.of_below b3 G)
        have hD := held_done (r := ⟨0, wait, rw, ra, rows, da, dc, l⟩) (M := M) HBG.out M.at_ (HAT.out) HLN.out M.n M.has M.d bG o3 (HBB.out.mono oV.size)
        have z1 : w3.cell? ⟨G, 1, none⟩ = some (.bool M.has) := by simp only [World.cell?, bG]; rfl
        have f1 : w3.frozen? ⟨G, 1, none⟩ = false := by simp only [World.frozen?, bG]; rfl
        have bG2 : (w3.setCell ⟨G, 1, none⟩ (.bool true)).heap[G]? = some (.cells #[.int .i64 M.n, .bool true, .slice a M.d.length c, .int .i64 ((M.at_ : Nat) : Int)] 74 (0, 0)) := by rw [setCell_eq_setRow w3 G 1 _ _ _ _ bG]; exact setRow_self bG
        have z2 : (w3.setCell ⟨G, 1, none⟩ (.bool true)).cell? ⟨G, 2, none⟩ = some (.slice a M.d.length c) := by simp only [World.cell?, bG2]; rfl
        have f2 : (w3.setCell ⟨G, 1, none⟩ (.bool true)).frozen? ⟨G, 2, none⟩ = false := by simp only [World.frozen?, bG2]; rfl
        have HD : Hid _ := hD
        have O5 : Hid _ := o5
        clear hD bG bG2 o5 oV gV o3 b3 HCl y1 y3 y3f hset5
        go_wp2
        go_ret
        exact ⟨rfl, HD.out.1, O5.out.trans HD.out.2⟩
      · have HIF : Hid ((if M.has = true ∧ M.at_ ≤ l.length then M.at_ else 0) = 0) := by show _ = _; rw [if_neg (fun e => ha e.2)]
        have hd : l.length < M.at_ := by omega
        clear ha
        rw [HIF.out]
        clear HIF
        go_enter Try.func33, Try.ntmps33
        go_wp2
        go_quiet (fail)
        rename_i nq
        go_wp2_with fail
        refine (HCl _ (HSS.out nq)).mono ?_
        rintro e w3 ⟨v, rfl, o3, b3⟩
        obtain ⟨va, vc, rfl, _⟩ := owned_seen o3 (by have := HLN.out; unfold maxLen; omega)
        have gV : (((w.alloc (.cells #[.int .i64 0, .bool wait, .int .i64 rw, .int .i64 ra, rows, .slice da l.length dc] 46)).drewN nq).setCell ⟨G, 3, none⟩ (.int .i64 0)).heap[G]? = _ := HSG.out nq
        have oV : OnlyR w (((w.alloc (.cells #[.int .i64 0, .bool wait, .int .i64 rw, .int .i64 ra, rows, .slice da l.length dc] 46)).drewN nq).setCell ⟨G, 3, none⟩ (.int .i64 0)) G := (HO.out.drewN nq).set 3 _
        have bG : w3.heap[G]? = some (.cells #[.int .i64 M.n, .bool M.has, .slice a M.d.length c, .int .i64 ((0 : Nat) : Int)] 74 (0, 0)) := (b3.block _ (Array.getElem?_eq_some_iff.1 gV).1).trans gV
        have o5 := oV.trans (OnlyR.of_below b3 G)
        have hD := held_done (r := ⟨0, wait, rw, ra, rows, da, dc, l⟩) (M := M) HBG.out 0 (Nat.zero_le _) HLN.out M.n M.has M.d bG o3 (HBB.out.mono oV.size)
        have z1 : w3.cell? ⟨G, 1, none⟩ = some (.bool M.has) := by simp only [World.cell?, bG]; rfl
        have f1 : w3.frozen? ⟨G, 1, none⟩ = false := by simp only [World.frozen?, bG]; rfl
        have bG2 : (w3.setCell ⟨G, 1, none⟩ (.bool true)).heap[G]? = some (.cells #[.int .i64 M.n, .bool true, .slice a M.d.length c, .int .i64 ((0 : Nat) : Int)] 74 (0, 0)) := by rw [setCell_eq_setRow w3 G 1 _ _ _ _ bG]; exact setRow_self bG
        have z2 : (w3.setCell ⟨G, 1, none⟩ (.bool true)).cell? ⟨G, 2, none⟩ = some (.slice a M.d.length c) := by simp only [World.cell?, bG2]; rfl
        have f2 : (w3.setCell ⟨G, 1, none⟩ (.bool true)).frozen? ⟨G, 2, none⟩ = false := by simp only [World.frozen?, bG2]; rfl
        have HD : Hid _ := hD
        have O5 : Hid _ := o5
        clear hD bG bG2 o5 oV gV o3 b3 HCl y1 y3 y3f hset5
        go_wp2
        go_ret
        exact ⟨rfl, HD.out.1, O5.out.trans HD.out.2⟩
  · have HE : Hid (heldM M r = (M, false)) := by show _ = _; unfold heldM; rw [if_neg hw]
    rw [HE.out]
    have hne : (r.why != 0) = true := by simpa using hw
    obtain ⟨why, wait, rw, ra, rows, da, dc, l⟩ := r
    have HA : Hid _ := hA
    have BA : Hid _ := bA
    dsimp only at *
    clear h hr bA hA rA n1 hw HE
    go_enter Try.func33, Try.ntmps33
    go_wp2
    go_ret
    exact ⟨rfl, HA.out, OnlyR.of_below BA.out G⟩
end Go.Proofs.Ytfnjlnlmodhahaa
