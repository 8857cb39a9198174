/- DiskLoads: a disk of an image is the disk behind a crash. -/
import Derived.Test.YtaipnledcgdncaaDPure
import Derived.Test.YtaipnledcgdncaaDLoad
import Derived.Test.YtaipnledcgdncaaText
namespace Go.Proofs.Ytaipnledcgdncaa
open Go.RowKit
set_option linter.unusedVariables false

/-- A disk of the law's own. -/
structure Mine (w0 w : World) (m : DM) (n : Nat) (s : DS) : Prop where
  d : Dsk w m n s
  f : Fresh w0.heap.size m
  b : Below w0.heap.size w0 w
theorem Mine.done {w0 w w' : World} {m m' : DM} {n : Nat} {s s' : DS} (h : Mine w0 w m n s) (r : DoR w w' m m' n s') : Mine w0 w' m' n s' := ⟨r.d, h.f.next r.n h.b.size, h.b.trans (r.o.low h.f h.b.size)⟩
theorem Mine.below {w0 w w' : World} {m : DM} {n : Nat} {s : DS} (h : Mine w0 w m n s) (b : Below w.heap.size w w') : Mine w0 w' m n s := ⟨h.d.below b, h.f, h.b.trans (b.mono h.b.size)⟩
theorem Mine.drew {w0 w : World} {m : DM} {n : Nat} {s : DS} (h : Mine w0 w m n s) : Mine w0 w.drew m n s := h.below (Below.refl _ w).drew
/-- The cells of a script's call. -/
theorem OpsAt.at {w0 w : World} {a : Option Addr} {len : Nat} {os : List OpX} (h : OpsAt w0 a len os) (b : Below w0.heap.size w0 w) {k : Nat} (hk : k < os.length) : ∃ g off, a = some ⟨g, off, none⟩ ∧ w.cell? ⟨g, off + k * 4, none⟩ = some (.int .i64 os[k].k) ∧ w.cell? ⟨g, off + k * 4 + 1, none⟩ = some (.int .i64 os[k].n) ∧
    w.cell? ⟨g, off + k * 4 + 2, none⟩ = some (.slice os[k].ba os[k].b.length os[k].bc) ∧ w.cell? ⟨g, off + k * 4 + 3, none⟩ = some (.slice os[k].la os[k].zs.length os[k].lc) ∧ os[k].At w0 := by
  have h' := h.below b
  rcases h'.2.2 with e | ⟨g, off, rfl, hc⟩
  · have := h'.1; omega
  · rcases h.2.2 with e | ⟨g', off', e, hc'⟩
    · have := h.1; omega
    · obtain ⟨_, c0, c1, c2, c3⟩ := hc k hk
      exact ⟨g, off, rfl, c0, c1, c2, c3, (hc' k hk).1⟩
set_option maxRecDepth 100000 in
set_option maxHeartbeats 3200000 in
theorem loads_any (a : Option Addr) (len cap : Nat) (os : List OpX) (w : World) (h : OpsAt w a len os) (hz : ∀ o ∈ os, o.b.length ≤ 140737488351232) :
    Calls Try.prog 5 #[.slice a len cap] w fun e w' => e = .returned (.bool true) ∧ Below w.heap.size w w' := by
  have HN := new_any 5 w (by omega) (by omega)
  rw [show ((5 : Nat) : Int) = 5 from rfl] at HN
  have FA := fun k => runD_facts (newD_ok (n := 5) (by omega) (by omega)) (newD_even 5) rfl os k
  have ST := fun k => runD_step 5 (newD 5) os k
  have F0 : runD 5 (newD 5) (os.take 0) = newD 5 := rfl
  obtain ⟨s0, e0⟩ : ∃ s, newD 5 = s := ⟨_, rfl⟩
  rw [e0] at HN FA ST F0
  clear e0
  have HFA : Hid _ := FA
  have HST : Hid _ := ST
  have HF0 : Hid _ := F0
  have HO : Hid (OpsAt w a len os) := h
  have HZ : Hid (∀ o ∈ os, o.b.length ≤ 140737488351232) := hz
  have HL : Hid (len = os.length) := h.1
  clear FA ST F0 h hz
  go_enter Try.func5, Try.ntmps5
  go_wp2_with fail
  refine HN.mono ?_
  rintro e w1 ⟨m, rfl, d1, b1, f1⟩
  have M1 : Hid (Mine w w1 m 5 s0) := ⟨d1, f1, b1⟩
  clear HN d1 b1 f1
  obtain ⟨D, eD⟩ : ∃ D, m.D = D := ⟨_, rfl⟩
  have ED : Hid (m.D = D) := eD
  rw [eD]
  clear eD
  go_wp2_with fail
  go_loopw [5] (fun i wr => ∃ (k : Nat) (mr : DM), i = .int .i64 k ∧ Hid (k ≤ len ∧ k ≤ 60) ∧ Hid (mr.D = D) ∧ Hid (Mine w wr mr 5 (runD 5 s0 (os.take k)))) (fun i _ => 60 - (intOf i).toNat)
  case atStart => exact ⟨0, m, rfl, ⟨Nat.zero_le _, Nat.zero_le _⟩, ED.out, by rw [HF0.out]; exact M1.out⟩
  case round =>
    clear ED M1 m
    obtain ⟨k, m, rfl, hk, hD, hM⟩ := hrel
    by_cases hlt : k < len ∧ k < 60
    · have hko : k < os.length := by have := HL.out; omega
      obtain ⟨g, off, rfl, c0, c1, c2, c3, hat⟩ := HO.out.at hM.out.b hko
      have es := HST.out k hko
      have hz1 := HZ.out _ (List.getElem_mem hko)
      obtain ⟨o, eo⟩ : ∃ o, os[k] = o := ⟨_, rfl⟩
      rw [eo] at c0 c1 c2 c3 hat es hz1
      have HD := do_any m 5 _ o w wr hM.out.d hM.out.b hat hM.out.f (by have := (HFA.out k (by omega) (by have := hlt.2; omega)).2.2; have := hlt.2; omega) (by omega)
      rw [hD.out] at HD
      have h1 : (k : Int) < (len : Int) := by omega
      have h2 : (k : Int) < 60 := by omega
      have HLT : Hid (k < len ∧ k < 60) := hlt
      have ES : Hid _ := es
      have WK : Hid ((k : Int) + 1 = ((k + 1 : Nat) : Int)) := by show (k : Int) + 1 = ((k + 1 : Nat) : Int); omega
      clear hlt hko eo hz1 es hat hk
      go_wp2_with fail
      refine HD.mono ?_
      rintro e w2 ⟨m2, rfl, r⟩
      have M2 : Hid (Mine w w2 m2 5 (runD 5 s0 (os.take (k + 1)))) := by rw [ES.out]; exact hM.out.done r
      have D2 : Hid (m2.D = D) := r.D.trans hD.out
      clear r HD hM hD ES
      go_wp2
      rw [WK.out]
      go_roundw
      case rel => exact ⟨k + 1, m2, rfl, ⟨HLT.out.1, HLT.out.2⟩, D2.out, M2.out⟩
      case measure => exact less_by HLT.out.2
    · have hx : ¬ (k : Int) < (len : Int) ∨ ((k : Int) < (len : Int) ∧ ¬ (k : Int) < 60) := by omega
      have FK := HFA.out k (by have := hk.out.1; have := HL.out; omega) (by have := hk.out.2; omega)
      obtain ⟨s, es⟩ : ∃ s, runD 5 s0 (os.take k) = s := ⟨_, rfl⟩
      rw [es] at FK hM
      have CN := crashD_now FK.1 FK.2.1 []
      have CI := crashD_none s
      have HI := fun W (d : Dsk W m 5 s) => image_any m 5 s W d
      rw [hD.out] at HI
      obtain ⟨t, et⟩ : ∃ t, crashD s [] = t := ⟨_, rfl⟩
      have T : Hid (crashD s [] = t ∧ t.now = s.img ∧ t.img = s.img ∧ t.ws = [] ∧ t.de = false) := ⟨et, by rw [← et, CN, CI], by rw [← et, CI], by rw [← et]; rfl, by rw [← et]; rfl⟩
      clear hlt FK es CN CI et HFA HST HF0 HO HZ HL hk
      rcases hx with h1 | ⟨h1, h2⟩
      all_goals
        go_wp2_with fail
        refine (HI _ hM.out.d).mono ?_
        rintro e w2 ⟨v, rfl, o2, b2⟩
        obtain ⟨gv, cv, rfl, zv⟩ := owns_form o2 (by omega)
        have SE := seen_owned o2 (hM.out.d.ok.li) (by unfold maxLen; omega)
        have M2 : Hid (Mine w w2 m 5 s) := hM.out.below b2
        have HLo := load_any (some ⟨gv, 0, none⟩) 5 cv s.img w2 (by omega) (by omega) SE (fun e => by cases e)
        clear zv o2 b2 SE
        go_wp2_with fail
        refine HLo.mono ?_
        rintro e w3 ⟨mc, rfl, d3, b3, f3⟩
        have M3 : Hid (Mine w w3 m 5 s) := M2.out.below b3
        have C3 : Hid (Mine w w3 mc 5 (loadD s.img)) := ⟨d3, fun k hk => Nat.le_trans M2.out.b.size (f3 k hk), M3.out.b⟩
        have AP : Hid (∀ k, mc.own k → ¬ m.own k) := fun k hk hm => by have := M2.out.d.lt hm; have := f3 k hk; omega
        have HCr := fun W (d : Dsk W m 5 s) => crash_any m 5 s none 0 0 [] W d ⟨rfl, by simp, (fun z hz => by cases hz), .inl rfl⟩ (fun y e => by cases e)
        rw [hD.out, T.out.1] at HCr
        clear d3 b3 f3 M2 HLo
        go_wp2_with fail
        refine (HCr _ M3.out.d).mono ?_
        rintro e w4 ⟨m4, rfl, eD4, d4, o4, n4⟩
        have M4 : Hid (Mine w w4 m4 5 t) := M3.out.done ⟨eD4.trans hD.out.symm, d4, o4, n4⟩
        have C4 : Hid (Mine w w4 mc 5 (loadD s.img)) := ⟨C3.out.d.same fun g hg => o4.block g (C3.out.d.lt hg) (AP.out g hg), C3.out.f, M4.out.b⟩
        have E4 : Hid (m4.D = D) := eD4
        have HRd := fun (i : Nat) (hi : i < 5) W (d : Dsk W m4 5 t) => read_any m4 5 t i W d hi
        have HRc := fun (i : Nat) (hi : i < 5) W (d : Dsk W mc 5 (loadD s.img)) => read_any mc 5 (loadD s.img) i W d hi
        have HId : ∀ W, Dsk W m4 5 t → Calls Try.prog 23 #[.pointer (some ⟨m4.D, 0, none⟩)] W fun e w' => ∃ v, e = .returned v ∧ w'.ownsRow W.heap.size 5 1 v 1280 (cellsOf t.img) ∧ Below W.heap.size W w' := fun W d => image_any m4 5 t W d
        have HIc : ∀ W, Dsk W mc 5 (loadD s.img) → Calls Try.prog 23 #[.pointer (some ⟨mc.D, 0, none⟩)] W fun e w' => ∃ v, e = .returned v ∧ w'.ownsRow W.heap.size 5 1 v 1280 (cellsOf s.img) ∧ Below W.heap.size W w' := fun W d => image_any mc 5 (loadD s.img) W d
        have LEN : Hid (s.img.length = 1280) := C3.out.d.ok.li
        have ts := text_self (textOf s.img)
        have HDd := fun W (d : Dsk W m4 5 t) => dead_any m4 5 t W d
        have HUd := fun W (d : Dsk W m4 5 t) => unsynced_any m4 5 t W d
        rw [E4.out] at HRd HId HDd HUd
        rw [T.out.2.2.1] at HId
        rw [T.out.2.2.2.2] at HDd
        rw [T.out.2.2.2.1] at HUd
        have er : ∀ i, readD t i = sec s.img i := fun i => by unfold readD; rw [T.out.2.1]
        have ER : Hid _ := er
        clear eD4 d4 o4 n4 C3 M3 HCr AP er hM HI hD
        go_wp2_with fail
        go_loopw [8] (fun i wr => ∃ k : Nat, i = .int .i64 k ∧ Hid (k ≤ 5) ∧ Hid (Mine w wr m4 5 t) ∧ Hid (Mine w wr mc 5 (loadD s.img))) (fun i _ => 5 - (intOf i).toNat)
        case atStart => exact ⟨0, rfl, Nat.zero_le _, M4.out, C4.out⟩
        case round =>
          clear M4 C4
          obtain ⟨k, rfl, hk, M4, C4⟩ := hrel
          by_cases hlt : k < 5
          · have h5 : (k : Int) < 5 := by omega
            have HLT : Hid (k < 5) := hlt
            have WK : Hid ((k : Int) + 1 = ((k + 1 : Nat) : Int)) := by show (k : Int) + 1 = ((k + 1 : Nat) : Int); omega
            clear hlt hk
            go_wp2_with fail
            refine (HRc k HLT.out _ C4.out.d).mono ?_
            rintro e w5 ⟨g5, rfl, o5, b5⟩
            have M5 : Hid (Mine w w5 m4 5 t) := M4.out.below b5
            have C5 : Hid (Mine w w5 mc 5 (loadD s.img)) := C4.out.below b5
            have o5' : w5.ownsRow wr.heap.size 5 1 (.slice (some ⟨g5, 0, none⟩) 256 256) 256 (cellsOf (sec s.img k)) := o5
            have S5 : Hid (Seen w5 (some ⟨g5, 0, none⟩) 256 (sec s.img k)) := seen_owned o5' (by have := o5'.1; rw [cellsOf_length] at this; omega) (by unfold maxLen; omega)
            clear o5 o5' b5 M4 C4
            go_wp2_with fail
            refine (HRd k HLT.out _ M5.out.d).mono ?_
            rintro e w6 ⟨g6, rfl, o6, b6⟩
            have M6 : Hid (Mine w w6 m4 5 t) := M5.out.below b6
            have C6 : Hid (Mine w w6 mc 5 (loadD s.img)) := C5.out.below b6
            rw [ER.out] at o6
            have t5 := run_to_text w6 (some ⟨g5, 0, none⟩) 256 256 _ (Seen.below S5.out b6)
            have t6 := run_to_text w6 (some ⟨g6, 0, none⟩) 256 256 _ (seen_owned o6 (by have := o6.1; rw [cellsOf_length] at this; omega) (by unfold maxLen; omega))
            have ts := text_self (textOf (sec s.img k))
            clear o6 b6 M5 C5 S5
            go_wp2
            rw [WK.out]
            go_roundw
            case rel => exact ⟨k + 1, rfl, HLT.out, M6.out, C6.out⟩
            case measure => exact less_by HLT.out
          · have h5 : ¬ (k : Int) < 5 := by omega
            clear hlt hk
            go_wp2_with fail
            refine (wpIn_wide (n := 1)).1 ?_
            refine wpIn_region_any (by kernel_rfl) ?_
            change wpAnyIn _ _ _ _ _ _ _ _ _ (World.drew _)
            refine any_take 0 (oi := { dst := some 82, op := Go.Op.move (Go.Operand.tmp 6), type := 24, pos := "law.go:161", after := #[], guard := none }) (.pointer (some ⟨mc.D, 0, none⟩)) rfl (by kernel_rfl) (by kernel_rfl) (by kernel_rfl) (fun _ _ _ h => h) (by rfl) (by intro wq; go_simp <;> with_reducible rfl) (fun _ => rfl) ?_
            simp only [Act.put, List.setIfInBounds_toArray, List.set_cons_zero, List.set_cons_succ]
            refine any_take 3 (oi := { dst := some 85, op := Go.Op.move (Go.Operand.tmp 3), type := 24, pos := "law.go:161", after := #[], guard := none }) (.pointer (some ⟨D, 0, none⟩)) rfl (by kernel_rfl) (by kernel_rfl) (by kernel_rfl) (fun _ _ _ h => h) (by rfl) (by intro wq; go_simp <;> with_reducible rfl) (fun _ => rfl) ?_
            simp only [Act.put, List.setIfInBounds_toArray, List.set_cons_zero, List.set_cons_succ]
            refine any_one 1 (by kernel_rfl) ?_
            refine op_call (i := 1) (oi := { dst := some 83, op := Go.Op.call { callee := Go.Callee.value (Go.Operand.func 23), args := #[Go.Operand.tmp 82], argTypes := #[24] }, type := 22, pos := "law.go:161", after := #[{ on := 0, ground := Go.Ground.data }], guard := none }) 23 _ rfl (by rfl) (by go_simp <;> with_reducible rfl) ?_
            refine (HIc _ C4.out.drew.d).mono ?_
            rintro e w5 ⟨v5, rfl, o5, b5⟩
            refine ⟨_, rfl, ?_⟩
            simp only [Act.put, List.setIfInBounds_toArray, List.set_cons_zero, List.set_cons_succ]
            obtain ⟨g5, c5, rfl, z5⟩ := owns_form o5 (by omega)
            have M5 : Hid (Mine w w5 m4 5 t) := M4.out.drew.below b5
            have S5 : Hid _ := seen_owned o5 LEN.out (by unfold maxLen; omega)
            have t5 := run_to_text w5 (some ⟨g5, 0, none⟩) 1280 c5 _ S5.out
            clear o5 b5 M4 C4 z5
            refine any_two 2 4 (by kernel_rfl) ?_ ?_
            · -- 2 4 5
              refine op_value (.string (textOf s.img)) (i := 2) (oi := { dst := some 84, op := Go.Op.convert 22 9 (Go.Operand.tmp 83), type := 9, pos := "law.go:161", after := #[{ on := 1, ground := Go.Ground.data }], guard := none }) rfl (by rfl) (by go_simp <;> with_reducible rfl) ?_
              simp only [Act.put, List.setIfInBounds_toArray, List.set_cons_zero, List.set_cons_succ]
              refine any_one 4 (by kernel_rfl) ?_
              refine op_call (i := 4) (oi := { dst := some 86, op := Go.Op.call { callee := Go.Callee.value (Go.Operand.func 23), args := #[Go.Operand.tmp 85], argTypes := #[24] }, type := 22, pos := "law.go:161", after := #[{ on := 3, ground := Go.Ground.data }, { on := 1, ground := Go.Ground.chain }], guard := none }) 23 _ rfl (by rfl) (by go_simp <;> with_reducible rfl) ?_
              refine (HId _ M5.out.d).mono ?_
              rintro e w6 ⟨v6, rfl, o6, b6⟩
              refine ⟨_, rfl, ?_⟩
              simp only [Act.put, List.setIfInBounds_toArray, List.set_cons_zero, List.set_cons_succ]
              obtain ⟨g6, c6, rfl, z6⟩ := owns_form o6 (by omega)
              have M6 : Hid (Mine w w6 m4 5 t) := M5.out.below b6
              have t6 := run_to_text w6 (some ⟨g6, 0, none⟩) 1280 c6 _ (seen_owned o6 LEN.out (by unfold maxLen; omega))
              have t5' := run_to_text w6 (some ⟨g5, 0, none⟩) 1280 c5 _ (Seen.below S5.out b6)
              clear o6 b6 M5 z6 S5
              refine any_one 5 (by kernel_rfl) ?_
              refine op_value (.string (textOf s.img)) (i := 5) (oi := { dst := some 87, op := Go.Op.convert 22 9 (Go.Operand.tmp 86), type := 9, pos := "law.go:161", after := #[{ on := 4, ground := Go.Ground.data }], guard := none }) rfl (by rfl) (by go_simp <;> with_reducible rfl) ?_
              simp only [Act.put, List.setIfInBounds_toArray, List.set_cons_zero, List.set_cons_succ]
              refine any_one 6 (by kernel_rfl) ?_
              refine op_value (.bool true) (i := 6) (oi := { dst := some 88, op := Go.Op.binOp Go.BinOp.eql 9 (Go.Operand.tmp 84) (Go.Operand.tmp 87) 9, type := 4, pos := "law.go:161", after := #[{ on := 2, ground := Go.Ground.data }, { on := 5, ground := Go.Ground.data }], guard := none }) rfl (by rfl) (by go_simp <;> with_reducible rfl) ?_
              simp only [Act.put, List.setIfInBounds_toArray, List.set_cons_zero, List.set_cons_succ]
              refine any_one 7 (by kernel_rfl) ?_
              refine op_value (.bool true) (i := 7) (oi := { dst := some 89, op := Go.Op.move (Go.Operand.tmp 88), type := 4, pos := "law.go:161", after := #[{ on := 6, ground := Go.Ground.data }, { on := 4, ground := Go.Ground.chain }], guard := none }) rfl (by rfl) (by go_simp <;> with_reducible rfl) ?_
              simp only [Act.put, List.setIfInBounds_toArray, List.set_cons_zero, List.set_cons_succ]
              refine any_one 8 (by kernel_rfl) ?_
              refine op_value (.pointer (some ⟨D, 0, none⟩)) (i := 8) (oi := { dst := some 90, op := Go.Op.move (Go.Operand.tmp 3), type := 24, pos := "law.go:161", after := #[{ on := 7, ground := Go.Ground.guard }], guard := some (7, true) }) rfl (by rfl) (by go_simp <;> with_reducible rfl) ?_
              simp only [Act.put, List.setIfInBounds_toArray, List.set_cons_zero, List.set_cons_succ]
              refine any_one 9 (by kernel_rfl) ?_
              refine op_call (i := 9) (oi := { dst := some 91, op := Go.Op.call { callee := Go.Callee.value (Go.Operand.func 25), args := #[Go.Operand.tmp 90], argTypes := #[24] }, type := 4, pos := "law.go:161", after := #[{ on := 8, ground := Go.Ground.data }, { on := 7, ground := Go.Ground.chain }, { on := 7, ground := Go.Ground.guard }], guard := some (7, true) }) 25 _ rfl (by rfl) (by go_simp <;> with_reducible rfl) ?_
              refine (HDd _ M6.out.d).mono ?_
              rintro e w7 ⟨rfl, rfl⟩
              refine ⟨_, rfl, ?_⟩
              simp only [Act.put, List.setIfInBounds_toArray, List.set_cons_zero, List.set_cons_succ]
              refine any_one 10 (by kernel_rfl) ?_
              refine op_value (.bool true) (i := 10) (oi := { dst := some 92, op := Go.Op.unOp Go.UnOp.not 4 (Go.Operand.tmp 91), type := 4, pos := "law.go:161", after := #[{ on := 9, ground := Go.Ground.data }, { on := 7, ground := Go.Ground.guard }], guard := some (7, true) }) rfl (by rfl) (by go_simp <;> with_reducible rfl) ?_
              simp only [Act.put, List.setIfInBounds_toArray, List.set_cons_zero, List.set_cons_succ]
              refine any_one 11 (by kernel_rfl) ?_
              refine op_value (.bool true) (i := 11) (oi := { dst := some 93, op := Go.Op.pick (Go.Operand.tmp 89) (Go.Operand.tmp 92) (Go.Operand.const (Go.Value.bool false)), type := 4, pos := "law.go:161", after := #[{ on := 7, ground := Go.Ground.data }, { on := 10, ground := Go.Ground.data }], guard := none }) rfl (by rfl) (by go_simp <;> with_reducible rfl) ?_
              simp only [Act.put, List.setIfInBounds_toArray, List.set_cons_zero, List.set_cons_succ]
              refine any_one 12 (by kernel_rfl) ?_
              refine op_value (.bool true) (i := 12) (oi := { dst := some 94, op := Go.Op.move (Go.Operand.tmp 93), type := 4, pos := "law.go:161", after := #[{ on := 11, ground := Go.Ground.data }, { on := 9, ground := Go.Ground.chain }], guard := none }) rfl (by rfl) (by go_simp <;> with_reducible rfl) ?_
              simp only [Act.put, List.setIfInBounds_toArray, List.set_cons_zero, List.set_cons_succ]
              refine any_one 13 (by kernel_rfl) ?_
              refine op_value (.pointer (some ⟨D, 0, none⟩)) (i := 13) (oi := { dst := some 95, op := Go.Op.move (Go.Operand.tmp 3), type := 24, pos := "law.go:161", after := #[{ on := 12, ground := Go.Ground.guard }], guard := some (12, true) }) rfl (by rfl) (by go_simp <;> with_reducible rfl) ?_
              simp only [Act.put, List.setIfInBounds_toArray, List.set_cons_zero, List.set_cons_succ]
              refine any_one 14 (by kernel_rfl) ?_
              refine op_call (i := 14) (oi := { dst := some 96, op := Go.Op.call { callee := Go.Callee.value (Go.Operand.func 26), args := #[Go.Operand.tmp 95], argTypes := #[24] }, type := 3, pos := "law.go:161", after := #[{ on := 13, ground := Go.Ground.data }, { on := 12, ground := Go.Ground.chain }, { on := 12, ground := Go.Ground.guard }], guard := some (12, true) }) 26 _ rfl (by rfl) (by go_simp <;> with_reducible rfl) ?_
              refine (HUd _ M6.out.d).mono ?_
              rintro e w8 ⟨rfl, rfl⟩
              refine ⟨_, rfl, ?_⟩
              simp only [Act.put, List.setIfInBounds_toArray, List.set_cons_zero, List.set_cons_succ]
              refine any_one 15 (by kernel_rfl) ?_
              refine op_value (.bool true) (i := 15) (oi := { dst := some 97, op := Go.Op.binOp Go.BinOp.eql 3 (Go.Operand.tmp 96) (Go.Operand.const (Go.Value.int Go.IntKind.i64 0)) 3, type := 4, pos := "law.go:161", after := #[{ on := 14, ground := Go.Ground.data }, { on := 12, ground := Go.Ground.guard }], guard := some (12, true) }) rfl (by rfl) (by go_simp <;> with_reducible rfl) ?_
              simp only [Act.put, List.setIfInBounds_toArray, List.set_cons_zero, List.set_cons_succ]
              refine any_one 16 (by kernel_rfl) ?_
              refine op_value (.bool true) (i := 16) (oi := { dst := some 98, op := Go.Op.pick (Go.Operand.tmp 94) (Go.Operand.tmp 97) (Go.Operand.const (Go.Value.bool false)), type := 4, pos := "law.go:161", after := #[{ on := 12, ground := Go.Ground.data }, { on := 15, ground := Go.Ground.data }], guard := none }) rfl (by rfl) (by go_simp <;> with_reducible rfl) ?_
              simp only [Act.put, List.setIfInBounds_toArray, List.set_cons_zero, List.set_cons_succ]
              refine any_one 17 (by kernel_rfl) ?_
              refine op_value (.bool true) (i := 17) (oi := { dst := some 99, op := Go.Op.move (Go.Operand.tmp 98), type := 4, pos := "law.go:161", after := #[{ on := 16, ground := Go.Ground.data }, { on := 14, ground := Go.Ground.chain }], guard := none }) rfl (by rfl) (by go_simp <;> with_reducible rfl) ?_
              simp only [Act.put, List.setIfInBounds_toArray, List.set_cons_zero, List.set_cons_succ]
              refine any_one 18 (by kernel_rfl) ?_
              refine op_call (i := 18) (oi := { dst := some 100, op := Go.Op.call { callee := Go.Callee.value (Go.Operand.func 16), args := #[], argTypes := #[] }, type := 4, pos := "law.go:161", after := #[{ on := 17, ground := Go.Ground.chain }, { on := 17, ground := Go.Ground.guard }], guard := some (17, true) }) 16 _ rfl (by rfl) (by go_simp <;> with_reducible rfl) ?_
              refine (known_any _).mono ?_
              rintro e w9 ⟨rfl, b9⟩
              refine ⟨_, rfl, ?_⟩
              simp only [Act.put, List.setIfInBounds_toArray, List.set_cons_zero, List.set_cons_succ]
              have B9 : Hid (Below w.heap.size w w9) := M6.out.b.trans (b9.mono M6.out.b.size)
              clear b9
              refine any_one 19 (by kernel_rfl) ?_
              refine op_value (.bool true) (i := 19) (oi := { dst := some 101, op := Go.Op.pick (Go.Operand.tmp 99) (Go.Operand.tmp 100) (Go.Operand.const (Go.Value.bool false)), type := 4, pos := "law.go:161", after := #[{ on := 17, ground := Go.Ground.data }, { on := 18, ground := Go.Ground.data }], guard := none }) rfl (by rfl) (by go_simp <;> with_reducible rfl) ?_
              simp only [Act.put, List.setIfInBounds_toArray, List.set_cons_zero, List.set_cons_succ]
              refine any_one 20 (by kernel_rfl) ?_
              refine op_value (.bool true) (i := 20) (oi := { dst := some 2, op := Go.Op.assign (Go.Operand.tmp 101), type := 4, pos := "law.go:161", after := #[{ on := 19, ground := Go.Ground.data }, { on := 18, ground := Go.Ground.chain }, { on := 0, ground := Go.Ground.phase }, { on := 1, ground := Go.Ground.phase }, { on := 2, ground := Go.Ground.phase }, { on := 3, ground := Go.Ground.phase }, { on := 4, ground := Go.Ground.phase }, { on := 5, ground := Go.Ground.phase }, { on := 6, ground := Go.Ground.phase }, { on := 7, ground := Go.Ground.phase }, { on := 8, ground := Go.Ground.phase }, { on := 9, ground := Go.Ground.phase }, { on := 10, ground := Go.Ground.phase }, { on := 11, ground := Go.Ground.phase }, { on := 12, ground := Go.Ground.phase }, { on := 13, ground := Go.Ground.phase }, { on := 14, ground := Go.Ground.phase }, { on := 15, ground := Go.Ground.phase }, { on := 16, ground := Go.Ground.phase }, { on := 17, ground := Go.Ground.phase }, { on := 18, ground := Go.Ground.phase }, { on := 19, ground := Go.Ground.phase }], guard := none }) rfl (by rfl) (by go_simp <;> with_reducible rfl) ?_
              simp only [Act.put, List.setIfInBounds_toArray, List.set_cons_zero, List.set_cons_succ]
              refine wpAnyIn_done (by kernel_rfl) ?_ _
              go_wp2
              go_ret
              exact ⟨rfl, B9.out⟩
            · -- 4
              refine op_call (i := 4) (oi := { dst := some 86, op := Go.Op.call { callee := Go.Callee.value (Go.Operand.func 23), args := #[Go.Operand.tmp 85], argTypes := #[24] }, type := 22, pos := "law.go:161", after := #[{ on := 3, ground := Go.Ground.data }, { on := 1, ground := Go.Ground.chain }], guard := none }) 23 _ rfl (by rfl) (by go_simp <;> with_reducible rfl) ?_
              refine (HId _ M5.out.d).mono ?_
              rintro e w6 ⟨v6, rfl, o6, b6⟩
              refine ⟨_, rfl, ?_⟩
              simp only [Act.put, List.setIfInBounds_toArray, List.set_cons_zero, List.set_cons_succ]
              obtain ⟨g6, c6, rfl, z6⟩ := owns_form o6 (by omega)
              have M6 : Hid (Mine w w6 m4 5 t) := M5.out.below b6
              have t6 := run_to_text w6 (some ⟨g6, 0, none⟩) 1280 c6 _ (seen_owned o6 LEN.out (by unfold maxLen; omega))
              have t5' := run_to_text w6 (some ⟨g5, 0, none⟩) 1280 c5 _ (Seen.below S5.out b6)
              clear o6 b6 M5 z6 S5
              refine any_two 2 5 (by kernel_rfl) ?_ ?_
              · -- 2 5
                refine op_value (.string (textOf s.img)) (i := 2) (oi := { dst := some 84, op := Go.Op.convert 22 9 (Go.Operand.tmp 83), type := 9, pos := "law.go:161", after := #[{ on := 1, ground := Go.Ground.data }], guard := none }) rfl (by rfl) (by go_simp <;> with_reducible rfl) ?_
                simp only [Act.put, List.setIfInBounds_toArray, List.set_cons_zero, List.set_cons_succ]
                refine any_one 5 (by kernel_rfl) ?_
                refine op_value (.string (textOf s.img)) (i := 5) (oi := { dst := some 87, op := Go.Op.convert 22 9 (Go.Operand.tmp 86), type := 9, pos := "law.go:161", after := #[{ on := 4, ground := Go.Ground.data }], guard := none }) rfl (by rfl) (by go_simp <;> with_reducible rfl) ?_
                simp only [Act.put, List.setIfInBounds_toArray, List.set_cons_zero, List.set_cons_succ]
                refine any_one 6 (by kernel_rfl) ?_
                refine op_value (.bool true) (i := 6) (oi := { dst := some 88, op := Go.Op.binOp Go.BinOp.eql 9 (Go.Operand.tmp 84) (Go.Operand.tmp 87) 9, type := 4, pos := "law.go:161", after := #[{ on := 2, ground := Go.Ground.data }, { on := 5, ground := Go.Ground.data }], guard := none }) rfl (by rfl) (by go_simp <;> with_reducible rfl) ?_
                simp only [Act.put, List.setIfInBounds_toArray, List.set_cons_zero, List.set_cons_succ]
                refine any_one 7 (by kernel_rfl) ?_
                refine op_value (.bool true) (i := 7) (oi := { dst := some 89, op := Go.Op.move (Go.Operand.tmp 88), type := 4, pos := "law.go:161", after := #[{ on := 6, ground := Go.Ground.data }, { on := 4, ground := Go.Ground.chain }], guard := none }) rfl (by rfl) (by go_simp <;> with_reducible rfl) ?_
                simp only [Act.put, List.setIfInBounds_toArray, List.set_cons_zero, List.set_cons_succ]
                refine any_one 8 (by kernel_rfl) ?_
                refine op_value (.pointer (some ⟨D, 0, none⟩)) (i := 8) (oi := { dst := some 90, op := Go.Op.move (Go.Operand.tmp 3), type := 24, pos := "law.go:161", after := #[{ on := 7, ground := Go.Ground.guard }], guard := some (7, true) }) rfl (by rfl) (by go_simp <;> with_reducible rfl) ?_
                simp only [Act.put, List.setIfInBounds_toArray, List.set_cons_zero, List.set_cons_succ]
                refine any_one 9 (by kernel_rfl) ?_
                refine op_call (i := 9) (oi := { dst := some 91, op := Go.Op.call { callee := Go.Callee.value (Go.Operand.func 25), args := #[Go.Operand.tmp 90], argTypes := #[24] }, type := 4, pos := "law.go:161", after := #[{ on := 8, ground := Go.Ground.data }, { on := 7, ground := Go.Ground.chain }, { on := 7, ground := Go.Ground.guard }], guard := some (7, true) }) 25 _ rfl (by rfl) (by go_simp <;> with_reducible rfl) ?_
                refine (HDd _ M6.out.d).mono ?_
                rintro e w7 ⟨rfl, rfl⟩
                refine ⟨_, rfl, ?_⟩
                simp only [Act.put, List.setIfInBounds_toArray, List.set_cons_zero, List.set_cons_succ]
                refine any_one 10 (by kernel_rfl) ?_
                refine op_value (.bool true) (i := 10) (oi := { dst := some 92, op := Go.Op.unOp Go.UnOp.not 4 (Go.Operand.tmp 91), type := 4, pos := "law.go:161", after := #[{ on := 9, ground := Go.Ground.data }, { on := 7, ground := Go.Ground.guard }], guard := some (7, true) }) rfl (by rfl) (by go_simp <;> with_reducible rfl) ?_
                simp only [Act.put, List.setIfInBounds_toArray, List.set_cons_zero, List.set_cons_succ]
                refine any_one 11 (by kernel_rfl) ?_
                refine op_value (.bool true) (i := 11) (oi := { dst := some 93, op := Go.Op.pick (Go.Operand.tmp 89) (Go.Operand.tmp 92) (Go.Operand.const (Go.Value.bool false)), type := 4, pos := "law.go:161", after := #[{ on := 7, ground := Go.Ground.data }, { on := 10, ground := Go.Ground.data }], guard := none }) rfl (by rfl) (by go_simp <;> with_reducible rfl) ?_
                simp only [Act.put, List.setIfInBounds_toArray, List.set_cons_zero, List.set_cons_succ]
                refine any_one 12 (by kernel_rfl) ?_
                refine op_value (.bool true) (i := 12) (oi := { dst := some 94, op := Go.Op.move (Go.Operand.tmp 93), type := 4, pos := "law.go:161", after := #[{ on := 11, ground := Go.Ground.data }, { on := 9, ground := Go.Ground.chain }], guard := none }) rfl (by rfl) (by go_simp <;> with_reducible rfl) ?_
                simp only [Act.put, List.setIfInBounds_toArray, List.set_cons_zero, List.set_cons_succ]
                refine any_one 13 (by kernel_rfl) ?_
                refine op_value (.pointer (some ⟨D, 0, none⟩)) (i := 13) (oi := { dst := some 95, op := Go.Op.move (Go.Operand.tmp 3), type := 24, pos := "law.go:161", after := #[{ on := 12, ground := Go.Ground.guard }], guard := some (12, true) }) rfl (by rfl) (by go_simp <;> with_reducible rfl) ?_
                simp only [Act.put, List.setIfInBounds_toArray, List.set_cons_zero, List.set_cons_succ]
                refine any_one 14 (by kernel_rfl) ?_
                refine op_call (i := 14) (oi := { dst := some 96, op := Go.Op.call { callee := Go.Callee.value (Go.Operand.func 26), args := #[Go.Operand.tmp 95], argTypes := #[24] }, type := 3, pos := "law.go:161", after := #[{ on := 13, ground := Go.Ground.data }, { on := 12, ground := Go.Ground.chain }, { on := 12, ground := Go.Ground.guard }], guard := some (12, true) }) 26 _ rfl (by rfl) (by go_simp <;> with_reducible rfl) ?_
                refine (HUd _ M6.out.d).mono ?_
                rintro e w8 ⟨rfl, rfl⟩
                refine ⟨_, rfl, ?_⟩
                simp only [Act.put, List.setIfInBounds_toArray, List.set_cons_zero, List.set_cons_succ]
                refine any_one 15 (by kernel_rfl) ?_
                refine op_value (.bool true) (i := 15) (oi := { dst := some 97, op := Go.Op.binOp Go.BinOp.eql 3 (Go.Operand.tmp 96) (Go.Operand.const (Go.Value.int Go.IntKind.i64 0)) 3, type := 4, pos := "law.go:161", after := #[{ on := 14, ground := Go.Ground.data }, { on := 12, ground := Go.Ground.guard }], guard := some (12, true) }) rfl (by rfl) (by go_simp <;> with_reducible rfl) ?_
                simp only [Act.put, List.setIfInBounds_toArray, List.set_cons_zero, List.set_cons_succ]
                refine any_one 16 (by kernel_rfl) ?_
                refine op_value (.bool true) (i := 16) (oi := { dst := some 98, op := Go.Op.pick (Go.Operand.tmp 94) (Go.Operand.tmp 97) (Go.Operand.const (Go.Value.bool false)), type := 4, pos := "law.go:161", after := #[{ on := 12, ground := Go.Ground.data }, { on := 15, ground := Go.Ground.data }], guard := none }) rfl (by rfl) (by go_simp <;> with_reducible rfl) ?_
                simp only [Act.put, List.setIfInBounds_toArray, List.set_cons_zero, List.set_cons_succ]
                refine any_one 17 (by kernel_rfl) ?_
                refine op_value (.bool true) (i := 17) (oi := { dst := some 99, op := Go.Op.move (Go.Operand.tmp 98), type := 4, pos := "law.go:161", after := #[{ on := 16, ground := Go.Ground.data }, { on := 14, ground := Go.Ground.chain }], guard := none }) rfl (by rfl) (by go_simp <;> with_reducible rfl) ?_
                simp only [Act.put, List.setIfInBounds_toArray, List.set_cons_zero, List.set_cons_succ]
                refine any_one 18 (by kernel_rfl) ?_
                refine op_call (i := 18) (oi := { dst := some 100, op := Go.Op.call { callee := Go.Callee.value (Go.Operand.func 16), args := #[], argTypes := #[] }, type := 4, pos := "law.go:161", after := #[{ on := 17, ground := Go.Ground.chain }, { on := 17, ground := Go.Ground.guard }], guard := some (17, true) }) 16 _ rfl (by rfl) (by go_simp <;> with_reducible rfl) ?_
                refine (known_any _).mono ?_
                rintro e w9 ⟨rfl, b9⟩
                refine ⟨_, rfl, ?_⟩
                simp only [Act.put, List.setIfInBounds_toArray, List.set_cons_zero, List.set_cons_succ]
                have B9 : Hid (Below w.heap.size w w9) := M6.out.b.trans (b9.mono M6.out.b.size)
                clear b9
                refine any_one 19 (by kernel_rfl) ?_
                refine op_value (.bool true) (i := 19) (oi := { dst := some 101, op := Go.Op.pick (Go.Operand.tmp 99) (Go.Operand.tmp 100) (Go.Operand.const (Go.Value.bool false)), type := 4, pos := "law.go:161", after := #[{ on := 17, ground := Go.Ground.data }, { on := 18, ground := Go.Ground.data }], guard := none }) rfl (by rfl) (by go_simp <;> with_reducible rfl) ?_
                simp only [Act.put, List.setIfInBounds_toArray, List.set_cons_zero, List.set_cons_succ]
                refine any_one 20 (by kernel_rfl) ?_
                refine op_value (.bool true) (i := 20) (oi := { dst := some 2, op := Go.Op.assign (Go.Operand.tmp 101), type := 4, pos := "law.go:161", after := #[{ on := 19, ground := Go.Ground.data }, { on := 18, ground := Go.Ground.chain }, { on := 0, ground := Go.Ground.phase }, { on := 1, ground := Go.Ground.phase }, { on := 2, ground := Go.Ground.phase }, { on := 3, ground := Go.Ground.phase }, { on := 4, ground := Go.Ground.phase }, { on := 5, ground := Go.Ground.phase }, { on := 6, ground := Go.Ground.phase }, { on := 7, ground := Go.Ground.phase }, { on := 8, ground := Go.Ground.phase }, { on := 9, ground := Go.Ground.phase }, { on := 10, ground := Go.Ground.phase }, { on := 11, ground := Go.Ground.phase }, { on := 12, ground := Go.Ground.phase }, { on := 13, ground := Go.Ground.phase }, { on := 14, ground := Go.Ground.phase }, { on := 15, ground := Go.Ground.phase }, { on := 16, ground := Go.Ground.phase }, { on := 17, ground := Go.Ground.phase }, { on := 18, ground := Go.Ground.phase }, { on := 19, ground := Go.Ground.phase }], guard := none }) rfl (by rfl) (by go_simp <;> with_reducible rfl) ?_
                simp only [Act.put, List.setIfInBounds_toArray, List.set_cons_zero, List.set_cons_succ]
                refine wpAnyIn_done (by kernel_rfl) ?_ _
                go_wp2
                go_ret
                exact ⟨rfl, B9.out⟩
              · -- 5 2
                refine op_value (.string (textOf s.img)) (i := 5) (oi := { dst := some 87, op := Go.Op.convert 22 9 (Go.Operand.tmp 86), type := 9, pos := "law.go:161", after := #[{ on := 4, ground := Go.Ground.data }], guard := none }) rfl (by rfl) (by go_simp <;> with_reducible rfl) ?_
                simp only [Act.put, List.setIfInBounds_toArray, List.set_cons_zero, List.set_cons_succ]
                refine any_one 2 (by kernel_rfl) ?_
                refine op_value (.string (textOf s.img)) (i := 2) (oi := { dst := some 84, op := Go.Op.convert 22 9 (Go.Operand.tmp 83), type := 9, pos := "law.go:161", after := #[{ on := 1, ground := Go.Ground.data }], guard := none }) rfl (by rfl) (by go_simp <;> with_reducible rfl) ?_
                simp only [Act.put, List.setIfInBounds_toArray, List.set_cons_zero, List.set_cons_succ]
                refine any_one 6 (by kernel_rfl) ?_
                refine op_value (.bool true) (i := 6) (oi := { dst := some 88, op := Go.Op.binOp Go.BinOp.eql 9 (Go.Operand.tmp 84) (Go.Operand.tmp 87) 9, type := 4, pos := "law.go:161", after := #[{ on := 2, ground := Go.Ground.data }, { on := 5, ground := Go.Ground.data }], guard := none }) rfl (by rfl) (by go_simp <;> with_reducible rfl) ?_
                simp only [Act.put, List.setIfInBounds_toArray, List.set_cons_zero, List.set_cons_succ]
                refine any_one 7 (by kernel_rfl) ?_
                refine op_value (.bool true) (i := 7) (oi := { dst := some 89, op := Go.Op.move (Go.Operand.tmp 88), type := 4, pos := "law.go:161", after := #[{ on := 6, ground := Go.Ground.data }, { on := 4, ground := Go.Ground.chain }], guard := none }) rfl (by rfl) (by go_simp <;> with_reducible rfl) ?_
                simp only [Act.put, List.setIfInBounds_toArray, List.set_cons_zero, List.set_cons_succ]
                refine any_one 8 (by kernel_rfl) ?_
                refine op_value (.pointer (some ⟨D, 0, none⟩)) (i := 8) (oi := { dst := some 90, op := Go.Op.move (Go.Operand.tmp 3), type := 24, pos := "law.go:161", after := #[{ on := 7, ground := Go.Ground.guard }], guard := some (7, true) }) rfl (by rfl) (by go_simp <;> with_reducible rfl) ?_
                simp only [Act.put, List.setIfInBounds_toArray, List.set_cons_zero, List.set_cons_succ]
                refine any_one 9 (by kernel_rfl) ?_
                refine op_call (i := 9) (oi := { dst := some 91, op := Go.Op.call { callee := Go.Callee.value (Go.Operand.func 25), args := #[Go.Operand.tmp 90], argTypes := #[24] }, type := 4, pos := "law.go:161", after := #[{ on := 8, ground := Go.Ground.data }, { on := 7, ground := Go.Ground.chain }, { on := 7, ground := Go.Ground.guard }], guard := some (7, true) }) 25 _ rfl (by rfl) (by go_simp <;> with_reducible rfl) ?_
                refine (HDd _ M6.out.d).mono ?_
                rintro e w7 ⟨rfl, rfl⟩
                refine ⟨_, rfl, ?_⟩
                simp only [Act.put, List.setIfInBounds_toArray, List.set_cons_zero, List.set_cons_succ]
                refine any_one 10 (by kernel_rfl) ?_
                refine op_value (.bool true) (i := 10) (oi := { dst := some 92, op := Go.Op.unOp Go.UnOp.not 4 (Go.Operand.tmp 91), type := 4, pos := "law.go:161", after := #[{ on := 9, ground := Go.Ground.data }, { on := 7, ground := Go.Ground.guard }], guard := some (7, true) }) rfl (by rfl) (by go_simp <;> with_reducible rfl) ?_
                simp only [Act.put, List.setIfInBounds_toArray, List.set_cons_zero, List.set_cons_succ]
                refine any_one 11 (by kernel_rfl) ?_
                refine op_value (.bool true) (i := 11) (oi := { dst := some 93, op := Go.Op.pick (Go.Operand.tmp 89) (Go.Operand.tmp 92) (Go.Operand.const (Go.Value.bool false)), type := 4, pos := "law.go:161", after := #[{ on := 7, ground := Go.Ground.data }, { on := 10, ground := Go.Ground.data }], guard := none }) rfl (by rfl) (by go_simp <;> with_reducible rfl) ?_
                simp only [Act.put, List.setIfInBounds_toArray, List.set_cons_zero, List.set_cons_succ]
                refine any_one 12 (by kernel_rfl) ?_
                refine op_value (.bool true) (i := 12) (oi := { dst := some 94, op := Go.Op.move (Go.Operand.tmp 93), type := 4, pos := "law.go:161", after := #[{ on := 11, ground := Go.Ground.data }, { on := 9, ground := Go.Ground.chain }], guard := none }) rfl (by rfl) (by go_simp <;> with_reducible rfl) ?_
                simp only [Act.put, List.setIfInBounds_toArray, List.set_cons_zero, List.set_cons_succ]
                refine any_one 13 (by kernel_rfl) ?_
                refine op_value (.pointer (some ⟨D, 0, none⟩)) (i := 13) (oi := { dst := some 95, op := Go.Op.move (Go.Operand.tmp 3), type := 24, pos := "law.go:161", after := #[{ on := 12, ground := Go.Ground.guard }], guard := some (12, true) }) rfl (by rfl) (by go_simp <;> with_reducible rfl) ?_
                simp only [Act.put, List.setIfInBounds_toArray, List.set_cons_zero, List.set_cons_succ]
                refine any_one 14 (by kernel_rfl) ?_
                refine op_call (i := 14) (oi := { dst := some 96, op := Go.Op.call { callee := Go.Callee.value (Go.Operand.func 26), args := #[Go.Operand.tmp 95], argTypes := #[24] }, type := 3, pos := "law.go:161", after := #[{ on := 13, ground := Go.Ground.data }, { on := 12, ground := Go.Ground.chain }, { on := 12, ground := Go.Ground.guard }], guard := some (12, true) }) 26 _ rfl (by rfl) (by go_simp <;> with_reducible rfl) ?_
                refine (HUd _ M6.out.d).mono ?_
                rintro e w8 ⟨rfl, rfl⟩
                refine ⟨_, rfl, ?_⟩
                simp only [Act.put, List.setIfInBounds_toArray, List.set_cons_zero, List.set_cons_succ]
                refine any_one 15 (by kernel_rfl) ?_
                refine op_value (.bool true) (i := 15) (oi := { dst := some 97, op := Go.Op.binOp Go.BinOp.eql 3 (Go.Operand.tmp 96) (Go.Operand.const (Go.Value.int Go.IntKind.i64 0)) 3, type := 4, pos := "law.go:161", after := #[{ on := 14, ground := Go.Ground.data }, { on := 12, ground := Go.Ground.guard }], guard := some (12, true) }) rfl (by rfl) (by go_simp <;> with_reducible rfl) ?_
                simp only [Act.put, List.setIfInBounds_toArray, List.set_cons_zero, List.set_cons_succ]
                refine any_one 16 (by kernel_rfl) ?_
                refine op_value (.bool true) (i := 16) (oi := { dst := some 98, op := Go.Op.pick (Go.Operand.tmp 94) (Go.Operand.tmp 97) (Go.Operand.const (Go.Value.bool false)), type := 4, pos := "law.go:161", after := #[{ on := 12, ground := Go.Ground.data }, { on := 15, ground := Go.Ground.data }], guard := none }) rfl (by rfl) (by go_simp <;> with_reducible rfl) ?_
                simp only [Act.put, List.setIfInBounds_toArray, List.set_cons_zero, List.set_cons_succ]
                refine any_one 17 (by kernel_rfl) ?_
                refine op_value (.bool true) (i := 17) (oi := { dst := some 99, op := Go.Op.move (Go.Operand.tmp 98), type := 4, pos := "law.go:161", after := #[{ on := 16, ground := Go.Ground.data }, { on := 14, ground := Go.Ground.chain }], guard := none }) rfl (by rfl) (by go_simp <;> with_reducible rfl) ?_
                simp only [Act.put, List.setIfInBounds_toArray, List.set_cons_zero, List.set_cons_succ]
                refine any_one 18 (by kernel_rfl) ?_
                refine op_call (i := 18) (oi := { dst := some 100, op := Go.Op.call { callee := Go.Callee.value (Go.Operand.func 16), args := #[], argTypes := #[] }, type := 4, pos := "law.go:161", after := #[{ on := 17, ground := Go.Ground.chain }, { on := 17, ground := Go.Ground.guard }], guard := some (17, true) }) 16 _ rfl (by rfl) (by go_simp <;> with_reducible rfl) ?_
                refine (known_any _).mono ?_
                rintro e w9 ⟨rfl, b9⟩
                refine ⟨_, rfl, ?_⟩
                simp only [Act.put, List.setIfInBounds_toArray, List.set_cons_zero, List.set_cons_succ]
                have B9 : Hid (Below w.heap.size w w9) := M6.out.b.trans (b9.mono M6.out.b.size)
                clear b9
                refine any_one 19 (by kernel_rfl) ?_
                refine op_value (.bool true) (i := 19) (oi := { dst := some 101, op := Go.Op.pick (Go.Operand.tmp 99) (Go.Operand.tmp 100) (Go.Operand.const (Go.Value.bool false)), type := 4, pos := "law.go:161", after := #[{ on := 17, ground := Go.Ground.data }, { on := 18, ground := Go.Ground.data }], guard := none }) rfl (by rfl) (by go_simp <;> with_reducible rfl) ?_
                simp only [Act.put, List.setIfInBounds_toArray, List.set_cons_zero, List.set_cons_succ]
                refine any_one 20 (by kernel_rfl) ?_
                refine op_value (.bool true) (i := 20) (oi := { dst := some 2, op := Go.Op.assign (Go.Operand.tmp 101), type := 4, pos := "law.go:161", after := #[{ on := 19, ground := Go.Ground.data }, { on := 18, ground := Go.Ground.chain }, { on := 0, ground := Go.Ground.phase }, { on := 1, ground := Go.Ground.phase }, { on := 2, ground := Go.Ground.phase }, { on := 3, ground := Go.Ground.phase }, { on := 4, ground := Go.Ground.phase }, { on := 5, ground := Go.Ground.phase }, { on := 6, ground := Go.Ground.phase }, { on := 7, ground := Go.Ground.phase }, { on := 8, ground := Go.Ground.phase }, { on := 9, ground := Go.Ground.phase }, { on := 10, ground := Go.Ground.phase }, { on := 11, ground := Go.Ground.phase }, { on := 12, ground := Go.Ground.phase }, { on := 13, ground := Go.Ground.phase }, { on := 14, ground := Go.Ground.phase }, { on := 15, ground := Go.Ground.phase }, { on := 16, ground := Go.Ground.phase }, { on := 17, ground := Go.Ground.phase }, { on := 18, ground := Go.Ground.phase }, { on := 19, ground := Go.Ground.phase }], guard := none }) rfl (by rfl) (by go_simp <;> with_reducible rfl) ?_
                simp only [Act.put, List.setIfInBounds_toArray, List.set_cons_zero, List.set_cons_succ]
                refine wpAnyIn_done (by kernel_rfl) ?_ _
                go_wp2
                go_ret
                exact ⟨rfl, B9.out⟩
end Go.Proofs.Ytaipnledcgdncaa
