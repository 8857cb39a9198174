/- CodecStreams: frames one behind the other are read as what they were made of; cut anywhere, the first ones are. -/
import Derived.Test.YtmdjgellmkjghaaDoorFr3
namespace Go.Proofs.YtmdjgellmkjghaaDoor
open Go.RowKit Go.Shelf Cod
attribute [local go_sem] Oper.semAt_some
set_option linter.unusedVariables false

set_option maxRecDepth 100000 in
set_option maxHeartbeats 4000000 in
theorem streams_any (la : Option Addr) (ln lc : Nat) (ps : List (List (BitVec 8))) (cut : Int) (w : World) (hT : Tabs w) (hl : LAt w la ln ps) (hln : ln ≤ 140737488355328) (hc : i64ok cut) :
    Calls Tryd.prog 4 #[.slice la ln lc, .int .i64 cut] w fun e w' => e = .returned (.bool true) ∧ Below w.heap.size w w' := by
  refine (callsIn_wide (n := 5)).1 ?_
  refine callsIn_of_wp_marks Tryd.func4 rfl trivial ?_ rfl
  refine wpIn_wide.2 ?_
  simp only [Tryd.ntmps4, List.size_toArray, List.length_cons, List.length_nil, Nat.reduceAdd, Nat.reduceSub, Array.replicate_succ, Array.replicate_zero, List.push_toArray, List.append_toArray, List.nil_append, List.cons_append]
  have HT : Hid (Tabs w) := hT
  have HL : Hid (LAt w la ln ps) := hl
  have HLn : Hid (ln ≤ 140737488355328) := hln
  have HC : Hid (i64ok cut) := hc
  clear hT hl hln hc
  go_wp2_with fail
  go_loopw [5, 7] (fun v i wr => ∃ (k : Nat) (u v' : Value), v = v' ∧ i = .int .i64 k ∧ Hid (k ≤ ps.length ∧ k ≤ 30 ∧ (∀ p ∈ ps.take k, p.length ≤ 65536)) ∧ Hid (Str w wr la ln lc cut ps k v' u))
    (fun _ i _ => 30 - (intOf i).toNat)
  case atStart =>
    refine ⟨0, .slice none 0 0, .slice none 0 0, rfl, rfl, ⟨Nat.zero_le _, by omega, by simp⟩, ?_⟩
    refine ⟨((((Below.refl _ w).alloc (Nat.le_refl _) _).alloc (by simp) _).alloc (by simp <;> omega) _).alloc (by simp <;> omega) _, ?_, ?_, ?_, ?_, World.ownsRow_nil _ _ _ _, World.ownsRow_nil _ _ _ _⟩
    · rw [Below.heap_alloc _ _ _ (by simp [World.size_alloc] <;> omega), Below.heap_alloc _ _ _ (by simp [World.size_alloc] <;> omega), Below.heap_alloc _ _ _ (by simp), heap_alloc_new]
    · have := heap_alloc_new (w.alloc (.cells #[.slice la ln lc] 35)) (.cells #[.int .i64 cut] 3)
      rw [World.size_alloc] at this
      rw [Below.heap_alloc _ _ _ (by simp), Below.heap_alloc _ _ _ (by simp), this]
    · have := heap_alloc_new ((w.alloc (.cells #[.slice la ln lc] 35)).alloc (.cells #[.int .i64 cut] 3)) (.cells #[.bool false] 4)
      rw [World.size_alloc, World.size_alloc] at this
      rw [Below.heap_alloc _ _ _ (by simp), this]
    · have := heap_alloc_new (((w.alloc (.cells #[.slice la ln lc] 35)).alloc (.cells #[.int .i64 cut] 3)).alloc (.cells #[.bool false] 4)) (.cells #[.slice none 0 0] 43)
      rw [World.size_alloc, World.size_alloc, World.size_alloc] at this
      exact this
  case round =>
    obtain ⟨k, u, v, hv, rfl, hk, hS⟩ := hrel
    have hv' := hv.symm
    subst hv'
    clear hv
    obtain ⟨c0, c1, c2, c3, f1, f2, f3⟩ := hS.out.cells
    have hln : ln = ps.length := HL.out.1
    by_cases hlt : k < ps.length ∧ k < 30
    · obtain ⟨b, off, rfl, hcell⟩ : ∃ b off, la = some ⟨b, off, none⟩ ∧ ∀ j (hj : j < ps.length), ∃ a' c', w.cell? ⟨b, off + j, none⟩ = some (.slice a' ps[j].length c') ∧ Seen w a' ps[j].length ps[j] ∧ (a' = none → c' = 0) := by
        rcases HL.out.2 with h | h
        · omega
        · exact h
      obtain ⟨p, hpk⟩ : ∃ p, ps[k] = p := ⟨_, rfl⟩
      have hcellk := hcell k hlt.1
      rw [hpk] at hcellk
      obtain ⟨a', c', e1, e2, e3⟩ := hcellk
      have d1 : wr.cell? ⟨b, off + k, none⟩ = some (.slice a' p.length c') := by rw [hS.out.bel.cell (p := ⟨b, off + k, none⟩) (World.block_lt_of_cell? w _ e1)]; exact e1
      have HSe : Hid (Seen wr a' p.length p) := e2.below hS.out.bel
      have HNl : Hid (a' = none → c' = 0) := e3
      have h1 : (k : Int) < (ln : Int) := by omega
      have h2 : (k : Int) < 30 := by omega
      have HP : Hid (ps[k]? = some p) := by show ps[k]? = some p; rw [List.getElem?_eq_getElem hlt.1, hpk]
      have HK : Hid (k < ps.length ∧ k < 30) := hlt
      have HLen : Hid (ln = ps.length) := hln
      clear hpk hlt hcell e1 e2 e3 hln
      by_cases hp : p.length ≤ 65536
      · have HF := frame_any a' p.length c' p wr (HT.out.below hS.out.bel HT.out.size) HSe.out HNl.out hp
        have HPL : Hid (p.length ≤ 65536) := hp
        clear hp
        go_wp2_with fail
        refine HF.mono ?_
        rintro e w1 ⟨v1, rfl, o1, b1⟩
        have fl := frame_length p
        have e10 := enc_ten (n := p.length) (by have := HPL.out; omega)
        obtain ⟨af, cf, rfl, sf, mf, kf⟩ := owned_seen o1 (by have := HPL.out; unfold maxLen; omega)
        have S1 : Hid (Str w w1 (some ⟨b, off, none⟩) ln lc cut ps k v u) := hS.out.below b1
        have hoff : offs ps (k + 1) = offs ps k + (frame p).length := by
          obtain ⟨hh, he⟩ := List.getElem?_eq_some_iff.1 HP.out
          rw [offs_succ hh, he]
        have hofk : offs ps k ≤ 30 * 65550 := by
          have h1 := frs_small (ps.take k) hk.out.2.2
          have h2 : (ps.take k).length ≤ 30 := by rw [List.length_take]; have := hk.out.2.1; omega
          exact Nat.le_trans h1 (Nat.mul_le_mul_right 65550 h2)
        obtain ⟨v4, w4, hr4, o4, g4⟩ := run_append_bytes 22 w1 (w.heap.size + 4) v (offs ps k) (frs (ps.take k)) S1.out.all af (frame p).length cf (frame p) sf mf (by have := HPL.out; omega) S1.out.sz
        have B4 : Below (w.heap.size + 4) w1 w4 := (Below.refl _ w1).grown g4 S1.out.sz (fun j e => (S1.out.all.lt _ e).1)
        have K4 : KeepN 5 w1 w4 := KeepN.of_grown S1.out.all g4
        have hfr : frs (ps.take (k + 1)) = frs (ps.take k) ++ frame p := by
          obtain ⟨hh, he⟩ := List.getElem?_eq_some_iff.1 HP.out
          rw [frs_take hh, he]
        rw [← hfr, ← hoff] at o4
        obtain ⟨a4, cap4, rfl, s4, m4, k4⟩ := owned_seen o4 (by have := HPL.out; unfold maxLen; omega)
        obtain ⟨u5, w5, hr5, o5, b5, k5⟩ := append_int w4 (w.heap.size + 4) u k _ (owns_keepN S1.out.ends K4 (by decide)) (offs ps (k + 1) : Nat) (by have := hk.out.2.1; omega) (Nat.le_trans S1.out.sz B4.size)
        obtain ⟨g5, cap5, rfl, _, _⟩ := o5.form (by omega)
        have SS := S1.out.more HK.out.1 g4 o4 b5 k5 o5
        have c3' : w4.cell? ⟨w.heap.size + 3, 0, none⟩ = some u := by rw [B4.cell (p := ⟨w.heap.size + 3, 0, none⟩) (by show w.heap.size + 3 < _; omega)]; exact S1.out.cells.2.2.2.1
        have c35 : w5.cell? ⟨w.heap.size + 3, 0, none⟩ = some u := by rw [(B4.trans b5).cell (p := ⟨w.heap.size + 3, 0, none⟩) (by show w.heap.size + 3 < _; omega)]; exact S1.out.cells.2.2.2.1
        have f35 : w5.frozen? ⟨w.heap.size + 3, 0, none⟩ = false := by
          have e := ((B4.trans b5).block (w.heap.size + 3) (by omega)).trans S1.out.b3
          simp [World.frozen?, e]
        have hf0 : ¬ (((frame p).length : Int) = 0) := by omega
        have hf1 : (((frame p).length : Int) == 0) = false := by simpa using hf0
        have HSS : Hid _ := SS
        have HR4 : Hid _ := hr4
        have HR5 : Hid _ := hr5
        clear hf0 SS hr4 hr5 o4 s4 m4 k4 o5 b5 k5 K4 B4 g4 hfr hoff hofk sf mf kf o1 b1 fl e10 c0 c1 c2 c3 f1 f2 f3 d1 HF
        go_wp2_with (at_builtin; first
          | refine wpList_append_known rfl (.tmp 47) (.tmp 48) 22 22 rfl _ _ rfl rfl _ _ HR4.out ?_
          | refine wpList_append_known rfl (.tmp 50) (.tmp 53) 43 43 rfl _ _ rfl rfl _ _ HR5.out ?_)
        go_roundw
        case rel =>
          refine ⟨k + 1, _, _, rfl, by simp, ⟨by have := HK.out; omega, by have := HK.out; omega, ?_⟩, HSS.out⟩
          intro q hq
          obtain ⟨hh, he⟩ := List.getElem?_eq_some_iff.1 HP.out
          rw [List.take_add_one, List.mem_append] at hq
          rcases hq with hq | hq
          · exact hk.out.2.2 q hq
          · rw [HP.out] at hq
            obtain rfl : q = p := by simpa using hq
            exact HPL.out
        case measure => simp [intOf]; have := HK.out; omega
      · have hpl : (65536 : Int) < (p.length : Int) := by omega
        have HF := frame_no a' p.length c' wr (by omega)
        have HKn := known_any wr (HT.out.below hS.out.bel HT.out.size)
        have HPL : Hid (65536 < p.length) := by show 65536 < p.length; omega
        clear hp
        go_wp2_with fail
        refine HF.mono ?_
        rintro e w1 ⟨rfl, rfl⟩
        go_wp2_with fail
        refine HKn.mono ?_
        rintro e w2 ⟨rfl, b2⟩
        have S2 := hS.out.below b2
        obtain ⟨c0', c1', c2', c3', f1', f2', f3'⟩ := S2.cells
        have HB : Hid (Below w.heap.size w w2) := S2.bel
        have HSZ : Hid (w2.heap[w.heap.size + 2]? = some (.cells #[.bool false] 4 (0, 0))) := S2.b2
        clear S2 b2 HF HKn
        go_wp2
        refine ⟨.bool true, results_bool rfl _ _ (w.heap.size + 2) true rfl ?_, rfl, HB.out.setCell (p := ⟨w.heap.size + 1 + 1, 0, none⟩) (by show w.heap.size ≤ w.heap.size + 1 + 1; omega) _⟩
        exact World.cell?_setCell_same' _ _ _ (by rw [c2']; rfl)
    · have hk2 : k = ps.length ∨ k = 30 := by have := hk.out; omega
      have hofk : offs ps k ≤ 30 * 65550 := by
        have h1 := frs_small (ps.take k) hk.out.2.2
        have h2 : (ps.take k).length ≤ 30 := by rw [List.length_take]; have := hk.out.2.1; omega
        exact Nat.le_trans h1 (Nat.mul_le_mul_right 65550 h2)
      obtain ⟨a4, c4, rfl, s4, m4, k4⟩ := owned_seen hS.out.all (by unfold maxLen; omega)
      obtain ⟨n4, hn4⟩ : ∃ n4, offs ps k = n4 := ⟨_, rfl⟩
      rw [hn4] at s4 k4 hofk ⊢
      have hz0 : 0 ≤ cut % ((n4 : Int) + 1) := Int.emod_nonneg _ (by omega)
      have hz1 : cut % ((n4 : Int) + 1) < (n4 : Int) + 1 := Int.emod_lt_of_pos _ (by omega)
      obtain ⟨c, hc⟩ : ∃ c : Nat, cut % ((n4 : Int) + 1) = (c : Int) := ⟨(cut % ((n4 : Int) + 1)).toNat, by omega⟩
      rw [hc] at hz0 hz1
      have HCt := count_any cut ((n4 : Int) + 1) wr HC.out.1 (by have := HC.out.2; omega) (by omega) (by omega)
      rw [hc] at HCt
      have hc4 : c ≤ n4 := by omega
      have HN4 : Hid (offs ps k = n4) := hn4
      have HS4 : Hid (Seen wr a4 n4 (frs (ps.take k))) := s4
      have HM4 : Hid (a4 = none → c4 = 0) := m4
      have HK4 : Hid (n4 ≤ c4) := k4
      have HOF : Hid (n4 ≤ 30 * 65550) := hofk
      have HCN : Hid (c ≤ n4) := hc4
      have hcc : (c : Int) ≤ (c4 : Int) := by omega
      have hcz : (0 : Int) ≤ (c : Int) := by omega
      have wn : IntKind.i64.wrap ((n4 : Int) + 1) = (n4 : Int) + 1 := by rw [IntKind.wrap_i64]; omega
      have HLen : Hid (ln = ps.length) := hln
      clear hn4 s4 m4 k4 hofk hc hz0 hz1 hc4
      have hcond : ((k : Int) < (ln : Int) ∧ ¬ (k : Int) < 30) ∨ ¬ (k : Int) < (ln : Int) := by omega
      have HK2 : Hid (k = ps.length ∨ k = 30) := hk2
      clear hk2 hlt hln
      have s0 := hS.out.sz
      have e1 : (wr.setCell ⟨w.heap.size + 1, 0, none⟩ (.int .i64 c)).heap[w.heap.size + 1]? = some (.cells #[.int .i64 c] 3 (0, 0)) := by
        have := set_block hS.out.b1 0 (.int .i64 c)
        simpa using this
      have hsz : (wr.setCell ⟨w.heap.size + 1, 0, none⟩ (.int .i64 c)).heap.size = wr.heap.size := by simp
      have keep : ∀ j o, j ≠ w.heap.size + 1 → wr.heap[j]? = some o → ((wr.setCell ⟨w.heap.size + 1, 0, none⟩ (.int .i64 c)).alloc (.cells #[.int .i64 0] 3)).heap[j]? = some o := fun j o hj ho => by
        rw [Below.heap_alloc _ _ _ (by have := (Array.getElem?_eq_some_iff.1 ho).1; omega), Below.heap_setCell _ _ _ j (fun e => hj (by simpa using e))]
        exact ho
      have e2 : ((wr.setCell ⟨w.heap.size + 1, 0, none⟩ (.int .i64 c)).alloc (.cells #[.int .i64 0] 3)).heap[w.heap.size + 1]? = some (.cells #[.int .i64 c] 3 (0, 0)) := by
        rw [Below.heap_alloc _ _ _ (by omega)]; exact e1
      have e3 : ((wr.setCell ⟨w.heap.size + 1, 0, none⟩ (.int .i64 c)).alloc (.cells #[.int .i64 0] 3)).heap[wr.heap.size]? = some (.cells #[.int .i64 0] 3 (0, 0)) := by
        have := heap_alloc_new (wr.setCell ⟨w.heap.size + 1, 0, none⟩ (.int .i64 c)) (.cells #[.int .i64 0] 3)
        rw [hsz] at this; exact this
      have bW : Below w.heap.size wr ((wr.setCell ⟨w.heap.size + 1, 0, none⟩ (.int .i64 c)).alloc (.cells #[.int .i64 0] 3)) := ((Below.refl _ wr).setCell (p := ⟨w.heap.size + 1, 0, none⟩) (by show w.heap.size ≤ w.heap.size + 1; omega) _).alloc (by omega) _
      have zW : ((wr.setCell ⟨w.heap.size + 1, 0, none⟩ (.int .i64 c)).alloc (.cells #[.int .i64 0] 3)).heap.size = wr.heap.size + 1 := by rw [World.size_alloc, hsz]
      have hcell2 : ((wr.setCell ⟨w.heap.size + 1, 0, none⟩ (.int .i64 c)).alloc (.cells #[.int .i64 0] 3)).cell? ⟨w.heap.size + 1, 0, none⟩ = some (.int .i64 c) := by simp [World.cell?, e2]
      -- the numbers at which frames end
      obtain ⟨ge, ce, ae, hue, hge, hge2, hec⟩ : ∃ ge ce ae, u = .slice ae k ce ∧ (0 < k → ae = some ⟨ge, 0, none⟩) ∧ (ge < wr.heap.size ∧ ge ≠ w.heap.size + 1) ∧ ∀ i, i < k → wr.cell? ⟨ge, i, none⟩ = some (.int .i64 (offs ps (i + 1) : Nat)) := by
        rcases hS.out.ends.2 with ⟨h1, h2⟩ | ⟨g, cp, cur, h1, h2, h3, h4⟩
        · refine ⟨w.heap.size, 0, none, by rw [h1, h2], fun h => by omega, ⟨by omega, by omega⟩, fun i hi => by omega⟩
        · refine ⟨g, cp, some ⟨g, 0, none⟩, h1, fun _ => rfl, ⟨(Array.getElem?_eq_some_iff.1 h3).1, by omega⟩, fun i hi => ?_⟩
          have h5 := hS.out.ends
          rw [h1] at h5
          rw [h5.cellAt i (by omega)]
          simp [hi]
      have hS2 : St2 w ((wr.setCell ⟨w.heap.size + 1, 0, none⟩ (.int .i64 c)).alloc (.cells #[.int .i64 0] 3)) la ln lc c k wr.heap.size ge ps u 0 := by
        refine ⟨hS.out.bel.trans bW, keep _ _ (by omega) hS.out.b0, e2, keep _ _ (by omega) hS.out.b2, keep _ _ (by omega) hS.out.b3, e3, fun i hi => ?_⟩
        have hx := hec i hi
        have hb : ∃ o, wr.heap[ge]? = some o := ⟨_, Array.getElem?_eq_getElem hge2.1⟩
        obtain ⟨o, ho⟩ := hb
        rw [World.cell?_of_block (w := wr) ((keep ge o hge2.2 ho).trans ho.symm)]
        exact hx
      have S4' : Seen ((wr.setCell ⟨w.heap.size + 1, 0, none⟩ (.int .i64 c)).alloc (.cells #[.int .i64 0] 3)) a4 n4 (frs (ps.take k)) := by
        obtain ⟨t1, t2, t3⟩ := HS4.out
        refine ⟨t1, t2, t3.imp id ?_⟩
        rintro ⟨b, off, rfl, hc⟩
        refine ⟨b, off, rfl, fun j hj => ?_⟩
        have hx := hc j hj
        obtain ⟨o, ho, hoc⟩ := cells_of_cell hx
        have hbn : b ≠ w.heap.size + 1 := fun e => by
          rw [e] at hx
          simp only [World.cell?, hS.out.b1] at hx
          cases hoj : off + j with
          | zero => rw [hoj] at hx; simp at hx
          | succ m => rw [hoj] at hx; simp at hx
        rw [World.cell?_of_block (w := wr) (a := ⟨b, off + j, none⟩) ((keep b o hbn ho).trans ho.symm)]
        exact hx
      have HFr := frames_any a4 c c4 ((frs (ps.take k)).take c) _ (S4'.take c HCN.out) HM4.out (by have := HCN.out; have := HOF.out; omega)
      subst hue
      have HS2 : Hid (St2 w ((wr.setCell ⟨w.heap.size + 1, 0, none⟩ (.int .i64 c)).alloc (.cells #[.int .i64 0] 3)) la ln lc c k wr.heap.size ge ps (.slice ae k ce) 0) := hS2
      have HGE : Hid ((0 < k → ae = some ⟨ge, 0, none⟩) ∧ ge < wr.heap.size) := ⟨hge, hge2.1⟩
      have HSZ : Hid (w.heap.size + 4 ≤ wr.heap.size) := s0
      have HZW : Hid (((wr.setCell ⟨w.heap.size + 1, 0, none⟩ (.int .i64 c)).alloc (.cells #[.int .i64 0] 3)).heap.size = wr.heap.size + 1) := zW
      clear e1 hsz keep e2 e3 bW zW hge hge2 hec hS2 S4' s0
      rcases hcond with ⟨q1, q2⟩ | q1
      all_goals
        go_wp2_with fail
        refine HCt.mono ?_
        rintro e w1 ⟨rfl, rfl⟩
        go_wp2_with fail
        refine HFr.mono ?_
        rintro e w2 ⟨B, a5, c5, rfl, b5, x5, s5, m5, k5, l5⟩
        generalize (w1.setCell ⟨w.heap.size + 1, 0, none⟩ (.int .i64 c)).alloc (.cells #[.int .i64 0] 3) = V at *
        have hsq := seq_some w2 (.func 37) #[] #[.pointer (some ⟨B, 0, none⟩)]
        go_wp2_with fail
        have T2 : Tabs w2 := HT.out.below (HS2.out.bel.trans (b5.mono HS2.out.bel.size)) HT.out.size
        have HV : Hid (V.heap.size = w1.heap.size + 1) := HZW.out
        have S20 := HS2.out.low (b5.mono (Nat.le_refl _)) (by have := HSZ.out; have := HV.out; omega) (by have := HV.out; omega) (by have := HGE.out.2; have := HV.out; omega)
        have X5 := x5
        have B5 : Hid (Below V.heap.size V w2) := b5
        have S5 : Hid (Seen w2 a5 c ((frs (ps.take k)).take c)) := s5
        have M5 : Hid ((a5 = none → c5 = 0) ∧ c ≤ c5 ∧ ∀ y, a5 = some y → y.block < w2.heap.size) := ⟨m5, k5, l5⟩
        have S20' : Hid (St2 w w2 la ln lc c k w1.heap.size ge ps (.slice ae k ce) 0) := S20
        have HX5 : Hid (w2.cell? ⟨B, 0, none⟩ = some (.slice a5 c c5)) := x5
        have T2' : Hid (Tabs w2) := T2
        clear s5 m5 k5 l5 S20 x5 X5 b5 T2 c0 c1 c2 c3 f1 f2 f3 hcell2 HFr HCt hsq q1
        try clear q2
        refine (wpIn_wide (n := 5)).1 ?_
        refine range_1 (n := 5) (gf := 37) (lb := #[.pointer (some ⟨B, 0, none⟩)]) (w0 := w2) (v := fun x : GotV => x.v) (by simp) rfl (enters_of Tryd.func37 (by kernel_rfl) rfl)
          (frames1_seq 4 V.heap.size w2.heap.size B a5 c c5 ((frs (ps.take k)).take c) w2 T2'.out B5.out.size (Nat.le_refl _) HX5.out S5.out M5.out.1 M5.out.2.1 (by have := HCN.out; have := HOF.out; omega) M5.out.2.2) Kc.tr (fun A => Kc.of_below (Below.refl _ _)) Kc.bk (Below.refl _ _) ?hR
          (fun pre X => pre.length ≤ k ∧ offs ps pre.length ≤ c ∧ St2 w X la ln lc c k w1.heap.size ge ps (.slice ae k ce) pre.length) (fun _ _ _ => False) ?hI (fun _ _ _ _ h _ => h) ⟨Nat.zero_le _, by simp [offs, frs], S20'.out⟩ ?body ?done (fun _ _ _ _ _ _ h _ => h.elim)
        case hR =>
          rintro pre x _ X Y row ⟨h1, h2, h3, h4⟩ hg hrow
          refine ⟨h1, h2, h3, ?_⟩
          refine ⟨h4.1, h4.2.imp id ?_⟩
          rintro ⟨g, cap, cur, e1, hb, hgg, hr⟩
          exact ⟨g, cap, cur, e1, hb, (grownBy_keeps_cells hg (fun r e => (hrow r e).2) hgg rfl).trans hgg, hr⟩
        case hI =>
          rintro pre X Y ⟨h1, h2, h3⟩ hb
          exact ⟨h1, h2, h3.low hb (by have := HSZ.out; have := HV.out; have := B5.out.size; omega) (by have := HV.out; have := B5.out.size; omega) (by have := HGE.out.2; have := HV.out; have := B5.out.size; omega)⟩
        case body =>
          rintro l' pre ⟨xv, xp⟩ X ⟨h1, h2, h3⟩ ⟨hg, hp, hpl, ho⟩
          simp only at hp hpl ho ⊢
          have hko := hk.out
          obtain ⟨hlt, hoff, hbody⟩ := (good_frs (ps.take k) hko.2.2 c pre.length (by rw [List.length_take]; omega) (by unfold offs at h2 ⊢; rw [List.take_take, Nat.min_eq_left h1]; exact h2)).1 hg
          have hlt' : pre.length < k := by rw [List.length_take] at hlt; omega
          have hltp : pre.length < ps.length := by omega
          have hxp : xp = ps[pre.length] := by rw [hp, hbody]; simp
          obtain ⟨ax, cx, rfl, sx, mx, kx⟩ := owned_seen ho (by unfold maxLen; omega)
          obtain ⟨b, off, rfl, hcell⟩ : ∃ b off, la = some ⟨b, off, none⟩ ∧ ∀ j (hj : j < ps.length), ∃ a' c', w.cell? ⟨b, off + j, none⟩ = some (.slice a' ps[j].length c') ∧ Seen w a' ps[j].length ps[j] ∧ (a' = none → c' = 0) := by
            rcases HL.out.2 with h | h
            · have := HLen.out; omega
            · exact h
          have hcellk := hcell pre.length hltp
          rw [← hxp] at hcellk
          obtain ⟨a', c', e1, e2, e3⟩ := hcellk
          have d1 : X.cell? ⟨b, off + pre.length, none⟩ = some (.slice a' xp.length c') := by rw [h3.bel.cell (p := ⟨b, off + pre.length, none⟩) (World.block_lt_of_cell? w _ e1)]; exact e1
          have t1 : ∀ q, (convert 22 9 (.slice ax xp.length cx)).run Tryd.prog (X.drewN q) = .ok (.string (textOf xp)) (X.drewN q) := fun q => run_to_text _ ax xp.length cx xp sx
          have t2 : ∀ q, (convert 22 9 (.slice a' xp.length c')).run Tryd.prog (X.drewN q) = .ok (.string (textOf xp)) (X.drewN q) := fun q => run_to_text _ a' xp.length c' xp ((e2.below h3.bel).drewN q)
          obtain ⟨g0, g1, g2, g3, gn, fn, f2⟩ := h3.cells
          have hae := HGE.out.1 (by omega)
          subst hae
          have ge' := h3.ec pre.length hlt'
          have hoff' : offs ps (pre.length + 1) ≤ c := by unfold offs at hoff ⊢; rw [List.take_take, Nat.min_eq_left (by omega)] at hoff; exact hoff
          have j1 : (pre.length : Int) < (k : Int) := by omega
          have j2 : ((offs ps (pre.length + 1) : Nat) : Int) ≤ (c : Int) := by omega
          have j3 : (pre.length : Int) < (ln : Int) := by have := HLen.out; omega
          have m1 : pre.length < k := hlt'
          have m2 : offs ps (pre.length + 1) ≤ c := hoff'
          have m3 : pre.length < ln := by omega
          have H3 : Hid (St2 w X (some ⟨b, off, none⟩) ln lc c k w1.heap.size ge ps (.slice (some ⟨ge, 0, none⟩) k ce) pre.length) := h3
          have HO : Hid (offs ps (pre.length + 1) ≤ c ∧ pre.length < k) := ⟨hoff', hlt'⟩
          have HGN : Hid (X.cell? ⟨w1.heap.size, 0, none⟩ = some (.int .i64 (pre.length : Nat))) := gn
          have HKs : Hid (k ≤ 30) := hko.2.1
          clear h1 h2 h3 hg hp hpl ho hko hlt hoff hbody hlt' hltp hxp sx mx kx hcell e1 e2 e3 hoff'
          simp only [List.setIfInBounds_toArray, List.set_cons_zero, List.set_cons_succ]
          gi_wp2_with fail
          refine round_quiet l' (by kernel_rfl) (by kernel_rfl) (by kernel_rfl) ?_
          repeat (quiet_step_in (fail))
          refine wpQuietIn_nil ?_
          intro _ hw'
          obtain ⟨nq, rfl⟩ := hw'
          have hw1 : IntKind.i64.wrap ((pre.length : Int) + 1) = ((pre.length + 1 : Nat) : Int) := by rw [IntKind.wrap_i64]; have := HO.out.2; have := HKs.out; omega
          clear t1 t2 j1 j2 j3 m3 ge' d1
          gi_wp2
          have e1 : ((pre.length : Int) + 1) = ((pre.length + 1 : Nat) : Int) := by simp
          rw [e1]
          have kk := KeepsOthers.setCell (X.drewN nq) ⟨w1.heap.size, 0, none⟩ (.int .i64 ((pre.length + 1 : Nat) : Int))
          have kf : KeepsFrom w2.heap.size X ((X.drewN nq).setCell ⟨w1.heap.size, 0, none⟩ (.int .i64 ((pre.length + 1 : Nat) : Int))) := ⟨kk.size, fun i o _ hi ho => kk.same i o hi ho⟩
          refine ⟨kf, kc_box HGN.out (by have := HV.out; omega) nq, ?_, ?_, ?_⟩
          · rw [List.length_append]; exact HO.out.2
          · rw [List.length_append]; exact HO.out.1
          · rw [List.length_append]
            exact H3.out.next HSZ.out (by have := HGE.out.2; omega) nq
        case done =>
          rintro D xs X hD hS ⟨h1, h2, h3⟩ hK
          have hko := hk.out
          have hend := (good_frs (ps.take k) hko.2.2 c xs.length (by rw [List.length_take]; omega) (by unfold offs at h2 ⊢; rw [List.take_take, Nat.min_eq_left h1]; exact h2)).2 hS
          have TX : Hid (Tabs X.drew) := HT.out.below h3.bel.drew HT.out.size
          have HD : Hid (w.heap.size + 4 ≤ D) := by show w.heap.size + 4 ≤ D; have := HSZ.out; have := HV.out; have := B5.out.size; omega
          by_cases hj : xs.length = k
          · have SZ : Hid (Sz w X c k w1.heap.size ge ps (.slice ae k ce) k) := by have := h3.sz; rw [hj] at this; exact this
            clear hend h1 h2 h3 hko
            go_wp2_with fail
            refine onward_wp ?_
            refine wp_region_held_drew (S := fun w' => Sz w w' c k w1.heap.size ge ps (.slice ae k ce) k) (by kernel_rfl) (SZ.out.below (Below.drew (Below.refl _ X))) (fun hHeld => ?_)
            refine take_run (i := 0) (oi := { dst := some 92, op := Go.Op.load 3 (Go.Operand.tmp 10), type := 3, pos := "law.go:220", after := #[], guard := none }) (v := .int .i64 (k : Nat)) rfl (by kernel_rfl) (by kernel_rfl) (by kernel_rfl) (fun _ _ _ h => h) (by rfl) ?_ hHeld ?_
            · (intro wq hSw; have g1 := hSw.c1; have g3 := hSw.c3; have g4 := hSw.cn; go_simp <;> with_reducible rfl)
            try simp only [Act.put, List.setIfInBounds_toArray, List.set_cons_zero, List.set_cons_succ]
            refine take_run (i := 1) (oi := { dst := some 93, op := Go.Op.load 43 (Go.Operand.tmp 6), type := 43, pos := "law.go:220", after := #[], guard := none }) (v := .slice ae k ce) rfl (by kernel_rfl) (by kernel_rfl) (by kernel_rfl) (fun _ _ _ h => h) (by rfl) ?_ hHeld ?_
            · (intro wq hSw; have g1 := hSw.c1; have g3 := hSw.c3; have g4 := hSw.cn; go_simp <;> with_reducible rfl)
            try simp only [Act.put, List.setIfInBounds_toArray, List.set_cons_zero, List.set_cons_succ]
            refine take_run (i := 2) (oi := { dst := some 94, op := Go.Op.call { callee := Go.Callee.builtin Go.Builtin.len, args := #[Go.Operand.tmp 93], argTypes := #[43] }, type := 3, pos := "law.go:220", after := #[{ on := 1, ground := Go.Ground.data }], guard := none }) (v := .int .i64 (k : Nat)) rfl (by kernel_rfl) (by kernel_rfl) (by kernel_rfl) (fun _ _ _ h => h) (by rfl) ?_ hHeld ?_
            · (intro wq hSw; go_simp <;> with_reducible rfl)
            try simp only [Act.put, List.setIfInBounds_toArray, List.set_cons_zero, List.set_cons_succ]
            refine take_run (i := 3) (oi := { dst := some 95, op := Go.Op.binOp Go.BinOp.eql 3 (Go.Operand.tmp 92) (Go.Operand.tmp 94) 3, type := 4, pos := "law.go:220", after := #[{ on := 0, ground := Go.Ground.data }, { on := 2, ground := Go.Ground.data }], guard := none }) (v := .bool true) rfl (by kernel_rfl) (by kernel_rfl) (by kernel_rfl) (fun _ _ _ h => h) (by rfl) ?_ hHeld ?_
            · (intro wq hSw; go_simp <;> with_reducible rfl)
            try simp only [Act.put, List.setIfInBounds_toArray, List.set_cons_zero, List.set_cons_succ]
            refine take_run (i := 4) (oi := { dst := some 96, op := Go.Op.move (Go.Operand.tmp 95), type := 4, pos := "law.go:220", after := #[{ on := 3, ground := Go.Ground.data }], guard := none }) (v := .bool true) rfl (by kernel_rfl) (by kernel_rfl) (by kernel_rfl) (fun _ _ _ h => h) (by rfl) ?_ hHeld ?_
            · (intro wq hSw; go_simp <;> with_reducible rfl)
            try simp only [Act.put, List.setIfInBounds_toArray, List.set_cons_zero, List.set_cons_succ]
            refine take_skip (i := 5) (oi := { dst := some 97, op := Go.Op.load 43 (Go.Operand.tmp 6), type := 43, pos := "law.go:220", after := #[{ on := 4, ground := Go.Ground.guard }], guard := some (4, false) }) rfl (by kernel_rfl) (by kernel_rfl) (by kernel_rfl) (fun _ _ _ h => h) (by rfl) hHeld ?_
            try simp only [Act.put, List.setIfInBounds_toArray, List.set_cons_zero, List.set_cons_succ]
            refine take_skip (i := 6) (oi := { dst := some 98, op := Go.Op.load 3 (Go.Operand.tmp 10), type := 3, pos := "law.go:220", after := #[{ on := 4, ground := Go.Ground.guard }], guard := some (4, false) }) rfl (by kernel_rfl) (by kernel_rfl) (by kernel_rfl) (fun _ _ _ h => h) (by rfl) hHeld ?_
            try simp only [Act.put, List.setIfInBounds_toArray, List.set_cons_zero, List.set_cons_succ]
            refine take_skip (i := 7) (oi := { dst := some 99, op := Go.Op.indexAddr 43 (Go.Operand.tmp 97) (Go.Operand.tmp 98), type := 0, pos := "law.go:220", after := #[{ on := 5, ground := Go.Ground.data }, { on := 6, ground := Go.Ground.data }, { on := 4, ground := Go.Ground.guard }], guard := some (4, false) }) rfl (by kernel_rfl) (by kernel_rfl) (by kernel_rfl) (fun _ _ _ h => h) (by rfl) hHeld ?_
            try simp only [Act.put, List.setIfInBounds_toArray, List.set_cons_zero, List.set_cons_succ]
            refine take_skip (i := 8) (oi := { dst := some 100, op := Go.Op.load 3 (Go.Operand.tmp 99), type := 3, pos := "law.go:220", after := #[{ on := 7, ground := Go.Ground.data }, { on := 4, ground := Go.Ground.guard }], guard := some (4, false) }) rfl (by kernel_rfl) (by kernel_rfl) (by kernel_rfl) (fun _ _ _ h => h) (by rfl) hHeld ?_
            try simp only [Act.put, List.setIfInBounds_toArray, List.set_cons_zero, List.set_cons_succ]
            refine take_skip (i := 9) (oi := { dst := some 101, op := Go.Op.load 3 (Go.Operand.tmp 3), type := 3, pos := "law.go:220", after := #[{ on := 4, ground := Go.Ground.guard }], guard := some (4, false) }) rfl (by kernel_rfl) (by kernel_rfl) (by kernel_rfl) (fun _ _ _ h => h) (by rfl) hHeld ?_
            try simp only [Act.put, List.setIfInBounds_toArray, List.set_cons_zero, List.set_cons_succ]
            refine take_skip (i := 10) (oi := { dst := some 102, op := Go.Op.binOp Go.BinOp.gtr 3 (Go.Operand.tmp 100) (Go.Operand.tmp 101) 3, type := 4, pos := "law.go:220", after := #[{ on := 8, ground := Go.Ground.data }, { on := 9, ground := Go.Ground.data }, { on := 4, ground := Go.Ground.guard }], guard := some (4, false) }) rfl (by kernel_rfl) (by kernel_rfl) (by kernel_rfl) (fun _ _ _ h => h) (by rfl) hHeld ?_
            try simp only [Act.put, List.setIfInBounds_toArray, List.set_cons_zero, List.set_cons_succ]
            refine take_run (i := 11) (oi := { dst := some 103, op := Go.Op.pick (Go.Operand.tmp 96) (Go.Operand.const (Go.Value.bool true)) (Go.Operand.tmp 102), type := 4, pos := "law.go:220", after := #[{ on := 4, ground := Go.Ground.data }, { on := 10, ground := Go.Ground.data }], guard := none }) (v := .bool true) rfl (by kernel_rfl) (by kernel_rfl) (by kernel_rfl) (fun _ _ _ h => h) (by rfl) ?_ hHeld ?_
            · (intro wq hSw; go_simp <;> with_reducible rfl)
            try simp only [Act.put, List.setIfInBounds_toArray, List.set_cons_zero, List.set_cons_succ]
            refine take_run (i := 12) (oi := { dst := some 104, op := Go.Op.move (Go.Operand.tmp 103), type := 4, pos := "law.go:220", after := #[{ on := 11, ground := Go.Ground.data }, { on := 4, ground := Go.Ground.chain }], guard := none }) (v := .bool true) rfl (by kernel_rfl) (by kernel_rfl) (by kernel_rfl) (fun _ _ _ h => h) (by rfl) ?_ hHeld ?_
            · (intro wq hSw; go_simp <;> with_reducible rfl)
            try simp only [Act.put, List.setIfInBounds_toArray, List.set_cons_zero, List.set_cons_succ]
            refine take_call (i := 13) (oi := { dst := some 105, op := Go.Op.call { callee := Go.Callee.value (Go.Operand.func 16), args := #[], argTypes := #[] }, type := 4, pos := "law.go:220", after := #[{ on := 12, ground := Go.Ground.chain }, { on := 12, ground := Go.Ground.guard }], guard := some (12, true) }) rfl (by kernel_rfl) (by rfl) 16 _ (by go_simp <;> with_reducible rfl) ?_
            refine (known_any X.drew TX.out).mono ?_
            rintro e Y ⟨rfl, bY⟩
            have hY := hHeld.below bY
            refine ⟨.bool true, rfl, hY, ?_⟩
            try simp only [Act.put, List.setIfInBounds_toArray, List.set_cons_zero, List.set_cons_succ]
            refine take_run (i := 14) (oi := { dst := some 106, op := Go.Op.pick (Go.Operand.tmp 104) (Go.Operand.tmp 105) (Go.Operand.const (Go.Value.bool false)), type := 4, pos := "law.go:220", after := #[{ on := 12, ground := Go.Ground.data }, { on := 13, ground := Go.Ground.data }], guard := none }) (v := .bool true) rfl (by kernel_rfl) (by kernel_rfl) (by kernel_rfl) (fun _ _ _ h => h) (by rfl) ?_ hY ?_
            · (intro wq hSw; go_simp <;> with_reducible rfl)
            try simp only [Act.put, List.setIfInBounds_toArray, List.set_cons_zero, List.set_cons_succ]
            have st1 := hY.f2
            obtain ⟨b2, st2⟩ := hY.c2
            refine take_store (i := 15) (oi := { dst := none, op := Go.Op.store 4 (Go.Operand.tmp 4) (Go.Operand.tmp 106), type := 0, pos := "law.go:220", after := #[{ on := 14, ground := Go.Ground.data }, { on := 13, ground := Go.Ground.chain }, { on := 0, ground := Go.Ground.phase }, { on := 1, ground := Go.Ground.phase }, { on := 2, ground := Go.Ground.phase }, { on := 3, ground := Go.Ground.phase }, { on := 4, ground := Go.Ground.phase }, { on := 5, ground := Go.Ground.phase }, { on := 6, ground := Go.Ground.phase }, { on := 7, ground := Go.Ground.phase }, { on := 8, ground := Go.Ground.phase }, { on := 9, ground := Go.Ground.phase }, { on := 10, ground := Go.Ground.phase }, { on := 11, ground := Go.Ground.phase }, { on := 12, ground := Go.Ground.phase }, { on := 13, ground := Go.Ground.phase }, { on := 14, ground := Go.Ground.phase }], guard := none }) (w' := Y.setCell ⟨w.heap.size + 2, 0, none⟩ (.bool true)) rfl (by kernel_rfl) (by rfl) (by go_simp <;> with_reducible rfl) (hY.store (fun b => by simp) true) ?_
            refine wpAnyH_done (by kernel_rfl) ?_ _
            show onward _ .normal _ _
            unfold onward
            have ZZ : Hid (Below w.heap.size w (Y.setCell ⟨w.heap.size + 2, 0, none⟩ (.bool true))) := (hY.store (fun b => by simp) true).bel
            have R2 : Hid ((Y.setCell ⟨w.heap.size + 2, 0, none⟩ (.bool true)).cell? ⟨w.heap.size + 2, 0, none⟩ = some (.bool true)) := World.cell?_setCell_same' _ _ _ (by rw [st2]; rfl)
            have KD : Hid ((Y.setCell ⟨w.heap.size + 2, 0, none⟩ (.bool true)).heap[D]? = some (.deferred (some []))) := by
              show (Y.setCell ⟨w.heap.size + 2, 0, none⟩ (.bool true)).heap[D]? = _
              rw [Below.heap_setCell _ _ _ D (fun e => by have e' : D = w.heap.size + 2 := (by simpa using e); have := HD.out; omega), bY.block D (Array.getElem?_eq_some_iff.1 hK).1]
              exact hK
            clear hY st1 st2 bY hHeld
            go_wp2
            refine ⟨by simp, .inl ⟨_, _, rfl, run_takeDeferred KD.out, ?_⟩⟩
            refine ⟨.bool true, results_bool rfl _ _ (w.heap.size + 2) true rfl ?_, rfl, ?_⟩
            · exact cell_kept R2.out (grownBy_putObj' _ D (.deferred none)) (fun r e => by cases e; exact ⟨_, KD.out, rfl⟩)
            · exact ZZ.out.grown (grownBy_putObj' _ D (.deferred none)) ZZ.out.size (fun k e => by cases e; have := HD.out; omega)
          · have HJK : Hid (xs.length < k) := by show xs.length < k; omega
            have hgt : c < offs ps (xs.length + 1) := by
              rcases hend with h | h
              · rw [List.length_take] at h; omega
              · unfold offs at h ⊢; rw [List.take_take, Nat.min_eq_left (by have := HJK.out; omega)] at h; exact h
            have hgt' : (c : Int) < (offs ps (xs.length + 1) : Nat) := by omega
            have hjk : ((xs.length : Int) == (k : Int)) = false := by simp; omega
            have hjk2 : (xs.length : Int) < (k : Int) := by omega
            have SZ : Hid (Sz w X c k w1.heap.size ge ps (.slice ae k ce) xs.length) := h3.sz
            have hae := HGE.out.1 (by omega)
            subst hae
            clear hend h1 h2 h3 hko hgt hj
            go_wp2_with fail
            refine onward_wp ?_
            refine wp_region_held_drew (S := fun w' => Sz w w' c k w1.heap.size ge ps (.slice (some ⟨ge, 0, none⟩) k ce) xs.length) (by kernel_rfl) (SZ.out.below (Below.drew (Below.refl _ X))) (fun hHeld => ?_)
            refine take_run (i := 0) (oi := { dst := some 92, op := Go.Op.load 3 (Go.Operand.tmp 10), type := 3, pos := "law.go:220", after := #[], guard := none }) (v := .int .i64 (xs.length : Nat)) rfl (by kernel_rfl) (by kernel_rfl) (by kernel_rfl) (fun _ _ _ h => h) (by rfl) ?_ hHeld ?_
            · (intro wq hSw; have g1 := hSw.c1; have g3 := hSw.c3; have g4 := hSw.cn; go_simp <;> with_reducible rfl)
            try simp only [Act.put, List.setIfInBounds_toArray, List.set_cons_zero, List.set_cons_succ]
            refine take_run (i := 1) (oi := { dst := some 93, op := Go.Op.load 43 (Go.Operand.tmp 6), type := 43, pos := "law.go:220", after := #[], guard := none }) (v := .slice (some ⟨ge, 0, none⟩) k ce) rfl (by kernel_rfl) (by kernel_rfl) (by kernel_rfl) (fun _ _ _ h => h) (by rfl) ?_ hHeld ?_
            · (intro wq hSw; have g1 := hSw.c1; have g3 := hSw.c3; have g4 := hSw.cn; go_simp <;> with_reducible rfl)
            try simp only [Act.put, List.setIfInBounds_toArray, List.set_cons_zero, List.set_cons_succ]
            refine take_run (i := 2) (oi := { dst := some 94, op := Go.Op.call { callee := Go.Callee.builtin Go.Builtin.len, args := #[Go.Operand.tmp 93], argTypes := #[43] }, type := 3, pos := "law.go:220", after := #[{ on := 1, ground := Go.Ground.data }], guard := none }) (v := .int .i64 (k : Nat)) rfl (by kernel_rfl) (by kernel_rfl) (by kernel_rfl) (fun _ _ _ h => h) (by rfl) ?_ hHeld ?_
            · (intro wq hSw; go_simp <;> with_reducible rfl)
            try simp only [Act.put, List.setIfInBounds_toArray, List.set_cons_zero, List.set_cons_succ]
            refine take_run (i := 3) (oi := { dst := some 95, op := Go.Op.binOp Go.BinOp.eql 3 (Go.Operand.tmp 92) (Go.Operand.tmp 94) 3, type := 4, pos := "law.go:220", after := #[{ on := 0, ground := Go.Ground.data }, { on := 2, ground := Go.Ground.data }], guard := none }) (v := .bool false) rfl (by kernel_rfl) (by kernel_rfl) (by kernel_rfl) (fun _ _ _ h => h) (by rfl) ?_ hHeld ?_
            · (intro wq hSw; go_simp <;> with_reducible rfl)
            try simp only [Act.put, List.setIfInBounds_toArray, List.set_cons_zero, List.set_cons_succ]
            refine take_run (i := 4) (oi := { dst := some 96, op := Go.Op.move (Go.Operand.tmp 95), type := 4, pos := "law.go:220", after := #[{ on := 3, ground := Go.Ground.data }], guard := none }) (v := .bool false) rfl (by kernel_rfl) (by kernel_rfl) (by kernel_rfl) (fun _ _ _ h => h) (by rfl) ?_ hHeld ?_
            · (intro wq hSw; go_simp <;> with_reducible rfl)
            try simp only [Act.put, List.setIfInBounds_toArray, List.set_cons_zero, List.set_cons_succ]
            refine take_run (i := 5) (oi := { dst := some 97, op := Go.Op.load 43 (Go.Operand.tmp 6), type := 43, pos := "law.go:220", after := #[{ on := 4, ground := Go.Ground.guard }], guard := some (4, false) }) (v := .slice (some ⟨ge, 0, none⟩) k ce) rfl (by kernel_rfl) (by kernel_rfl) (by kernel_rfl) (fun _ _ _ h => h) (by rfl) ?_ hHeld ?_
            · (intro wq hSw; have g1 := hSw.c1; have g3 := hSw.c3; have g4 := hSw.cn; go_simp <;> with_reducible rfl)
            try simp only [Act.put, List.setIfInBounds_toArray, List.set_cons_zero, List.set_cons_succ]
            refine take_run (i := 6) (oi := { dst := some 98, op := Go.Op.load 3 (Go.Operand.tmp 10), type := 3, pos := "law.go:220", after := #[{ on := 4, ground := Go.Ground.guard }], guard := some (4, false) }) (v := .int .i64 (xs.length : Nat)) rfl (by kernel_rfl) (by kernel_rfl) (by kernel_rfl) (fun _ _ _ h => h) (by rfl) ?_ hHeld ?_
            · (intro wq hSw; have g1 := hSw.c1; have g3 := hSw.c3; have g4 := hSw.cn; go_simp <;> with_reducible rfl)
            try simp only [Act.put, List.setIfInBounds_toArray, List.set_cons_zero, List.set_cons_succ]
            refine take_run (i := 7) (oi := { dst := some 99, op := Go.Op.indexAddr 43 (Go.Operand.tmp 97) (Go.Operand.tmp 98), type := 0, pos := "law.go:220", after := #[{ on := 5, ground := Go.Ground.data }, { on := 6, ground := Go.Ground.data }, { on := 4, ground := Go.Ground.guard }], guard := some (4, false) }) (v := .pointer (some ⟨ge, xs.length, none⟩)) rfl (by kernel_rfl) (by kernel_rfl) (by kernel_rfl) (fun _ _ _ h => h) (by rfl) ?_ hHeld ?_
            · (intro wq hSw; go_simp <;> with_reducible rfl)
            try simp only [Act.put, List.setIfInBounds_toArray, List.set_cons_zero, List.set_cons_succ]
            refine take_run (i := 8) (oi := { dst := some 100, op := Go.Op.load 3 (Go.Operand.tmp 99), type := 3, pos := "law.go:220", after := #[{ on := 7, ground := Go.Ground.data }, { on := 4, ground := Go.Ground.guard }], guard := some (4, false) }) (v := .int .i64 (offs ps (xs.length + 1) : Nat)) rfl (by kernel_rfl) (by kernel_rfl) (by kernel_rfl) (fun _ _ _ h => h) (by rfl) ?_ hHeld ?_
            · (intro wq hSw; have g5 := hSw.ec xs.length HJK.out; go_simp <;> with_reducible rfl)
            try simp only [Act.put, List.setIfInBounds_toArray, List.set_cons_zero, List.set_cons_succ]
            refine take_run (i := 9) (oi := { dst := some 101, op := Go.Op.load 3 (Go.Operand.tmp 3), type := 3, pos := "law.go:220", after := #[{ on := 4, ground := Go.Ground.guard }], guard := some (4, false) }) (v := .int .i64 (c : Nat)) rfl (by kernel_rfl) (by kernel_rfl) (by kernel_rfl) (fun _ _ _ h => h) (by rfl) ?_ hHeld ?_
            · (intro wq hSw; have g1 := hSw.c1; have g3 := hSw.c3; have g4 := hSw.cn; go_simp <;> with_reducible rfl)
            try simp only [Act.put, List.setIfInBounds_toArray, List.set_cons_zero, List.set_cons_succ]
            refine take_run (i := 10) (oi := { dst := some 102, op := Go.Op.binOp Go.BinOp.gtr 3 (Go.Operand.tmp 100) (Go.Operand.tmp 101) 3, type := 4, pos := "law.go:220", after := #[{ on := 8, ground := Go.Ground.data }, { on := 9, ground := Go.Ground.data }, { on := 4, ground := Go.Ground.guard }], guard := some (4, false) }) (v := .bool true) rfl (by kernel_rfl) (by kernel_rfl) (by kernel_rfl) (fun _ _ _ h => h) (by rfl) ?_ hHeld ?_
            · (intro wq hSw; go_simp <;> with_reducible rfl)
            try simp only [Act.put, List.setIfInBounds_toArray, List.set_cons_zero, List.set_cons_succ]
            refine take_run (i := 11) (oi := { dst := some 103, op := Go.Op.pick (Go.Operand.tmp 96) (Go.Operand.const (Go.Value.bool true)) (Go.Operand.tmp 102), type := 4, pos := "law.go:220", after := #[{ on := 4, ground := Go.Ground.data }, { on := 10, ground := Go.Ground.data }], guard := none }) (v := .bool true) rfl (by kernel_rfl) (by kernel_rfl) (by kernel_rfl) (fun _ _ _ h => h) (by rfl) ?_ hHeld ?_
            · (intro wq hSw; go_simp <;> with_reducible rfl)
            try simp only [Act.put, List.setIfInBounds_toArray, List.set_cons_zero, List.set_cons_succ]
            refine take_run (i := 12) (oi := { dst := some 104, op := Go.Op.move (Go.Operand.tmp 103), type := 4, pos := "law.go:220", after := #[{ on := 11, ground := Go.Ground.data }, { on := 4, ground := Go.Ground.chain }], guard := none }) (v := .bool true) rfl (by kernel_rfl) (by kernel_rfl) (by kernel_rfl) (fun _ _ _ h => h) (by rfl) ?_ hHeld ?_
            · (intro wq hSw; go_simp <;> with_reducible rfl)
            try simp only [Act.put, List.setIfInBounds_toArray, List.set_cons_zero, List.set_cons_succ]
            refine take_call (i := 13) (oi := { dst := some 105, op := Go.Op.call { callee := Go.Callee.value (Go.Operand.func 16), args := #[], argTypes := #[] }, type := 4, pos := "law.go:220", after := #[{ on := 12, ground := Go.Ground.chain }, { on := 12, ground := Go.Ground.guard }], guard := some (12, true) }) rfl (by kernel_rfl) (by rfl) 16 _ (by go_simp <;> with_reducible rfl) ?_
            refine (known_any X.drew TX.out).mono ?_
            rintro e Y ⟨rfl, bY⟩
            have hY := hHeld.below bY
            refine ⟨.bool true, rfl, hY, ?_⟩
            try simp only [Act.put, List.setIfInBounds_toArray, List.set_cons_zero, List.set_cons_succ]
            refine take_run (i := 14) (oi := { dst := some 106, op := Go.Op.pick (Go.Operand.tmp 104) (Go.Operand.tmp 105) (Go.Operand.const (Go.Value.bool false)), type := 4, pos := "law.go:220", after := #[{ on := 12, ground := Go.Ground.data }, { on := 13, ground := Go.Ground.data }], guard := none }) (v := .bool true) rfl (by kernel_rfl) (by kernel_rfl) (by kernel_rfl) (fun _ _ _ h => h) (by rfl) ?_ hY ?_
            · (intro wq hSw; go_simp <;> with_reducible rfl)
            try simp only [Act.put, List.setIfInBounds_toArray, List.set_cons_zero, List.set_cons_succ]
            have st1 := hY.f2
            obtain ⟨b2, st2⟩ := hY.c2
            refine take_store (i := 15) (oi := { dst := none, op := Go.Op.store 4 (Go.Operand.tmp 4) (Go.Operand.tmp 106), type := 0, pos := "law.go:220", after := #[{ on := 14, ground := Go.Ground.data }, { on := 13, ground := Go.Ground.chain }, { on := 0, ground := Go.Ground.phase }, { on := 1, ground := Go.Ground.phase }, { on := 2, ground := Go.Ground.phase }, { on := 3, ground := Go.Ground.phase }, { on := 4, ground := Go.Ground.phase }, { on := 5, ground := Go.Ground.phase }, { on := 6, ground := Go.Ground.phase }, { on := 7, ground := Go.Ground.phase }, { on := 8, ground := Go.Ground.phase }, { on := 9, ground := Go.Ground.phase }, { on := 10, ground := Go.Ground.phase }, { on := 11, ground := Go.Ground.phase }, { on := 12, ground := Go.Ground.phase }, { on := 13, ground := Go.Ground.phase }, { on := 14, ground := Go.Ground.phase }], guard := none }) (w' := Y.setCell ⟨w.heap.size + 2, 0, none⟩ (.bool true)) rfl (by kernel_rfl) (by rfl) (by go_simp <;> with_reducible rfl) (hY.store (fun b => by simp) true) ?_
            refine wpAnyH_done (by kernel_rfl) ?_ _
            show onward _ .normal _ _
            unfold onward
            have ZZ : Hid (Below w.heap.size w (Y.setCell ⟨w.heap.size + 2, 0, none⟩ (.bool true))) := (hY.store (fun b => by simp) true).bel
            have R2 : Hid ((Y.setCell ⟨w.heap.size + 2, 0, none⟩ (.bool true)).cell? ⟨w.heap.size + 2, 0, none⟩ = some (.bool true)) := World.cell?_setCell_same' _ _ _ (by rw [st2]; rfl)
            have KD : Hid ((Y.setCell ⟨w.heap.size + 2, 0, none⟩ (.bool true)).heap[D]? = some (.deferred (some []))) := by
              show (Y.setCell ⟨w.heap.size + 2, 0, none⟩ (.bool true)).heap[D]? = _
              rw [Below.heap_setCell _ _ _ D (fun e => by have e' : D = w.heap.size + 2 := (by simpa using e); have := HD.out; omega), bY.block D (Array.getElem?_eq_some_iff.1 hK).1]
              exact hK
            clear hY st1 st2 bY hHeld
            go_wp2
            refine ⟨by simp, .inl ⟨_, _, rfl, run_takeDeferred KD.out, ?_⟩⟩
            refine ⟨.bool true, results_bool rfl _ _ (w.heap.size + 2) true rfl ?_, rfl, ?_⟩
            · exact cell_kept R2.out (grownBy_putObj' _ D (.deferred none)) (fun r e => by cases e; exact ⟨_, KD.out, rfl⟩)
            · exact ZZ.out.grown (grownBy_putObj' _ D (.deferred none)) ZZ.out.size (fun k e => by cases e; have := HD.out; omega)
end Go.Proofs.YtmdjgellmkjghaaDoor
