/- What Unmsg does: the walk. -/
import Derived.Test.YtpnnbkhlbohfbaaDoorK4
namespace Go.Proofs.YtpnnbkhlbohfbaaDoor
open Go.RowKit Cod
set_option linter.unusedVariables false

theorem Below.row {B g : Nat} {a w : World} {cs : Array Value} (h : Below B a w) (hg : B ≤ g) : Below B a (w.setRow g cs) :=
  ⟨h.os, h.tape, h.output, by simpa using h.size, fun k hk => by rw [setRow_other _ _ _ _ (by omega)]; exact h.block k hk⟩
theorem results_msg {P : Program} {fn : Func} {p u : Tmp} {ty : TypeId} (h : fn.results = #[.cell p ty, .tmp u]) (tmps : Array Value) (w : World) (g : Nat) (t : TypeId) (cs : Array Value) (fr : Nat × Nat) (d : TypeDesc)
    (hp : tmps.getD p undef = .pointer (some ⟨g, 0, none⟩)) (hg : w.heap[g]? = some (.cells cs t fr))
    (hu : P.underlying ty = some d) (hd : (match d with | .struct _ | .array _ _ => true | _ => false) = true) (hi : (P.info? ty).map (·.size) = some cs.size) :
    (results fn tmps).run P w = .ok (.tuple #[.agg cs, tmps.getD u undef]) w := by
  rw [results_cell_tmp h, hp]
  simp [asAddr, run_loadVar_row w g t ty cs fr d hg hu hd hi]
theorem owns_below {w w' : World} {base n size : Nat} {e : TypeId} {v : Value} {xs : List Value} (h : w.ownsRow base e size v n xs) (hb : Below w.heap.size w w') : w'.ownsRow base e size v n xs := by
  refine ⟨h.1, h.2.imp id ?_⟩
  rintro ⟨g, cap, cur, e1, e2, e3, e4⟩
  exact ⟨g, cap, cur, e1, e2, by rw [hb.block g (Array.getElem?_eq_some_iff.1 e3).1]; exact e3, e4⟩
theorem cells_ents (h : HeadD) (a b c : Value) : (h.cells a b).setIfInBounds 9 c = h.cells c b := rfl
theorem cells_data (h : HeadD) (a b c : Value) : (h.cells a b).setIfInBounds 10 c = h.cells a c := rfl
theorem rEnts_next (l : List (BitVec 8)) (p y k : Nat) : (rEnts l p y (k + 1)).1 = (rEnts l p y k).1 ++ [(zag (rEn1 l (rEnts l p y k).2.1 (rEnts l p y k).2.2).1, (rEn2 l (rEnts l p y k).2.1 (rEnts l p y k).2.2).1)] := rfl
set_option maxRecDepth 100000 in
set_option maxHeartbeats 3200000 in
theorem unmsg_any (a : Option Addr) (len cap : Nat) (l : List (BitVec 8)) (w : World) (hS : Seen w a len l) (hn : a = none → cap = 0) (hc : len ≤ cap) (hm : len ≤ 140737488355328) :
    Calls Tryd.prog 7 #[.slice a len cap] w fun e w' => UnTold w w' l e ∧ Below w.heap.size w w' := by
  obtain rfl : len = l.length := hS.1
  have hz : Hid ((w.alloc (.cells zeroM 29)).heap[w.heap.size]? = some (.cells zeroM 29 (0, 0))) := heap_alloc_new w _
  by_cases g1 : (1048576 : Int) < (l.length : Int)
  · have HU : Hid (1048576 < l.length) := by show _ < _; omega
    have BZ : Hid (Below w.heap.size w ((w.alloc (.cells zeroM 29)).setRow w.heap.size zeroM)) := Below.row ((Below.refl _ w).alloc (Nat.le_refl _) _) (Nat.le_refl _)
    have hy : Hid (((w.alloc (.cells zeroM 29)).setRow w.heap.size zeroM).heap[w.heap.size]? = some (.cells zeroM 29 (0, 0))) := setRow_heap _ _ _ _ _ _ hz.out
    clear hS hn hm hc
    go_enter Tryd.func7, Tryd.ntmps7
    go_wp2_with (first
      | (refine wpList_store_row rfl 29 (.tmp 2) (.tmp 10) rfl w.heap.size zeroM rfl rfl 29 _ hz.out (by kernel_rfl) rfl (by simp [zeroM, Value.oneCell']) ?_))
    exact bodyPost_ret (results_msg rfl _ _ w.heap.size 29 _ _ _ rfl hy.out Tryd.underlying29 rfl (by kernel_rfl)) rfl ⟨.inl ⟨HU.out, rfl⟩, BZ.out⟩
  generalize hw2 : (w.alloc (.cells zeroM 29)).alloc (.cells #[.slice a l.length cap, .int .i64 0, .int .i64 0] 51) = w2
  have r2 : Hid (Rdr w2 (w.heap.size + 1) l 0 0) := by
    have h := rdr_new (w.alloc (.cells zeroM 29)) a cap l (hS.below ((Below.refl _ w).alloc (Nat.le_refl _) _)) hn hc hm
    rw [hw2] at h
    have e : (w.alloc (.cells zeroM 29)).heap.size = w.heap.size + 1 := by simp
    rw [e] at h
    exact h
  have z2 : Hid (w2.heap[w.heap.size]? = some (.cells zeroM 29 (0, 0))) := by
    show _ = _
    rw [← hw2, Below.heap_alloc _ _ _ (by simp)]
    exact hz.out
  have b2 : Hid (Below w.heap.size w w2) := by rw [← hw2]; exact ((Below.refl _ w).alloc (Nat.le_refl _) _).alloc (by simp) _
  have s2 : w2.heap.size = w.heap.size + 2 := by rw [← hw2]; simp
  have HW : Hid _ := hw2
  obtain ⟨R, hR⟩ : ∃ R, w.heap.size + 1 = R := ⟨_, rfl⟩
  rw [hR] at r2
  have HL : Hid (l.length ≤ 1048576) := by show _ ≤ _; omega
  clear hS hn hc hm hz hw2
  have C1 : Hid (Calls Tryd.prog 20 #[.pointer (some ⟨R, 0, none⟩)] w2 fun e w' => e = .returned (.agg ((rHdV l 0 0).cells (.slice none 0 0) (.slice none 0 0))) ∧ Rdr w' R l (rHd9 l 0 0).2.1 (rHd9 l 0 0).2.2 ∧ w2.grownBy w' (some R)) := getHead_any R l 0 0 w2 r2.out
  have C2 : Hid (∀ w', Rdr w' R l (rHd9 l 0 0).2.1 (rHd9 l 0 0).2.2 → Calls Tryd.prog 21 #[.pointer (some ⟨R, 0, none⟩), .int .i64 4096] w' fun e w'' => e = .returned (.int .i64 (unN l).1) ∧ Rdr w'' R l (unN l).2.1 (unN l).2.2 ∧ w'.grownBy w'' (some R)) := fun w' h => by rw [unN]; exact rCount_any R l 4096 (by omega) _ _ w' h
  have C4 : Hid (∀ w', Rdr w' R l (unE l).2.1 (unE l).2.2 → Calls Tryd.prog 23 #[.pointer (some ⟨R, 0, none⟩)] w' fun e w'' => ∃ v, e = .returned v ∧ w''.ownsRow w'.heap.size 5 1 v (unD l).1.length (cellsOf (unD l).1) ∧ (unD l).1.length ≤ 65536 ∧ Rdr w'' R l (unD l).2.1 (unD l).2.2 ∧ w'.grownBy w'' (some R)) := fun w' h => by rw [unD]; exact rBytes_any R l _ _ w' h
  have C5 : Hid (∀ w', Rdr w' R l (unD l).2.1 (unD l).2.2 → Calls Tryd.prog 24 #[.pointer (some ⟨R, 0, none⟩)] w' fun e w'' => e = .returned (.int .i64 (unEnd l)) ∧ ∃ n, w'' = w'.drewN n) := fun w' h => by rw [unEnd]; exact rEnd_any R l _ _ w' h
  have hn4 : (unN l).1 ≤ 4096 := by rw [unN]; exact rC_most l 4096 _ _ (by omega)
  have HE : Hid (unE l = rEnts l (unN l).2.1 (unN l).2.2 (unN l).1) := by show _ = _; rw [unE]
  have HU : Hid (∀ e w', UnTold w w' l e = UnTold w w' l e) := fun _ _ => rfl
  generalize hhd : rHdV l 0 0 = hd at *
  generalize (rHd9 l 0 0).2.1 = p9 at *
  generalize (rHd9 l 0 0).2.2 = y9 at *
  generalize hnn : (unN l).1 = n at *
  generalize (unN l).2.1 = pN at *
  generalize (unN l).2.2 = yN at *
  have C1' : Hid (Calls Tryd.prog 20 #[.pointer (some ⟨R, 0, none⟩)] w2 fun e w' => e = .returned (.agg #[.int .i64 hd.kind, .int .i64 hd.group, .int .i64 hd.src, .int .i64 hd.dst, .int .i64 hd.term, .int .i64 hd.index, .int .i64 hd.logTerm, .int .i64 hd.commit, .bool hd.ok, .slice none 0 0, .slice none 0 0]) ∧ Rdr w' R l p9 y9 ∧ w2.grownBy w' (some R)) := C1.out
  go_enter Tryd.func7, Tryd.ntmps7
  go_wp2_with fail
  have HW' := HW.out
  unfold zeroM at HW'
  rw [HW']
  clear HW' HW
  refine C1'.out.mono ?_
  rintro e w3 ⟨rfl, r3, g3⟩
  have hM3 : w2.heap.size ≤ w3.heap.size := g3.size
  obtain ⟨M, hM⟩ : ∃ M, w3.heap.size = M := ⟨_, rfl⟩
  have f4 : Hid (UnF w (w3.alloc (.cells #[.int .i64 hd.kind, .int .i64 hd.group, .int .i64 hd.src, .int .i64 hd.dst, .int .i64 hd.term, .int .i64 hd.index, .int .i64 hd.logTerm, .int .i64 hd.commit, .bool hd.ok, .slice none 0 0, .slice none 0 0] 29)) R M l p9 y9 (hd.cells (.slice none 0 0) (.slice none 0 0))) := by
    have b3 : Below w.heap.size w w3 := below_grown b2.out g3 b2.out.size (by omega)
    have bA : Below M w3 (w3.alloc (.cells #[.int .i64 hd.kind, .int .i64 hd.group, .int .i64 hd.src, .int .i64 hd.dst, .int .i64 hd.term, .int .i64 hd.index, .int .i64 hd.logTerm, .int .i64 hd.commit, .bool hd.ok, .slice none 0 0, .slice none 0 0] 29)) := (Below.refl _ w3).alloc (by omega) _
    refine ⟨r3.since (fun k hk => bA.block k (by have := r3.lt; omega)), ?_, by rw [← hM]; exact heap_alloc_new w3 _, b3.trans (bA.mono (by omega)), by omega, by have := r3.lt; omega⟩
    rw [bA.block _ (by omega), g3.block _ (by omega) (fun e => by have := Option.some.inj e; omega)]
    exact z2.out
  clear r3 g3 C1 C1' z2 b2
  go_wp2_with fail
  refine (C2.out _ f4.out.rdr).mono ?_
  rintro e w5 ⟨rfl, r5, g5⟩
  have f5 : Hid (UnF w w5 R M l pN yN (hd.cells (.slice none 0 0) (.slice none 0 0))) := f4.out.call r5 g5
  clear r5 g5 C2 f4 hM hM3 r2 s2
  have hlR := f5.out.lR
  have hlM := f5.out.lM
  go_wp2
  go_loopw [18] (fun i wr => ∃ (k : Nat) (va : Option Addr) (vn vc : Nat) (es : List EntV), k ≤ n ∧ i = .int .i64 k ∧ UnF w wr R M l (rEnts l pN yN k).2.1 (rEnts l pN yN k).2.2 (hd.cells (.slice va vn vc) (.slice none 0 0)) ∧ es.length = k ∧ es.map Prod.fst = (rEnts l pN yN k).1 ∧ wr.ownsRow (M + 1) 55 2 (.slice va vn vc) k (entCells es) ∧ ∀ e ∈ es, EOwn wr (M + 1) e)
    (fun i _ => n - (intOf i).toNat)
  case atStart => exact ⟨0, none, 0, 0, [], Nat.zero_le _, rfl, f5.out, rfl, rfl, World.ownsRow_nil _ _ _ _, fun e he => by cases he⟩
  case round =>
    obtain ⟨k, va, vn, vc, es, hk, rfl, hf, hel, hem, hown, heo⟩ := hrel
    have HF : Hid (UnF w wr R M l (rEnts l pN yN k).2.1 (rEnts l pN yN k).2.2 (hd.cells (.slice va vn vc) (.slice none 0 0))) := hf
    have HO : Hid (wr.ownsRow (M + 1) 55 2 (.slice va vn vc) k (entCells es)) := hown
    have HEO : Hid (∀ e ∈ es, EOwn wr (M + 1) e) := heo
    have HEM : Hid (es.map Prod.fst = (rEnts l pN yN k).1) := hem
    have HEL : Hid (es.length = k) := hel
    clear hf hown heo hem hel f5
    by_cases hkn : k < n
    · have HG : Hid (∀ w', Rdr w' R l (rEnts l pN yN k).2.1 (rEnts l pN yN k).2.2 → Calls Tryd.prog 22 #[.pointer (some ⟨R, 0, none⟩)] w' fun e w'' => ∃ a c, e = .returned (.agg #[.int .i64 (zag (rEn1 l (rEnts l pN yN k).2.1 (rEnts l pN yN k).2.2).1), .slice a (rEn2 l (rEnts l pN yN k).2.1 (rEnts l pN yN k).2.2).1.length c]) ∧ w''.ownsRow (w'.heap.size + 2) 5 1 (.slice a (rEn2 l (rEnts l pN yN k).2.1 (rEnts l pN yN k).2.2).1.length c) (rEn2 l (rEnts l pN yN k).2.1 (rEnts l pN yN k).2.2).1.length (cellsOf (rEn2 l (rEnts l pN yN k).2.1 (rEnts l pN yN k).2.2).1) ∧ (rEn2 l (rEnts l pN yN k).2.1 (rEnts l pN yN k).2.2).1.length ≤ 65536 ∧ Rdr w'' R l (rEnts l pN yN (k + 1)).2.1 (rEnts l pN yN (k + 1)).2.2 ∧ w'.grownBy w'' (some R)) := fun w' h => getEntry_any R l _ _ w' h
      have HS : Hid ((rEnts l pN yN (k + 1)).1 = (rEnts l pN yN k).1 ++ [(zag (rEn1 l (rEnts l pN yN k).2.1 (rEnts l pN yN k).2.2).1, (rEn2 l (rEnts l pN yN k).2.1 (rEnts l pN yN k).2.2).1)]) := rEnts_next l pN yN k
      generalize zag (rEn1 l (rEnts l pN yN k).2.1 (rEnts l pN yN k).2.2).1 = rt at *
      generalize (rEn2 l (rEnts l pN yN k).2.1 (rEnts l pN yN k).2.2).1 = rp at *
      obtain ⟨rl, hrl⟩ : ∃ rl, rp.length = rl := ⟨_, rfl⟩
      rw [hrl] at HG
      obtain ⟨i0, hi, hz0, hz1, hz2⟩ := info_parts info_entry
      have kc : wr.cell? ⟨M, 9, none⟩ = some (.slice va vn vc) := (HF.out.cell 9).1
      have kf := (HF.out.cell 9).2
      have ks : M < wr.heap.size := (Array.getElem?_eq_some_iff.1 HF.out.box).1
      have kR : (some M : Option Nat) ≠ some R := fun e => by have := Option.some.inj e; omega
      have kO : (some M : Option Nat) ≠ (Value.slice va vn vc).ownBlock := fun e => by have := (HO.out.lt _ e.symm).1; omega
      go_wp2_with fail
      go_region_law
        (first
          | (go_simp; go_at_call 22; refine (HG.out _ ?_).mono ?_; exact HF.out.rdr; rintro e w2 ⟨ba, bc, rfl, ob, bl, r2, gg2⟩; have g2 : wr.grownBy w2 (some R) := ⟨gg2.os, gg2.tape, gg2.output, gg2.size, gg2.block⟩; clear gg2; obtain ⟨mc, mf⟩ := st_grown g2 kR ⟨kc, kf⟩; obtain ⟨nc, nf⟩ := st_alloc (.cells #[.int .i64 rt, .slice ba rl bc] 55) ⟨mc, mf⟩; have hz2' := g2.size)
          | (refine step_append_lies _ (by rfl) _ _ _ (by rfl) (M + 1) 55 i0 _ 2 32 Tryd.underlying27 hi hz0 hz1 hz2 rfl (by omega) (.slice va vn vc) k (entCells es) (by rfl) (((owns_far HO.out g2 (by omega)).alloc _).drew)
              ⟨w2.heap.size, 0, none⟩ 1 1 [.int .i64 rt, .slice ba rl bc] (by rfl) (by rfl) (World.news_of_block (cs := #[.int .i64 rt, .slice ba rl bc]) (t := 55) (fr := (0, 0)) (heap_alloc_new w2 _)) (by simp [Value.oneCell'])
              (by omega) (by unfold maxLen; omega) (by omega) (by simp; omega) (w2.heap.size + 1) (by simp) ?_; intro gg cap w3 hown3 hgrow hat hlt3; obtain ⟨qc, qf⟩ := st_grown hgrow kO (st_alloc _ ⟨mc, mf⟩)))
      all_goals
        (have fB : Hid (UnF w (w3.setCell ⟨M, 9, none⟩ (.slice (some ⟨gg, 0, none⟩) (k + 1) cap)) R M l (rEnts l pN yN (k + 1)).2.1 (rEnts l pN yN (k + 1)).2.2 (hd.cells (.slice (some ⟨gg, 0, none⟩) (k + 1) cap) (.slice none 0 0))) := by
           have h := (((HF.out.call r2 g2).alloc _).grow hgrow (fun g e => (HO.out.lt _ e).1)).store 9 (.slice (some ⟨gg, 0, none⟩) (k + 1) cap)
           rw [cells_ents] at h
           exact h
         have oB : Hid ((w3.setCell ⟨M, 9, none⟩ (.slice (some ⟨gg, 0, none⟩) (k + 1) cap)).ownsRow (M + 1) 55 2 (.slice (some ⟨gg, 0, none⟩) (k + 1) cap) (k + 1) (entCells (es ++ [((rt, rp), .slice ba rl bc)]))) := by
           show World.ownsRow _ _ _ _ _ _ _
           rw [entCells_snoc]
           exact owns_set hown3 _ _ (by show M < M + 1; omega)
         have eB : Hid (∀ e ∈ es ++ [((rt, rp), Value.slice ba rl bc)], EOwn (w3.setCell ⟨M, 9, none⟩ (.slice (some ⟨gg, 0, none⟩) (k + 1) cap)) (M + 1) e) := fun e he => by
           have ho := (owns_far HO.out g2 (by omega)).alloc (.cells #[.int .i64 rt, .slice ba rl bc] 55)
           rcases List.mem_append.1 he with he | he
           · exact ((((HEO.out e he).far g2 (by omega)).alloc _).other ho (by decide) hgrow).set _ _ (by show M < M + 1; omega)
           · have he' : e = ((rt, rp), Value.slice ba rl bc) := by simpa using he
             subst he'
             have en : EOwn w2 (M + 1) ((rt, rp), Value.slice ba rl bc) := ⟨by show rp.length ≤ 65536; omega, by show World.ownsRow _ _ _ _ _ rp.length _; rw [hrl]; exact owns_mono' ob (by show M + 1 ≤ wr.heap.size + 2; omega)⟩
             exact ((en.alloc _).other ho (by decide) hgrow).set _ _ (by show M < M + 1; omega)
         have mB : Hid ((es ++ [((rt, rp), Value.slice ba rl bc)]).map Prod.fst = (rEnts l pN yN (k + 1)).1) := by
           show _ = _
           rw [HS.out, List.map_append, HEM.out]
           rfl
         have lB : Hid ((es ++ [((rt, rp), Value.slice ba rl bc)]).length = k + 1) := by show _ = _; rw [List.length_append, HEL.out]; rfl
         clear r2 g2 hown3 hgrow hat ob bl
         go_wp2
         go_roundw
         case rel => exact ⟨k + 1, some ⟨gg, 0, none⟩, k + 1, cap, _, by omega, by go_num, fB.out, lB.out, mB.out, oB.out, eB.out⟩
         case measure => simp only [intOf]; omega)
    · obtain rfl : k = n := by omega
      have hq := HE.out
      rw [← hq] at HF HEM
      clear hq HE
      go_wp2_with fail
      refine (C4.out wr HF.out.rdr).mono ?_
      rintro e w6 ⟨v6, rfl, o6, l6, r6, g6⟩
      obtain ⟨xa, xc, rfl, _⟩ := owned_form o6
      have hsz6 : M < wr.heap.size := (Array.getElem?_eq_some_iff.1 HF.out.box).1
      have f6 := HF.out.call r6 g6
      have k10 : w6.cell? ⟨M, 10, none⟩ = some (.slice none 0 0) := (f6.cell 10).1
      have kf10 := (f6.cell 10).2
      obtain ⟨xn, hxn⟩ : ∃ xn, (unD l).1.length = xn := ⟨_, rfl⟩
      rw [hxn] at o6 l6 ⊢
      have F7 : Hid (UnF w (w6.setCell ⟨M, 10, none⟩ (.slice xa xn xc)) R M l (unD l).2.1 (unD l).2.2 (hd.cells (.slice va vn vc) (.slice xa xn xc))) := by
        have h := f6.store 10 (.slice xa xn xc)
        rw [cells_data] at h
        exact h
      have O7 : Hid ((w6.setCell ⟨M, 10, none⟩ (.slice xa xn xc)).ownsRow (M + 1) 55 2 (.slice va vn vc) k (entCells es)) := owns_set (owns_far HO.out g6 (by omega)) _ _ (by show M < M + 1; omega)
      have E7 : Hid (∀ e ∈ es, EOwn (w6.setCell ⟨M, 10, none⟩ (.slice xa xn xc)) (M + 1) e) := fun e he => ((HEO.out e he).far g6 (by omega)).set _ _ (by show M < M + 1; omega)
      have D7 : Hid ((w6.setCell ⟨M, 10, none⟩ (.slice xa xn xc)).ownsRow (M + 1) 5 1 (.slice xa xn xc) xn (cellsOf (unD l).1)) := owns_set (owns_mono' o6 (by omega)) _ _ (by show M < M + 1; omega)
      have L6 : Hid _ := l6
      clear o6 l6 r6 g6 f6 HF HO HEO C4
      go_wp2_with fail
      obtain ⟨w7, hw7⟩ : ∃ w7, w6.setCell ⟨M, 10, none⟩ (.slice xa xn xc) = w7 := ⟨_, rfl⟩
      rw [hw7] at F7 O7 E7 D7 ⊢
      clear hw7 k10 kf10
      refine (C5.out w7 F7.out.rdr).mono ?_
      rintro e w8 ⟨rfl, nd, rfl⟩
      have F8 : Hid (UnF w (w7.drewN nd) R M l (unD l).2.1 (unD l).2.2 (hd.cells (.slice va vn vc) (.slice xa xn xc))) := F7.out.drewN nd
      have O8 : Hid ((w7.drewN nd).ownsRow (M + 1) 55 2 (.slice va vn vc) k (entCells es)) := O7.out
      have E8 : Hid (∀ e ∈ es, EOwn (w7.drewN nd) (M + 1) e) := fun e he => E7.out e he
      have D8 : Hid ((w7.drewN nd).ownsRow (M + 1) 5 1 (.slice xa xn xc) xn (cellsOf (unD l).1)) := D7.out
      obtain ⟨w8, hw8⟩ : ∃ w8, w7.drewN nd = w8 := ⟨_, rfl⟩
      rw [hw8] at F8 O8 E8 D8 ⊢
      clear hw8 F7 O7 E7 D7 C5
      have hres : Hid (w8.heap[w.heap.size]? = some (.cells #[.int .i64 0, .int .i64 0, .int .i64 0, .int .i64 0, .int .i64 0, .int .i64 0, .int .i64 0, .int .i64 0, .bool false, .slice none 0 0, .slice none 0 0] 29 (0, 0))) := F8.out.res
      have hres2 : Hid ((w8.setRow w.heap.size #[.int .i64 0, .int .i64 0, .int .i64 0, .int .i64 0, .int .i64 0, .int .i64 0, .int .i64 0, .int .i64 0, .bool false, .slice none 0 0, .slice none 0 0]).heap[w.heap.size]? = some (.cells #[.int .i64 0, .int .i64 0, .int .i64 0, .int .i64 0, .int .i64 0, .int .i64 0, .int .i64 0, .int .i64 0, .bool false, .slice none 0 0, .slice none 0 0] 29 (0, 0))) := setRow_heap _ _ _ _ _ _ hres.out
      have bres2 : Hid (Below w.heap.size w (w8.setRow w.heap.size #[.int .i64 0, .int .i64 0, .int .i64 0, .int .i64 0, .int .i64 0, .int .i64 0, .int .i64 0, .int .i64 0, .bool false, .slice none 0 0, .slice none 0 0])) := Below.row F8.out.below (Nat.le_refl _)
      by_cases hu : unEnd l = 0
      · have hu' : ((unEnd l : Int) != 0) = false := by simp [hu]
        have hu2 : ((unEnd l : Int)) = 0 := by omega
        have HUU : Hid (unEnd l = 0) := hu
        have hbox : Hid (w8.heap[M]? = some (.cells #[.int .i64 hd.kind, .int .i64 hd.group, .int .i64 hd.src, .int .i64 hd.dst, .int .i64 hd.term, .int .i64 hd.index, .int .i64 hd.logTerm, .int .i64 hd.commit, .bool hd.ok, .slice va vn vc, .slice xa xn xc] 29 (0, 0))) := F8.out.box
        have CA : Hid (Calls Tryd.prog 25 #[.agg #[.int .i64 hd.kind, .int .i64 hd.group, .int .i64 hd.src, .int .i64 hd.dst, .int .i64 hd.term, .int .i64 hd.index, .int .i64 hd.logTerm, .int .i64 hd.commit, .bool hd.ok, .slice va vn vc, .slice xa xn xc]] w8 fun e w' => AddrTold w8 w' hd e) := addressed_any hd (.slice va vn vc) (.slice xa xn xc) w8
        clear hu hu' hres2 bres2
        rw [hu2]
        go_wp2_with (first
          | (refine wpList_load_row rfl 29 (.tmp 5) rfl M rfl 29 _ (0, 0) _ hbox.out Tryd.underlying29 rfl (by kernel_rfl) ?_))
        refine CA.out.mono ?_
        rintro e w9 ⟨q, rfl, hq, b9⟩
        have B9 : Hid (Below w.heap.size w w9) := F8.out.below.trans (b9.mono F8.out.below.size)
        have hres9 : Hid (w9.heap[w.heap.size]? = some (.cells #[.int .i64 0, .int .i64 0, .int .i64 0, .int .i64 0, .int .i64 0, .int .i64 0, .int .i64 0, .int .i64 0, .bool false, .slice none 0 0, .slice none 0 0] 29 (0, 0))) := (b9.block _ (Array.getElem?_eq_some_iff.1 hres.out).1).trans hres.out
        have hbox9 : Hid (w9.heap[M]? = some (.cells #[.int .i64 hd.kind, .int .i64 hd.group, .int .i64 hd.src, .int .i64 hd.dst, .int .i64 hd.term, .int .i64 hd.index, .int .i64 hd.logTerm, .int .i64 hd.commit, .bool hd.ok, .slice va vn vc, .slice xa xn xc] 29 (0, 0))) := (b9.block _ (Array.getElem?_eq_some_iff.1 hbox.out).1).trans hbox.out
        have O9 : Hid (w9.ownsRow (M + 1) 55 2 (.slice va vn vc) k (entCells es)) := owns_below O8.out b9
        have E9 : Hid (∀ e ∈ es, EOwn w9 (M + 1) e) := fun e he => ⟨(E8.out e he).1, owns_below (E8.out e he).2 b9⟩
        have D9 : Hid (w9.ownsRow (M + 1) 5 1 (.slice xa xn xc) xn (cellsOf (unD l).1)) := owns_below D8.out b9
        have HQ : Hid _ := hq
        clear hq b9 hres hbox CA F8 O8 E8 D8
        cases q
        · have bz : Hid (Below w.heap.size w (w9.setRow w.heap.size #[.int .i64 0, .int .i64 0, .int .i64 0, .int .i64 0, .int .i64 0, .int .i64 0, .int .i64 0, .int .i64 0, .bool false, .slice none 0 0, .slice none 0 0])) := Below.row B9.out (Nat.le_refl _)
          have hz9 : Hid ((w9.setRow w.heap.size #[.int .i64 0, .int .i64 0, .int .i64 0, .int .i64 0, .int .i64 0, .int .i64 0, .int .i64 0, .int .i64 0, .bool false, .slice none 0 0, .slice none 0 0]).heap[w.heap.size]? = some (.cells #[.int .i64 0, .int .i64 0, .int .i64 0, .int .i64 0, .int .i64 0, .int .i64 0, .int .i64 0, .int .i64 0, .bool false, .slice none 0 0, .slice none 0 0] 29 (0, 0))) := setRow_heap _ _ _ _ _ _ hres9.out
          have HNA : Hid (¬ hd.addr) := fun h => by cases HQ.out.2 h
          go_wp2_with (first
            | (refine wpList_store_row rfl 29 (.tmp 2) (.tmp 40) rfl w.heap.size #[.int .i64 0, .int .i64 0, .int .i64 0, .int .i64 0, .int .i64 0, .int .i64 0, .int .i64 0, .int .i64 0, .bool false, .slice none 0 0, .slice none 0 0] rfl rfl 29 _ hres9.out (by kernel_rfl) rfl (by simp [Value.oneCell']) ?_))
          exact bodyPost_ret (results_msg rfl _ _ w.heap.size 29 _ _ _ rfl hz9.out Tryd.underlying29 rfl (by kernel_rfl)) rfl ⟨.inr (.inr (.inl ⟨HL.out, HUU.out, by rw [hhd]; exact HNA.out, rfl⟩)), bz.out⟩
        · have bz : Hid (Below w.heap.size w (w9.setRow w.heap.size #[.int .i64 hd.kind, .int .i64 hd.group, .int .i64 hd.src, .int .i64 hd.dst, .int .i64 hd.term, .int .i64 hd.index, .int .i64 hd.logTerm, .int .i64 hd.commit, .bool hd.ok, .slice va vn vc, .slice xa xn xc])) := Below.row B9.out (Nat.le_refl _)
          have hz9 : Hid ((w9.setRow w.heap.size #[.int .i64 hd.kind, .int .i64 hd.group, .int .i64 hd.src, .int .i64 hd.dst, .int .i64 hd.term, .int .i64 hd.index, .int .i64 hd.logTerm, .int .i64 hd.commit, .bool hd.ok, .slice va vn vc, .slice xa xn xc]).heap[w.heap.size]? = some (.cells #[.int .i64 hd.kind, .int .i64 hd.group, .int .i64 hd.src, .int .i64 hd.dst, .int .i64 hd.term, .int .i64 hd.index, .int .i64 hd.logTerm, .int .i64 hd.commit, .bool hd.ok, .slice va vn vc, .slice xa xn xc] 29 (0, 0))) := setRow_heap _ _ _ _ _ _ hres9.out
          have HA : Hid hd.addr := HQ.out.1 rfl
          have OZ : Hid ((w9.setRow w.heap.size #[.int .i64 hd.kind, .int .i64 hd.group, .int .i64 hd.src, .int .i64 hd.dst, .int .i64 hd.term, .int .i64 hd.index, .int .i64 hd.logTerm, .int .i64 hd.commit, .bool hd.ok, .slice va vn vc, .slice xa xn xc]).ownsRow w.heap.size 55 2 (.slice va vn vc) es.length (entCells es)) := by
            rw [HEL.out]; exact owns_mono' (owns_setRow O9.out _ _ (by omega)) (by omega)
          have EZ : Hid (∀ e ∈ es, EOwn (w9.setRow w.heap.size #[.int .i64 hd.kind, .int .i64 hd.group, .int .i64 hd.src, .int .i64 hd.dst, .int .i64 hd.term, .int .i64 hd.index, .int .i64 hd.logTerm, .int .i64 hd.commit, .bool hd.ok, .slice va vn vc, .slice xa xn xc]) w.heap.size e) := fun e he => ⟨(E9.out e he).1, owns_mono' (owns_setRow (E9.out e he).2 _ _ (by omega)) (by omega)⟩
          have DZ : Hid ((w9.setRow w.heap.size #[.int .i64 hd.kind, .int .i64 hd.group, .int .i64 hd.src, .int .i64 hd.dst, .int .i64 hd.term, .int .i64 hd.index, .int .i64 hd.logTerm, .int .i64 hd.commit, .bool hd.ok, .slice va vn vc, .slice xa xn xc]).ownsRow w.heap.size 5 1 (.slice xa xn xc) (unD l).1.length (cellsOf (unD l).1)) := by
            rw [hxn]; exact owns_mono' (owns_setRow D9.out _ _ (by omega)) (by omega)
          go_wp2_with (first
            | (refine wpList_load_row rfl 29 (.tmp 5) rfl M rfl 29 _ (0, 0) _ hbox9.out Tryd.underlying29 rfl (by kernel_rfl) ?_)
            | (refine wpList_store_row rfl 29 (.tmp 2) (.tmp 41) rfl w.heap.size #[.int .i64 hd.kind, .int .i64 hd.group, .int .i64 hd.src, .int .i64 hd.dst, .int .i64 hd.term, .int .i64 hd.index, .int .i64 hd.logTerm, .int .i64 hd.commit, .bool hd.ok, .slice va vn vc, .slice xa xn xc] rfl rfl 29 _ hres9.out (by kernel_rfl) rfl (by simp [Value.oneCell']) ?_))
          exact bodyPost_ret (results_msg rfl _ _ w.heap.size 29 _ _ _ rfl hz9.out Tryd.underlying29 rfl (by kernel_rfl)) rfl ⟨.inr (.inr (.inr ⟨HL.out, HUU.out, by rw [hhd]; exact HA.out, es, va, vn, vc, _, HEM.out, by rw [hhd]; rfl, OZ.out, EZ.out, by rw [hxn]; exact L6.out, DZ.out⟩)), bz.out⟩
      · have hu' : ((unEnd l : Int) != 0) = true := by simp; omega
        have HUU : Hid (unEnd l ≠ 0) := hu
        clear hu
        go_wp2_with (first
          | (refine wpList_store_row rfl 29 (.tmp 2) (.tmp 35) rfl w.heap.size #[.int .i64 0, .int .i64 0, .int .i64 0, .int .i64 0, .int .i64 0, .int .i64 0, .int .i64 0, .int .i64 0, .bool false, .slice none 0 0, .slice none 0 0] rfl rfl 29 _ hres.out (by kernel_rfl) rfl (by simp [Value.oneCell']) ?_))
        exact bodyPost_ret (results_msg rfl _ _ w.heap.size 29 _ _ _ rfl hres2.out Tryd.underlying29 rfl (by kernel_rfl)) rfl ⟨.inr (.inl ⟨HL.out, HUU.out, rfl⟩), bres2.out⟩
end Go.Proofs.YtpnnbkhlbohfbaaDoor
