/- The law's alike, of a call that there is. -/
import Derived.Test.YtaakdnbaljoehaaKAlikeT
import Derived.Test.YtaakdnbaljoehaaKAllA
namespace Go.Proofs.Ytaakdnbaljoehaa
open Go.RowKit Go.Shelf Cod
attribute [local go_sem] Oper.semAt_some
set_option linter.unusedVariables false
set_option maxRecDepth 100000 in
set_option maxHeartbeats 4000000 in
theorem alike_has {w : World} {base P : Nat} {L : List CallV} (h : DeskIn w base P L) {base' R : Nat} {L' : List CallV} (h' : RDeskIn w base' R L') (hl : LikeL L L') {k : Nat} (hk : k < L.length) (hsz : L[k].rows.length * 24 ≤ 140737488355328) :
    Calls Try.prog 22 #[.pointer (some ⟨P, 0, none⟩), .pointer (some ⟨R, 0, none⟩), .int .i64 (k : Int)] w fun e w' => e = .returned (.bool true) ∧ Below w.heap.size w w' := by
  have bA : Below w.heap.size w ((w.alloc (.cells #[.pointer (some ⟨R, 0, none⟩)] 52)).alloc (.cells #[.bool false] 4)) := ((Below.refl _ w).alloc (Nat.le_refl _) _).alloc (by simp) _
  obtain ⟨w2, e2⟩ : ∃ w2, (w.alloc (.cells #[.pointer (some ⟨R, 0, none⟩)] 52)).alloc (.cells #[.bool false] 4) = w2 := ⟨_, rfl⟩
  rw [e2] at bA
  have HG := desk_get (h.below bA) hk hsz
  have E2 : Hid (_ = w2) := e2
  have HDW : Hid (DeskIn w base P L) := h
  have HRW : Hid (RDeskIn w base' R L') := h'
  have BA : Hid (Below w.heap.size w w2) := bA
  refine (callsIn_wide (n := 5)).1 ?_
  refine callsIn_of_wp_marks Try.func22 rfl trivial ?_ rfl
  refine wpIn_wide.2 ?_
  simp only [Try.ntmps22, List.size_toArray, List.length_cons, List.length_nil, Nat.reduceAdd, Nat.reduceSub, Array.replicate_succ, Array.replicate_zero, List.push_toArray, List.append_toArray, List.nil_append, List.cons_append]
  go_wp2_with fail
  refine Calls.mono HG ?_
  clear HG
  rintro e w3 ⟨a5, c5, rfl, o3, b3⟩
  have bw3 : Below w.heap.size w w3 := bA.trans (b3.mono bA.size)
  have lk := hl.2 k hk (by rw [← hl.1]; exact hk)
  have hk' : k < L'.length := by rw [← hl.1]; exact hk
  have hxr := h'.rows L'[k] (List.getElem_mem hk')
  generalize ex : L[k] = x at lk o3
  generalize ex' : L'[k] = x' at lk hxr
  obtain ⟨⟨o1, o2, o3', o4, o5, o6, o7⟩, hd, wy, am, rows, ra, rc⟩ := x
  obtain ⟨op', hd', wy', am', rows', ra', rc'⟩ := x'
  obtain ⟨l1, l2, l3, l4, l5⟩ := lk
  simp only at l1 l2 l3 l4 l5
  subst l1 l2 l3 l4 l5
  dsimp only [OpD.val] at o3 hxr ⊢
  -- the world with both values laid
  have b4 : Below w3.heap.size w3 ((w3.alloc (.cells #[.int .i64 o1, .string o2, .string o3', .int .i64 o4, .string o5, .int .i64 o6, .int .i64 o7] 23)).alloc (.cells #[.int .i64 wy, .int .i64 am, .slice a5 rows.length c5] 28)) := ((Below.refl _ w3).alloc (Nat.le_refl _) _).alloc (by simp) _
  obtain ⟨w4, e4⟩ : ∃ w4, (w3.alloc (.cells #[.int .i64 o1, .string o2, .string o3', .int .i64 o4, .string o5, .int .i64 o6, .int .i64 o7] 23)).alloc (.cells #[.int .i64 wy, .int .i64 am, .slice a5 rows.length c5] 28) = w4 := ⟨_, rfl⟩
  rw [e4] at b4
  have bw4 : Below w.heap.size w w4 := bw3.trans (b4.mono bw3.size)
  have b24 : Below w2.heap.size w2 w4 := b3.trans (b4.mono b3.size)
  have q4 : w2.heap[w.heap.size]? = some (.cells #[.pointer (some ⟨R, 0, none⟩)] 52 (0, 0)) := by
    rw [← e2, Below.heap_alloc _ _ _ (by simp)]
    exact heap_alloc_new w _
  have q6 : w2.heap[w.heap.size + 1]? = some (.cells #[.bool false] 4 (0, 0)) := by rw [← e2]; exact heapTwo w _ _
  have q4' := (b24.block _ (Array.getElem?_eq_some_iff.1 q4).1).trans q4
  have q6' := (b24.block _ (Array.getElem?_eq_some_iff.1 q6).1).trans q6
  have q7 : w4.heap[w3.heap.size]? = some (.cells #[.int .i64 o1, .string o2, .string o3', .int .i64 o4, .string o5, .int .i64 o6, .int .i64 o7] 23 (0, 0)) := by
    rw [← e4, Below.heap_alloc _ _ _ (by simp)]
    exact heap_alloc_new w3 _
  have q8 : w4.heap[w3.heap.size + 1]? = some (.cells #[.int .i64 wy, .int .i64 am, .slice a5 rows.length c5] 28 (0, 0)) := by rw [← e4]; exact heapTwo w3 _ _
  have d4 := h'.below bw4
  obtain ⟨g, cap, hv, ho⟩ := rdesk_row d4 hk'
  have hr := range_rcall ho hk'
  rw [ex'] at hr
  have HRG : Hid (w4.rangeAt g (k * 11) [.int .i64 o1, .string o2, .string o3', .int .i64 o4, .string o5, .int .i64 o6, .int .i64 o7, .int .i64 wy, .int .i64 am, .slice ra' rows.length rc', .bool hd]) := hr
  have c4 : w4.cell? ⟨w.heap.size, 0, none⟩ = some (.pointer (some ⟨R, 0, none⟩)) := by simp [World.cell?, q4']
  have cR : w4.cell? ⟨R, 0, none⟩ = some (.slice (some ⟨g, 0, none⟩) L'.length cap) := by simp [World.cell?, hv]
  have b5 : Below w4.heap.size w4 (w4.alloc (.cells #[.int .i64 o1, .string o2, .string o3', .int .i64 o4, .string o5, .int .i64 o6, .int .i64 o7, .int .i64 wy, .int .i64 am, .slice ra' rows.length rc', .bool hd] 85)) := (Below.refl _ w4).alloc (Nat.le_refl _) _
  have q10 := heap_alloc_new w4 (.cells #[.int .i64 o1, .string o2, .string o3', .int .i64 o4, .string o5, .int .i64 o6, .int .i64 o7, .int .i64 wy, .int .i64 am, .slice ra' rows.length rc', .bool hd] 85)
  obtain ⟨w5, e5⟩ : ∃ w5, w4.alloc (.cells #[.int .i64 o1, .string o2, .string o3', .int .i64 o4, .string o5, .int .i64 o6, .int .i64 o7, .int .i64 wy, .int .i64 am, .slice ra' rows.length rc', .bool hd] 85) = w5 := ⟨_, rfl⟩
  rw [e5] at b5 q10
  have q7n := (b5.block _ (Array.getElem?_eq_some_iff.1 q7).1).trans q7
  have q8n := (b5.block _ (Array.getElem?_eq_some_iff.1 q8).1).trans q8
  have c4n := (b5.cell (p := ⟨w.heap.size, 0, none⟩) (World.block_lt_of_cell? w4 _ c4)).trans c4
  have cRn := (b5.cell (p := ⟨R, 0, none⟩) (World.block_lt_of_cell? w4 _ cR)).trans cR
  have y0 : w5.cell? ⟨w3.heap.size, 0, none⟩ = some (.int .i64 o1) := by simp [World.cell?, q7n]
  have y1 : w5.cell? ⟨w3.heap.size, 1, none⟩ = some (.string o2) := by simp [World.cell?, q7n]
  have y2 : w5.cell? ⟨w3.heap.size, 2, none⟩ = some (.string o3') := by simp [World.cell?, q7n]
  have y3 : w5.cell? ⟨w3.heap.size, 3, none⟩ = some (.int .i64 o4) := by simp [World.cell?, q7n]
  have y4 : w5.cell? ⟨w3.heap.size, 4, none⟩ = some (.string o5) := by simp [World.cell?, q7n]
  have y5 : w5.cell? ⟨w3.heap.size, 5, none⟩ = some (.int .i64 o6) := by simp [World.cell?, q7n]
  have y6 : w5.cell? ⟨w3.heap.size, 6, none⟩ = some (.int .i64 o7) := by simp [World.cell?, q7n]
  have r0 : w5.cell? ⟨w3.heap.size + 1, 0, none⟩ = some (.int .i64 wy) := by simp [World.cell?, q8n]
  have r1 : w5.cell? ⟨w3.heap.size + 1, 1, none⟩ = some (.int .i64 am) := by simp [World.cell?, q8n]
  have r2 : w5.cell? ⟨w3.heap.size + 1, 2, none⟩ = some (.slice a5 rows.length c5) := by simp [World.cell?, q8n]
  have x0 : w5.cell? ⟨w4.heap.size, 0, none⟩ = some (.int .i64 o1) := by simp [World.cell?, q10]
  have x1 : w5.cell? ⟨w4.heap.size, 1, none⟩ = some (.string o2) := by simp [World.cell?, q10]
  have x2 : w5.cell? ⟨w4.heap.size, 2, none⟩ = some (.string o3') := by simp [World.cell?, q10]
  have x3 : w5.cell? ⟨w4.heap.size, 3, none⟩ = some (.int .i64 o4) := by simp [World.cell?, q10]
  have x4 : w5.cell? ⟨w4.heap.size, 4, none⟩ = some (.string o5) := by simp [World.cell?, q10]
  have x5 : w5.cell? ⟨w4.heap.size, 5, none⟩ = some (.int .i64 o6) := by simp [World.cell?, q10]
  have x6 : w5.cell? ⟨w4.heap.size, 6, none⟩ = some (.int .i64 o7) := by simp [World.cell?, q10]
  have x7 : w5.cell? ⟨w4.heap.size, 7, none⟩ = some (.int .i64 wy) := by simp [World.cell?, q10]
  have x8 : w5.cell? ⟨w4.heap.size, 8, none⟩ = some (.int .i64 am) := by simp [World.cell?, q10]
  have x9 : w5.cell? ⟨w4.heap.size, 9, none⟩ = some (.slice ra' rows.length rc') := by simp [World.cell?, q10]
  have x10 : w5.cell? ⟨w4.heap.size, 10, none⟩ = some (.bool hd) := by simp [World.cell?, q10]
  have B5 : Hid _ := b5
  have Q8n : Hid _ := q8n
  have hmm : rows.length ≤ 140737488355328 := by
    have : rows.length * 24 ≤ 140737488355328 := by rw [ex] at hsz; exact hsz
    omega
  have SR : Hid _ := sameReply_any a5 ra' rows.length c5 rows.length rc' rows rows wy am wy am w5 (rows_owned (ownsB (ownsB o3 b4) b5) rfl hmm) (rows_owned (ownsB (ownsB hxr bw4) b5) rfl hmm)
  have hkl : (k : Int) < (L'.length : Int) := by omega
  have own4 : Hid _ := ownsB o3 b4
  have rows' := ownsB hxr bw4
  have E4 : Hid (_ = w4) := e4
  have B4 : Hid _ := b4
  have BW4 : Hid _ := bw4
  have B24 : Hid _ := b24
  have Q6 : Hid _ := q6'
  have Q42 : Hid (w2.heap[w.heap.size]? = some (.cells #[.pointer (some ⟨R, 0, none⟩)] 52 (0, 0))) := q4
  have Q62 : Hid (w2.heap[w.heap.size + 1]? = some (.cells #[.bool false] 4 (0, 0))) := q6
  have Q7 : Hid _ := q7
  have Q8 : Hid _ := q8
  have Q4 : Hid _ := q4'
  have HL : Hid _ := hl
  have HD : Hid _ := h.below bw4
  have HR : Hid _ := d4
  have HXR : Hid _ := rows'
  have NB : Hid (w.heap.size + 2 ≤ w3.heap.size) := by
    have := (Array.getElem?_eq_some_iff.1 q6).1
    have := b3.size
    show _ ≤ _
    omega
  obtain ⟨n', en'⟩ : ∃ n', L'.length = n' := ⟨_, rfl⟩
  rw [en'] at cR cRn hkl
  have EN : Hid _ := en'
  clear h h' hl bA e2 E2 o3 b3 bw3 hk hk' hsz ex ex' hxr b4 bw4 b24 q4 q6 q4' q6' q7 q8 d4 hv ho hr rows' en' b5 q10 q7n q8n
  go_wp2_with (refine wpList_load_mid rfl 85 (.tmp 39) rfl g (k * 11) rfl [.int .i64 o1, .string o2, .string o3', .int .i64 o4, .string o5, .int .i64 o6, .int .i64 o7, .int .i64 wy, .int .i64 am, .slice ra' rows.length rc', .bool hd] _ HRG.out Try.underlying85 rfl (by kernel_rfl) ?_)
  refine Calls.mono SR.out ?_
  rintro e w6 ⟨rfl, b6⟩
  have b25 : Below w2.heap.size w2 w5 := B24.out.trans (B5.out.mono B24.out.size)
  have b26 : Below w2.heap.size w2 w6 := b25.trans (b6.mono b25.size)
  have q86 := (b6.block _ (Array.getElem?_eq_some_iff.1 Q8n.out).1).trans Q8n.out
  have x10' := (b6.cell (p := ⟨w4.heap.size, 10, none⟩) (World.block_lt_of_cell? w5 _ x10)).trans x10
  have own6 := ownsB (ownsB own4.out B5.out) b6
  have r2' : w6.cell? ⟨w3.heap.size + 1, 2, none⟩ = some (.slice a5 rows.length c5) := by simp [World.cell?, q86]
  have Q86 : Hid _ := q86
  have O6 : Hid _ := own6
  have B26 : Hid _ := b26
  clear b25 b26 q86 own6 b6 y0 y1 y2 y3 y4 y5 y6 r0 r1 r2 x0 x1 x2 x3 x4 x5 x6 x7 x8 x9 x10 c4n cRn c4 cR HRG SR B4 BW4 B24 Q7 Q8n e4 e5
  try simp only [and_self, decide_true]
  generalize rows.length = m at *
  go_wp2_with fail
  clear x10'
  go_loopw [11] (fun y wr => ∃ j : Nat, j ≤ m ∧ y = .int .i64 j ∧ Hid (∃ xs, wr.ownsRow w2.heap.size 59 2 (.slice a5 m c5) m xs) ∧ Hid (Below w2.heap.size w2 wr) ∧ Hid (wr.heap[w3.heap.size + 1]? = some (.cells #[.int .i64 wy, .int .i64 am, .slice a5 m c5] 28 (0, 0)))) (fun y _ => m - (intOf y).toNat)
  case atStart => exact ⟨0, Nat.zero_le _, rfl, ⟨_, O6.out⟩, B26, Q86⟩
  case round =>
    obtain ⟨j, hj, rfl, hO, hB, hQ⟩ := hrel
    have r2n : wr.cell? ⟨w3.heap.size + 1, 2, none⟩ = some (.slice a5 m c5) := by simp [World.cell?, hQ.out]
    by_cases hlt : j < m
    · obtain ⟨xs, ho⟩ := hO.out
      rcases ho.2 with ⟨e1, e2⟩ | ⟨g5, cap5, cur5, e5, _⟩
      · omega
      · injection e5 with e5 _ e6
        subst e5
        obtain ⟨⟨u, hu⟩, hz, ho', hb', hq'⟩ := spoil_step ho hlt hB.out hQ.out (.int .i64 99)
        have HJ : Hid (j + 1 ≤ m) := hlt
        have O7 : Hid _ := ho'
        have B7 : Hid _ := hb'
        have Q7 : Hid _ := hq'
        clear ho hO hB hQ ho' hb' hq'
        go_wp2
        go_roundw
        case rel => exact ⟨j + 1, HJ.out, by go_num, O7, B7, Q7⟩
        case measure => have := HJ.out; simp only [intOf]; omega
    · clear r2' O6 Q86 B26 hO hQ own4 B5 Q6 Q8 Q4 HD HR HXR
      have jm : Hid (j = m) := by show j = m; omega
      have hbr := hB.out
      have bWr : Below w.heap.size w wr := BA.out.trans (hbr.mono BA.out.size)
      have HO := desk_open (HDW.out.below bWr)
      have BWR : Hid _ := bWr
      clear hbr bWr
      go_wp2_with fail
      refine Calls.mono HO ?_
      rintro e w8 ⟨Bb, aa, cc, rfl, hbb, hbx, ho8, b8⟩
      have bw8 : Below w.heap.size w w8 := BWR.out.trans (b8.mono BWR.out.size)
      have b28 : Below w2.heap.size w2 w8 := hB.out.trans (b8.mono hB.out.size)
      have q48 := (b28.block _ (Array.getElem?_eq_some_iff.1 Q42.out).1).trans Q42.out
      have q68 := (b28.block _ (Array.getElem?_eq_some_iff.1 Q62.out).1).trans Q62.out
      have d8 := HRW.out.below bw8
      obtain ⟨v8, hv8, hr8⟩ := d8.ex
      obtain ⟨ar, cr, rfl, _, _⟩ := row_form' hr8
      have c48 : w8.cell? ⟨w.heap.size, 0, none⟩ = some (.pointer (some ⟨R, 0, none⟩)) := by simp [World.cell?, q48]
      have cR8 : w8.cell? ⟨R, 0, none⟩ = some (.slice ar L'.length cr) := by simp [World.cell?, hv8]
      have HLn : Hid (∀ i, Calls Try.prog 13 #[.pointer (some ⟨P, 0, none⟩)] (w8.drewN i) fun e w' => e = .returned (.int .i64 L.length) ∧ w' = w8.drewN i) := fun i => by
        have d := HDW.out.below bw8
        exact desk_len (w := w8.drewN i) ⟨d.ex, d.rows, d.pb, d.few⟩
      have hln : (L.length : Int) = (L'.length : Int) := by rw [HL.out.1]
      have EQF : ∀ (u : World) (f : Fn) (lb : Array Value), (binOp .eql 32 (.func f #[] lb) .nilFunc).run Try.prog u = .ok (.bool false) u := fun u f lb => eql_funcK u f lb
      have BW8 : Hid _ := bw8
      have B28 : Hid _ := b28
      have Q48 : Hid _ := q48
      have Q68 : Hid _ := q68
      have D8 : Hid _ := d8
      have HBX : Hid _ := hbx
      have HO8 : Hid _ := ho8
      have B8 : Hid _ := b8
      rw [hln] at HLn
      rw [EN.out] at HLn cR8
      clear HO hbb hbx ho8 b8 bw8 b28 q48 q68 d8 hv8 hr8 hln r2n
      go_wp2_with fail
      go_quiet (exact Calls.quiet_of_same (HLn.out _))
      clear HLn c48 cR8 EQF
      generalize e9 : w8.drewN nq = w9
      have h9 : w9.heap = w8.heap := by rw [← e9]; rfl
      have b9 : Below w8.heap.size w8 w9 := by rw [← e9]; exact below_drewN (Below.refl _ w8) nq
      have b10 : Below w9.heap.size w9 (w9.alloc (.cells #[.int .i64 0] 3)) := (Below.refl _ w9).alloc (Nat.le_refl _) _
      have q13 := heap_alloc_new w9 (.cells #[.int .i64 0] 3)
      obtain ⟨w10, e10⟩ : ∃ w10, w9.alloc (.cells #[.int .i64 0] 3) = w10 := ⟨_, rfl⟩
      rw [e10] at b10 q13
      have b8t : Below w8.heap.size w8 w10 := b9.trans (b10.mono b9.size)
      have B8T : Hid _ := b8t
      have Q13 : Hid _ := q13
      have B10 : Hid _ := b10
      have E10 : Hid (_ = w10) := e10
      have S89 : Hid (w8.heap.size ≤ w9.heap.size) := b9.size
      clear e9 h9 b9 b10 q13 b8t e10
      go_wp2_with fail
      rw [show _ = w10 from E10.out]
      clear E10 B10 E4
      refine (wpIn_wide (n := 5)).1 ?_
      have HN : Hid (w9.heap.size < w10.heap.size) := (Array.getElem?_eq_some_iff.1 Q13.out).1
      have cB : w10.cell? ⟨Bb, 0, none⟩ = some (.slice aa L.length cc) := by
        have e := (B8T.out.block _ (Array.getElem?_eq_some_iff.1 HBX.out).1).trans HBX.out
        simp [World.cell?, e]
      have HSQ : Hid _ := open2_seq (5 - 1) Bb wr.heap.size cc aa L w10 cB (ownsB HO8.out B8T.out) HDW.out.few
      clear cB
      have HAA : Hid (∀ x, aa = some x → x.block ≠ w9.heap.size) := fun x e he => by
        have := (row_kind HO8.out (g := x.block) (by rw [e]; rfl)).2.1
        have := S89.out
        omega
      have HAF : Hid (∀ k, k < L'.length → ∃ g cap, AF w10 w.heap.size R g cap L' ∧ w.heap.size ≠ w9.heap.size ∧ R ≠ w9.heap.size ∧ g ≠ w9.heap.size) := fun k hk => by
        obtain ⟨g, cap, hv, ho⟩ := rdesk_row D8.out hk
        have s9 := S89.out
        have l1 := (Array.getElem?_eq_some_iff.1 Q48.out).1
        have l2 := (Array.getElem?_eq_some_iff.1 hv).1
        have l3 := (row_kind ho (g := g) rfl).2.1
        have up : ∀ b o v, w8.cell? ⟨b, o, none⟩ = some v → w10.cell? ⟨b, o, none⟩ = some v := fun b o v hv => (B8T.out.cell (p := ⟨b, o, none⟩) (World.block_lt_of_cell? w8 _ hv)).trans hv
        exact ⟨g, cap, ⟨up _ _ _ (by simp [World.cell?, Q48.out]), up _ _ _ (by simp [World.cell?, hv]), fun k hk j v hv => up _ _ _ (range_rcall ho hk j v hv)⟩, by omega, by omega, by omega⟩
      refine wpIn_named fun T eT => ?_
      have ET : Hid (_ = T) := eT
      clear eT
      refine range_R (n := 5) (gf := 36) (lb := #[.pointer (some ⟨Bb, 0, none⟩)]) (w0 := w10) (by rw [← ET.out]; rfl) (enters_of Try.func36 (by kernel_rfl) rfl) HSQ.out KcO.tr KcO.bk (Below.refl _ _) (fun _ => rfl)
        (AI w10 w9.heap.size L') (fun _ _ _ => False) (AI.low HN.out) (fun _ _ _ _ h _ => h) ⟨⟨0, Nat.zero_le _, rfl, Q13.out⟩, fun _ _ _ => rfl, Nat.le_refl _, rfl, rfl, rfl⟩
        (fun (pre : List (Nat × OpD)) (x : Nat × OpD) (act : Act) (X : World) => RO L pre x X ∧ ∃ B, w10.heap.size ≤ B ∧ X.heap[B]? = some (.cells #[.int .i64 x.2.kind, .string x.2.src, .string x.2.dst, .int .i64 x.2.amount, .string x.2.key, .int .i64 x.2.slot, .int .i64 x.2.shard] 23 (0, 0)) ∧ act = { tmps := (((T.setIfInBounds 97 (.int .i64 (x.1 : Int))).setIfInBounds 98 x.2.val).setIfInBounds 14 (.int .i64 (x.1 : Int))).setIfInBounds 15 (.pointer (some ⟨B, 0, none⟩)), defers := [] })
        ?hAx ?assign ?body ?done (fun _ _ _ _ _ _ h _ => h.elim)
      case hAx =>
        rintro pre x act _ X Z row ⟨h1, B, h2, h3, h4⟩ hg hrow
        refine ⟨h1, B, h2, ?_, h4⟩
        rw [hg.block B (Array.getElem?_eq_some_iff.1 h3).1 (fun e => by
          obtain ⟨_, o, ho, hc⟩ := hrow B e.symm
          rw [h3] at ho
          cases ho
          simp [Obj.isCells] at hc)]
        exact h3
      case assign =>
        rintro l' pre ⟨x1, x2⟩ X K hI hr hK
        have HRR : Hid _ := hr
        have HII : Hid _ := hI
        have bX : Below X.heap.size X (X.alloc (.cells #[.int .i64 x2.kind, .string x2.src, .string x2.dst, .int .i64 x2.amount, .string x2.key, .int .i64 x2.slot, .int .i64 x2.shard] 23)) := (Below.refl _ X).alloc (Nat.le_refl _) _
        have HKK : Hid _ := hK _ (X.alloc (.cells #[.int .i64 x2.kind, .string x2.src, .string x2.dst, .int .i64 x2.amount, .string x2.key, .int .i64 x2.slot, .int .i64 x2.shard] 23)) (kfK bX) (fun y _ cs t z q => (bX.block _ (Array.getElem?_eq_some_iff.1 q).1).trans q) (AI.low HN.out _ _ _ hI (bX.mono (aiSize hI HN.out))) ⟨hr, X.heap.size, aiSize hI HN.out, heap_alloc_new X _, rfl⟩
        clear hK hI hr bX
        rw [← ET.out] at HKK
        rw [← ET.out]
        dsimp only [encO, OpD.val] at HKK ⊢
        simp only [List.zip_toArray, List.zip_cons_cons, List.zip_nil_right, List.foldl_toArray, List.foldl_cons, List.foldl_nil, List.setIfInBounds_toArray, List.set_cons_zero, List.set_cons_succ] at HKK ⊢
        gi_wp2
        exact HKK.out
      case body =>
        rintro l' pre ⟨x1, x2⟩ act X hI ⟨hr, B, hB1, hop, rfl⟩
        have HII : Hid _ := hI
        have HRR : Hid _ := hr
        have HOP : Hid _ := hop
        clear hI hr hop
        rw [← ET.out]
        dsimp only [OpD.val]
        simp only [List.setIfInBounds_toArray, List.set_cons_zero, List.set_cons_succ]
        generalize w9.heap.size = N at *
        have c13 : Hid (N < w10.heap.size) := HN
        gi_wp2_with fail
        gi_loopw [] (fun wr => Hid (AL w10 N L' aa B #[.int .i64 x2.kind, .string x2.src, .string x2.dst, .int .i64 x2.amount, .string x2.key, .int .i64 x2.slot, .int .i64 x2.shard] X pre wr)) (fun wr => ahead N n' wr)
        case atStart => exact ⟨HII.out, KeepsFrom.refl _ _, fun _ _ _ _ _ q => q, HOP.out⟩
        case round =>
          obtain ⟨k2, hk1, hk2, hk3⟩ := hrel.out.ai.ex
          have hro : (openFrom 0 L')[(openFrom 0 (L'.take k2)).length]? = some (x1, x2) := by
            rw [hk2, ← LikeL.open HL.out 0]
            exact HRR.out
          have hkl := open_more hro
          obtain ⟨g2, cap2, af, n1, n2, n3⟩ := HAF.out k2 hkl
          have af' := hrel.out.ai.facts af n1 n2 n3
          have k13 : wr.cell? ⟨N, 0, none⟩ = some (.int .i64 (k2 : Int)) := by simp [World.cell?, hk3]
          have k4 := af'.c4
          have kR := af'.cR
          have kh : wr.cell? ⟨g2, k2 * 11 + 10, none⟩ = some (.bool L'[k2].heard) := af'.row k2 hkl 10 _ rfl
          have kz : wr.frozen? ⟨N, 0, none⟩ = false := by simp [World.frozen?, hk3]
          have hki : (k2 : Int) < (n' : Int) := by have := EN.out; omega
          have hkb : k2 < 2000 := Nat.lt_of_lt_of_le hkl HRW.out.few
          rw [EN.out] at kR
          cases hh : L'[k2].heard with
          | true =>
            rw [hh] at kh
            have HS : Hid (∀ i, AL w10 N L' aa B #[.int .i64 x2.kind, .string x2.src, .string x2.dst, .int .i64 x2.amount, .string x2.key, .int .i64 x2.slot, .int .i64 x2.shard] X pre ((wr.drewN i).setCell ⟨N, 0, none⟩ (.int .i64 ((k2 + 1 : Nat) : Int)))) := fun i => (hrel.out.drewN i).step HN.out hB1 HAA.out hkl ((open_hold hkl hh).trans hk2) hk3
            have HM : Hid (∀ i, ahead N n' ((wr.drewN i).setCell ⟨N, 0, none⟩ (.int .i64 ((k2 + 1 : Nat) : Int))) < ahead N n' wr) := fun i => by
              rw [ahead_of (k := k2 + 1) (one_setCell (w := wr.drewN i) hk3), ahead_of hk3]
              have := EN.out
              omega
            have HC : Hid ((k2 : Int) + 1 = ((k2 + 1 : Nat) : Int)) := by show _ = _; omega
            clear hrel hro hkl af af' n1 n2 n3 hh hk1 hk2 hk3
            gi_wp2_with fail
            refine round_quiet l' (by kernel_rfl) (by kernel_rfl) (by kernel_rfl) ?_
            repeat (quiet_step_in (fail))
            refine wpQuietIn_nil ?_
            rintro _ ⟨nq2, rfl⟩
            gi_wp2
            rw [HC.out]
            go_roundw
            case rel => exact HS.out _
            case measure => exact HM.out _
          | false =>
            have hng : ¬ (n' : Int) ≤ (k2 : Int) := by omega
            have hng2 : ¬ n' ≤ k2 := by omega
            have hng3 : k2 < n' := by omega
            rw [hh] at kh
            have ht := open_this hro hh
            injection ht with ht1 ht2
            have HS : Hid (∀ i i2, AL w10 N L' aa B #[.int .i64 x2.kind, .string x2.src, .string x2.dst, .int .i64 x2.amount, .string x2.key, .int .i64 x2.slot, .int .i64 x2.shard] X (pre ++ [(x1, x2)]) (((wr.drewN i).drewN i2).setCell ⟨N, 0, none⟩ (.int .i64 ((k2 + 1 : Nat) : Int)))) := fun i i2 => ((hrel.out.drewN i).drewN i2).step HN.out hB1 HAA.out hkl (by rw [open_step hkl hh, hk2, ht1, ht2]) hk3
            have hop := hrel.out.op
            have zz := af'.row k2 hkl
            rw [ht1]
            rw [ht2] at hop
            clear HRR ht1
            generalize L'[k2] = xx at *
            obtain ⟨⟨p1, p2, p3, p4, p5, p6, p7⟩, xh, xw, xa, xr, xra, xrc⟩ := xx
            have z0 := zz 0 _ rfl
            have z1 := zz 1 _ rfl
            have z2 := zz 2 _ rfl
            have z3 := zz 3 _ rfl
            have z4 := zz 4 _ rfl
            have z5 := zz 5 _ rfl
            have z6 := zz 6 _ rfl
            dsimp only at z0 z1 z2 z3 z4 z5 z6 hop
            rw [Nat.add_zero] at z0
            have y0 : wr.cell? ⟨B, 0, none⟩ = some (.int .i64 p1) := by simp [World.cell?, hop]
            have y1 : wr.cell? ⟨B, 1, none⟩ = some (.string p2) := by simp [World.cell?, hop]
            have y2 : wr.cell? ⟨B, 2, none⟩ = some (.string p3) := by simp [World.cell?, hop]
            have y3 : wr.cell? ⟨B, 3, none⟩ = some (.int .i64 p4) := by simp [World.cell?, hop]
            have y4 : wr.cell? ⟨B, 4, none⟩ = some (.string p5) := by simp [World.cell?, hop]
            have y5 : wr.cell? ⟨B, 5, none⟩ = some (.int .i64 p6) := by simp [World.cell?, hop]
            have y6 : wr.cell? ⟨B, 6, none⟩ = some (.int .i64 p7) := by simp [World.cell?, hop]
            have HC : Hid ((k2 : Int) + 1 = ((k2 + 1 : Nat) : Int)) := by show _ = _; omega
            clear hrel hro hkl af af' n1 n2 n3 hh hk1 hk2 hk3 ht2 zz hop
            gi_wp2_with fail
            refine round_quiet l' (by kernel_rfl) (by kernel_rfl) (by kernel_rfl) ?_
            repeat (quiet_step_in (fail))
            refine wpQuietIn_nil ?_
            rintro _ ⟨nq2, rfl⟩
            gi_wp2_with fail
            refine round_quiet l' (by kernel_rfl) (by kernel_rfl) (by kernel_rfl) ?_
            repeat (quiet_step_in (fail))
            refine wpQuietIn_nil ?_
            rintro _ ⟨nq3, rfl⟩
            gi_wp2
            rw [HC.out]
            have hfin := HS.out nq2 nq3
            rw [World.drewN_drewN] at hfin
            exact ⟨hfin.kf, hfin.kc, hfin.ai⟩
      case done =>
        intro D xs W hD hS hI hK
        have HE : Hid (AE w10 w9.heap.size L' D xs W) := ⟨hI, hK⟩
        have HS : Hid (openFrom 0 L' = xs) := by rw [hS]; exact (LikeL.open HL.out 0).symm
        have HDD : Hid (w10.heap.size ≤ D) := hD
        clear hS hI hK hD HSQ HO8 HBX
        rw [← ET.out]
        generalize w9.heap.size = N at *
        go_wp2_with fail
        go_loopw [] (fun wr => Hid (AE w10 N L' D xs wr)) (fun wr => ahead N n' wr)
        case atStart => exact HE
        case round =>
          obtain ⟨k2, hk1, hk2, hk3⟩ := hrel.out.ai.ex
          have k13 : wr.cell? ⟨N, 0, none⟩ = some (.int .i64 (k2 : Int)) := by simp [World.cell?, hk3]
          have kz : wr.frozen? ⟨N, 0, none⟩ = false := by simp [World.frozen?, hk3]
          by_cases hkl : k2 < L'.length
          · have hh := open_last (by rw [hk2]; exact HS.out.symm) hkl
            obtain ⟨g2, cap2, af, n1, n2, n3⟩ := HAF.out k2 hkl
            have af' := hrel.out.ai.facts af n1 n2 n3
            have k4 := af'.c4
            have kR := af'.cR
            have kh : wr.cell? ⟨g2, k2 * 11 + 10, none⟩ = some (.bool L'[k2].heard) := af'.row k2 hkl 10 _ rfl
            have hki : (k2 : Int) < (n' : Int) := by have := EN.out; omega
            have hkb : k2 < 2000 := Nat.lt_of_lt_of_le hkl HRW.out.few
            rw [EN.out] at kR
            rw [hh] at kh
            have HS2 : Hid (∀ i, AE w10 N L' D xs ((wr.drewN i).setCell ⟨N, 0, none⟩ (.int .i64 ((k2 + 1 : Nat) : Int)))) := fun i => (hrel.out.drewN i).step HN.out HDD.out hkl ((open_hold hkl hh).trans hk2) hk3
            have HM : Hid (∀ i, ahead N n' ((wr.drewN i).setCell ⟨N, 0, none⟩ (.int .i64 ((k2 + 1 : Nat) : Int))) < ahead N n' wr) := fun i => by
              rw [ahead_of (k := k2 + 1) (one_setCell (w := wr.drewN i) hk3), ahead_of hk3]
              have := EN.out
              omega
            have HC : Hid ((k2 : Int) + 1 = ((k2 + 1 : Nat) : Int)) := by show _ = _; omega
            clear hrel hkl af af' n1 n2 n3 hh hk1 hk2 hk3
            go_wp2_with fail
            go_quiet (fail)
            go_wp2
            rw [HC.out]
            go_roundw
            case rel => exact HS2.out _
            case measure => exact HM.out _
          · obtain rfl : k2 = n' := by have := EN.out; omega
            obtain ⟨v8, hv8, hr8⟩ := D8.out.ex
            obtain ⟨ar, cr, rfl, _, _⟩ := row_form' hr8
            have lN := S89.out
            have l48 := (Array.getElem?_eq_some_iff.1 Q48.out).1
            have lv8 := (Array.getElem?_eq_some_iff.1 hv8).1
            have l68 := (Array.getElem?_eq_some_iff.1 Q68.out).1
            have s8 := B8T.out.size
            have e48 := (hrel.out.ai.block w.heap.size (by omega) (by omega)).trans ((B8T.out.block _ l48).trans Q48.out)
            have eR := (hrel.out.ai.block R (by omega) (by omega)).trans ((B8T.out.block _ lv8).trans hv8)
            have k4 : wr.cell? ⟨w.heap.size, 0, none⟩ = some (.pointer (some ⟨R, 0, none⟩)) := by simp [World.cell?, e48]
            have kR : wr.cell? ⟨R, 0, none⟩ = some (.slice ar L'.length cr) := by simp [World.cell?, eR]
            rw [EN.out] at kR
            have q610 := (B8T.out.block _ l68).trans Q68.out
            have bw10 : Below w.heap.size w w10 := BW8.out.trans (B8T.out.mono BW8.out.size)
            have nR6 : R ≠ w.heap.size + 1 := fun e => by
              rw [e, Q68.out] at hv8
              injection hv8 with hv8
              injection hv8 with _ hv8
              exact absurd hv8 (by decide)
            have FIN : Hid (∀ i, _) := fun i => alike_end (X := (wr.drewN i).drew) (hrel.out.drewN i).drew bw10 (by omega) HDD.out (.bool true) q610 (by omega)
            have N6 : Hid (N ≠ w.heap.size + 1) := by show _ ≠ _; omega
            have NR6 : Hid (R ≠ w.heap.size + 1) := nR6
            clear hrel hk1 hk2 hk3 hkl hv8 hr8 lN l48 lv8 l68 s8 e48 eR q610 bw10 nR6
            go_wp2_with fail
            go_quiet (fail)
            go_wp2_with fail
            have f6 : wr.heap[w.heap.size + 1]? = some (.cells #[.bool false] 4 (0, 0)) := (FIN.out nq).1
            have k6 : wr.cell? ⟨w.heap.size + 1, 0, none⟩ = some (.bool false) := by simp [World.cell?, f6]
            have kz6 : wr.frozen? ⟨w.heap.size + 1, 0, none⟩ = false := by simp [World.frozen?, f6]
            refine wp_region_calm (S := fun W => W.cell? ⟨N, 0, none⟩ = some (.int .i64 (k2 : Int)) ∧ W.cell? ⟨w.heap.size, 0, none⟩ = some (.pointer (some ⟨R, 0, none⟩)) ∧ W.cell? ⟨R, 0, none⟩ = some (.slice ar k2 cr)) (by kernel_rfl) ⟨k13, k4, kR⟩ (fun hHeld => ?_)
            refine take_run (i := 0) (oi := { dst := some 163, op := Go.Op.load 3 (Go.Operand.tmp 13), type := 3, pos := "law.go:108", after := #[], guard := none }) (v := .int .i64 (k2 : Int)) rfl (by kernel_rfl) (by kernel_rfl) (by kernel_rfl) (fun _ _ _ h => h) (by rfl) ?_ hHeld ?_
            · (intro wq hSw; obtain ⟨q1, q2, q3⟩ := hSw; go_simp <;> with_reducible rfl)
            try simp only [Act.put, List.setIfInBounds_toArray, List.set_cons_zero, List.set_cons_succ]
            refine take_run (i := 1) (oi := { dst := some 164, op := Go.Op.load 52 (Go.Operand.tmp 4), type := 52, pos := "law.go:108", after := #[], guard := none }) (v := .pointer (some ⟨R, 0, none⟩)) rfl (by kernel_rfl) (by kernel_rfl) (by kernel_rfl) (fun _ _ _ h => h) (by rfl) ?_ hHeld ?_
            · (intro wq hSw; obtain ⟨q1, q2, q3⟩ := hSw; go_simp <;> with_reducible rfl)
            try simp only [Act.put, List.setIfInBounds_toArray, List.set_cons_zero, List.set_cons_succ]
            refine take_run (i := 2) (oi := { dst := some 165, op := Go.Op.nilCheck (Go.Operand.tmp 164), type := 0, pos := "law.go:108", after := #[{ on := 1, ground := Go.Ground.data }], guard := none }) (v := .pointer (some ⟨R, 0, none⟩)) rfl (by kernel_rfl) (by kernel_rfl) (by kernel_rfl) (fun _ _ _ h => h) (by rfl) ?_ hHeld ?_
            · (intro wq hSw; obtain ⟨q1, q2, q3⟩ := hSw; go_simp <;> with_reducible rfl)
            try simp only [Act.put, List.setIfInBounds_toArray, List.set_cons_zero, List.set_cons_succ]
            refine take_run (i := 3) (oi := { dst := some 166, op := Go.Op.fieldAddr 55 (Go.Operand.tmp 165) 0, type := 0, pos := "law.go:108", after := #[{ on := 2, ground := Go.Ground.data }], guard := none }) (v := .pointer (some ⟨R, 0, none⟩)) rfl (by kernel_rfl) (by kernel_rfl) (by kernel_rfl) (fun _ _ _ h => h) (by rfl) ?_ hHeld ?_
            · (intro wq hSw; obtain ⟨q1, q2, q3⟩ := hSw; go_simp <;> with_reducible rfl)
            try simp only [Act.put, List.setIfInBounds_toArray, List.set_cons_zero, List.set_cons_succ]
            refine take_run (i := 4) (oi := { dst := some 167, op := Go.Op.load 53 (Go.Operand.tmp 166), type := 53, pos := "law.go:108", after := #[{ on := 3, ground := Go.Ground.data }], guard := none }) (v := .slice ar k2 cr) rfl (by kernel_rfl) (by kernel_rfl) (by kernel_rfl) (fun _ _ _ h => h) (by rfl) ?_ hHeld ?_
            · (intro wq hSw; obtain ⟨q1, q2, q3⟩ := hSw; go_simp <;> with_reducible rfl)
            try simp only [Act.put, List.setIfInBounds_toArray, List.set_cons_zero, List.set_cons_succ]
            refine take_run (i := 5) (oi := { dst := some 168, op := Go.Op.call { callee := Go.Callee.builtin Go.Builtin.len, args := #[Go.Operand.tmp 167], argTypes := #[53] }, type := 3, pos := "law.go:108", after := #[{ on := 4, ground := Go.Ground.data }], guard := none }) (v := .int .i64 (k2 : Int)) rfl (by kernel_rfl) (by kernel_rfl) (by kernel_rfl) (fun _ _ _ h => h) (by rfl) ?_ hHeld ?_
            · (intro wq hSw; obtain ⟨q1, q2, q3⟩ := hSw; go_simp <;> with_reducible rfl)
            try simp only [Act.put, List.setIfInBounds_toArray, List.set_cons_zero, List.set_cons_succ]
            refine take_run (i := 6) (oi := { dst := some 169, op := Go.Op.binOp Go.BinOp.eql 3 (Go.Operand.tmp 163) (Go.Operand.tmp 168) 3, type := 4, pos := "law.go:108", after := #[{ on := 0, ground := Go.Ground.data }, { on := 5, ground := Go.Ground.data }], guard := none }) (v := .bool true) rfl (by kernel_rfl) (by kernel_rfl) (by kernel_rfl) (fun _ _ _ h => h) (by rfl) ?_ hHeld ?_
            · (intro wq hSw; obtain ⟨q1, q2, q3⟩ := hSw; go_simp <;> with_reducible rfl)
            try simp only [Act.put, List.setIfInBounds_toArray, List.set_cons_zero, List.set_cons_succ]
            refine take_eff (i := 7) (oi := { dst := none, op := Go.Op.store 4 (Go.Operand.tmp 6) (Go.Operand.tmp 169), type := 0, pos := "law.go:108", after := #[{ on := 6, ground := Go.Ground.data }, { on := 0, ground := Go.Ground.phase }, { on := 1, ground := Go.Ground.phase }, { on := 2, ground := Go.Ground.phase }, { on := 3, ground := Go.Ground.phase }, { on := 4, ground := Go.Ground.phase }, { on := 5, ground := Go.Ground.phase }, { on := 6, ground := Go.Ground.phase }], guard := none }) (w' := (wr.drewN nq).drew.setCell ⟨w.heap.size + 1, 0, none⟩ (.bool true)) rfl (by kernel_rfl) (by rfl) (by go_simp <;> with_reducible rfl) ?_ ?_
            · exact ⟨(kalike_ne N6.out).trans hHeld.1, (kalike_ne (by show w.heap.size ≠ w.heap.size + 1; omega)).trans hHeld.2.1, (kalike_ne NR6.out).trans hHeld.2.2⟩
            try simp only [Act.put]
            refine wpAnyH_done (by kernel_rfl) ?_ _
            go_wp2
            refine ⟨by simp, .inl ⟨_, _, rfl, run_takeDeferred (FIN.out nq).2.2.2, ?_⟩⟩
            exact ⟨_, results_cell_bool rfl _ _ (w.heap.size + 1) true rfl (FIN.out nq).2.2.1, rfl, (FIN.out nq).2.1⟩
end Go.Proofs.Ytaakdnbaljoehaa
