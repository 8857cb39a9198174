/- The statement CodecWrites: the walk. -/
import Derived.Test.YtfdlgiomnmnhgaaDoorSteps
import Derived.Test.YtfdlgiomnmnhgaaDoorRefM
import Derived.Test.YtfdlgiomnmnhgaaDoorRefP
import Derived.Test.YtfdlgiomnmnhgaaDoorRefSp
import Derived.Test.YtfdlgiomnmnhgaaDoorPuts
import Derived.Test.YtfdlgiomnmnhgaaDoorKnownC
import Derived.Test.YtfdlgiomnmnhgaaDoorInj
import Derived.Laws.Tables
namespace Go.Proofs.YtfdlgiomnmnhgaaDoor
open Go.RowKit Cod
set_option linter.unusedVariables false

/-- A row of bytes that came of a call, later on. -/
theorem text_later {w w' : World} {a : Option Addr} {n c : Nat} {L : List (BitVec 8)} (h : Seen w a n L) (hb : Below w.heap.size w w') : (convert 22 9 (.slice a n c)).run Tryd.prog w' = .ok (.string (textOf L)) w' := run_to_text w' a n c L (h.below hb)
theorem op_le2 (o : OpD) (ho : o.ok) (h : o.size ≤ 1099511627776) : o.bytes.length ≤ o.size + 70 := by
  simp only [OpD.size] at h
  have e1 := enc_ten (zig_lt o.kind ho.kind)
  have e2 := sz_le o.src (by omega)
  have e3 := sz_le o.dst (by omega)
  have e4 := enc_ten (zig_lt o.amount ho.amount)
  have e5 := sz_le o.key (by omega)
  have e6 := enc_ten (zig_lt o.slot ho.slot)
  have e7 := enc_ten (zig_lt o.shard ho.shard)
  simp only [OpD.bytes, List.length_append, OpD.size]
  omega
theorem reply_le2 {y m : Int} {A : List (ByteArray × Int)} (hy : i64ok y) (hm : i64ok m) (hA : ∀ r ∈ A, i64ok r.2) (hl : A.length < 18446744073709551616) (h : rowsSize A ≤ 1099511627776) : (replyB y m A).length ≤ rowsSize A + 30 := by
  have e1 := enc_ten (zig_lt y hy)
  have e2 := enc_ten (zig_lt m hm)
  have e3 := enc_ten hl
  have e4 := rowsB_le A (fun r hr => ⟨hA r hr, by have := rowsSize_mem hr; omega⟩)
  simp only [replyB, List.length_append]
  omega
set_option maxRecDepth 100000 in
set_option maxHeartbeats 12800000 in
theorem writes_walk (ba : Option Addr) (bn bc : Nat) (l : List (BitVec 8)) (n : Nat) (i : Int) (s : ByteArray) (o : OpD) (ya ma : Int) (ra : Option Addr) (rn rc : Nat) (A : List (ByteArray × Int)) (h : HeadD) (ea : Option Addr) (en ec : Nat) (E : List (Int × List (BitVec 8))) (da : Option Addr) (dn dc : Nat) (D : List (BitVec 8)) (w : World) (hT : Tabs w)
    (hb : Seen w ba bn l) (hbn : ba = none → bc = 0) (hbl : bn ≤ 1099511627776) (hn : n < 18446744073709551616) (hi : i64ok i) (hs : s.size ≤ 1099511627776) (ho : o.ok) (hso : o.size ≤ 1099511627776) (hya : i64ok ya) (hma : i64ok ma) (hA : ∀ r ∈ A, i64ok r.2) (hRA : RowsAt w ra rn A) (hzA : rowsSize A ≤ 1099511627776)
    (hh : h.fine) (hE : ∀ e ∈ E, i64ok e.1) (hel : ∀ e ∈ E, e.2.length ≤ 140737488355328) (hEA : EntsAt w ea en E) (hEm : en ≤ 140737488355328) (hD : Seen w da dn D) (hdn : da = none → dc = 0) :
    Calls Tryd.prog 3 #[.slice ba bn bc, .int .u64 n, .int .i64 i, .string s, o.val, .agg #[.int .i64 ya, .int .i64 ma, .slice ra rn rc], h.val (.slice ea en ec) (.slice da dn dc)] w fun e w' => e = .returned (.bool true) ∧ Below w.heap.size w w' := by
  obtain rfl : bn = l.length := hb.1
  obtain rfl : rn = A.length := hRA.1
  obtain rfl : en = E.length := hEA.1
  obtain rfl : dn = D.length := hD.1
  generalize hw1 : ((w.alloc (.cells #[.int .i64 o.kind, .string o.src, .string o.dst, .int .i64 o.amount, .string o.key, .int .i64 o.slot, .int .i64 o.shard] 25)).alloc (.cells #[.int .i64 ya, .int .i64 ma, .slice ra A.length rc] 29)).alloc (.cells #[.int .i64 h.kind, .int .i64 h.group, .int .i64 h.src, .int .i64 h.dst, .int .i64 h.term, .int .i64 h.index, .int .i64 h.logTerm, .int .i64 h.commit, .bool h.ok, .slice ea E.length ec, .slice da D.length dc] 32) = w1
  have b1 : Below w.heap.size w w1 := by rw [← hw1]; exact (((Below.refl _ w).alloc (Nat.le_refl _) _).alloc (by simp) _).alloc (by simp <;> omega) _
  have x0 : w1.heap[w.heap.size]? = some (.cells #[.int .i64 o.kind, .string o.src, .string o.dst, .int .i64 o.amount, .string o.key, .int .i64 o.slot, .int .i64 o.shard] 25 (0, 0)) := by
    rw [← hw1, Below.heap_alloc _ _ _ (by simp <;> omega), Below.heap_alloc _ _ _ (by simp)]; exact heap_alloc_new w _
  have x1 : w1.heap[w.heap.size + 1]? = some (.cells #[.int .i64 ya, .int .i64 ma, .slice ra A.length rc] 29 (0, 0)) := by
    rw [← hw1, Below.heap_alloc _ _ _ (by simp)]; exact heap_alloc2_new w _ _
  have x2 : w1.heap[w.heap.size + 2]? = some (.cells #[.int .i64 h.kind, .int .i64 h.group, .int .i64 h.src, .int .i64 h.dst, .int .i64 h.term, .int .i64 h.index, .int .i64 h.logTerm, .int .i64 h.commit, .bool h.ok, .slice ea E.length ec, .slice da D.length dc] 32 (0, 0)) := by
    have := heap_alloc_new ((w.alloc (.cells #[.int .i64 o.kind, .string o.src, .string o.dst, .int .i64 o.amount, .string o.key, .int .i64 o.slot, .int .i64 o.shard] 25)).alloc (.cells #[.int .i64 ya, .int .i64 ma, .slice ra A.length rc] 29)) (.cells #[.int .i64 h.kind, .int .i64 h.group, .int .i64 h.src, .int .i64 h.dst, .int .i64 h.term, .int .i64 h.index, .int .i64 h.logTerm, .int .i64 h.commit, .bool h.ok, .slice ea E.length ec, .slice da D.length dc] 32)
    rw [hw1] at this
    simpa using this
  have X0 : Hid (∀ w', Below w1.heap.size w1 w' → w'.heap[w.heap.size]? = some (.cells #[.int .i64 o.kind, .string o.src, .string o.dst, .int .i64 o.amount, .string o.key, .int .i64 o.slot, .int .i64 o.shard] 25 (0, 0))) := fun w' hb => (hb.block _ (Array.getElem?_eq_some_iff.1 x0).1).trans x0
  have X1 : Hid (∀ w', Below w1.heap.size w1 w' → w'.heap[w.heap.size + 1]? = some (.cells #[.int .i64 ya, .int .i64 ma, .slice ra A.length rc] 29 (0, 0))) := fun w' hb => (hb.block _ (Array.getElem?_eq_some_iff.1 x1).1).trans x1
  have X2 : Hid (∀ w', Below w1.heap.size w1 w' → w'.heap[w.heap.size + 2]? = some (.cells #[.int .i64 h.kind, .int .i64 h.group, .int .i64 h.src, .int .i64 h.dst, .int .i64 h.term, .int .i64 h.index, .int .i64 h.logTerm, .int .i64 h.commit, .bool h.ok, .slice ea E.length ec, .slice da D.length dc] 32 (0, 0))) := fun w' hb => (hb.block _ (Array.getElem?_eq_some_iff.1 x2).1).trans x2
  have HW : Hid _ := hw1
  have B1 : Hid (Below w.heap.size w w1) := b1
  have HT : Hid (Tabs w1) := hT.below b1 hT.size
  have SB : Hid (∀ w', Below w1.heap.size w1 w' → Seen w' ba l.length l) := fun w' hb' => (hb.below b1).below hb'
  have NB : Hid _ := hbn
  have HBL : Hid (l.length ≤ 1099511627776) := hbl
  have HN : Hid _ := hn
  have HI : Hid _ := hi
  have HS : Hid (s.size ≤ 1099511627776) := hs
  have HO : Hid o.ok := ho
  have HSO : Hid (o.size ≤ 1099511627776) := hso
  have PA : Hid (∀ w' a' n' c' L', Below w1.heap.size w1 w' → Seen w' a' n' L' → (a' = none → c' = 0) → n' ≤ 1099511627776 → Calls Tryd.prog 23 #[.slice a' n' c', .agg #[.int .i64 ya, .int .i64 ma, .slice ra A.length rc]] w' fun e w'' => ∃ v', e = .returned v' ∧ w''.ownsRow w'.heap.size 5 1 v' (n' + (replyB ya ma A).length) (cellsOf (L' ++ replyB ya ma A)) ∧ Below w'.heap.size w' w'') := fun w' a' n' c' L' hb' hs' hn' hl' => putReply_any a' n' c' L' ya ma ra A.length rc A hya hma hA w' hs' hn' ((hRA.below b1).below hb') (by omega)
  have PR : Hid (∀ w' a' n' c' L', Below w1.heap.size w1 w' → Seen w' a' n' L' → (a' = none → c' = 0) → n' ≤ 1099511627776 → Calls Tryd.prog 24 #[.slice a' n' c', .agg #[.int .i64 ya, .int .i64 ma, .slice ra A.length rc]] w' fun e w'' => ∃ v', e = .returned v' ∧ w''.ownsRow w'.heap.size 5 1 v' (n' + (replyB ya ma A).length) (cellsOf (L' ++ replyB ya ma A)) ∧ Below w'.heap.size w' w'') := fun w' a' n' c' L' hb' hs' hn' hl' => refPutReply_any a' n' c' L' ya ma ra A.length rc A hya hma hA w' hs' hn' ((hRA.below b1).below hb') (by omega)
  have MA : Hid (∀ w', Below w1.heap.size w1 w' → Calls Tryd.prog 12 #[.agg #[.int .i64 h.kind, .int .i64 h.group, .int .i64 h.src, .int .i64 h.dst, .int .i64 h.term, .int .i64 h.index, .int .i64 h.logTerm, .int .i64 h.commit, .bool h.ok, .slice ea E.length ec, .slice da D.length dc]] w' fun e w'' => MsgTold w' w'' h E D e ∧ Below w'.heap.size w' w'') := fun w' hb' => msg_any h hh ea E.length ec E hE da D.length dc D w' ((hEA.below b1).below hb') ((hD.below b1).below hb') hdn
  have MR : Hid (∀ w', Below w1.heap.size w1 w' → Calls Tryd.prog 13 #[.agg #[.int .i64 h.kind, .int .i64 h.group, .int .i64 h.src, .int .i64 h.dst, .int .i64 h.term, .int .i64 h.index, .int .i64 h.logTerm, .int .i64 h.commit, .bool h.ok, .slice ea E.length ec, .slice da D.length dc]] w' fun e w'' => MsgTold w' w'' h E D e ∧ Below w'.heap.size w' w'') := fun w' hb' => refMsg_any h hh ea E.length ec E hE hel da D.length dc D w' ((hEA.below b1).below hb') hEm ((hD.below b1).below hb') hdn
  have KN : Hid (∀ w', Below w1.heap.size w1 w' → Calls Tryd.prog 27 #[] w' fun e w'' => e = .returned (.bool true) ∧ Below w1.heap.size w1 w'') := fun w' hb' => known_later hb' HT.out
  have ZN := enc_ten hn
  have ZI := enc_ten (zig_lt i hi)
  have ZS := sz_le s (by omega)
  have ZO := op_le2 o ho hso
  have ZR := reply_le2 hya hma hA (by have := hRA.2.1; omega) hzA
  have LN : Hid (l.length + (enc n).length ≤ 140737488355327) := by show _ ≤ _; omega
  have LI : Hid (l.length + (enc (zig i)).length ≤ 140737488355327) := by show _ ≤ _; omega
  have LS : Hid (l.length + (sz (bytesL s)).length ≤ 140737488355327) := by show _ ≤ _; omega
  have LO : Hid (l.length + o.bytes.length ≤ 140737488355327) := by show _ ≤ _; omega
  have LR : Hid (l.length + (replyB ya ma A).length ≤ 140737488355327) := by show _ ≤ _; omega
  have hsz1 : w1.heap.size = w.heap.size + 3 := by rw [← hw1]; simp
  clear hT hb hbn hbl hn hi hs ho hso hya hma hA hRA hzA hh hE hel hEA hEm hD hdn hw1 b1 x0 x1 x2 ZN ZI ZS ZO ZR
  show Calls Tryd.prog 3 #[.slice ba l.length bc, .int .u64 n, .int .i64 i, .string s, .agg #[.int .i64 o.kind, .string o.src, .string o.dst, .int .i64 o.amount, .string o.key, .int .i64 o.slot, .int .i64 o.shard], .agg #[.int .i64 ya, .int .i64 ma, .slice ra A.length rc], .agg #[.int .i64 h.kind, .int .i64 h.group, .int .i64 h.src, .int .i64 h.dst, .int .i64 h.term, .int .i64 h.index, .int .i64 h.logTerm, .int .i64 h.commit, .bool h.ok, .slice ea E.length ec, .slice da D.length dc]] w _
  go_enter Tryd.func3, Tryd.ntmps3
  go_wp2_with fail
  rw [HW.out]
  refine (lent_any ba l.length bc l w1 (SB.out w1 (Below.refl _ _)) NB.out (by have := HBL.out; omega)).mono ?_
  rintro e u1 ⟨g, oc, rfl, ow, bu1⟩
  have OW : Hid (u1.ownsRow w1.heap.size 5 1 (.slice (some ⟨g, 0, none⟩) (l.length + 1) oc) (l.length + 1) (cellsOf (l ++ [167#8]))) := ow
  have U1 : Hid (Below w1.heap.size w1 u1) := bu1
  have SO : Hid (∀ w', Below u1.heap.size u1 w' → Seen w' (some ⟨g, 0, none⟩) l.length l) := fun w' hb' => by
    obtain ⟨a', c', e', s', _, _⟩ := owned_seen ow (by have := HBL.out; unfold maxLen; omega)
    cases e'
    have h2 := (s'.below hb').take l.length (by simp)
    rwa [List.take_left] at h2
  have NO : Hid ((some (⟨g, 0, none⟩ : Addr) = none) → oc = 0) := fun e => by cases e
  clear ow bu1
  go_wp2_with fail
  refine (uint_any (some ⟨g, 0, none⟩) l.length oc l n HN.out u1 (SO.out u1 (Below.refl _ _)) NO.out (by have := HBL.out; omega)).mono ?_
  rintro e u2 ⟨xv, rfl, ox, bu2⟩
  obtain ⟨lx, hlx⟩ : ∃ lx, l.length + (enc n).length = lx := ⟨_, rfl⟩
  rw [hlx] at ox LN
  obtain ⟨xa, xc, rfl, sx, nx, _⟩ := owned_seen ox (by have := LN.out; unfold maxLen; omega)
  have OX : Hid (u2.ownsRow u1.heap.size 5 1 (.slice xa lx xc) lx (cellsOf (l ++ enc n))) := ox
  have SX : Hid (Seen u2 xa lx (l ++ enc n)) := sx
  have D2 : Hid (Below u1.heap.size u1 u2) := bu2
  clear ox sx nx bu2
  have D12 : Hid (u1.heap.size ≤ u2.heap.size) := D2.out.size
  have B2 : Hid (Below w1.heap.size w1 u2) := U1.out.trans (D2.out.mono U1.out.size)
  go_wp2_with (first
    | (refine wpList_load_row rfl 25 (.tmp 11) rfl w.heap.size rfl 25 _ (0, 0) _ (X0.out u2 B2.out) Tryd.underlying25 rfl (by kernel_rfl) ?_))
  refine (putOp_any (some ⟨g, 0, none⟩) l.length oc l o HO.out u2 (SO.out u2 D2.out) NO.out (by have := HBL.out; have := HSO.out; omega)).mono ?_
  rintro e u3 ⟨yv, rfl, oy, bu3⟩
  obtain ⟨ly, hly⟩ : ∃ ly, l.length + o.bytes.length = ly := ⟨_, rfl⟩
  rw [hly] at oy LO
  obtain ⟨ya', yc, rfl, sy, ny, _⟩ := owned_seen oy (by have := LO.out; unfold maxLen; omega)
  have OY : Hid (u3.ownsRow u2.heap.size 5 1 (.slice ya' ly yc) ly (cellsOf (l ++ o.bytes))) := oy
  have SY : Hid (Seen u3 ya' ly (l ++ o.bytes)) := sy
  have D3 : Hid (Below u2.heap.size u2 u3) := bu3
  clear oy sy ny bu3
  have B3 : Hid (Below w1.heap.size w1 u3) := B2.out.trans (D3.out.mono B2.out.size)
  go_wp2_with (first
    | (refine wpList_load_row rfl 32 (.tmp 13) rfl (w.heap.size + 2) rfl 32 _ (0, 0) _ (X2.out u3 B3.out) Tryd.underlying32 rfl (by kernel_rfl) ?_))
  refine (MA.out u3 B3.out).mono ?_
  rintro e u4 ⟨t4, bu4⟩
  obtain ⟨za, zn, zc, zl, er, rfl, sz4, F4⟩ : ∃ (za : Option Addr) (zn zc : Nat) (zl : List (BitVec 8)) (er : Int), e = .returned (.tuple #[.slice za zn zc, .int .i64 er]) ∧ Hid (Seen u4 za zn zl) ∧ Hid ((msgFits h E D ∧ zl = msgB h E D ∧ er = 0) ∨ (¬ msgFits h E D ∧ zl = [] ∧ er = 3)) := by
    rcases t4 with ⟨f, v, rfl, ov⟩ | ⟨f, rfl⟩
    · obtain ⟨a', c', rfl, s', _, _⟩ := owned_seen ov (by have := f.2.2.2; unfold maxLen; omega)
      exact ⟨a', _, c', _, 0, rfl, s', .inl ⟨f, rfl, rfl⟩⟩
    · exact ⟨none, 0, 0, [], 3, rfl, ⟨rfl, by simp, .inl rfl⟩, .inr ⟨f, rfl, rfl⟩⟩
  have D4 : Hid (Below u3.heap.size u3 u4) := bu4
  clear t4 bu4
  have B4 : Hid (Below w1.heap.size w1 u4) := B3.out.trans (D4.out.mono B3.out.size)
  go_wp2_with (first
    | (refine wpList_load_row rfl 32 (.tmp 13) rfl (w.heap.size + 2) rfl 32 _ (0, 0) _ (X2.out u4 B4.out) Tryd.underlying32 rfl (by kernel_rfl) ?_))
  refine (MR.out u4 B4.out).mono ?_
  rintro e u5 ⟨t5, bu5⟩
  obtain ⟨va, vn, vc, rfl, sv5⟩ : ∃ (va : Option Addr) (vn vc : Nat), e = .returned (.tuple #[.slice va vn vc, .int .i64 er]) ∧ Hid (Seen u5 va vn zl) := by
    rcases t5 with ⟨f, v, rfl, ov⟩ | ⟨f, rfl⟩
    · rcases F4.out with ⟨_, rfl, rfl⟩ | ⟨f', _⟩
      · obtain ⟨a', c', rfl, s', _, _⟩ := owned_seen ov (by have := f.2.2.2; unfold maxLen; omega)
        exact ⟨a', _, c', rfl, s'⟩
      · exact absurd f f'
    · rcases F4.out with ⟨f', _⟩ | ⟨_, rfl, rfl⟩
      · exact absurd f' f
      · exact ⟨none, 0, 0, rfl, ⟨rfl, by simp, .inl rfl⟩⟩
  have D5 : Hid (Below u4.heap.size u4 u5) := bu5
  clear t5 bu5 F4 MA MR X2
  go_wp2_with fail
  have B5 : Hid (Below w1.heap.size w1 u5.drew) := Below.drew (B4.out.trans (D5.out.mono B4.out.size))
  have E2 : Hid (Below u2.heap.size u2 u5.drew) := Below.drew (D3.out.trans ((D4.out.trans (D5.out.mono D4.out.size)).mono D3.out.size))
  have E1 : Hid (Below u1.heap.size u1 u5.drew) := D2.out.trans (E2.out.mono D2.out.size)
  have E3 : Hid (Below u3.heap.size u3 u5.drew) := Below.drew (D4.out.trans (D5.out.mono D4.out.size))
  have E4 : Hid (Below u4.heap.size u4 u5.drew) := Below.drew D5.out
  have E5 : Hid (Below u5.heap.size u5 u5.drew) := Below.drew (Below.refl _ u5)
  obtain ⟨U, hU⟩ : ∃ U, u5.drew = U := ⟨_, rfl⟩
  rw [hU] at B5 E1 E2 E3 E4 E5
  have TX : Hid (∀ w', Below U.heap.size U w' → (convert 22 9 (.slice xa lx xc)).run Tryd.prog w' = .ok (.string (textOf (l ++ enc n))) w') := fun w' hb' => text_later SX.out (E2.out.trans (hb'.mono E2.out.size))
  have TY : Hid (∀ w', Below U.heap.size U w' → (convert 22 9 (.slice ya' ly yc)).run Tryd.prog w' = .ok (.string (textOf (l ++ o.bytes))) w') := fun w' hb' => text_later SY.out (E3.out.trans (hb'.mono E3.out.size))
  have TZ : Hid (∀ w', Below U.heap.size U w' → (convert 22 9 (.slice za zn zc)).run Tryd.prog w' = .ok (.string (textOf zl)) w') := fun w' hb' => text_later sz4.out (E4.out.trans (hb'.mono E4.out.size))
  have TV : Hid (∀ w', Below U.heap.size U w' → (convert 22 9 (.slice va vn vc)).run Tryd.prog w' = .ok (.string (textOf zl)) w') := fun w' hb' => text_later sv5.out (E5.out.trans (hb'.mono E5.out.size))
  have OB : Hid (∀ w', Below U.heap.size U w' → Seen w' (some ⟨g, 0, none⟩) l.length l) := fun w' hb' => SO.out w' (E1.out.trans (hb'.mono E1.out.size))
  have BB : Hid (∀ w', Below U.heap.size U w' → Below w1.heap.size w1 w') := fun w' hb' => B5.out.trans (hb'.mono B5.out.size)
  obtain ⟨q, hq⟩ : ∃ q : Bool, ((n : Int).tmod 2 == 1) = q := ⟨_, rfl⟩
  have hss : ∀ T : ByteArray, (T.toList == T.toList) = true := fun T => by simp
  clear D2 D3 D4 D5 B2 B3 B4 sz4 sv5 SX SY
  refine wp_region_held_drew (S := fun w' => Below U.heap.size U w') (by kernel_rfl) (by show Below U.heap.size U u5.drew; rw [hU]; exact Below.refl _ _) (fun hHeld => ?_)
  rw [hU] at hHeld ⊢
  clear hU
  refine take_run (i := 0) (oi := { dst := some 40, op := Go.Op.move (Go.Operand.tmp 16), type := 22, pos := "law.go:27", after := #[], guard := none }) (v := ?_) rfl (by kernel_rfl) (by kernel_rfl) (by kernel_rfl) (fun _ _ _ h => h) (by rfl) ?_ hHeld ?_
  rotate_left
  · (intro wq hSw; go_simp <;> with_reducible rfl)
  try simp only [Act.put, List.setIfInBounds_toArray, List.set_cons_zero, List.set_cons_succ]
  refine take_text (i := 1) (oi := { dst := some 41, op := Go.Op.convert 22 9 (Go.Operand.tmp 40), type := 9, pos := "law.go:27", after := #[{ on := 0, ground := Go.Ground.data }], guard := none }) rfl (by kernel_rfl) (by kernel_rfl) (by kernel_rfl) 22 9 (.tmp 40) _ _ (fun _ _ _ h => h) (by rfl) rfl rfl TX.out hHeld ?_
  try simp only [Act.put, List.setIfInBounds_toArray, List.set_cons_zero, List.set_cons_succ]
  refine take_run (i := 2) (oi := { dst := some 42, op := Go.Op.move (Go.Operand.tmp 0), type := 22, pos := "law.go:27", after := #[], guard := none }) (v := ?_) rfl (by kernel_rfl) (by kernel_rfl) (by kernel_rfl) (fun _ _ _ h => h) (by rfl) ?_ hHeld ?_
  rotate_left
  · (intro wq hSw; go_simp <;> with_reducible rfl)
  try simp only [Act.put, List.setIfInBounds_toArray, List.set_cons_zero, List.set_cons_succ]
  refine take_run (i := 3) (oi := { dst := some 43, op := Go.Op.move (Go.Operand.tmp 1), type := 23, pos := "law.go:27", after := #[], guard := none }) (v := ?_) rfl (by kernel_rfl) (by kernel_rfl) (by kernel_rfl) (fun _ _ _ h => h) (by rfl) ?_ hHeld ?_
  rotate_left
  · (intro wq hSw; go_simp <;> with_reducible rfl)
  try simp only [Act.put, List.setIfInBounds_toArray, List.set_cons_zero, List.set_cons_succ]
  refine take_call (i := 4) (oi := { dst := some 44, op := Go.Op.call { callee := Go.Callee.value (Go.Operand.func 14), args := #[Go.Operand.tmp 42, Go.Operand.tmp 43], argTypes := #[22, 23] }, type := 22, pos := "law.go:27", after := #[{ on := 2, ground := Go.Ground.data }, { on := 3, ground := Go.Ground.data }], guard := none }) rfl (by kernel_rfl) (by rfl) 14 _ (by go_simp <;> with_reducible rfl) ?_
  refine (refUint_any ba l.length bc l n HN.out U (SB.out _ (BB.out _ (Below.refl _ _))) NB.out (by have := HBL.out; omega)).mono ?_
  rintro e y1 ⟨v, rfl, ov, bk1⟩
  obtain ⟨n1, hn1⟩ : ∃ nn, l.length + (enc n).length = nn := ⟨_, rfl⟩
  rw [show l.length + (enc n).length = n1 from hn1] at ov
  obtain ⟨a1, c1, rfl, s1, _, _⟩ := owned_seen ov (by have := LN.out; unfold maxLen; omega)
  have Z1 : Below U.heap.size U y1 := bk1
  have TT : Hid (∀ w', Below y1.heap.size y1 w' → (convert 22 9 (.slice a1 n1 c1)).run Tryd.prog w' = .ok (.string (textOf (l ++ enc n))) w') := fun w' hb' => text_later s1 hb'
  refine ⟨_, rfl, bk1, held_more (S' := fun w' => Below y1.heap.size y1 w') (fun w' h => bk1.trans (h.mono bk1.size)) _ _ _ _ ?_⟩
  try simp only [Act.put, List.setIfInBounds_toArray, List.set_cons_zero, List.set_cons_succ]
  have hh1 : Below y1.heap.size y1 y1 := Below.refl _ _
  clear ov s1 hn1
  refine take_text (i := 5) (oi := { dst := some 45, op := Go.Op.convert 22 9 (Go.Operand.tmp 44), type := 9, pos := "law.go:27", after := #[{ on := 4, ground := Go.Ground.data }], guard := none }) rfl (by kernel_rfl) (by kernel_rfl) (by kernel_rfl) 22 9 (.tmp 44) _ _ (fun _ _ _ h => h) (by rfl) rfl rfl TT.out hh1 ?_
  try simp only [Act.put, List.setIfInBounds_toArray, List.set_cons_zero, List.set_cons_succ]
  clear TT
  refine take_run (i := 6) (oi := { dst := some 46, op := Go.Op.binOp Go.BinOp.neq 9 (Go.Operand.tmp 41) (Go.Operand.tmp 45) 9, type := 4, pos := "law.go:27", after := #[{ on := 1, ground := Go.Ground.data }, { on := 5, ground := Go.Ground.data }], guard := none }) (v := ?_) rfl (by kernel_rfl) (by kernel_rfl) (by kernel_rfl) (fun _ _ _ h => h) (by rfl) ?_ hh1 ?_
  rotate_left
  · (intro wq hSw; go_simp <;> with_reducible rfl)
  try simp only [Act.put, List.setIfInBounds_toArray, List.set_cons_zero, List.set_cons_succ]
  refine take_run (i := 7) (oi := { dst := some 47, op := Go.Op.move (Go.Operand.tmp 46), type := 4, pos := "law.go:27", after := #[{ on := 6, ground := Go.Ground.data }, { on := 4, ground := Go.Ground.chain }], guard := none }) (v := ?_) rfl (by kernel_rfl) (by kernel_rfl) (by kernel_rfl) (fun _ _ _ h => h) (by rfl) ?_ hh1 ?_
  rotate_left
  · (intro wq hSw; go_simp <;> with_reducible rfl)
  try simp only [Act.put, List.setIfInBounds_toArray, List.set_cons_zero, List.set_cons_succ]
  refine take_run (i := 8) (oi := { dst := some 48, op := Go.Op.move (Go.Operand.tmp 15), type := 22, pos := "law.go:27", after := #[{ on := 7, ground := Go.Ground.guard }], guard := some (7, false) }) (v := ?_) rfl (by kernel_rfl) (by kernel_rfl) (by kernel_rfl) (fun _ _ _ h => h) (by rfl) ?_ hh1 ?_
  rotate_left
  · (intro wq hSw; go_simp <;> with_reducible rfl)
  try simp only [Act.put, List.setIfInBounds_toArray, List.set_cons_zero, List.set_cons_succ]
  refine take_run (i := 9) (oi := { dst := some 49, op := Go.Op.move (Go.Operand.tmp 2), type := 2, pos := "law.go:27", after := #[{ on := 7, ground := Go.Ground.guard }], guard := some (7, false) }) (v := ?_) rfl (by kernel_rfl) (by kernel_rfl) (by kernel_rfl) (fun _ _ _ h => h) (by rfl) ?_ hh1 ?_
  rotate_left
  · (intro wq hSw; go_simp <;> with_reducible rfl)
  try simp only [Act.put, List.setIfInBounds_toArray, List.set_cons_zero, List.set_cons_succ]
  refine take_run (i := 12) (oi := { dst := some 52, op := Go.Op.move (Go.Operand.tmp 0), type := 22, pos := "law.go:27", after := #[{ on := 7, ground := Go.Ground.guard }], guard := some (7, false) }) (v := ?_) rfl (by kernel_rfl) (by kernel_rfl) (by kernel_rfl) (fun _ _ _ h => h) (by rfl) ?_ hh1 ?_
  rotate_left
  · (intro wq hSw; go_simp <;> with_reducible rfl)
  try simp only [Act.put, List.setIfInBounds_toArray, List.set_cons_zero, List.set_cons_succ]
  refine take_run (i := 13) (oi := { dst := some 53, op := Go.Op.move (Go.Operand.tmp 2), type := 2, pos := "law.go:27", after := #[{ on := 7, ground := Go.Ground.guard }], guard := some (7, false) }) (v := ?_) rfl (by kernel_rfl) (by kernel_rfl) (by kernel_rfl) (fun _ _ _ h => h) (by rfl) ?_ hh1 ?_
  rotate_left
  · (intro wq hSw; go_simp <;> with_reducible rfl)
  try simp only [Act.put, List.setIfInBounds_toArray, List.set_cons_zero, List.set_cons_succ]
  refine take_call (i := 10) (oi := { dst := some 50, op := Go.Op.call { callee := Go.Callee.value (Go.Operand.func 15), args := #[Go.Operand.tmp 48, Go.Operand.tmp 49], argTypes := #[22, 2] }, type := 22, pos := "law.go:27", after := #[{ on := 8, ground := Go.Ground.data }, { on := 9, ground := Go.Ground.data }, { on := 7, ground := Go.Ground.chain }, { on := 7, ground := Go.Ground.guard }], guard := some (7, false) }) rfl (by kernel_rfl) (by rfl) 15 _ (by go_simp <;> with_reducible rfl) ?_
  refine (int_any (some ⟨g, 0, none⟩) l.length oc l i HI.out y1 (OB.out _ Z1) NO.out (by have := HBL.out; omega)).mono ?_
  rintro e y2 ⟨v, rfl, ov, bk2⟩
  obtain ⟨n2, hn2⟩ : ∃ nn, l.length + (enc (zig i)).length = nn := ⟨_, rfl⟩
  rw [show l.length + (enc (zig i)).length = n2 from hn2] at ov
  obtain ⟨a2, c2, rfl, s2, _, _⟩ := owned_seen ov (by have := LI.out; unfold maxLen; omega)
  have Z2 : Below U.heap.size U y2 := Z1.trans (bk2.mono Z1.size)
  have TT : Hid (∀ w', Below y2.heap.size y2 w' → (convert 22 9 (.slice a2 n2 c2)).run Tryd.prog w' = .ok (.string (textOf (l ++ enc (zig i)))) w') := fun w' hb' => text_later s2 hb'
  refine ⟨_, rfl, bk2, held_more (S' := fun w' => Below y2.heap.size y2 w') (fun w' h => bk2.trans (h.mono bk2.size)) _ _ _ _ ?_⟩
  try simp only [Act.put, List.setIfInBounds_toArray, List.set_cons_zero, List.set_cons_succ]
  have hh2 : Below y2.heap.size y2 y2 := Below.refl _ _
  clear ov s2 hn2
  refine take_text (i := 11) (oi := { dst := some 51, op := Go.Op.convert 22 9 (Go.Operand.tmp 50), type := 9, pos := "law.go:27", after := #[{ on := 10, ground := Go.Ground.data }, { on := 7, ground := Go.Ground.guard }], guard := some (7, false) }) rfl (by kernel_rfl) (by kernel_rfl) (by kernel_rfl) 22 9 (.tmp 50) _ _ (fun _ _ _ h => h) (by rfl) rfl rfl TT.out hh2 ?_
  try simp only [Act.put, List.setIfInBounds_toArray, List.set_cons_zero, List.set_cons_succ]
  clear TT
  refine take_call (i := 14) (oi := { dst := some 54, op := Go.Op.call { callee := Go.Callee.value (Go.Operand.func 16), args := #[Go.Operand.tmp 52, Go.Operand.tmp 53], argTypes := #[22, 2] }, type := 22, pos := "law.go:27", after := #[{ on := 12, ground := Go.Ground.data }, { on := 13, ground := Go.Ground.data }, { on := 10, ground := Go.Ground.chain }, { on := 7, ground := Go.Ground.guard }], guard := some (7, false) }) rfl (by kernel_rfl) (by rfl) 16 _ (by go_simp <;> with_reducible rfl) ?_
  refine (refInt_any ba l.length bc l i HI.out y2 (SB.out _ (BB.out _ Z2)) NB.out (by have := HBL.out; omega)).mono ?_
  rintro e y3 ⟨v, rfl, ov, bk3⟩
  obtain ⟨n3, hn3⟩ : ∃ nn, l.length + (enc (zig i)).length = nn := ⟨_, rfl⟩
  rw [show l.length + (enc (zig i)).length = n3 from hn3] at ov
  obtain ⟨a3, c3, rfl, s3, _, _⟩ := owned_seen ov (by have := LI.out; unfold maxLen; omega)
  have Z3 : Below U.heap.size U y3 := Z2.trans (bk3.mono Z2.size)
  have TT : Hid (∀ w', Below y3.heap.size y3 w' → (convert 22 9 (.slice a3 n3 c3)).run Tryd.prog w' = .ok (.string (textOf (l ++ enc (zig i)))) w') := fun w' hb' => text_later s3 hb'
  refine ⟨_, rfl, bk3, held_more (S' := fun w' => Below y3.heap.size y3 w') (fun w' h => bk3.trans (h.mono bk3.size)) _ _ _ _ ?_⟩
  try simp only [Act.put, List.setIfInBounds_toArray, List.set_cons_zero, List.set_cons_succ]
  have hh3 : Below y3.heap.size y3 y3 := Below.refl _ _
  clear ov s3 hn3
  refine take_text (i := 15) (oi := { dst := some 55, op := Go.Op.convert 22 9 (Go.Operand.tmp 54), type := 9, pos := "law.go:27", after := #[{ on := 14, ground := Go.Ground.data }, { on := 7, ground := Go.Ground.guard }], guard := some (7, false) }) rfl (by kernel_rfl) (by kernel_rfl) (by kernel_rfl) 22 9 (.tmp 54) _ _ (fun _ _ _ h => h) (by rfl) rfl rfl TT.out hh3 ?_
  try simp only [Act.put, List.setIfInBounds_toArray, List.set_cons_zero, List.set_cons_succ]
  clear TT
  refine take_run (i := 16) (oi := { dst := some 56, op := Go.Op.binOp Go.BinOp.neq 9 (Go.Operand.tmp 51) (Go.Operand.tmp 55) 9, type := 4, pos := "law.go:27", after := #[{ on := 11, ground := Go.Ground.data }, { on := 15, ground := Go.Ground.data }, { on := 7, ground := Go.Ground.guard }], guard := some (7, false) }) (v := ?_) rfl (by kernel_rfl) (by kernel_rfl) (by kernel_rfl) (fun _ _ _ h => h) (by rfl) ?_ hh3 ?_
  rotate_left
  · (intro wq hSw; go_simp <;> with_reducible rfl)
  try simp only [Act.put, List.setIfInBounds_toArray, List.set_cons_zero, List.set_cons_succ]
  refine take_run (i := 17) (oi := { dst := some 57, op := Go.Op.pick (Go.Operand.tmp 47) (Go.Operand.const (Go.Value.bool true)) (Go.Operand.tmp 56), type := 4, pos := "law.go:27", after := #[{ on := 7, ground := Go.Ground.data }, { on := 16, ground := Go.Ground.data }], guard := none }) (v := ?_) rfl (by kernel_rfl) (by kernel_rfl) (by kernel_rfl) (fun _ _ _ h => h) (by rfl) ?_ hh3 ?_
  rotate_left
  · (intro wq hSw; go_simp <;> with_reducible rfl)
  try simp only [Act.put, List.setIfInBounds_toArray, List.set_cons_zero, List.set_cons_succ]
  refine take_run (i := 18) (oi := { dst := some 58, op := Go.Op.move (Go.Operand.tmp 57), type := 4, pos := "law.go:27", after := #[{ on := 17, ground := Go.Ground.data }, { on := 14, ground := Go.Ground.chain }], guard := none }) (v := ?_) rfl (by kernel_rfl) (by kernel_rfl) (by kernel_rfl) (fun _ _ _ h => h) (by rfl) ?_ hh3 ?_
  rotate_left
  · (intro wq hSw; go_simp <;> with_reducible rfl)
  try simp only [Act.put, List.setIfInBounds_toArray, List.set_cons_zero, List.set_cons_succ]
  refine take_run (i := 19) (oi := { dst := some 59, op := Go.Op.move (Go.Operand.tmp 15), type := 22, pos := "law.go:27", after := #[{ on := 18, ground := Go.Ground.guard }], guard := some (18, false) }) (v := ?_) rfl (by kernel_rfl) (by kernel_rfl) (by kernel_rfl) (fun _ _ _ h => h) (by rfl) ?_ hh3 ?_
  rotate_left
  · (intro wq hSw; go_simp <;> with_reducible rfl)
  try simp only [Act.put, List.setIfInBounds_toArray, List.set_cons_zero, List.set_cons_succ]
  refine take_run (i := 20) (oi := { dst := some 60, op := Go.Op.move (Go.Operand.tmp 3), type := 9, pos := "law.go:27", after := #[{ on := 18, ground := Go.Ground.guard }], guard := some (18, false) }) (v := ?_) rfl (by kernel_rfl) (by kernel_rfl) (by kernel_rfl) (fun _ _ _ h => h) (by rfl) ?_ hh3 ?_
  rotate_left
  · (intro wq hSw; go_simp <;> with_reducible rfl)
  try simp only [Act.put, List.setIfInBounds_toArray, List.set_cons_zero, List.set_cons_succ]
  refine take_run (i := 24) (oi := { dst := some 64, op := Go.Op.move (Go.Operand.tmp 0), type := 22, pos := "law.go:27", after := #[{ on := 18, ground := Go.Ground.guard }], guard := some (18, false) }) (v := ?_) rfl (by kernel_rfl) (by kernel_rfl) (by kernel_rfl) (fun _ _ _ h => h) (by rfl) ?_ hh3 ?_
  rotate_left
  · (intro wq hSw; go_simp <;> with_reducible rfl)
  try simp only [Act.put, List.setIfInBounds_toArray, List.set_cons_zero, List.set_cons_succ]
  refine take_run (i := 25) (oi := { dst := some 65, op := Go.Op.move (Go.Operand.tmp 3), type := 9, pos := "law.go:27", after := #[{ on := 18, ground := Go.Ground.guard }], guard := some (18, false) }) (v := ?_) rfl (by kernel_rfl) (by kernel_rfl) (by kernel_rfl) (fun _ _ _ h => h) (by rfl) ?_ hh3 ?_
  rotate_left
  · (intro wq hSw; go_simp <;> with_reducible rfl)
  try simp only [Act.put, List.setIfInBounds_toArray, List.set_cons_zero, List.set_cons_succ]
  obtain ⟨sc, y4, hcv, bk4, sk4⟩ := text_bytes y3 s (by have := HS.out; omega)
  refine take_make (i := 21) (oi := { dst := some 61, op := Go.Op.convert 9 22 (Go.Operand.tmp 60), type := 22, pos := "law.go:27", after := #[{ on := 20, ground := Go.Ground.data }, { on := 18, ground := Go.Ground.guard }], guard := some (18, false) }) rfl (by kernel_rfl) (by rfl) (by go_simp <;> with_reducible rfl) (show Below _ _ _ from bk4) ?_
  try simp only [Act.put, List.setIfInBounds_toArray, List.set_cons_zero, List.set_cons_succ]
  have Z4 : Below U.heap.size U y4 := Z3.trans (bk4.mono Z3.size)
  refine held_more (S' := fun w' => Below y4.heap.size y4 w') (fun w' h => bk4.trans (h.mono bk4.size)) _ _ _ _ ?_
  have hh4 : Below y4.heap.size y4 y4 := Below.refl _ _
  clear hcv
  refine take_call (i := 22) (oi := { dst := some 62, op := Go.Op.call { callee := Go.Callee.value (Go.Operand.func 17), args := #[Go.Operand.tmp 59, Go.Operand.tmp 61], argTypes := #[22, 22] }, type := 22, pos := "law.go:27", after := #[{ on := 19, ground := Go.Ground.data }, { on := 21, ground := Go.Ground.data }, { on := 18, ground := Go.Ground.chain }, { on := 18, ground := Go.Ground.guard }], guard := some (18, false) }) rfl (by kernel_rfl) (by rfl) 17 _ (by go_simp <;> with_reducible rfl) ?_
  refine (bytes_any (some ⟨g, 0, none⟩) l.length oc l (some ⟨y3.heap.size, 0, none⟩) s.size sc (bytesL s) y4 (OB.out _ Z4) NO.out sk4 (fun e => by cases e) (by have := HBL.out; have := HS.out; omega)).mono ?_
  rintro e y5 ⟨v, rfl, ov, bk5⟩
  obtain ⟨n5, hn5⟩ : ∃ nn, l.length + (sz (bytesL s)).length = nn := ⟨_, rfl⟩
  rw [show l.length + (sz (bytesL s)).length = n5 from hn5] at ov
  obtain ⟨a5, c5, rfl, s5, _, _⟩ := owned_seen ov (by have := LS.out; unfold maxLen; omega)
  have Z5 : Below U.heap.size U y5 := Z4.trans (bk5.mono Z4.size)
  have TT : Hid (∀ w', Below y5.heap.size y5 w' → (convert 22 9 (.slice a5 n5 c5)).run Tryd.prog w' = .ok (.string (textOf (l ++ sz (bytesL s)))) w') := fun w' hb' => text_later s5 hb'
  refine ⟨_, rfl, bk5, held_more (S' := fun w' => Below y5.heap.size y5 w') (fun w' h => bk5.trans (h.mono bk5.size)) _ _ _ _ ?_⟩
  try simp only [Act.put, List.setIfInBounds_toArray, List.set_cons_zero, List.set_cons_succ]
  have hh5 : Below y5.heap.size y5 y5 := Below.refl _ _
  clear ov s5 hn5
  refine take_text (i := 23) (oi := { dst := some 63, op := Go.Op.convert 22 9 (Go.Operand.tmp 62), type := 9, pos := "law.go:27", after := #[{ on := 22, ground := Go.Ground.data }, { on := 18, ground := Go.Ground.guard }], guard := some (18, false) }) rfl (by kernel_rfl) (by kernel_rfl) (by kernel_rfl) 22 9 (.tmp 62) _ _ (fun _ _ _ h => h) (by rfl) rfl rfl TT.out hh5 ?_
  try simp only [Act.put, List.setIfInBounds_toArray, List.set_cons_zero, List.set_cons_succ]
  clear TT
  refine take_call (i := 26) (oi := { dst := some 66, op := Go.Op.call { callee := Go.Callee.value (Go.Operand.func 18), args := #[Go.Operand.tmp 64, Go.Operand.tmp 65], argTypes := #[22, 9] }, type := 22, pos := "law.go:27", after := #[{ on := 24, ground := Go.Ground.data }, { on := 25, ground := Go.Ground.data }, { on := 22, ground := Go.Ground.chain }, { on := 18, ground := Go.Ground.guard }], guard := some (18, false) }) rfl (by kernel_rfl) (by rfl) 18 _ (by go_simp <;> with_reducible rfl) ?_
  refine (refText_any ba l.length bc l s y5 (SB.out _ (BB.out _ Z5)) NB.out (by have := HBL.out; have := HS.out; omega)).mono ?_
  rintro e y6 ⟨v, rfl, ov, bk6⟩
  obtain ⟨n6, hn6⟩ : ∃ nn, l.length + (sz (bytesL s)).length = nn := ⟨_, rfl⟩
  rw [show l.length + (sz (bytesL s)).length = n6 from hn6] at ov
  obtain ⟨a6, c6, rfl, s6, _, _⟩ := owned_seen ov (by have := LS.out; unfold maxLen; omega)
  have Z6 : Below U.heap.size U y6 := Z5.trans (bk6.mono Z5.size)
  have TT : Hid (∀ w', Below y6.heap.size y6 w' → (convert 22 9 (.slice a6 n6 c6)).run Tryd.prog w' = .ok (.string (textOf (l ++ sz (bytesL s)))) w') := fun w' hb' => text_later s6 hb'
  refine ⟨_, rfl, bk6, held_more (S' := fun w' => Below y6.heap.size y6 w') (fun w' h => bk6.trans (h.mono bk6.size)) _ _ _ _ ?_⟩
  try simp only [Act.put, List.setIfInBounds_toArray, List.set_cons_zero, List.set_cons_succ]
  have hh6 : Below y6.heap.size y6 y6 := Below.refl _ _
  clear ov s6 hn6
  refine take_text (i := 27) (oi := { dst := some 67, op := Go.Op.convert 22 9 (Go.Operand.tmp 66), type := 9, pos := "law.go:27", after := #[{ on := 26, ground := Go.Ground.data }, { on := 18, ground := Go.Ground.guard }], guard := some (18, false) }) rfl (by kernel_rfl) (by kernel_rfl) (by kernel_rfl) 22 9 (.tmp 66) _ _ (fun _ _ _ h => h) (by rfl) rfl rfl TT.out hh6 ?_
  try simp only [Act.put, List.setIfInBounds_toArray, List.set_cons_zero, List.set_cons_succ]
  clear TT
  refine take_run (i := 28) (oi := { dst := some 68, op := Go.Op.binOp Go.BinOp.neq 9 (Go.Operand.tmp 63) (Go.Operand.tmp 67) 9, type := 4, pos := "law.go:27", after := #[{ on := 23, ground := Go.Ground.data }, { on := 27, ground := Go.Ground.data }, { on := 18, ground := Go.Ground.guard }], guard := some (18, false) }) (v := ?_) rfl (by kernel_rfl) (by kernel_rfl) (by kernel_rfl) (fun _ _ _ h => h) (by rfl) ?_ hh6 ?_
  rotate_left
  · (intro wq hSw; go_simp <;> with_reducible rfl)
  try simp only [Act.put, List.setIfInBounds_toArray, List.set_cons_zero, List.set_cons_succ]
  refine take_run (i := 29) (oi := { dst := some 69, op := Go.Op.pick (Go.Operand.tmp 58) (Go.Operand.const (Go.Value.bool true)) (Go.Operand.tmp 68), type := 4, pos := "law.go:27", after := #[{ on := 18, ground := Go.Ground.data }, { on := 28, ground := Go.Ground.data }], guard := none }) (v := ?_) rfl (by kernel_rfl) (by kernel_rfl) (by kernel_rfl) (fun _ _ _ h => h) (by rfl) ?_ hh6 ?_
  rotate_left
  · (intro wq hSw; go_simp <;> with_reducible rfl)
  try simp only [Act.put, List.setIfInBounds_toArray, List.set_cons_zero, List.set_cons_succ]
  refine take_run (i := 30) (oi := { dst := some 70, op := Go.Op.move (Go.Operand.tmp 69), type := 4, pos := "law.go:27", after := #[{ on := 29, ground := Go.Ground.data }, { on := 26, ground := Go.Ground.chain }], guard := none }) (v := ?_) rfl (by kernel_rfl) (by kernel_rfl) (by kernel_rfl) (fun _ _ _ h => h) (by rfl) ?_ hh6 ?_
  rotate_left
  · (intro wq hSw; go_simp <;> with_reducible rfl)
  try simp only [Act.put, List.setIfInBounds_toArray, List.set_cons_zero, List.set_cons_succ]
  refine take_run (i := 31) (oi := { dst := some 71, op := Go.Op.move (Go.Operand.tmp 15), type := 22, pos := "law.go:27", after := #[{ on := 30, ground := Go.Ground.guard }], guard := some (30, false) }) (v := ?_) rfl (by kernel_rfl) (by kernel_rfl) (by kernel_rfl) (fun _ _ _ h => h) (by rfl) ?_ hh6 ?_
  rotate_left
  · (intro wq hSw; go_simp <;> with_reducible rfl)
  try simp only [Act.put, List.setIfInBounds_toArray, List.set_cons_zero, List.set_cons_succ]
  refine take_run (i := 32) (oi := { dst := some 72, op := Go.Op.move (Go.Operand.tmp 3), type := 9, pos := "law.go:27", after := #[{ on := 30, ground := Go.Ground.guard }], guard := some (30, false) }) (v := ?_) rfl (by kernel_rfl) (by kernel_rfl) (by kernel_rfl) (fun _ _ _ h => h) (by rfl) ?_ hh6 ?_
  rotate_left
  · (intro wq hSw; go_simp <;> with_reducible rfl)
  try simp only [Act.put, List.setIfInBounds_toArray, List.set_cons_zero, List.set_cons_succ]
  refine take_run (i := 35) (oi := { dst := some 75, op := Go.Op.move (Go.Operand.tmp 0), type := 22, pos := "law.go:27", after := #[{ on := 30, ground := Go.Ground.guard }], guard := some (30, false) }) (v := ?_) rfl (by kernel_rfl) (by kernel_rfl) (by kernel_rfl) (fun _ _ _ h => h) (by rfl) ?_ hh6 ?_
  rotate_left
  · (intro wq hSw; go_simp <;> with_reducible rfl)
  try simp only [Act.put, List.setIfInBounds_toArray, List.set_cons_zero, List.set_cons_succ]
  refine take_run (i := 36) (oi := { dst := some 76, op := Go.Op.move (Go.Operand.tmp 3), type := 9, pos := "law.go:27", after := #[{ on := 30, ground := Go.Ground.guard }], guard := some (30, false) }) (v := ?_) rfl (by kernel_rfl) (by kernel_rfl) (by kernel_rfl) (fun _ _ _ h => h) (by rfl) ?_ hh6 ?_
  rotate_left
  · (intro wq hSw; go_simp <;> with_reducible rfl)
  try simp only [Act.put, List.setIfInBounds_toArray, List.set_cons_zero, List.set_cons_succ]
  refine take_call (i := 33) (oi := { dst := some 73, op := Go.Op.call { callee := Go.Callee.value (Go.Operand.func 19), args := #[Go.Operand.tmp 71, Go.Operand.tmp 72], argTypes := #[22, 9] }, type := 22, pos := "law.go:27", after := #[{ on := 31, ground := Go.Ground.data }, { on := 32, ground := Go.Ground.data }, { on := 30, ground := Go.Ground.chain }, { on := 30, ground := Go.Ground.guard }], guard := some (30, false) }) rfl (by kernel_rfl) (by rfl) 19 _ (by go_simp <;> with_reducible rfl) ?_
  refine (text_any (some ⟨g, 0, none⟩) l.length oc l s y6 (OB.out _ Z6) NO.out (by have := HBL.out; have := HS.out; omega)).mono ?_
  rintro e y7 ⟨v, rfl, ov, bk7⟩
  obtain ⟨n7, hn7⟩ : ∃ nn, l.length + (sz (bytesL s)).length = nn := ⟨_, rfl⟩
  rw [show l.length + (sz (bytesL s)).length = n7 from hn7] at ov
  obtain ⟨a7, c7, rfl, s7, _, _⟩ := owned_seen ov (by have := LS.out; unfold maxLen; omega)
  have Z7 : Below U.heap.size U y7 := Z6.trans (bk7.mono Z6.size)
  have TT : Hid (∀ w', Below y7.heap.size y7 w' → (convert 22 9 (.slice a7 n7 c7)).run Tryd.prog w' = .ok (.string (textOf (l ++ sz (bytesL s)))) w') := fun w' hb' => text_later s7 hb'
  refine ⟨_, rfl, bk7, held_more (S' := fun w' => Below y7.heap.size y7 w') (fun w' h => bk7.trans (h.mono bk7.size)) _ _ _ _ ?_⟩
  try simp only [Act.put, List.setIfInBounds_toArray, List.set_cons_zero, List.set_cons_succ]
  have hh7 : Below y7.heap.size y7 y7 := Below.refl _ _
  clear ov s7 hn7
  refine take_text (i := 34) (oi := { dst := some 74, op := Go.Op.convert 22 9 (Go.Operand.tmp 73), type := 9, pos := "law.go:27", after := #[{ on := 33, ground := Go.Ground.data }, { on := 30, ground := Go.Ground.guard }], guard := some (30, false) }) rfl (by kernel_rfl) (by kernel_rfl) (by kernel_rfl) 22 9 (.tmp 73) _ _ (fun _ _ _ h => h) (by rfl) rfl rfl TT.out hh7 ?_
  try simp only [Act.put, List.setIfInBounds_toArray, List.set_cons_zero, List.set_cons_succ]
  clear TT
  refine take_call (i := 37) (oi := { dst := some 77, op := Go.Op.call { callee := Go.Callee.value (Go.Operand.func 18), args := #[Go.Operand.tmp 75, Go.Operand.tmp 76], argTypes := #[22, 9] }, type := 22, pos := "law.go:27", after := #[{ on := 35, ground := Go.Ground.data }, { on := 36, ground := Go.Ground.data }, { on := 33, ground := Go.Ground.chain }, { on := 30, ground := Go.Ground.guard }], guard := some (30, false) }) rfl (by kernel_rfl) (by rfl) 18 _ (by go_simp <;> with_reducible rfl) ?_
  refine (refText_any ba l.length bc l s y7 (SB.out _ (BB.out _ Z7)) NB.out (by have := HBL.out; have := HS.out; omega)).mono ?_
  rintro e y8 ⟨v, rfl, ov, bk8⟩
  obtain ⟨n8, hn8⟩ : ∃ nn, l.length + (sz (bytesL s)).length = nn := ⟨_, rfl⟩
  rw [show l.length + (sz (bytesL s)).length = n8 from hn8] at ov
  obtain ⟨a8, c8, rfl, s8, _, _⟩ := owned_seen ov (by have := LS.out; unfold maxLen; omega)
  have Z8 : Below U.heap.size U y8 := Z7.trans (bk8.mono Z7.size)
  have TT : Hid (∀ w', Below y8.heap.size y8 w' → (convert 22 9 (.slice a8 n8 c8)).run Tryd.prog w' = .ok (.string (textOf (l ++ sz (bytesL s)))) w') := fun w' hb' => text_later s8 hb'
  refine ⟨_, rfl, bk8, held_more (S' := fun w' => Below y8.heap.size y8 w') (fun w' h => bk8.trans (h.mono bk8.size)) _ _ _ _ ?_⟩
  try simp only [Act.put, List.setIfInBounds_toArray, List.set_cons_zero, List.set_cons_succ]
  have hh8 : Below y8.heap.size y8 y8 := Below.refl _ _
  clear ov s8 hn8
  refine take_text (i := 38) (oi := { dst := some 78, op := Go.Op.convert 22 9 (Go.Operand.tmp 77), type := 9, pos := "law.go:27", after := #[{ on := 37, ground := Go.Ground.data }, { on := 30, ground := Go.Ground.guard }], guard := some (30, false) }) rfl (by kernel_rfl) (by kernel_rfl) (by kernel_rfl) 22 9 (.tmp 77) _ _ (fun _ _ _ h => h) (by rfl) rfl rfl TT.out hh8 ?_
  try simp only [Act.put, List.setIfInBounds_toArray, List.set_cons_zero, List.set_cons_succ]
  clear TT
  refine take_run (i := 39) (oi := { dst := some 79, op := Go.Op.binOp Go.BinOp.neq 9 (Go.Operand.tmp 74) (Go.Operand.tmp 78) 9, type := 4, pos := "law.go:27", after := #[{ on := 34, ground := Go.Ground.data }, { on := 38, ground := Go.Ground.data }, { on := 30, ground := Go.Ground.guard }], guard := some (30, false) }) (v := ?_) rfl (by kernel_rfl) (by kernel_rfl) (by kernel_rfl) (fun _ _ _ h => h) (by rfl) ?_ hh8 ?_
  rotate_left
  · (intro wq hSw; go_simp <;> with_reducible rfl)
  try simp only [Act.put, List.setIfInBounds_toArray, List.set_cons_zero, List.set_cons_succ]
  refine take_run (i := 40) (oi := { dst := some 80, op := Go.Op.pick (Go.Operand.tmp 70) (Go.Operand.const (Go.Value.bool true)) (Go.Operand.tmp 79), type := 4, pos := "law.go:27", after := #[{ on := 30, ground := Go.Ground.data }, { on := 39, ground := Go.Ground.data }], guard := none }) (v := ?_) rfl (by kernel_rfl) (by kernel_rfl) (by kernel_rfl) (fun _ _ _ h => h) (by rfl) ?_ hh8 ?_
  rotate_left
  · (intro wq hSw; go_simp <;> with_reducible rfl)
  try simp only [Act.put, List.setIfInBounds_toArray, List.set_cons_zero, List.set_cons_succ]
  refine take_run (i := 41) (oi := { dst := some 81, op := Go.Op.move (Go.Operand.tmp 80), type := 4, pos := "law.go:27", after := #[{ on := 40, ground := Go.Ground.data }, { on := 37, ground := Go.Ground.chain }], guard := none }) (v := ?_) rfl (by kernel_rfl) (by kernel_rfl) (by kernel_rfl) (fun _ _ _ h => h) (by rfl) ?_ hh8 ?_
  rotate_left
  · (intro wq hSw; go_simp <;> with_reducible rfl)
  try simp only [Act.put, List.setIfInBounds_toArray, List.set_cons_zero, List.set_cons_succ]
  refine take_run (i := 42) (oi := { dst := some 82, op := Go.Op.move (Go.Operand.tmp 15), type := 22, pos := "law.go:27", after := #[{ on := 41, ground := Go.Ground.guard }], guard := some (41, false) }) (v := ?_) rfl (by kernel_rfl) (by kernel_rfl) (by kernel_rfl) (fun _ _ _ h => h) (by rfl) ?_ hh8 ?_
  rotate_left
  · (intro wq hSw; go_simp <;> with_reducible rfl)
  try simp only [Act.put, List.setIfInBounds_toArray, List.set_cons_zero, List.set_cons_succ]
  refine take_run (i := 43) (oi := { dst := some 83, op := Go.Op.move (Go.Operand.tmp 1), type := 23, pos := "law.go:27", after := #[{ on := 41, ground := Go.Ground.guard }], guard := some (41, false) }) (v := ?_) rfl (by kernel_rfl) (by kernel_rfl) (by kernel_rfl) (fun _ _ _ h => h) (by rfl) ?_ hh8 ?_
  rotate_left
  · (intro wq hSw; go_simp <;> with_reducible rfl)
  try simp only [Act.put, List.setIfInBounds_toArray, List.set_cons_zero, List.set_cons_succ]
  refine take_run (i := 44) (oi := { dst := some 84, op := Go.Op.binOp Go.BinOp.rem 23 (Go.Operand.tmp 83) (Go.Operand.const (Go.Value.int Go.IntKind.u64 2)) 23, type := 23, pos := "law.go:27", after := #[{ on := 43, ground := Go.Ground.data }, { on := 41, ground := Go.Ground.guard }], guard := some (41, false) }) (v := ?_) rfl (by kernel_rfl) (by kernel_rfl) (by kernel_rfl) (fun _ _ _ h => h) (by rfl) ?_ hh8 ?_
  rotate_left
  · (intro wq hSw; go_simp <;> with_reducible rfl)
  try simp only [Act.put, List.setIfInBounds_toArray, List.set_cons_zero, List.set_cons_succ]
  refine take_run (i := 45) (oi := { dst := some 85, op := Go.Op.binOp Go.BinOp.eql 23 (Go.Operand.tmp 84) (Go.Operand.const (Go.Value.int Go.IntKind.u64 1)) 23, type := 4, pos := "law.go:27", after := #[{ on := 44, ground := Go.Ground.data }, { on := 41, ground := Go.Ground.guard }], guard := some (41, false) }) (v := ?_) rfl (by kernel_rfl) (by kernel_rfl) (by kernel_rfl) (fun _ _ _ h => h) (by rfl) ?_ hh8 ?_
  rotate_left
  · (intro wq hSw; go_simp <;> with_reducible rfl)
  try simp only [Act.put, List.setIfInBounds_toArray, List.set_cons_zero, List.set_cons_succ]
  refine take_run (i := 48) (oi := { dst := some 88, op := Go.Op.move (Go.Operand.tmp 0), type := 22, pos := "law.go:27", after := #[{ on := 41, ground := Go.Ground.guard }], guard := some (41, false) }) (v := ?_) rfl (by kernel_rfl) (by kernel_rfl) (by kernel_rfl) (fun _ _ _ h => h) (by rfl) ?_ hh8 ?_
  rotate_left
  · (intro wq hSw; go_simp <;> with_reducible rfl)
  try simp only [Act.put, List.setIfInBounds_toArray, List.set_cons_zero, List.set_cons_succ]
  refine take_run (i := 49) (oi := { dst := some 89, op := Go.Op.move (Go.Operand.tmp 1), type := 23, pos := "law.go:27", after := #[{ on := 41, ground := Go.Ground.guard }], guard := some (41, false) }) (v := ?_) rfl (by kernel_rfl) (by kernel_rfl) (by kernel_rfl) (fun _ _ _ h => h) (by rfl) ?_ hh8 ?_
  rotate_left
  · (intro wq hSw; go_simp <;> with_reducible rfl)
  try simp only [Act.put, List.setIfInBounds_toArray, List.set_cons_zero, List.set_cons_succ]
  refine take_run (i := 50) (oi := { dst := some 90, op := Go.Op.binOp Go.BinOp.rem 23 (Go.Operand.tmp 89) (Go.Operand.const (Go.Value.int Go.IntKind.u64 2)) 23, type := 23, pos := "law.go:27", after := #[{ on := 49, ground := Go.Ground.data }, { on := 41, ground := Go.Ground.guard }], guard := some (41, false) }) (v := ?_) rfl (by kernel_rfl) (by kernel_rfl) (by kernel_rfl) (fun _ _ _ h => h) (by rfl) ?_ hh8 ?_
  rotate_left
  · (intro wq hSw; go_simp <;> with_reducible rfl)
  try simp only [Act.put, List.setIfInBounds_toArray, List.set_cons_zero, List.set_cons_succ]
  refine take_run (i := 51) (oi := { dst := some 91, op := Go.Op.binOp Go.BinOp.eql 23 (Go.Operand.tmp 90) (Go.Operand.const (Go.Value.int Go.IntKind.u64 1)) 23, type := 4, pos := "law.go:27", after := #[{ on := 50, ground := Go.Ground.data }, { on := 41, ground := Go.Ground.guard }], guard := some (41, false) }) (v := ?_) rfl (by kernel_rfl) (by kernel_rfl) (by kernel_rfl) (fun _ _ _ h => h) (by rfl) ?_ hh8 ?_
  rotate_left
  · (intro wq hSw; go_simp <;> with_reducible rfl)
  try simp only [Act.put, List.setIfInBounds_toArray, List.set_cons_zero, List.set_cons_succ]
  refine take_call (i := 46) (oi := { dst := some 86, op := Go.Op.call { callee := Go.Callee.value (Go.Operand.func 20), args := #[Go.Operand.tmp 82, Go.Operand.tmp 85], argTypes := #[22, 4] }, type := 22, pos := "law.go:27", after := #[{ on := 42, ground := Go.Ground.data }, { on := 45, ground := Go.Ground.data }, { on := 41, ground := Go.Ground.chain }, { on := 41, ground := Go.Ground.guard }], guard := some (41, false) }) rfl (by kernel_rfl) (by rfl) 20 _ (by go_simp <;> with_reducible rfl) ?_
  refine (bool_any (some ⟨g, 0, none⟩) l.length oc l q y8 (OB.out _ Z8) NO.out (by have := HBL.out; omega)).mono ?_
  rintro e y9 ⟨v, rfl, ov, bk9⟩
  obtain ⟨n9, hn9⟩ : ∃ nn, l.length + 1 = nn := ⟨_, rfl⟩
  rw [show l.length + 1 = n9 from hn9] at ov
  obtain ⟨a9, c9, rfl, s9, _, _⟩ := owned_seen ov (by have := HBL.out; unfold maxLen; omega)
  have Z9 : Below U.heap.size U y9 := Z8.trans (bk9.mono Z8.size)
  have TT : Hid (∀ w', Below y9.heap.size y9 w' → (convert 22 9 (.slice a9 n9 c9)).run Tryd.prog w' = .ok (.string (textOf (l ++ [bit8 q]))) w') := fun w' hb' => text_later s9 hb'
  refine ⟨_, rfl, bk9, held_more (S' := fun w' => Below y9.heap.size y9 w') (fun w' h => bk9.trans (h.mono bk9.size)) _ _ _ _ ?_⟩
  try simp only [Act.put, List.setIfInBounds_toArray, List.set_cons_zero, List.set_cons_succ]
  have hh9 : Below y9.heap.size y9 y9 := Below.refl _ _
  clear ov s9 hn9
  refine take_text (i := 47) (oi := { dst := some 87, op := Go.Op.convert 22 9 (Go.Operand.tmp 86), type := 9, pos := "law.go:27", after := #[{ on := 46, ground := Go.Ground.data }, { on := 41, ground := Go.Ground.guard }], guard := some (41, false) }) rfl (by kernel_rfl) (by kernel_rfl) (by kernel_rfl) 22 9 (.tmp 86) _ _ (fun _ _ _ h => h) (by rfl) rfl rfl TT.out hh9 ?_
  try simp only [Act.put, List.setIfInBounds_toArray, List.set_cons_zero, List.set_cons_succ]
  clear TT
  refine take_call (i := 52) (oi := { dst := some 92, op := Go.Op.call { callee := Go.Callee.value (Go.Operand.func 21), args := #[Go.Operand.tmp 88, Go.Operand.tmp 91], argTypes := #[22, 4] }, type := 22, pos := "law.go:27", after := #[{ on := 48, ground := Go.Ground.data }, { on := 51, ground := Go.Ground.data }, { on := 46, ground := Go.Ground.chain }, { on := 41, ground := Go.Ground.guard }], guard := some (41, false) }) rfl (by kernel_rfl) (by rfl) 21 _ (by go_simp <;> with_reducible rfl) ?_
  refine (refBool_any ba l.length bc l q y9 (SB.out _ (BB.out _ Z9)) NB.out (by have := HBL.out; omega)).mono ?_
  rintro e y10 ⟨v, rfl, ov, bk10⟩
  obtain ⟨n10, hn10⟩ : ∃ nn, l.length + 1 = nn := ⟨_, rfl⟩
  rw [show l.length + 1 = n10 from hn10] at ov
  obtain ⟨a10, c10, rfl, s10, _, _⟩ := owned_seen ov (by have := HBL.out; unfold maxLen; omega)
  have Z10 : Below U.heap.size U y10 := Z9.trans (bk10.mono Z9.size)
  have TT : Hid (∀ w', Below y10.heap.size y10 w' → (convert 22 9 (.slice a10 n10 c10)).run Tryd.prog w' = .ok (.string (textOf (l ++ [bit8 q]))) w') := fun w' hb' => text_later s10 hb'
  refine ⟨_, rfl, bk10, held_more (S' := fun w' => Below y10.heap.size y10 w') (fun w' h => bk10.trans (h.mono bk10.size)) _ _ _ _ ?_⟩
  try simp only [Act.put, List.setIfInBounds_toArray, List.set_cons_zero, List.set_cons_succ]
  have hh10 : Below y10.heap.size y10 y10 := Below.refl _ _
  clear ov s10 hn10
  refine take_text (i := 53) (oi := { dst := some 93, op := Go.Op.convert 22 9 (Go.Operand.tmp 92), type := 9, pos := "law.go:27", after := #[{ on := 52, ground := Go.Ground.data }, { on := 41, ground := Go.Ground.guard }], guard := some (41, false) }) rfl (by kernel_rfl) (by kernel_rfl) (by kernel_rfl) 22 9 (.tmp 92) _ _ (fun _ _ _ h => h) (by rfl) rfl rfl TT.out hh10 ?_
  try simp only [Act.put, List.setIfInBounds_toArray, List.set_cons_zero, List.set_cons_succ]
  clear TT
  refine take_run (i := 54) (oi := { dst := some 94, op := Go.Op.binOp Go.BinOp.neq 9 (Go.Operand.tmp 87) (Go.Operand.tmp 93) 9, type := 4, pos := "law.go:27", after := #[{ on := 47, ground := Go.Ground.data }, { on := 53, ground := Go.Ground.data }, { on := 41, ground := Go.Ground.guard }], guard := some (41, false) }) (v := ?_) rfl (by kernel_rfl) (by kernel_rfl) (by kernel_rfl) (fun _ _ _ h => h) (by rfl) ?_ hh10 ?_
  rotate_left
  · (intro wq hSw; go_simp <;> with_reducible rfl)
  try simp only [Act.put, List.setIfInBounds_toArray, List.set_cons_zero, List.set_cons_succ]
  refine take_run (i := 55) (oi := { dst := some 95, op := Go.Op.pick (Go.Operand.tmp 81) (Go.Operand.const (Go.Value.bool true)) (Go.Operand.tmp 94), type := 4, pos := "law.go:27", after := #[{ on := 41, ground := Go.Ground.data }, { on := 54, ground := Go.Ground.data }], guard := none }) (v := ?_) rfl (by kernel_rfl) (by kernel_rfl) (by kernel_rfl) (fun _ _ _ h => h) (by rfl) ?_ hh10 ?_
  rotate_left
  · (intro wq hSw; go_simp <;> with_reducible rfl)
  try simp only [Act.put, List.setIfInBounds_toArray, List.set_cons_zero, List.set_cons_succ]
  refine take_run (i := 56) (oi := { dst := some 96, op := Go.Op.move (Go.Operand.tmp 95), type := 4, pos := "law.go:27", after := #[{ on := 55, ground := Go.Ground.data }, { on := 52, ground := Go.Ground.chain }], guard := none }) (v := ?_) rfl (by kernel_rfl) (by kernel_rfl) (by kernel_rfl) (fun _ _ _ h => h) (by rfl) ?_ hh10 ?_
  rotate_left
  · (intro wq hSw; go_simp <;> with_reducible rfl)
  try simp only [Act.put, List.setIfInBounds_toArray, List.set_cons_zero, List.set_cons_succ]
  refine take_run (i := 57) (oi := { dst := some 97, op := Go.Op.move (Go.Operand.tmp 17), type := 22, pos := "law.go:27", after := #[{ on := 56, ground := Go.Ground.guard }], guard := some (56, false) }) (v := ?_) rfl (by kernel_rfl) (by kernel_rfl) (by kernel_rfl) (fun _ _ _ h => h) (by rfl) ?_ hh10 ?_
  rotate_left
  · (intro wq hSw; go_simp <;> with_reducible rfl)
  try simp only [Act.put, List.setIfInBounds_toArray, List.set_cons_zero, List.set_cons_succ]
  refine take_run (i := 59) (oi := { dst := some 99, op := Go.Op.move (Go.Operand.tmp 0), type := 22, pos := "law.go:27", after := #[{ on := 56, ground := Go.Ground.guard }], guard := some (56, false) }) (v := ?_) rfl (by kernel_rfl) (by kernel_rfl) (by kernel_rfl) (fun _ _ _ h => h) (by rfl) ?_ hh10 ?_
  rotate_left
  · (intro wq hSw; go_simp <;> with_reducible rfl)
  try simp only [Act.put, List.setIfInBounds_toArray, List.set_cons_zero, List.set_cons_succ]
  refine take_text (i := 58) (oi := { dst := some 98, op := Go.Op.convert 22 9 (Go.Operand.tmp 97), type := 9, pos := "law.go:27", after := #[{ on := 57, ground := Go.Ground.data }, { on := 56, ground := Go.Ground.guard }], guard := some (56, false) }) rfl (by kernel_rfl) (by kernel_rfl) (by kernel_rfl) 22 9 (.tmp 97) _ _ (fun _ _ _ h => h) (by rfl) rfl rfl (fun w' hb' => TY.out w' (Z10.trans (hb'.mono Z10.size))) hh10 ?_
  try simp only [Act.put, List.setIfInBounds_toArray, List.set_cons_zero, List.set_cons_succ]
  refine take_row (i := 60) (oi := { dst := some 100, op := Go.Op.load 25 (Go.Operand.tmp 11), type := 25, pos := "law.go:27", after := #[{ on := 56, ground := Go.Ground.guard }], guard := some (56, false) }) rfl (by kernel_rfl) (by kernel_rfl) (by kernel_rfl) 25 (.tmp 11) (w.heap.size) 25 _ (0, 0) _ (fun _ _ _ h => h) (by rfl) rfl rfl (fun w' hb' => X0.out w' (BB.out w' (Z10.trans (hb'.mono Z10.size)))) Tryd.underlying25 rfl (by kernel_rfl) hh10 ?_
  try simp only [Act.put, List.setIfInBounds_toArray, List.set_cons_zero, List.set_cons_succ]
  refine take_call (i := 61) (oi := { dst := some 101, op := Go.Op.call { callee := Go.Callee.value (Go.Operand.func 22), args := #[Go.Operand.tmp 99, Go.Operand.tmp 100], argTypes := #[22, 25] }, type := 22, pos := "law.go:27", after := #[{ on := 59, ground := Go.Ground.data }, { on := 60, ground := Go.Ground.data }, { on := 56, ground := Go.Ground.chain }, { on := 56, ground := Go.Ground.guard }], guard := some (56, false) }) rfl (by kernel_rfl) (by rfl) 22 _ (by go_simp <;> with_reducible rfl) ?_
  refine (refPutOp_any ba l.length bc l o HO.out y10 (SB.out _ (BB.out _ Z10)) NB.out (by have := HBL.out; have := HSO.out; omega)).mono ?_
  rintro e y11 ⟨v, rfl, ov, bk11⟩
  obtain ⟨n11, hn11⟩ : ∃ nn, l.length + (o.bytes).length = nn := ⟨_, rfl⟩
  rw [show l.length + (o.bytes).length = n11 from hn11] at ov
  obtain ⟨a11, c11, rfl, s11, _, _⟩ := owned_seen ov (by have := LO.out; unfold maxLen; omega)
  have Z11 : Below U.heap.size U y11 := Z10.trans (bk11.mono Z10.size)
  have TT : Hid (∀ w', Below y11.heap.size y11 w' → (convert 22 9 (.slice a11 n11 c11)).run Tryd.prog w' = .ok (.string (textOf (l ++ o.bytes))) w') := fun w' hb' => text_later s11 hb'
  refine ⟨_, rfl, bk11, held_more (S' := fun w' => Below y11.heap.size y11 w') (fun w' h => bk11.trans (h.mono bk11.size)) _ _ _ _ ?_⟩
  try simp only [Act.put, List.setIfInBounds_toArray, List.set_cons_zero, List.set_cons_succ]
  have hh11 : Below y11.heap.size y11 y11 := Below.refl _ _
  clear ov s11 hn11
  refine take_text (i := 62) (oi := { dst := some 102, op := Go.Op.convert 22 9 (Go.Operand.tmp 101), type := 9, pos := "law.go:27", after := #[{ on := 61, ground := Go.Ground.data }, { on := 56, ground := Go.Ground.guard }], guard := some (56, false) }) rfl (by kernel_rfl) (by kernel_rfl) (by kernel_rfl) 22 9 (.tmp 101) _ _ (fun _ _ _ h => h) (by rfl) rfl rfl TT.out hh11 ?_
  try simp only [Act.put, List.setIfInBounds_toArray, List.set_cons_zero, List.set_cons_succ]
  clear TT
  refine take_run (i := 63) (oi := { dst := some 103, op := Go.Op.binOp Go.BinOp.neq 9 (Go.Operand.tmp 98) (Go.Operand.tmp 102) 9, type := 4, pos := "law.go:27", after := #[{ on := 58, ground := Go.Ground.data }, { on := 62, ground := Go.Ground.data }, { on := 56, ground := Go.Ground.guard }], guard := some (56, false) }) (v := ?_) rfl (by kernel_rfl) (by kernel_rfl) (by kernel_rfl) (fun _ _ _ h => h) (by rfl) ?_ hh11 ?_
  rotate_left
  · (intro wq hSw; go_simp <;> with_reducible rfl)
  try simp only [Act.put, List.setIfInBounds_toArray, List.set_cons_zero, List.set_cons_succ]
  refine take_run (i := 64) (oi := { dst := some 104, op := Go.Op.pick (Go.Operand.tmp 96) (Go.Operand.const (Go.Value.bool true)) (Go.Operand.tmp 103), type := 4, pos := "law.go:27", after := #[{ on := 56, ground := Go.Ground.data }, { on := 63, ground := Go.Ground.data }], guard := none }) (v := ?_) rfl (by kernel_rfl) (by kernel_rfl) (by kernel_rfl) (fun _ _ _ h => h) (by rfl) ?_ hh11 ?_
  rotate_left
  · (intro wq hSw; go_simp <;> with_reducible rfl)
  try simp only [Act.put, List.setIfInBounds_toArray, List.set_cons_zero, List.set_cons_succ]
  refine take_run (i := 65) (oi := { dst := some 105, op := Go.Op.move (Go.Operand.tmp 104), type := 4, pos := "law.go:27", after := #[{ on := 64, ground := Go.Ground.data }, { on := 61, ground := Go.Ground.chain }], guard := none }) (v := ?_) rfl (by kernel_rfl) (by kernel_rfl) (by kernel_rfl) (fun _ _ _ h => h) (by rfl) ?_ hh11 ?_
  rotate_left
  · (intro wq hSw; go_simp <;> with_reducible rfl)
  try simp only [Act.put, List.setIfInBounds_toArray, List.set_cons_zero, List.set_cons_succ]
  refine take_run (i := 66) (oi := { dst := some 106, op := Go.Op.move (Go.Operand.tmp 15), type := 22, pos := "law.go:27", after := #[{ on := 65, ground := Go.Ground.guard }], guard := some (65, false) }) (v := ?_) rfl (by kernel_rfl) (by kernel_rfl) (by kernel_rfl) (fun _ _ _ h => h) (by rfl) ?_ hh11 ?_
  rotate_left
  · (intro wq hSw; go_simp <;> with_reducible rfl)
  try simp only [Act.put, List.setIfInBounds_toArray, List.set_cons_zero, List.set_cons_succ]
  refine take_run (i := 70) (oi := { dst := some 110, op := Go.Op.move (Go.Operand.tmp 0), type := 22, pos := "law.go:27", after := #[{ on := 65, ground := Go.Ground.guard }], guard := some (65, false) }) (v := ?_) rfl (by kernel_rfl) (by kernel_rfl) (by kernel_rfl) (fun _ _ _ h => h) (by rfl) ?_ hh11 ?_
  rotate_left
  · (intro wq hSw; go_simp <;> with_reducible rfl)
  try simp only [Act.put, List.setIfInBounds_toArray, List.set_cons_zero, List.set_cons_succ]
  refine take_row (i := 67) (oi := { dst := some 107, op := Go.Op.load 29 (Go.Operand.tmp 12), type := 29, pos := "law.go:27", after := #[{ on := 65, ground := Go.Ground.guard }], guard := some (65, false) }) rfl (by kernel_rfl) (by kernel_rfl) (by kernel_rfl) 29 (.tmp 12) (w.heap.size + 1) 29 _ (0, 0) _ (fun _ _ _ h => h) (by rfl) rfl rfl (fun w' hb' => X1.out w' (BB.out w' (Z11.trans (hb'.mono Z11.size)))) Tryd.underlying29 rfl (by kernel_rfl) hh11 ?_
  try simp only [Act.put, List.setIfInBounds_toArray, List.set_cons_zero, List.set_cons_succ]
  refine take_row (i := 71) (oi := { dst := some 111, op := Go.Op.load 29 (Go.Operand.tmp 12), type := 29, pos := "law.go:27", after := #[{ on := 65, ground := Go.Ground.guard }], guard := some (65, false) }) rfl (by kernel_rfl) (by kernel_rfl) (by kernel_rfl) 29 (.tmp 12) (w.heap.size + 1) 29 _ (0, 0) _ (fun _ _ _ h => h) (by rfl) rfl rfl (fun w' hb' => X1.out w' (BB.out w' (Z11.trans (hb'.mono Z11.size)))) Tryd.underlying29 rfl (by kernel_rfl) hh11 ?_
  try simp only [Act.put, List.setIfInBounds_toArray, List.set_cons_zero, List.set_cons_succ]
  refine take_call (i := 68) (oi := { dst := some 108, op := Go.Op.call { callee := Go.Callee.value (Go.Operand.func 23), args := #[Go.Operand.tmp 106, Go.Operand.tmp 107], argTypes := #[22, 29] }, type := 22, pos := "law.go:27", after := #[{ on := 66, ground := Go.Ground.data }, { on := 67, ground := Go.Ground.data }, { on := 65, ground := Go.Ground.chain }, { on := 65, ground := Go.Ground.guard }], guard := some (65, false) }) rfl (by kernel_rfl) (by rfl) 23 _ (by go_simp <;> with_reducible rfl) ?_
  refine (PA.out y11 (some ⟨g, 0, none⟩) l.length oc l (BB.out _ Z11) (OB.out _ Z11) NO.out HBL.out).mono ?_
  rintro e y12 ⟨v, rfl, ov, bk12⟩
  obtain ⟨n12, hn12⟩ : ∃ nn, l.length + (replyB ya ma A).length = nn := ⟨_, rfl⟩
  rw [show l.length + (replyB ya ma A).length = n12 from hn12] at ov
  obtain ⟨a12, c12, rfl, s12, _, _⟩ := owned_seen ov (by have := LR.out; unfold maxLen; omega)
  have Z12 : Below U.heap.size U y12 := Z11.trans (bk12.mono Z11.size)
  have TT : Hid (∀ w', Below y12.heap.size y12 w' → (convert 22 9 (.slice a12 n12 c12)).run Tryd.prog w' = .ok (.string (textOf (l ++ replyB ya ma A))) w') := fun w' hb' => text_later s12 hb'
  refine ⟨_, rfl, bk12, held_more (S' := fun w' => Below y12.heap.size y12 w') (fun w' h => bk12.trans (h.mono bk12.size)) _ _ _ _ ?_⟩
  try simp only [Act.put, List.setIfInBounds_toArray, List.set_cons_zero, List.set_cons_succ]
  have hh12 : Below y12.heap.size y12 y12 := Below.refl _ _
  clear ov s12 hn12
  refine take_text (i := 69) (oi := { dst := some 109, op := Go.Op.convert 22 9 (Go.Operand.tmp 108), type := 9, pos := "law.go:27", after := #[{ on := 68, ground := Go.Ground.data }, { on := 65, ground := Go.Ground.guard }], guard := some (65, false) }) rfl (by kernel_rfl) (by kernel_rfl) (by kernel_rfl) 22 9 (.tmp 108) _ _ (fun _ _ _ h => h) (by rfl) rfl rfl TT.out hh12 ?_
  try simp only [Act.put, List.setIfInBounds_toArray, List.set_cons_zero, List.set_cons_succ]
  clear TT
  refine take_call (i := 72) (oi := { dst := some 112, op := Go.Op.call { callee := Go.Callee.value (Go.Operand.func 24), args := #[Go.Operand.tmp 110, Go.Operand.tmp 111], argTypes := #[22, 29] }, type := 22, pos := "law.go:27", after := #[{ on := 70, ground := Go.Ground.data }, { on := 71, ground := Go.Ground.data }, { on := 68, ground := Go.Ground.chain }, { on := 65, ground := Go.Ground.guard }], guard := some (65, false) }) rfl (by kernel_rfl) (by rfl) 24 _ (by go_simp <;> with_reducible rfl) ?_
  refine (PR.out y12 ba l.length bc l (BB.out _ Z12) (SB.out _ (BB.out _ Z12)) NB.out HBL.out).mono ?_
  rintro e y13 ⟨v, rfl, ov, bk13⟩
  obtain ⟨n13, hn13⟩ : ∃ nn, l.length + (replyB ya ma A).length = nn := ⟨_, rfl⟩
  rw [show l.length + (replyB ya ma A).length = n13 from hn13] at ov
  obtain ⟨a13, c13, rfl, s13, _, _⟩ := owned_seen ov (by have := LR.out; unfold maxLen; omega)
  have Z13 : Below U.heap.size U y13 := Z12.trans (bk13.mono Z12.size)
  have TT : Hid (∀ w', Below y13.heap.size y13 w' → (convert 22 9 (.slice a13 n13 c13)).run Tryd.prog w' = .ok (.string (textOf (l ++ replyB ya ma A))) w') := fun w' hb' => text_later s13 hb'
  refine ⟨_, rfl, bk13, held_more (S' := fun w' => Below y13.heap.size y13 w') (fun w' h => bk13.trans (h.mono bk13.size)) _ _ _ _ ?_⟩
  try simp only [Act.put, List.setIfInBounds_toArray, List.set_cons_zero, List.set_cons_succ]
  have hh13 : Below y13.heap.size y13 y13 := Below.refl _ _
  clear ov s13 hn13
  refine take_text (i := 73) (oi := { dst := some 113, op := Go.Op.convert 22 9 (Go.Operand.tmp 112), type := 9, pos := "law.go:27", after := #[{ on := 72, ground := Go.Ground.data }, { on := 65, ground := Go.Ground.guard }], guard := some (65, false) }) rfl (by kernel_rfl) (by kernel_rfl) (by kernel_rfl) 22 9 (.tmp 112) _ _ (fun _ _ _ h => h) (by rfl) rfl rfl TT.out hh13 ?_
  try simp only [Act.put, List.setIfInBounds_toArray, List.set_cons_zero, List.set_cons_succ]
  clear TT
  refine take_run (i := 74) (oi := { dst := some 114, op := Go.Op.binOp Go.BinOp.neq 9 (Go.Operand.tmp 109) (Go.Operand.tmp 113) 9, type := 4, pos := "law.go:27", after := #[{ on := 69, ground := Go.Ground.data }, { on := 73, ground := Go.Ground.data }, { on := 65, ground := Go.Ground.guard }], guard := some (65, false) }) (v := ?_) rfl (by kernel_rfl) (by kernel_rfl) (by kernel_rfl) (fun _ _ _ h => h) (by rfl) ?_ hh13 ?_
  rotate_left
  · (intro wq hSw; go_simp <;> with_reducible rfl)
  try simp only [Act.put, List.setIfInBounds_toArray, List.set_cons_zero, List.set_cons_succ]
  refine take_run (i := 75) (oi := { dst := some 115, op := Go.Op.pick (Go.Operand.tmp 105) (Go.Operand.const (Go.Value.bool true)) (Go.Operand.tmp 114), type := 4, pos := "law.go:27", after := #[{ on := 65, ground := Go.Ground.data }, { on := 74, ground := Go.Ground.data }], guard := none }) (v := ?_) rfl (by kernel_rfl) (by kernel_rfl) (by kernel_rfl) (fun _ _ _ h => h) (by rfl) ?_ hh13 ?_
  rotate_left
  · (intro wq hSw; go_simp <;> with_reducible rfl)
  try simp only [Act.put, List.setIfInBounds_toArray, List.set_cons_zero, List.set_cons_succ]
  refine take_run (i := 76) (oi := { dst := some 116, op := Go.Op.move (Go.Operand.tmp 115), type := 4, pos := "law.go:27", after := #[{ on := 75, ground := Go.Ground.data }, { on := 72, ground := Go.Ground.chain }], guard := none }) (v := ?_) rfl (by kernel_rfl) (by kernel_rfl) (by kernel_rfl) (fun _ _ _ h => h) (by rfl) ?_ hh13 ?_
  rotate_left
  · (intro wq hSw; go_simp <;> with_reducible rfl)
  try simp only [Act.put, List.setIfInBounds_toArray, List.set_cons_zero, List.set_cons_succ]
  refine take_run (i := 77) (oi := { dst := some 117, op := Go.Op.move (Go.Operand.tmp 18), type := 22, pos := "law.go:27", after := #[{ on := 76, ground := Go.Ground.guard }], guard := some (76, false) }) (v := ?_) rfl (by kernel_rfl) (by kernel_rfl) (by kernel_rfl) (fun _ _ _ h => h) (by rfl) ?_ hh13 ?_
  rotate_left
  · (intro wq hSw; go_simp <;> with_reducible rfl)
  try simp only [Act.put, List.setIfInBounds_toArray, List.set_cons_zero, List.set_cons_succ]
  refine take_run (i := 79) (oi := { dst := some 119, op := Go.Op.move (Go.Operand.tmp 20), type := 22, pos := "law.go:27", after := #[{ on := 76, ground := Go.Ground.guard }], guard := some (76, false) }) (v := ?_) rfl (by kernel_rfl) (by kernel_rfl) (by kernel_rfl) (fun _ _ _ h => h) (by rfl) ?_ hh13 ?_
  rotate_left
  · (intro wq hSw; go_simp <;> with_reducible rfl)
  try simp only [Act.put, List.setIfInBounds_toArray, List.set_cons_zero, List.set_cons_succ]
  refine take_text (i := 78) (oi := { dst := some 118, op := Go.Op.convert 22 9 (Go.Operand.tmp 117), type := 9, pos := "law.go:27", after := #[{ on := 77, ground := Go.Ground.data }, { on := 76, ground := Go.Ground.guard }], guard := some (76, false) }) rfl (by kernel_rfl) (by kernel_rfl) (by kernel_rfl) 22 9 (.tmp 117) _ _ (fun _ _ _ h => h) (by rfl) rfl rfl (fun w' hb' => TZ.out w' (Z13.trans (hb'.mono Z13.size))) hh13 ?_
  try simp only [Act.put, List.setIfInBounds_toArray, List.set_cons_zero, List.set_cons_succ]
  refine take_text (i := 80) (oi := { dst := some 120, op := Go.Op.convert 22 9 (Go.Operand.tmp 119), type := 9, pos := "law.go:27", after := #[{ on := 79, ground := Go.Ground.data }, { on := 76, ground := Go.Ground.guard }], guard := some (76, false) }) rfl (by kernel_rfl) (by kernel_rfl) (by kernel_rfl) 22 9 (.tmp 119) _ _ (fun _ _ _ h => h) (by rfl) rfl rfl (fun w' hb' => TV.out w' (Z13.trans (hb'.mono Z13.size))) hh13 ?_
  try simp only [Act.put, List.setIfInBounds_toArray, List.set_cons_zero, List.set_cons_succ]
  refine take_run (i := 81) (oi := { dst := some 121, op := Go.Op.binOp Go.BinOp.neq 9 (Go.Operand.tmp 118) (Go.Operand.tmp 120) 9, type := 4, pos := "law.go:27", after := #[{ on := 78, ground := Go.Ground.data }, { on := 80, ground := Go.Ground.data }, { on := 76, ground := Go.Ground.guard }], guard := some (76, false) }) (v := ?_) rfl (by kernel_rfl) (by kernel_rfl) (by kernel_rfl) (fun _ _ _ h => h) (by rfl) ?_ hh13 ?_
  rotate_left
  · (intro wq hSw; go_simp <;> with_reducible rfl)
  try simp only [Act.put, List.setIfInBounds_toArray, List.set_cons_zero, List.set_cons_succ]
  refine take_run (i := 82) (oi := { dst := some 122, op := Go.Op.pick (Go.Operand.tmp 116) (Go.Operand.const (Go.Value.bool true)) (Go.Operand.tmp 121), type := 4, pos := "law.go:27", after := #[{ on := 76, ground := Go.Ground.data }, { on := 81, ground := Go.Ground.data }], guard := none }) (v := ?_) rfl (by kernel_rfl) (by kernel_rfl) (by kernel_rfl) (fun _ _ _ h => h) (by rfl) ?_ hh13 ?_
  rotate_left
  · (intro wq hSw; go_simp <;> with_reducible rfl)
  try simp only [Act.put, List.setIfInBounds_toArray, List.set_cons_zero, List.set_cons_succ]
  refine take_run (i := 83) (oi := { dst := some 123, op := Go.Op.move (Go.Operand.tmp 122), type := 4, pos := "law.go:27", after := #[{ on := 82, ground := Go.Ground.data }, { on := 76, ground := Go.Ground.chain }], guard := none }) (v := ?_) rfl (by kernel_rfl) (by kernel_rfl) (by kernel_rfl) (fun _ _ _ h => h) (by rfl) ?_ hh13 ?_
  rotate_left
  · (intro wq hSw; go_simp <;> with_reducible rfl)
  try simp only [Act.put, List.setIfInBounds_toArray, List.set_cons_zero, List.set_cons_succ]
  refine take_run (i := 84) (oi := { dst := some 124, op := Go.Op.move (Go.Operand.tmp 19), type := 26, pos := "law.go:27", after := #[{ on := 83, ground := Go.Ground.guard }], guard := some (83, false) }) (v := ?_) rfl (by kernel_rfl) (by kernel_rfl) (by kernel_rfl) (fun _ _ _ h => h) (by rfl) ?_ hh13 ?_
  rotate_left
  · (intro wq hSw; go_simp <;> with_reducible rfl)
  try simp only [Act.put, List.setIfInBounds_toArray, List.set_cons_zero, List.set_cons_succ]
  refine take_run (i := 85) (oi := { dst := some 125, op := Go.Op.move (Go.Operand.tmp 21), type := 26, pos := "law.go:27", after := #[{ on := 83, ground := Go.Ground.guard }], guard := some (83, false) }) (v := ?_) rfl (by kernel_rfl) (by kernel_rfl) (by kernel_rfl) (fun _ _ _ h => h) (by rfl) ?_ hh13 ?_
  rotate_left
  · (intro wq hSw; go_simp <;> with_reducible rfl)
  try simp only [Act.put, List.setIfInBounds_toArray, List.set_cons_zero, List.set_cons_succ]
  refine take_run (i := 86) (oi := { dst := some 126, op := Go.Op.binOp Go.BinOp.neq 26 (Go.Operand.tmp 124) (Go.Operand.tmp 125) 26, type := 4, pos := "law.go:27", after := #[{ on := 84, ground := Go.Ground.data }, { on := 85, ground := Go.Ground.data }, { on := 83, ground := Go.Ground.guard }], guard := some (83, false) }) (v := ?_) rfl (by kernel_rfl) (by kernel_rfl) (by kernel_rfl) (fun _ _ _ h => h) (by rfl) ?_ hh13 ?_
  rotate_left
  · (intro wq hSw; go_simp <;> with_reducible rfl)
  try simp only [Act.put, List.setIfInBounds_toArray, List.set_cons_zero, List.set_cons_succ]
  refine take_run (i := 87) (oi := { dst := some 127, op := Go.Op.pick (Go.Operand.tmp 123) (Go.Operand.const (Go.Value.bool true)) (Go.Operand.tmp 126), type := 4, pos := "law.go:27", after := #[{ on := 83, ground := Go.Ground.data }, { on := 86, ground := Go.Ground.data }], guard := none }) (v := ?_) rfl (by kernel_rfl) (by kernel_rfl) (by kernel_rfl) (fun _ _ _ h => h) (by rfl) ?_ hh13 ?_
  rotate_left
  · (intro wq hSw; go_simp <;> with_reducible rfl)
  try simp only [Act.put, List.setIfInBounds_toArray, List.set_cons_zero, List.set_cons_succ]
  refine wpAnyH_done (by kernel_rfl) ?_ _
  have ZZ : Hid (Below U.heap.size U y13) := Z13
  clear bk1 bk2 bk3 bk4 bk5 bk6 bk7 bk8 bk9 bk10 bk11 bk12 bk13 Z1 Z2 Z3 Z4 Z5 Z6 Z7 Z8 Z9 Z10 Z11 Z12 Z13 hh13 hHeld TX TY TZ TV PA PR
  have OX1 : Hid (y13.ownsRow u1.heap.size 5 1 (.slice xa lx xc) lx (cellsOf (l ++ enc n))) := owns_keepB OX.out (E2.out.trans (ZZ.out.mono E2.out.size))
  have OY1 : Hid (y13.ownsRow u2.heap.size 5 1 (.slice ya' ly yc) ly (cellsOf (l ++ o.bytes))) := owns_keepB OY.out (E3.out.trans (ZZ.out.mono E3.out.size))
  have F1 : Hid (Below u1.heap.size u1 y13) := E1.out.trans (ZZ.out.mono E1.out.size)
  have F2 : Hid (Below u2.heap.size u2 y13) := E2.out.trans (ZZ.out.mono E2.out.size)
  go_wp2_with fail
  refine (spoil_row u1.heap.size (.slice xa lx xc) lx _ y13 OX1.out F1.out.size (by have := LN.out; omega)).mono ?_
  rintro e z1 ⟨⟨r1, rfl⟩, gz1⟩
  have G1 : Hid (Below u1.heap.size u1 z1) := F1.out.grown gz1 F1.out.size (fun k e => (OX1.out.lt k e).1)
  have OY2 : Hid (z1.ownsRow u2.heap.size 5 1 (.slice ya' ly yc) ly (cellsOf (l ++ o.bytes))) := OY1.out.kept gz1 (by
    by_cases hy : (Value.slice ya' ly yc).ownBlock = none
    · exact .inl hy
    · right
      intro e
      cases hx : (Value.slice xa lx xc).ownBlock with
      | none => rw [hx] at e; exact hy e
      | some k =>
        have h1 := (OX.out.lt k hx).2
        have h2 := (OY1.out.lt k (by rw [e, hx])).1
        omega)
  have szz : y13.heap.size ≤ z1.heap.size := gz1.size
  clear gz1
  go_wp2_with fail
  refine (spoil_row u2.heap.size (.slice ya' ly yc) ly _ z1 OY2.out (Nat.le_trans F2.out.size szz) (by have := LO.out; omega)).mono ?_
  rintro e z2 ⟨⟨r2, rfl⟩, gz2⟩
  have G2 : Hid (Below u1.heap.size u1 z2) := G1.out.grown gz2 G1.out.size (fun k e => Nat.le_trans D12.out (OY2.out.lt k e).1)
  have OW2 : Hid (z2.ownsRow w1.heap.size 5 1 (.slice (some ⟨g, 0, none⟩) (l.length + 1) oc) (l.length + 1) (cellsOf (l ++ [167#8]))) := owns_keepB OW.out G2.out
  have G3 : Hid (Below w1.heap.size w1 z2) := U1.out.trans (G2.out.mono U1.out.size)
  clear gz2
  go_wp2_with fail
  refine (kept_any g oc l.length l ba bc z2 w1.heap.size OW2.out (SB.out z2 G3.out) (by have := HBL.out; omega)).mono ?_
  rintro e z3 ⟨rfl, rfl⟩
  go_wp2_with fail
  refine (KN.out _ G3.out).mono ?_
  rintro e z4 ⟨rfl, b4⟩
  go_wp2
  go_ret
  exact ⟨rfl, B1.out.trans (b4.mono B1.out.size)⟩
end Go.Proofs.YtfdlgiomnmnhgaaDoor
