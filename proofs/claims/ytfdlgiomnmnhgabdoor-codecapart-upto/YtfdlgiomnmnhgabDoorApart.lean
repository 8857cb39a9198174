/- The statement CodecApart: the walk. -/
import Derived.Test.YtfdlgiomnmnhgabDoorSteps
import Derived.Test.YtfdlgiomnmnhgabDoorSame2
import Derived.Test.YtfdlgiomnmnhgabDoorInj
import Derived.Test.YtfdlgiomnmnhgabDoorKnownC
import Derived.Laws.Tables
namespace Go.Proofs.YtfdlgiomnmnhgabDoor
open Go.RowKit Cod
set_option linter.unusedVariables false

theorem text_beq (s t : ByteArray) : (s.toList == t.toList) = true ↔ s = t := by
  by_cases h : s = t
  · subst h; simp
  · simp [text_ne h, h]
theorem toList_inj {s t : ByteArray} : s.toList = t.toList ↔ s = t := ⟨fun h => (text_beq s t).1 (by rw [h]; simp), fun h => by rw [h]⟩
theorem op_chain {α : Type} (o p : OpD) (q : Bool) (h : q = true ↔ o = p) (x y : α) : (if o.kind = p.kind then if o.src.toList = p.src.toList then if o.dst.toList = p.dst.toList then if o.amount = p.amount then if o.key.toList = p.key.toList then if o.slot = p.slot then if o.shard = p.shard then x else y else y else y else y else y else y else y) = if q = true then x else y := by
  obtain ⟨k1, s1, d1, a1, y1, t1, z1⟩ := o
  obtain ⟨k2, s2, d2, a2, y2, t2, z2⟩ := p
  simp only [OpD.mk.injEq] at h
  simp only [toList_inj, h]
  by_cases e1 : k1 = k2 <;> by_cases e2 : s1 = s2 <;> by_cases e3 : d1 = d2 <;> by_cases e4 : a1 = a2 <;> by_cases e5 : y1 = y2 <;> by_cases e6 : t1 = t2 <;> by_cases e7 : z1 = z2 <;> simp [e1, e2, e3, e4, e5, e6, e7]
theorem op_len (o : OpD) (ho : o.ok) (h : o.size ≤ 1099511627776) : o.bytes.length ≤ o.size + 70 := by
  simp only [OpD.size] at h
  have e1 := enc_ten (zig_lt o.kind ho.kind)
  have e2 := sz_le o.src (by omega)
  have e3 := sz_le o.dst (by omega)
  have e4 := enc_ten (zig_lt o.amount ho.amount)
  have e5 := sz_le o.key (by omega)
  have e6 := enc_ten (zig_lt o.slot ho.slot)
  have e7 := enc_ten (zig_lt o.shard ho.shard)
  simp only [OpD.bytes, List.length_append, OpD.size]
  omega
theorem reply_len {y m : Int} {A : List (ByteArray × Int)} (hy : i64ok y) (hm : i64ok m) (hA : ∀ r ∈ A, i64ok r.2) (hl : A.length < 18446744073709551616) (h : rowsSize A ≤ 1099511627776) : (replyB y m A).length ≤ rowsSize A + 30 := by
  have e1 := enc_ten (zig_lt y hy)
  have e2 := enc_ten (zig_lt m hm)
  have e3 := enc_ten hl
  have e4 := rowsB_le A (fun r hr => ⟨hA r hr, by have := rowsSize_mem hr; omega⟩)
  simp only [replyB, List.length_append]
  omega
/-- The six boxes. -/
structure Boxes (w0 w : World) (c0 c1 c2 c3 c4 c5 : Array Value) : Prop where
  b0 : w.heap[w0.heap.size]? = some (.cells c0 23 (0, 0))
  b1 : w.heap[w0.heap.size + 1]? = some (.cells c1 23 (0, 0))
  b2 : w.heap[w0.heap.size + 2]? = some (.cells c2 27 (0, 0))
  b3 : w.heap[w0.heap.size + 3]? = some (.cells c3 27 (0, 0))
  b4 : w.heap[w0.heap.size + 4]? = some (.cells c4 31 (0, 0))
  b5 : w.heap[w0.heap.size + 5]? = some (.cells c5 31 (0, 0))
theorem Boxes.below {w0 w w' : World} {c0 c1 c2 c3 c4 c5 : Array Value} (h : Boxes w0 w c0 c1 c2 c3 c4 c5) (hb : Below w.heap.size w w') : Boxes w0 w' c0 c1 c2 c3 c4 c5 :=
  ⟨(hb.block _ (Array.getElem?_eq_some_iff.1 h.b0).1).trans h.b0, (hb.block _ (Array.getElem?_eq_some_iff.1 h.b1).1).trans h.b1, (hb.block _ (Array.getElem?_eq_some_iff.1 h.b2).1).trans h.b2, (hb.block _ (Array.getElem?_eq_some_iff.1 h.b3).1).trans h.b3, (hb.block _ (Array.getElem?_eq_some_iff.1 h.b4).1).trans h.b4, (hb.block _ (Array.getElem?_eq_some_iff.1 h.b5).1).trans h.b5⟩
theorem box_at (w : World) (o : Obj) (n : Nat) (h : w.heap.size = n) : (w.alloc o).heap[n]? = some o := by rw [← h]; exact heap_alloc_new w o
theorem boxes_new (w : World) (c0 c1 c2 c3 c4 c5 : Array Value) : Boxes w ((((((w.alloc (.cells c0 23)).alloc (.cells c1 23)).alloc (.cells c2 27)).alloc (.cells c3 27)).alloc (.cells c4 31)).alloc (.cells c5 31)) c0 c1 c2 c3 c4 c5 where
  b0 := by rw [Below.heap_alloc _ _ _ (by simp <;> omega)]; rw [Below.heap_alloc _ _ _ (by simp <;> omega)]; rw [Below.heap_alloc _ _ _ (by simp <;> omega)]; rw [Below.heap_alloc _ _ _ (by simp <;> omega)]; rw [Below.heap_alloc _ _ _ (by simp <;> omega)]; exact box_at _ _ _ (by simp)
  b1 := by rw [Below.heap_alloc _ _ _ (by simp <;> omega)]; rw [Below.heap_alloc _ _ _ (by simp <;> omega)]; rw [Below.heap_alloc _ _ _ (by simp <;> omega)]; rw [Below.heap_alloc _ _ _ (by simp <;> omega)]; exact box_at _ _ _ (by simp)
  b2 := by rw [Below.heap_alloc _ _ _ (by simp <;> omega)]; rw [Below.heap_alloc _ _ _ (by simp <;> omega)]; rw [Below.heap_alloc _ _ _ (by simp <;> omega)]; exact box_at _ _ _ (by simp)
  b3 := by rw [Below.heap_alloc _ _ _ (by simp <;> omega)]; rw [Below.heap_alloc _ _ _ (by simp <;> omega)]; exact box_at _ _ _ (by simp)
  b4 := by rw [Below.heap_alloc _ _ _ (by simp <;> omega)]; exact box_at _ _ _ (by simp)
  b5 := by exact box_at _ _ _ (by simp)
theorem below_new (w : World) (c0 c1 c2 c3 c4 c5 : Array Value) : Below w.heap.size w ((((((w.alloc (.cells c0 23)).alloc (.cells c1 23)).alloc (.cells c2 27)).alloc (.cells c3 27)).alloc (.cells c4 31)).alloc (.cells c5 31)) :=
  ((((((Below.refl _ w).alloc (Nat.le_refl _) _).alloc (by simp <;> omega) _).alloc (by simp <;> omega) _).alloc (by simp <;> omega) _).alloc (by simp <;> omega) _).alloc (by simp <;> omega) _
set_option maxRecDepth 100000 in
set_option maxHeartbeats 6400000 in
theorem apart_walk (o p : OpD) (ya ma yb mb : Int) (ra rb : Option Addr) (rn rc sn rd : Nat) (A B : List (ByteArray × Int)) (h k : HeadD) (ea fa : Option Addr) (en ec fn fc : Nat) (E F : List (Int × List (BitVec 8))) (da ga : Option Addr) (dn dc gn gc : Nat) (D G : List (BitVec 8)) (w : World) (hT : Tabs w)
    (ho : o.ok) (hp : p.ok) (hso : o.size ≤ 1099511627776) (hsp : p.size ≤ 1099511627776) (hya : i64ok ya) (hma : i64ok ma) (hyb : i64ok yb) (hmb : i64ok mb) (hA : ∀ r ∈ A, i64ok r.2) (hB : ∀ r ∈ B, i64ok r.2) (hRA : RowsAt w ra rn A) (hRB : RowsAt w rb sn B) (hzA : rowsSize A ≤ 1099511627776) (hzB : rowsSize B ≤ 1099511627776)
    (hh : h.fine) (hk : k.fine) (hE : ∀ e ∈ E, i64ok e.1) (hF : ∀ e ∈ F, i64ok e.1) (hEA : EntsAt w ea en E) (hFA : EntsAt w fa fn F) (hEm : en ≤ 140737488355328) (hD : Seen w da dn D) (hG : Seen w ga gn G) (hdn : da = none → dc = 0) (hgn : ga = none → gc = 0) :
    Calls Tryd.prog 3 #[o.val, p.val, .agg #[.int .i64 ya, .int .i64 ma, .slice ra rn rc], .agg #[.int .i64 yb, .int .i64 mb, .slice rb sn rd], h.val (.slice ea en ec) (.slice da dn dc), k.val (.slice fa fn fc) (.slice ga gn gc)] w fun e w' => e = .returned (.bool true) ∧ Below w.heap.size w w' := by
  obtain rfl : rn = A.length := hRA.1
  obtain rfl : sn = B.length := hRB.1
  obtain rfl : en = E.length := hEA.1
  obtain rfl : fn = F.length := hFA.1
  obtain rfl : dn = D.length := hD.1
  obtain rfl : gn = G.length := hG.1
  have hbx := boxes_new w #[.int .i64 o.kind, .string o.src, .string o.dst, .int .i64 o.amount, .string o.key, .int .i64 o.slot, .int .i64 o.shard] #[.int .i64 p.kind, .string p.src, .string p.dst, .int .i64 p.amount, .string p.key, .int .i64 p.slot, .int .i64 p.shard] #[.int .i64 ya, .int .i64 ma, .slice ra A.length rc] #[.int .i64 yb, .int .i64 mb, .slice rb B.length rd] #[.int .i64 h.kind, .int .i64 h.group, .int .i64 h.src, .int .i64 h.dst, .int .i64 h.term, .int .i64 h.index, .int .i64 h.logTerm, .int .i64 h.commit, .bool h.ok, .slice ea E.length ec, .slice da D.length dc] #[.int .i64 k.kind, .int .i64 k.group, .int .i64 k.src, .int .i64 k.dst, .int .i64 k.term, .int .i64 k.index, .int .i64 k.logTerm, .int .i64 k.commit, .bool k.ok, .slice fa F.length fc, .slice ga G.length gc]
  have hbl := below_new w #[.int .i64 o.kind, .string o.src, .string o.dst, .int .i64 o.amount, .string o.key, .int .i64 o.slot, .int .i64 o.shard] #[.int .i64 p.kind, .string p.src, .string p.dst, .int .i64 p.amount, .string p.key, .int .i64 p.slot, .int .i64 p.shard] #[.int .i64 ya, .int .i64 ma, .slice ra A.length rc] #[.int .i64 yb, .int .i64 mb, .slice rb B.length rd] #[.int .i64 h.kind, .int .i64 h.group, .int .i64 h.src, .int .i64 h.dst, .int .i64 h.term, .int .i64 h.index, .int .i64 h.logTerm, .int .i64 h.commit, .bool h.ok, .slice ea E.length ec, .slice da D.length dc] #[.int .i64 k.kind, .int .i64 k.group, .int .i64 k.src, .int .i64 k.dst, .int .i64 k.term, .int .i64 k.index, .int .i64 k.logTerm, .int .i64 k.commit, .bool k.ok, .slice fa F.length fc, .slice ga G.length gc]
  generalize hw1 : ((((((w.alloc (.cells #[.int .i64 o.kind, .string o.src, .string o.dst, .int .i64 o.amount, .string o.key, .int .i64 o.slot, .int .i64 o.shard] 23)).alloc (.cells #[.int .i64 p.kind, .string p.src, .string p.dst, .int .i64 p.amount, .string p.key, .int .i64 p.slot, .int .i64 p.shard] 23)).alloc (.cells #[.int .i64 ya, .int .i64 ma, .slice ra A.length rc] 27)).alloc (.cells #[.int .i64 yb, .int .i64 mb, .slice rb B.length rd] 27)).alloc (.cells #[.int .i64 h.kind, .int .i64 h.group, .int .i64 h.src, .int .i64 h.dst, .int .i64 h.term, .int .i64 h.index, .int .i64 h.logTerm, .int .i64 h.commit, .bool h.ok, .slice ea E.length ec, .slice da D.length dc] 31)).alloc (.cells #[.int .i64 k.kind, .int .i64 k.group, .int .i64 k.src, .int .i64 k.dst, .int .i64 k.term, .int .i64 k.index, .int .i64 k.logTerm, .int .i64 k.commit, .bool k.ok, .slice fa F.length fc, .slice ga G.length gc] 31)) = w1 at hbx hbl
  have HW : Hid _ := hw1
  have BX : Hid (Boxes w w1 #[.int .i64 o.kind, .string o.src, .string o.dst, .int .i64 o.amount, .string o.key, .int .i64 o.slot, .int .i64 o.shard] #[.int .i64 p.kind, .string p.src, .string p.dst, .int .i64 p.amount, .string p.key, .int .i64 p.slot, .int .i64 p.shard] #[.int .i64 ya, .int .i64 ma, .slice ra A.length rc] #[.int .i64 yb, .int .i64 mb, .slice rb B.length rd] #[.int .i64 h.kind, .int .i64 h.group, .int .i64 h.src, .int .i64 h.dst, .int .i64 h.term, .int .i64 h.index, .int .i64 h.logTerm, .int .i64 h.commit, .bool h.ok, .slice ea E.length ec, .slice da D.length dc] #[.int .i64 k.kind, .int .i64 k.group, .int .i64 k.src, .int .i64 k.dst, .int .i64 k.term, .int .i64 k.index, .int .i64 k.logTerm, .int .i64 k.commit, .bool k.ok, .slice fa F.length fc, .slice ga G.length gc]) := hbx
  have B1 : Hid (Below w.heap.size w w1) := hbl
  have sz1 : w1.heap.size = w.heap.size + 6 := by rw [← hw1]; simp
  have HT : Hid (Tabs w1) := hT.below hbl hT.size
  have MA : Hid (∀ w', Below w1.heap.size w1 w' → Calls Tryd.prog 6 #[h.val (.slice ea E.length ec) (.slice da D.length dc)] w' fun e w'' => MsgTold w' w'' h E D e ∧ Below w'.heap.size w' w'') := fun w' hb => msg_any h hh ea E.length ec E hE da D.length dc D w' ((hEA.below hbl).below hb) ((hD.below hbl).below hb) hdn
  have MB : Hid (∀ w', Below w1.heap.size w1 w' → Calls Tryd.prog 6 #[k.val (.slice fa F.length fc) (.slice ga G.length gc)] w' fun e w'' => MsgTold w' w'' k F G e ∧ Below w'.heap.size w' w'') := fun w' hb => msg_any k hk fa F.length fc F hF ga G.length gc G w' ((hFA.below hbl).below hb) ((hG.below hbl).below hb) hgn
  have MS : Hid (∀ w', Below w1.heap.size w1 w' → Calls Tryd.prog 7 #[h.val (.slice ea E.length ec) (.slice da D.length dc), k.val (.slice fa F.length fc) (.slice ga G.length gc)] w' fun e w'' => ∃ r : Bool, e = .returned (.bool r) ∧ (r = true ↔ h = k ∧ E = F ∧ D = G) ∧ Below w'.heap.size w' w'') := fun w' hb => sameMsg_any h k ea fa E.length ec F.length fc E F da ga D.length dc G.length gc D G w' ((hEA.below hbl).below hb) ((hFA.below hbl).below hb) hEm ((hD.below hbl).below hb) ((hG.below hbl).below hb)
  have PO : Hid (∀ w', Calls Tryd.prog 8 #[.slice none 0 0, o.val] w' fun e w'' => ∃ v, e = .returned v ∧ w''.ownsRow w'.heap.size 5 1 v o.bytes.length (cellsOf o.bytes) ∧ Below w'.heap.size w' w'') := fun w' => by
    have := putOp_any none 0 0 [] o ho w' ⟨rfl, by simp, .inl rfl⟩ (fun _ => rfl) (by omega)
    simp only [Nat.zero_add, List.nil_append] at this
    exact this
  have PP : Hid (∀ w', Calls Tryd.prog 8 #[.slice none 0 0, p.val] w' fun e w'' => ∃ v, e = .returned v ∧ w''.ownsRow w'.heap.size 5 1 v p.bytes.length (cellsOf p.bytes) ∧ Below w'.heap.size w' w'') := fun w' => by
    have := putOp_any none 0 0 [] p hp w' ⟨rfl, by simp, .inl rfl⟩ (fun _ => rfl) (by omega)
    simp only [Nat.zero_add, List.nil_append] at this
    exact this
  have RA : Hid (∀ w', Below w1.heap.size w1 w' → Calls Tryd.prog 9 #[.slice none 0 0, .agg #[.int .i64 ya, .int .i64 ma, .slice ra A.length rc]] w' fun e w'' => ∃ v, e = .returned v ∧ w''.ownsRow w'.heap.size 5 1 v (replyB ya ma A).length (cellsOf (replyB ya ma A)) ∧ Below w'.heap.size w' w'') := fun w' hb => by
    have := putReply_any none 0 0 [] ya ma ra A.length rc A hya hma hA w' ⟨rfl, by simp, .inl rfl⟩ (fun _ => rfl) ((hRA.below hbl).below hb) (by omega)
    simp only [Nat.zero_add, List.nil_append] at this
    exact this
  have RB : Hid (∀ w', Below w1.heap.size w1 w' → Calls Tryd.prog 9 #[.slice none 0 0, .agg #[.int .i64 yb, .int .i64 mb, .slice rb B.length rd]] w' fun e w'' => ∃ v, e = .returned v ∧ w''.ownsRow w'.heap.size 5 1 v (replyB yb mb B).length (cellsOf (replyB yb mb B)) ∧ Below w'.heap.size w' w'') := fun w' hb => by
    have := putReply_any none 0 0 [] yb mb rb B.length rd B hyb hmb hB w' ⟨rfl, by simp, .inl rfl⟩ (fun _ => rfl) ((hRB.below hbl).below hb) (by omega)
    simp only [Nat.zero_add, List.nil_append] at this
    exact this
  have RS : Hid (∀ w', Below w1.heap.size w1 w' → Calls Tryd.prog 10 #[.agg #[.int .i64 ya, .int .i64 ma, .slice ra A.length rc], .agg #[.int .i64 yb, .int .i64 mb, .slice rb B.length rd]] w' fun e w'' => e = .returned (.bool (decide (ya = yb ∧ ma = mb ∧ A = B))) ∧ Below w'.heap.size w' w'') := fun w' hb => sameReply_any ra rb A.length rc B.length rd A B ya ma yb mb w' ((hRA.below hbl).below hb) ((hRB.below hbl).below hb)
  have KN : Hid (∀ w', Below w1.heap.size w1 w' → Calls Tryd.prog 11 #[] w' fun e w'' => e = .returned (.bool true) ∧ Below w'.heap.size w' w'') := fun w' hb => known_any w' (HT.out.below hb HT.out.size)
  have IO : Hid (o.bytes = p.bytes ↔ o = p) := ⟨fun e => op_inj ho hp (by omega) (by omega) e, fun e => by rw [e]⟩
  have IR : Hid (replyB ya ma A = replyB yb mb B ↔ ya = yb ∧ ma = mb ∧ A = B) := ⟨fun e => reply_inj hya hma hyb hmb (by have := hRA.2.1; omega) (by have := hRB.2.1; omega) (fun r hr => ⟨hA r hr, by have := rowsSize_mem hr; omega⟩) (fun r hr => ⟨hB r hr, by have := rowsSize_mem hr; omega⟩) e, fun ⟨e1, e2, e3⟩ => by rw [e1, e2, e3]⟩
  have IM : Hid (msgFits h E D → msgFits k F G → (msgB h E D = msgB k F G ↔ h = k ∧ E = F ∧ D = G)) := fun fa fb => ⟨fun e => msg_inj hh hk hE hF fa fb e, fun ⟨e1, e2, e3⟩ => by rw [e1, e2, e3]⟩
  have HZ1 : Hid (o.bytes.length ≤ 1099511628000) := by have := op_len o ho hso; show _ ≤ _; omega
  have HZ2 : Hid (p.bytes.length ≤ 1099511628000) := by have := op_len p hp hsp; show _ ≤ _; omega
  have HZ3 : Hid ((replyB ya ma A).length ≤ 1099511628000) := by have := reply_len hya hma hA (by have := hRA.2.1; omega) hzA; show _ ≤ _; omega
  have HZ4 : Hid ((replyB yb mb B).length ≤ 1099511628000) := by have := reply_len hyb hmb hB (by have := hRB.2.1; omega) hzB; show _ ≤ _; omega
  obtain ⟨qo, HC, hqo⟩ : ∃ qo : Bool, Hid (qo = true ↔ o = p) ∧ ((textOf o.bytes).toList == (textOf p.bytes).toList) = qo := by
    by_cases e : o = p
    · exact ⟨true, ⟨fun _ => e, fun _ => rfl⟩, by rw [e]; simp⟩
    · exact ⟨false, ⟨(fun h => by cases h), fun h => absurd h e⟩, text_ne (fun e' => e (IO.out.1 (textOf_inj e')))⟩
  obtain ⟨qr, HRQ, hqr⟩ : ∃ qr : Bool, Hid (decide (ya = yb ∧ ma = mb ∧ A = B) = qr) ∧ ((textOf (replyB ya ma A)).toList == (textOf (replyB yb mb B)).toList) = qr := by
    by_cases e : ya = yb ∧ ma = mb ∧ A = B
    · refine ⟨true, decide_eq_true e, by rw [e.1, e.2.1, e.2.2]; simp⟩
    · refine ⟨false, decide_eq_false e, text_ne (fun e' => e (IR.out.1 (textOf_inj e')))⟩
  clear hT ho hp hso hsp hya hma hyb hmb hA hB hRA hRB hzA hzB hh hk hE hF hEA hFA hEm hD hG hdn hgn hbx hbl hw1
  show Calls Tryd.prog 3 #[.agg #[.int .i64 o.kind, .string o.src, .string o.dst, .int .i64 o.amount, .string o.key, .int .i64 o.slot, .int .i64 o.shard], .agg #[.int .i64 p.kind, .string p.src, .string p.dst, .int .i64 p.amount, .string p.key, .int .i64 p.slot, .int .i64 p.shard], .agg #[.int .i64 ya, .int .i64 ma, .slice ra A.length rc], .agg #[.int .i64 yb, .int .i64 mb, .slice rb B.length rd], .agg #[.int .i64 h.kind, .int .i64 h.group, .int .i64 h.src, .int .i64 h.dst, .int .i64 h.term, .int .i64 h.index, .int .i64 h.logTerm, .int .i64 h.commit, .bool h.ok, .slice ea E.length ec, .slice da D.length dc], .agg #[.int .i64 k.kind, .int .i64 k.group, .int .i64 k.src, .int .i64 k.dst, .int .i64 k.term, .int .i64 k.index, .int .i64 k.logTerm, .int .i64 k.commit, .bool k.ok, .slice fa F.length fc, .slice ga G.length gc]] w _
  go_enter Tryd.func3, Tryd.ntmps3
  go_wp2_with (first
    | (rw [HW.out]; refine wpList_load_row rfl 31 (.tmp 10) rfl (w.heap.size + 4) rfl 31 _ (0, 0) _ BX.out.b4 Tryd.underlying31 rfl (by kernel_rfl) ?_))
  refine (MA.out w1 (Below.refl _ _)).mono ?_
  rintro e w2 ⟨t2, b2⟩
  have B2 : Hid (Below w1.heap.size w1 w2) := b2
  have X2 : Hid (Boxes w w2 #[.int .i64 o.kind, .string o.src, .string o.dst, .int .i64 o.amount, .string o.key, .int .i64 o.slot, .int .i64 o.shard] #[.int .i64 p.kind, .string p.src, .string p.dst, .int .i64 p.amount, .string p.key, .int .i64 p.slot, .int .i64 p.shard] #[.int .i64 ya, .int .i64 ma, .slice ra A.length rc] #[.int .i64 yb, .int .i64 mb, .slice rb B.length rd] #[.int .i64 h.kind, .int .i64 h.group, .int .i64 h.src, .int .i64 h.dst, .int .i64 h.term, .int .i64 h.index, .int .i64 h.logTerm, .int .i64 h.commit, .bool h.ok, .slice ea E.length ec, .slice da D.length dc] #[.int .i64 k.kind, .int .i64 k.group, .int .i64 k.src, .int .i64 k.dst, .int .i64 k.term, .int .i64 k.index, .int .i64 k.logTerm, .int .i64 k.commit, .bool k.ok, .slice fa F.length fc, .slice ga G.length gc]) := BX.out.below b2
  clear b2 HW BX MA
  obtain ⟨x, n1, rfl, T2⟩ : ∃ (x : Value) (n1 : Int), e = .returned (.tuple #[x, .int .i64 n1]) ∧ Hid ((n1 = 0 ∧ msgFits h E D ∧ w2.ownsRow w1.heap.size 5 1 x (msgB h E D).length (cellsOf (msgB h E D))) ∨ n1 = 3) := by
    rcases t2 with ⟨hf, v, rfl, ov⟩ | ⟨hf, rfl⟩
    · exact ⟨v, 0, rfl, .inl ⟨rfl, hf, ov⟩⟩
    · exact ⟨_, 3, rfl, .inr rfl⟩
  clear t2
  go_wp2_with (first
    | (refine wpList_load_row rfl 31 (.tmp 11) rfl (w.heap.size + 5) rfl 31 _ (0, 0) _ X2.out.b5 Tryd.underlying31 rfl (by kernel_rfl) ?_))
  refine (MB.out w2 B2.out).mono ?_
  rintro e w3 ⟨t3, b3⟩
  have B3 : Hid (Below w1.heap.size w1 w3) := B2.out.trans (b3.mono B2.out.size)
  have X3 : Hid (Boxes w w3 #[.int .i64 o.kind, .string o.src, .string o.dst, .int .i64 o.amount, .string o.key, .int .i64 o.slot, .int .i64 o.shard] #[.int .i64 p.kind, .string p.src, .string p.dst, .int .i64 p.amount, .string p.key, .int .i64 p.slot, .int .i64 p.shard] #[.int .i64 ya, .int .i64 ma, .slice ra A.length rc] #[.int .i64 yb, .int .i64 mb, .slice rb B.length rd] #[.int .i64 h.kind, .int .i64 h.group, .int .i64 h.src, .int .i64 h.dst, .int .i64 h.term, .int .i64 h.index, .int .i64 h.logTerm, .int .i64 h.commit, .bool h.ok, .slice ea E.length ec, .slice da D.length dc] #[.int .i64 k.kind, .int .i64 k.group, .int .i64 k.src, .int .i64 k.dst, .int .i64 k.term, .int .i64 k.index, .int .i64 k.logTerm, .int .i64 k.commit, .bool k.ok, .slice fa F.length fc, .slice ga G.length gc]) := X2.out.below b3
  obtain ⟨y, n2, rfl, T3⟩ : ∃ (y : Value) (n2 : Int), e = .returned (.tuple #[y, .int .i64 n2]) ∧ Hid ((n2 = 0 ∧ msgFits k F G ∧ w3.ownsRow w2.heap.size 5 1 y (msgB k F G).length (cellsOf (msgB k F G))) ∨ n2 = 3) := by
    rcases t3 with ⟨hf, v, rfl, ov⟩ | ⟨hf, rfl⟩
    · exact ⟨v, 0, rfl, .inl ⟨rfl, hf, ov⟩⟩
    · exact ⟨_, 3, rfl, .inr rfl⟩
  clear t3 MB X2
  have BB : Hid (Below w2.heap.size w2 w3) := b3
  clear b3
  have go5 : ∃ r : Bool, r = true ∧ r = true := ⟨true, rfl, rfl⟩
  rcases T2.out with ⟨rfl, f1, o1⟩ | rfl
  · rcases T3.out with ⟨rfl, f2, o2⟩ | rfl
    · obtain ⟨a1, c1, rfl, s1, _, _⟩ := owned_seen o1 (by have := f1.2.2.2; unfold maxLen; omega)
      obtain ⟨a2, c2, rfl, s2, _, _⟩ := owned_seen o2 (by have := f2.2.2.2; unfold maxLen; omega)
      have S1 : Hid (∀ w', Below w3.heap.size w3 w' → (convert 29 9 (.slice a1 (msgB h E D).length c1)).run Tryd.prog w' = .ok (.string (textOf (msgB h E D))) w') := fun w' hb => run_to_text w' a1 _ c1 _ ((s1.below BB.out).below hb)
      have S2 : Hid (∀ w', Below w3.heap.size w3 w' → (convert 29 9 (.slice a2 (msgB k F G).length c2)).run Tryd.prog w' = .ok (.string (textOf (msgB k F G))) w') := fun w' hb => run_to_text w' a2 _ c2 _ (s2.below hb)
      have XX : Hid (∀ w', Below w3.heap.size w3 w' → Boxes w w' #[.int .i64 o.kind, .string o.src, .string o.dst, .int .i64 o.amount, .string o.key, .int .i64 o.slot, .int .i64 o.shard] #[.int .i64 p.kind, .string p.src, .string p.dst, .int .i64 p.amount, .string p.key, .int .i64 p.slot, .int .i64 p.shard] #[.int .i64 ya, .int .i64 ma, .slice ra A.length rc] #[.int .i64 yb, .int .i64 mb, .slice rb B.length rd] #[.int .i64 h.kind, .int .i64 h.group, .int .i64 h.src, .int .i64 h.dst, .int .i64 h.term, .int .i64 h.index, .int .i64 h.logTerm, .int .i64 h.commit, .bool h.ok, .slice ea E.length ec, .slice da D.length dc] #[.int .i64 k.kind, .int .i64 k.group, .int .i64 k.src, .int .i64 k.dst, .int .i64 k.term, .int .i64 k.index, .int .i64 k.logTerm, .int .i64 k.commit, .bool k.ok, .slice fa F.length fc, .slice ga G.length gc]) := fun w' hb => X3.out.below hb
      have IX := IM.out f1 f2
      obtain ⟨q, hq, HQ⟩ : ∃ q : Bool, ((textOf (msgB h E D)).toList == (textOf (msgB k F G)).toList) = q ∧ Hid (q = true ↔ h = k ∧ E = F ∧ D = G) := by
        refine ⟨_, rfl, ?_⟩
        show _ ↔ _
        rw [text_beq, ← IX]
        exact ⟨fun e => textOf_inj e, fun e => by rw [e]⟩
      clear s1 s2 o1 o2 f1 f2 T2 T3 IM IX
      generalize textOf (msgB h E D) = t1 at *
      generalize textOf (msgB k F G) = t2 at *
      generalize (msgB h E D).length = l1 at *
      generalize (msgB k F G).length = l2 at *
      go_wp2_with fail
      refine wp_region_held_drew (S := fun w' => Below w3.heap.size w3 w') (by kernel_rfl) (Below.drew (Below.refl _ w3)) (fun hHeld => ?_)
      refine take_run (i := 0) (oi := { dst := some 27, op := Go.Op.move (Go.Operand.tmp 14), type := 24, pos := "law.go:190", after := #[], guard := none }) (v := ?_) rfl (by kernel_rfl) (by kernel_rfl) (by kernel_rfl) (fun _ _ _ h => h) (by rfl) ?_ hHeld ?_
      rotate_left
      · (intro wq hSw; go_simp <;> with_reducible rfl)
      try simp only [Act.put, List.setIfInBounds_toArray, List.set_cons_zero, List.set_cons_succ]
      refine take_run (i := 1) (oi := { dst := some 28, op := Go.Op.binOp Go.BinOp.eql 24 (Go.Operand.tmp 27) (Go.Operand.const (Go.Value.int Go.IntKind.i64 0)) 24, type := 4, pos := "law.go:190", after := #[{ on := 0, ground := Go.Ground.data }], guard := none }) (v := ?_) rfl (by kernel_rfl) (by kernel_rfl) (by kernel_rfl) (fun _ _ _ h => h) (by rfl) ?_ hHeld ?_
      rotate_left
      · (intro wq hSw; go_simp <;> with_reducible rfl)
      try simp only [Act.put, List.setIfInBounds_toArray, List.set_cons_zero, List.set_cons_succ]
      refine take_run (i := 2) (oi := { dst := some 29, op := Go.Op.move (Go.Operand.tmp 28), type := 4, pos := "law.go:190", after := #[{ on := 1, ground := Go.Ground.data }], guard := none }) (v := ?_) rfl (by kernel_rfl) (by kernel_rfl) (by kernel_rfl) (fun _ _ _ h => h) (by rfl) ?_ hHeld ?_
      rotate_left
      · (intro wq hSw; go_simp <;> with_reducible rfl)
      try simp only [Act.put, List.setIfInBounds_toArray, List.set_cons_zero, List.set_cons_succ]
      refine take_run (i := 3) (oi := { dst := some 30, op := Go.Op.move (Go.Operand.tmp 16), type := 24, pos := "law.go:190", after := #[{ on := 2, ground := Go.Ground.guard }], guard := some (2, true) }) (v := ?_) rfl (by kernel_rfl) (by kernel_rfl) (by kernel_rfl) (fun _ _ _ h => h) (by rfl) ?_ hHeld ?_
      rotate_left
      · (intro wq hSw; go_simp <;> with_reducible rfl)
      try simp only [Act.put, List.setIfInBounds_toArray, List.set_cons_zero, List.set_cons_succ]
      refine take_run (i := 4) (oi := { dst := some 31, op := Go.Op.binOp Go.BinOp.eql 24 (Go.Operand.tmp 30) (Go.Operand.const (Go.Value.int Go.IntKind.i64 0)) 24, type := 4, pos := "law.go:190", after := #[{ on := 3, ground := Go.Ground.data }, { on := 2, ground := Go.Ground.guard }], guard := some (2, true) }) (v := ?_) rfl (by kernel_rfl) (by kernel_rfl) (by kernel_rfl) (fun _ _ _ h => h) (by rfl) ?_ hHeld ?_
      rotate_left
      · (intro wq hSw; go_simp <;> with_reducible rfl)
      try simp only [Act.put, List.setIfInBounds_toArray, List.set_cons_zero, List.set_cons_succ]
      refine take_run (i := 5) (oi := { dst := some 32, op := Go.Op.pick (Go.Operand.tmp 29) (Go.Operand.tmp 31) (Go.Operand.const (Go.Value.bool false)), type := 4, pos := "law.go:190", after := #[{ on := 2, ground := Go.Ground.data }, { on := 4, ground := Go.Ground.data }], guard := none }) (v := ?_) rfl (by kernel_rfl) (by kernel_rfl) (by kernel_rfl) (fun _ _ _ h => h) (by rfl) ?_ hHeld ?_
      rotate_left
      · (intro wq hSw; go_simp <;> with_reducible rfl)
      try simp only [Act.put, List.setIfInBounds_toArray, List.set_cons_zero, List.set_cons_succ]
      refine take_run (i := 6) (oi := { dst := some 33, op := Go.Op.move (Go.Operand.tmp 32), type := 4, pos := "law.go:190", after := #[{ on := 5, ground := Go.Ground.data }, { on := 2, ground := Go.Ground.chain }], guard := none }) (v := ?_) rfl (by kernel_rfl) (by kernel_rfl) (by kernel_rfl) (fun _ _ _ h => h) (by rfl) ?_ hHeld ?_
      rotate_left
      · (intro wq hSw; go_simp <;> with_reducible rfl)
      try simp only [Act.put, List.setIfInBounds_toArray, List.set_cons_zero, List.set_cons_succ]
      refine take_run (i := 7) (oi := { dst := some 34, op := Go.Op.move (Go.Operand.tmp 13), type := 29, pos := "law.go:190", after := #[{ on := 6, ground := Go.Ground.guard }], guard := some (6, true) }) (v := ?_) rfl (by kernel_rfl) (by kernel_rfl) (by kernel_rfl) (fun _ _ _ h => h) (by rfl) ?_ hHeld ?_
      rotate_left
      · (intro wq hSw; go_simp <;> with_reducible rfl)
      try simp only [Act.put, List.setIfInBounds_toArray, List.set_cons_zero, List.set_cons_succ]
      refine take_text (i := 8) (oi := { dst := some 35, op := Go.Op.convert 29 9 (Go.Operand.tmp 34), type := 9, pos := "law.go:190", after := #[{ on := 7, ground := Go.Ground.data }, { on := 6, ground := Go.Ground.guard }], guard := some (6, true) }) rfl (by kernel_rfl) (by kernel_rfl) (by kernel_rfl) 29 9 (.tmp 34) _ _ (fun _ _ _ h => h) (by rfl) rfl rfl S1.out hHeld ?_
      try simp only [Act.put, List.setIfInBounds_toArray, List.set_cons_zero, List.set_cons_succ]
      refine take_run (i := 9) (oi := { dst := some 36, op := Go.Op.move (Go.Operand.tmp 15), type := 29, pos := "law.go:190", after := #[{ on := 6, ground := Go.Ground.guard }], guard := some (6, true) }) (v := ?_) rfl (by kernel_rfl) (by kernel_rfl) (by kernel_rfl) (fun _ _ _ h => h) (by rfl) ?_ hHeld ?_
      rotate_left
      · (intro wq hSw; go_simp <;> with_reducible rfl)
      try simp only [Act.put, List.setIfInBounds_toArray, List.set_cons_zero, List.set_cons_succ]
      refine take_text (i := 10) (oi := { dst := some 37, op := Go.Op.convert 29 9 (Go.Operand.tmp 36), type := 9, pos := "law.go:190", after := #[{ on := 9, ground := Go.Ground.data }, { on := 6, ground := Go.Ground.guard }], guard := some (6, true) }) rfl (by kernel_rfl) (by kernel_rfl) (by kernel_rfl) 29 9 (.tmp 36) _ _ (fun _ _ _ h => h) (by rfl) rfl rfl S2.out hHeld ?_
      try simp only [Act.put, List.setIfInBounds_toArray, List.set_cons_zero, List.set_cons_succ]
      refine take_run (i := 11) (oi := { dst := some 38, op := Go.Op.binOp Go.BinOp.eql 9 (Go.Operand.tmp 35) (Go.Operand.tmp 37) 9, type := 4, pos := "law.go:190", after := #[{ on := 8, ground := Go.Ground.data }, { on := 10, ground := Go.Ground.data }, { on := 6, ground := Go.Ground.guard }], guard := some (6, true) }) (v := ?_) rfl (by kernel_rfl) (by kernel_rfl) (by kernel_rfl) (fun _ _ _ h => h) (by rfl) ?_ hHeld ?_
      rotate_left
      · (intro wq hSw; go_simp <;> with_reducible rfl)
      try simp only [Act.put, List.setIfInBounds_toArray, List.set_cons_zero, List.set_cons_succ]
      refine take_row (i := 12) (oi := { dst := some 39, op := Go.Op.load 31 (Go.Operand.tmp 10), type := 31, pos := "law.go:190", after := #[{ on := 6, ground := Go.Ground.guard }], guard := some (6, true) }) rfl (by kernel_rfl) (by kernel_rfl) (by kernel_rfl) 31 (.tmp 10) (w.heap.size + 4) 31 _ (0, 0) _ (fun _ _ _ h => h) (by rfl) rfl rfl (fun w' hb => (XX.out w' hb).b4) Tryd.underlying31 rfl (by kernel_rfl) hHeld ?_
      try simp only [Act.put, List.setIfInBounds_toArray, List.set_cons_zero, List.set_cons_succ]
      refine take_row (i := 13) (oi := { dst := some 40, op := Go.Op.load 31 (Go.Operand.tmp 11), type := 31, pos := "law.go:190", after := #[{ on := 6, ground := Go.Ground.guard }], guard := some (6, true) }) rfl (by kernel_rfl) (by kernel_rfl) (by kernel_rfl) 31 (.tmp 11) (w.heap.size + 5) 31 _ (0, 0) _ (fun _ _ _ h => h) (by rfl) rfl rfl (fun w' hb => (XX.out w' hb).b5) Tryd.underlying31 rfl (by kernel_rfl) hHeld ?_
      try simp only [Act.put, List.setIfInBounds_toArray, List.set_cons_zero, List.set_cons_succ]
      refine take_call (i := 14) (oi := { dst := some 41, op := Go.Op.call { callee := Go.Callee.value (Go.Operand.func 7), args := #[Go.Operand.tmp 39, Go.Operand.tmp 40], argTypes := #[31, 31] }, type := 4, pos := "law.go:190", after := #[{ on := 12, ground := Go.Ground.data }, { on := 13, ground := Go.Ground.data }, { on := 6, ground := Go.Ground.chain }, { on := 6, ground := Go.Ground.guard }], guard := some (6, true) }) rfl (by kernel_rfl) (by rfl) 7 _ (by go_simp <;> with_reducible rfl) ?_
      refine (MS.out _ (B3.out.trans ((Below.drew (Below.refl _ w3)).mono B3.out.size))).mono ?_
      rintro e w4 ⟨r, rfl, hr, b4⟩
      obtain rfl : r = q := by have h1 := hr; have h2 := HQ.out; cases r <;> cases q <;> simp_all
      have hS4 : Below w3.heap.size w3 w4 := (Below.drew (Below.refl _ w3)).trans b4
      refine ⟨.bool r, rfl, hS4, ?_⟩
      try simp only [Act.put, List.setIfInBounds_toArray, List.set_cons_zero, List.set_cons_succ]
      refine take_run (i := 15) (oi := { dst := some 42, op := Go.Op.binOp Go.BinOp.neq 4 (Go.Operand.tmp 38) (Go.Operand.tmp 41) 4, type := 4, pos := "law.go:190", after := #[{ on := 11, ground := Go.Ground.data }, { on := 14, ground := Go.Ground.data }, { on := 6, ground := Go.Ground.guard }], guard := some (6, true) }) (v := ?_) rfl (by kernel_rfl) (by kernel_rfl) (by kernel_rfl) (fun _ _ _ h => h) (by rfl) ?_ hS4 ?_
      rotate_left
      · (intro wq hSw; go_simp <;> with_reducible rfl)
      try simp only [Act.put, List.setIfInBounds_toArray, List.set_cons_zero, List.set_cons_succ]
      refine take_run (i := 16) (oi := { dst := some 43, op := Go.Op.pick (Go.Operand.tmp 33) (Go.Operand.tmp 42) (Go.Operand.const (Go.Value.bool false)), type := 4, pos := "law.go:190", after := #[{ on := 6, ground := Go.Ground.data }, { on := 15, ground := Go.Ground.data }], guard := none }) (v := ?_) rfl (by kernel_rfl) (by kernel_rfl) (by kernel_rfl) (fun _ _ _ h => h) (by rfl) ?_ hS4 ?_
      rotate_left
      · (intro wq hSw; go_simp <;> with_reducible rfl)
      try simp only [Act.put, List.setIfInBounds_toArray, List.set_cons_zero, List.set_cons_succ]
      refine wpAnyH_done (by kernel_rfl) ?_ _
      have B4 : Hid (Below w1.heap.size w1 w4) := B3.out.trans (hS4.mono B3.out.size)
      have X4 : Hid (Boxes w w4 #[.int .i64 o.kind, .string o.src, .string o.dst, .int .i64 o.amount, .string o.key, .int .i64 o.slot, .int .i64 o.shard] #[.int .i64 p.kind, .string p.src, .string p.dst, .int .i64 p.amount, .string p.key, .int .i64 p.slot, .int .i64 p.shard] #[.int .i64 ya, .int .i64 ma, .slice ra A.length rc] #[.int .i64 yb, .int .i64 mb, .slice rb B.length rd] #[.int .i64 h.kind, .int .i64 h.group, .int .i64 h.src, .int .i64 h.dst, .int .i64 h.term, .int .i64 h.index, .int .i64 h.logTerm, .int .i64 h.commit, .bool h.ok, .slice ea E.length ec, .slice da D.length dc] #[.int .i64 k.kind, .int .i64 k.group, .int .i64 k.src, .int .i64 k.dst, .int .i64 k.term, .int .i64 k.index, .int .i64 k.logTerm, .int .i64 k.commit, .bool k.ok, .slice fa F.length fc, .slice ga G.length gc]) := X3.out.below hS4
      clear hS4 hHeld b4 hr HQ S1 S2 XX BB X3 B3
      go_wp2_with fail
      have XX : Hid (∀ w', Below w4.drew.heap.size w4.drew w' → Boxes w w' #[.int .i64 o.kind, .string o.src, .string o.dst, .int .i64 o.amount, .string o.key, .int .i64 o.slot, .int .i64 o.shard] #[.int .i64 p.kind, .string p.src, .string p.dst, .int .i64 p.amount, .string p.key, .int .i64 p.slot, .int .i64 p.shard] #[.int .i64 ya, .int .i64 ma, .slice ra A.length rc] #[.int .i64 yb, .int .i64 mb, .slice rb B.length rd] #[.int .i64 h.kind, .int .i64 h.group, .int .i64 h.src, .int .i64 h.dst, .int .i64 h.term, .int .i64 h.index, .int .i64 h.logTerm, .int .i64 h.commit, .bool h.ok, .slice ea E.length ec, .slice da D.length dc] #[.int .i64 k.kind, .int .i64 k.group, .int .i64 k.src, .int .i64 k.dst, .int .i64 k.term, .int .i64 k.index, .int .i64 k.logTerm, .int .i64 k.commit, .bool k.ok, .slice fa F.length fc, .slice ga G.length gc]) := fun w' hb => (X4.out.below (Below.drew (Below.refl _ w4))).below hb
      have BD : Hid (Below w1.heap.size w1 w4.drew) := Below.drew B4.out
      refine wp_region_held_drew (S := fun w' => Below w4.drew.heap.size w4.drew w') (by kernel_rfl) (Below.refl _ _) (fun hHeld => ?_)
      refine take_row (i := 0) (oi := { dst := some 44, op := Go.Op.load 23 (Go.Operand.tmp 6), type := 23, pos := "law.go:193", after := #[], guard := none }) rfl (by kernel_rfl) (by kernel_rfl) (by kernel_rfl) 23 (.tmp 6) (w.heap.size) 23 _ (0, 0) _ (fun _ _ _ h => h) (by rfl) rfl rfl (fun w' hb => (XX.out w' hb).b0) Tryd.underlying23 rfl (by kernel_rfl) hHeld ?_
      try simp only [Act.put, List.setIfInBounds_toArray, List.set_cons_zero, List.set_cons_succ]
      refine take_row (i := 3) (oi := { dst := some 47, op := Go.Op.load 23 (Go.Operand.tmp 7), type := 23, pos := "law.go:193", after := #[], guard := none }) rfl (by kernel_rfl) (by kernel_rfl) (by kernel_rfl) 23 (.tmp 7) (w.heap.size + 1) 23 _ (0, 0) _ (fun _ _ _ h => h) (by rfl) rfl rfl (fun w' hb => (XX.out w' hb).b1) Tryd.underlying23 rfl (by kernel_rfl) hHeld ?_
      try simp only [Act.put, List.setIfInBounds_toArray, List.set_cons_zero, List.set_cons_succ]
      refine take_row (i := 7) (oi := { dst := some 51, op := Go.Op.load 23 (Go.Operand.tmp 6), type := 23, pos := "law.go:193", after := #[], guard := none }) rfl (by kernel_rfl) (by kernel_rfl) (by kernel_rfl) 23 (.tmp 6) (w.heap.size) 23 _ (0, 0) _ (fun _ _ _ h => h) (by rfl) rfl rfl (fun w' hb => (XX.out w' hb).b0) Tryd.underlying23 rfl (by kernel_rfl) hHeld ?_
      try simp only [Act.put, List.setIfInBounds_toArray, List.set_cons_zero, List.set_cons_succ]
      refine take_row (i := 8) (oi := { dst := some 52, op := Go.Op.load 23 (Go.Operand.tmp 7), type := 23, pos := "law.go:193", after := #[], guard := none }) rfl (by kernel_rfl) (by kernel_rfl) (by kernel_rfl) 23 (.tmp 7) (w.heap.size + 1) 23 _ (0, 0) _ (fun _ _ _ h => h) (by rfl) rfl rfl (fun w' hb => (XX.out w' hb).b1) Tryd.underlying23 rfl (by kernel_rfl) hHeld ?_
      try simp only [Act.put, List.setIfInBounds_toArray, List.set_cons_zero, List.set_cons_succ]
      refine take_run (i := 9) (oi := { dst := some 53, op := Go.Op.binOp Go.BinOp.eql 23 (Go.Operand.tmp 51) (Go.Operand.tmp 52) 23, type := 4, pos := "law.go:193", after := #[{ on := 7, ground := Go.Ground.data }, { on := 8, ground := Go.Ground.data }], guard := none }) (v := .bool qo) rfl (by kernel_rfl) (by kernel_rfl) (by kernel_rfl) (fun _ _ _ h => h) (by rfl) (fun wq hSw => by go_simp; rw [op_chain o p qo HC.out]; cases qo <;> rfl) hHeld ?_
      try simp only [Act.put, List.setIfInBounds_toArray, List.set_cons_zero, List.set_cons_succ]
      refine take_call (i := 1) (oi := { dst := some 45, op := Go.Op.call { callee := Go.Callee.value (Go.Operand.func 8), args := #[Go.Operand.const (Go.Value.slice none 0 0), Go.Operand.tmp 44], argTypes := #[29, 23] }, type := 29, pos := "law.go:193", after := #[{ on := 0, ground := Go.Ground.data }], guard := none }) rfl (by kernel_rfl) (by rfl) 8 _ (by go_simp <;> with_reducible rfl) ?_
      refine (PO.out w4.drew).mono ?_
      rintro e x1 ⟨v, rfl, ov, b10⟩
      obtain ⟨a1, c1, rfl, s1, _, _⟩ := owned_seen ov (by have := HZ1.out; unfold maxLen; omega)
      have Z1 : Below w4.drew.heap.size w4.drew x1 := b10
      have TT : Hid (∀ w', Below x1.heap.size x1 w' → (convert 29 9 (.slice a1 (o.bytes).length c1)).run Tryd.prog w' = .ok (.string (textOf (o.bytes))) w') := fun w' hb => run_to_text w' a1 _ c1 _ (s1.below hb)
      refine ⟨_, rfl, b10, held_more (S' := fun w' => Below x1.heap.size x1 w') (fun w' h => b10.trans (h.mono b10.size)) _ _ _ _ ?_⟩
      try simp only [Act.put, List.setIfInBounds_toArray, List.set_cons_zero, List.set_cons_succ]
      have hh1 : Below x1.heap.size x1 x1 := Below.refl _ _
      clear ov s1
      refine take_text (i := 2) (oi := { dst := some 46, op := Go.Op.convert 29 9 (Go.Operand.tmp 45), type := 9, pos := "law.go:193", after := #[{ on := 1, ground := Go.Ground.data }], guard := none }) rfl (by kernel_rfl) (by kernel_rfl) (by kernel_rfl) 29 9 (.tmp 45) _ _ (fun _ _ _ h => h) (by rfl) rfl rfl TT.out hh1 ?_
      try simp only [Act.put, List.setIfInBounds_toArray, List.set_cons_zero, List.set_cons_succ]
      clear TT
      refine take_call (i := 4) (oi := { dst := some 48, op := Go.Op.call { callee := Go.Callee.value (Go.Operand.func 8), args := #[Go.Operand.const (Go.Value.slice none 0 0), Go.Operand.tmp 47], argTypes := #[29, 23] }, type := 29, pos := "law.go:193", after := #[{ on := 3, ground := Go.Ground.data }, { on := 1, ground := Go.Ground.chain }], guard := none }) rfl (by kernel_rfl) (by rfl) 8 _ (by go_simp <;> with_reducible rfl) ?_
      refine (PP.out x1).mono ?_
      rintro e x2 ⟨v, rfl, ov, b20⟩
      obtain ⟨a2, c2, rfl, s2, _, _⟩ := owned_seen ov (by have := HZ2.out; unfold maxLen; omega)
      have Z2 : Below w4.drew.heap.size w4.drew x2 := Z1.trans (b20.mono Z1.size)
      have TT : Hid (∀ w', Below x2.heap.size x2 w' → (convert 29 9 (.slice a2 (p.bytes).length c2)).run Tryd.prog w' = .ok (.string (textOf (p.bytes))) w') := fun w' hb => run_to_text w' a2 _ c2 _ (s2.below hb)
      refine ⟨_, rfl, b20, held_more (S' := fun w' => Below x2.heap.size x2 w') (fun w' h => b20.trans (h.mono b20.size)) _ _ _ _ ?_⟩
      try simp only [Act.put, List.setIfInBounds_toArray, List.set_cons_zero, List.set_cons_succ]
      have hh2 : Below x2.heap.size x2 x2 := Below.refl _ _
      clear ov s2
      refine take_text (i := 5) (oi := { dst := some 49, op := Go.Op.convert 29 9 (Go.Operand.tmp 48), type := 9, pos := "law.go:193", after := #[{ on := 4, ground := Go.Ground.data }], guard := none }) rfl (by kernel_rfl) (by kernel_rfl) (by kernel_rfl) 29 9 (.tmp 48) _ _ (fun _ _ _ h => h) (by rfl) rfl rfl TT.out hh2 ?_
      try simp only [Act.put, List.setIfInBounds_toArray, List.set_cons_zero, List.set_cons_succ]
      clear TT
      refine take_run (i := 6) (oi := { dst := some 50, op := Go.Op.binOp Go.BinOp.eql 9 (Go.Operand.tmp 46) (Go.Operand.tmp 49) 9, type := 4, pos := "law.go:193", after := #[{ on := 2, ground := Go.Ground.data }, { on := 5, ground := Go.Ground.data }], guard := none }) (v := ?_) rfl (by kernel_rfl) (by kernel_rfl) (by kernel_rfl) (fun _ _ _ h => h) (by rfl) ?_ hh2 ?_
      rotate_left
      · (intro wq hSw; go_simp <;> with_reducible rfl)
      try simp only [Act.put, List.setIfInBounds_toArray, List.set_cons_zero, List.set_cons_succ]
      refine take_run (i := 10) (oi := { dst := some 54, op := Go.Op.binOp Go.BinOp.eql 4 (Go.Operand.tmp 50) (Go.Operand.tmp 53) 4, type := 4, pos := "law.go:193", after := #[{ on := 6, ground := Go.Ground.data }, { on := 9, ground := Go.Ground.data }], guard := none }) (v := ?_) rfl (by kernel_rfl) (by kernel_rfl) (by kernel_rfl) (fun _ _ _ h => h) (by rfl) ?_ hh2 ?_
      rotate_left
      · (intro wq hSw; go_simp <;> with_reducible rfl)
      try simp only [Act.put, List.setIfInBounds_toArray, List.set_cons_zero, List.set_cons_succ]
      refine take_run (i := 11) (oi := { dst := some 55, op := Go.Op.move (Go.Operand.tmp 54), type := 4, pos := "law.go:193", after := #[{ on := 10, ground := Go.Ground.data }, { on := 4, ground := Go.Ground.chain }], guard := none }) (v := ?_) rfl (by kernel_rfl) (by kernel_rfl) (by kernel_rfl) (fun _ _ _ h => h) (by rfl) ?_ hh2 ?_
      rotate_left
      · (intro wq hSw; go_simp <;> with_reducible rfl)
      try simp only [Act.put, List.setIfInBounds_toArray, List.set_cons_zero, List.set_cons_succ]
      refine take_row (i := 12) (oi := { dst := some 56, op := Go.Op.load 27 (Go.Operand.tmp 8), type := 27, pos := "law.go:193", after := #[{ on := 11, ground := Go.Ground.guard }], guard := some (11, true) }) rfl (by kernel_rfl) (by kernel_rfl) (by kernel_rfl) 27 (.tmp 8) (w.heap.size + 2) 27 _ (0, 0) _ (fun _ _ _ h => h) (by rfl) rfl rfl (fun w' hb => (XX.out w' (Z2.trans (hb.mono Z2.size))).b2) Tryd.underlying27 rfl (by kernel_rfl) hh2 ?_
      try simp only [Act.put, List.setIfInBounds_toArray, List.set_cons_zero, List.set_cons_succ]
      refine take_row (i := 15) (oi := { dst := some 59, op := Go.Op.load 27 (Go.Operand.tmp 9), type := 27, pos := "law.go:193", after := #[{ on := 11, ground := Go.Ground.guard }], guard := some (11, true) }) rfl (by kernel_rfl) (by kernel_rfl) (by kernel_rfl) 27 (.tmp 9) (w.heap.size + 3) 27 _ (0, 0) _ (fun _ _ _ h => h) (by rfl) rfl rfl (fun w' hb => (XX.out w' (Z2.trans (hb.mono Z2.size))).b3) Tryd.underlying27 rfl (by kernel_rfl) hh2 ?_
      try simp only [Act.put, List.setIfInBounds_toArray, List.set_cons_zero, List.set_cons_succ]
      refine take_row (i := 19) (oi := { dst := some 63, op := Go.Op.load 27 (Go.Operand.tmp 8), type := 27, pos := "law.go:193", after := #[{ on := 11, ground := Go.Ground.guard }], guard := some (11, true) }) rfl (by kernel_rfl) (by kernel_rfl) (by kernel_rfl) 27 (.tmp 8) (w.heap.size + 2) 27 _ (0, 0) _ (fun _ _ _ h => h) (by rfl) rfl rfl (fun w' hb => (XX.out w' (Z2.trans (hb.mono Z2.size))).b2) Tryd.underlying27 rfl (by kernel_rfl) hh2 ?_
      try simp only [Act.put, List.setIfInBounds_toArray, List.set_cons_zero, List.set_cons_succ]
      refine take_row (i := 20) (oi := { dst := some 64, op := Go.Op.load 27 (Go.Operand.tmp 9), type := 27, pos := "law.go:193", after := #[{ on := 11, ground := Go.Ground.guard }], guard := some (11, true) }) rfl (by kernel_rfl) (by kernel_rfl) (by kernel_rfl) 27 (.tmp 9) (w.heap.size + 3) 27 _ (0, 0) _ (fun _ _ _ h => h) (by rfl) rfl rfl (fun w' hb => (XX.out w' (Z2.trans (hb.mono Z2.size))).b3) Tryd.underlying27 rfl (by kernel_rfl) hh2 ?_
      try simp only [Act.put, List.setIfInBounds_toArray, List.set_cons_zero, List.set_cons_succ]
      refine take_call (i := 13) (oi := { dst := some 57, op := Go.Op.call { callee := Go.Callee.value (Go.Operand.func 9), args := #[Go.Operand.const (Go.Value.slice none 0 0), Go.Operand.tmp 56], argTypes := #[29, 27] }, type := 29, pos := "law.go:193", after := #[{ on := 12, ground := Go.Ground.data }, { on := 11, ground := Go.Ground.chain }, { on := 11, ground := Go.Ground.guard }], guard := some (11, true) }) rfl (by kernel_rfl) (by rfl) 9 _ (by go_simp <;> with_reducible rfl) ?_
      refine (RA.out x2 (BD.out.trans (Z2.mono BD.out.size))).mono ?_
      rintro e x3 ⟨v, rfl, ov, b30⟩
      obtain ⟨a3, c3, rfl, s3, _, _⟩ := owned_seen ov (by have := HZ3.out; unfold maxLen; omega)
      have Z3 : Below w4.drew.heap.size w4.drew x3 := Z2.trans (b30.mono Z2.size)
      have TT : Hid (∀ w', Below x3.heap.size x3 w' → (convert 29 9 (.slice a3 (replyB ya ma A).length c3)).run Tryd.prog w' = .ok (.string (textOf (replyB ya ma A))) w') := fun w' hb => run_to_text w' a3 _ c3 _ (s3.below hb)
      refine ⟨_, rfl, b30, held_more (S' := fun w' => Below x3.heap.size x3 w') (fun w' h => b30.trans (h.mono b30.size)) _ _ _ _ ?_⟩
      try simp only [Act.put, List.setIfInBounds_toArray, List.set_cons_zero, List.set_cons_succ]
      have hh3 : Below x3.heap.size x3 x3 := Below.refl _ _
      clear ov s3
      refine take_text (i := 14) (oi := { dst := some 58, op := Go.Op.convert 29 9 (Go.Operand.tmp 57), type := 9, pos := "law.go:193", after := #[{ on := 13, ground := Go.Ground.data }, { on := 11, ground := Go.Ground.guard }], guard := some (11, true) }) rfl (by kernel_rfl) (by kernel_rfl) (by kernel_rfl) 29 9 (.tmp 57) _ _ (fun _ _ _ h => h) (by rfl) rfl rfl TT.out hh3 ?_
      try simp only [Act.put, List.setIfInBounds_toArray, List.set_cons_zero, List.set_cons_succ]
      clear TT
      refine take_call (i := 16) (oi := { dst := some 60, op := Go.Op.call { callee := Go.Callee.value (Go.Operand.func 9), args := #[Go.Operand.const (Go.Value.slice none 0 0), Go.Operand.tmp 59], argTypes := #[29, 27] }, type := 29, pos := "law.go:193", after := #[{ on := 15, ground := Go.Ground.data }, { on := 13, ground := Go.Ground.chain }, { on := 11, ground := Go.Ground.guard }], guard := some (11, true) }) rfl (by kernel_rfl) (by rfl) 9 _ (by go_simp <;> with_reducible rfl) ?_
      refine (RB.out x3 (BD.out.trans (Z3.mono BD.out.size))).mono ?_
      rintro e x4 ⟨v, rfl, ov, b40⟩
      obtain ⟨a4, c4, rfl, s4, _, _⟩ := owned_seen ov (by have := HZ4.out; unfold maxLen; omega)
      have Z4 : Below w4.drew.heap.size w4.drew x4 := Z3.trans (b40.mono Z3.size)
      have TT : Hid (∀ w', Below x4.heap.size x4 w' → (convert 29 9 (.slice a4 (replyB yb mb B).length c4)).run Tryd.prog w' = .ok (.string (textOf (replyB yb mb B))) w') := fun w' hb => run_to_text w' a4 _ c4 _ (s4.below hb)
      refine ⟨_, rfl, b40, held_more (S' := fun w' => Below x4.heap.size x4 w') (fun w' h => b40.trans (h.mono b40.size)) _ _ _ _ ?_⟩
      try simp only [Act.put, List.setIfInBounds_toArray, List.set_cons_zero, List.set_cons_succ]
      have hh4 : Below x4.heap.size x4 x4 := Below.refl _ _
      clear ov s4
      refine take_text (i := 17) (oi := { dst := some 61, op := Go.Op.convert 29 9 (Go.Operand.tmp 60), type := 9, pos := "law.go:193", after := #[{ on := 16, ground := Go.Ground.data }, { on := 11, ground := Go.Ground.guard }], guard := some (11, true) }) rfl (by kernel_rfl) (by kernel_rfl) (by kernel_rfl) 29 9 (.tmp 60) _ _ (fun _ _ _ h => h) (by rfl) rfl rfl TT.out hh4 ?_
      try simp only [Act.put, List.setIfInBounds_toArray, List.set_cons_zero, List.set_cons_succ]
      clear TT
      refine take_run (i := 18) (oi := { dst := some 62, op := Go.Op.binOp Go.BinOp.eql 9 (Go.Operand.tmp 58) (Go.Operand.tmp 61) 9, type := 4, pos := "law.go:193", after := #[{ on := 14, ground := Go.Ground.data }, { on := 17, ground := Go.Ground.data }, { on := 11, ground := Go.Ground.guard }], guard := some (11, true) }) (v := ?_) rfl (by kernel_rfl) (by kernel_rfl) (by kernel_rfl) (fun _ _ _ h => h) (by rfl) ?_ hh4 ?_
      rotate_left
      · (intro wq hSw; go_simp <;> with_reducible rfl)
      try simp only [Act.put, List.setIfInBounds_toArray, List.set_cons_zero, List.set_cons_succ]
      refine take_call (i := 21) (oi := { dst := some 65, op := Go.Op.call { callee := Go.Callee.value (Go.Operand.func 10), args := #[Go.Operand.tmp 63, Go.Operand.tmp 64], argTypes := #[27, 27] }, type := 4, pos := "law.go:193", after := #[{ on := 19, ground := Go.Ground.data }, { on := 20, ground := Go.Ground.data }, { on := 16, ground := Go.Ground.chain }, { on := 11, ground := Go.Ground.guard }], guard := some (11, true) }) rfl (by kernel_rfl) (by rfl) 10 _ (by go_simp <;> with_reducible rfl) ?_
      refine (RS.out x4 (BD.out.trans (Z4.mono BD.out.size))).mono ?_
      rintro e x5 ⟨rfl, b50⟩
      refine ⟨_, rfl, b50, ?_⟩
      try simp only [Act.put, List.setIfInBounds_toArray, List.set_cons_zero, List.set_cons_succ]
      rw [HRQ.out]
      have Z5 : Below w4.drew.heap.size w4.drew x5 := Z4.trans (b50.mono Z4.size)
      refine take_run (i := 22) (oi := { dst := some 66, op := Go.Op.binOp Go.BinOp.eql 4 (Go.Operand.tmp 62) (Go.Operand.tmp 65) 4, type := 4, pos := "law.go:193", after := #[{ on := 18, ground := Go.Ground.data }, { on := 21, ground := Go.Ground.data }, { on := 11, ground := Go.Ground.guard }], guard := some (11, true) }) (v := ?_) rfl (by kernel_rfl) (by kernel_rfl) (by kernel_rfl) (fun _ _ _ h => h) (by rfl) ?_ b50 ?_
      rotate_left
      · (intro wq hSw; go_simp <;> with_reducible rfl)
      try simp only [Act.put, List.setIfInBounds_toArray, List.set_cons_zero, List.set_cons_succ]
      refine take_run (i := 23) (oi := { dst := some 67, op := Go.Op.pick (Go.Operand.tmp 55) (Go.Operand.tmp 66) (Go.Operand.const (Go.Value.bool false)), type := 4, pos := "law.go:193", after := #[{ on := 11, ground := Go.Ground.data }, { on := 22, ground := Go.Ground.data }], guard := none }) (v := ?_) rfl (by kernel_rfl) (by kernel_rfl) (by kernel_rfl) (fun _ _ _ h => h) (by rfl) ?_ b50 ?_
      rotate_left
      · (intro wq hSw; go_simp <;> with_reducible rfl)
      try simp only [Act.put, List.setIfInBounds_toArray, List.set_cons_zero, List.set_cons_succ]
      refine take_run (i := 24) (oi := { dst := some 68, op := Go.Op.move (Go.Operand.tmp 67), type := 4, pos := "law.go:193", after := #[{ on := 23, ground := Go.Ground.data }, { on := 21, ground := Go.Ground.chain }], guard := none }) (v := ?_) rfl (by kernel_rfl) (by kernel_rfl) (by kernel_rfl) (fun _ _ _ h => h) (by rfl) ?_ b50 ?_
      rotate_left
      · (intro wq hSw; go_simp <;> with_reducible rfl)
      try simp only [Act.put, List.setIfInBounds_toArray, List.set_cons_zero, List.set_cons_succ]
      refine take_call (i := 25) (oi := { dst := some 69, op := Go.Op.call { callee := Go.Callee.value (Go.Operand.func 11), args := #[], argTypes := #[] }, type := 4, pos := "law.go:193", after := #[{ on := 24, ground := Go.Ground.chain }, { on := 24, ground := Go.Ground.guard }], guard := some (24, true) }) rfl (by kernel_rfl) (by rfl) 11 _ (by go_simp <;> with_reducible rfl) ?_
      refine (KN.out x5 (BD.out.trans (Z5.mono BD.out.size))).mono ?_
      rintro e x6 ⟨rfl, b60⟩
      have hs6 : Below x4.heap.size x4 x6 := b50.trans (b60.mono b50.size)
      refine ⟨_, rfl, hs6, ?_⟩
      try simp only [Act.put, List.setIfInBounds_toArray, List.set_cons_zero, List.set_cons_succ]
      refine take_run (i := 26) (oi := { dst := some 70, op := Go.Op.pick (Go.Operand.tmp 68) (Go.Operand.tmp 69) (Go.Operand.const (Go.Value.bool false)), type := 4, pos := "law.go:193", after := #[{ on := 24, ground := Go.Ground.data }, { on := 25, ground := Go.Ground.data }], guard := none }) (v := ?_) rfl (by kernel_rfl) (by kernel_rfl) (by kernel_rfl) (fun _ _ _ h => h) (by rfl) ?_ hs6 ?_
      rotate_left
      · (intro wq hSw; go_simp <;> with_reducible rfl)
      try simp only [Act.put, List.setIfInBounds_toArray, List.set_cons_zero, List.set_cons_succ]
      refine take_run (i := 27) (oi := { dst := some 12, op := Go.Op.assign (Go.Operand.tmp 70), type := 4, pos := "law.go:193", after := #[{ on := 26, ground := Go.Ground.data }, { on := 25, ground := Go.Ground.chain }, { on := 0, ground := Go.Ground.phase }, { on := 1, ground := Go.Ground.phase }, { on := 2, ground := Go.Ground.phase }, { on := 3, ground := Go.Ground.phase }, { on := 4, ground := Go.Ground.phase }, { on := 5, ground := Go.Ground.phase }, { on := 6, ground := Go.Ground.phase }, { on := 7, ground := Go.Ground.phase }, { on := 8, ground := Go.Ground.phase }, { on := 9, ground := Go.Ground.phase }, { on := 10, ground := Go.Ground.phase }, { on := 11, ground := Go.Ground.phase }, { on := 12, ground := Go.Ground.phase }, { on := 13, ground := Go.Ground.phase }, { on := 14, ground := Go.Ground.phase }, { on := 15, ground := Go.Ground.phase }, { on := 16, ground := Go.Ground.phase }, { on := 17, ground := Go.Ground.phase }, { on := 18, ground := Go.Ground.phase }, { on := 19, ground := Go.Ground.phase }, { on := 20, ground := Go.Ground.phase }, { on := 21, ground := Go.Ground.phase }, { on := 22, ground := Go.Ground.phase }, { on := 23, ground := Go.Ground.phase }, { on := 24, ground := Go.Ground.phase }, { on := 25, ground := Go.Ground.phase }, { on := 26, ground := Go.Ground.phase }], guard := none }) (v := ?_) rfl (by kernel_rfl) (by kernel_rfl) (by kernel_rfl) (fun _ _ _ h => h) (by rfl) ?_ hs6 ?_
      rotate_left
      · (intro wq hSw; go_simp <;> with_reducible rfl)
      try simp only [Act.put, List.setIfInBounds_toArray, List.set_cons_zero, List.set_cons_succ]
      refine wpAnyH_done (by kernel_rfl) ?_ _
      have Z6 : Hid (Below w.heap.size w x6) := B1.out.trans ((BD.out.trans ((Z4.trans (hs6.mono Z4.size)).mono BD.out.size)).mono B1.out.size)
      clear hs6 b50 b60 Z5 hh4
      go_wp2
      go_ret
      exact ⟨rfl, Z6.out⟩
    · clear T2 T3 o1 f1
      go_wp2_with fail
      go_quiet (fail)
      go_wp2_with fail
      obtain ⟨w4, hw4⟩ : ∃ w4, w3.drewN nq = w4 := ⟨_, rfl⟩
      have B4 : Hid (Below w1.heap.size w1 w4) := by rw [← hw4]; exact below_drewN' B3.out nq
      have X4 : Hid (Boxes w w4 #[.int .i64 o.kind, .string o.src, .string o.dst, .int .i64 o.amount, .string o.key, .int .i64 o.slot, .int .i64 o.shard] #[.int .i64 p.kind, .string p.src, .string p.dst, .int .i64 p.amount, .string p.key, .int .i64 p.slot, .int .i64 p.shard] #[.int .i64 ya, .int .i64 ma, .slice ra A.length rc] #[.int .i64 yb, .int .i64 mb, .slice rb B.length rd] #[.int .i64 h.kind, .int .i64 h.group, .int .i64 h.src, .int .i64 h.dst, .int .i64 h.term, .int .i64 h.index, .int .i64 h.logTerm, .int .i64 h.commit, .bool h.ok, .slice ea E.length ec, .slice da D.length dc] #[.int .i64 k.kind, .int .i64 k.group, .int .i64 k.src, .int .i64 k.dst, .int .i64 k.term, .int .i64 k.index, .int .i64 k.logTerm, .int .i64 k.commit, .bool k.ok, .slice fa F.length fc, .slice ga G.length gc]) := by rw [← hw4]; exact X3.out.below (below_drewN' (Below.refl _ _) nq)
      rw [hw4]
      clear hw4
      clear B3 X3 BB IM MS
      have XX : Hid (∀ w', Below w4.drew.heap.size w4.drew w' → Boxes w w' #[.int .i64 o.kind, .string o.src, .string o.dst, .int .i64 o.amount, .string o.key, .int .i64 o.slot, .int .i64 o.shard] #[.int .i64 p.kind, .string p.src, .string p.dst, .int .i64 p.amount, .string p.key, .int .i64 p.slot, .int .i64 p.shard] #[.int .i64 ya, .int .i64 ma, .slice ra A.length rc] #[.int .i64 yb, .int .i64 mb, .slice rb B.length rd] #[.int .i64 h.kind, .int .i64 h.group, .int .i64 h.src, .int .i64 h.dst, .int .i64 h.term, .int .i64 h.index, .int .i64 h.logTerm, .int .i64 h.commit, .bool h.ok, .slice ea E.length ec, .slice da D.length dc] #[.int .i64 k.kind, .int .i64 k.group, .int .i64 k.src, .int .i64 k.dst, .int .i64 k.term, .int .i64 k.index, .int .i64 k.logTerm, .int .i64 k.commit, .bool k.ok, .slice fa F.length fc, .slice ga G.length gc]) := fun w' hb => (X4.out.below (Below.drew (Below.refl _ w4))).below hb
      have BD : Hid (Below w1.heap.size w1 w4.drew) := Below.drew B4.out
      refine wp_region_held_drew (S := fun w' => Below w4.drew.heap.size w4.drew w') (by kernel_rfl) (Below.refl _ _) (fun hHeld => ?_)
      refine take_row (i := 0) (oi := { dst := some 44, op := Go.Op.load 23 (Go.Operand.tmp 6), type := 23, pos := "law.go:193", after := #[], guard := none }) rfl (by kernel_rfl) (by kernel_rfl) (by kernel_rfl) 23 (.tmp 6) (w.heap.size) 23 _ (0, 0) _ (fun _ _ _ h => h) (by rfl) rfl rfl (fun w' hb => (XX.out w' hb).b0) Tryd.underlying23 rfl (by kernel_rfl) hHeld ?_
      try simp only [Act.put, List.setIfInBounds_toArray, List.set_cons_zero, List.set_cons_succ]
      refine take_row (i := 3) (oi := { dst := some 47, op := Go.Op.load 23 (Go.Operand.tmp 7), type := 23, pos := "law.go:193", after := #[], guard := none }) rfl (by kernel_rfl) (by kernel_rfl) (by kernel_rfl) 23 (.tmp 7) (w.heap.size + 1) 23 _ (0, 0) _ (fun _ _ _ h => h) (by rfl) rfl rfl (fun w' hb => (XX.out w' hb).b1) Tryd.underlying23 rfl (by kernel_rfl) hHeld ?_
      try simp only [Act.put, List.setIfInBounds_toArray, List.set_cons_zero, List.set_cons_succ]
      refine take_row (i := 7) (oi := { dst := some 51, op := Go.Op.load 23 (Go.Operand.tmp 6), type := 23, pos := "law.go:193", after := #[], guard := none }) rfl (by kernel_rfl) (by kernel_rfl) (by kernel_rfl) 23 (.tmp 6) (w.heap.size) 23 _ (0, 0) _ (fun _ _ _ h => h) (by rfl) rfl rfl (fun w' hb => (XX.out w' hb).b0) Tryd.underlying23 rfl (by kernel_rfl) hHeld ?_
      try simp only [Act.put, List.setIfInBounds_toArray, List.set_cons_zero, List.set_cons_succ]
      refine take_row (i := 8) (oi := { dst := some 52, op := Go.Op.load 23 (Go.Operand.tmp 7), type := 23, pos := "law.go:193", after := #[], guard := none }) rfl (by kernel_rfl) (by kernel_rfl) (by kernel_rfl) 23 (.tmp 7) (w.heap.size + 1) 23 _ (0, 0) _ (fun _ _ _ h => h) (by rfl) rfl rfl (fun w' hb => (XX.out w' hb).b1) Tryd.underlying23 rfl (by kernel_rfl) hHeld ?_
      try simp only [Act.put, List.setIfInBounds_toArray, List.set_cons_zero, List.set_cons_succ]
      refine take_run (i := 9) (oi := { dst := some 53, op := Go.Op.binOp Go.BinOp.eql 23 (Go.Operand.tmp 51) (Go.Operand.tmp 52) 23, type := 4, pos := "law.go:193", after := #[{ on := 7, ground := Go.Ground.data }, { on := 8, ground := Go.Ground.data }], guard := none }) (v := .bool qo) rfl (by kernel_rfl) (by kernel_rfl) (by kernel_rfl) (fun _ _ _ h => h) (by rfl) (fun wq hSw => by go_simp; rw [op_chain o p qo HC.out]; cases qo <;> rfl) hHeld ?_
      try simp only [Act.put, List.setIfInBounds_toArray, List.set_cons_zero, List.set_cons_succ]
      refine take_call (i := 1) (oi := { dst := some 45, op := Go.Op.call { callee := Go.Callee.value (Go.Operand.func 8), args := #[Go.Operand.const (Go.Value.slice none 0 0), Go.Operand.tmp 44], argTypes := #[29, 23] }, type := 29, pos := "law.go:193", after := #[{ on := 0, ground := Go.Ground.data }], guard := none }) rfl (by kernel_rfl) (by rfl) 8 _ (by go_simp <;> with_reducible rfl) ?_
      refine (PO.out w4.drew).mono ?_
      rintro e x1 ⟨v, rfl, ov, b10⟩
      obtain ⟨a1, c1, rfl, s1, _, _⟩ := owned_seen ov (by have := HZ1.out; unfold maxLen; omega)
      have Z1 : Below w4.drew.heap.size w4.drew x1 := b10
      have TT : Hid (∀ w', Below x1.heap.size x1 w' → (convert 29 9 (.slice a1 (o.bytes).length c1)).run Tryd.prog w' = .ok (.string (textOf (o.bytes))) w') := fun w' hb => run_to_text w' a1 _ c1 _ (s1.below hb)
      refine ⟨_, rfl, b10, held_more (S' := fun w' => Below x1.heap.size x1 w') (fun w' h => b10.trans (h.mono b10.size)) _ _ _ _ ?_⟩
      try simp only [Act.put, List.setIfInBounds_toArray, List.set_cons_zero, List.set_cons_succ]
      have hh1 : Below x1.heap.size x1 x1 := Below.refl _ _
      clear ov s1
      refine take_text (i := 2) (oi := { dst := some 46, op := Go.Op.convert 29 9 (Go.Operand.tmp 45), type := 9, pos := "law.go:193", after := #[{ on := 1, ground := Go.Ground.data }], guard := none }) rfl (by kernel_rfl) (by kernel_rfl) (by kernel_rfl) 29 9 (.tmp 45) _ _ (fun _ _ _ h => h) (by rfl) rfl rfl TT.out hh1 ?_
      try simp only [Act.put, List.setIfInBounds_toArray, List.set_cons_zero, List.set_cons_succ]
      clear TT
      refine take_call (i := 4) (oi := { dst := some 48, op := Go.Op.call { callee := Go.Callee.value (Go.Operand.func 8), args := #[Go.Operand.const (Go.Value.slice none 0 0), Go.Operand.tmp 47], argTypes := #[29, 23] }, type := 29, pos := "law.go:193", after := #[{ on := 3, ground := Go.Ground.data }, { on := 1, ground := Go.Ground.chain }], guard := none }) rfl (by kernel_rfl) (by rfl) 8 _ (by go_simp <;> with_reducible rfl) ?_
      refine (PP.out x1).mono ?_
      rintro e x2 ⟨v, rfl, ov, b20⟩
      obtain ⟨a2, c2, rfl, s2, _, _⟩ := owned_seen ov (by have := HZ2.out; unfold maxLen; omega)
      have Z2 : Below w4.drew.heap.size w4.drew x2 := Z1.trans (b20.mono Z1.size)
      have TT : Hid (∀ w', Below x2.heap.size x2 w' → (convert 29 9 (.slice a2 (p.bytes).length c2)).run Tryd.prog w' = .ok (.string (textOf (p.bytes))) w') := fun w' hb => run_to_text w' a2 _ c2 _ (s2.below hb)
      refine ⟨_, rfl, b20, held_more (S' := fun w' => Below x2.heap.size x2 w') (fun w' h => b20.trans (h.mono b20.size)) _ _ _ _ ?_⟩
      try simp only [Act.put, List.setIfInBounds_toArray, List.set_cons_zero, List.set_cons_succ]
      have hh2 : Below x2.heap.size x2 x2 := Below.refl _ _
      clear ov s2
      refine take_text (i := 5) (oi := { dst := some 49, op := Go.Op.convert 29 9 (Go.Operand.tmp 48), type := 9, pos := "law.go:193", after := #[{ on := 4, ground := Go.Ground.data }], guard := none }) rfl (by kernel_rfl) (by kernel_rfl) (by kernel_rfl) 29 9 (.tmp 48) _ _ (fun _ _ _ h => h) (by rfl) rfl rfl TT.out hh2 ?_
      try simp only [Act.put, List.setIfInBounds_toArray, List.set_cons_zero, List.set_cons_succ]
      clear TT
      refine take_run (i := 6) (oi := { dst := some 50, op := Go.Op.binOp Go.BinOp.eql 9 (Go.Operand.tmp 46) (Go.Operand.tmp 49) 9, type := 4, pos := "law.go:193", after := #[{ on := 2, ground := Go.Ground.data }, { on := 5, ground := Go.Ground.data }], guard := none }) (v := ?_) rfl (by kernel_rfl) (by kernel_rfl) (by kernel_rfl) (fun _ _ _ h => h) (by rfl) ?_ hh2 ?_
      rotate_left
      · (intro wq hSw; go_simp <;> with_reducible rfl)
      try simp only [Act.put, List.setIfInBounds_toArray, List.set_cons_zero, List.set_cons_succ]
      refine take_run (i := 10) (oi := { dst := some 54, op := Go.Op.binOp Go.BinOp.eql 4 (Go.Operand.tmp 50) (Go.Operand.tmp 53) 4, type := 4, pos := "law.go:193", after := #[{ on := 6, ground := Go.Ground.data }, { on := 9, ground := Go.Ground.data }], guard := none }) (v := ?_) rfl (by kernel_rfl) (by kernel_rfl) (by kernel_rfl) (fun _ _ _ h => h) (by rfl) ?_ hh2 ?_
      rotate_left
      · (intro wq hSw; go_simp <;> with_reducible rfl)
      try simp only [Act.put, List.setIfInBounds_toArray, List.set_cons_zero, List.set_cons_succ]
      refine take_run (i := 11) (oi := { dst := some 55, op := Go.Op.move (Go.Operand.tmp 54), type := 4, pos := "law.go:193", after := #[{ on := 10, ground := Go.Ground.data }, { on := 4, ground := Go.Ground.chain }], guard := none }) (v := ?_) rfl (by kernel_rfl) (by kernel_rfl) (by kernel_rfl) (fun _ _ _ h => h) (by rfl) ?_ hh2 ?_
      rotate_left
      · (intro wq hSw; go_simp <;> with_reducible rfl)
      try simp only [Act.put, List.setIfInBounds_toArray, List.set_cons_zero, List.set_cons_succ]
      refine take_row (i := 12) (oi := { dst := some 56, op := Go.Op.load 27 (Go.Operand.tmp 8), type := 27, pos := "law.go:193", after := #[{ on := 11, ground := Go.Ground.guard }], guard := some (11, true) }) rfl (by kernel_rfl) (by kernel_rfl) (by kernel_rfl) 27 (.tmp 8) (w.heap.size + 2) 27 _ (0, 0) _ (fun _ _ _ h => h) (by rfl) rfl rfl (fun w' hb => (XX.out w' (Z2.trans (hb.mono Z2.size))).b2) Tryd.underlying27 rfl (by kernel_rfl) hh2 ?_
      try simp only [Act.put, List.setIfInBounds_toArray, List.set_cons_zero, List.set_cons_succ]
      refine take_row (i := 15) (oi := { dst := some 59, op := Go.Op.load 27 (Go.Operand.tmp 9), type := 27, pos := "law.go:193", after := #[{ on := 11, ground := Go.Ground.guard }], guard := some (11, true) }) rfl (by kernel_rfl) (by kernel_rfl) (by kernel_rfl) 27 (.tmp 9) (w.heap.size + 3) 27 _ (0, 0) _ (fun _ _ _ h => h) (by rfl) rfl rfl (fun w' hb => (XX.out w' (Z2.trans (hb.mono Z2.size))).b3) Tryd.underlying27 rfl (by kernel_rfl) hh2 ?_
      try simp only [Act.put, List.setIfInBounds_toArray, List.set_cons_zero, List.set_cons_succ]
      refine take_row (i := 19) (oi := { dst := some 63, op := Go.Op.load 27 (Go.Operand.tmp 8), type := 27, pos := "law.go:193", after := #[{ on := 11, ground := Go.Ground.guard }], guard := some (11, true) }) rfl (by kernel_rfl) (by kernel_rfl) (by kernel_rfl) 27 (.tmp 8) (w.heap.size + 2) 27 _ (0, 0) _ (fun _ _ _ h => h) (by rfl) rfl rfl (fun w' hb => (XX.out w' (Z2.trans (hb.mono Z2.size))).b2) Tryd.underlying27 rfl (by kernel_rfl) hh2 ?_
      try simp only [Act.put, List.setIfInBounds_toArray, List.set_cons_zero, List.set_cons_succ]
      refine take_row (i := 20) (oi := { dst := some 64, op := Go.Op.load 27 (Go.Operand.tmp 9), type := 27, pos := "law.go:193", after := #[{ on := 11, ground := Go.Ground.guard }], guard := some (11, true) }) rfl (by kernel_rfl) (by kernel_rfl) (by kernel_rfl) 27 (.tmp 9) (w.heap.size + 3) 27 _ (0, 0) _ (fun _ _ _ h => h) (by rfl) rfl rfl (fun w' hb => (XX.out w' (Z2.trans (hb.mono Z2.size))).b3) Tryd.underlying27 rfl (by kernel_rfl) hh2 ?_
      try simp only [Act.put, List.setIfInBounds_toArray, List.set_cons_zero, List.set_cons_succ]
      refine take_call (i := 13) (oi := { dst := some 57, op := Go.Op.call { callee := Go.Callee.value (Go.Operand.func 9), args := #[Go.Operand.const (Go.Value.slice none 0 0), Go.Operand.tmp 56], argTypes := #[29, 27] }, type := 29, pos := "law.go:193", after := #[{ on := 12, ground := Go.Ground.data }, { on := 11, ground := Go.Ground.chain }, { on := 11, ground := Go.Ground.guard }], guard := some (11, true) }) rfl (by kernel_rfl) (by rfl) 9 _ (by go_simp <;> with_reducible rfl) ?_
      refine (RA.out x2 (BD.out.trans (Z2.mono BD.out.size))).mono ?_
      rintro e x3 ⟨v, rfl, ov, b30⟩
      obtain ⟨a3, c3, rfl, s3, _, _⟩ := owned_seen ov (by have := HZ3.out; unfold maxLen; omega)
      have Z3 : Below w4.drew.heap.size w4.drew x3 := Z2.trans (b30.mono Z2.size)
      have TT : Hid (∀ w', Below x3.heap.size x3 w' → (convert 29 9 (.slice a3 (replyB ya ma A).length c3)).run Tryd.prog w' = .ok (.string (textOf (replyB ya ma A))) w') := fun w' hb => run_to_text w' a3 _ c3 _ (s3.below hb)
      refine ⟨_, rfl, b30, held_more (S' := fun w' => Below x3.heap.size x3 w') (fun w' h => b30.trans (h.mono b30.size)) _ _ _ _ ?_⟩
      try simp only [Act.put, List.setIfInBounds_toArray, List.set_cons_zero, List.set_cons_succ]
      have hh3 : Below x3.heap.size x3 x3 := Below.refl _ _
      clear ov s3
      refine take_text (i := 14) (oi := { dst := some 58, op := Go.Op.convert 29 9 (Go.Operand.tmp 57), type := 9, pos := "law.go:193", after := #[{ on := 13, ground := Go.Ground.data }, { on := 11, ground := Go.Ground.guard }], guard := some (11, true) }) rfl (by kernel_rfl) (by kernel_rfl) (by kernel_rfl) 29 9 (.tmp 57) _ _ (fun _ _ _ h => h) (by rfl) rfl rfl TT.out hh3 ?_
      try simp only [Act.put, List.setIfInBounds_toArray, List.set_cons_zero, List.set_cons_succ]
      clear TT
      refine take_call (i := 16) (oi := { dst := some 60, op := Go.Op.call { callee := Go.Callee.value (Go.Operand.func 9), args := #[Go.Operand.const (Go.Value.slice none 0 0), Go.Operand.tmp 59], argTypes := #[29, 27] }, type := 29, pos := "law.go:193", after := #[{ on := 15, ground := Go.Ground.data }, { on := 13, ground := Go.Ground.chain }, { on := 11, ground := Go.Ground.guard }], guard := some (11, true) }) rfl (by kernel_rfl) (by rfl) 9 _ (by go_simp <;> with_reducible rfl) ?_
      refine (RB.out x3 (BD.out.trans (Z3.mono BD.out.size))).mono ?_
      rintro e x4 ⟨v, rfl, ov, b40⟩
      obtain ⟨a4, c4, rfl, s4, _, _⟩ := owned_seen ov (by have := HZ4.out; unfold maxLen; omega)
      have Z4 : Below w4.drew.heap.size w4.drew x4 := Z3.trans (b40.mono Z3.size)
      have TT : Hid (∀ w', Below x4.heap.size x4 w' → (convert 29 9 (.slice a4 (replyB yb mb B).length c4)).run Tryd.prog w' = .ok (.string (textOf (replyB yb mb B))) w') := fun w' hb => run_to_text w' a4 _ c4 _ (s4.below hb)
      refine ⟨_, rfl, b40, held_more (S' := fun w' => Below x4.heap.size x4 w') (fun w' h => b40.trans (h.mono b40.size)) _ _ _ _ ?_⟩
      try simp only [Act.put, List.setIfInBounds_toArray, List.set_cons_zero, List.set_cons_succ]
      have hh4 : Below x4.heap.size x4 x4 := Below.refl _ _
      clear ov s4
      refine take_text (i := 17) (oi := { dst := some 61, op := Go.Op.convert 29 9 (Go.Operand.tmp 60), type := 9, pos := "law.go:193", after := #[{ on := 16, ground := Go.Ground.data }, { on := 11, ground := Go.Ground.guard }], guard := some (11, true) }) rfl (by kernel_rfl) (by kernel_rfl) (by kernel_rfl) 29 9 (.tmp 60) _ _ (fun _ _ _ h => h) (by rfl) rfl rfl TT.out hh4 ?_
      try simp only [Act.put, List.setIfInBounds_toArray, List.set_cons_zero, List.set_cons_succ]
      clear TT
      refine take_run (i := 18) (oi := { dst := some 62, op := Go.Op.binOp Go.BinOp.eql 9 (Go.Operand.tmp 58) (Go.Operand.tmp 61) 9, type := 4, pos := "law.go:193", after := #[{ on := 14, ground := Go.Ground.data }, { on := 17, ground := Go.Ground.data }, { on := 11, ground := Go.Ground.guard }], guard := some (11, true) }) (v := ?_) rfl (by kernel_rfl) (by kernel_rfl) (by kernel_rfl) (fun _ _ _ h => h) (by rfl) ?_ hh4 ?_
      rotate_left
      · (intro wq hSw; go_simp <;> with_reducible rfl)
      try simp only [Act.put, List.setIfInBounds_toArray, List.set_cons_zero, List.set_cons_succ]
      refine take_call (i := 21) (oi := { dst := some 65, op := Go.Op.call { callee := Go.Callee.value (Go.Operand.func 10), args := #[Go.Operand.tmp 63, Go.Operand.tmp 64], argTypes := #[27, 27] }, type := 4, pos := "law.go:193", after := #[{ on := 19, ground := Go.Ground.data }, { on := 20, ground := Go.Ground.data }, { on := 16, ground := Go.Ground.chain }, { on := 11, ground := Go.Ground.guard }], guard := some (11, true) }) rfl (by kernel_rfl) (by rfl) 10 _ (by go_simp <;> with_reducible rfl) ?_
      refine (RS.out x4 (BD.out.trans (Z4.mono BD.out.size))).mono ?_
      rintro e x5 ⟨rfl, b50⟩
      refine ⟨_, rfl, b50, ?_⟩
      try simp only [Act.put, List.setIfInBounds_toArray, List.set_cons_zero, List.set_cons_succ]
      rw [HRQ.out]
      have Z5 : Below w4.drew.heap.size w4.drew x5 := Z4.trans (b50.mono Z4.size)
      refine take_run (i := 22) (oi := { dst := some 66, op := Go.Op.binOp Go.BinOp.eql 4 (Go.Operand.tmp 62) (Go.Operand.tmp 65) 4, type := 4, pos := "law.go:193", after := #[{ on := 18, ground := Go.Ground.data }, { on := 21, ground := Go.Ground.data }, { on := 11, ground := Go.Ground.guard }], guard := some (11, true) }) (v := ?_) rfl (by kernel_rfl) (by kernel_rfl) (by kernel_rfl) (fun _ _ _ h => h) (by rfl) ?_ b50 ?_
      rotate_left
      · (intro wq hSw; go_simp <;> with_reducible rfl)
      try simp only [Act.put, List.setIfInBounds_toArray, List.set_cons_zero, List.set_cons_succ]
      refine take_run (i := 23) (oi := { dst := some 67, op := Go.Op.pick (Go.Operand.tmp 55) (Go.Operand.tmp 66) (Go.Operand.const (Go.Value.bool false)), type := 4, pos := "law.go:193", after := #[{ on := 11, ground := Go.Ground.data }, { on := 22, ground := Go.Ground.data }], guard := none }) (v := ?_) rfl (by kernel_rfl) (by kernel_rfl) (by kernel_rfl) (fun _ _ _ h => h) (by rfl) ?_ b50 ?_
      rotate_left
      · (intro wq hSw; go_simp <;> with_reducible rfl)
      try simp only [Act.put, List.setIfInBounds_toArray, List.set_cons_zero, List.set_cons_succ]
      refine take_run (i := 24) (oi := { dst := some 68, op := Go.Op.move (Go.Operand.tmp 67), type := 4, pos := "law.go:193", after := #[{ on := 23, ground := Go.Ground.data }, { on := 21, ground := Go.Ground.chain }], guard := none }) (v := ?_) rfl (by kernel_rfl) (by kernel_rfl) (by kernel_rfl) (fun _ _ _ h => h) (by rfl) ?_ b50 ?_
      rotate_left
      · (intro wq hSw; go_simp <;> with_reducible rfl)
      try simp only [Act.put, List.setIfInBounds_toArray, List.set_cons_zero, List.set_cons_succ]
      refine take_call (i := 25) (oi := { dst := some 69, op := Go.Op.call { callee := Go.Callee.value (Go.Operand.func 11), args := #[], argTypes := #[] }, type := 4, pos := "law.go:193", after := #[{ on := 24, ground := Go.Ground.chain }, { on := 24, ground := Go.Ground.guard }], guard := some (24, true) }) rfl (by kernel_rfl) (by rfl) 11 _ (by go_simp <;> with_reducible rfl) ?_
      refine (KN.out x5 (BD.out.trans (Z5.mono BD.out.size))).mono ?_
      rintro e x6 ⟨rfl, b60⟩
      have hs6 : Below x4.heap.size x4 x6 := b50.trans (b60.mono b50.size)
      refine ⟨_, rfl, hs6, ?_⟩
      try simp only [Act.put, List.setIfInBounds_toArray, List.set_cons_zero, List.set_cons_succ]
      refine take_run (i := 26) (oi := { dst := some 70, op := Go.Op.pick (Go.Operand.tmp 68) (Go.Operand.tmp 69) (Go.Operand.const (Go.Value.bool false)), type := 4, pos := "law.go:193", after := #[{ on := 24, ground := Go.Ground.data }, { on := 25, ground := Go.Ground.data }], guard := none }) (v := ?_) rfl (by kernel_rfl) (by kernel_rfl) (by kernel_rfl) (fun _ _ _ h => h) (by rfl) ?_ hs6 ?_
      rotate_left
      · (intro wq hSw; go_simp <;> with_reducible rfl)
      try simp only [Act.put, List.setIfInBounds_toArray, List.set_cons_zero, List.set_cons_succ]
      refine take_run (i := 27) (oi := { dst := some 12, op := Go.Op.assign (Go.Operand.tmp 70), type := 4, pos := "law.go:193", after := #[{ on := 26, ground := Go.Ground.data }, { on := 25, ground := Go.Ground.chain }, { on := 0, ground := Go.Ground.phase }, { on := 1, ground := Go.Ground.phase }, { on := 2, ground := Go.Ground.phase }, { on := 3, ground := Go.Ground.phase }, { on := 4, ground := Go.Ground.phase }, { on := 5, ground := Go.Ground.phase }, { on := 6, ground := Go.Ground.phase }, { on := 7, ground := Go.Ground.phase }, { on := 8, ground := Go.Ground.phase }, { on := 9, ground := Go.Ground.phase }, { on := 10, ground := Go.Ground.phase }, { on := 11, ground := Go.Ground.phase }, { on := 12, ground := Go.Ground.phase }, { on := 13, ground := Go.Ground.phase }, { on := 14, ground := Go.Ground.phase }, { on := 15, ground := Go.Ground.phase }, { on := 16, ground := Go.Ground.phase }, { on := 17, ground := Go.Ground.phase }, { on := 18, ground := Go.Ground.phase }, { on := 19, ground := Go.Ground.phase }, { on := 20, ground := Go.Ground.phase }, { on := 21, ground := Go.Ground.phase }, { on := 22, ground := Go.Ground.phase }, { on := 23, ground := Go.Ground.phase }, { on := 24, ground := Go.Ground.phase }, { on := 25, ground := Go.Ground.phase }, { on := 26, ground := Go.Ground.phase }], guard := none }) (v := ?_) rfl (by kernel_rfl) (by kernel_rfl) (by kernel_rfl) (fun _ _ _ h => h) (by rfl) ?_ hs6 ?_
      rotate_left
      · (intro wq hSw; go_simp <;> with_reducible rfl)
      try simp only [Act.put, List.setIfInBounds_toArray, List.set_cons_zero, List.set_cons_succ]
      refine wpAnyH_done (by kernel_rfl) ?_ _
      have Z6 : Hid (Below w.heap.size w x6) := B1.out.trans ((BD.out.trans ((Z4.trans (hs6.mono Z4.size)).mono BD.out.size)).mono B1.out.size)
      clear hs6 b50 b60 Z5 hh4
      go_wp2
      go_ret
      exact ⟨rfl, Z6.out⟩
  · clear T2 T3
    go_wp2_with fail
    go_quiet (fail)
    go_wp2_with fail
    obtain ⟨w4, hw4⟩ : ∃ w4, w3.drewN nq = w4 := ⟨_, rfl⟩
    have B4 : Hid (Below w1.heap.size w1 w4) := by rw [← hw4]; exact below_drewN' B3.out nq
    have X4 : Hid (Boxes w w4 #[.int .i64 o.kind, .string o.src, .string o.dst, .int .i64 o.amount, .string o.key, .int .i64 o.slot, .int .i64 o.shard] #[.int .i64 p.kind, .string p.src, .string p.dst, .int .i64 p.amount, .string p.key, .int .i64 p.slot, .int .i64 p.shard] #[.int .i64 ya, .int .i64 ma, .slice ra A.length rc] #[.int .i64 yb, .int .i64 mb, .slice rb B.length rd] #[.int .i64 h.kind, .int .i64 h.group, .int .i64 h.src, .int .i64 h.dst, .int .i64 h.term, .int .i64 h.index, .int .i64 h.logTerm, .int .i64 h.commit, .bool h.ok, .slice ea E.length ec, .slice da D.length dc] #[.int .i64 k.kind, .int .i64 k.group, .int .i64 k.src, .int .i64 k.dst, .int .i64 k.term, .int .i64 k.index, .int .i64 k.logTerm, .int .i64 k.commit, .bool k.ok, .slice fa F.length fc, .slice ga G.length gc]) := by rw [← hw4]; exact X3.out.below (below_drewN' (Below.refl _ _) nq)
    rw [hw4]
    clear hw4
    clear B3 X3 BB IM MS
    have XX : Hid (∀ w', Below w4.drew.heap.size w4.drew w' → Boxes w w' #[.int .i64 o.kind, .string o.src, .string o.dst, .int .i64 o.amount, .string o.key, .int .i64 o.slot, .int .i64 o.shard] #[.int .i64 p.kind, .string p.src, .string p.dst, .int .i64 p.amount, .string p.key, .int .i64 p.slot, .int .i64 p.shard] #[.int .i64 ya, .int .i64 ma, .slice ra A.length rc] #[.int .i64 yb, .int .i64 mb, .slice rb B.length rd] #[.int .i64 h.kind, .int .i64 h.group, .int .i64 h.src, .int .i64 h.dst, .int .i64 h.term, .int .i64 h.index, .int .i64 h.logTerm, .int .i64 h.commit, .bool h.ok, .slice ea E.length ec, .slice da D.length dc] #[.int .i64 k.kind, .int .i64 k.group, .int .i64 k.src, .int .i64 k.dst, .int .i64 k.term, .int .i64 k.index, .int .i64 k.logTerm, .int .i64 k.commit, .bool k.ok, .slice fa F.length fc, .slice ga G.length gc]) := fun w' hb => (X4.out.below (Below.drew (Below.refl _ w4))).below hb
    have BD : Hid (Below w1.heap.size w1 w4.drew) := Below.drew B4.out
    refine wp_region_held_drew (S := fun w' => Below w4.drew.heap.size w4.drew w') (by kernel_rfl) (Below.refl _ _) (fun hHeld => ?_)
    refine take_row (i := 0) (oi := { dst := some 44, op := Go.Op.load 23 (Go.Operand.tmp 6), type := 23, pos := "law.go:193", after := #[], guard := none }) rfl (by kernel_rfl) (by kernel_rfl) (by kernel_rfl) 23 (.tmp 6) (w.heap.size) 23 _ (0, 0) _ (fun _ _ _ h => h) (by rfl) rfl rfl (fun w' hb => (XX.out w' hb).b0) Tryd.underlying23 rfl (by kernel_rfl) hHeld ?_
    try simp only [Act.put, List.setIfInBounds_toArray, List.set_cons_zero, List.set_cons_succ]
    refine take_row (i := 3) (oi := { dst := some 47, op := Go.Op.load 23 (Go.Operand.tmp 7), type := 23, pos := "law.go:193", after := #[], guard := none }) rfl (by kernel_rfl) (by kernel_rfl) (by kernel_rfl) 23 (.tmp 7) (w.heap.size + 1) 23 _ (0, 0) _ (fun _ _ _ h => h) (by rfl) rfl rfl (fun w' hb => (XX.out w' hb).b1) Tryd.underlying23 rfl (by kernel_rfl) hHeld ?_
    try simp only [Act.put, List.setIfInBounds_toArray, List.set_cons_zero, List.set_cons_succ]
    refine take_row (i := 7) (oi := { dst := some 51, op := Go.Op.load 23 (Go.Operand.tmp 6), type := 23, pos := "law.go:193", after := #[], guard := none }) rfl (by kernel_rfl) (by kernel_rfl) (by kernel_rfl) 23 (.tmp 6) (w.heap.size) 23 _ (0, 0) _ (fun _ _ _ h => h) (by rfl) rfl rfl (fun w' hb => (XX.out w' hb).b0) Tryd.underlying23 rfl (by kernel_rfl) hHeld ?_
    try simp only [Act.put, List.setIfInBounds_toArray, List.set_cons_zero, List.set_cons_succ]
    refine take_row (i := 8) (oi := { dst := some 52, op := Go.Op.load 23 (Go.Operand.tmp 7), type := 23, pos := "law.go:193", after := #[], guard := none }) rfl (by kernel_rfl) (by kernel_rfl) (by kernel_rfl) 23 (.tmp 7) (w.heap.size + 1) 23 _ (0, 0) _ (fun _ _ _ h => h) (by rfl) rfl rfl (fun w' hb => (XX.out w' hb).b1) Tryd.underlying23 rfl (by kernel_rfl) hHeld ?_
    try simp only [Act.put, List.setIfInBounds_toArray, List.set_cons_zero, List.set_cons_succ]
    refine take_run (i := 9) (oi := { dst := some 53, op := Go.Op.binOp Go.BinOp.eql 23 (Go.Operand.tmp 51) (Go.Operand.tmp 52) 23, type := 4, pos := "law.go:193", after := #[{ on := 7, ground := Go.Ground.data }, { on := 8, ground := Go.Ground.data }], guard := none }) (v := .bool qo) rfl (by kernel_rfl) (by kernel_rfl) (by kernel_rfl) (fun _ _ _ h => h) (by rfl) (fun wq hSw => by go_simp; rw [op_chain o p qo HC.out]; cases qo <;> rfl) hHeld ?_
    try simp only [Act.put, List.setIfInBounds_toArray, List.set_cons_zero, List.set_cons_succ]
    refine take_call (i := 1) (oi := { dst := some 45, op := Go.Op.call { callee := Go.Callee.value (Go.Operand.func 8), args := #[Go.Operand.const (Go.Value.slice none 0 0), Go.Operand.tmp 44], argTypes := #[29, 23] }, type := 29, pos := "law.go:193", after := #[{ on := 0, ground := Go.Ground.data }], guard := none }) rfl (by kernel_rfl) (by rfl) 8 _ (by go_simp <;> with_reducible rfl) ?_
    refine (PO.out w4.drew).mono ?_
    rintro e x1 ⟨v, rfl, ov, b10⟩
    obtain ⟨a1, c1, rfl, s1, _, _⟩ := owned_seen ov (by have := HZ1.out; unfold maxLen; omega)
    have Z1 : Below w4.drew.heap.size w4.drew x1 := b10
    have TT : Hid (∀ w', Below x1.heap.size x1 w' → (convert 29 9 (.slice a1 (o.bytes).length c1)).run Tryd.prog w' = .ok (.string (textOf (o.bytes))) w') := fun w' hb => run_to_text w' a1 _ c1 _ (s1.below hb)
    refine ⟨_, rfl, b10, held_more (S' := fun w' => Below x1.heap.size x1 w') (fun w' h => b10.trans (h.mono b10.size)) _ _ _ _ ?_⟩
    try simp only [Act.put, List.setIfInBounds_toArray, List.set_cons_zero, List.set_cons_succ]
    have hh1 : Below x1.heap.size x1 x1 := Below.refl _ _
    clear ov s1
    refine take_text (i := 2) (oi := { dst := some 46, op := Go.Op.convert 29 9 (Go.Operand.tmp 45), type := 9, pos := "law.go:193", after := #[{ on := 1, ground := Go.Ground.data }], guard := none }) rfl (by kernel_rfl) (by kernel_rfl) (by kernel_rfl) 29 9 (.tmp 45) _ _ (fun _ _ _ h => h) (by rfl) rfl rfl TT.out hh1 ?_
    try simp only [Act.put, List.setIfInBounds_toArray, List.set_cons_zero, List.set_cons_succ]
    clear TT
    refine take_call (i := 4) (oi := { dst := some 48, op := Go.Op.call { callee := Go.Callee.value (Go.Operand.func 8), args := #[Go.Operand.const (Go.Value.slice none 0 0), Go.Operand.tmp 47], argTypes := #[29, 23] }, type := 29, pos := "law.go:193", after := #[{ on := 3, ground := Go.Ground.data }, { on := 1, ground := Go.Ground.chain }], guard := none }) rfl (by kernel_rfl) (by rfl) 8 _ (by go_simp <;> with_reducible rfl) ?_
    refine (PP.out x1).mono ?_
    rintro e x2 ⟨v, rfl, ov, b20⟩
    obtain ⟨a2, c2, rfl, s2, _, _⟩ := owned_seen ov (by have := HZ2.out; unfold maxLen; omega)
    have Z2 : Below w4.drew.heap.size w4.drew x2 := Z1.trans (b20.mono Z1.size)
    have TT : Hid (∀ w', Below x2.heap.size x2 w' → (convert 29 9 (.slice a2 (p.bytes).length c2)).run Tryd.prog w' = .ok (.string (textOf (p.bytes))) w') := fun w' hb => run_to_text w' a2 _ c2 _ (s2.below hb)
    refine ⟨_, rfl, b20, held_more (S' := fun w' => Below x2.heap.size x2 w') (fun w' h => b20.trans (h.mono b20.size)) _ _ _ _ ?_⟩
    try simp only [Act.put, List.setIfInBounds_toArray, List.set_cons_zero, List.set_cons_succ]
    have hh2 : Below x2.heap.size x2 x2 := Below.refl _ _
    clear ov s2
    refine take_text (i := 5) (oi := { dst := some 49, op := Go.Op.convert 29 9 (Go.Operand.tmp 48), type := 9, pos := "law.go:193", after := #[{ on := 4, ground := Go.Ground.data }], guard := none }) rfl (by kernel_rfl) (by kernel_rfl) (by kernel_rfl) 29 9 (.tmp 48) _ _ (fun _ _ _ h => h) (by rfl) rfl rfl TT.out hh2 ?_
    try simp only [Act.put, List.setIfInBounds_toArray, List.set_cons_zero, List.set_cons_succ]
    clear TT
    refine take_run (i := 6) (oi := { dst := some 50, op := Go.Op.binOp Go.BinOp.eql 9 (Go.Operand.tmp 46) (Go.Operand.tmp 49) 9, type := 4, pos := "law.go:193", after := #[{ on := 2, ground := Go.Ground.data }, { on := 5, ground := Go.Ground.data }], guard := none }) (v := ?_) rfl (by kernel_rfl) (by kernel_rfl) (by kernel_rfl) (fun _ _ _ h => h) (by rfl) ?_ hh2 ?_
    rotate_left
    · (intro wq hSw; go_simp <;> with_reducible rfl)
    try simp only [Act.put, List.setIfInBounds_toArray, List.set_cons_zero, List.set_cons_succ]
    refine take_run (i := 10) (oi := { dst := some 54, op := Go.Op.binOp Go.BinOp.eql 4 (Go.Operand.tmp 50) (Go.Operand.tmp 53) 4, type := 4, pos := "law.go:193", after := #[{ on := 6, ground := Go.Ground.data }, { on := 9, ground := Go.Ground.data }], guard := none }) (v := ?_) rfl (by kernel_rfl) (by kernel_rfl) (by kernel_rfl) (fun _ _ _ h => h) (by rfl) ?_ hh2 ?_
    rotate_left
    · (intro wq hSw; go_simp <;> with_reducible rfl)
    try simp only [Act.put, List.setIfInBounds_toArray, List.set_cons_zero, List.set_cons_succ]
    refine take_run (i := 11) (oi := { dst := some 55, op := Go.Op.move (Go.Operand.tmp 54), type := 4, pos := "law.go:193", after := #[{ on := 10, ground := Go.Ground.data }, { on := 4, ground := Go.Ground.chain }], guard := none }) (v := ?_) rfl (by kernel_rfl) (by kernel_rfl) (by kernel_rfl) (fun _ _ _ h => h) (by rfl) ?_ hh2 ?_
    rotate_left
    · (intro wq hSw; go_simp <;> with_reducible rfl)
    try simp only [Act.put, List.setIfInBounds_toArray, List.set_cons_zero, List.set_cons_succ]
    refine take_row (i := 12) (oi := { dst := some 56, op := Go.Op.load 27 (Go.Operand.tmp 8), type := 27, pos := "law.go:193", after := #[{ on := 11, ground := Go.Ground.guard }], guard := some (11, true) }) rfl (by kernel_rfl) (by kernel_rfl) (by kernel_rfl) 27 (.tmp 8) (w.heap.size + 2) 27 _ (0, 0) _ (fun _ _ _ h => h) (by rfl) rfl rfl (fun w' hb => (XX.out w' (Z2.trans (hb.mono Z2.size))).b2) Tryd.underlying27 rfl (by kernel_rfl) hh2 ?_
    try simp only [Act.put, List.setIfInBounds_toArray, List.set_cons_zero, List.set_cons_succ]
    refine take_row (i := 15) (oi := { dst := some 59, op := Go.Op.load 27 (Go.Operand.tmp 9), type := 27, pos := "law.go:193", after := #[{ on := 11, ground := Go.Ground.guard }], guard := some (11, true) }) rfl (by kernel_rfl) (by kernel_rfl) (by kernel_rfl) 27 (.tmp 9) (w.heap.size + 3) 27 _ (0, 0) _ (fun _ _ _ h => h) (by rfl) rfl rfl (fun w' hb => (XX.out w' (Z2.trans (hb.mono Z2.size))).b3) Tryd.underlying27 rfl (by kernel_rfl) hh2 ?_
    try simp only [Act.put, List.setIfInBounds_toArray, List.set_cons_zero, List.set_cons_succ]
    refine take_row (i := 19) (oi := { dst := some 63, op := Go.Op.load 27 (Go.Operand.tmp 8), type := 27, pos := "law.go:193", after := #[{ on := 11, ground := Go.Ground.guard }], guard := some (11, true) }) rfl (by kernel_rfl) (by kernel_rfl) (by kernel_rfl) 27 (.tmp 8) (w.heap.size + 2) 27 _ (0, 0) _ (fun _ _ _ h => h) (by rfl) rfl rfl (fun w' hb => (XX.out w' (Z2.trans (hb.mono Z2.size))).b2) Tryd.underlying27 rfl (by kernel_rfl) hh2 ?_
    try simp only [Act.put, List.setIfInBounds_toArray, List.set_cons_zero, List.set_cons_succ]
    refine take_row (i := 20) (oi := { dst := some 64, op := Go.Op.load 27 (Go.Operand.tmp 9), type := 27, pos := "law.go:193", after := #[{ on := 11, ground := Go.Ground.guard }], guard := some (11, true) }) rfl (by kernel_rfl) (by kernel_rfl) (by kernel_rfl) 27 (.tmp 9) (w.heap.size + 3) 27 _ (0, 0) _ (fun _ _ _ h => h) (by rfl) rfl rfl (fun w' hb => (XX.out w' (Z2.trans (hb.mono Z2.size))).b3) Tryd.underlying27 rfl (by kernel_rfl) hh2 ?_
    try simp only [Act.put, List.setIfInBounds_toArray, List.set_cons_zero, List.set_cons_succ]
    refine take_call (i := 13) (oi := { dst := some 57, op := Go.Op.call { callee := Go.Callee.value (Go.Operand.func 9), args := #[Go.Operand.const (Go.Value.slice none 0 0), Go.Operand.tmp 56], argTypes := #[29, 27] }, type := 29, pos := "law.go:193", after := #[{ on := 12, ground := Go.Ground.data }, { on := 11, ground := Go.Ground.chain }, { on := 11, ground := Go.Ground.guard }], guard := some (11, true) }) rfl (by kernel_rfl) (by rfl) 9 _ (by go_simp <;> with_reducible rfl) ?_
    refine (RA.out x2 (BD.out.trans (Z2.mono BD.out.size))).mono ?_
    rintro e x3 ⟨v, rfl, ov, b30⟩
    obtain ⟨a3, c3, rfl, s3, _, _⟩ := owned_seen ov (by have := HZ3.out; unfold maxLen; omega)
    have Z3 : Below w4.drew.heap.size w4.drew x3 := Z2.trans (b30.mono Z2.size)
    have TT : Hid (∀ w', Below x3.heap.size x3 w' → (convert 29 9 (.slice a3 (replyB ya ma A).length c3)).run Tryd.prog w' = .ok (.string (textOf (replyB ya ma A))) w') := fun w' hb => run_to_text w' a3 _ c3 _ (s3.below hb)
    refine ⟨_, rfl, b30, held_more (S' := fun w' => Below x3.heap.size x3 w') (fun w' h => b30.trans (h.mono b30.size)) _ _ _ _ ?_⟩
    try simp only [Act.put, List.setIfInBounds_toArray, List.set_cons_zero, List.set_cons_succ]
    have hh3 : Below x3.heap.size x3 x3 := Below.refl _ _
    clear ov s3
    refine take_text (i := 14) (oi := { dst := some 58, op := Go.Op.convert 29 9 (Go.Operand.tmp 57), type := 9, pos := "law.go:193", after := #[{ on := 13, ground := Go.Ground.data }, { on := 11, ground := Go.Ground.guard }], guard := some (11, true) }) rfl (by kernel_rfl) (by kernel_rfl) (by kernel_rfl) 29 9 (.tmp 57) _ _ (fun _ _ _ h => h) (by rfl) rfl rfl TT.out hh3 ?_
    try simp only [Act.put, List.setIfInBounds_toArray, List.set_cons_zero, List.set_cons_succ]
    clear TT
    refine take_call (i := 16) (oi := { dst := some 60, op := Go.Op.call { callee := Go.Callee.value (Go.Operand.func 9), args := #[Go.Operand.const (Go.Value.slice none 0 0), Go.Operand.tmp 59], argTypes := #[29, 27] }, type := 29, pos := "law.go:193", after := #[{ on := 15, ground := Go.Ground.data }, { on := 13, ground := Go.Ground.chain }, { on := 11, ground := Go.Ground.guard }], guard := some (11, true) }) rfl (by kernel_rfl) (by rfl) 9 _ (by go_simp <;> with_reducible rfl) ?_
    refine (RB.out x3 (BD.out.trans (Z3.mono BD.out.size))).mono ?_
    rintro e x4 ⟨v, rfl, ov, b40⟩
    obtain ⟨a4, c4, rfl, s4, _, _⟩ := owned_seen ov (by have := HZ4.out; unfold maxLen; omega)
    have Z4 : Below w4.drew.heap.size w4.drew x4 := Z3.trans (b40.mono Z3.size)
    have TT : Hid (∀ w', Below x4.heap.size x4 w' → (convert 29 9 (.slice a4 (replyB yb mb B).length c4)).run Tryd.prog w' = .ok (.string (textOf (replyB yb mb B))) w') := fun w' hb => run_to_text w' a4 _ c4 _ (s4.below hb)
    refine ⟨_, rfl, b40, held_more (S' := fun w' => Below x4.heap.size x4 w') (fun w' h => b40.trans (h.mono b40.size)) _ _ _ _ ?_⟩
    try simp only [Act.put, List.setIfInBounds_toArray, List.set_cons_zero, List.set_cons_succ]
    have hh4 : Below x4.heap.size x4 x4 := Below.refl _ _
    clear ov s4
    refine take_text (i := 17) (oi := { dst := some 61, op := Go.Op.convert 29 9 (Go.Operand.tmp 60), type := 9, pos := "law.go:193", after := #[{ on := 16, ground := Go.Ground.data }, { on := 11, ground := Go.Ground.guard }], guard := some (11, true) }) rfl (by kernel_rfl) (by kernel_rfl) (by kernel_rfl) 29 9 (.tmp 60) _ _ (fun _ _ _ h => h) (by rfl) rfl rfl TT.out hh4 ?_
    try simp only [Act.put, List.setIfInBounds_toArray, List.set_cons_zero, List.set_cons_succ]
    clear TT
    refine take_run (i := 18) (oi := { dst := some 62, op := Go.Op.binOp Go.BinOp.eql 9 (Go.Operand.tmp 58) (Go.Operand.tmp 61) 9, type := 4, pos := "law.go:193", after := #[{ on := 14, ground := Go.Ground.data }, { on := 17, ground := Go.Ground.data }, { on := 11, ground := Go.Ground.guard }], guard := some (11, true) }) (v := ?_) rfl (by kernel_rfl) (by kernel_rfl) (by kernel_rfl) (fun _ _ _ h => h) (by rfl) ?_ hh4 ?_
    rotate_left
    · (intro wq hSw; go_simp <;> with_reducible rfl)
    try simp only [Act.put, List.setIfInBounds_toArray, List.set_cons_zero, List.set_cons_succ]
    refine take_call (i := 21) (oi := { dst := some 65, op := Go.Op.call { callee := Go.Callee.value (Go.Operand.func 10), args := #[Go.Operand.tmp 63, Go.Operand.tmp 64], argTypes := #[27, 27] }, type := 4, pos := "law.go:193", after := #[{ on := 19, ground := Go.Ground.data }, { on := 20, ground := Go.Ground.data }, { on := 16, ground := Go.Ground.chain }, { on := 11, ground := Go.Ground.guard }], guard := some (11, true) }) rfl (by kernel_rfl) (by rfl) 10 _ (by go_simp <;> with_reducible rfl) ?_
    refine (RS.out x4 (BD.out.trans (Z4.mono BD.out.size))).mono ?_
    rintro e x5 ⟨rfl, b50⟩
    refine ⟨_, rfl, b50, ?_⟩
    try simp only [Act.put, List.setIfInBounds_toArray, List.set_cons_zero, List.set_cons_succ]
    rw [HRQ.out]
    have Z5 : Below w4.drew.heap.size w4.drew x5 := Z4.trans (b50.mono Z4.size)
    refine take_run (i := 22) (oi := { dst := some 66, op := Go.Op.binOp Go.BinOp.eql 4 (Go.Operand.tmp 62) (Go.Operand.tmp 65) 4, type := 4, pos := "law.go:193", after := #[{ on := 18, ground := Go.Ground.data }, { on := 21, ground := Go.Ground.data }, { on := 11, ground := Go.Ground.guard }], guard := some (11, true) }) (v := ?_) rfl (by kernel_rfl) (by kernel_rfl) (by kernel_rfl) (fun _ _ _ h => h) (by rfl) ?_ b50 ?_
    rotate_left
    · (intro wq hSw; go_simp <;> with_reducible rfl)
    try simp only [Act.put, List.setIfInBounds_toArray, List.set_cons_zero, List.set_cons_succ]
    refine take_run (i := 23) (oi := { dst := some 67, op := Go.Op.pick (Go.Operand.tmp 55) (Go.Operand.tmp 66) (Go.Operand.const (Go.Value.bool false)), type := 4, pos := "law.go:193", after := #[{ on := 11, ground := Go.Ground.data }, { on := 22, ground := Go.Ground.data }], guard := none }) (v := ?_) rfl (by kernel_rfl) (by kernel_rfl) (by kernel_rfl) (fun _ _ _ h => h) (by rfl) ?_ b50 ?_
    rotate_left
    · (intro wq hSw; go_simp <;> with_reducible rfl)
    try simp only [Act.put, List.setIfInBounds_toArray, List.set_cons_zero, List.set_cons_succ]
    refine take_run (i := 24) (oi := { dst := some 68, op := Go.Op.move (Go.Operand.tmp 67), type := 4, pos := "law.go:193", after := #[{ on := 23, ground := Go.Ground.data }, { on := 21, ground := Go.Ground.chain }], guard := none }) (v := ?_) rfl (by kernel_rfl) (by kernel_rfl) (by kernel_rfl) (fun _ _ _ h => h) (by rfl) ?_ b50 ?_
    rotate_left
    · (intro wq hSw; go_simp <;> with_reducible rfl)
    try simp only [Act.put, List.setIfInBounds_toArray, List.set_cons_zero, List.set_cons_succ]
    refine take_call (i := 25) (oi := { dst := some 69, op := Go.Op.call { callee := Go.Callee.value (Go.Operand.func 11), args := #[], argTypes := #[] }, type := 4, pos := "law.go:193", after := #[{ on := 24, ground := Go.Ground.chain }, { on := 24, ground := Go.Ground.guard }], guard := some (24, true) }) rfl (by kernel_rfl) (by rfl) 11 _ (by go_simp <;> with_reducible rfl) ?_
    refine (KN.out x5 (BD.out.trans (Z5.mono BD.out.size))).mono ?_
    rintro e x6 ⟨rfl, b60⟩
    have hs6 : Below x4.heap.size x4 x6 := b50.trans (b60.mono b50.size)
    refine ⟨_, rfl, hs6, ?_⟩
    try simp only [Act.put, List.setIfInBounds_toArray, List.set_cons_zero, List.set_cons_succ]
    refine take_run (i := 26) (oi := { dst := some 70, op := Go.Op.pick (Go.Operand.tmp 68) (Go.Operand.tmp 69) (Go.Operand.const (Go.Value.bool false)), type := 4, pos := "law.go:193", after := #[{ on := 24, ground := Go.Ground.data }, { on := 25, ground := Go.Ground.data }], guard := none }) (v := ?_) rfl (by kernel_rfl) (by kernel_rfl) (by kernel_rfl) (fun _ _ _ h => h) (by rfl) ?_ hs6 ?_
    rotate_left
    · (intro wq hSw; go_simp <;> with_reducible rfl)
    try simp only [Act.put, List.setIfInBounds_toArray, List.set_cons_zero, List.set_cons_succ]
    refine take_run (i := 27) (oi := { dst := some 12, op := Go.Op.assign (Go.Operand.tmp 70), type := 4, pos := "law.go:193", after := #[{ on := 26, ground := Go.Ground.data }, { on := 25, ground := Go.Ground.chain }, { on := 0, ground := Go.Ground.phase }, { on := 1, ground := Go.Ground.phase }, { on := 2, ground := Go.Ground.phase }, { on := 3, ground := Go.Ground.phase }, { on := 4, ground := Go.Ground.phase }, { on := 5, ground := Go.Ground.phase }, { on := 6, ground := Go.Ground.phase }, { on := 7, ground := Go.Ground.phase }, { on := 8, ground := Go.Ground.phase }, { on := 9, ground := Go.Ground.phase }, { on := 10, ground := Go.Ground.phase }, { on := 11, ground := Go.Ground.phase }, { on := 12, ground := Go.Ground.phase }, { on := 13, ground := Go.Ground.phase }, { on := 14, ground := Go.Ground.phase }, { on := 15, ground := Go.Ground.phase }, { on := 16, ground := Go.Ground.phase }, { on := 17, ground := Go.Ground.phase }, { on := 18, ground := Go.Ground.phase }, { on := 19, ground := Go.Ground.phase }, { on := 20, ground := Go.Ground.phase }, { on := 21, ground := Go.Ground.phase }, { on := 22, ground := Go.Ground.phase }, { on := 23, ground := Go.Ground.phase }, { on := 24, ground := Go.Ground.phase }, { on := 25, ground := Go.Ground.phase }, { on := 26, ground := Go.Ground.phase }], guard := none }) (v := ?_) rfl (by kernel_rfl) (by kernel_rfl) (by kernel_rfl) (fun _ _ _ h => h) (by rfl) ?_ hs6 ?_
    rotate_left
    · (intro wq hSw; go_simp <;> with_reducible rfl)
    try simp only [Act.put, List.setIfInBounds_toArray, List.set_cons_zero, List.set_cons_succ]
    refine wpAnyH_done (by kernel_rfl) ?_ _
    have Z6 : Hid (Below w.heap.size w x6) := B1.out.trans ((BD.out.trans ((Z4.trans (hs6.mono Z4.size)).mono BD.out.size)).mono B1.out.size)
    clear hs6 b50 b60 Z5 hh4
    go_wp2
    go_ret
    exact ⟨rfl, Z6.out⟩
end Go.Proofs.YtfdlgiomnmnhgabDoor
