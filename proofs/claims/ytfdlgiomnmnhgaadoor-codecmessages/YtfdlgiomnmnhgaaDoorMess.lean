/- The statement CodecMessages: the walk. -/
import Derived.Test.YtfdlgiomnmnhgaaDoorSame2
import Derived.Test.YtfdlgiomnmnhgaaDoorUnback
import Derived.Test.YtfdlgiomnmnhgaaDoorUnmsg3
import Derived.Test.YtfdlgiomnmnhgaaDoorFrCut
import Derived.Test.YtfdlgiomnmnhgaaDoorCounts
import Derived.Test.YtfdlgiomnmnhgaaDoorKnownC
import Derived.Laws.Tables
namespace Go.Proofs.YtfdlgiomnmnhgaaDoor
open Go.RowKit Cod
set_option linter.unusedVariables false

/-- What reading a message's bytes gives. -/
structure UnB (b : List (BitVec 8)) (h : HeadD) (E : List (Int × List (BitVec 8))) (D : List (BitVec 8)) : Prop where
  hd : rHdV b 0 0 = h
  es : (unE b).1 = E
  dt : (unD b).1 = D
  nd : unEnd b = 0
structure NoEnd (l : List (BitVec 8)) : Prop where
  no : unEnd l ≠ 0
set_option maxRecDepth 100000 in
set_option maxHeartbeats 6400000 in
theorem messages_walk (h : HeadD) (ea : Option Addr) (en ec : Nat) (E : List (Int × List (BitVec 8))) (da : Option Addr) (dn dc : Nat) (D : List (BitVec 8)) (pa : Option Addr) (pn pc : Nat) (p : List (BitVec 8)) (ct : Int) (mo : BitVec 8) (w : World) (hT : Tabs w)
    (hh : h.fine) (hE : ∀ e ∈ E, i64ok e.1) (hEA : EntsAt w ea en E) (hEm : en ≤ 140737488355328) (hD : Seen w da dn D) (hdn : da = none → dc = 0) (hp : Seen w pa pn p) (hpn : pa = none → pc = 0) (hct : i64ok ct) :
    Calls Tryd.prog 7 #[h.val (.slice ea en ec) (.slice da dn dc), .slice pa pn pc, .int .i64 ct, .int .u8 (V mo)] w fun e w' => e = .returned (.bool true) ∧ Below w.heap.size w w' := by
  obtain rfl : en = E.length := hEA.1
  obtain rfl : dn = D.length := hD.1
  obtain rfl : pn = p.length := hp.1
  generalize hw1 : w.alloc (.cells #[.int .i64 h.kind, .int .i64 h.group, .int .i64 h.src, .int .i64 h.dst, .int .i64 h.term, .int .i64 h.index, .int .i64 h.logTerm, .int .i64 h.commit, .bool h.ok, .slice ea E.length ec, .slice da D.length dc] 32) = w1
  have B1 : Hid (Below w.heap.size w w1) := by rw [← hw1]; exact (Below.refl _ w).alloc (Nat.le_refl _) _
  have HBX : Hid (w1.heap[w.heap.size]? = some (.cells #[.int .i64 h.kind, .int .i64 h.group, .int .i64 h.src, .int .i64 h.dst, .int .i64 h.term, .int .i64 h.index, .int .i64 h.logTerm, .int .i64 h.commit, .bool h.ok, .slice ea E.length ec, .slice da D.length dc] 32 (0, 0))) := by rw [← hw1]; exact heap_alloc_new w _
  have HW : Hid _ := hw1
  have HT : Hid (Tabs w1) := hT.below B1.out hT.size
  have HP : Hid (Seen w1 pa p.length p) := hp.below B1.out
  have HCT : Hid (-9223372036854775808 ≤ ct ∧ ct ≤ 9223372036854775807) := ⟨hct.1, by have := hct.2; omega⟩
  have MA : Hid (Calls Tryd.prog 12 #[.agg #[.int .i64 h.kind, .int .i64 h.group, .int .i64 h.src, .int .i64 h.dst, .int .i64 h.term, .int .i64 h.index, .int .i64 h.logTerm, .int .i64 h.commit, .bool h.ok, .slice ea E.length ec, .slice da D.length dc]] w1 fun e w'' => MsgTold w1 w'' h E D e ∧ Below w1.heap.size w1 w'') := msg_any h hh ea E.length ec E hE da D.length dc D w1 (hEA.below B1.out) (hD.below B1.out) hdn
  have FR : Hid (∀ w', Below w1.heap.size w1 w' → p.length ≤ 65536 → Calls Tryd.prog 52 #[.slice pa p.length pc] w' fun e w'' => ∃ v, e = .returned (.tuple #[v, .int .i64 0]) ∧ w''.ownsRow w'.heap.size 5 1 v (frame p).length (cellsOf (frame p)) ∧ Below w'.heap.size w' w'') := fun w' hb hl => frame_any pa p.length pc p w' (HT.out.below hb HT.out.size) (HP.out.below hb) hpn hl
  have KN : Hid (∀ w', Below w1.heap.size w1 w' → Calls Tryd.prog 27 #[] w' fun e w'' => e = .returned (.bool true) ∧ Below w1.heap.size w1 w'') := fun w' hb => known_later hb HT.out
  have HH : Hid h.fine := hh
  have HE : Hid (∀ e ∈ E, i64ok e.1) := hE
  have HEA : Hid (EntsAt w1 ea E.length E) := hEA.below B1.out
  have HD : Hid (Seen w1 da D.length D) := hD.below B1.out
  have HM : Hid (E.length ≤ 140737488355328) := hEm
  clear hT hh hE hEA hEm hD hdn hp hpn hct hw1
  show Calls Tryd.prog 7 #[.agg #[.int .i64 h.kind, .int .i64 h.group, .int .i64 h.src, .int .i64 h.dst, .int .i64 h.term, .int .i64 h.index, .int .i64 h.logTerm, .int .i64 h.commit, .bool h.ok, .slice ea E.length ec, .slice da D.length dc], .slice pa p.length pc, .int .i64 ct, .int .u8 (V mo)] w _
  go_enter Tryd.func7, Tryd.ntmps7
  go_wp2_with (first
    | (rw [HW.out]; refine wpList_load_row rfl 32 (.tmp 4) rfl w.heap.size rfl 32 _ (0, 0) _ HBX.out Tryd.underlying32 rfl (by kernel_rfl) ?_))
  refine MA.out.mono ?_
  rintro e w2 ⟨t2, b2⟩
  have B2 : Hid (Below w1.heap.size w1 w2) := b2
  clear b2 HW MA
  rcases t2 with ⟨fit, v, rfl, ov⟩ | ⟨_, rfl⟩
  · obtain ⟨b, hb⟩ : ∃ b, msgB h E D = b := ⟨_, rfl⟩
    obtain ⟨u1, u2, u3, u4, u5⟩ := un_back HH.out HE.out fit
    have hb4 := fit.2.2.2
    rw [hb] at u1 u2 u3 u4 u5 ov hb4
    have hb0 : 0 < b.length := by
      have := enc_pos (zig h.kind)
      rw [← hb]
      simp only [msgB, HeadD.bytes, List.length_append]
      omega
    obtain ⟨bl, hbl⟩ : ∃ bl, b.length = bl := ⟨_, rfl⟩
    rw [hbl] at ov hb4 hb0
    obtain ⟨ba, bc, rfl, sb, nb, kb⟩ := owned_seen ov (by unfold maxLen; omega)
    have SB2 : Hid (Seen w2 ba bl b) := sb
    have NB : Hid _ := nb
    have KB : Hid _ := kb
    have HBL : Hid (0 < bl ∧ bl ≤ 1048576) := ⟨hb0, hb4⟩
    have HBE : Hid (b.length = bl) := hbl
    have UB : UnB b h E D := ⟨u1, u3, u4, u5⟩
    have HFIT : Hid (msgFits h E D) := fit
    have HMB : Hid (msgB h E D = b) := hb
    have hne : ¬ ((bl : Int) = 0) := by omega
    clear fit hb u1 u2 u3 u4 u5 ov hb4 hb0 sb nb kb hbl
    go_wp2_with fail
    refine (unmsg_any ba bl bc b w2 SB2.out NB.out KB.out (by have := HBL.out; omega)).mono ?_
    rintro e w3 ⟨t3, b3⟩
    have B3 : Hid (Below w1.heap.size w1 w3) := B2.out.trans (b3.mono B2.out.size)
    have SB3 : Hid (Seen w3 ba bl b) := SB2.out.below b3
    have HB3 : Hid (Below w2.heap.size w2 w3) := b3
    clear b3
    rcases t3 with ⟨h1, _⟩ | ⟨_, h1, _⟩ | ⟨-, -, -, rfl⟩ | ⟨-, -, -, es, va, vn, vc, dv, hem, rfl, oe, eo, dl, od⟩
    · exact absurd h1 (by have := HBL.out; have := HBE.out; omega)
    · exact absurd UB.nd h1
    · obtain ⟨z, hz⟩ : ∃ z : HeadD, Value.agg zeroM = .agg #[.int .i64 z.kind, .int .i64 z.group, .int .i64 z.src, .int .i64 z.dst, .int .i64 z.term, .int .i64 z.index, .int .i64 z.logTerm, .int .i64 z.commit, .bool z.ok, .slice none 0 0, .slice none 0 0] := ⟨⟨0, 0, 0, 0, 0, 0, 0, 0, false⟩, rfl⟩
      rw [hz]
      have BU : Hid (Below w1.heap.size w1 (w3.alloc (.cells #[.int .i64 z.kind, .int .i64 z.group, .int .i64 z.src, .int .i64 z.dst, .int .i64 z.term, .int .i64 z.index, .int .i64 z.logTerm, .int .i64 z.commit, .bool z.ok, .slice none 0 0, .slice none 0 0] 32))) := B3.out.alloc B3.out.size _
      have SB : Hid (Seen (w3.alloc (.cells #[.int .i64 z.kind, .int .i64 z.group, .int .i64 z.src, .int .i64 z.dst, .int .i64 z.term, .int .i64 z.index, .int .i64 z.logTerm, .int .i64 z.commit, .bool z.ok, .slice none 0 0, .slice none 0 0] 32)) ba bl b) := SB3.out.below ((Below.refl _ w3).alloc (Nat.le_refl _) _)
      clear HB3 SB2 B2 B3 SB3 hz
      go_wp2_with fail
      obtain ⟨u, hu⟩ : ∃ u, w3.alloc (.cells #[.int .i64 z.kind, .int .i64 z.group, .int .i64 z.src, .int .i64 z.dst, .int .i64 z.term, .int .i64 z.index, .int .i64 z.logTerm, .int .i64 z.commit, .bool z.ok, .slice none 0 0, .slice none 0 0] 32) = u := ⟨_, rfl⟩
      rw [hu] at BU SB ⊢
      clear hu
      refine (count_any ct bl u HCT.out.1 HCT.out.2 (by have := HBL.out; omega) (by have := HBL.out; omega)).mono ?_
      rintro e u' ⟨rfl, rfl⟩
      obtain ⟨k, hk, hkf⟩ : ∃ k : Nat, ct % (bl : Int) = k ∧ k < bl := ⟨(ct % (bl : Int)).toNat, by have := Int.emod_nonneg ct (b := (bl : Int)) (by omega); omega, by have h1 := Int.emod_nonneg ct (b := (bl : Int)) (by omega); have h2 := Int.emod_lt_of_pos ct (b := (bl : Int)) (by have := HBL.out; omega); omega⟩
      rw [hk]
      have hkc : k ≤ bc := by have := KB.out; omega
      have SK : Hid (Seen u' ba k (b.take k)) := SB.out.take k (by have := HBE.out; omega)
      have HUN : NoEnd (b.take k) := ⟨fun h0 => by have := un_cut b k (by have := HBE.out; omega) UB.nd h0; have := HBE.out; omega⟩
      have HK : Hid (k ≤ bc ∧ k ≤ 1048576 ∧ (b.take k).length = k) := ⟨hkc, by have := HBL.out; omega, by rw [List.length_take]; have := HBE.out; omega⟩
      clear hk hkf
      go_wp2_with fail
      refine (unmsg_any ba k bc _ u' SK.out NB.out HK.out.1 (by have := HK.out.2.1; omega)).mono ?_
      rintro e y1 ⟨t1, b1⟩
      obtain ⟨f2, rfl, hf2⟩ : ∃ f2 : Int, e = .returned (.tuple #[.agg #[.int .i64 0, .int .i64 0, .int .i64 0, .int .i64 0, .int .i64 0, .int .i64 0, .int .i64 0, .int .i64 0, .bool false, .slice none 0 0, .slice none 0 0], .int .i64 f2]) ∧ ¬ f2 = 0 := by
        rcases t1 with ⟨_, rfl⟩ | ⟨_, h1, rfl⟩ | ⟨_, h1, _⟩ | ⟨_, h1, _⟩
        · exact ⟨3, rfl, by omega⟩
        · exact ⟨_, rfl, by omega⟩
        · exact absurd h1 HUN.no
        · exact absurd h1 HUN.no
      have Y1 : Hid (Below w1.heap.size w1 y1) := BU.out.trans (b1.mono BU.out.size)
      have SB1 : Hid (Seen y1 ba bl b) := SB.out.below b1
      clear t1 b1 SB SK HUN HK BU
      obtain ⟨v2, y2, hr2, o2, g2⟩ := run_append_bytes 22 y1 y1.heap.size (.slice none 0 0) 0 [] (World.ownsRow_nil _ _ _ _) ba bl bc b SB1.out NB.out (by have := HBL.out; omega) (Nat.le_refl _)
      rw [List.nil_append, Nat.zero_add] at o2
      have hb2 : Below y1.heap.size y1 y2 := (Below.refl _ y1).grown g2 (Nat.le_refl _) (fun k e => by cases e)
      obtain ⟨v3, y3, hr3, o3, b3, _⟩ := append_one y2 y1.heap.size v2 bl b o2 mo (by have := HBL.out; omega) hb2.size
      obtain ⟨ca, cc, rfl, sc, nc, kc⟩ := owned_seen o3 (by have := HBL.out; unfold maxLen; omega)
      have HR2 : Hid _ := hr2
      have HR3 : Hid _ := hr3
      have SC : Hid (Seen y3 ca (bl + 1) (b ++ [mo])) := sc
      have NC : Hid _ := nc
      have KC : Hid _ := kc
      have Y3 : Hid (Below w1.heap.size w1 y3) := Y1.out.trans ((hb2.trans b3).mono Y1.out.size)
      have HUN : NoEnd (b ++ [mo]) := ⟨fun h0 => by
        have h1 := un_cut (b ++ [mo]) b.length (by simp) h0 (by rw [List.take_left]; exact UB.nd)
        simp at h1⟩
      clear hr2 hr3 o2 o3 g2 hb2 b3 sc nc kc Y1 SB1
      go_wp2_with (first
        | (at_builtin; refine wpList_append_known rfl (.tmp 72) (.tmp 73) 22 22 rfl _ _ rfl rfl _ _ HR2.out ?_)
        | (at_builtin; refine wpList_append_known rfl (.tmp 75) (.tmp 77) 22 22 rfl _ _ rfl rfl _ _ HR3.out ?_))
      refine (unmsg_any ca (bl + 1) cc _ y3 SC.out NC.out KC.out (by have := HBL.out; omega)).mono ?_
      rintro e y4 ⟨t4, b4⟩
      obtain ⟨z, f4, rfl, hf4⟩ : ∃ (z : HeadD) (f4 : Int), e = .returned (.tuple #[.agg #[.int .i64 z.kind, .int .i64 z.group, .int .i64 z.src, .int .i64 z.dst, .int .i64 z.term, .int .i64 z.index, .int .i64 z.logTerm, .int .i64 z.commit, .bool z.ok, .slice none 0 0, .slice none 0 0], .int .i64 f4]) ∧ ¬ f4 = 0 := by
        rcases t4 with ⟨_, rfl⟩ | ⟨_, h1, rfl⟩ | ⟨_, h1, _⟩ | ⟨_, h1, _⟩
        · exact ⟨⟨0, 0, 0, 0, 0, 0, 0, 0, false⟩, 3, rfl, by omega⟩
        · exact ⟨⟨0, 0, 0, 0, 0, 0, 0, 0, false⟩, _, rfl, by omega⟩
        · exact absurd h1 HUN.no
        · exact absurd h1 HUN.no
      have Y4 : Hid (Below w1.heap.size w1 (y4.alloc (.cells #[.int .i64 z.kind, .int .i64 z.group, .int .i64 z.src, .int .i64 z.dst, .int .i64 z.term, .int .i64 z.index, .int .i64 z.logTerm, .int .i64 z.commit, .bool z.ok, .slice none 0 0, .slice none 0 0] 32))) := (Y3.out.trans (b4.mono Y3.out.size)).alloc (by have := Y3.out.size; have := b4.size; omega) _
      clear t4 b4 Y3 SC HUN HR2 HR3
      have hg2 : (f2 == 0) = false := by simp [hf2]
      have hg4 : (f4 == 0) = false := by simp [hf4]
      go_wp2_with fail
      obtain ⟨y5, hy5⟩ : ∃ y5, y4.alloc (.cells #[.int .i64 z.kind, .int .i64 z.group, .int .i64 z.src, .int .i64 z.dst, .int .i64 z.term, .int .i64 z.index, .int .i64 z.logTerm, .int .i64 z.commit, .bool z.ok, .slice none 0 0, .slice none 0 0] 32) = y5 := ⟨_, rfl⟩
      rw [hy5] at Y4 ⊢
      clear hy5
      by_cases gp : p.length ≤ 65536
      · refine (FR.out y5 Y4.out gp).mono ?_
        rintro e x1 ⟨v, rfl, ov, b1⟩
        obtain ⟨fla, hfl⟩ : ∃ fla, (frame p).length = fla := ⟨_, rfl⟩
        have hf1 := frame_length p
        have hf2 := enc_ten (n := p.length) (by omega)
        have hf3 := enc_pos p.length
        rw [hfl] at ov hf1
        obtain ⟨fa, fc, rfl, sf, nf, kf⟩ := owned_seen ov (by unfold maxLen; omega)
        have hne : ¬ ((fla : Int) = 0) := by omega
        have X1 : Hid (Below w1.heap.size w1 x1) := Y4.out.trans (b1.mono Y4.out.size)
        have SF : Hid (Seen x1 fa fla (frame p)) := sf
        have NF : Hid _ := nf
        have KF : Hid _ := kf
        have HF : Hid (fla ≤ 70000 ∧ 0 < fla) := ⟨by omega, by omega⟩
        have HFL : Hid _ := hfl
        clear ov b1 sf nf kf hf1 hf2 hf3 hfl
        go_wp2_with fail
        refine (unframe_ok fa fla fc (frame p) x1 (HT.out.below X1.out HT.out.size) SF.out NF.out KF.out (by have := HF.out; omega) (un_frame p gp).1).mono ?_
        rintro e x2 ⟨v2, rfl, o2, b2⟩
        rw [(un_frame p gp).2] at o2
        obtain ⟨qa, qc, rfl, sq, _, _⟩ := owned_seen o2 (by unfold maxLen; omega)
        have X2 : Hid (Below w1.heap.size w1 x2) := X1.out.trans (b2.mono X1.out.size)
        have SF2 : Hid (Seen x2 fa fla (frame p)) := SF.out.below b2
        have SQ : Hid (Seen x2 qa p.length p) := sq
        clear o2 b2 sq SF X1
        go_wp2_with fail
        refine (count_any ct fla x2 HCT.out.1 HCT.out.2 (by have := HF.out; omega) (by have := HF.out; omega)).mono ?_
        rintro e x2' ⟨rfl, rfl⟩
        obtain ⟨k, hk, hkf⟩ : ∃ k : Nat, ct % (fla : Int) = k ∧ k < fla := ⟨(ct % (fla : Int)).toNat, by have := Int.emod_nonneg ct (b := (fla : Int)) (by omega); omega, by have h1 := Int.emod_nonneg ct (b := (fla : Int)) (by omega); have h2 := Int.emod_lt_of_pos ct (b := (fla : Int)) (by have := HF.out; omega); omega⟩
        rw [hk]
        have hkc : k ≤ fc := by have := KF.out; omega
        have SK : Hid (Seen x2' fa k ((frame p).take k)) := SF2.out.take k (by omega)
        have HUW : Hid (unWhy ((frame p).take k) = 10) := un_frame_cut p gp k (by have := HFL.out; omega)
        have HK : Hid (k ≤ fc ∧ k ≤ 140737488355328) := ⟨hkc, by have := HF.out; omega⟩
        clear hk SF2
        go_wp2_with fail
        refine (unframe_no fa k fc _ x2' (HT.out.below X2.out HT.out.size) SK.out NF.out HK.out.1 HK.out.2 (by rw [HUW.out]; simp)).mono ?_
        rw [HUW.out]
        rintro e x3 ⟨rfl, b3⟩
        have t1 : (convert 22 9 (.slice pa p.length pc)).run Tryd.prog x3 = .ok (.string (textOf p)) x3 := run_to_text x3 pa _ pc p ((HP.out.below X2.out).below b3)
        have t2 : (convert 22 9 (.slice qa p.length qc)).run Tryd.prog x3 = .ok (.string (textOf p)) x3 := run_to_text x3 qa _ qc p (SQ.out.below b3)
        have X3 : Hid (Below w1.heap.size w1 x3) := X2.out.trans (b3.mono X2.out.size)
        have hs : ((textOf p).toList == (textOf p).toList) = true := by simp
        generalize textOf p = tp at *
        clear b3 X2 SK SQ hkf hkc
        go_wp2_with fail
        refine (KN.out x3 X3.out).mono ?_
        rintro e x4 ⟨rfl, b4⟩
        go_wp2
        go_ret
        exact ⟨rfl, B1.out.trans (b4.mono B1.out.size)⟩
      · refine (frame_no pa p.length pc y5 (by omega)).mono ?_
        rintro e x1 ⟨rfl, rfl⟩
        have gp' : (65536 : Int) < (p.length : Int) := by omega
        go_wp2_with fail
        refine (KN.out _ Y4.out).mono ?_
        rintro e x4 ⟨rfl, b4⟩
        go_wp2
        go_ret
        exact ⟨rfl, B1.out.trans (b4.mono B1.out.size)⟩
    · rw [UB.hd]
      rw [UB.es] at hem
      rw [UB.dt] at dl od
      obtain ⟨xa, xc, rfl, _⟩ := owned_form od
      obtain ⟨hEx, hvn⟩ := ents_owned oe rfl eo
      rw [hem] at hEx
      obtain rfl : vn = E.length := hEx.1
      clear hvn
      obtain ⟨xa', xc', hxx, sx, nx, _⟩ := owned_seen od (by unfold maxLen; omega)
      cases hxx
      generalize hw4 : w3.alloc (.cells #[.int .i64 h.kind, .int .i64 h.group, .int .i64 h.src, .int .i64 h.dst, .int .i64 h.term, .int .i64 h.index, .int .i64 h.logTerm, .int .i64 h.commit, .bool h.ok, .slice va E.length vc, .slice xa D.length xc] 32) = w4
      have b4 : Below w3.heap.size w3 w4 := by rw [← hw4]; exact (Below.refl _ w3).alloc (Nat.le_refl _) _
      have HX : Hid (w4.heap[w3.heap.size]? = some (.cells #[.int .i64 h.kind, .int .i64 h.group, .int .i64 h.src, .int .i64 h.dst, .int .i64 h.term, .int .i64 h.index, .int .i64 h.logTerm, .int .i64 h.commit, .bool h.ok, .slice va E.length vc, .slice xa D.length xc] 32 (0, 0))) := by rw [← hw4]; exact heap_alloc_new w3 _
      have HBX4 : Hid (w4.heap[w.heap.size]? = some (.cells #[.int .i64 h.kind, .int .i64 h.group, .int .i64 h.src, .int .i64 h.dst, .int .i64 h.term, .int .i64 h.index, .int .i64 h.logTerm, .int .i64 h.commit, .bool h.ok, .slice ea E.length ec, .slice da D.length dc] 32 (0, 0))) := (b4.block _ (by have := (Array.getElem?_eq_some_iff.1 HBX.out).1; have := B3.out.size; omega)).trans ((B3.out.block _ (Array.getElem?_eq_some_iff.1 HBX.out).1).trans HBX.out)
      have MX : Hid (Calls Tryd.prog 12 #[.agg #[.int .i64 h.kind, .int .i64 h.group, .int .i64 h.src, .int .i64 h.dst, .int .i64 h.term, .int .i64 h.index, .int .i64 h.logTerm, .int .i64 h.commit, .bool h.ok, .slice va E.length vc, .slice xa D.length xc]] w4 fun e w'' => MsgTold w4 w'' h E D e ∧ Below w4.heap.size w4 w'') := msg_any h HH.out va E.length vc E HE.out xa D.length xc D w4 (hEx.below b4) (sx.below b4) nx
      have MS : Hid (∀ w', Below w4.heap.size w4 w' → Calls Tryd.prog 44 #[.agg #[.int .i64 h.kind, .int .i64 h.group, .int .i64 h.src, .int .i64 h.dst, .int .i64 h.term, .int .i64 h.index, .int .i64 h.logTerm, .int .i64 h.commit, .bool h.ok, .slice va E.length vc, .slice xa D.length xc], .agg #[.int .i64 h.kind, .int .i64 h.group, .int .i64 h.src, .int .i64 h.dst, .int .i64 h.term, .int .i64 h.index, .int .i64 h.logTerm, .int .i64 h.commit, .bool h.ok, .slice ea E.length ec, .slice da D.length dc]] w' fun e w'' => ∃ r : Bool, e = .returned (.bool r) ∧ (r = true ↔ h = h ∧ E = E ∧ D = D) ∧ Below w'.heap.size w' w'') := fun w' hb => sameMsg_any h h va ea E.length vc E.length ec E E xa da D.length xc D.length dc D D w' ((hEx.below b4).below hb) ((HEA.out.below (B3.out.trans (b4.mono B3.out.size))).below hb) HM.out ((sx.below b4).below hb) ((HD.out.below (B3.out.trans (b4.mono B3.out.size))).below hb)
      have B4 : Hid (Below w1.heap.size w1 w4) := B3.out.trans (b4.mono B3.out.size)
      have SB4 : Hid (Seen w4 ba bl b) := SB3.out.below b4
      have HW4 : Hid _ := hw4
      clear hEx sx nx oe eo dl od hem b4 hw4 SB3 SB2 B2 HB3 B3 HBX
      unfold HeadD.cells
      go_wp2_with (first
        | (rw [HW4.out]; refine wpList_load_row rfl 32 (.tmp 11) rfl w3.heap.size rfl 32 _ (0, 0) _ HX.out Tryd.underlying32 rfl (by kernel_rfl) ?_))
      (try rw [HW4.out])
      refine MX.out.mono ?_
      rintro e w5 ⟨t5, b5⟩
      rcases t5 with ⟨_, v5, rfl, o5⟩ | ⟨hno, _⟩
      case inr => exact absurd HFIT.out hno
      rw [HMB.out, HBE.out] at o5
      obtain ⟨a5, c5, rfl, s5, _, _⟩ := owned_seen o5 (by have := HBL.out; unfold maxLen; omega)
      have HX5 : Hid (w5.heap[w3.heap.size]? = some (.cells #[.int .i64 h.kind, .int .i64 h.group, .int .i64 h.src, .int .i64 h.dst, .int .i64 h.term, .int .i64 h.index, .int .i64 h.logTerm, .int .i64 h.commit, .bool h.ok, .slice va E.length vc, .slice xa D.length xc] 32 (0, 0))) := (b5.block _ (Array.getElem?_eq_some_iff.1 HX.out).1).trans HX.out
      have HBX5 : Hid (w5.heap[w.heap.size]? = some (.cells #[.int .i64 h.kind, .int .i64 h.group, .int .i64 h.src, .int .i64 h.dst, .int .i64 h.term, .int .i64 h.index, .int .i64 h.logTerm, .int .i64 h.commit, .bool h.ok, .slice ea E.length ec, .slice da D.length dc] 32 (0, 0))) := (b5.block _ (Array.getElem?_eq_some_iff.1 HBX4.out).1).trans HBX4.out
      have B5 : Hid (Below w4.heap.size w4 w5) := b5
      have S5 : Hid (Seen w5 a5 bl b) := s5
      clear b5 o5 s5 HX HBX4 HW4 MX
      go_wp2_with (first
        | (refine wpList_load_row rfl 32 (.tmp 11) rfl w3.heap.size rfl 32 _ (0, 0) _ HX5.out Tryd.underlying32 rfl (by kernel_rfl) ?_; refine wpList_load_row rfl 32 (.tmp 4) rfl w.heap.size rfl 32 _ (0, 0) _ HBX5.out Tryd.underlying32 rfl (by kernel_rfl) ?_))
      refine (MS.out w5 B5.out).mono ?_
      rintro e w6 ⟨r, rfl, hr, b6⟩
      obtain rfl : r = true := hr.2 (by simp)
      have t1 : (convert 22 9 (.slice a5 bl c5)).run Tryd.prog w6 = .ok (.string (textOf b)) w6 := run_to_text w6 a5 _ c5 b (S5.out.below b6)
      have t2 : (convert 22 9 (.slice ba bl bc)).run Tryd.prog w6 = .ok (.string (textOf b)) w6 := run_to_text w6 ba _ bc b ((SB4.out.below B5.out).below b6)
      have hs : ((textOf b).toList == (textOf b).toList) = true := by simp
      have BU : Hid (Below w1.heap.size w1 w6) := B4.out.trans ((B5.out.trans (b6.mono B5.out.size)).mono B4.out.size)
      have SB : Hid (Seen w6 ba bl b) := (SB4.out.below B5.out).below b6
      generalize textOf b = tb at *
      clear b6 S5 B5 HX5 HBX5 SB4 B4 MS hr
      go_wp2_with fail
      refine (count_any ct bl w6 HCT.out.1 HCT.out.2 (by have := HBL.out; omega) (by have := HBL.out; omega)).mono ?_
      rintro e w6' ⟨rfl, rfl⟩
      obtain ⟨k, hk, hkf⟩ : ∃ k : Nat, ct % (bl : Int) = k ∧ k < bl := ⟨(ct % (bl : Int)).toNat, by have := Int.emod_nonneg ct (b := (bl : Int)) (by omega); omega, by have h1 := Int.emod_nonneg ct (b := (bl : Int)) (by omega); have h2 := Int.emod_lt_of_pos ct (b := (bl : Int)) (by have := HBL.out; omega); omega⟩
      rw [hk]
      have hkc : k ≤ bc := by have := KB.out; omega
      have SK : Hid (Seen w6' ba k (b.take k)) := SB.out.take k (by have := HBE.out; omega)
      have HUN : NoEnd (b.take k) := ⟨fun h0 => by have := un_cut b k (by have := HBE.out; omega) UB.nd h0; have := HBE.out; omega⟩
      have HK : Hid (k ≤ bc ∧ k ≤ 1048576 ∧ (b.take k).length = k) := ⟨hkc, by have := HBL.out; omega, by rw [List.length_take]; have := HBE.out; omega⟩
      clear hk hkf
      go_wp2_with fail
      refine (unmsg_any ba k bc _ w6' SK.out NB.out HK.out.1 (by have := HK.out.2.1; omega)).mono ?_
      rintro e y1 ⟨t1, b1⟩
      obtain ⟨f2, rfl, hf2⟩ : ∃ f2 : Int, e = .returned (.tuple #[.agg #[.int .i64 0, .int .i64 0, .int .i64 0, .int .i64 0, .int .i64 0, .int .i64 0, .int .i64 0, .int .i64 0, .bool false, .slice none 0 0, .slice none 0 0], .int .i64 f2]) ∧ ¬ f2 = 0 := by
        rcases t1 with ⟨_, rfl⟩ | ⟨_, h1, rfl⟩ | ⟨_, h1, _⟩ | ⟨_, h1, _⟩
        · exact ⟨3, rfl, by omega⟩
        · exact ⟨_, rfl, by omega⟩
        · exact absurd h1 HUN.no
        · exact absurd h1 HUN.no
      have Y1 : Hid (Below w1.heap.size w1 y1) := BU.out.trans (b1.mono BU.out.size)
      have SB1 : Hid (Seen y1 ba bl b) := SB.out.below b1
      clear t1 b1 SB SK HUN HK BU
      obtain ⟨v2, y2, hr2, o2, g2⟩ := run_append_bytes 22 y1 y1.heap.size (.slice none 0 0) 0 [] (World.ownsRow_nil _ _ _ _) ba bl bc b SB1.out NB.out (by have := HBL.out; omega) (Nat.le_refl _)
      rw [List.nil_append, Nat.zero_add] at o2
      have hb2 : Below y1.heap.size y1 y2 := (Below.refl _ y1).grown g2 (Nat.le_refl _) (fun k e => by cases e)
      obtain ⟨v3, y3, hr3, o3, b3, _⟩ := append_one y2 y1.heap.size v2 bl b o2 mo (by have := HBL.out; omega) hb2.size
      obtain ⟨ca, cc, rfl, sc, nc, kc⟩ := owned_seen o3 (by have := HBL.out; unfold maxLen; omega)
      have HR2 : Hid _ := hr2
      have HR3 : Hid _ := hr3
      have SC : Hid (Seen y3 ca (bl + 1) (b ++ [mo])) := sc
      have NC : Hid _ := nc
      have KC : Hid _ := kc
      have Y3 : Hid (Below w1.heap.size w1 y3) := Y1.out.trans ((hb2.trans b3).mono Y1.out.size)
      have HUN : NoEnd (b ++ [mo]) := ⟨fun h0 => by
        have h1 := un_cut (b ++ [mo]) b.length (by simp) h0 (by rw [List.take_left]; exact UB.nd)
        simp at h1⟩
      clear hr2 hr3 o2 o3 g2 hb2 b3 sc nc kc Y1 SB1
      go_wp2_with (first
        | (at_builtin; refine wpList_append_known rfl (.tmp 72) (.tmp 73) 22 22 rfl _ _ rfl rfl _ _ HR2.out ?_)
        | (at_builtin; refine wpList_append_known rfl (.tmp 75) (.tmp 77) 22 22 rfl _ _ rfl rfl _ _ HR3.out ?_))
      refine (unmsg_any ca (bl + 1) cc _ y3 SC.out NC.out KC.out (by have := HBL.out; omega)).mono ?_
      rintro e y4 ⟨t4, b4⟩
      obtain ⟨z, f4, rfl, hf4⟩ : ∃ (z : HeadD) (f4 : Int), e = .returned (.tuple #[.agg #[.int .i64 z.kind, .int .i64 z.group, .int .i64 z.src, .int .i64 z.dst, .int .i64 z.term, .int .i64 z.index, .int .i64 z.logTerm, .int .i64 z.commit, .bool z.ok, .slice none 0 0, .slice none 0 0], .int .i64 f4]) ∧ ¬ f4 = 0 := by
        rcases t4 with ⟨_, rfl⟩ | ⟨_, h1, rfl⟩ | ⟨_, h1, _⟩ | ⟨_, h1, _⟩
        · exact ⟨⟨0, 0, 0, 0, 0, 0, 0, 0, false⟩, 3, rfl, by omega⟩
        · exact ⟨⟨0, 0, 0, 0, 0, 0, 0, 0, false⟩, _, rfl, by omega⟩
        · exact absurd h1 HUN.no
        · exact absurd h1 HUN.no
      have Y4 : Hid (Below w1.heap.size w1 (y4.alloc (.cells #[.int .i64 z.kind, .int .i64 z.group, .int .i64 z.src, .int .i64 z.dst, .int .i64 z.term, .int .i64 z.index, .int .i64 z.logTerm, .int .i64 z.commit, .bool z.ok, .slice none 0 0, .slice none 0 0] 32))) := (Y3.out.trans (b4.mono Y3.out.size)).alloc (by have := Y3.out.size; have := b4.size; omega) _
      clear t4 b4 Y3 SC HUN HR2 HR3
      have hg2 : (f2 == 0) = false := by simp [hf2]
      have hg4 : (f4 == 0) = false := by simp [hf4]
      go_wp2_with fail
      obtain ⟨y5, hy5⟩ : ∃ y5, y4.alloc (.cells #[.int .i64 z.kind, .int .i64 z.group, .int .i64 z.src, .int .i64 z.dst, .int .i64 z.term, .int .i64 z.index, .int .i64 z.logTerm, .int .i64 z.commit, .bool z.ok, .slice none 0 0, .slice none 0 0] 32) = y5 := ⟨_, rfl⟩
      rw [hy5] at Y4 ⊢
      clear hy5
      by_cases gp : p.length ≤ 65536
      · refine (FR.out y5 Y4.out gp).mono ?_
        rintro e x1 ⟨v, rfl, ov, b1⟩
        obtain ⟨fla, hfl⟩ : ∃ fla, (frame p).length = fla := ⟨_, rfl⟩
        have hf1 := frame_length p
        have hf2 := enc_ten (n := p.length) (by omega)
        have hf3 := enc_pos p.length
        rw [hfl] at ov hf1
        obtain ⟨fa, fc, rfl, sf, nf, kf⟩ := owned_seen ov (by unfold maxLen; omega)
        have hne : ¬ ((fla : Int) = 0) := by omega
        have X1 : Hid (Below w1.heap.size w1 x1) := Y4.out.trans (b1.mono Y4.out.size)
        have SF : Hid (Seen x1 fa fla (frame p)) := sf
        have NF : Hid _ := nf
        have KF : Hid _ := kf
        have HF : Hid (fla ≤ 70000 ∧ 0 < fla) := ⟨by omega, by omega⟩
        have HFL : Hid _ := hfl
        clear ov b1 sf nf kf hf1 hf2 hf3 hfl
        go_wp2_with fail
        refine (unframe_ok fa fla fc (frame p) x1 (HT.out.below X1.out HT.out.size) SF.out NF.out KF.out (by have := HF.out; omega) (un_frame p gp).1).mono ?_
        rintro e x2 ⟨v2, rfl, o2, b2⟩
        rw [(un_frame p gp).2] at o2
        obtain ⟨qa, qc, rfl, sq, _, _⟩ := owned_seen o2 (by unfold maxLen; omega)
        have X2 : Hid (Below w1.heap.size w1 x2) := X1.out.trans (b2.mono X1.out.size)
        have SF2 : Hid (Seen x2 fa fla (frame p)) := SF.out.below b2
        have SQ : Hid (Seen x2 qa p.length p) := sq
        clear o2 b2 sq SF X1
        go_wp2_with fail
        refine (count_any ct fla x2 HCT.out.1 HCT.out.2 (by have := HF.out; omega) (by have := HF.out; omega)).mono ?_
        rintro e x2' ⟨rfl, rfl⟩
        obtain ⟨k, hk, hkf⟩ : ∃ k : Nat, ct % (fla : Int) = k ∧ k < fla := ⟨(ct % (fla : Int)).toNat, by have := Int.emod_nonneg ct (b := (fla : Int)) (by omega); omega, by have h1 := Int.emod_nonneg ct (b := (fla : Int)) (by omega); have h2 := Int.emod_lt_of_pos ct (b := (fla : Int)) (by have := HF.out; omega); omega⟩
        rw [hk]
        have hkc : k ≤ fc := by have := KF.out; omega
        have SK : Hid (Seen x2' fa k ((frame p).take k)) := SF2.out.take k (by omega)
        have HUW : Hid (unWhy ((frame p).take k) = 10) := un_frame_cut p gp k (by have := HFL.out; omega)
        have HK : Hid (k ≤ fc ∧ k ≤ 140737488355328) := ⟨hkc, by have := HF.out; omega⟩
        clear hk SF2
        go_wp2_with fail
        refine (unframe_no fa k fc _ x2' (HT.out.below X2.out HT.out.size) SK.out NF.out HK.out.1 HK.out.2 (by rw [HUW.out]; simp)).mono ?_
        rw [HUW.out]
        rintro e x3 ⟨rfl, b3⟩
        have t1 : (convert 22 9 (.slice pa p.length pc)).run Tryd.prog x3 = .ok (.string (textOf p)) x3 := run_to_text x3 pa _ pc p ((HP.out.below X2.out).below b3)
        have t2 : (convert 22 9 (.slice qa p.length qc)).run Tryd.prog x3 = .ok (.string (textOf p)) x3 := run_to_text x3 qa _ qc p (SQ.out.below b3)
        have X3 : Hid (Below w1.heap.size w1 x3) := X2.out.trans (b3.mono X2.out.size)
        have hs : ((textOf p).toList == (textOf p).toList) = true := by simp
        generalize textOf p = tp at *
        clear b3 X2 SK SQ hkf hkc
        go_wp2_with fail
        refine (KN.out x3 X3.out).mono ?_
        rintro e x4 ⟨rfl, b4⟩
        go_wp2
        go_ret
        exact ⟨rfl, B1.out.trans (b4.mono B1.out.size)⟩
      · refine (frame_no pa p.length pc y5 (by omega)).mono ?_
        rintro e x1 ⟨rfl, rfl⟩
        have gp' : (65536 : Int) < (p.length : Int) := by omega
        go_wp2_with fail
        refine (KN.out _ Y4.out).mono ?_
        rintro e x4 ⟨rfl, b4⟩
        go_wp2
        go_ret
        exact ⟨rfl, B1.out.trans (b4.mono B1.out.size)⟩
  · go_wp2_with fail
    by_cases gp : p.length ≤ 65536
    · refine (FR.out w2 B2.out gp).mono ?_
      rintro e x1 ⟨v, rfl, ov, b1⟩
      obtain ⟨fla, hfl⟩ : ∃ fla, (frame p).length = fla := ⟨_, rfl⟩
      have hf1 := frame_length p
      have hf2 := enc_ten (n := p.length) (by omega)
      have hf3 := enc_pos p.length
      rw [hfl] at ov hf1
      obtain ⟨fa, fc, rfl, sf, nf, kf⟩ := owned_seen ov (by unfold maxLen; omega)
      have hne : ¬ ((fla : Int) = 0) := by omega
      have X1 : Hid (Below w1.heap.size w1 x1) := B2.out.trans (b1.mono B2.out.size)
      have SF : Hid (Seen x1 fa fla (frame p)) := sf
      have NF : Hid _ := nf
      have KF : Hid _ := kf
      have HF : Hid (fla ≤ 70000 ∧ 0 < fla) := ⟨by omega, by omega⟩
      have HFL : Hid _ := hfl
      clear ov b1 sf nf kf hf1 hf2 hf3 hfl
      go_wp2_with fail
      refine (unframe_ok fa fla fc (frame p) x1 (HT.out.below X1.out HT.out.size) SF.out NF.out KF.out (by have := HF.out; omega) (un_frame p gp).1).mono ?_
      rintro e x2 ⟨v2, rfl, o2, b2⟩
      rw [(un_frame p gp).2] at o2
      obtain ⟨qa, qc, rfl, sq, _, _⟩ := owned_seen o2 (by unfold maxLen; omega)
      have X2 : Hid (Below w1.heap.size w1 x2) := X1.out.trans (b2.mono X1.out.size)
      have SF2 : Hid (Seen x2 fa fla (frame p)) := SF.out.below b2
      have SQ : Hid (Seen x2 qa p.length p) := sq
      clear o2 b2 sq SF X1
      go_wp2_with fail
      refine (count_any ct fla x2 HCT.out.1 HCT.out.2 (by have := HF.out; omega) (by have := HF.out; omega)).mono ?_
      rintro e x2' ⟨rfl, rfl⟩
      obtain ⟨k, hk, hkf⟩ : ∃ k : Nat, ct % (fla : Int) = k ∧ k < fla := ⟨(ct % (fla : Int)).toNat, by have := Int.emod_nonneg ct (b := (fla : Int)) (by omega); omega, by have h1 := Int.emod_nonneg ct (b := (fla : Int)) (by omega); have h2 := Int.emod_lt_of_pos ct (b := (fla : Int)) (by have := HF.out; omega); omega⟩
      rw [hk]
      have hkc : k ≤ fc := by have := KF.out; omega
      have SK : Hid (Seen x2' fa k ((frame p).take k)) := SF2.out.take k (by omega)
      have HUW : Hid (unWhy ((frame p).take k) = 10) := un_frame_cut p gp k (by have := HFL.out; omega)
      have HK : Hid (k ≤ fc ∧ k ≤ 140737488355328) := ⟨hkc, by have := HF.out; omega⟩
      clear hk SF2
      go_wp2_with fail
      refine (unframe_no fa k fc _ x2' (HT.out.below X2.out HT.out.size) SK.out NF.out HK.out.1 HK.out.2 (by rw [HUW.out]; simp)).mono ?_
      rw [HUW.out]
      rintro e x3 ⟨rfl, b3⟩
      have t1 : (convert 22 9 (.slice pa p.length pc)).run Tryd.prog x3 = .ok (.string (textOf p)) x3 := run_to_text x3 pa _ pc p ((HP.out.below X2.out).below b3)
      have t2 : (convert 22 9 (.slice qa p.length qc)).run Tryd.prog x3 = .ok (.string (textOf p)) x3 := run_to_text x3 qa _ qc p (SQ.out.below b3)
      have X3 : Hid (Below w1.heap.size w1 x3) := X2.out.trans (b3.mono X2.out.size)
      have hs : ((textOf p).toList == (textOf p).toList) = true := by simp
      generalize textOf p = tp at *
      clear b3 X2 SK SQ hkf hkc
      go_wp2_with fail
      refine (KN.out x3 X3.out).mono ?_
      rintro e x4 ⟨rfl, b4⟩
      go_wp2
      go_ret
      exact ⟨rfl, B1.out.trans (b4.mono B1.out.size)⟩
    · refine (frame_no pa p.length pc w2 (by omega)).mono ?_
      rintro e x1 ⟨rfl, rfl⟩
      have gp' : (65536 : Int) < (p.length : Int) := by omega
      go_wp2_with fail
      refine (KN.out _ B2.out).mono ?_
      rintro e x4 ⟨rfl, b4⟩
      go_wp2
      go_ret
      exact ⟨rfl, B1.out.trans (b4.mono B1.out.size)⟩
theorem messages_walk_int (h : HeadD) (ea : Option Addr) (en ec : Nat) (E : List (Int × List (BitVec 8))) (da : Option Addr) (dn dc : Nat) (D : List (BitVec 8)) (pa : Option Addr) (pn pc : Nat) (p : List (BitVec 8)) (ct mo : Int) (w : World) (hT : Tabs w)
    (hh : h.fine) (hE : ∀ e ∈ E, i64ok e.1) (hEA : EntsAt w ea en E) (hEm : en ≤ 140737488355328) (hD : Seen w da dn D) (hdn : da = none → dc = 0) (hp : Seen w pa pn p) (hpn : pa = none → pc = 0) (hct : (Lit.int .i64 ct).wf = true) (hmo : (Lit.int .u8 mo).wf = true) :
    Calls Tryd.prog 7 #[h.val (.slice ea en ec) (.slice da dn dc), .slice pa pn pc, .int .i64 ct, .int .u8 mo] w fun e w' => e = .returned (.bool true) ∧ Below w.heap.size w w' := by
  have h1 : 0 ≤ mo ∧ mo ≤ 255 := by simpa [Lit.wf, IntKind.min, IntKind.max, IntKind.bits, IntKind.signed] using hmo
  have h2 : -9223372036854775808 ≤ ct ∧ ct ≤ 9223372036854775807 := by simpa [Lit.wf, IntKind.min, IntKind.max, IntKind.bits, IntKind.signed] using hct
  have hV : V (BitVec.ofNat 8 mo.toNat) = mo := by rw [V_of]; omega
  have := messages_walk h ea en ec E da dn dc D pa pn pc p ct (BitVec.ofNat 8 mo.toNat) w hT hh hE hEA hEm hD hdn hp hpn ⟨h2.1, by omega⟩
  rwa [hV] at this
end Go.Proofs.YtfdlgiomnmnhgaaDoor
