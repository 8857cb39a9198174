/- Package rlog: Match. -/
import Derived.Test.YtikedglcicgdhaaLPass
namespace Go.Proofs.Ytikedglcicgdhaa
open Go.RowKit
attribute [local go_sem] Oper.semAt_some
set_option linter.unusedVariables false

/-- Behind which place entries are matched, and which ones. -/
def meetL (B T : Int) (L : List EntV) (at_ t : Int) (l : List Ent) : Option (Int × List Ent) :=
  if at_ < B then (if B - at_ ≤ l.length then some (B, l.drop (B - at_).toNat) else none) else if stand B T L at_ = some t then some (at_, l) else none
section
variable {w : World} {base N : Nat} {B T : Int} {sv : Value} {L : List EntV}
set_option maxRecDepth 100000 in
set_option maxHeartbeats 1600000 in
theorem meet_any (h : LogIn w base N B T sv L) (at_ t : Int) (h0 : 0 ≤ at_) (hhi : at_ ≤ 9223372036854775807) (a : Option Addr) (len cap : Nat) (l : List Ent) (hlen : len = l.length) (hnil : a = none → cap = 0) (hcap : len ≤ cap) (hx : ∀ x, a = some x → x = ⟨x.block, x.off, none⟩) (hm : len ≤ 4398046511104) :
    Calls Try.prog 29 #[.pointer (some ⟨N, 0, none⟩), .int .i64 at_, .int .i64 t, .slice a len cap] w fun e w' => Below w.heap.size w w' ∧
      ((meetL B T L at_ t l = none ∧ e = .returned (.tuple #[.int .i64 0, .slice none 0 0, .int .i64 5])) ∨
       (∃ from_ l' a' n' c', meetL B T L at_ t l = some (from_, l') ∧ e = .returned (.tuple #[.int .i64 from_, .slice a' n' c', .int .i64 0]) ∧ B ≤ from_ ∧ from_ ≤ B + L.length ∧ Within a a' len n' c' l l' ∧ n' = l'.length)) := by
  have c0 := h.c0
  have hB := h.bB
  have hl := h.len
  by_cases hlt : at_ < B
  · have q0 : decide (at_ < B) = true := decide_eq_true hlt
    obtain ⟨d, ed⟩ : ∃ d : Nat, (B - at_).toNat = d := ⟨_, rfl⟩
    have q1 : wrap64 (B - at_) = (d : Int) := by unfold wrap64; omega
    by_cases hg : B - at_ ≤ l.length
    · have q2 : decide ((len : Int) < (d : Int)) = false := decide_eq_false (by omega)
      have hdl : d ≤ len := by omega
      have hml : Hid (meetL B T L at_ t l = some (B, l.drop d)) := by
        show meetL B T L at_ t l = _
        unfold meetL
        rw [if_pos hlt, if_pos hg, ed]
      have HL : Hid (len = l.length) := hlen
      have HZ : Hid (0 ≤ (L.length : Int)) := by show _ ≤ _; omega
      cases a with
      | none =>
        obtain rfl := hnil rfl
        obtain rfl : len = 0 := by omega
        obtain rfl : d = 0 := by omega
        have hln : l = [] := List.eq_nil_of_length_eq_zero hlen.symm
        clear h hB hl hlt hg ed hnil hcap hx hdl hm hlen hhi h0
        go_enter Try.func29, Try.ntmps29
        go_wp2
        go_quiet (fail)
        go_wp2
        go_ret3
        refine ⟨below_drewN' (Below.refl _ _) _, .inr ⟨B, l.drop 0, none, 0, 0, hml.out, rfl, Int.le_refl _, by have := HZ.out; omega, ⟨fun W hW => by simpa using hW, fun _ => rfl, Nat.le_refl _, Nat.le_refl _⟩, by rw [hln]; rfl⟩⟩
      | some x =>
        have hx' := hx x rfl
        obtain ⟨b, off, sp⟩ := x
        cases hx'
        obtain ⟨ax, hax⟩ : ∃ ax, (if cap = d then some (⟨b, off, none⟩ : Addr) else some ⟨b, off + d * 2, none⟩) = some ax := by split <;> exact ⟨_, rfl⟩
        have r1 : (d : Int) ≤ (len : Int) := by omega
        have r2 : (len : Int) ≤ (cap : Int) := by omega
        have r3 : d ≤ cap := by omega
        have HAX : Hid (d < len → ax = ⟨b, off + d * 2, none⟩) := fun hdl2 => by
          rw [if_neg (by omega)] at hax
          exact (Option.some.inj hax).symm
        have HC : Hid (len ≤ cap) := hcap
        clear h hB hl hlt hg ed hnil hx hm hlen hhi h0
        go_enter Try.func29, Try.ntmps29
        go_wp2
        go_quiet (fail)
        go_wp2
        go_ret3
        refine ⟨below_drewN' (Below.refl _ _) _, .inr ⟨B, l.drop d, some ax, len - d, cap - d, hml.out, rfl, Int.le_refl _, by have := HZ.out; omega, ⟨fun W hW => ?_, (fun e => by cases e), by have := HC.out; omega, Nat.sub_le _ _⟩, by rw [List.length_drop, ← HL.out]⟩⟩
        exact hW.drop d hdl (fun h2 b' off' e => by cases e; rw [HAX.out h2])
    · have q2 : len < d := by omega
      have hml : Hid (meetL B T L at_ t l = none) := by
        show meetL B T L at_ t l = _
        unfold meetL
        rw [if_pos hlt, if_neg hg]
      clear h hB hl hlt hg ed hnil hcap hx hm hlen hhi h0
      go_enter Try.func29, Try.ntmps29
      go_wp2
      go_ret3
      exact ⟨Below.refl _ _, .inl ⟨hml.out, rfl⟩⟩
  · have q0 : decide (at_ < B) = false := decide_eq_false hlt
    have HS := stands_any h at_ hhi
    unfold PlaceAt at HS
    cases hs : stand B T L at_ with
    | none =>
      rw [hs] at HS
      have hml : Hid (meetL B T L at_ t l = none) := by
        show meetL B T L at_ t l = _
        unfold meetL
        rw [if_neg hlt, hs, if_neg (fun x => by cases x)]
      have e0 := eql_nil
      clear h hB hl hlt hnil hcap hx hm hlen hhi h0 hs
      go_enter Try.func29, Try.ntmps29
      go_wp2_with fail
      refine HS.mono ?_
      clear HS
      rintro e w1 ⟨pv, rfl, b1, hp⟩
      have hp' : pv = .nilIface := hp
      rw [hp']
      clear hp hp'
      go_wp2
      go_ret3
      exact ⟨b1, .inl ⟨hml.out, rfl⟩⟩
    | some u =>
      rw [hs] at HS
      have hbd : B ≤ at_ ∧ at_ ≤ B + L.length := by
        rcases stand_cases B T L at_ with ⟨rfl, h1⟩ | ⟨k, hk, h2, h1⟩ | ⟨h2, h1⟩
        · omega
        · omega
        · rw [hs] at h1; cases h1
      have HBD : Hid (B ≤ at_ ∧ at_ ≤ B + L.length) := hbd
      have i0 := inv_base
      have e0 := eql_base
      have i1 := inv_entry
      have e1 := eql_entry
      have HL : Hid (len = l.length) := hlen
      have HN : Hid (a = none → cap = 0) := hnil
      have HC : Hid (len ≤ cap) := hcap
      by_cases hut : u = t
      · subst hut
        have hml : Hid (meetL B T L at_ u l = some (at_, l)) := by
          show meetL B T L at_ u l = _
          unfold meetL
          rw [if_neg hlt, hs, if_pos rfl]
        clear h hB hl hlt hnil hcap hx hm hlen hhi h0 hs hbd
        go_enter Try.func29, Try.ntmps29
        go_wp2_with fail
        refine HS.mono ?_
        clear HS
        rintro e w1 ⟨pv, rfl, b1, hp⟩
        have hp' : pv = baseP u ∨ ∃ k, pv = entP k u := hp
        clear hp
        rcases hp' with hp | ⟨k, hp⟩
        all_goals
          rw [hp]
          clear hp
          first | unfold baseP | unfold entP
          go_wp2_with fail
          first | refine (term_baseB _ w1).mono ?_ | refine (term_entryB _ _ w1).mono ?_
          rintro e w2 ⟨rfl, b2⟩
          go_wp2
          go_ret3
          exact ⟨b1.trans (b2.mono b1.size), .inr ⟨at_, l, a, len, cap, hml.out, rfl, HBD.out.1, HBD.out.2, ⟨fun W hW => hW, HN.out, HC.out, Nat.le_refl _⟩, HL.out⟩⟩
      · have hml : Hid (meetL B T L at_ t l = none) := by
          show meetL B T L at_ t l = _
          unfold meetL
          rw [if_neg hlt, hs, if_neg (fun x => hut (Option.some.inj x))]
        have z1 : (u == t) = false := by simpa using hut
        have z2 : (u != t) = true := by simpa using hut
        clear h hB hl hlt hnil hcap hx hm hlen hhi h0 hs hbd hut
        go_enter Try.func29, Try.ntmps29
        go_wp2_with fail
        refine HS.mono ?_
        clear HS
        rintro e w1 ⟨pv, rfl, b1, hp⟩
        have hp' : pv = baseP u ∨ ∃ k, pv = entP k u := hp
        clear hp
        rcases hp' with hp | ⟨k, hp⟩
        all_goals
          rw [hp]
          clear hp
          first | unfold baseP | unfold entP
          go_wp2_with fail
          first | refine (term_baseB _ w1).mono ?_ | refine (term_entryB _ _ w1).mono ?_
          rintro e w2 ⟨rfl, b2⟩
          go_wp2
          go_ret3
          exact ⟨b1.trans (b2.mono b1.size), .inl ⟨hml.out, rfl⟩⟩
/-- What comes of Match. -/
def MatchTold (w w' : World) (base N : Nat) (B T : Int) (sv : Value) (L : List EntV) (at_ t : Int) (l : List Ent) (e : Ending) : Prop :=
  match meetL B T L at_ t l with
  | none => e = .returned (.tuple #[.int .i64 0, .int .i64 0, .int .i64 5]) ∧ Below w.heap.size w w'
  | some (from_, l') =>
    (passed (stand B T L) from_ l' = l'.length ∧ e = .returned (.tuple #[.int .i64 (at_ + l.length), .int .i64 0, .int .i64 0]) ∧ Below w.heap.size w w') ∨
    (passed (stand B T L) from_ l' < l'.length ∧ ∃ kept : Nat, (kept : Int) = from_ - B + passed (stand B T L) from_ l' ∧ kept ≤ L.length ∧ ∃ u, stand B T L (B + kept) = some u ∧
      ((∃ why : Int, (why = 4 ∧ 4096 < kept + (l'.length - passed (stand B T L) from_ l') ∨ why = 1 ∧ canBehind (max u 1) (l'.drop (passed (stand B T L) from_ l')) = false) ∧ e = .returned (.tuple #[.int .i64 0, .int .i64 0, .int .i64 why]) ∧ Below w.heap.size w w') ∨
       (canBehind (max u 1) (l'.drop (passed (stand B T L) from_ l')) = true ∧ e = .returned (.tuple #[.int .i64 (at_ + l.length), .int .i64 (from_ + passed (stand B T L) from_ l' + 1), .int .i64 0]) ∧
        ∃ sv' fs, LogIn w' base N B T sv' (L.take kept ++ fs) ∧ fs.map Prod.fst = l'.drop (passed (stand B T L) from_ l') ∧ Chg w w' N sv.ownBlock ∧ (∀ k, sv'.ownBlock = some k → sv.ownBlock = some k ∨ w.heap.size ≤ k))))
theorem passed_stands (B T : Int) (L : List EntV) : ∀ (l : List Ent) (at_ : Int), B ≤ at_ → at_ ≤ B + L.length → at_ + passed (stand B T L) at_ l ≤ B + L.length
  | [], at_, _, h => by simpa [passed] using h
  | e :: l, at_, h0, h1 => by
    unfold passed
    split
    · rename_i hs
      have : at_ + 1 ≤ B + L.length := by
        rcases stand_cases B T L (at_ + 1) with ⟨h2, _⟩ | ⟨k, hk, h2, _⟩ | ⟨_, h2⟩
        · omega
        · omega
        · rw [hs] at h2; cases h2
      have := passed_stands B T L l (at_ + 1) (by omega) this
      omega
    · simpa using h1
theorem stand_some (B T : Int) (L : List EntV) (k : Nat) (hk : k ≤ L.length) : ∃ u, stand B T L (B + k) = some u := by
  cases k with
  | zero => exact ⟨T, by simpa using stand_base B T L⟩
  | succ k => exact ⟨_, by rw [show B + ((k + 1 : Nat) : Int) = B + 1 + k by omega]; exact stand_entry B T L k (by omega)⟩
set_option maxRecDepth 100000 in
set_option maxHeartbeats 1600000 in
theorem match_any (h : LogIn w base N B T sv L) (hcb : canBase B T) (at_ t : Int) (h0 : 0 ≤ at_) (hhi : at_ ≤ 2305843009213693952) (ht : 0 ≤ t) (a : Option Addr) (len cap : Nat) (l : List Ent) (he : ∀ w', Chg w w' N sv.ownBlock → EntsAt w' a len l) (hnil : a = none → cap = 0) (hcap : len ≤ cap) (hx : ∀ x, a = some x → x = ⟨x.block, x.off, none⟩) (hm : len ≤ 4398046511104) :
    Calls Try.prog 12 #[.pointer (some ⟨N, 0, none⟩), .int .i64 at_, .int .i64 t, .slice a len cap] w fun e w' => MatchTold w w' base N B T sv L at_ t l e := by
  have hlen := (he w (Chg.refl _ _ _)).1
  have HM := meet_any h at_ t h0 (by omega) a len cap l hlen hnil hcap hx hm
  have H : Hid (LogIn w base N B T sv L) := h
  have HE : Hid (∀ w', Chg w w' N sv.ownBlock → EntsAt w' a len l) := he
  have HCB : Hid (canBase B T) := hcb
  have HLN : Hid (len = l.length) := hlen
  have q0 : decide (at_ < 0) = false := decide_eq_false (by omega)
  have q1 : decide (t < 0) = false := decide_eq_false (by omega)
  have q2 : wrap64 (at_ + (len : Int)) = at_ + len := by unfold wrap64; omega
  obtain ⟨en, een⟩ : ∃ en : Int, at_ + (len : Int) = en := ⟨_, rfl⟩
  have q3 : wrap64 (at_ + (len : Int)) = en := by rw [q2]; exact een
  have EEN : Hid (at_ + (l.length : Int) = en) := by show _ = _; rw [← hlen]; exact een
  have HMM : Hid (len ≤ 4398046511104) := hm
  have HBB : Hid (0 ≤ B ∧ B ≤ 2305843009213693952) := h.bB
  have HLL : Hid (L.length ≤ 4096) := h.len
  clear h h0 hhi ht he hnil hcap hx hm hlen hcb q2 een
  go_enter Try.func12, Try.ntmps12
  go_wp2_with fail
  refine HM.mono ?_
  clear HM
  rintro e w1 ⟨b1, (⟨hml, rfl⟩ | ⟨from_, l', a', n', c', hml, rfl, hf0, hf1, hwi, hn'⟩)⟩
  · have HML : Hid (meetL B T L at_ t l = none) := hml
    clear hml
    go_wp2
    go_ret3
    unfold MatchTold
    rw [HML.out]
    exact ⟨rfl, b1⟩
  · have HML : Hid (meetL B T L at_ t l = some (from_, l')) := hml
    obtain ⟨k0, hk0⟩ : ∃ k0, passed (stand B T L) from_ l' = k0 := ⟨_, rfl⟩
    have HP := passOver_any (H.out.below b1) from_ hf0 hf1 a' n' c' l' (hwi.1 w1 (HE.out w1 (Chg.of_below b1 _ _))) hwi.2.1 hwi.2.2.1 (by have := HMM.out; have := hwi.2.2.2; omega) k0 hk0
    have HK0 : Hid (passed (stand B T L) from_ l' = k0) := hk0
    have HW : Hid (Within a a' len n' c' l l') := hwi
    have HN' : Hid (n' = l'.length) := hn'
    have HPS : Hid (from_ + k0 ≤ B + L.length ∧ B ≤ from_) := by
      have := passed_stands B T L l' from_ hf0 hf1
      rw [hk0] at this
      exact ⟨this, hf0⟩
    clear hml hk0 hwi hn' hf0 hf1
    go_wp2_with fail
    refine HP.mono ?_
    clear HP
    rintro e w2 ⟨b2, (⟨hkn, rfl⟩ | ⟨hkn, a2, c2, rfl, hwi2⟩)⟩
    · have HKN : Hid (k0 = n') := hkn
      have bb := b1.trans (b2.mono b1.size)
      clear hkn b2
      go_wp2
      go_ret3
      unfold MatchTold
      rw [HML.out]
      refine .inl ⟨?_, ?_, bb⟩
      · rw [HK0.out, HKN.out, HN'.out]
      · rw [EEN.out]; rfl
    · have bb := b1.trans (b2.mono b1.size)
      obtain ⟨kept, ek⟩ : ∃ kept : Nat, (kept : Int) = from_ - B + k0 := ⟨(from_ - B + k0).toNat, by have := HPS.out; omega⟩
      have hkl : kept ≤ L.length := by have := HPS.out; omega
      obtain ⟨u, hu⟩ := stand_some B T L kept hkl
      have l2 := H.out.below bb
      have c0 := l2.c0
      have q4 : wrap64 (from_ + (k0 : Int) + 1 - B) = ((kept + 1 : Nat) : Int) := by unfold wrap64; have := HPS.out; have := HBB.out; have := HLL.out; omega
      have q5 : kept < 4097 := by have := HLL.out; omega
      have q6 : ((n' - k0 : Nat) : Int) ≠ 0 := by omega
      have q7 : ¬ n' - k0 = 0 := by omega
      have HPt := put_any l2 HCB.out kept hkl u hu a2 (n' - k0) c2 (l'.drop k0) (fun w' c => hwi2.1 w' (HW.out.1 w' (HE.out w' ((Chg.of_below bb _ _).trans c (fun g e => .inl e))))) hwi2.2.1 (by have := HMM.out; have := HW.out.2.2.2; omega)
      have HU : Hid (kept ≤ L.length ∧ (kept : Int) = from_ - B + k0 ∧ stand B T L (B + kept) = some u ∧ k0 < n') := ⟨hkl, ek, hu, hkn⟩
      clear hkl ek hu hwi2 b2 l2 hkn
      obtain ⟨fm, efm⟩ : ∃ fm : Int, from_ + (k0 : Int) + 1 = fm := ⟨_, rfl⟩
      rw [efm] at q4
      rw [efm]
      have EFM : Hid (from_ + (k0 : Int) + 1 = fm) := efm
      clear efm
      obtain ⟨r, er⟩ : ∃ r, n' - k0 = r := ⟨_, rfl⟩
      rw [er] at q6 q7 HPt
      rw [er]
      have ER : Hid (n' - k0 = r) := er
      clear er
      go_wp2_with fail
      refine HPt.mono ?_
      clear HPt
      rintro e w3 (⟨y1, rfl, b3⟩ | ⟨y1, y2, rfl, b3⟩ | ⟨y1, y2, rfl, sv3, fs, l3, f3, g3, s3⟩)
      · have Y1 : Hid _ := y1
        clear y1
        go_wp2
        go_ret3
        unfold MatchTold
        rw [HML.out]
        refine .inr ?_
        simp only [HK0.out]
        refine ⟨by rw [← HN'.out]; exact HU.out.2.2.2, kept, HU.out.2.1, HU.out.1, u, HU.out.2.2.1, .inl ⟨4, .inl ⟨rfl, by have := Y1.out; rw [List.length_drop] at this; exact this⟩, rfl, bb.trans (b3.mono bb.size)⟩⟩
      · have Y2 : Hid _ := y2
        clear y1 y2
        go_wp2
        go_ret3
        unfold MatchTold
        rw [HML.out]
        refine .inr ?_
        simp only [HK0.out]
        refine ⟨by rw [← HN'.out]; exact HU.out.2.2.2, kept, HU.out.2.1, HU.out.1, u, HU.out.2.2.1, .inl ⟨1, .inr ⟨rfl, Y2.out⟩, rfl, bb.trans (b3.mono bb.size)⟩⟩
      · have L3 : Hid _ := And.intro y2 (And.intro l3 (And.intro f3 (And.intro ((Chg.of_below bb N sv.ownBlock).trans g3 (fun g e => .inl e)) (show ∀ k, sv3.ownBlock = some k → sv.ownBlock = some k ∨ w.heap.size ≤ k from fun k e => (s3 k e).imp id (fun q => Nat.le_trans bb.size q)))))
        clear y1 y2 l3 f3 g3 s3
        go_wp2
        go_ret3
        unfold MatchTold
        rw [HML.out]
        refine .inr ?_
        simp only [HK0.out]
        refine ⟨by rw [← HN'.out]; exact HU.out.2.2.2, kept, HU.out.2.1, HU.out.1, u, HU.out.2.2.1, .inr ⟨L3.out.1, ?_, sv3, fs, L3.out.2.1, L3.out.2.2.1, L3.out.2.2.2⟩⟩
        rw [EEN.out, EFM.out]; rfl
end
end Go.Proofs.Ytikedglcicgdhaa
