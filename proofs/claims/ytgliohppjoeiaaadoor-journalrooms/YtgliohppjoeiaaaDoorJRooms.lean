/- JournalRooms. -/
import Derived.Test.YtgliohppjoeiaaaDoorJRoom
import Derived.Test.YtgliohppjoeiaaaDoorJKnown
import Derived.Test.YtgliohppjoeiaaaDoorJLAt
import Derived.Test.YtgliohppjoeiaaaDoorJCount
namespace Go.Proofs.YtgliohppjoeiaaaDoor
open Go.RowKit Go.Shelf
attribute [local go_sem] Oper.semAt_some
set_option linter.unusedVariables false

/-- The law's own journal while it is filled. -/
def RSt (w wr : World) (D J S nx k : Nat) : Prop := ∃ d, MyJ w wr D J S d 0 S 1 nx ∧ 1 ≤ nx ∧ nx ≤ S + 1 ∧ whyA d = 0 ∧ d.ws.length ≤ 100 * k
section
variable {w wr : World} {D J S nx k : Nat}
theorem RSt.bel (h : RSt w wr D J S nx k) : Below w.heap.size w wr := by obtain ⟨d, h, _⟩ := h; exact h.bel
theorem RSt.below {w' : World} (h : RSt w wr D J S nx k) (b : Below wr.heap.size wr w') : RSt w w' D J S nx k := by obtain ⟨d, h, r⟩ := h; exact ⟨d, h.below b, r⟩
theorem RSt.num (h : RSt w wr D J S nx k) : 1 ≤ nx ∧ nx ≤ S + 1 := by obtain ⟨d, h, a, b, _⟩ := h; exact ⟨a, b⟩
theorem rst_append (h : RSt w wr D J S nx k) (hT : Tabs w) (a : Option Addr) (cap : Nat) (b : List (BitVec 8)) (hS : Seen wr a b.length b) (hb : b.length ≤ 8192) (hf : nx + secs b.length ≤ S + 1) (hk : k ≤ 1000) (h2 : 2 ≤ S) :
    Calls Tryd.prog 17 #[.pointer (some ⟨J, 0, none⟩), .slice a b.length cap] wr fun e w' => e = .returned (.int .i64 0) ∧ RSt w w' D J S (nx + secs b.length) (k + 1) := by
  obtain ⟨d, h, n1, n2, hw, hl⟩ := h
  refine (my_append h a cap b hT hS (by omega) (by omega) (by omega) (by omega) n1 hb (by omega) hw (by omega)).mono ?_
  rintro e w' ⟨rfl, h'⟩
  obtain ⟨f1, f2, f3, f4⟩ := appD_flags 0 S nx b d (secs b.length)
  have hK : secs b.length ≤ 100 := by unfold secs; omega
  refine ⟨rfl, _, h', by omega, by omega, ?_, by omega⟩
  unfold whyA at hw ⊢
  rw [f1, f2]
  exact hw
theorem rst_full (h : RSt w wr D J S nx k) (a : Option Addr) (len cap : Nat) (hz : S ≤ 4096) (hl : len ≤ 8192) (hf : S + 1 < nx + secs len) :
    Calls Tryd.prog 17 #[.pointer (some ⟨J, 0, none⟩), .slice a len cap] wr fun e w' => e = .returned (.int .i64 4) ∧ RSt w w' D J S nx (k + 1) := by
  obtain ⟨d, h, n1, n2, hw, hws⟩ := h
  refine (my_full h a len cap hz n1 (by omega) hl (by omega)).mono ?_
  rintro e w' ⟨rfl, h', _⟩
  exact ⟨rfl, d, h', n1, n2, hw, by omega⟩
theorem rst_size (h : RSt w wr D J S nx k) (a : Option Addr) (len cap : Nat) (hl : 8192 < len) :
    Calls Tryd.prog 17 #[.pointer (some ⟨J, 0, none⟩), .slice a len cap] wr fun e w' => e = .returned (.int .i64 3) ∧ RSt w w' D J S nx (k + 1) := by
  obtain ⟨d, h, n1, n2, hw, hws⟩ := h
  refine (my_size h a len cap hl).mono ?_
  rintro e w' ⟨rfl, h', _⟩
  exact ⟨rfl, d, h', n1, n2, hw, by omega⟩
theorem rst_room (h : RSt w wr D J S nx k) (hz : S ≤ 4096) :
    Calls Tryd.prog 26 #[.pointer (some ⟨J, 0, none⟩)] wr fun e w' => e = .returned (.int .i64 (roomN (S + 1 - nx) : Nat)) ∧ RSt w w' D J S nx k := by
  obtain ⟨d, h, n1, n2, r⟩ := h
  refine (my_room h hz n1 (by omega) (by omega)).mono ?_
  rintro e w' ⟨rfl, h', _⟩
  rw [Nat.add_comm 1 S]
  exact ⟨rfl, d, h', n1, n2, r⟩
theorem rst_next (h : RSt w wr D J S nx k) : Calls Tryd.prog 25 #[.pointer (some ⟨J, 0, none⟩)] wr fun e w' => e = .returned (.int .i64 (nx : Int)) ∧ w' = wr := by
  obtain ⟨d, h, _⟩ := h
  exact next_any h.ja
end
/-- An operation that a guard lets run answers a value. -/
theorem wpList_valueG {P : Program} {ops : Array Oper} {rest : List Oper} {o : Oper} {a : Act} {w w' : World} {Q : Exit → Act → World → Prop} {v : Value} (hgd : Region.wanted o (yielded ops a.tmps) = true) (hx : (execOp a.eval o).run P w = .ok (.value v) w')
    (h : wpList P ops Q rest (a.put o.dst v) w') : wpList P ops Q (o :: rest) a w :=
  wpList_step fun K hK => by rw [if_pos hgd]; unfold Oper.wp; rw [hx]; exact hK _ _ h
theorem room_le (f : Nat) : roomN f ≤ 8192 := by unfold roomN; omega
set_option maxRecDepth 100000 in
set_option maxHeartbeats 8000000 in
theorem rooms_any (size : Int) (la : Option Addr) (ln lc : Nat) (ps : List (List (BitVec 8))) (w : World) (hT : Tabs w) (hl : LAt w la ln ps) (h0 : -9223372036854775808 ≤ size) (h1 : size ≤ 9223372036854775807) :
    Calls Tryd.prog 6 #[.int .i64 size, .slice la ln lc] w fun e w' => e = .returned (.bool true) ∧ Below w.heap.size w w' := by
  have HT : Hid (Tabs w) := hT
  have HL : Hid (LAt w la ln ps) := hl
  have HC := count_any size 40 w h0 h1 (by omega) (by omega)
  obtain ⟨S, eS⟩ : ∃ S : Nat, (2 : Int) + size % 40 = (S : Int) := ⟨(2 + size % 40).toNat, by omega⟩
  have HS : Hid (2 ≤ S ∧ S ≤ 41) := by show _ ∧ _; omega
  have wS : IntKind.i64.wrap ((2 : Int) + size % 40) = (S : Int) := by rw [IntKind.wrap_i64]; omega
  have wS1 : IntKind.i64.wrap ((S : Int) + 1) = (S : Int) + 1 := by rw [IntKind.wrap_i64]; omega
  have HN := my_new S w w (Below.refl _ _) (by omega) (by omega)
  clear hT hl h0 h1
  go_enter Tryd.func6, Tryd.ntmps6
  go_wp2_with fail
  refine HC.mono ?_
  rintro e w1 ⟨rfl, hw⟩
  subst w1
  clear HC
  try rw [eS]
  go_wp2_with fail
  try rw [eS]
  refine HN.mono ?_
  clear HN eS wS
  rintro e w1 ⟨D, rfl, hD, b1⟩
  have HO : Calls Tryd.prog 16 #[.pointer (some ⟨D, 0, none⟩), .int .i64 0, .int .i64 (S : Int), .int .i64 1] w1 _ := my_open hD 0 S 1 HT.out (by omega) (by omega) (by have := HS.out; omega) (by omega) (fun xs _ _ s _ _ => new_bad _ _ _)
  clear hD b1
  go_wp2_with fail
  refine HO.mono ?_
  clear HO
  rintro e w2 ⟨xs, a, c, rfl, _, hc, hJ, _, _, _⟩
  obtain rfl := new_chain hc
  clear hc
  have hJ : MyJ w w2 D w1.heap.size S (newD S) 0 S 1 1 := hJ
  obtain ⟨J, eJ⟩ : ∃ J, w1.heap.size = J := ⟨_, rfl⟩
  rw [eJ] at hJ
  rw [eJ]
  clear eJ
  have HJ : Hid (RSt w w2 D J S 1 0) := ⟨_, hJ, by omega, by omega, rfl, by show 0 ≤ _; omega⟩
  clear hJ
  go_wp2_with fail
  go_loopw [10] (fun i wr => ∃ (k nx : Nat), i = .int .i64 (k : Int) ∧ Hid (k ≤ 20 ∧ k ≤ ps.length) ∧ Hid (RSt w wr D J S nx k)) (fun i _ => 20 - (intOf i).toNat)
  case atStart => exact ⟨0, 1, rfl, ⟨by omega, by omega⟩, HJ.out⟩
  case round =>
    clear HJ
    obtain ⟨k, nx, rfl, hk, hS⟩ := hrel
    have hln : ln = ps.length := HL.out.1
    have HR := rst_room hS.out (by have := HS.out; omega)
    obtain ⟨N, eN⟩ : ∃ N, roomN (S + 1 - nx) = N := ⟨_, rfl⟩
    rw [eN] at HR
    have EN : Hid (roomN (S + 1 - nx) = N) := eN
    have N8 : Hid (N ≤ 8192) := by show N ≤ 8192; rw [← eN]; exact room_le _
    have HX : Hid (1 ≤ nx ∧ nx ≤ S + 1) := hS.out.num
    clear eN
    by_cases hlt : k < ps.length ∧ k < 20
    · obtain ⟨b, off, rfl, hcell⟩ : ∃ b off, la = some ⟨b, off, none⟩ ∧ ∀ j (hj : j < ps.length), ∃ a' c', w.cell? ⟨b, off + j, none⟩ = some (.slice a' ps[j].length c') ∧ Seen w a' ps[j].length ps[j] ∧ (a' = none → c' = 0) := by
        rcases HL.out.2 with h | h
        · omega
        · exact h
      obtain ⟨p, hpk⟩ : ∃ p, ps[k] = p := ⟨_, rfl⟩
      have hcellk := hcell k hlt.1
      rw [hpk] at hcellk
      obtain ⟨a', c', e1, e2, e3⟩ := hcellk
      have h1 : (k : Int) < (ln : Int) := by omega
      have h2 : (k : Int) < 20 := by omega
      have hkl : k < ln := by omega
      have E1 : Hid (w.cell? ⟨b, off + k, none⟩ = some (.slice a' p.length c')) := e1
      have E2 : Hid (Seen w a' p.length p) := e2
      have HK : Hid (k < ps.length ∧ k < 20) := hlt
      clear hpk hlt hcell e1 e2 e3 hln
      have n0 : ¬ ((N : Int) < 0) := by omega
      have n1 : ¬ (8192 < (N : Int)) := by have := N8.out; omega
      go_wp2_with fail
      refine HR.mono ?_
      clear HR
      rintro e w3 ⟨rfl, r3⟩
      have R3 : Hid (RSt w w3 D J S nx k) := r3
      have d1 : w3.cell? ⟨b, off + k, none⟩ = some (.slice a' p.length c') := by rw [r3.bel.cell (p := ⟨b, off + k, none⟩) (World.block_lt_of_cell? w _ E1.out)]; exact E1.out
      have S3 : Hid (Seen w3 a' p.length p) := E2.out.below r3.bel
      clear r3
      have wk : IntKind.i64.wrap ((k : Int) + 1) = (k : Int) + 1 := by rw [IntKind.wrap_i64]; have := HK.out; omega
      by_cases hle : p.length ≤ N
      · have l1 : (p.length : Int) ≤ (N : Int) := by omega
        by_cases hp : 0 < N
        · have l2 : (0 : Int) < (N : Int) := by omega
          have HA := rst_append R3.out HT.out a' c' p S3.out (by have := N8.out; omega) (by have := (room_fits (f := S + 1 - nx) (len := p.length) (by have := N8.out; omega)).1 ⟨by rw [EN.out]; exact hle, by have := EN.out; unfold roomN at this; omega⟩; have := HX.out; omega) (by have := HK.out; omega) HS.out.1
          clear hle hp
          go_wp2_with fail
          refine HA.mono ?_
          clear HA
          rintro e w4 ⟨rfl, r4⟩
          have R4 : Hid (RSt w w4 D J S (nx + secs p.length) (k + 1)) := r4
          clear r4 d1
          go_wp2
          go_roundw
          case rel => exact ⟨k + 1, nx + secs p.length, rfl, ⟨by have := HK.out; omega, by have := HK.out; omega⟩, R4.out⟩
          case measure => exact less_by HK.out.2
        · have l2 : ¬ ((0 : Int) < (N : Int)) := by omega
          have hf0 : S + 1 - nx = 0 := by have := EN.out; unfold roomN at this; omega
          have l3 : ¬ ((nx : Int) < (S : Int) + 1) := by have := HX.out; omega
          have HXt := rst_next R3.out
          have HA := rst_full R3.out a' p.length c' (by have := HS.out; omega) (by have := N8.out; omega) (by unfold secs; have := HX.out; omega)
          clear hle hp hf0
          go_wp2_with fail
          refine HXt.mono ?_
          clear HXt
          rintro e wq ⟨rfl, hq⟩
          subst wq
          go_wp2_with fail
          refine HA.mono ?_
          clear HA
          rintro e w4 ⟨rfl, r4⟩
          have R4 : Hid (RSt w w4 D J S nx (k + 1)) := r4
          clear r4 d1
          go_wp2
          go_roundw
          case rel => exact ⟨k + 1, nx, rfl, ⟨by have := HK.out; omega, by have := HK.out; omega⟩, R4.out⟩
          case measure => exact less_by HK.out.2
      · have l1 : ¬ ((p.length : Int) ≤ (N : Int)) := by omega
        by_cases h8 : p.length ≤ 8192
        · have HA := rst_full R3.out a' p.length c' (by have := HS.out; omega) h8 (by
            have q := (room_fits (f := S + 1 - nx) (len := p.length) h8).2
            have := HX.out
            rcases Nat.lt_or_ge (S + 1) (nx + secs p.length) with x | x
            · exact x
            · have := (q (by omega)).1; rw [EN.out] at this; omega)
          clear hle h8
          go_wp2_with fail
          refine HA.mono ?_
          clear HA
          rintro e w4 ⟨rfl, r4⟩
          have R4 : Hid (RSt w w4 D J S nx (k + 1)) := r4
          clear r4 d1
          go_wp2
          go_roundw
          case rel => exact ⟨k + 1, nx, rfl, ⟨by have := HK.out; omega, by have := HK.out; omega⟩, R4.out⟩
          case measure => exact less_by HK.out.2
        · have HA := rst_size R3.out a' p.length c' (by omega)
          clear hle h8
          go_wp2_with fail
          refine HA.mono ?_
          clear HA
          rintro e w4 ⟨rfl, r4⟩
          have R4 : Hid (RSt w w4 D J S nx (k + 1)) := r4
          clear r4 d1
          go_wp2
          go_roundw
          case rel => exact ⟨k + 1, nx, rfl, ⟨by have := HK.out; omega, by have := HK.out; omega⟩, R4.out⟩
          case measure => exact less_by HK.out.2
    · by_cases hk2 : k < ps.length
      · have h1 : (k : Int) < (ln : Int) := by omega
        have h2 : ¬ ((k : Int) < 20) := by omega
        clear hlt hk2 hln
        go_wp2_with fail
        refine HR.mono ?_
        clear HR
        rintro e w3 ⟨rfl, r3⟩
        have R3 : Hid (RSt w w3 D J S nx k) := r3
        clear r3
        by_cases h8 : N < 8192
        · have l1 : (N : Int) < 8192 := by omega
          obtain ⟨w4, hm, o4, g4, z4⟩ := make_bytes w3 (N + 1) (by have := N8.out; omega)
          rw [show ((N + 1 : Nat) : Int) = (N : Int) + 1 by omega] at hm
          have b4 : Below w3.heap.size w3 w4 := (Below.refl _ w3).grown g4 (Nat.le_refl _) (fun k e => by cases e)
          have wN : IntKind.i64.wrap ((N : Int) + 1) = (N : Int) + 1 := by rw [IntKind.wrap_i64]; have := N8.out; omega
          have HM : Hid _ := hm
          have HA := rst_full (R3.out.below b4) (some ⟨w3.heap.size, 0, none⟩) (N + 1) (N + 1) (by have := HS.out; omega) (by omega) (by have := EN.out; unfold roomN at this; unfold secs; have := HX.out; omega)
          clear hm o4 g4 z4 b4
          go_wp2_with (refine wpList_valueG (by rfl) (exec_make (t := 22) (l := .tmp 93) (c := .tmp 93) rfl rfl rfl HM.out) ?_)
          refine HA.mono ?_
          clear HA HM
          rintro e w5 ⟨rfl, r5⟩
          have R5 : Hid (RSt w w5 D J S nx (k + 1)) := r5
          clear r5
          by_cases hz : N = 0
          · have l2 : ((N : Int) == 0) = true := by simp [hz]
            have l3 : (N : Int) = 0 := by omega
            clear h8 hz
            go_wp2_with fail
            refine (knownJ_any _ (HT.out.below R5.out.bel HT.out.size)).mono ?_
            rintro e w9 ⟨rfl, b9⟩
            have B9 : Hid (Below w.heap.size w w9) := R5.out.bel.trans (b9.mono R5.out.bel.size)
            clear b9
            go_wp2
            go_ret
            exact ⟨rfl, B9.out⟩
          · have NP : Hid (0 < N) := by show 0 < N; omega
            have l2 : ((N : Int) == 0) = false := by simp; omega
            have l3 : ¬ (N : Int) = 0 := by omega
            clear h8 hz
            obtain ⟨w6, hm, o6, g6, z6⟩ := make_bytes w5 N (by have := N8.out; omega)
            have b6 : Below w5.heap.size w5 w6 := (Below.refl _ w5).grown g6 (Nat.le_refl _) (fun k e => by cases e)
            have HM : Hid _ := hm
            have s6 : Seen w6 (some ⟨w5.heap.size, 0, none⟩) (List.replicate N 0#8).length (List.replicate N 0#8) := by rw [List.length_replicate]; exact seen_owned o6 List.length_replicate (by unfold maxLen; have := N8.out; omega)
            have HA := rst_append (R5.out.below b6) HT.out (some ⟨w5.heap.size, 0, none⟩) N (List.replicate N 0#8) s6 (by rw [List.length_replicate]; exact N8.out) (by
              rw [List.length_replicate]
              have := (room_fits (f := S + 1 - nx) (len := N) N8.out).1 ⟨by rw [EN.out]; exact Nat.le_refl _, by have := EN.out; unfold roomN at this; have := NP.out; omega⟩
              have := HX.out
              omega) (by have := hk.out; omega) HS.out.1
            rw [List.length_replicate] at HA
            clear hm o6 g6 z6 b6 s6
            go_wp2_with (refine wpList_valueG (by rfl) (exec_make (t := 22) (l := .tmp 102) (c := .tmp 102) rfl rfl rfl HM.out) ?_)
            refine HA.mono ?_
            clear HA HM
            rintro e w7 ⟨rfl, r7⟩
            have R7 : Hid (RSt w w7 D J S (nx + secs N) (k + 1 + 1)) := r7
            clear r7
            go_wp2_with fail
            refine (knownJ_any _ (HT.out.below R7.out.bel HT.out.size)).mono ?_
            rintro e w9 ⟨rfl, b9⟩
            have B9 : Hid (Below w.heap.size w w9) := R7.out.bel.trans (b9.mono R7.out.bel.size)
            clear b9
            go_wp2
            go_ret
            exact ⟨rfl, B9.out⟩
        · have l1 : ¬ ((N : Int) < 8192) := by omega
          have NP : Hid (0 < N) := by show 0 < N; omega
          have l2 : ((N : Int) == 0) = false := by simp; omega
          have l3 : ¬ (N : Int) = 0 := by omega
          clear h8
          obtain ⟨w6, hm, o6, g6, z6⟩ := make_bytes w3 N (by have := N8.out; omega)
          have b6 : Below w3.heap.size w3 w6 := (Below.refl _ w3).grown g6 (Nat.le_refl _) (fun k e => by cases e)
          have HM : Hid _ := hm
          have s6 : Seen w6 (some ⟨w3.heap.size, 0, none⟩) (List.replicate N 0#8).length (List.replicate N 0#8) := by rw [List.length_replicate]; exact seen_owned o6 List.length_replicate (by unfold maxLen; have := N8.out; omega)
          have HA := rst_append (R3.out.below b6) HT.out (some ⟨w3.heap.size, 0, none⟩) N (List.replicate N 0#8) s6 (by rw [List.length_replicate]; exact N8.out) (by
            rw [List.length_replicate]
            have := (room_fits (f := S + 1 - nx) (len := N) N8.out).1 ⟨by rw [EN.out]; exact Nat.le_refl _, by have := EN.out; unfold roomN at this; have := NP.out; omega⟩
            have := HX.out
            omega) (by have := hk.out; omega) HS.out.1
          rw [List.length_replicate] at HA
          clear hm o6 g6 z6 b6 s6
          go_wp2_with (refine wpList_valueG (by rfl) (exec_make (t := 22) (l := .tmp 102) (c := .tmp 102) rfl rfl rfl HM.out) ?_)
          refine HA.mono ?_
          clear HA HM
          rintro e w7 ⟨rfl, r7⟩
          have R7 : Hid (RSt w w7 D J S (nx + secs N) (k + 1)) := r7
          clear r7
          go_wp2_with fail
          refine (knownJ_any _ (HT.out.below R7.out.bel HT.out.size)).mono ?_
          rintro e w9 ⟨rfl, b9⟩
          have B9 : Hid (Below w.heap.size w w9) := R7.out.bel.trans (b9.mono R7.out.bel.size)
          clear b9
          go_wp2
          go_ret
          exact ⟨rfl, B9.out⟩
      · have h1 : ¬ ((k : Int) < (ln : Int)) := by omega
        clear hlt hk2 hln
        go_wp2_with fail
        refine HR.mono ?_
        clear HR
        rintro e w3 ⟨rfl, r3⟩
        have R3 : Hid (RSt w w3 D J S nx k) := r3
        clear r3
        by_cases h8 : N < 8192
        · have l1 : (N : Int) < 8192 := by omega
          obtain ⟨w4, hm, o4, g4, z4⟩ := make_bytes w3 (N + 1) (by have := N8.out; omega)
          rw [show ((N + 1 : Nat) : Int) = (N : Int) + 1 by omega] at hm
          have b4 : Below w3.heap.size w3 w4 := (Below.refl _ w3).grown g4 (Nat.le_refl _) (fun k e => by cases e)
          have wN : IntKind.i64.wrap ((N : Int) + 1) = (N : Int) + 1 := by rw [IntKind.wrap_i64]; have := N8.out; omega
          have HM : Hid _ := hm
          have HA := rst_full (R3.out.below b4) (some ⟨w3.heap.size, 0, none⟩) (N + 1) (N + 1) (by have := HS.out; omega) (by omega) (by have := EN.out; unfold roomN at this; unfold secs; have := HX.out; omega)
          clear hm o4 g4 z4 b4
          go_wp2_with (refine wpList_valueG (by rfl) (exec_make (t := 22) (l := .tmp 93) (c := .tmp 93) rfl rfl rfl HM.out) ?_)
          refine HA.mono ?_
          clear HA HM
          rintro e w5 ⟨rfl, r5⟩
          have R5 : Hid (RSt w w5 D J S nx (k + 1)) := r5
          clear r5
          by_cases hz : N = 0
          · have l2 : ((N : Int) == 0) = true := by simp [hz]
            have l3 : (N : Int) = 0 := by omega
            clear h8 hz
            go_wp2_with fail
            refine (knownJ_any _ (HT.out.below R5.out.bel HT.out.size)).mono ?_
            rintro e w9 ⟨rfl, b9⟩
            have B9 : Hid (Below w.heap.size w w9) := R5.out.bel.trans (b9.mono R5.out.bel.size)
            clear b9
            go_wp2
            go_ret
            exact ⟨rfl, B9.out⟩
          · have NP : Hid (0 < N) := by show 0 < N; omega
            have l2 : ((N : Int) == 0) = false := by simp; omega
            have l3 : ¬ (N : Int) = 0 := by omega
            clear h8 hz
            obtain ⟨w6, hm, o6, g6, z6⟩ := make_bytes w5 N (by have := N8.out; omega)
            have b6 : Below w5.heap.size w5 w6 := (Below.refl _ w5).grown g6 (Nat.le_refl _) (fun k e => by cases e)
            have HM : Hid _ := hm
            have s6 : Seen w6 (some ⟨w5.heap.size, 0, none⟩) (List.replicate N 0#8).length (List.replicate N 0#8) := by rw [List.length_replicate]; exact seen_owned o6 List.length_replicate (by unfold maxLen; have := N8.out; omega)
            have HA := rst_append (R5.out.below b6) HT.out (some ⟨w5.heap.size, 0, none⟩) N (List.replicate N 0#8) s6 (by rw [List.length_replicate]; exact N8.out) (by
              rw [List.length_replicate]
              have := (room_fits (f := S + 1 - nx) (len := N) N8.out).1 ⟨by rw [EN.out]; exact Nat.le_refl _, by have := EN.out; unfold roomN at this; have := NP.out; omega⟩
              have := HX.out
              omega) (by have := hk.out; omega) HS.out.1
            rw [List.length_replicate] at HA
            clear hm o6 g6 z6 b6 s6
            go_wp2_with (refine wpList_valueG (by rfl) (exec_make (t := 22) (l := .tmp 102) (c := .tmp 102) rfl rfl rfl HM.out) ?_)
            refine HA.mono ?_
            clear HA HM
            rintro e w7 ⟨rfl, r7⟩
            have R7 : Hid (RSt w w7 D J S (nx + secs N) (k + 1 + 1)) := r7
            clear r7
            go_wp2_with fail
            refine (knownJ_any _ (HT.out.below R7.out.bel HT.out.size)).mono ?_
            rintro e w9 ⟨rfl, b9⟩
            have B9 : Hid (Below w.heap.size w w9) := R7.out.bel.trans (b9.mono R7.out.bel.size)
            clear b9
            go_wp2
            go_ret
            exact ⟨rfl, B9.out⟩
        · have l1 : ¬ ((N : Int) < 8192) := by omega
          have NP : Hid (0 < N) := by show 0 < N; omega
          have l2 : ((N : Int) == 0) = false := by simp; omega
          have l3 : ¬ (N : Int) = 0 := by omega
          clear h8
          obtain ⟨w6, hm, o6, g6, z6⟩ := make_bytes w3 N (by have := N8.out; omega)
          have b6 : Below w3.heap.size w3 w6 := (Below.refl _ w3).grown g6 (Nat.le_refl _) (fun k e => by cases e)
          have HM : Hid _ := hm
          have s6 : Seen w6 (some ⟨w3.heap.size, 0, none⟩) (List.replicate N 0#8).length (List.replicate N 0#8) := by rw [List.length_replicate]; exact seen_owned o6 List.length_replicate (by unfold maxLen; have := N8.out; omega)
          have HA := rst_append (R3.out.below b6) HT.out (some ⟨w3.heap.size, 0, none⟩) N (List.replicate N 0#8) s6 (by rw [List.length_replicate]; exact N8.out) (by
            rw [List.length_replicate]
            have := (room_fits (f := S + 1 - nx) (len := N) N8.out).1 ⟨by rw [EN.out]; exact Nat.le_refl _, by have := EN.out; unfold roomN at this; have := NP.out; omega⟩
            have := HX.out
            omega) (by have := hk.out; omega) HS.out.1
          rw [List.length_replicate] at HA
          clear hm o6 g6 z6 b6 s6
          go_wp2_with (refine wpList_valueG (by rfl) (exec_make (t := 22) (l := .tmp 102) (c := .tmp 102) rfl rfl rfl HM.out) ?_)
          refine HA.mono ?_
          clear HA HM
          rintro e w7 ⟨rfl, r7⟩
          have R7 : Hid (RSt w w7 D J S (nx + secs N) (k + 1)) := r7
          clear r7
          go_wp2_with fail
          refine (knownJ_any _ (HT.out.below R7.out.bel HT.out.size)).mono ?_
          rintro e w9 ⟨rfl, b9⟩
          have B9 : Hid (Below w.heap.size w w9) := R7.out.bel.trans (b9.mono R7.out.bel.size)
          clear b9
          go_wp2
          go_ret
          exact ⟨rfl, B9.out⟩
end Go.Proofs.YtgliohppjoeiaaaDoor
