/- Package journal: Append, what it does to a disk. -/
import Derived.Test.YtikpmaecbfebkaaDoorJPcs
import Derived.Test.YtikpmaecbfebkaaDoorDWrite
namespace Go.Proofs.YtikpmaecbfebkaaDoor
open Go.RowKit
set_option linter.unusedVariables false

/-- A record's piece. -/
def part (b : List (BitVec 8)) (j : Nat) : List (BitVec 8) := ((wholeB b).drop (242 * j)).take 242
theorem part_length (b : List (BitVec 8)) (j : Nat) : (part b j).length = pl (4 + b.length) j := by unfold part pl; rw [List.length_take, List.length_drop, wholeB_length]
theorem part_sub (b : List (BitVec 8)) (j : Nat) : part b j = ((wholeB b).drop (242 * j)).take (pl (4 + b.length) j) := by
  unfold part pl
  rw [List.take_eq_take_min, List.length_drop, wholeB_length]
/-- Some first sectors of a record are written. -/
def appD (fr sz nx : Nat) (b : List (BitVec 8)) (d : DS) : Nat → DS
  | 0 => d
  | j + 1 => wrote (appD fr sz nx b d j) (plc fr sz (nx + j)) (secB (nx + j) (mrk (secs b.length) j) (part b j))
theorem appD_flags (fr sz nx : Nat) (b : List (BitVec 8)) (d : DS) : ∀ j, (appD fr sz nx b d j).de = d.de ∧ (appD fr sz nx b d j).fu = d.fu ∧ (appD fr sz nx b d j).fa = d.fa ∧ (appD fr sz nx b d j).ws.length = d.ws.length + j
  | 0 => ⟨rfl, rfl, rfl, rfl⟩
  | j + 1 => by
    obtain ⟨h1, h2, h3, h4⟩ := appD_flags fr sz nx b d j
    refine ⟨h1, h2, h3, ?_⟩
    show ((appD fr sz nx b d j).ws ++ _).length = _
    rw [List.length_append, h4]
    rfl
/-- What writing to a disk answers. -/
def whyA (d : DS) : Nat := if d.de then 21 else if d.fu then 4 else 0
theorem whyW_sector {n : Nat} {d : DS} {i : Nat} {B : List (BitVec 8)} (hi : i < n) (hB : B.length = 256) : whyW n d i B = whyA d := by
  unfold whyW whyA
  rw [if_neg (c := ¬ (0 ≤ (i : Int) ∧ (i : Int) < (n : Int))) (fun h => h ⟨by omega, by omega⟩), if_neg (c := 256 < B.length) (by omega)]
theorem writeD_sector {n : Nat} {d : DS} {i : Nat} {B : List (BitVec 8)} (hi : i < n) (hB : B.length = 256) (h : whyA d = 0) : writeD n d i B = wrote d i B := by
  unfold writeD
  rw [if_pos (by rw [whyW_sector hi hB]; exact h)]
  rfl
/-- Of a journal and its disk alone something has changed. -/
structure JOnly (m : DM) (J : Nat) (w w' : World) : Prop where
  os : w'.os = w.os
  tape : w'.tape = w.tape
  output : w'.output = w.output
  size : w.heap.size ≤ w'.heap.size
  block : ∀ k, k < w.heap.size → ¬ m.own k → k ≠ J → w'.heap[k]? = w.heap[k]?
theorem owns_only {m : DM} {w w' : World} {base z n : Nat} {t : TypeId} {v : Value} {xs : List Value} (h : w.ownsRow base t z v n xs) (o : Only m w w') (hm : ∀ k, m.own k → k < base) : w'.ownsRow base t z v n xs := owns_same h (fun k e => o.block k (h.lt k e).2 (fun ho => by have := hm k ho; have := (h.lt k e).1; omega))
set_option maxRecDepth 100000 in
set_option maxHeartbeats 6400000 in
theorem append_ok (m : DM) (n : Nat) (d : DS) (J fr sz st nx : Nat) (a : Option Addr) (cap : Nat) (b : List (BitVec 8)) (w : World) (hT : Tabs w) (hd : Dsk w m n d) (hj : JAt w J m.D fr sz st nx false) (hJ : ¬ m.own J) (hS : Seen w a b.length b) (h1 : 1 ≤ st) (h2 : st ≤ 2305843009213693952) (hz : 1 ≤ sz) (hs : fr + sz ≤ n) (hx : st ≤ nx) (hb : b.length ≤ 8192) (hf : nx + secs b.length ≤ st + sz) (hw : whyA d = 0) (hk : d.ws.length + 100 ≤ 1000000) (hm2 : ∀ k, m.own k → 2 ≤ k) :
    Calls Tryd.prog 17 #[.pointer (some ⟨J, 0, none⟩), .slice a b.length cap] w fun e w' => ∃ m', e = .returned (.int .i64 0) ∧ m'.D = m.D ∧ Dsk w' m' n (appD fr sz nx b d (secs b.length)) ∧ JAt w' J m.D fr sz st (nx + secs b.length) false ∧ JOnly m J w w' ∧ m.next m' w.heap.size := by
  have hn := hd.ok.n2
  have hK : secs b.length ≤ 100 ∧ 1 ≤ secs b.length := by unfold secs; omega
  have HPc := pieces_any a cap b w.drew (hT.below (Below.refl _ w).drew hT.size) (hS.below (Below.refl _ w).drew) hb
  have HSo := sectorsOf_any b.length w (by omega)
  have HFr := free_any J m.D fr sz st nx false w hj (by omega) hx (by omega)
  obtain ⟨c0, c1, c2, c3, c4, c5, fz⟩ := hj.cells
  have c4d : w.drew.cell? ⟨J, 4, none⟩ = some (.int .i64 (nx : Int)) := c4
  have PL : Hid (∀ j, (part b j).length = pl (4 + b.length) j ∧ (part b j).length ≤ 242) := fun j => ⟨part_length b j, by unfold part; rw [List.length_take]; omega⟩
  have PB : Hid (∀ j, part b j = ((wholeB b).drop (242 * j)).take (pl (4 + b.length) j)) := fun j => part_sub b j
  have WBL : Hid ((wholeB b).length = 4 + b.length) := wholeB_length b
  have HB : Hid (1 ≤ st ∧ st ≤ 2305843009213693952 ∧ 1 ≤ sz ∧ fr + sz ≤ n ∧ st ≤ nx ∧ n ≤ 4096 ∧ d.ws.length + 100 ≤ 1000000) := ⟨h1, h2, hz, hs, hx, hn, hk⟩
  have HD : Hid (Dsk w m n d ∧ JAt w J m.D fr sz st nx false ∧ ¬ m.own J ∧ Tabs w ∧ whyA d = 0 ∧ ∀ k, m.own k → 2 ≤ k) := ⟨hd, hj, hJ, hT, hw, hm2⟩
  have AF : Hid (∀ j, (appD fr sz nx b d j).de = d.de ∧ (appD fr sz nx b d j).fu = d.fu ∧ (appD fr sz nx b d j).ws.length = d.ws.length + j) := fun j => ⟨(appD_flags fr sz nx b d j).1, (appD_flags fr sz nx b d j).2.1, (appD_flags fr sz nx b d j).2.2.2⟩
  have AS : Hid (∀ j, appD fr sz nx b d (j + 1) = wrote (appD fr sz nx b d j) (plc fr sz (nx + j)) (secB (nx + j) (mrk (secs b.length) j) (part b j))) := fun j => rfl
  obtain ⟨A, eA⟩ : ∃ A, appD fr sz nx b d = A := ⟨_, rfl⟩
  have A0 : Hid (A 0 = d) := by show A 0 = d; rw [← eA]; rfl
  rw [eA] at AF AS
  rw [eA]
  obtain ⟨L, eL⟩ : ∃ L, b.length = L := ⟨_, rfl⟩
  rw [eL] at HPc HSo PL PB WBL AS hb hf hK
  rw [eL]
  have hKL : ∀ j, j < secs L → 242 * j < 4 + L := fun j hj => by unfold secs at hj; omega
  obtain ⟨K, eK⟩ : ∃ K, secs L = K := ⟨_, rfl⟩
  rw [eK] at HPc HSo AS hf hK hKL
  have HKL : Hid (∀ j, j < K → 242 * j < 4 + L) := hKL
  rw [eK]
  have HK : Hid (nx + K ≤ st + sz ∧ K ≤ 100 ∧ 1 ≤ K ∧ L ≤ 8192) := ⟨hf, hK.1, hK.2, hb⟩
  have g1 : ¬ (8192 : Int) < (L : Int) := by omega
  have g2 : ¬ ((sz : Int) - ((nx : Int) - (st : Int))) < (K : Int) := by omega
  obtain ⟨D, eD⟩ : ∃ D, m.D = D := ⟨_, rfl⟩
  have ED : Hid (m.D = D) := eD
  clear hKL hT hd hj hJ hS h1 h2 hz hs hx hb hf hw hk hn hK eA eL eK eD c0 c1 c2 c3 c4 hm2
  go_enter Tryd.func17, Tryd.ntmps17
  go_wp2_with fail
  refine HSo.mono ?_
  rintro e w' ⟨rfl, rfl⟩
  go_wp2_with fail
  refine HFr.mono ?_
  rintro e w0 ⟨rfl, rfl⟩
  go_wp2_with fail
  refine HPc.mono ?_
  rintro e x0 ⟨P, c, g, rfl, oP, oW, bx⟩
  have BX : Hid (Below w'.heap.size w' x0) := (Below.refl w'.heap.size w').drew.trans bx
  have OP : Hid (x0.ownsRow w'.heap.size 88 2 (.slice (some ⟨P, 0, none⟩) K c) K (pcells g (4 + L) (mrk K) K)) := oP
  have OW : Hid (x0.ownsRow w'.heap.size 5 1 (.slice (some ⟨g, 0, none⟩) (4 + L) (4 + L)) (4 + L) (cellsOf (wholeB b))) := oW
  have OL : Hid (∀ k, m.own k → k < w'.heap.size) := fun k hk => HD.out.1.lt hk
  clear oP oW bx HPc HFr HSo
  go_wp2_with fail
  go_loopw [5, 35] (fun sv iv wr => ∃ (j sn : Nat) (mj : DM), sv = .int .i64 (sn : Int) ∧ iv = .int .i64 (j : Int) ∧ Hid (sn = nx + j ∧ j ≤ K) ∧ Hid (Dsk wr mj n (A j) ∧ mj.D = m.D) ∧ Hid (Only m x0 wr) ∧ Hid (m.next mj x0.heap.size)) (fun _ iv _ => K - (intOf iv).toNat)
  case atStart => exact ⟨0, nx, m, rfl, rfl, ⟨rfl, Nat.zero_le _⟩, ⟨by rw [A0.out]; exact HD.out.1.below BX.out, rfl⟩, Only.refl m x0, DM.next.refl m _⟩
  case round =>
    obtain ⟨j, sn, mj, rfl, rfl, hj, hDk, hO, hX⟩ := hrel
    have jat : JAt wr J m.D fr sz st nx false := by
      have q := HD.out.2.1.below BX.out
      unfold JAt at q ⊢
      rw [hO.out.block J (Nat.lt_of_lt_of_le HD.out.2.1.lt BX.out.size) HD.out.2.2.1]
      exact q
    have oPr := owns_only OP.out hO.out OL.out
    have oWr := owns_only OW.out hO.out OL.out
    by_cases hlt : j < K
    · obtain ⟨p0, p1⟩ := pcells_at g (4 + L) (mrk K) K j hlt
      have k0 : wr.cell? ⟨P, j * 2, none⟩ = some (.int .u8 (mrk K j : Int)) := by rw [oPr.cellAt _ (by omega)]; exact p0
      have k1 : wr.cell? ⟨P, j * 2 + 1, none⟩ = some (.slice (some ⟨g, 242 * j, none⟩) (pl (4 + L) j) (pl (4 + L) j)) := by rw [oPr.cellAt _ (by omega)]; exact p1
      have mb : mrk K j < 256 := by unfold mrk; split <;> split <;> omega
      have SP : Seen wr (some ⟨g, 242 * j, none⟩) (pl (4 + L) j) (part b j) := by
        rw [PB.out j]
        exact seen_sub (seen_owned oWr WBL.out (by unfold maxLen; have := HK.out; omega)) (by have := HKL.out j hlt; unfold pl; omega)
      have pln := PL.out j
      have hpq := plc_lt (s := sn) HB.out.2.2.1 HB.out.2.2.2.1
      have snj := hj.out.1
      have tab : Tabs wr := by
        have q := HD.out.2.2.2.1.below BX.out HD.out.2.2.2.1.size
        exact q.below (n := 2) ⟨hO.out.os, hO.out.tape, hO.out.output, hO.out.size, fun k hk => hO.out.block k (by have := q.size; omega) (fun ho => by have := HD.out.2.2.2.2.2 k ho; omega)⟩ (Nat.le_refl _)
      have aw := AF.out j
      have asx := AS.out j
      rw [← snj] at asx
      obtain ⟨mk, emk⟩ : ∃ x, mrk K j = x := ⟨_, rfl⟩
      rw [emk] at k0 mb asx
      obtain ⟨pn, epn⟩ : ∃ x, pl (4 + L) j = x := ⟨_, rfl⟩
      rw [epn] at k1 SP pln
      obtain ⟨q0, q1⟩ := alloc_two wr (.int .u8 (mk : Int)) (.slice (some ⟨g, 242 * j, none⟩) pn pn) 88
      have ZZ : Hid _ := heap_alloc_new wr (.cells #[.int .u8 0, .slice none 0 0] 88)
      have HSA : Hid _ := World.setRow_alloc_new wr #[.int .u8 0, .slice none 0 0] #[.int .u8 (mk : Int), .slice (some ⟨g, 242 * j, none⟩) pn pn] 88
      have bz := (Below.refl wr.heap.size wr).alloc (Nat.le_refl _) (.cells #[.int .u8 (mk : Int), .slice (some ⟨g, 242 * j, none⟩) pn pn] 88)
      have zsz : (wr.alloc (.cells #[.int .u8 (mk : Int), .slice (some ⟨g, 242 * j, none⟩) pn pn] 88)).heap.size = wr.heap.size + 1 := by simp
      obtain ⟨z, ez⟩ : ∃ z, wr.alloc (.cells #[.int .u8 (mk : Int), .slice (some ⟨g, 242 * j, none⟩) pn pn] 88) = z := ⟨_, rfl⟩
      rw [ez] at HSA q0 q1 bz zsz
      have bzd : Below wr.heap.size wr z.drew := bz.drew
      have bzdd : Below wr.heap.size wr z.drew.drew := bz.drew.drew
      have FAC : Hid (z.drew.cell? ⟨J, 0, none⟩ = some (.pointer (some ⟨D, 0, none⟩)) ∧ z.drew.cell? ⟨wr.heap.size, 0, none⟩ = some (.int .u8 (mk : Int)) ∧ z.drew.cell? ⟨wr.heap.size, 1, none⟩ = some (.slice (some ⟨g, 242 * j, none⟩) pn pn)) := ⟨by have := (jat.below bzd).cells.1; rw [ED.out] at this; exact this, q0, q1⟩
      have jlt := jat.lt
      have FAB : Hid (∀ y2, Below z.drew.drew.heap.size z.drew.drew y2 → y2.cell? ⟨J, 0, none⟩ = some (.pointer (some ⟨D, 0, none⟩)) ∧ y2.cell? ⟨wr.heap.size, 0, none⟩ = some (.int .u8 (mk : Int)) ∧ y2.cell? ⟨wr.heap.size, 1, none⟩ = some (.slice (some ⟨g, 242 * j, none⟩) pn pn)) := fun y2 bs => by
        have l1 : J < z.drew.drew.heap.size := by show J < z.heap.size; omega
        have l2 : wr.heap.size < z.drew.drew.heap.size := by show wr.heap.size < z.heap.size; omega
        exact ⟨(bs.cell (p := ⟨J, 0, none⟩) l1).trans FAC.out.1, (bs.cell (p := ⟨wr.heap.size, 0, none⟩) l2).trans FAC.out.2.1, (bs.cell (p := ⟨wr.heap.size, 1, none⟩) l2).trans FAC.out.2.2⟩
      have nJ : ¬ mj.own J := fun e => (hX.out.own_of e).elim HD.out.2.2.1 (fun x => by have := HD.out.2.1.lt; have := BX.out.size; omega)
      have nB : ¬ mj.own wr.heap.size := fun e => by have := hDk.out.1.lt e; omega
      have FAO : Hid (∀ y2 y3, Below z.drew.drew.heap.size z.drew.drew y2 → Only mj y2 y3 → y3.cell? ⟨J, 0, none⟩ = some (.pointer (some ⟨D, 0, none⟩)) ∧ y3.cell? ⟨wr.heap.size, 0, none⟩ = some (.int .u8 (mk : Int)) ∧ y3.cell? ⟨wr.heap.size, 1, none⟩ = some (.slice (some ⟨g, 242 * j, none⟩) pn pn)) := fun y2 y3 bs o => by
        have q := FAB.out y2 bs
        have l1 : J < y2.heap.size := by have := bs.size; have : z.drew.drew.heap.size = z.heap.size := rfl; omega
        have l2 : wr.heap.size < y2.heap.size := by have := bs.size; have : z.drew.drew.heap.size = z.heap.size := rfl; omega
        rw [World.cell?_of_block (w := y2) (a := ⟨J, 0, none⟩) (o.block J l1 nJ), World.cell?_of_block (w := y2) (a := ⟨wr.heap.size, 0, none⟩) (o.block wr.heap.size l2 nB), World.cell?_of_block (w := y2) (a := ⟨wr.heap.size, 1, none⟩) (o.block wr.heap.size l2 nB)]
        exact q
      have HPl : Hid (Calls Tryd.prog 53 #[.pointer (some ⟨J, 0, none⟩), .int .i64 (sn : Int)] z.drew fun e w' => e = .returned (.int .i64 (plc fr sz sn : Nat)) ∧ w' = z.drew.drew) := place_any J m.D fr sz st nx false sn z.drew (jat.below bzd) (by have := HB.out; omega) (by have := HB.out; have := HK.out; omega) HB.out.2.2.1 (by have := HB.out; omega)
      have HSe : Hid (Calls Tryd.prog 54 #[.agg #[.int .u8 (mk : Int), .slice (some ⟨g, 242 * j, none⟩) pn pn], .int .i64 (sn : Int)] z.drew.drew fun e w' => ∃ g, e = .returned (.slice (some ⟨g, 0, none⟩) 256 256) ∧ w'.ownsRow z.drew.drew.heap.size 5 1 (.slice (some ⟨g, 0, none⟩) 256 256) 256 (cellsOf (secB sn mk (part b j))) ∧ Below z.drew.drew.heap.size z.drew.drew w') := by
        have q := sector_bytes mk (some ⟨g, 242 * j, none⟩) pn (part b j) sn z.drew.drew (tab.below bzdd tab.size) (by rw [pln.1]; exact SP.below bzdd) mb pln.2 (by have := HB.out; have := HK.out; omega)
        rw [pln.1] at q
        exact q
      have sl256 : (secB sn mk (part b j)).length = 256 := secB_length pln.2
      have wz : whyA (A j) = 0 := by have := HD.out.2.2.2.2.1; unfold whyA at this ⊢; rw [aw.1, aw.2.1]; exact this
      have HWr : Hid (∀ y2 gs, y2.ownsRow z.drew.drew.heap.size 5 1 (.slice (some ⟨gs, 0, none⟩) 256 256) 256 (cellsOf (secB sn mk (part b j))) → Below z.drew.drew.heap.size z.drew.drew y2 → Calls Tryd.prog 52 #[.pointer (some ⟨D, 0, none⟩), .int .i64 (plc fr sz sn : Nat), .slice (some ⟨gs, 0, none⟩) 256 256] y2 fun e w' => ∃ m', e = .returned (.int .i64 0) ∧ m'.D = D ∧ Dsk w' m' n (A (j + 1)) ∧ Only mj y2 w' ∧ mj.next m' y2.heap.size) := fun y2 gs og bs => by
        have q := write_any mj n (A j) (plc fr sz sn : Nat) (some ⟨gs, 0, none⟩) 256 256 (secB sn mk (part b j)) y2 ((hDk.out.1.below bzdd).below bs) (seen_owned og sl256 (by unfold maxLen; omega)) (by have := HB.out; have := HK.out; have := aw.2.2; omega)
        rw [hDk.out.2, ED.out, whyW_sector hpq sl256, wz, writeD_sector hpq sl256 wz, ← asx] at q
        exact q
      have KEEP : Hid (∀ y2 y3 m', Below z.drew.drew.heap.size z.drew.drew y2 → m'.D = D → Dsk y3 m' n (A (j + 1)) → Only mj y2 y3 → mj.next m' y2.heap.size → (Dsk y3 m' n (A (j + 1)) ∧ m'.D = m.D) ∧ Only m x0 y3 ∧ m.next m' x0.heap.size) := fun y2 y3 m' bs e1 e2 e3 e4 => by
        have b02 : Below wr.heap.size wr y2 := bzdd.trans (bs.mono bzdd.size)
        exact ⟨⟨e2, e1.trans ED.out.symm⟩, hO.out.trans hX.out (Only.trans (Only.of_below b02) (DM.next.refl mj _) e3), hX.out.trans e4 (Nat.le_trans hO.out.size b02.size)⟩
      obtain ⟨pq, epq⟩ : ∃ p, plc fr sz sn = p := ⟨_, rfl⟩
      rw [epq] at HPl HWr
      have h1 : (j : Int) < (K : Int) := by omega
      have h100 : (j : Int) < 100 := by have := HK.out; omega
      have snb : (sn : Int) < 4611686018427387904 := by have := HB.out; have := HK.out; omega
      have HLT : Hid (j < K) := hlt
      have SNJ : Hid (sn + 1 = nx + (j + 1)) := by show sn + 1 = nx + (j + 1); omega
      have WK : Hid ((j : Int) + 1 = ((j + 1 : Nat) : Int)) := by show (j : Int) + 1 = ((j + 1 : Nat) : Int); omega
      have WS : Hid ((sn : Int) + 1 = ((sn + 1 : Nat) : Int)) := by show (sn : Int) + 1 = ((sn + 1 : Nat) : Int); omega
      have EZ : Hid (wr.alloc (.cells #[.int .u8 (mk : Int), .slice (some ⟨g, 242 * j, none⟩) pn pn] 88) = z) := ez
      clear p0 p1 SP pln hpq snj tab aw asx emk epn q0 q1 bz zsz ez bzd bzdd jlt nJ nB sl256 wz epq mb hlt hj hDk hO hX jat oPr oWr
      go_wp2_with (first | (refine wpList_store_row rfl 88 (.tmp 7) (.tmp 38) rfl wr.heap.size #[.int .u8 (mk : Int), .slice (some ⟨g, 242 * j, none⟩) pn pn] rfl rfl 88 _ ZZ.out (by kernel_rfl) rfl (by simp [Value.oneCell']) ?_; rw [HSA.out]))
      try rw [EZ.out]
      refine wp_region_held_drew (S := fun X => X.cell? ⟨J, 0, none⟩ = some (.pointer (some ⟨D, 0, none⟩)) ∧ X.cell? ⟨wr.heap.size, 0, none⟩ = some (.int .u8 (mk : Int)) ∧ X.cell? ⟨wr.heap.size, 1, none⟩ = some (.slice (some ⟨g, 242 * j, none⟩) pn pn)) (by kernel_rfl) FAC.out (fun hHeld => ?_)
      refine take_run (i := 0) (oi := { dst := some 39, op := Go.Op.move (Go.Operand.tmp 0), type := 37, pos := "journal.go:117", after := #[], guard := none }) (v := .pointer (some ⟨J, 0, none⟩)) rfl (by kernel_rfl) (by kernel_rfl) (by kernel_rfl) (fun _ _ _ h => h) (by rfl) ?_ hHeld ?_
      · (intro wq hSw; go_simp <;> with_reducible rfl)
      try simp only [Act.put, List.setIfInBounds_toArray, List.set_cons_zero, List.set_cons_succ]
      refine take_run (i := 1) (oi := { dst := some 40, op := Go.Op.nilCheck (Go.Operand.tmp 39), type := 0, pos := "journal.go:117", after := #[{ on := 0, ground := Go.Ground.data }], guard := none }) (v := .pointer (some ⟨J, 0, none⟩)) rfl (by kernel_rfl) (by kernel_rfl) (by kernel_rfl) (fun _ _ _ h => h) (by rfl) ?_ hHeld ?_
      · (intro wq hSw; go_simp <;> with_reducible rfl)
      try simp only [Act.put, List.setIfInBounds_toArray, List.set_cons_zero, List.set_cons_succ]
      refine take_run (i := 2) (oi := { dst := some 41, op := Go.Op.fieldAddr 80 (Go.Operand.tmp 40) 0, type := 0, pos := "journal.go:117", after := #[{ on := 1, ground := Go.Ground.data }], guard := none }) (v := .pointer (some ⟨J, 0, none⟩)) rfl (by kernel_rfl) (by kernel_rfl) (by kernel_rfl) (fun _ _ _ h => h) (by rfl) ?_ hHeld ?_
      · (intro wq hSw; go_simp <;> with_reducible rfl)
      try simp only [Act.put, List.setIfInBounds_toArray, List.set_cons_zero, List.set_cons_succ]
      refine take_run (i := 3) (oi := { dst := some 42, op := Go.Op.load 24 (Go.Operand.tmp 41), type := 24, pos := "journal.go:117", after := #[{ on := 2, ground := Go.Ground.data }], guard := none }) (v := .pointer (some ⟨D, 0, none⟩)) rfl (by kernel_rfl) (by kernel_rfl) (by kernel_rfl) (fun _ _ _ h => h) (by rfl) ?_ hHeld ?_
      · (intro wq hSw; obtain ⟨s0, s1, s2⟩ := hSw; go_simp <;> with_reducible rfl)
      try simp only [Act.put, List.setIfInBounds_toArray, List.set_cons_zero, List.set_cons_succ]
      refine take_run (i := 4) (oi := { dst := some 43, op := Go.Op.move (Go.Operand.tmp 0), type := 37, pos := "journal.go:117", after := #[], guard := none }) (v := .pointer (some ⟨J, 0, none⟩)) rfl (by kernel_rfl) (by kernel_rfl) (by kernel_rfl) (fun _ _ _ h => h) (by rfl) ?_ hHeld ?_
      · (intro wq hSw; go_simp <;> with_reducible rfl)
      try simp only [Act.put, List.setIfInBounds_toArray, List.set_cons_zero, List.set_cons_succ]
      refine take_run (i := 5) (oi := { dst := some 44, op := Go.Op.move (Go.Operand.tmp 5), type := 2, pos := "journal.go:117", after := #[], guard := none }) (v := .int .i64 (sn : Int)) rfl (by kernel_rfl) (by kernel_rfl) (by kernel_rfl) (fun _ _ _ h => h) (by rfl) ?_ hHeld ?_
      · (intro wq hSw; go_simp <;> with_reducible rfl)
      try simp only [Act.put, List.setIfInBounds_toArray, List.set_cons_zero, List.set_cons_succ]
      refine take_run (i := 7) (oi := { dst := some 46, op := Go.Op.load 88 (Go.Operand.tmp 7), type := 88, pos := "journal.go:117", after := #[], guard := none }) (v := .agg #[.int .u8 (mk : Int), .slice (some ⟨g, 242 * j, none⟩) pn pn]) rfl (by kernel_rfl) (by kernel_rfl) (by kernel_rfl) (fun _ _ _ h => h) (by rfl) ?_ hHeld ?_
      · (intro wq hSw; obtain ⟨s0, s1, s2⟩ := hSw; go_simp <;> with_reducible rfl)
      try simp only [Act.put, List.setIfInBounds_toArray, List.set_cons_zero, List.set_cons_succ]
      refine take_run (i := 8) (oi := { dst := some 47, op := Go.Op.move (Go.Operand.tmp 5), type := 2, pos := "journal.go:117", after := #[], guard := none }) (v := .int .i64 (sn : Int)) rfl (by kernel_rfl) (by kernel_rfl) (by kernel_rfl) (fun _ _ _ h => h) (by rfl) ?_ hHeld ?_
      · (intro wq hSw; go_simp <;> with_reducible rfl)
      try simp only [Act.put, List.setIfInBounds_toArray, List.set_cons_zero, List.set_cons_succ]
      refine take_call (i := 6) (oi := { dst := some 45, op := Go.Op.call { callee := Go.Callee.value (Go.Operand.func 53), args := #[Go.Operand.tmp 43, Go.Operand.tmp 44], argTypes := #[37, 2] }, type := 3, pos := "journal.go:117", after := #[{ on := 4, ground := Go.Ground.data }, { on := 5, ground := Go.Ground.data }], guard := none }) rfl (by kernel_rfl) (by rfl) 53 _ (by go_simp <;> with_reducible rfl) ?_
      refine (HPl.out).mono ?_
      rintro e y1 ⟨rfl, rfl⟩
      refine ⟨.int .i64 (pq : Nat), rfl, FAC.out, ?_⟩
      try simp only [Act.put, List.setIfInBounds_toArray, List.set_cons_zero, List.set_cons_succ]
      refine take_call (i := 9) (oi := { dst := some 48, op := Go.Op.call { callee := Go.Callee.value (Go.Operand.func 54), args := #[Go.Operand.tmp 46, Go.Operand.tmp 47], argTypes := #[88, 2] }, type := 22, pos := "journal.go:117", after := #[{ on := 7, ground := Go.Ground.data }, { on := 8, ground := Go.Ground.data }, { on := 6, ground := Go.Ground.chain }], guard := none }) rfl (by kernel_rfl) (by rfl) 54 _ (by go_simp <;> with_reducible rfl) ?_
      refine (HSe.out).mono ?_
      rintro e y2 ⟨gs, rfl, os, bs⟩
      have F2 := FAB.out y2 bs
      refine ⟨.slice (some ⟨gs, 0, none⟩) 256 256, rfl, F2, ?_⟩
      try simp only [Act.put, List.setIfInBounds_toArray, List.set_cons_zero, List.set_cons_succ]
      refine take_call (i := 10) (oi := { dst := some 49, op := Go.Op.call { callee := Go.Callee.value (Go.Operand.func 52), args := #[Go.Operand.tmp 42, Go.Operand.tmp 45, Go.Operand.tmp 48], argTypes := #[24, 3, 22] }, type := 25, pos := "journal.go:117", after := #[{ on := 3, ground := Go.Ground.data }, { on := 6, ground := Go.Ground.data }, { on := 9, ground := Go.Ground.data }, { on := 9, ground := Go.Ground.chain }], guard := none }) rfl (by kernel_rfl) (by rfl) 52 _ (by go_simp <;> with_reducible rfl) ?_
      refine (HWr.out y2 gs os bs).mono ?_
      rintro e y3 ⟨m', rfl, r1, r2, r3, r4⟩
      have F3 := FAO.out y2 y3 bs r3
      refine ⟨.int .i64 (0 : Nat), rfl, F3, ?_⟩
      try simp only [Act.put, List.setIfInBounds_toArray, List.set_cons_zero, List.set_cons_succ]
      refine take_run (i := 11) (oi := { dst := some 8, op := Go.Op.assign (Go.Operand.tmp 49), type := 25, pos := "journal.go:117", after := #[{ on := 10, ground := Go.Ground.data }, { on := 10, ground := Go.Ground.chain }, { on := 0, ground := Go.Ground.phase }, { on := 1, ground := Go.Ground.phase }, { on := 2, ground := Go.Ground.phase }, { on := 3, ground := Go.Ground.phase }, { on := 4, ground := Go.Ground.phase }, { on := 5, ground := Go.Ground.phase }, { on := 6, ground := Go.Ground.phase }, { on := 7, ground := Go.Ground.phase }, { on := 8, ground := Go.Ground.phase }, { on := 9, ground := Go.Ground.phase }, { on := 10, ground := Go.Ground.phase }], guard := none }) (v := .int .i64 (0 : Nat)) rfl (by kernel_rfl) (by kernel_rfl) (by kernel_rfl) (fun _ _ _ h => h) (by rfl) ?_ F3 ?_
      · (intro wq hSw; go_simp <;> with_reducible rfl)
      try simp only [Act.put, List.setIfInBounds_toArray, List.set_cons_zero, List.set_cons_succ]
      refine wpAnyH_done (by kernel_rfl) ?_ _
      have KP : Hid _ := KEEP.out y2 y3 m' bs r1 r2 r3 r4
      clear hHeld F2 F3 r1 r2 r3 r4 os bs KEEP FAC FAB FAO HPl HSe HWr
      go_wp2
      rw [WS.out, WK.out]
      go_roundw
      case rel => exact ⟨j + 1, sn + 1, m', rfl, rfl, ⟨SNJ.out, HLT.out⟩, KP.out.1, KP.out.2.1, KP.out.2.2⟩
      case measure => exact less_by HLT.out
    · have hjK : j = K := by have := hj.out.2; omega
      subst hjK
      have h1 : ¬ (j : Int) < (j : Int) := by omega
      have snj := hj.out.1
      have c4r := jat.cells.2.2.2.2.1
      have f4r := jat.cells.2.2.2.2.2.2 4
      have nJ : ¬ mj.own J := fun e => (hX.out.own_of e).elim HD.out.2.2.1 (fun x => by have := HD.out.2.1.lt; have := BX.out.size; omega)
      have FIN : Hid (mj.D = m.D ∧ Dsk (wr.setCell ⟨J, 4, none⟩ (.int .i64 (sn : Int))) mj n (A j) ∧ JAt (wr.setCell ⟨J, 4, none⟩ (.int .i64 (sn : Int))) J m.D fr sz st (nx + j) false ∧ JOnly m J w' (wr.setCell ⟨J, 4, none⟩ (.int .i64 (sn : Int))) ∧ m.next mj w'.heap.size) := by
        have far : ∀ k, k ≠ J → (wr.setCell ⟨J, 4, none⟩ (.int .i64 (sn : Int))).heap[k]? = wr.heap[k]? := fun k hk => Below.heap_setCell _ _ _ k (fun e => hk (by simpa using e))
        refine ⟨hDk.out.2, hDk.out.1.same (fun k hk => far k (fun e => nJ (e ▸ hk))), ?_, ⟨hO.out.os.trans BX.out.os, hO.out.tape.trans BX.out.tape, hO.out.output.trans BX.out.output, by have := BX.out.size; have := hO.out.size; simp; omega, fun k hk ho hne => by rw [far k hne, hO.out.block k (Nat.lt_of_lt_of_le hk BX.out.size) ho, BX.out.block k hk]⟩, ⟨hX.out.D, hX.out.gi, hX.out.gn, fun k e => (hX.out.own k e).imp id (fun x => Nat.le_trans BX.out.size x)⟩⟩
        unfold JAt at jat ⊢
        have := block_put jat 4 (.int .i64 (sn : Int))
        rw [← snj]
        simpa using this
      clear hlt hj hDk hO hX snj nJ oPr oWr jat
      go_wp2
      go_ret
      first | exact ⟨mj, rfl, FIN.out⟩ | exact ⟨rfl, mj, FIN.out⟩
end Go.Proofs.YtikpmaecbfebkaaDoor
