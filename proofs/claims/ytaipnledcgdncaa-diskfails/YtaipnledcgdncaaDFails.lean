/- DiskFails: a full disk, and a dead one. -/
import Derived.Test.YtaipnledcgdncaaDHold
import Derived.Deep.RegionHeld
namespace Go.Proofs.Ytaipnledcgdncaa
open Go.RowKit
set_option linter.unusedVariables false

def still (I : List (BitVec 8)) : DS := ⟨I, I, [], false, false, false⟩
def half (I : List (BitVec 8)) (c : Nat) (P : List (BitVec 8)) (fa de fu : Bool) : DS := ⟨I, patch I c P, [(c, P)], fa, de, fu⟩
theorem crashD_still {s : DS} (h : s.ok 5) (e : s.even) : crashD s [] = still s.img := by
  have a := crashD_now h e []
  rw [crashD_none] at a
  have b := crashD_none s
  show DS.mk (crashD s []).img (crashD s []).now [] false false false = _
  rw [a, b]; rfl
section
variable {w0 w : World} {D : Nat} {I P : List (BitVec 8)} {c : Nat} {rs : List (Nat × List (BitVec 8))}
theorem f_write (h : Hold w0 w D (still I) rs) (hc : c < 5) (a : Option Addr) (len cap : Nat) (b : List (BitVec 8)) (hs : Seen w a len b) (hb : b.length ≤ 256) :
    Calls Try.prog 21 #[.pointer (some ⟨D, 0, none⟩), .int .i64 (c : Int), .slice a len cap] w fun e w' => e = .returned (.int .i64 0) ∧ Hold w0 w' D (half I c (pad b) false false false) rs := by
  have e1 : whyW 5 (still I) (c : Int) b = 0 := by
    unfold whyW still
    rw [if_neg (by simp), if_neg (by omega), if_neg (by omega), if_neg (by simp)]
  have H := hold_write h (c : Int) a len cap b hs (by show ([] : List (Nat × List (BitVec 8))).length < _; simp)
  unfold writeD at H
  rw [e1, if_pos rfl] at H
  exact H
theorem f_full (h : Hold w0 w D (half I c P false false false) rs) : Calls Try.prog 29 #[.pointer (some ⟨D, 0, none⟩), .bool true] w fun e w' => e = .returned (.int .i64 0) ∧ Hold w0 w' D (half I c P false false true) rs := hold_full h true
theorem f_unfull (h : Hold w0 w D (half I c P false false true) rs) : Calls Try.prog 29 #[.pointer (some ⟨D, 0, none⟩), .bool false] w fun e w' => e = .returned (.int .i64 0) ∧ Hold w0 w' D (half I c P false false false) rs := hold_full h false
theorem f_write2 (h : Hold w0 w D (half I c P false false true) rs) (hc : c < 5) (a : Option Addr) (len cap : Nat) (b : List (BitVec 8)) (hs : Seen w a len b) (hb : b.length ≤ 256) :
    Calls Try.prog 21 #[.pointer (some ⟨D, 0, none⟩), .int .i64 (c : Int), .slice a len cap] w fun e w' => e = .returned (.int .i64 4) ∧ Hold w0 w' D (half I c P false false true) rs := by
  have e1 : whyW 5 (half I c P false false true) (c : Int) b = 4 := by
    unfold whyW half
    rw [if_neg (by simp), if_neg (by omega), if_neg (by omega), if_pos rfl]
  have H := hold_write h (c : Int) a len cap b hs (by show ([(c, P)] : List (Nat × List (BitVec 8))).length < _; simp)
  unfold writeD at H
  rw [e1, if_neg (by decide)] at H
  exact H
theorem f_fail (h : Hold w0 w D (half I c P false false false) rs) : Calls Try.prog 28 #[.pointer (some ⟨D, 0, none⟩)] w fun e w' => e = .returned (.int .i64 0) ∧ Hold w0 w' D (half I c P true false false) rs := hold_fail h
theorem f_sync1 (h : Hold w0 w D (half I c P true false false) rs) : Calls Try.prog 27 #[.pointer (some ⟨D, 0, none⟩)] w fun e w' => e = .returned (.int .i64 20) ∧ Hold w0 w' D (half I c P true true false) rs := hold_sync h
theorem f_sync2 (h : Hold w0 w D (half I c P true true false) rs) : Calls Try.prog 27 #[.pointer (some ⟨D, 0, none⟩)] w fun e w' => e = .returned (.int .i64 21) ∧ Hold w0 w' D (half I c P true true false) rs := hold_sync h
theorem f_write3 (h : Hold w0 w D (half I c P true true false) rs) :
    Calls Try.prog 21 #[.pointer (some ⟨D, 0, none⟩), .int .i64 (c : Int), .slice none 0 0] w fun e w' => e = .returned (.int .i64 21) ∧ Hold w0 w' D (half I c P true true false) rs := by
  have e1 : whyW 5 (half I c P true true false) (c : Int) [] = 21 := by
    unfold whyW half
    rw [if_pos rfl]
  have H := hold_write h (c : Int) none 0 0 [] ⟨rfl, by simp, .inl rfl⟩ (by show ([(c, P)] : List (Nat × List (BitVec 8))).length < _; simp)
  unfold writeD at H
  rw [e1, if_neg (by decide)] at H
  exact H
theorem f_dead (h : Hold w0 w D (half I c P true true false) rs) : Calls Try.prog 25 #[.pointer (some ⟨D, 0, none⟩)] w fun e w' => e = .returned (.bool true) ∧ w' = w := hold_dead h
theorem f_unsynced {fa de fu : Bool} (h : Hold w0 w D (half I c P fa de fu) rs) : Calls Try.prog 26 #[.pointer (some ⟨D, 0, none⟩)] w fun e w' => e = .returned (.int .i64 1) ∧ w' = w := hold_unsynced h
theorem half_now {fa de fu : Bool} (h : Hold w0 w D (half I c P fa de fu) rs) : readD (half I c P fa de fu) c = P ∧ c < 5 ∧ P.length = 256 ∧ I.length = 1280 := by
  have ok := h.ok
  have h1 := ok.lw (c, P) List.mem_cons_self
  have h2 : I.length = 1280 := ok.li
  have h3 : P.length = 256 := h1.2
  have h4 : c < 5 := h1.1
  exact ⟨sec_patch_same (by omega) h3, h4, h3, h2⟩
theorem f_read {fa de fu : Bool} (h : Hold w0 w D (half I c P fa de fu) rs) : Calls Try.prog 24 #[.pointer (some ⟨D, 0, none⟩), .int .i64 (c : Int)] w fun e w' => ∃ g, e = .returned (.tuple #[.slice (some ⟨g, 0, none⟩) 256 256, .int .i64 0]) ∧ Hold w0 w' D (half I c P fa de fu) ((g, P) :: rs) := by
  obtain ⟨e, hc, _⟩ := half_now h
  have H := hold_read h c hc
  rw [e] at H
  exact H
theorem f_image {fa de fu : Bool} (h : Hold w0 w D (half I c P fa de fu) rs) : Calls Try.prog 23 #[.pointer (some ⟨D, 0, none⟩)] w fun e w' => ∃ g k, e = .returned (.slice (some ⟨g, 0, none⟩) 1280 k) ∧ Hold w0 w' D (half I c P fa de fu) ((g, I) :: rs) := hold_image h
theorem f_crash (h : Hold w0 w D (half I c P true true false) rs) :
    Calls Try.prog 22 #[.pointer (some ⟨D, 0, none⟩), .slice (some ⟨w.heap.size, 0, none⟩) 1 1] (w.alloc (.cells #[.int .i64 256] 3)) fun e w' => e = .returned (.int .i64 0) ∧ Hold w0 w' D (still (patch I c P)) rs := by
  obtain ⟨_, hc, hP, hI⟩ := half_now h
  have ev : (half I c P true true false).even := rfl
  have a := crashD_now h.ok ev [256]
  have b : (crashD (half I c P true true false) [256]).img = patch I c P := by
    show patch I c (P.take (clamp 256)) = _
    rw [List.take_of_length_le (by have : clamp 256 = 256 := by decide
                                   omega)]
  have e : crashD (half I c P true true false) [256] = still (patch I c P) := by
    show DS.mk (crashD (half I c P true true false) [256]).img (crashD (half I c P true true false) [256]).now [] false false false = _
    rw [a, b]; rfl
  have hI : IAt (w.alloc (.cells #[.int .i64 256] 3)) (some ⟨w.heap.size, 0, none⟩) 1 [256] := by
    refine ⟨rfl, by simp [maxLen], by simp, .inr ⟨_, 0, rfl, fun j hj => ?_⟩⟩
    simp only [World.cell?, heap_alloc_new]
    match j, hj with
    | 0, _ => rfl
  have H := h.fresh (.cells #[.int .i64 256] 3) (cap := 1) hI
  rw [e] at H
  exact H
theorem f_read2 (h : Hold w0 w D (still (patch I c P)) rs) (hc : c < 5) (hP : P.length = 256) (hI : I.length = 1280) : Calls Try.prog 24 #[.pointer (some ⟨D, 0, none⟩), .int .i64 (c : Int)] w fun e w' => ∃ g, e = .returned (.tuple #[.slice (some ⟨g, 0, none⟩) 256 256, .int .i64 0]) ∧ Hold w0 w' D (still (patch I c P)) ((g, P) :: rs) := by
  have H := hold_read h c hc
  have e : readD (still (patch I c P)) c = P := sec_patch_same (by omega) hP
  rw [e] at H
  exact H
theorem f_dead2 (h : Hold w0 w D (still I) rs) : Calls Try.prog 25 #[.pointer (some ⟨D, 0, none⟩)] w fun e w' => e = .returned (.bool false) ∧ w' = w := hold_dead h
theorem f_sync3 (h : Hold w0 w D (half I c P false false false) rs) : Calls Try.prog 27 #[.pointer (some ⟨D, 0, none⟩)] w fun e w' => e = .returned (.int .i64 0) ∧ Hold w0 w' D (syncD (half I c P false false false)) rs := hold_sync h
end
section
variable {P : Program} {ops : Array Oper} {Q : Exit → Act → World → Prop} {md : Region.Mode} {S : World → Prop}
/-- The only one, here. -/
theorem take_here {i : Nat} {oi : Oper} {fuel : Nat} {listed : Array Bool} {a : Act} {w w' : World} (v : Value) (hi : ops[i]? = some oi) (hr : Region.ready md ops listed = [i]) (hw : Region.wanted oi (yielded ops a.tmps) = true)
    (hx : (execOp a.eval oi).run P w = .ok (.value v) w') (hS : S w') (h : wpAnyH P md ops Q S fuel (listed.setIfInBounds i true) (a.put oi.dst v) w') : wpAnyH P md ops Q S (fuel + 1) listed a w := by
  refine wpAnyH_all (rs := [i]) hr (by simp) (fun j hj => ?_)
  obtain rfl : j = i := by simpa using hj
  unfold wpOp
  simp only [hi, hw, if_true, Oper.wp, hx]
  rw [Oper.upon_value]
  exact .inl ⟨hS, h⟩
end
end Go.Proofs.Ytaipnledcgdncaa
