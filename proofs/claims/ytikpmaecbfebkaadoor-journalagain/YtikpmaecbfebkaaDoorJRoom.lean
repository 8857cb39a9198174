/- Package journal: Room; the other calls in a law's own words. -/
import Derived.Test.YtikpmaecbfebkaaDoorJMy
namespace Go.Proofs.YtikpmaecbfebkaaDoor
open Go.RowKit Go.Shelf
attribute [local go_sem] Oper.semAt_some
set_option linter.unusedVariables false

/-- What there is room for in so many sectors. -/
def roomN (f : Nat) : Nat := min (242 * f - 4) 8192
set_option maxRecDepth 100000 in
set_option maxHeartbeats 1600000 in
theorem room_any {w : World} {J D fr sz st nx : Nat} (h : JAt w J D fr sz st nx false) (hz : sz ≤ 4096) (h1 : st ≤ nx) (h2 : nx ≤ 4611686018427387904) (hx : nx ≤ st + sz) :
    Calls Tryd.prog 26 #[.pointer (some ⟨J, 0, none⟩)] w fun e w' => e = .returned (.int .i64 (roomN (st + sz - nx) : Nat)) ∧ w' = w.drew := by
  have c5 := h.cells.2.2.2.2.2.1
  have HF := free_any J D fr sz st nx false w h hz h1 h2
  obtain ⟨f, ef⟩ : ∃ f, st + sz - nx = f := ⟨_, rfl⟩
  have e1 : (sz : Int) - ((nx : Int) - (st : Int)) = (f : Int) := by omega
  have hf : f ≤ 4096 := by omega
  rw [e1] at HF
  rw [ef]
  have wr1 : IntKind.i64.wrap ((f : Int) * 242) = (f : Int) * 242 := by rw [IntKind.wrap_i64]; omega
  have wr2 : IntKind.i64.wrap ((f : Int) * 242 - 4) = (f : Int) * 242 - 4 := by rw [IntKind.wrap_i64]; omega
  have HFF : Hid (f ≤ 4096) := hf
  clear h ef e1 h1 h2 hx hz hf
  by_cases hA : (f : Int) * 242 - 4 < 0
  · skip
    have HV : Hid ((0 : Int) = ((roomN f : Nat) : Int)) := by show _ = _; unfold roomN; have := HFF.out; omega
    go_enter Tryd.func26, Tryd.ntmps26
    go_wp2_with fail
    refine HF.mono ?_
    rintro e w' ⟨rfl, rfl⟩
    clear HF c5
    go_wp2
    go_ret
    refine ⟨?_, rfl⟩
    rw [← HV.out]
    rfl
  · by_cases hC : 8192 < (f : Int) * 242 - 4
    · skip
      have HV : Hid ((8192 : Int) = ((roomN f : Nat) : Int)) := by show _ = _; unfold roomN; have := HFF.out; omega
      go_enter Tryd.func26, Tryd.ntmps26
      go_wp2_with fail
      refine HF.mono ?_
      rintro e w' ⟨rfl, rfl⟩
      clear HF c5
      go_wp2
      go_ret
      refine ⟨?_, rfl⟩
      rw [← HV.out]
      rfl
    · skip
      have HV : Hid (((f : Int) * 242 - 4 : Int) = ((roomN f : Nat) : Int)) := by show _ = _; unfold roomN; have := HFF.out; omega
      go_enter Tryd.func26, Tryd.ntmps26
      go_wp2_with fail
      refine HF.mono ?_
      rintro e w' ⟨rfl, rfl⟩
      clear HF c5
      go_wp2
      go_ret
      refine ⟨?_, rfl⟩
      rw [← HV.out]
      rfl
theorem my_full {w0 w : World} {D J n : Nat} {d : DS} {fr sz st nx : Nat} (h : MyJ w0 w D J n d fr sz st nx) (a : Option Addr) (len cap : Nat) (hz : sz ≤ 4096) (h1 : st ≤ nx) (h2 : nx ≤ 4611686018427387904) (hl : len ≤ 8192) (hf : st + sz < nx + secs len) :
    Calls Tryd.prog 17 #[.pointer (some ⟨J, 0, none⟩), .slice a len cap] w fun e w' => e = .returned (.int .i64 4) ∧ MyJ w0 w' D J n d fr sz st nx ∧ Below w.heap.size w w' := by
  refine (append_full h.ja a len cap hz h1 h2 hl hf).mono ?_
  rintro e w' ⟨rfl, rfl⟩
  exact ⟨rfl, h.below (Below.refl _ w).drew, (Below.refl _ w).drew⟩
theorem my_size {w0 w : World} {D J n : Nat} {d : DS} {fr sz st nx : Nat} (h : MyJ w0 w D J n d fr sz st nx) (a : Option Addr) (len cap : Nat) (hl : 8192 < len) :
    Calls Tryd.prog 17 #[.pointer (some ⟨J, 0, none⟩), .slice a len cap] w fun e w' => e = .returned (.int .i64 3) ∧ MyJ w0 w' D J n d fr sz st nx ∧ Below w.heap.size w w' := by
  refine (append_size h.ja a len cap hl).mono ?_
  rintro e w' ⟨rfl, rfl⟩
  exact ⟨rfl, h, Below.refl _ w'⟩
theorem my_room {w0 w : World} {D J n : Nat} {d : DS} {fr sz st nx : Nat} (h : MyJ w0 w D J n d fr sz st nx) (hz : sz ≤ 4096) (h1 : st ≤ nx) (h2 : nx ≤ 4611686018427387904) (hx : nx ≤ st + sz) :
    Calls Tryd.prog 26 #[.pointer (some ⟨J, 0, none⟩)] w fun e w' => e = .returned (.int .i64 (roomN (st + sz - nx) : Nat)) ∧ MyJ w0 w' D J n d fr sz st nx ∧ Below w.heap.size w w' := by
  refine (room_any h.ja hz h1 h2 hx).mono ?_
  rintro e w' ⟨rfl, rfl⟩
  exact ⟨rfl, h.below (Below.refl _ w).drew, (Below.refl _ w).drew⟩
/-- What there is room for fits, and nothing longer. -/
theorem room_fits {f len : Nat} (hl : len ≤ 8192) : (len ≤ roomN f ∧ 1 ≤ f) ↔ secs len ≤ f := by
  unfold roomN secs
  omega
end Go.Proofs.YtikpmaecbfebkaaDoor
