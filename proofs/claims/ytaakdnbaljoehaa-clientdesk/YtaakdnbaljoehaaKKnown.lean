/- The laws' fixed calls: known. -/
import Derived.Test.YtaakdnbaljoehaaKAllA
namespace Go.Proofs.Ytaakdnbaljoehaa
open Go.RowKit Cod
attribute [local go_sem] Oper.semAt_some
set_option linter.unusedVariables false

def knownD : LetD := ⟨3, 3, 0, OpD.zero, 42, 0, [], []⟩
theorem known_bytes : knownD.bytes = [6#8, 6#8, 84#8, 0#8, 0#8] := by
  have e3 : enc (zig 3) = [6#8] := enc_low (n := 6) (by decide)
  have e42 : enc (zig 42) = [84#8] := enc_low (n := 84) (by decide)
  have e0 : enc (zig 0) = [0#8] := enc_low (n := 0) (by decide)
  have el : enc 0 = [0#8] := enc_low (n := 0) (by decide)
  rw [show knownD.bytes = intsB [3, 3] ++ replyL 42 0 [] from rfl]
  simp only [intsB, replyL, rowsB, List.map_cons, List.map_nil, List.flatten_cons, List.flatten_nil, List.length_nil, e3, e42, e0, el]
  rfl
theorem known_fits : knownD.fits = true := by simp [knownD, LetD.fits, shortL]
theorem known_pack : knownD.pack = ([6#8, 6#8, 84#8, 0#8, 0#8], 0) := by
  rw [pack_ok (by simp [knownD]) known_fits (by rw [known_bytes]; decide), known_bytes]
theorem knownD_ok : knownD.ok := ⟨⟨by decide, by decide⟩, ⟨by decide, by decide⟩, ⟨by decide, by decide⟩, ⟨⟨by decide, by decide⟩, ⟨by decide, by decide⟩, ⟨by decide, by decide⟩, ⟨by decide, by decide⟩⟩, ⟨by decide, by decide⟩, ⟨by decide, by decide⟩, fun r hr => by cases hr⟩
set_option maxRecDepth 100000 in
set_option maxHeartbeats 1600000 in
theorem knownK_any (w : World) : Calls Try.prog 14 #[] w fun e w' => e = .returned (.bool true) ∧ Below w.heap.size w w' := by
  have HP := pack_any (w := w) (d := knownD) (ra := none) (rc := 0) (ba := none) (bc := 0) knownD_ok ⟨rows_nil w, seen_none w, fun _ => rfl⟩
  rw [known_pack] at HP
  have G1 := fun w : World => opGroup_any ⟨4, ⟨#[]⟩, ⟨#[]⟩, 0, ⟨#[]⟩, 0, 0⟩ w
  have G2 := fun w : World => opGroup_any ⟨6, ⟨#[]⟩, ⟨#[]⟩, 0, ⟨#[]⟩, 0, 0⟩ w
  have HP' : Calls Try.prog 15 #[.agg #[.int .i64 3, .int .i64 3, .int .i64 0, .int .i64 0, .string ⟨#[]⟩, .string ⟨#[]⟩, .int .i64 0, .string ⟨#[]⟩, .int .i64 0, .int .i64 0, .int .i64 42, .int .i64 0, .slice none 0 0, .slice none 0 0]] w fun e w' => ∃ v, e = .returned (.tuple #[v, .int .i64 0]) ∧ w'.ownsRow w.heap.size 5 1 v 5 (cellsOf [6#8, 6#8, 84#8, 0#8, 0#8]) ∧ Below w.heap.size w w' := HP
  have G1' : Hid (∀ w : World, Calls Try.prog 25 #[.agg #[.int .i64 4, .string ⟨#[]⟩, .string ⟨#[]⟩, .int .i64 0, .string ⟨#[]⟩, .int .i64 0, .int .i64 0]] w fun e w' => e = .returned (.int .i64 (-1)) ∧ Below w.heap.size w w') := G1
  have G2' : Hid (∀ w : World, Calls Try.prog 25 #[.agg #[.int .i64 6, .string ⟨#[]⟩, .string ⟨#[]⟩, .int .i64 0, .string ⟨#[]⟩, .int .i64 0, .int .i64 0]] w fun e w' => e = .returned (.int .i64 0) ∧ Below w.heap.size w w') := G2
  clear HP G1 G2
  go_enter Try.func14, Try.ntmps14
  go_wp2_with fail
  refine HP'.mono ?_
  rintro e w1 ⟨v1, rfl, o1, b1⟩
  obtain ⟨a1, c1, rfl, hS, hnil, _⟩ := owned_seen o1 (by unfold maxLen; omega)
  have ht := run_to_text w1 a1 5 c1 _ hS
  have et : textOf [6#8, 6#8, 84#8, 0#8, 0#8] = ⟨#[6, 6, 84, 0, 0]⟩ := rfl
  rw [et] at ht
  have B1 : Hid _ := b1
  clear HP' o1 b1 hS hnil et
  go_wp2_with fail
  refine (G1'.out _).mono ?_
  rintro e w2 ⟨rfl, b2⟩
  have B2 : Hid (Below w.heap.size w w2) := B1.out.trans (b2.mono B1.out.size)
  clear b2 ht
  go_wp2_with fail
  refine (G2'.out _).mono ?_
  rintro e w3 ⟨rfl, b3⟩
  have B3 : Hid (Below w.heap.size w w3) := B2.out.trans (b3.mono B2.out.size)
  clear b3
  go_wp2
  go_ret
  exact ⟨rfl, B3.out⟩
end Go.Proofs.Ytaakdnbaljoehaa
