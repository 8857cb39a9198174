/- Package client: a desk in memory; has, Len, New; slices.Clone of rows, own. -/
import Derived.Test.YtaakdnbaljoehaaKGiven
import Derived.Test.YtaakdnbaljoehaaXMem
import Derived.Test.YtaakdnbaljoehaaKAllA
namespace Go.Proofs.Ytaakdnbaljoehaa
open Go.RowKit Cod
attribute [local go_sem] Oper.semAt_some
set_option linter.unusedVariables false

/-- A call, and where its answer's rows lie. -/
structure CallV where
  op : OpD
  heard : Bool
  why : Int
  amount : Int
  rows : List (ByteArray × Int)
  ra : Option Addr
  rc : Nat
def OpD.cells7 (o : OpD) : List Value := [.int .i64 o.kind, .string o.src, .string o.dst, .int .i64 o.amount, .string o.key, .int .i64 o.slot, .int .i64 o.shard]
def CallV.cells (c : CallV) : List Value := [.int .i64 c.op.kind, .string c.op.src, .string c.op.dst, .int .i64 c.op.amount, .string c.op.key, .int .i64 c.op.slot, .int .i64 c.op.shard, .bool c.heard, .int .i64 c.why, .int .i64 c.amount, .slice c.ra c.rows.length c.rc]
theorem CallV.cells11 (c : CallV) : c.cells.length = 11 := rfl
/-- Blocks of other types stay. -/
def OnlyT (ts : List TypeId) (w w' : World) : Prop := ∀ (K : Nat) (c : Array Value) (t : TypeId) (fr : Nat × Nat), w.heap[K]? = some (.cells c t fr) → t ∉ ts → w'.heap[K]? = some (.cells c t fr)
theorem OnlyT.refl (ts : List TypeId) (w : World) : OnlyT ts w w := fun _ _ _ _ h _ => h
theorem OnlyT.trans {ts : List TypeId} {a b c : World} (h : OnlyT ts a b) (k : OnlyT ts b c) : OnlyT ts a c := fun K x t fr hx ht => k K x t fr (h K x t fr hx ht) ht
theorem OnlyT.below {ts : List TypeId} {w w' : World} (h : Below w.heap.size w w') : OnlyT ts w w' := fun K x t fr hx _ => by rw [h.block K (Array.getElem?_eq_some_iff.1 hx).1]; exact hx
/-- A desk lies in memory. -/
structure DeskIn (w : World) (base P : Nat) (L : List CallV) : Prop where
  ex : ∃ v, w.heap[P]? = some (.cells #[v] 77 (0, 0)) ∧ w.ownsRow base 74 11 v L.length (flat CallV.cells L)
  rows : ∀ c ∈ L, w.ownsRow base 59 2 (.slice c.ra c.rows.length c.rc) c.rows.length (rowCells c.rows)
  pb : base ≤ P
  few : L.length ≤ 2000
theorem ownsT {ts : List TypeId} {w w' : World} {base : Nat} {v : Value} {n : Nat} {xs : List Value} {t : TypeId} {s : Nat} (h : w.ownsRow base t s v n xs) (k : OnlyT ts w w') (ht : t ∉ ts) : w'.ownsRow base t s v n xs := by
  refine ⟨h.1, h.2.imp id ?_⟩
  rintro ⟨g, cap, cur, rfl, hb, hg, hr⟩
  exact ⟨g, cap, cur, rfl, hb, k g cur t _ hg ht, hr⟩
theorem DeskIn.keep {ts : List TypeId} {w w' : World} {base P : Nat} {L : List CallV} (h : DeskIn w base P L) (k : OnlyT ts w w') (h1 : 77 ∉ ts) (h2 : 74 ∉ ts) (h3 : 59 ∉ ts) : DeskIn w' base P L := by
  obtain ⟨v, hv, ho⟩ := h.ex
  exact ⟨⟨v, k _ _ _ _ hv h1, ownsT ho k h2⟩, fun c hc => ownsT (h.rows c hc) k h3, h.pb, h.few⟩
theorem DeskIn.below {w w' : World} {base P : Nat} {L : List CallV} (h : DeskIn w base P L) (b : Below w.heap.size w w') : DeskIn w' base P L := h.keep (ts := []) (OnlyT.below b) (by simp) (by simp) (by simp)
theorem DeskIn.lt {w : World} {base P : Nat} {L : List CallV} (h : DeskIn w base P L) : P < w.heap.size := by
  obtain ⟨v, hv, _⟩ := h.ex
  exact (Array.getElem?_eq_some_iff.1 hv).1
theorem desk_new (w : World) : Calls Try.prog 19 #[] w fun e w' => e = .returned (.pointer (some ⟨w.heap.size, 0, none⟩)) ∧ DeskIn w' w.heap.size w.heap.size [] ∧ Below w.heap.size w w' := by
  have b : Hid (Below w.heap.size w (w.alloc (.cells #[.slice none 0 0] 77))) := (Below.refl _ w).alloc (Nat.le_refl _) _
  have g : Hid _ := heap_alloc_new w (.cells #[.slice none 0 0] 77)
  go_enter Try.func19, Try.ntmps19
  go_wp2
  go_ret
  exact ⟨rfl, ⟨⟨_, g.out, World.ownsRow_nil _ _ _ _⟩, fun c hc => (by cases hc), Nat.le_refl _, by simp⟩, b.out⟩
theorem desk_len {w : World} {base P : Nat} {L : List CallV} (h : DeskIn w base P L) : Calls Try.prog 13 #[.pointer (some ⟨P, 0, none⟩)] w fun e w' => e = .returned (.int .i64 L.length) ∧ w' = w := by
  obtain ⟨v, hv, ho⟩ := h.ex
  obtain ⟨a, c, rfl, _, _⟩ := row_form' ho
  have c0 : w.cell? ⟨P, 0, none⟩ = some (.slice a L.length c) := by simp [World.cell?, hv]
  clear hv ho h
  go_enter Try.func13, Try.ntmps13
  go_wp2
  go_ret
  exact ⟨rfl, rfl⟩
/-- There is a call of that number. -/
def hasN (L : List CallV) (n : Int) : Bool := decide (0 ≤ n) && decide (n < (L.length : Int))
set_option maxHeartbeats 400000 in
theorem desk_has {w : World} {base P : Nat} {L : List CallV} (h : DeskIn w base P L) (n : Int) : Calls Try.prog 32 #[.pointer (some ⟨P, 0, none⟩), .int .i64 n] w fun e w' => e = .returned (.bool (hasN L n)) ∧ w' = w := by
  obtain ⟨v, hv, ho⟩ := h.ex
  obtain ⟨a, c, rfl, _, _⟩ := row_form' ho
  have c0 : w.cell? ⟨P, 0, none⟩ = some (.slice a L.length c) := by simp [World.cell?, hv]
  clear hv ho h
  unfold hasN
  by_cases h0 : 0 ≤ n
  · rw [decide_eq_true h0]
    go_enter Try.func32, Try.ntmps32
    go_wp2
    go_ret
    exact ⟨rfl, rfl⟩
  · have h0' : ¬ 0 ≤ n := h0
    rw [decide_eq_false h0]
    go_enter Try.func32, Try.ntmps32
    go_wp2
    go_ret
    exact ⟨rfl, rfl⟩
/-- append([]Row{}, rows...) -/
theorem run_append_rowsE (w : World) (aa : Option Addr) (la ca : Nat) (A : List (ByteArray × Int)) (hA : RowsAt w aa la A) (hnil : aa = none → ca = 0) (hb : la * 24 ≤ 140737488355328) :
    ∃ v' w', (Builtin.append_ #[26, 26] 26 #[.slice (some ⟨w.heap.size, 0, none⟩) 0 0, .slice aa la ca]).run Try.prog (w.alloc (.cells #[] 59)) = .ok v' w' ∧ w'.ownsRow w.heap.size 59 2 v' la (rowCells A) ∧ Below w.heap.size w w' := by
  obtain ⟨i0, hi, hz0, hz1, hz2⟩ := info_parts infoRow
  have h0 : (w.alloc (.cells #[] 59)).ownsRow w.heap.size 59 2 (.slice (some ⟨w.heap.size, 0, none⟩) 0 0) 0 [] := ⟨rfl, .inr ⟨w.heap.size, 0, #[], rfl, Nat.le_refl _, heap_alloc_new w _, Nat.le_refl _, by unfold maxLen; omega, rfl, rfl⟩⟩
  have bA : Below w.heap.size w (w.alloc (.cells #[] 59)) := (Below.refl _ w).alloc (Nat.le_refl _) _
  cases aa with
  | none =>
    have hla : la = 0 := by
      rcases hA.2.2 with h3 | ⟨b, off, h, _⟩
      · exact h3
      · cases h
    subst hla
    have hAn : A = [] := List.eq_nil_of_length_eq_zero hA.1.symm
    subst hAn
    rw [hnil rfl]
    have hr := run_append_owned_none (P := Try.prog) (w := w.alloc (.cells #[] 59)) w.heap.size 26 26 59 i0 2 Try.underlying26 hi _ 0 _ h0
    exact ⟨_, _, hr, h0, bA⟩
  | some x =>
    obtain ⟨v', w', hr, h1, h2, _⟩ := run_append_own (P := Try.prog) (w.alloc (.cells #[] 59)) w.heap.size 26 26 59 i0 _ 2 24 Try.underlying26 hi hz0 hz1 hz2 rfl (by omega) _ 0 [] h0 x la ca (rowCells A) (by rw [rowCells_length, hA.1]) (rows_news (hA.below bA) x rfl) (rowCells_one A) (by unfold maxLen; omega) (by omega) (by simp)
    refine ⟨v', w', hr, by simpa using h1, bA.grown h2 bA.size (fun k e => by cases e; exact Nat.le_refl _)⟩
set_option maxHeartbeats 400000 in
theorem cloneR_any (a : Option Addr) (len cap : Nat) (A : List (ByteArray × Int)) (w : World) (h : RowsAt w a len A) (hnil : a = none → cap = 0) (hb : len * 24 ≤ 140737488355328) :
    Calls Try.prog 57 #[.slice a len cap] w fun e w' => ∃ v, e = .returned v ∧ w'.ownsRow w.heap.size 59 2 v len (rowCells A) ∧ Below w.heap.size w w' := by
  have qT : ∀ (w : World) (a : Option Addr) (n c n' c' : Nat), (binOp .eql 26 (.slice a n c) (.slice none n' c')).run Try.prog w = .ok (.bool a.isNone) w := fun w a n c n' c' => Lib.run_eql_slice_nil w _ _ a n c n' c' Try.underlying26
  cases a with
  | none =>
    have h0 : len = 0 := by
      rcases h.2.2 with h3 | ⟨b, off, h, _⟩
      · exact h3
      · cases h
    subst h0
    obtain rfl : A = [] := List.eq_nil_of_length_eq_zero h.1.symm
    clear h hnil hb
    go_enter Try.func57, Try.ntmps57
    go_wp2
    go_ret
    exact ⟨_, rfl, World.ownsRow_nil _ _ _ _, Below.refl _ _⟩
  | some x =>
    obtain ⟨v', w', hr, h1, h2⟩ := run_append_rowsE w (some x) len cap A h hnil hb
    have HR : Hid _ := hr
    have H1 : Hid _ := h1
    have H2 : Hid _ := h2
    clear hr h1 h2 h hnil hb
    go_enter Try.func57, Try.ntmps57
    go_wp2_with (at_builtin; refine wpList_append_known rfl (.tmp 5) (.tmp 6) 26 26 rfl _ _ rfl rfl _ _ HR.out ?_)
    go_ret
    exact ⟨_, rfl, H1.out, H2.out⟩
end Go.Proofs.Ytaakdnbaljoehaa
