/- Letters that have the same bytes are the same, in what counts. -/
import Derived.Test.YtaakdnbaljoehaaKAllA
import Derived.Test.YtaakdnbaljoehaaInj
namespace Go.Proofs.Ytaakdnbaljoehaa
open Go.RowKit Cod
set_option linter.unusedVariables false

/-- What stands behind a letter's kind. -/
def LetD.rest (d : LetD) : List (BitVec 8) :=
  if d.kind = 2 then enc (zig d.n) ++ d.op.bytes
  else if d.kind = 3 then enc (zig d.n) ++ replyL d.why d.amount d.rows
  else if d.kind = 4 then enc (zig d.n) ++ sz d.body
  else if d.kind = 5 then enc (zig d.n) ++ (enc (zig d.group) ++ sz d.body)
  else sz d.body
theorem bytes_rest {d : LetD} (h1 : 1 ≤ d.kind) (h5 : d.kind ≤ 5) : d.bytes = enc (zig d.kind) ++ d.rest := by
  obtain ⟨kind, n, group, op, why, amount, rows, body⟩ := d
  simp only at h1 h5
  rcases kinds h1 h5 with rfl | rfl | rfl | rfl | rfl <;> simp [LetD.bytes, LetD.rest, intsB]
theorem just_bytes {d : LetD} (h1 : 1 ≤ d.kind) (h5 : d.kind ≤ 5) : d.just.bytes = d.bytes := by
  obtain ⟨kind, n, group, op, why, amount, rows, body⟩ := d
  simp only at h1 h5
  rcases kinds h1 h5 with rfl | rfl | rfl | rfl | rfl <;> rfl
theorem short_lt {ts : List ByteArray} (h : shortL ts = true) {s : ByteArray} (hs : s ∈ ts) : s.size < 18446744073709551616 := by
  have := short_mem h hs
  omega
theorem bytes_inj {d d' : LetD} (ho : d.ok) (ho' : d'.ok) (h1 : 1 ≤ d.kind) (h5 : d.kind ≤ 5) (h1' : 1 ≤ d'.kind) (h5' : d'.kind ≤ 5) (hf : d.fits = true) (hf' : d'.fits = true) (h : d.bytes = d'.bytes) : d.just = d'.just := by
  rw [bytes_rest h1 h5, bytes_rest h1' h5'] at h
  obtain ⟨hk, hr⟩ := zig_pre ho.kind ho'.kind h
  obtain ⟨kind, n, group, op, why, amount, rows, body⟩ := d
  obtain ⟨kind', n', group', op', why', amount', rows', body'⟩ := d'
  obtain ⟨a1, a2, a3, a4, a5, a6, a7⟩ := ho
  obtain ⟨b1, b2, b3, b4, b5, b6, b7⟩ := ho'
  simp only at h1 h5 h1' h5' hk a1 a2 a3 a4 a5 a6 a7 b1 b2 b3 b4 b5 b6 b7
  subst hk
  clear h h1' h5'
  rcases kinds h1 h5 with rfl | rfl | rfl | rfl | rfl
  · have hz : body.length ≤ 65536 := by simpa [LetD.fits] using hf
    have hz' : body'.length ≤ 65536 := by simpa [LetD.fits] using hf'
    have e : sz body = sz body' := hr
    obtain ⟨rfl, _⟩ := sz_pre (p := body) (q := body') (r := []) (s := []) (by omega) (by omega) (by simpa using e)
    rfl
  · have g : shortL [op.src, op.dst, op.key] = true := hf
    have g' : shortL [op'.src, op'.dst, op'.key] = true := hf'
    have e : enc (zig n) ++ op.bytes = enc (zig n') ++ op'.bytes := hr
    obtain ⟨rfl, e2⟩ := zig_pre a2 b2 e
    obtain rfl := op_inj a4 b4 (by
      have x := short_mem g (s := op.src) (by simp)
      have y := short_mem g (s := op.dst) (by simp)
      have z := short_mem g (s := op.key) (by simp)
      unfold OpD.size; omega) (by
      have x := short_mem g' (s := op'.src) (by simp)
      have y := short_mem g' (s := op'.dst) (by simp)
      have z := short_mem g' (s := op'.key) (by simp)
      unfold OpD.size; omega) e2
    rfl
  · have g : (decide (rows.length ≤ 600) && shortL (rows.map (·.1))) = true := hf
    have g' : (decide (rows'.length ≤ 600) && shortL (rows'.map (·.1))) = true := hf'
    rw [Bool.and_eq_true] at g g'
    have l : rows.length ≤ 600 := by simpa using g.1
    have l' : rows'.length ≤ 600 := by simpa using g'.1
    have e : enc (zig n) ++ replyL why amount rows = enc (zig n') ++ replyL why' amount' rows' := hr
    obtain ⟨rfl, e2⟩ := zig_pre a2 b2 e
    obtain ⟨rfl, rfl, rfl⟩ := reply_inj a5 a6 b5 b6 (by omega) (by omega) (fun r hr => ⟨a7 r hr, short_lt g.2 (List.mem_map_of_mem hr)⟩) (fun r hr => ⟨b7 r hr, short_lt g'.2 (List.mem_map_of_mem hr)⟩) e2
    rfl
  · have hz : body.length ≤ 65536 := by simpa [LetD.fits] using hf
    have hz' : body'.length ≤ 65536 := by simpa [LetD.fits] using hf'
    have e : enc (zig n) ++ sz body = enc (zig n') ++ sz body' := hr
    obtain ⟨rfl, e2⟩ := zig_pre a2 b2 e
    obtain ⟨rfl, _⟩ := sz_pre (p := body) (q := body') (r := []) (s := []) (by omega) (by omega) (by simpa using e2)
    rfl
  · have hz : body.length ≤ 65536 := by simpa [LetD.fits] using hf
    have hz' : body'.length ≤ 65536 := by simpa [LetD.fits] using hf'
    have e : enc (zig n) ++ (enc (zig group) ++ sz body) = enc (zig n') ++ (enc (zig group') ++ sz body') := hr
    obtain ⟨rfl, e2⟩ := zig_pre a2 b2 e
    obtain ⟨rfl, e3⟩ := zig_pre a3 b3 e2
    obtain ⟨rfl, _⟩ := sz_pre (p := body) (q := body') (r := []) (s := []) (by omega) (by omega) (by simpa using e3)
    rfl
/-- What Pack answers, told apart. -/
theorem pack_zero {d : LetD} (h : d.pack.2 = 0) : 1 ≤ d.kind ∧ d.kind ≤ 5 ∧ d.fits = true ∧ d.pack.1 = d.bytes ∧ d.bytes.length ≤ 1048576 := by
  by_cases ha : d.kind < 1 ∨ 5 < d.kind
  · rw [pack_arg ha] at h; cases h
  · cases hf : d.fits with
    | false => rw [pack_fits ha hf] at h; cases h
    | true =>
      by_cases hb : 1048576 < d.bytes.length
      · rw [pack_size ha hf hb] at h; cases h
      · rw [pack_ok ha hf hb]
        exact ⟨by omega, by omega, rfl, rfl, by omega⟩
theorem pack_why (d : LetD) : d.pack.2 = 0 ∨ d.pack.2 = 1 ∨ d.pack.2 = 3 := by
  unfold LetD.pack
  repeat' split
  all_goals simp
end Go.Proofs.Ytaakdnbaljoehaa
