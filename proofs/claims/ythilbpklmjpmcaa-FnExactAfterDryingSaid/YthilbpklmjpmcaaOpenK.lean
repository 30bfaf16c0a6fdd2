/- Arguments that are structs of ints and strings, by value or in a slice, opened to their fields. -/
import Derived.Test.YthilbpklmjpmcaaOpen
namespace Go.Proofs.Ythilbpklmjpmcaa.OpenK
open Go.RowKit Go.ChangeShapes Go.WideShapes Go.Deep Go.Proofs.Ythilbpklmjpmcaa.Mem
set_option linter.unusedVariables false
section
variable {H : Type} {enc : TypeId × Value → H} {P : Program} {w : World} {base : Nat} {spare : Nat → Bool} {held : Bool}
/-- what a cell of a field of this type holds. -/
def Holds (P : Program) (T : TypeId) (c : Option Value) : Prop :=
  (P.underlying T = some (.int .i64) → ∃ n : Int, c = some (.int .i64 n) ∧ (Lit.int .i64 n).wf = true) ∧ (P.underlying T = some .string → ∃ q : ByteArray, c = some (.string q) ∧ q.size ≤ maxLen)
theorem fields_of_cells {t : TypeId} {fs : Array Field} {fuel : Nat} {cs : List Value} {x : DataW H × List MemPlace} (ht : P.underlying t = some (.struct fs)) (hone : oneCellFields P fs = true) (hC : P.cellsOf t = fs.size)
    (h : DataW.trod enc P w base spare held fuel t cs = some x) :
    cs.length = fs.size ∧ ∀ (j : Nat) (f : Field), fs[j]? = some f → Holds P f.type cs[j]? := by
  obtain ⟨ys, n, _, _, hlen, hyl, hf⟩ := DataW.trod_struct ht h
  rw [hC] at hlen
  refine ⟨hlen, fun j f hfj => ?_⟩
  have hjf : j < fs.size := (Array.getElem?_eq_some_iff.1 hfj).1
  have hj : j < cs.length := by omega
  obtain ⟨ho, hk⟩ := hone_of hone j _ hfj
  have h1 := hf j _ hfj
  rw [ho, hk, List.drop_eq_getElem_cons hj, List.getElem?_eq_getElem (by omega)] at h1
  rw [List.getElem?_eq_getElem hj]
  constructor
  · intro hi
    obtain ⟨m, e1, _, e3⟩ := DataW.trod_int hi h1
    have e1' : [cs[j]] = [Value.int .i64 m] := e1
    injection e1' with e1'
    exact ⟨m, by rw [e1'], e3⟩
  · intro hi
    obtain ⟨m, e1, _, e3⟩ := DataW.trod_string hi h1
    have e1' : [cs[j]] = [Value.string m] := e1
    injection e1' with e1'
    exact ⟨m, by rw [e1'], e3⟩
theorem open_struct {r : Reach} {b0 : Nat} {t : TypeId} {fs : Array Field} {v : Value} {d : DataW H} {p : List MemPlace} (ht : P.underlying t = some (.struct fs)) (hone : oneCellFields P fs = true) (hC : P.cellsOf t = fs.size)
    (hv : Value.okWide P w r b0 t v) (h : DataW.Trod enc P w base spare held t v d p) :
    ∃ cs : Array Value, v = .agg cs ∧ cs.size = fs.size ∧ ∀ (j : Nat) (f : Field), fs[j]? = some f → Holds P f.type cs[j]? := by
  obtain ⟨cs, rfl, hsz⟩ := okWide_struct ht hv
  obtain ⟨fuel, hf⟩ := h
  have hf' : DataW.trod enc P w base spare held fuel t cs.toList = some (d, p) := by simpa [Value.cells] using hf
  obtain ⟨hl, hat⟩ := fields_of_cells ht hone hC hf'
  exact ⟨cs, rfl, by simpa using hl, fun j f hj => by have := hat j f hj; rwa [Array.getElem?_toList] at this⟩
/-- A slice of such structs: its cells, one behind the other. -/
theorem open_structs {t e : TypeId} {fs : Array Field} {fuel : Nat} {cs : List Value} {x : DataW H × List MemPlace} (ht : P.underlying t = some (.slice e)) (he : P.underlying e = some (.struct fs)) (hone : oneCellFields P fs = true) (hC : P.cellsOf e = fs.size)
    (h : DataW.trod enc P w base spare held fuel t cs = some x) :
    (cs = [.slice none 0 0]) ∨
    ∃ (a : Addr) (len cap : Nat), cs = [.slice (some a) len cap] ∧ len ≤ cap ∧ cap ≤ maxLen ∧
      ∀ i, i < len → ∀ (j : Nat) (f : Field), fs[j]? = some f → Holds P f.type (w.cell? (a.add (i * fs.size + j))) := by
  rcases open_slice ht h with ⟨h0, _⟩ | ⟨a, len, cap, m, n, D, Pl, hcs, hb, hl, hm, hmm, hx, hi⟩
  · exact .inl h0
  · refine .inr ⟨a, len, cap, hcs, hl, hm, fun i hil j f hfj => ?_⟩
    have him : i < m := by rw [hmm]; split <;> omega
    obtain ⟨cs', hc, ht'⟩ := hi i him
    obtain ⟨hlen, hat⟩ := fields_of_cells he hone hC ht'
    obtain ⟨_, _, hcell⟩ := World.cells?_some hc
    have hjf : j < fs.size := (Array.getElem?_eq_some_iff.1 hfj).1
    have h0 := hat j f hfj
    have h1 := hcell j (by omega)
    rw [add_add, hC] at h1
    rw [h1]; exact h0
end
end Go.Proofs.Ythilbpklmjpmcaa.OpenK
