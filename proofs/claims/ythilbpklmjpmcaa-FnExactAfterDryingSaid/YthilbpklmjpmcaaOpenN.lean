/- Arguments that are structs of ints, bools and slices of ints, by value or in a slice, opened to their fields. My own. -/
import Derived.Test.YthilbpklmjpmcaaOpen
import Derived.ChangeSlices
namespace Go.Proofs.Ythilbpklmjpmcaa.OpenN
open Go.RowKit Go.ChangeShapes Go.WideShapes Go.Deep Go.Proofs.Ythilbpklmjpmcaa.Mem
set_option linter.unusedVariables false
section
variable {H : Type} {enc : TypeId × Value → H} {P : Program} {w : World} {base : Nat} {spare : Nat → Bool} {held : Bool}
/-- what a cell of a field of this type holds. -/
def Holds (P : Program) (w : World) (T : TypeId) (c : Option Value) : Prop :=
  (P.underlying T = some (.int .i64) → ∃ n : Int, c = some (.int .i64 n) ∧ (Lit.int .i64 n).wf = true) ∧ (P.underlying T = some .bool → ∃ q : Bool, c = some (.bool q)) ∧
  (∀ e, P.underlying T = some (.slice e) → P.underlying e = some (.int .i64) → P.cellsOf e = 1 →
    ∃ (A : Option Addr) (l : List Int) (cap : Nat), c = some (.slice A l.length cap) ∧ Rd w w.heap.size A (l.map (Value.int .i64)) ∧ l.length ≤ maxLen ∧ l.length ≤ cap ∧ ∀ n ∈ l, (Lit.int .i64 n).wf = true)
theorem slice_of {t e : TypeId} {fuel : Nat} {cs : List Value} {x : DataW H × List MemPlace} (ht : P.underlying t = some (.slice e)) (he : P.underlying e = some (.int .i64)) (hc : P.cellsOf e = 1)
    (h : DataW.trod enc P w base spare held fuel t cs = some x) :
    ∃ (A : Option Addr) (l : List Int) (cap : Nat), cs = [.slice A l.length cap] ∧ Rd w w.heap.size A (l.map (Value.int .i64)) ∧ l.length ≤ maxLen ∧ l.length ≤ cap ∧ ∀ n ∈ l, (Lit.int .i64 n).wf = true := by
  rcases open_ints ht he hc h with ⟨hcs, _⟩ | ⟨x, len, cap, ss, hcs, _, hl, hm, hz, _, hcell, hwz⟩
  · exact ⟨none, [], 0, hcs, .inl rfl, Nat.zero_le _, Nat.le_refl _, fun n hn => by cases hn⟩
  · have hz' : len ≤ ss.length := by rw [hz]; split <;> omega
    have hlen : (ss.take len).length = len := by rw [List.length_take]; omega
    exact ⟨some x, ss.take len, cap, by rw [hlen]; exact hcs, rd_ints hz' hcell, by omega, by omega, fun s hs => hwz s (List.mem_of_mem_take hs)⟩
theorem fields_of_cells {t : TypeId} {fs : Array Field} {fuel : Nat} {cs : List Value} {x : DataW H × List MemPlace} (ht : P.underlying t = some (.struct fs)) (hone : oneCellFields P fs = true) (hC : P.cellsOf t = fs.size)
    (h : DataW.trod enc P w base spare held fuel t cs = some x) :
    cs.length = fs.size ∧ ∀ (j : Nat) (f : Field), fs[j]? = some f → Holds P w f.type cs[j]? := by
  obtain ⟨ys, n, _, _, hlen, hyl, hf⟩ := DataW.trod_struct ht h
  rw [hC] at hlen
  refine ⟨hlen, fun j f hfj => ?_⟩
  have hjf : j < fs.size := (Array.getElem?_eq_some_iff.1 hfj).1
  have hj : j < cs.length := by omega
  obtain ⟨ho, hk⟩ := hone_of hone j _ hfj
  have h1 := hf j _ hfj
  rw [ho, hk, List.drop_eq_getElem_cons hj, List.getElem?_eq_getElem (by omega)] at h1
  rw [List.getElem?_eq_getElem hj]
  refine ⟨fun hi => ?_, fun hi => ?_, fun e hi he hc => ?_⟩
  · obtain ⟨m, e1, _, e3⟩ := DataW.trod_int hi h1
    have e1' : [cs[j]] = [Value.int .i64 m] := e1
    injection e1' with e1'
    exact ⟨m, by rw [e1'], e3⟩
  · obtain ⟨m, e1, _⟩ := DataW.trod_bool hi h1
    have e1' : [cs[j]] = [Value.bool m] := e1
    injection e1' with e1'
    exact ⟨m, by rw [e1']⟩
  · obtain ⟨A, l, cap, e1, r⟩ := slice_of hi he hc h1
    have e1' : [cs[j]] = [Value.slice A l.length cap] := e1
    injection e1' with e1'
    exact ⟨A, l, cap, by rw [e1'], r⟩
theorem open_struct {r : Reach} {b0 : Nat} {t : TypeId} {fs : Array Field} {v : Value} {d : DataW H} {p : List MemPlace} (ht : P.underlying t = some (.struct fs)) (hone : oneCellFields P fs = true) (hC : P.cellsOf t = fs.size)
    (hv : Value.okWide P w r b0 t v) (h : DataW.Trod enc P w base spare held t v d p) :
    ∃ cs : Array Value, v = .agg cs ∧ cs.size = fs.size ∧ ∀ (j : Nat) (f : Field), fs[j]? = some f → Holds P w f.type cs[j]? := by
  obtain ⟨cs, rfl, hsz⟩ := okWide_struct ht hv
  obtain ⟨fuel, hf⟩ := h
  have hf' : DataW.trod enc P w base spare held fuel t cs.toList = some (d, p) := by simpa [Value.cells] using hf
  obtain ⟨hl, hat⟩ := fields_of_cells ht hone hC hf'
  exact ⟨cs, rfl, by simpa using hl, fun j f hj => by have := hat j f hj; rwa [Array.getElem?_toList] at this⟩
/-- A slice of such structs: its cells, one behind the other. -/
theorem open_structs {t e : TypeId} {fs : Array Field} {fuel : Nat} {cs : List Value} {x : DataW H × List MemPlace} (ht : P.underlying t = some (.slice e)) (he : P.underlying e = some (.struct fs)) (hone : oneCellFields P fs = true) (hC : P.cellsOf e = fs.size)
    (h : DataW.trod enc P w base spare held fuel t cs = some x) :
    (cs = [.slice none 0 0]) ∨
    ∃ (a : Addr) (len cap : Nat), cs = [.slice (some a) len cap] ∧ len ≤ cap ∧ cap ≤ maxLen ∧
      ∀ i, i < len → ∀ (j : Nat) (f : Field), fs[j]? = some f → Holds P w f.type (w.cell? (a.add (i * fs.size + j))) := by
  rcases open_slice ht h with ⟨h0, _⟩ | ⟨a, len, cap, m, n, D, Pl, hcs, hb, hl, hm, hmm, hx, hi⟩
  · exact .inl h0
  · refine .inr ⟨a, len, cap, hcs, hl, hm, fun i hil j f hfj => ?_⟩
    have him : i < m := by rw [hmm]; split <;> omega
    obtain ⟨cs', hc, ht'⟩ := hi i him
    obtain ⟨hlen, hat⟩ := fields_of_cells he hone hC ht'
    obtain ⟨_, _, hcell⟩ := World.cells?_some hc
    have hjf : j < fs.size := (Array.getElem?_eq_some_iff.1 hfj).1
    have h0 := hat j f hfj
    have h1 := hcell j (by omega)
    rw [add_add, hC] at h1
    rw [h1]; exact h0
theorem arr2 {cs : Array Value} {a b : Value} (h : cs.size = 2) (h0 : cs[0]? = some a) (h1 : cs[1]? = some b) : cs = #[a, b] := by
  apply Array.ext_getElem?
  intro i
  match i with
  | 0 => simpa using h0
  | 1 => simpa using h1
  | i + 2 => rw [Array.getElem?_eq_none (by omega), Array.getElem?_eq_none (by simp)]
theorem arr4 {cs : Array Value} {a b c d : Value} (h : cs.size = 4) (h0 : cs[0]? = some a) (h1 : cs[1]? = some b) (h2 : cs[2]? = some c) (h3 : cs[3]? = some d) : cs = #[a, b, c, d] := by
  apply Array.ext_getElem?
  intro i
  match i with
  | 0 => simpa using h0
  | 1 => simpa using h1
  | 2 => simpa using h2
  | 3 => simpa using h3
  | i + 4 => rw [Array.getElem?_eq_none (by omega), Array.getElem?_eq_none (by simp)]
end
end Go.Proofs.Ythilbpklmjpmcaa.OpenN
