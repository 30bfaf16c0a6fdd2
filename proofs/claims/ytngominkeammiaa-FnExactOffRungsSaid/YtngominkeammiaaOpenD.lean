/- Arguments that are slices of structs whose fields are ints or structs of ints, opened to their numbers. My own. -/
import Derived.Test.YtngominkeammiaaOpen
namespace Go.Proofs.Ytngominkeammiaa.OpenD
open Go.RowKit Go.ChangeShapes Go.WideShapes Go.Deep Go.Proofs.Ytngominkeammiaa.Mem Go.Proofs.Ytngominkeammiaa.Open
set_option linter.unusedVariables false
section
variable {H : Type} {enc : TypeId × Value → H} {P : Program} {w : World} {base : Nat} {spare : Nat → Bool} {held : Bool}
/-- where cell c of a struct lies: in an int field, or in one that is a struct of ints. -/
def Place (P : Program) (fs : Array Field) (c : Nat) : Prop :=
  ∃ (j : Nat) (f : Field) (k : Nat), fs[j]? = some f ∧ f.offset ≤ c ∧ c < f.offset + k ∧ P.cellsOf f.type = k ∧
    ((P.underlying f.type = some (.int .i64) ∧ k = 1) ∨ ∃ gs, P.underlying f.type = some (.struct gs) ∧ oneCellFields P gs = true ∧ k = gs.size ∧ ∀ (i : Nat) (g : Field), gs[i]? = some g → P.underlying g.type = some (.int .i64))
theorem deep_of_cells {t : TypeId} {fs : Array Field} {fuel m : Nat} {cs : List Value} {x : DataW H × List MemPlace} (ht : P.underlying t = some (.struct fs)) (hC : P.cellsOf t = m) (hp : ∀ c, c < m → Place P fs c)
    (h : DataW.trod enc P w base spare held fuel t cs = some x) :
    cs.length = m ∧ ∀ c (hc : c < cs.length), ∃ n : Int, cs[c] = .int .i64 n ∧ (Lit.int .i64 n).wf = true := by
  obtain ⟨ys, n, _, _, hlen, hyl, hf⟩ := DataW.trod_struct ht h
  rw [hC] at hlen
  refine ⟨hlen, fun c hc => ?_⟩
  obtain ⟨j, f, k, hfj, h0, h1, hk, hty⟩ := hp c (by omega)
  have hj : j < ys.length := by rw [hyl]; exact (Array.getElem?_eq_some_iff.1 hfj).1
  have h2 := hf j f hfj
  rw [hk, List.getElem?_eq_getElem hj] at h2
  have hat : ∀ v, ((cs.drop f.offset).take k)[c - f.offset]? = some v → cs[c] = v := by
    intro v hv
    rw [List.getElem?_take, if_pos (by omega), List.getElem?_drop, show f.offset + (c - f.offset) = c by omega, List.getElem?_eq_getElem hc] at hv
    injection hv
  rcases hty with ⟨hi, hk1⟩ | ⟨gs, hs, hone, hkg, hint⟩
  · obtain ⟨q, e1, _, e3⟩ := DataW.trod_int hi h2
    refine ⟨q, hat _ ?_, e3⟩
    rw [e1, show c - f.offset = 0 by omega]; rfl
  · obtain ⟨hl, hall⟩ := ints_of_cells hs hone (by rw [hk, hkg]) hint h2
    obtain ⟨q, e1, e3⟩ := hall (c - f.offset) (by omega)
    exact ⟨q, hat _ (by rw [List.getElem?_eq_getElem (by omega), e1]), e3⟩
theorem open_structs {t e : TypeId} {fs : Array Field} {fuel m0 : Nat} {cs : List Value} {x : DataW H × List MemPlace} (ht : P.underlying t = some (.slice e)) (he : P.underlying e = some (.struct fs)) (hC : P.cellsOf e = m0) (hp : ∀ c, c < m0 → Place P fs c)
    (h : DataW.trod enc P w base spare held fuel t cs = some x) :
    (cs = [.slice none 0 0]) ∨
    ∃ (a : Addr) (len cap : Nat), cs = [.slice (some a) len cap] ∧ len ≤ cap ∧ cap ≤ maxLen ∧
      ∀ i, i < len → ∀ j, j < m0 → ∃ n : Int, w.cell? (a.add (i * m0 + j)) = some (.int .i64 n) ∧ (Lit.int .i64 n).wf = true := by
  rcases open_slice ht h with ⟨h0, _⟩ | ⟨a, len, cap, m, n, D, Pl, hcs, hb, hl, hm, hmm, hx, hi⟩
  · exact .inl h0
  · refine .inr ⟨a, len, cap, hcs, hl, hm, fun i hil j hj => ?_⟩
    have him : i < m := by rw [hmm]; split <;> omega
    obtain ⟨cs', hc, ht'⟩ := hi i him
    obtain ⟨hlen, hat⟩ := deep_of_cells he hC hp ht'
    obtain ⟨_, _, hcell⟩ := World.cells?_some hc
    obtain ⟨q, e1, e2⟩ := hat j (by omega)
    refine ⟨q, ?_, e2⟩
    have h1 := hcell j (by omega)
    rw [add_add, hC, List.getElem?_eq_getElem (by omega), e1] at h1
    exact h1
end
end Go.Proofs.Ytngominkeammiaa.OpenD
