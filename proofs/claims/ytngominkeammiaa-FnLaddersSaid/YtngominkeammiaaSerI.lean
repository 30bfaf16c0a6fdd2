/- Owned rows of basins (out of SerC), for seats that hold no more of chapter 8. Made by tools/mk_dlad.py. -/
import Derived.Test.YtngominkeammiaaSBasin
import Derived.Test.YtngominkeammiaaKeep
import Derived.Test.YtngominkeammiaaRegn
import Derived.Lib.SliceRun
import Derived.Laws.CopyOwn
namespace Go.Proofs.Ytngominkeammiaa.SerI
open Go.RowKit Go.Proofs.Ytngominkeammiaa.Mem Go.Proofs.Ytngominkeammiaa.Base Go.Proofs.Ytngominkeammiaa.SBasin Go.Proofs.Ytngominkeammiaa.Regn Go.Proofs.Ytngominkeammiaa.Boxes Go.Proofs.Ytngominkeammiaa.Keep
set_option linter.unusedVariables false
set_option maxRecDepth 100000
theorem cell_add (w : World) (b o j : Nat) : w.cell? (Addr.add ⟨b, o, none⟩ j) = w.cell? ⟨b, o + j, none⟩ := by
  unfold Addr.add; split
  · rename_i h; subst h; rfl
  · rfl
theorem flat_one (l : List R) : ∀ u ∈ flat l, u.oneCell' = true := by
  intro u hu
  unfold flat at hu
  rw [List.mem_flatMap] at hu
  obtain ⟨x, _, hx⟩ := hu
  simp [R.cells] at hx
  rcases hx with rfl | rfl | rfl <;> rfl
theorem flat_nil {l : List R} (h : flat l = []) : l = [] := by
  have := flat_n l; rw [h] at this; exact List.eq_nil_of_length_eq_zero (by simp at this; omega)
def Own (w : World) (base g c : Nat) (l : List R) : Prop := w.ownsRow base 94 3 (.slice (some ⟨g, 0, none⟩) l.length c) l.length (flat l)
def ClPost (l : List R) (w : World) (e : Ending) (w' : World) : Prop :=
  ∃ g c, e = .returned (.slice (some ⟨g, 0, none⟩) l.length c) ∧ Own w' w.heap.size g c l ∧ Below w.heap.size w w'
theorem cl_mk {l : List R} {w w' : World} {g c : Nat} {v : Value} (h : v = .slice (some ⟨g, 0, none⟩) l.length c) (ho : Own w' w.heap.size g c l) (hB : Below w.heap.size w w') : ClPost l w (.returned v) w' := ⟨g, c, by rw [h], ho, hB⟩
theorem empty_own {w u : World} (hb : Below w.heap.size w u) : (u.alloc (.cells #[] 94)).ownsRow w.heap.size 94 3 (.slice (some ⟨u.heap.size, 0, none⟩) 0 0) 0 (flat []) := by
  have := World.ownsRow_lit u #[] 0 (e := 94) (size := 3) (base := w.heap.size) hb.size (by unfold maxLen; omega) rfl
  simpa [flat] using this
theorem Own.keep {w w' : World} {base g c : Nat} {l : List R} (h : Own w base g c l) (hb : Below w.heap.size w w') : Own w' base g c l := own_keep h hb
theorem Own.ge {w : World} {base g c : Nat} {l : List R} (h : Own w base g c l) : base ≤ g := own_ge h g rfl
theorem Own.lt {w : World} {base g c : Nat} {l : List R} (h : Own w base g c l) : g < w.heap.size := own_lt h
theorem Own.base {w : World} {base base' g c : Nat} {l : List R} (h : Own w base g c l) (hb : base' ≤ base) : Own w base' g c l := own_base h hb
theorem Own.rd {w : World} {base g c : Nat} {l : List R} (h : Own w base g c l) : Rd w w.heap.size (some ⟨g, 0, none⟩) (flat l) := Rd.of_own h
theorem Own.cells {w : World} {base g c k : Nat} {l : List R} {x : R} (O : Own w base g c l) (hk : k < l.length) (hx : l[k] = x) :
    w.cell? ⟨g, k * 3, none⟩ = some (.int .i64 x.f0) ∧ w.cell? ⟨g, k * 3 + 1, none⟩ = some (.int .i64 x.f1) ∧ w.cell? ⟨g, k * 3 + 2, none⟩ = some (.int .i64 x.f2) := by
  subst hx
  have e : l.length * 3 = (flat l).length := (flat_n l).symm
  refine ⟨?_, ?_, ?_⟩
  · rw [World.ownsRow.cellAt O _ (by omega)]; exact flat_0 l k hk
  · rw [World.ownsRow.cellAt O _ (by omega)]; exact flat_1 l k hk
  · rw [World.ownsRow.cellAt O _ (by omega)]; exact flat_2 l k hk
theorem Own.free {w : World} {base g c : Nat} {l : List R} (O : Own w base g c l) (i : Nat) : w.frozen? ⟨g, i, none⟩ = false := World.ownsRow.frozenAt O i
theorem set_self {l : List Value} {i : Nat} {v : Value} (h : l[i]? = some v) : l.set i v = l := by
  apply List.ext_getElem?
  intro j
  rw [List.getElem?_set]
  split
  · rename_i e; subst e
    split
    · rw [h]
    · rename_i h2
      rw [List.getElem?_eq_none (by omega)] at h; cases h
  · rfl
theorem flat_brine {l : List R} {k : Nat} {x : R} (a b : Int) (hk : k < l.length) (hx : l[k] = x) : ((flat l).set (k * 3 + 1) (.int .i64 a)).set (k * 3 + 2) (.int .i64 b) = flat (l.set k ⟨x.f0, a, b⟩) := by
  have h := flat_set l k ⟨x.f0, a, b⟩ hk
  rw [← h]
  subst hx
  show _ = (((flat l).set (k * 3) (.int .i64 l[k].f0)).set (k * 3 + 1) (.int .i64 a)).set (k * 3 + 2) (.int .i64 b)
  rw [set_self (flat_0 l k hk)]
theorem flat_water {l : List R} {k : Nat} {x : R} (a : Int) (hk : k < l.length) (hx : l[k] = x) : (flat l).set (k * 3 + 1) (.int .i64 a) = flat (l.set k ⟨x.f0, a, x.f2⟩) := by
  rw [← flat_brine a x.f2 hk hx]
  subst hx
  rw [set_self (v := .int .i64 l[k].f2) (by rw [List.getElem?_set_ne (by omega)]; exact flat_2 l k hk)]
/-- a Brine stored into basin k. -/
theorem Own.put {w : World} {base g c k : Nat} {l : List R} {x : R} (O : Own w base g c l) (hk : k < l.length) (hx : l[k] = x) (a b : Int) :
    Own ((w.setCell ⟨g, k * 3 + 1, none⟩ (.int .i64 a)).setCell ⟨g, k * 3 + 2, none⟩ (.int .i64 b)) base g c (l.set k ⟨x.f0, a, b⟩) := by
  have h := (World.ownsRow.stored (World.ownsRow.stored O (k * 3 + 1) (.int .i64 a)).1 (k * 3 + 2) (.int .i64 b)).1
  rw [flat_brine a b hk hx] at h
  unfold Own; rw [List.length_set]; exact h
theorem Own.putW {w : World} {base g c k : Nat} {l : List R} {x : R} (O : Own w base g c l) (hk : k < l.length) (hx : l[k] = x) (a : Int) :
    Own (w.setCell ⟨g, k * 3 + 1, none⟩ (.int .i64 a)) base g c (l.set k ⟨x.f0, a, x.f2⟩) := by
  have h := (World.ownsRow.stored O (k * 3 + 1) (.int .i64 a)).1
  rw [flat_water a hk hx] at h
  unfold Own; rw [List.length_set]; exact h
theorem below_put {w W : World} {g i : Nat} {v0 v1 : Value} (h : Below w.heap.size w W) (hg : w.heap.size ≤ g) : Below w.heap.size w ((W.setCell ⟨g, i, none⟩ v0).setCell ⟨g, i + 1, none⟩ v1) :=
  (h.setCell (p := ⟨g, _, none⟩) hg _).setCell (p := ⟨g, _, none⟩) hg _
end Go.Proofs.Ytngominkeammiaa.SerI
