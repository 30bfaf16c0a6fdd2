/- slices.Clone over suns. -/
import Derived.Test.YtpbmncecejchjaaSSun
import Derived.Test.YtpbmncecejchjaaKeep
import Derived.Lib.SliceRun
namespace Go.Proofs.Ytpbmncecejchjaa.SunC
open Go.RowKit Go.Proofs.Ytpbmncecejchjaa.Mem Go.Proofs.Ytpbmncecejchjaa.Base Go.Proofs.Ytpbmncecejchjaa.SSun Go.Proofs.Ytpbmncecejchjaa.Boxes Go.Proofs.Ytpbmncecejchjaa.Keep
set_option linter.unusedVariables false
set_option maxRecDepth 100000
theorem cell_add (w : World) (b o j : Nat) : w.cell? (Addr.add ⟨b, o, none⟩ j) = w.cell? ⟨b, o + j, none⟩ := by
  unfold Addr.add; split
  · rename_i h; subst h; rfl
  · rfl
theorem flat_one (l : List R) : ∀ u ∈ flat l, u.oneCell' = true := by
  intro u hu
  unfold flat at hu
  rw [List.mem_flatMap] at hu
  obtain ⟨x, _, hx⟩ := hu
  simp [R.cells] at hx
  rcases hx with rfl | rfl <;> rfl
theorem flat_nil {l : List R} (h : flat l = []) : l = [] := by
  have := flat_n l; rw [h] at this; exact List.eq_nil_of_length_eq_zero (by simp at this; omega)
def ClPost (l : List R) (w : World) (e : Ending) (w' : World) : Prop :=
  ∃ A c, e = .returned (.slice A l.length c) ∧ w'.ownsRow w.heap.size 128 2 (.slice A l.length c) l.length (flat l) ∧ Below w.heap.size w w'
theorem cl_mk {l : List R} {w w' : World} {A : Option Addr} {c : Nat} {v : Value} (h : v = .slice A l.length c)
    (ho : w'.ownsRow w.heap.size 128 2 (.slice A l.length c) l.length (flat l)) (hB : Below w.heap.size w w') : ClPost l w (.returned v) w' := ⟨A, c, by rw [h], ho, hB⟩
theorem empty_own {w u : World} (hb : Below w.heap.size w u) : (u.alloc (.cells #[] 128)).ownsRow w.heap.size 128 2 (.slice (some ⟨u.heap.size, 0, none⟩) 0 0) 0 (flat []) := by
  have := World.ownsRow_lit u #[] 0 (e := 128) (size := 2) (base := w.heap.size) hb.size (by unfold maxLen; omega) rfl
  simpa [flat] using this
end Go.Proofs.Ytpbmncecejchjaa.SunC
