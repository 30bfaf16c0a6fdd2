/- slices.Clone over trips. -/
import Derived.Test.YtknlgdahcfgbeaaSTrip
import Derived.Test.YtknlgdahcfgbeaaKeep
import Derived.Lib.SliceRun
namespace Go.Proofs.Ytknlgdahcfgbeaa.TripCl
open Go.RowKit Go.Proofs.Ytknlgdahcfgbeaa.Mem Go.Proofs.Ytknlgdahcfgbeaa.Base Go.Proofs.Ytknlgdahcfgbeaa.STrip Go.Proofs.Ytknlgdahcfgbeaa.Boxes Go.Proofs.Ytknlgdahcfgbeaa.Keep
set_option linter.unusedVariables false
set_option maxRecDepth 100000
theorem cell_add (w : World) (b o j : Nat) : w.cell? (Addr.add ⟨b, o, none⟩ j) = w.cell? ⟨b, o + j, none⟩ := by
  unfold Addr.add; split
  · rename_i h; subst h; rfl
  · rfl
theorem flat_one (l : List R) : ∀ u ∈ flat l, u.oneCell' = true := by
  intro u hu
  unfold flat at hu
  rw [List.mem_flatMap] at hu
  obtain ⟨x, _, hx⟩ := hu
  simp [R.cells] at hx
  rcases hx with rfl | rfl | rfl | rfl | rfl <;> rfl
theorem flat_nil {l : List R} (h : flat l = []) : l = [] := by
  have := flat_n l; rw [h] at this; exact List.eq_nil_of_length_eq_zero (by simp at this; omega)
def ClPost (l : List R) (w : World) (e : Ending) (w' : World) : Prop :=
  ∃ A c, e = .returned (.slice A l.length c) ∧ w'.ownsRow w.heap.size 25 5 (.slice A l.length c) l.length (flat l) ∧ Below w.heap.size w w'
theorem cl_mk {l : List R} {w w' : World} {A : Option Addr} {c : Nat} {v : Value} (h : v = .slice A l.length c)
    (ho : w'.ownsRow w.heap.size 25 5 (.slice A l.length c) l.length (flat l)) (hB : Below w.heap.size w w') : ClPost l w (.returned v) w' := ⟨A, c, by rw [h], ho, hB⟩
theorem empty_own {w u : World} (hb : Below w.heap.size w u) : (u.alloc (.cells #[] 25)).ownsRow w.heap.size 25 5 (.slice (some ⟨u.heap.size, 0, none⟩) 0 0) 0 (flat []) := by
  have := World.ownsRow_lit u #[] 0 (e := 25) (size := 5) (base := w.heap.size) hb.size (by unfold maxLen; omega) rfl
  simpa [flat] using this
set_option maxHeartbeats 400000 in
theorem clone_any (P : Option Addr) (cap : Nat) (l : List R) (w : World) (hr : Rd w w.heap.size P (flat l)) (hn : l.length ≤ 1048576) :
    Calls Try.prog 46 #[.slice P l.length cap] w (ClPost l w) := by
  obtain ⟨i0, hi, hz0, hz1, hz2⟩ := info_parts info_T
  have HI := Lib.hid hz2; clear hz2
  have HI1 := Lib.hid hz1; clear hz1
  have qT : ∀ (w : World) (a : Option Addr) (n c n' c' : Nat), (binOp .eql 35 (.slice a n c) (.slice none n' c')).run Try.prog w = .ok (.bool a.isNone) w := fun w a n c n' c' => Lib.run_eql_slice_nil w _ _ a n c n' c' Try.underlying35
  cases P with
  | none =>
    have hl : l = [] := by
      rcases hr with h | ⟨b, o, hA, _⟩
      · exact flat_nil h
      · cases hA
    subst hl
    go_enter Try.func46, Try.ntmps46
    go_wp2
    go_ret
    exact cl_mk rfl ⟨rfl, .inl ⟨rfl, rfl⟩⟩ (Below.refl _ _)
  | some ad =>
    have hnews : ∀ j u, (flat l)[j]? = some u → (w.alloc (.cells #[] 25)).cell? (ad.add j) = some u := by
      intro j u hu
      rcases hr with h | ⟨b, o, hA, hb, hc⟩
      · rw [h] at hu; cases hu
      · injection hA with hA; subst hA
        rw [cell_add, ((bcell (al (Below.refl w.heap.size w) (o := .cells #[] 25))).1 _ _ hb)]
        exact hc j u hu
    have HN := Lib.hid hnews; clear hnews
    have O := empty_own (Below.refl _ w)
    have HO := Lib.hid O; clear O
    go_enter Try.func46, Try.ntmps46
    go_wp2_with (at_builtin; go_must (refine wpList_append_own _ rfl _ _ 35 rfl w.heap.size 25 i0 _ 5 40 Try.underlying35 hi hz0 HI1.out HI.out rfl (by decide) _ 0 _ rfl HO.out ad l.length cap (flat l) rfl (flat_n l) HN.out (flat_one l) (by unfold maxLen; omega) (by omega) (by rw [size_alloc']; omega) ?_; intro v' w9 hown1 hgrow _))
    have hB9 := bl_grown (al (Below.refl w.heap.size w) (o := .cells #[] 25)) hgrow (fun k hk => own_ge HO.out k hk)
    obtain ⟨A1, c1, rfl⟩ := own_form hown1
    have HO1 : w9.ownsRow w.heap.size 25 5 (.slice A1 l.length c1) l.length (flat l) := by simpa [flat] using hown1
    clear hgrow hown1
    go_wp2
    go_ret
    exact cl_mk (by simp) HO1 hB9
end Go.Proofs.Ytknlgdahcfgbeaa.TripCl
