/- slices.Clone over ints. -/
import Derived.Test.YtokgncbcknpfiaaDoorSInt
import Derived.Test.YtokgncbcknpfiaaDoorKeep
import Derived.Lib.SliceRun
namespace Go.Proofs.YtokgncbcknpfiaaDoor.IClone
open Go.RowKit Go.Proofs.YtokgncbcknpfiaaDoor.Mem Go.Proofs.YtokgncbcknpfiaaDoor.Base Go.Proofs.YtokgncbcknpfiaaDoor.SInt Go.Proofs.YtokgncbcknpfiaaDoor.Boxes Go.Proofs.YtokgncbcknpfiaaDoor.Keep
set_option linter.unusedVariables false
set_option maxRecDepth 100000
theorem cell_add (w : World) (b o j : Nat) : w.cell? (Addr.add ⟨b, o, none⟩ j) = w.cell? ⟨b, o + j, none⟩ := by
  unfold Addr.add; split
  · rename_i h; subst h; rfl
  · rfl
theorem info_int : (Tryd.prog.info? 3).map (fun i => (i.zero, i.size, i.bytes)) = some (some (.int .i64 0), 1, 8) := by kernel_rfl
theorem iv_one (l : List Int) : ∀ u ∈ iv l, u.oneCell' = true := by
  intro u hu
  unfold iv at hu
  obtain ⟨x, _, rfl⟩ := List.mem_map.1 hu
  rfl
theorem iv_n (l : List Int) : (iv l).length = l.length * 1 := by rw [iv_len]; omega
theorem iv_nil {l : List Int} (h : iv l = []) : l = [] := by
  have := iv_len l; rw [h] at this; exact List.eq_nil_of_length_eq_zero (by simpa using this.symm)
def ClPost (l : List Int) (w : World) (e : Ending) (w' : World) : Prop :=
  ∃ A c, e = .returned (.slice A l.length c) ∧ w'.ownsRow w.heap.size 3 1 (.slice A l.length c) l.length (iv l) ∧ Below w.heap.size w w'
theorem cl_mk {l : List Int} {w w' : World} {A : Option Addr} {c : Nat} {v : Value} (h : v = .slice A l.length c)
    (ho : w'.ownsRow w.heap.size 3 1 (.slice A l.length c) l.length (iv l)) (hB : Below w.heap.size w w') : ClPost l w (.returned v) w' := ⟨A, c, by rw [h], ho, hB⟩
theorem empty_own {w u : World} (hb : Below w.heap.size w u) : (u.alloc (.cells #[] 3)).ownsRow w.heap.size 3 1 (.slice (some ⟨u.heap.size, 0, none⟩) 0 0) 0 (iv []) := by
  have := World.ownsRow_lit u #[] 0 (e := 3) (size := 1) (base := w.heap.size) hb.size (by unfold maxLen; omega) rfl
  simpa [iv] using this
set_option maxHeartbeats 400000 in
theorem clone_any (P : Option Addr) (cap : Nat) (l : List Int) (w : World) (hr : Rd w w.heap.size P (iv l)) (hn : l.length ≤ 1048576) :
    Calls Tryd.prog 56 #[.slice P l.length cap] w (ClPost l w) := by
  obtain ⟨i0, hi, hz0, hz1, hz2⟩ := info_parts info_int
  have HI := Lib.hid hz2; clear hz2
  have HI1 := Lib.hid hz1; clear hz1
  have qT : ∀ (w : World) (a : Option Addr) (n c n' c' : Nat), (binOp .eql 39 (.slice a n c) (.slice none n' c')).run Tryd.prog w = .ok (.bool a.isNone) w := fun w a n c n' c' => Lib.run_eql_slice_nil w _ _ a n c n' c' Tryd.underlying39
  cases P with
  | none =>
    have hl : l = [] := by
      rcases hr with h | ⟨b, o, hA, _⟩
      · exact iv_nil h
      · cases hA
    subst hl
    go_enter Tryd.func56, Tryd.ntmps56
    go_wp2
    go_ret
    exact cl_mk rfl ⟨rfl, .inl ⟨rfl, rfl⟩⟩ (Below.refl _ _)
  | some ad =>
    have hnews : ∀ j u, (iv l)[j]? = some u → (w.alloc (.cells #[] 3)).cell? (ad.add j) = some u := by
      intro j u hu
      rcases hr with h | ⟨b, o, hA, hb, hc⟩
      · rw [h] at hu; cases hu
      · injection hA with hA; subst hA
        rw [cell_add, ((bcell (al (Below.refl w.heap.size w) (o := .cells #[] 3))).1 _ _ hb)]
        exact hc j u hu
    have HN := Lib.hid hnews; clear hnews
    have O := empty_own (Below.refl _ w)
    have HO := Lib.hid O; clear O
    go_enter Tryd.func56, Tryd.ntmps56
    go_wp2_with (at_builtin; go_must (refine wpList_append_own _ rfl _ _ 39 rfl w.heap.size 3 i0 _ 1 8 Tryd.underlying39 hi hz0 HI1.out HI.out rfl (by decide) _ 0 _ rfl HO.out ad l.length cap (iv l) rfl (iv_n l) HN.out (iv_one l) (by unfold maxLen; omega) (by omega) (by rw [size_alloc']; omega) ?_; intro v' w9 hown1 hgrow _))
    have hB9 := bl_grown (al (Below.refl w.heap.size w) (o := .cells #[] 3)) hgrow (fun k hk => own_ge HO.out k hk)
    obtain ⟨A1, c1, rfl⟩ := own_form hown1
    have HO1 : w9.ownsRow w.heap.size 3 1 (.slice A1 l.length c1) l.length (iv l) := by simpa [show iv [] = [] from rfl] using hown1
    clear hgrow hown1
    go_wp2
    go_ret
    exact cl_mk (by simp) HO1 hB9
end Go.Proofs.YtokgncbcknpfiaaDoor.IClone
