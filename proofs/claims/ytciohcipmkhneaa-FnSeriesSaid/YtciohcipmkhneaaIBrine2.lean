/- The program's functions on brines: water to lose, to add, stronger. -/
import Derived.Test.YtciohcipmkhneaaIBrine
namespace Go.Proofs.Ytciohcipmkhneaa.IBrine2
open Go.RowKit Go.Proofs.Ytciohcipmkhneaa.Mem Go.Proofs.Ytciohcipmkhneaa.Base Go.Proofs.Ytciohcipmkhneaa.Brine Go.Proofs.Ytciohcipmkhneaa.Brine2 Go.Proofs.Ytciohcipmkhneaa.Regn Go.Proofs.Ytciohcipmkhneaa.Boxes Go.Proofs.Ytciohcipmkhneaa.IBrine Go.Proofs.Ytciohcipmkhneaa.Brine4 Go.Proofs.Ytciohcipmkhneaa.Brine5
set_option linter.unusedVariables false
set_option maxRecDepth 100000
theorem stronger_eq (a b c d : Int) : (d * (a + b) < b * (c + d)) ↔ (b * c > d * a) := by
  rw [Int.mul_add, Int.mul_add, Int.mul_comm d b]; omega
theorem strong_impl (a b c d : Int) (w : World) : Calls Try.prog 41 #[.agg #[.int .i64 a, .int .i64 b], .agg #[.int .i64 c, .int .i64 d]] w (RPost (strongV a b c d) w) := by
  go_enter Try.func41, Try.ntmps41
  go_wp2_with fail
  have B := ((Box.new (Below.refl _ w) [.int .i64 a, .int .i64 b] 26 (g := w.heap.size) rfl).alloc (.cells #[.int .i64 c, .int .i64 d] 26)).alloc (.cells #[.int .i64 a, .int .i64 b, .int .i64 c, .int .i64 d] 26)
  have C := (Box.new (al (Below.refl _ w) (o := (.cells #[.int .i64 a, .int .i64 b] 26))) [.int .i64 c, .int .i64 d] 26 (g := w.heap.size + 1) (by simp only [size_alloc'])).alloc (.cells #[.int .i64 a, .int .i64 b, .int .i64 c, .int .i64 d] 26)
  have S := Box.new (al (al (Below.refl _ w) (o := (.cells #[.int .i64 a, .int .i64 b] 26))) (o := (.cells #[.int .i64 c, .int .i64 d] 26))) [.int .i64 a, .int .i64 b, .int .i64 c, .int .i64 d] 26 (g := w.heap.size + 1 + 1) (by simp only [size_alloc'])
  generalize (((w.alloc (.cells #[.int .i64 a, .int .i64 b] 26)).alloc (.cells #[.int .i64 c, .int .i64 d] 26)).alloc (.cells #[.int .i64 a, .int .i64 b, .int .i64 c, .int .i64 d] 26)) = W1 at B C S ⊢
  have B_0 := B.cells 0 _ rfl
  have B_1 := B.cells 1 _ rfl
  have B_f0 := B.free 0 (by simp)
  have B_f1 := B.free 1 (by simp)
  have B_t := B.there
  have C_0 := C.cells 0 _ rfl
  have C_1 := C.cells 1 _ rfl
  have C_f0 := C.free 0 (by simp)
  have C_f1 := C.free 1 (by simp)
  have C_t := C.there
  have S_0 := S.cells 0 _ rfl
  have S_1 := S.cells 1 _ rfl
  have S_2 := S.cells 2 _ rfl
  have S_3 := S.cells 3 _ rfl
  have S_f0 := S.free 0 (by simp)
  have S_f1 := S.free 1 (by simp)
  have S_f2 := S.free 2 (by simp)
  have S_f3 := S.free 3 (by simp)
  have S_t := S.there
  go_wp2_with fail
  refine (have_any _ _ [⟨a, b⟩, ⟨c, d⟩] _ S.rd (by simp)).mono ?_
  rintro e v2 ⟨rfl, hv2⟩
  clear B_0 B_1 B_f0 B_f1 B_t
  clear C_0 C_1 C_f0 C_f1 C_t
  clear S_0 S_1 S_2 S_3 S_f0 S_f1 S_f2 S_f3 S_t
  replace B := B.more hv2
  replace C := C.more hv2
  replace S := S.more hv2
  have zhv2 := hv2.size
  clear hv2
  have B_0 := B.cells 0 _ rfl
  have B_1 := B.cells 1 _ rfl
  have B_f0 := B.free 0 (by simp)
  have B_f1 := B.free 1 (by simp)
  have B_t := B.there
  have C_0 := C.cells 0 _ rfl
  have C_1 := C.cells 1 _ rfl
  have C_f0 := C.free 0 (by simp)
  have C_f1 := C.free 1 (by simp)
  have C_t := C.there
  have S_0 := S.cells 0 _ rfl
  have S_1 := S.cells 1 _ rfl
  have S_2 := S.cells 2 _ rfl
  have S_3 := S.cells 3 _ rfl
  have S_f0 := S.free 0 (by simp)
  have S_f1 := S.free 1 (by simp)
  have S_f2 := S.free 2 (by simp)
  have S_f3 := S.free 3 (by simp)
  have S_t := S.there
  rw [all2]
  have hv : (okM ⟨a, b⟩ && okM ⟨c, d⟩) = strongOk a b c d := by
    unfold strongOk okM; rw [Bool.eq_iff_iff]; simp; constructor <;> (intro h; simp [h])
  rw [hv]
  cases hm : strongOk a b c d
  · go_wp2
    go_ret2
    exact rpost (strong_no hm).out.symm B.below
  have hx : okB a b = true ∧ okB c d = true := by unfold strongOk at hm; simp at hm; exact ⟨hm.1, hm.2.1⟩
  obtain ⟨ha, ha1, hb, hb1⟩ := okB_true hx.1
  obtain ⟨hc, hc1, hd, hd1⟩ := okB_true hx.2
  have H := strong_yes hm
  have HE := Lib.hid (stronger_eq a b c d)
  have m1 : 0 ≤ b * (c + d) := Int.mul_nonneg hb (by omega)
  have m2 : b * (c + d) ≤ 1000000 * 2000000 := Int.mul_le_mul hb1 (by omega) (by omega) (by omega)
  have m3 : IntKind.i64.wrap (b * (c + d)) = b * (c + d) := IntWalk.i64_in _ (by omega)
  have m4 : 0 ≤ d * (a + b) := Int.mul_nonneg hd (by omega)
  have m5 : d * (a + b) ≤ 1000000 * 2000000 := Int.mul_le_mul hd1 (by omega) (by omega) (by omega)
  have m6 : IntKind.i64.wrap (d * (a + b)) = d * (a + b) := IntWalk.i64_in _ (by omega)
  clear m1 m2 m4 m5 hv
  clear S_0 S_1 S_2 S_3 S_f0 S_f1 S_f2 S_f3 S_t
  go_wp2
  refine wp_region_text (fun w' => Box (w.heap.size) [.int .i64 a, .int .i64 b] w w' ∧ Box (w.heap.size + 1) [.int .i64 c, .int .i64 d] w w') (by kernel_rfl) (by kernel_rfl) ⟨B.drew, C.drew⟩ ?_
  clear B_0 B_1 B_f0 B_f1 B_t
  clear C_0 C_1 C_f0 C_f1 C_t
  iterate 13 (
    apply SeqH.one
    · intro uw K hS hK
      obtain ⟨qB, qC⟩ := hS
      have qB_0 := qB.cells 0 _ rfl
      have qB_1 := qB.cells 1 _ rfl
      have qC_0 := qC.cells 0 _ rfl
      have qC_1 := qC.cells 1 _ rfl
      first
        | (go_simp; exact hK.out _ ⟨qB, qC⟩)
        | (go_simp; go_at_call 98; (with_reducible refine (mass_impl c d hc hc1 hd hd1 _).mono ?_); rintro e uw1 ⟨rfl, hv⟩; go_wp2_with fail; exact hK.out _ ⟨qB.more hv, qC.more hv⟩)
        | (go_simp; go_at_call 98; (with_reducible refine (mass_impl a b ha ha1 hb hb1 _).mono ?_); rintro e uw1 ⟨rfl, hv⟩; go_wp2_with fail; exact hK.out _ ⟨qB.more hv, qC.more hv⟩)
    try simp only [Act.put, List.setIfInBounds_toArray, List.set_cons_zero, List.set_cons_succ])
  refine SeqH.end' rfl ?_
  intro v3 hS
  clear B C
  obtain ⟨B, C⟩ := hS
  have B_0 := B.cells 0 _ rfl
  have B_1 := B.cells 1 _ rfl
  have B_f0 := B.free 0 (by simp)
  have B_f1 := B.free 1 (by simp)
  have B_t := B.there
  have C_0 := C.cells 0 _ rfl
  have C_1 := C.cells 1 _ rfl
  have C_f0 := C.free 0 (by simp)
  have C_f1 := C.free 1 (by simp)
  have C_t := C.there
  go_wp2
  go_ret2
  exact rpost (by rw [H.out, decide_eq_decide.2 HE.out.symm] <;> rfl) B.below
end Go.Proofs.Ytciohcipmkhneaa.IBrine2
