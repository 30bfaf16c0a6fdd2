/- Suns: what evaporates on a day: l6Loss and lossAt. -/
import Derived.Test.YtpbmncecejchjaaSunA
import Derived.Test.YtpbmncecejchjaaSunL
import Derived.Test.YtpbmncecejchjaaIBrine2
namespace Go.Proofs.Ytpbmncecejchjaa.SunE
open Go.RowKit Go.Proofs.Ytpbmncecejchjaa.Mem Go.Proofs.Ytpbmncecejchjaa.Base Go.Proofs.Ytpbmncecejchjaa.Within Go.Proofs.Ytpbmncecejchjaa.Brine Go.Proofs.Ytpbmncecejchjaa.Brine2 Go.Proofs.Ytpbmncecejchjaa.Regn Go.Proofs.Ytpbmncecejchjaa.Boxes Go.Proofs.Ytpbmncecejchjaa.Keep Go.Proofs.Ytpbmncecejchjaa.Sun Go.Proofs.Ytpbmncecejchjaa.SunA
set_option linter.unusedVariables false
set_option maxRecDepth 100000
/-- the numbers of a loss fit. -/
theorem loss_nums {p q r a : Int} (hp : 0 < p) (hp1 : p ≤ 1000000) (hq : 0 ≤ q) (hq1 : q ≤ 1000000) (hr : 0 ≤ r) (hr1 : r ≤ 20000) (ha : 1 ≤ a) (ha1 : a ≤ 100000) :
    IntKind.i64.wrap (r * a) = r * a ∧ (r * a).tdiv 1000 = fresh r a ∧ IntKind.i64.wrap (fresh r a) = fresh r a ∧ IntKind.i64.wrap (fresh r a * p) = fresh r a * p ∧ (fresh r a * p).tdiv (p + q) = fresh r a * p / (p + q) ∧
    IntKind.i64.wrap (fresh r a * p / (p + q)) = fresh r a * p / (p + q) ∧ ¬ (p + q = 0) := by
  obtain ⟨b0, b1, b2, b3⟩ := fresh_bd hr hr1 (show 0 ≤ a by omega) ha1
  have m0 : 0 ≤ fresh r a * p := Int.mul_nonneg b2 (by omega)
  have m1 : fresh r a * p ≤ 2000000 * 1000000 := Int.mul_le_mul b3 hp1 (by omega) (by omega)
  have m2 : 0 ≤ fresh r a * p / (p + q) := Int.ediv_nonneg m0 (by omega)
  have m3 : fresh r a * p / (p + q) ≤ fresh r a * p := Int.ediv_le_self _ m0
  exact ⟨IntWalk.i64_in _ (by omega), Int.tdiv_eq_ediv_of_nonneg b0, IntWalk.i64_in _ (by omega), IntWalk.i64_in _ (by omega), Int.tdiv_eq_ediv_of_nonneg m0, IntWalk.i64_in _ (by omega), by omega⟩
theorem loss_spec (p q a r : Int) (hp : 0 ≤ p) (hp1 : p ≤ 1000000) (hq : 0 ≤ q) (hq1 : q ≤ 1000000) (hr : 0 ≤ r) (hr1 : r ≤ 20000) (ha : 1 ≤ a) (ha1 : a ≤ 100000) (w : World) :
    Calls Try.prog 94 #[.agg #[.int .i64 p, .int .i64 q], .int .i64 a, .int .i64 r] w (RPost (.int .i64 (loss p q r a)) w) := by
  by_cases h0 : p = 0
  · subst h0
    have H := Lib.hid (show loss 0 q r a = 0 by unfold loss lossF; rw [if_pos rfl])
    go_enter Try.func94, Try.ntmps94
    go_wp2_with fail
    have B := Box.new (Below.refl _ w) [.int .i64 0, .int .i64 q] 26 (g := w.heap.size) rfl
    generalize (w.alloc (.cells #[.int .i64 0, .int .i64 q] 26)) = W1 at B ⊢
    have B_0 := B.cells 0 _ rfl
    have B_1 := B.cells 1 _ rfl
    have B_f0 := B.free 0 (by simp)
    have B_f1 := B.free 1 (by simp)
    have B_t := B.there
    go_wp2
    go_ret
    exact rpost (by rw [H.out] <;> rfl) B.below
  · have hz : (p == 0) = false := by rw [beq_eq_false_iff_ne]; exact h0
    obtain ⟨y0, y1, y2, y3, y4, y5, y6⟩ := loss_nums (p := p) (q := q) (r := r) (a := a) (by omega) hp1 hq hq1 hr hr1 ha ha1
    have H := Lib.hid (show loss p q r a = least p (fresh r a * p / (p + q)) by unfold loss lossF; rw [if_neg h0])
    clear h0
    go_enter Try.func94, Try.ntmps94
    go_wp2_with fail
    have B := Box.new (Below.refl _ w) [.int .i64 p, .int .i64 q] 26 (g := w.heap.size) rfl
    generalize (w.alloc (.cells #[.int .i64 p, .int .i64 q] 26)) = W1 at B ⊢
    have B_0 := B.cells 0 _ rfl
    have B_1 := B.cells 1 _ rfl
    have B_f0 := B.free 0 (by simp)
    have B_f1 := B.free 1 (by simp)
    have B_t := B.there
    go_wp2_with fail
    refine wp_region_text (fun w' => Box (w.heap.size) [.int .i64 p, .int .i64 q] w w') (by kernel_rfl) (by kernel_rfl) (B.drew) ?_
    clear B_0 B_1 B_f0 B_f1 B_t
    iterate 14 (
      apply SeqH.one
      · intro uw K hS hK
        have qB := hS
        have qB_0 := qB.cells 0 _ rfl
        have qB_1 := qB.cells 1 _ rfl
        first
          | (go_simp; exact hK.out _ qB)
          | (go_simp; go_at_call 137; (with_reducible refine (mass_spec p q hp hp1 hq hq1 _).mono ?_); rintro e uw1 ⟨rfl, hv⟩; go_wp2_with fail; exact hK.out _ (qB.more hv))
          | (go_simp; go_at_call 86; (with_reducible refine (least_any _ _ _).mono ?_); rintro e _ ⟨rfl, rfl⟩; go_wp2_with fail; exact hK.out _ qB)
      try simp only [Act.put, List.setIfInBounds_toArray, List.set_cons_zero, List.set_cons_succ])
    refine SeqH.end' rfl ?_
    intro v2 hS
    clear B
    have B := hS; clear hS
    have B_0 := B.cells 0 _ rfl
    have B_1 := B.cells 1 _ rfl
    have B_f0 := B.free 0 (by simp)
    have B_f1 := B.free 1 (by simp)
    have B_t := B.there
    go_wp2
    go_ret
    exact rpost (by rw [H.out] <;> rfl) B.below
theorem loss_impl (p q a r : Int) (hp : 0 ≤ p) (hp1 : p ≤ 1000000) (hq : 0 ≤ q) (hq1 : q ≤ 1000000) (hr : 0 ≤ r) (hr1 : r ≤ 20000) (ha : 1 ≤ a) (ha1 : a ≤ 100000) (w : World) :
    Calls Try.prog 89 #[.int .i64 r, .agg #[.int .i64 p, .int .i64 q], .int .i64 a] w (RPost (.int .i64 (loss p q r a)) w) := by
  by_cases h0 : p = 0
  · subst h0
    have H := Lib.hid (show loss 0 q r a = 0 by unfold loss lossF; rw [if_pos rfl])
    go_enter Try.func89, Try.ntmps89
    go_wp2_with fail
    have B := Box.new (Below.refl _ w) [.int .i64 0, .int .i64 q] 26 (g := w.heap.size) rfl
    generalize (w.alloc (.cells #[.int .i64 0, .int .i64 q] 26)) = W1 at B ⊢
    have B_0 := B.cells 0 _ rfl
    have B_1 := B.cells 1 _ rfl
    have B_f0 := B.free 0 (by simp)
    have B_f1 := B.free 1 (by simp)
    have B_t := B.there
    go_wp2
    go_ret
    exact rpost (by rw [H.out] <;> rfl) B.below
  · have hz : (p == 0) = false := by rw [beq_eq_false_iff_ne]; exact h0
    obtain ⟨y0, y1, y2, y3, y4, y5, y6⟩ := loss_nums (p := p) (q := q) (r := r) (a := a) (by omega) hp1 hq hq1 hr hr1 ha ha1
    have H := Lib.hid (show loss p q r a = least p (fresh r a * p / (p + q)) by unfold loss lossF; rw [if_neg h0])
    clear h0
    go_enter Try.func89, Try.ntmps89
    go_wp2_with fail
    have B := Box.new (Below.refl _ w) [.int .i64 p, .int .i64 q] 26 (g := w.heap.size) rfl
    generalize (w.alloc (.cells #[.int .i64 p, .int .i64 q] 26)) = W1 at B ⊢
    have B_0 := B.cells 0 _ rfl
    have B_1 := B.cells 1 _ rfl
    have B_f0 := B.free 0 (by simp)
    have B_f1 := B.free 1 (by simp)
    have B_t := B.there
    go_wp2_with fail
    refine wp_region_text (fun w' => Box (w.heap.size) [.int .i64 p, .int .i64 q] w w') (by kernel_rfl) (by kernel_rfl) (B.drew) ?_
    clear B_0 B_1 B_f0 B_f1 B_t
    iterate 11 (
      apply SeqH.one
      · intro uw K hS hK
        have qB := hS
        have qB_0 := qB.cells 0 _ rfl
        have qB_1 := qB.cells 1 _ rfl
        first
          | (go_simp; exact hK.out _ qB)
          | (go_simp; go_at_call 136; (with_reducible refine (IBrine.mass_impl p q hp hp1 hq hq1 _).mono ?_); rintro e uw1 ⟨rfl, hv⟩; go_wp2_with fail; exact hK.out _ (qB.more hv))
      try simp only [Act.put, List.setIfInBounds_toArray, List.set_cons_zero, List.set_cons_succ])
    refine SeqH.end' rfl ?_
    intro v2 hS
    clear B
    have B := hS; clear hS
    have B_0 := B.cells 0 _ rfl
    have B_1 := B.cells 1 _ rfl
    have B_f0 := B.free 0 (by simp)
    have B_f1 := B.free 1 (by simp)
    have B_t := B.there
    go_wp2
    · go_ret
      exact rpost (by rw [H.out, show least p (fresh r a * p / (p + q)) = p by unfold least; split <;> omega] <;> rfl) B.below
    · go_ret
      exact rpost (by rw [H.out, show least p (fresh r a * p / (p + q)) = fresh r a * p / (p + q) by unfold least; split <;> omega] <;> rfl) B.below
end Go.Proofs.Ytpbmncecejchjaa.SunE
