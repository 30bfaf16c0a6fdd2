/- The program's functions on brines: water to lose, to add, stronger. -/
import Derived.Test.YtbbnbkdglihhhaaIBrine
namespace Go.Proofs.Ytbbnbkdglihhhaa.IBrine2
open Go.RowKit Go.Proofs.Ytbbnbkdglihhhaa.Mem Go.Proofs.Ytbbnbkdglihhhaa.Base Go.Proofs.Ytbbnbkdglihhhaa.Brine Go.Proofs.Ytbbnbkdglihhhaa.Brine2 Go.Proofs.Ytbbnbkdglihhhaa.Regn Go.Proofs.Ytbbnbkdglihhhaa.Boxes Go.Proofs.Ytbbnbkdglihhhaa.IBrine Go.Proofs.Ytbbnbkdglihhhaa.Brine4 Go.Proofs.Ytbbnbkdglihhhaa.Brine5
set_option linter.unusedVariables false
set_option maxRecDepth 100000
theorem okR_eq (n d : Int) : (inB d 1 1000 && inB n 1 d) = okR n d := by
  unfold okR inB; rw [Bool.eq_iff_iff]; simp; omega
theorem rate_impl (n d : Int) (w : World) : Calls Try.prog 67 #[.int .i64 n, .int .i64 d] w fun e w' => e = .returned (.bool (okR n d)) ∧ w = w' := by
  cases h1 : inB d 1 1000
  all_goals
    have H := Lib.hid (okR_eq n d)
    go_enter Try.func67, Try.ntmps67
    go_wp2_with (go_at_call 88; refine (within_any _ _ _ _).mono ?_; rintro e w' ⟨rfl, rfl⟩)
    go_ret
    exact ⟨by rw [← H.out, h1]; rfl, rfl⟩
theorem lose_eq {a b n d : Int} (hn : 1 ≤ n) : max (a - b * (d - n) / n) 0 = loseI a b n d := by
  have e : b * (d - n) / n = b * d / n - b := by
    rw [Int.mul_sub, Int.sub_mul_ediv_right _ _ (by omega)]
  unfold loseI most
  rw [e]
  have : a + b - b * d / n = a - (b * d / n - b) := by omega
  rw [this]
  rw [Int.max_def]
  split <;> split <;> omega
theorem lose_impl (a b n d : Int) (w : World) : Calls Try.prog 18 #[.agg #[.int .i64 a, .int .i64 b], .int .i64 n, .int .i64 d] w (RPost (loseV a b n d) w) := by
  go_enter Try.func18, Try.ntmps18
  go_wp2_with fail
  have B := Box.new (Below.refl _ w) [.int .i64 a, .int .i64 b] 25 (g := w.heap.size) rfl
  generalize (w.alloc (.cells #[.int .i64 a, .int .i64 b] 25)) = W1 at B ⊢
  have B_0 := B.cells 0 _ rfl
  have B_1 := B.cells 1 _ rfl
  have B_f0 := B.free 0 (by simp)
  have B_f1 := B.free 1 (by simp)
  have B_t := B.there
  go_wp2_with fail
  refine (brine_impl a b _).mono ?_
  rintro e v2 ⟨rfl, hv2⟩
  clear B_0 B_1 B_f0 B_f1 B_t
  replace B := B.more hv2
  have zhv2 := hv2.size
  clear hv2
  have B_0 := B.cells 0 _ rfl
  have B_1 := B.cells 1 _ rfl
  have B_f0 := B.free 0 (by simp)
  have B_f1 := B.free 1 (by simp)
  have B_t := B.there
  cases hok : okB a b
  · go_wp2
    go_ret2
    exact rpost (lose_no (by unfold loseOk; rw [hok]; rfl)).out.symm B.below
  obtain ⟨ha, ha1, hb, hb1⟩ := okB_true hok
  by_cases h0 : b = 0
  · subst h0
    go_wp2
    go_ret2
    exact rpost (lose_no (by unfold loseOk; simp)).out.symm B.below
  have hz : (b == 0) = false := by rw [beq_eq_false_iff_ne]; exact h0
  go_wp2_with fail
  refine (rate_impl n d _).mono ?_
  rintro e _ ⟨rfl, rfl⟩
  cases hr : okR n d
  · go_wp2
    go_ret2
    exact rpost (lose_no (by unfold loseOk; rw [hr]; simp)).out.symm B.below
  obtain ⟨hn, hnd, hd⟩ := okR_true hr
  have H := lose_yes (a := a) (b := b) (n := n) (d := d) (by unfold loseOk; rw [hr, hok]; simp [h0])
  have HE := Lib.hid (lose_eq (a := a) (b := b) (d := d) hn)
  have m1 : 0 ≤ b * (d - n) := Int.mul_nonneg hb (by omega)
  have m2 : b * (d - n) ≤ 1000000 * 1000 := Int.mul_le_mul hb1 (by omega) (by omega) (by omega)
  have m3 : IntKind.i64.wrap (b * (d - n)) = b * (d - n) := IntWalk.i64_in _ (by omega)
  have m4 : (b * (d - n)).tdiv n = b * (d - n) / n := Int.tdiv_eq_ediv_of_nonneg m1
  have m5 : 0 ≤ b * (d - n) / n := Int.ediv_nonneg m1 (by omega)
  have m6 : b * (d - n) / n ≤ b * (d - n) := Int.ediv_le_self _ m1
  have m7 : IntKind.i64.wrap (b * (d - n) / n) = b * (d - n) / n := IntWalk.i64_in _ (by omega)
  have m8 : ¬ (n = 0) := by omega
  have m9 : IntKind.i64.wrap (a - b * (d - n) / n) = a - b * (d - n) / n := IntWalk.i64_in _ (by omega)
  clear m1 m2 m5 m6
  go_wp2
  · go_ret2
    exact rpost (by rw [H.out, ← HE.out, Int.max_eq_right (by omega)] <;> rfl) B.below
  · go_ret2
    exact rpost (by rw [H.out, ← HE.out, Int.max_eq_left (by omega)] <;> rfl) B.below
theorem up_impl (m n : Int) (h0 : 0 ≤ m) (h1 : m ≤ 2000000000) (hn : 1 ≤ n) (hn1 : n ≤ 1000) (w : World) : Calls Try.prog 75 #[.int .i64 m, .int .i64 n] w fun e w' => e = .returned (.int .i64 ((m + n - 1) / n)) ∧ w = w' := by
  have m4 : (m + n - 1).tdiv n = (m + n - 1) / n := Int.tdiv_eq_ediv_of_nonneg (by omega)
  have m5 : 0 ≤ (m + n - 1) / n := Int.ediv_nonneg (by omega) (by omega)
  have m6 : (m + n - 1) / n ≤ m + n - 1 := Int.ediv_le_self _ (by omega)
  have m7 : IntKind.i64.wrap ((m + n - 1) / n) = (m + n - 1) / n := IntWalk.i64_in _ (by omega)
  have m8 : ¬ (n = 0) := by omega
  clear m5 m6
  go_enter Try.func75, Try.ntmps75
  go_wp2
  go_ret
  exact ⟨rfl, rfl⟩
theorem add_eq {b n d : Int} (hn : 1 ≤ n) : (b * (d - n) + n - 1) / n = (b * d + n - 1) / n - b := by
  have e : b * (d - n) + n - 1 = b * d + n - 1 - b * n := by rw [Int.mul_sub]; omega
  rw [e, Int.sub_mul_ediv_right _ _ (by omega)]
theorem add_impl (a b n d : Int) (w : World) : Calls Try.prog 22 #[.agg #[.int .i64 a, .int .i64 b], .int .i64 n, .int .i64 d] w (RPost (addV a b n d) w) := by
  go_enter Try.func22, Try.ntmps22
  go_wp2_with fail
  have B := (Box.new (Below.refl _ w) [.int .i64 a, .int .i64 b] 25 (g := w.heap.size) rfl).alloc (.cells #[.int .i64 a, .int .i64 b] 25)
  have S := Box.new (al (Below.refl _ w) (o := (.cells #[.int .i64 a, .int .i64 b] 25))) [.int .i64 a, .int .i64 b] 25 (g := w.heap.size + 1) (by simp only [size_alloc'])
  generalize ((w.alloc (.cells #[.int .i64 a, .int .i64 b] 25)).alloc (.cells #[.int .i64 a, .int .i64 b] 25)) = W1 at B S ⊢
  have B_0 := B.cells 0 _ rfl
  have B_1 := B.cells 1 _ rfl
  have B_f0 := B.free 0 (by simp)
  have B_f1 := B.free 1 (by simp)
  have B_t := B.there
  have S_0 := S.cells 0 _ rfl
  have S_1 := S.cells 1 _ rfl
  have S_f0 := S.free 0 (by simp)
  have S_f1 := S.free 1 (by simp)
  have S_t := S.there
  go_wp2_with fail
  refine (have_any _ _ [⟨a, b⟩] _ S.rd (by simp)).mono ?_
  rintro e v2 ⟨rfl, hv2⟩
  clear B_0 B_1 B_f0 B_f1 B_t
  clear S_0 S_1 S_f0 S_f1 S_t
  replace B := B.more hv2
  replace S := S.more hv2
  have zhv2 := hv2.size
  clear hv2
  have B_0 := B.cells 0 _ rfl
  have B_1 := B.cells 1 _ rfl
  have B_f0 := B.free 0 (by simp)
  have B_f1 := B.free 1 (by simp)
  have B_t := B.there
  have S_0 := S.cells 0 _ rfl
  have S_1 := S.cells 1 _ rfl
  have S_f0 := S.free 0 (by simp)
  have S_f1 := S.free 1 (by simp)
  have S_t := S.there
  rw [all1]
  cases hm : okM ⟨a, b⟩
  · go_wp2
    go_ret2
    exact rpost (add_no (by unfold addOk; cases h1 : okB a b; rfl; rw [okM_false hm h1]; simp)).out.symm B.below
  obtain ⟨hok, h0⟩ := okM_true hm
  obtain ⟨ha, ha1, hb, hb1⟩ := okB_true hok
  go_wp2_with fail
  refine (rate_impl n d _).mono ?_
  rintro e _ ⟨rfl, rfl⟩
  cases hr : okR n d
  · go_wp2
    go_ret2
    exact rpost (add_no (by unfold addOk; rw [hr]; simp)).out.symm B.below
  obtain ⟨hn, hnd, hd⟩ := okR_true hr
  have m1 : 0 ≤ b * (d - n) := Int.mul_nonneg hb (by omega)
  have m2 : b * (d - n) ≤ 1000000 * 1000 := Int.mul_le_mul hb1 (by omega) (by omega) (by omega)
  have m3 : IntKind.i64.wrap (b * (d - n)) = b * (d - n) := IntWalk.i64_in _ (by omega)
  have mc : addI a b n d = most 0 ((b * (d - n) + n - 1) / n - a) := by unfold addI; rw [add_eq hn]; congr 1; omega
  have m5 : 0 ≤ (b * (d - n) + n - 1) / n := Int.ediv_nonneg (by omega) (by omega)
  have m6 : (b * (d - n) + n - 1) / n ≤ b * (d - n) + n - 1 := Int.ediv_le_self _ (by omega)
  go_wp2_with fail
  refine (up_impl _ _ m1 (by omega) hn (by omega) _).mono ?_
  rintro e _ ⟨rfl, rfl⟩
  have m9 : (b * (d - n) + n - 1) / n ≤ 2000000000 := by omega
  generalize (b * (d - n) + n - 1) / n = z at *
  clear m1 m2 m3 m6
  have MC := Lib.hid mc; clear mc
  by_cases hz : 1000000 < z
  · go_wp2
    go_ret2
    exact rpost (add_no (by unfold addOk; rw [MC.out, hr, hok]; unfold most; simp; split <;> omega)).out.symm B.below
  · have H := add_yes (a := a) (b := b) (n := n) (d := d) (by unfold addOk; rw [MC.out, hr, hok]; unfold most; simp [h0]; split <;> omega)
    go_wp2
    · go_ret2
      exact rpost (by rw [H.out, MC.out, most, if_pos (by omega)] <;> rfl) B.below
    · go_ret2
      exact rpost (by rw [H.out, MC.out, most, if_neg (by omega)] <;> rfl) B.below
theorem stronger_eq (a b c d : Int) : (d * (a + b) < b * (c + d)) ↔ (b * c > d * a) := by
  rw [Int.mul_add, Int.mul_add, Int.mul_comm d b]; omega
theorem strong_impl (a b c d : Int) (w : World) : Calls Try.prog 25 #[.agg #[.int .i64 a, .int .i64 b], .agg #[.int .i64 c, .int .i64 d]] w (RPost (strongV a b c d) w) := by
  go_enter Try.func25, Try.ntmps25
  go_wp2_with fail
  have B := ((Box.new (Below.refl _ w) [.int .i64 a, .int .i64 b] 25 (g := w.heap.size) rfl).alloc (.cells #[.int .i64 c, .int .i64 d] 25)).alloc (.cells #[.int .i64 a, .int .i64 b, .int .i64 c, .int .i64 d] 25)
  have C := (Box.new (al (Below.refl _ w) (o := (.cells #[.int .i64 a, .int .i64 b] 25))) [.int .i64 c, .int .i64 d] 25 (g := w.heap.size + 1) (by simp only [size_alloc'])).alloc (.cells #[.int .i64 a, .int .i64 b, .int .i64 c, .int .i64 d] 25)
  have S := Box.new (al (al (Below.refl _ w) (o := (.cells #[.int .i64 a, .int .i64 b] 25))) (o := (.cells #[.int .i64 c, .int .i64 d] 25))) [.int .i64 a, .int .i64 b, .int .i64 c, .int .i64 d] 25 (g := w.heap.size + 1 + 1) (by simp only [size_alloc'])
  generalize (((w.alloc (.cells #[.int .i64 a, .int .i64 b] 25)).alloc (.cells #[.int .i64 c, .int .i64 d] 25)).alloc (.cells #[.int .i64 a, .int .i64 b, .int .i64 c, .int .i64 d] 25)) = W1 at B C S ⊢
  have B_0 := B.cells 0 _ rfl
  have B_1 := B.cells 1 _ rfl
  have B_f0 := B.free 0 (by simp)
  have B_f1 := B.free 1 (by simp)
  have B_t := B.there
  have C_0 := C.cells 0 _ rfl
  have C_1 := C.cells 1 _ rfl
  have C_f0 := C.free 0 (by simp)
  have C_f1 := C.free 1 (by simp)
  have C_t := C.there
  have S_0 := S.cells 0 _ rfl
  have S_1 := S.cells 1 _ rfl
  have S_2 := S.cells 2 _ rfl
  have S_3 := S.cells 3 _ rfl
  have S_f0 := S.free 0 (by simp)
  have S_f1 := S.free 1 (by simp)
  have S_f2 := S.free 2 (by simp)
  have S_f3 := S.free 3 (by simp)
  have S_t := S.there
  go_wp2_with fail
  refine (have_any _ _ [⟨a, b⟩, ⟨c, d⟩] _ S.rd (by simp)).mono ?_
  rintro e v2 ⟨rfl, hv2⟩
  clear B_0 B_1 B_f0 B_f1 B_t
  clear C_0 C_1 C_f0 C_f1 C_t
  clear S_0 S_1 S_2 S_3 S_f0 S_f1 S_f2 S_f3 S_t
  replace B := B.more hv2
  replace C := C.more hv2
  replace S := S.more hv2
  have zhv2 := hv2.size
  clear hv2
  have B_0 := B.cells 0 _ rfl
  have B_1 := B.cells 1 _ rfl
  have B_f0 := B.free 0 (by simp)
  have B_f1 := B.free 1 (by simp)
  have B_t := B.there
  have C_0 := C.cells 0 _ rfl
  have C_1 := C.cells 1 _ rfl
  have C_f0 := C.free 0 (by simp)
  have C_f1 := C.free 1 (by simp)
  have C_t := C.there
  have S_0 := S.cells 0 _ rfl
  have S_1 := S.cells 1 _ rfl
  have S_2 := S.cells 2 _ rfl
  have S_3 := S.cells 3 _ rfl
  have S_f0 := S.free 0 (by simp)
  have S_f1 := S.free 1 (by simp)
  have S_f2 := S.free 2 (by simp)
  have S_f3 := S.free 3 (by simp)
  have S_t := S.there
  rw [all2]
  have hv : (okM ⟨a, b⟩ && okM ⟨c, d⟩) = strongOk a b c d := by
    unfold strongOk okM; rw [Bool.eq_iff_iff]; simp; constructor <;> (intro h; simp [h])
  rw [hv]
  cases hm : strongOk a b c d
  · go_wp2
    go_ret2
    exact rpost (strong_no hm).out.symm B.below
  have hx : okB a b = true ∧ okB c d = true := by unfold strongOk at hm; simp at hm; exact ⟨hm.1, hm.2.1⟩
  obtain ⟨ha, ha1, hb, hb1⟩ := okB_true hx.1
  obtain ⟨hc, hc1, hd, hd1⟩ := okB_true hx.2
  have H := strong_yes hm
  have HE := Lib.hid (stronger_eq a b c d)
  have m1 : 0 ≤ b * (c + d) := Int.mul_nonneg hb (by omega)
  have m2 : b * (c + d) ≤ 1000000 * 2000000 := Int.mul_le_mul hb1 (by omega) (by omega) (by omega)
  have m3 : IntKind.i64.wrap (b * (c + d)) = b * (c + d) := IntWalk.i64_in _ (by omega)
  have m4 : 0 ≤ d * (a + b) := Int.mul_nonneg hd (by omega)
  have m5 : d * (a + b) ≤ 1000000 * 2000000 := Int.mul_le_mul hd1 (by omega) (by omega) (by omega)
  have m6 : IntKind.i64.wrap (d * (a + b)) = d * (a + b) := IntWalk.i64_in _ (by omega)
  clear m1 m2 m4 m5 hv
  clear S_0 S_1 S_2 S_3 S_f0 S_f1 S_f2 S_f3 S_t
  go_wp2
  refine wp_region_text (fun w' => Box (w.heap.size) [.int .i64 a, .int .i64 b] w w' ∧ Box (w.heap.size + 1) [.int .i64 c, .int .i64 d] w w') (by kernel_rfl) (by kernel_rfl) ⟨B.drew, C.drew⟩ ?_
  clear B_0 B_1 B_f0 B_f1 B_t
  clear C_0 C_1 C_f0 C_f1 C_t
  iterate 13 (
    apply SeqH.one
    · intro uw K hS hK
      obtain ⟨qB, qC⟩ := hS
      have qB_0 := qB.cells 0 _ rfl
      have qB_1 := qB.cells 1 _ rfl
      have qC_0 := qC.cells 0 _ rfl
      have qC_1 := qC.cells 1 _ rfl
      first
        | (go_simp; exact hK.out _ ⟨qB, qC⟩)
        | (go_simp; go_at_call 74; (with_reducible refine (mass_impl c d hc hc1 hd hd1 _).mono ?_); rintro e uw1 ⟨rfl, hv⟩; go_wp2_with fail; exact hK.out _ ⟨qB.more hv, qC.more hv⟩)
        | (go_simp; go_at_call 74; (with_reducible refine (mass_impl a b ha ha1 hb hb1 _).mono ?_); rintro e uw1 ⟨rfl, hv⟩; go_wp2_with fail; exact hK.out _ ⟨qB.more hv, qC.more hv⟩)
    try simp only [Act.put, List.setIfInBounds_toArray, List.set_cons_zero, List.set_cons_succ])
  refine SeqH.end' rfl ?_
  intro v3 hS
  clear B C
  obtain ⟨B, C⟩ := hS
  have B_0 := B.cells 0 _ rfl
  have B_1 := B.cells 1 _ rfl
  have B_f0 := B.free 0 (by simp)
  have B_f1 := B.free 1 (by simp)
  have B_t := B.there
  have C_0 := C.cells 0 _ rfl
  have C_1 := C.cells 1 _ rfl
  have C_f0 := C.free 0 (by simp)
  have C_f1 := C.free 1 (by simp)
  have C_t := C.there
  go_wp2
  go_ret2
  exact rpost (by rw [H.out, decide_eq_decide.2 HE.out.symm] <;> rfl) B.below
end Go.Proofs.Ytbbnbkdglihhhaa.IBrine2
