/- The model's exported functions on brines: water to add, stronger. -/
import Derived.Test.YtbbnbkdglihhhaaBrine4
namespace Go.Proofs.Ytbbnbkdglihhhaa.Brine5
open Go.RowKit Go.Proofs.Ytbbnbkdglihhhaa.Mem Go.Proofs.Ytbbnbkdglihhhaa.Base Go.Proofs.Ytbbnbkdglihhhaa.Brine Go.Proofs.Ytbbnbkdglihhhaa.Brine2 Go.Proofs.Ytbbnbkdglihhhaa.Brine4
set_option linter.unusedVariables false
def addI (a b n d : Int) : Int := most 0 ((b * d + n - 1) / n - (a + b))
def addOk (a b n d : Int) : Bool := okB a b && (!(a + b == 0) && (okR n d && !decide (a + addI a b n d > 1000000)))
def addV (a b n d : Int) : Value := if addOk a b n d = true then .tuple #[.int .i64 (addI a b n d), .bool true] else .tuple #[.int .i64 0, .bool false]
theorem add_no {a b n d : Int} (h : addOk a b n d = false) : Hid (addV a b n d = .tuple #[.int .i64 0, .bool false]) := Lib.hid (by unfold addV; rw [h]; rfl)
theorem add_yes {a b n d : Int} (h : addOk a b n d = true) : Hid (addV a b n d = .tuple #[.int .i64 (addI a b n d), .bool true]) := Lib.hid (by unfold addV; rw [if_pos h])
theorem add_spec (a b n d : Int) (w : World) : Calls Try.prog 23 #[.agg #[.int .i64 a, .int .i64 b], .int .i64 n, .int .i64 d] w (RPost (addV a b n d) w) := by
  cases hok : okB a b
  · have H := add_no (a := a) (b := b) (n := n) (d := d) (by unfold addOk; rw [hok]; rfl)
    go_enter Try.func23, Try.ntmps23
    go_wp2_with fail
    refine (brine_spec a b _).mono ?_
    rintro e w1 ⟨rfl, hw1⟩
    rw [hok]
    go_wp2
    go_ret2
    exact rpost H.out.symm (be (al (Below.refl _ _)) hw1)
  · obtain ⟨ha, ha1, hb, hb1⟩ := okB_true hok
    by_cases h0 : a + b = 0
    · have H := add_no (a := a) (b := b) (n := n) (d := d) (by unfold addOk; rw [h0]; simp)
      go_enter Try.func23, Try.ntmps23
      go_wp2_with fail
      refine (brine_spec a b _).mono ?_
      rintro e w1 ⟨rfl, hw1⟩
      rw [hok]
      obtain ⟨d0, d1, _, _, _, d5⟩ := (Box2.new (.int .i64 a) (.int .i64 b) 25 w w (Below.refl _ _)).more hw1
      clear hw1
      go_wp2_with fail
      refine (mass_spec a b ha ha1 hb hb1 _).mono ?_
      rintro e w2 ⟨rfl, hw2⟩
      go_wp2
      go_ret2
      exact rpost H.out.symm (be d5 hw2)
    · cases hr : okR n d
      · have H := add_no (a := a) (b := b) (n := n) (d := d) (by unfold addOk; rw [hr]; simp)
        go_enter Try.func23, Try.ntmps23
        go_wp2_with fail
        refine (brine_spec a b _).mono ?_
        rintro e w1 ⟨rfl, hw1⟩
        rw [hok]
        obtain ⟨d0, d1, _, _, _, d5⟩ := (Box2.new (.int .i64 a) (.int .i64 b) 25 w w (Below.refl _ _)).more hw1
        clear hw1
        go_wp2_with fail
        refine (mass_spec a b ha ha1 hb hb1 _).mono ?_
        rintro e w2 ⟨rfl, hw2⟩
        go_wp2_with fail
        refine (rate_spec n d _).mono ?_
        rintro e w3 ⟨rfl, rfl⟩
        rw [hr]
        go_wp2
        go_ret2
        exact rpost H.out.symm (be d5 hw2)
      · obtain ⟨hn, hnd, hd⟩ := okR_true hr
        have m1 : 0 ≤ b * d := Int.mul_nonneg hb (by omega)
        have m2 : b * d ≤ 1000000 * 1000 := Int.mul_le_mul hb1 (by omega) (by omega) (by omega)
        have m3 : IntKind.i64.wrap (b * d) = b * d := IntWalk.i64_in _ (by omega)
        have ma : IntKind.i64.wrap (b * d + n) = b * d + n := IntWalk.i64_in _ (by omega)
        have mb : IntKind.i64.wrap (b * d + n - 1) = b * d + n - 1 := IntWalk.i64_in _ (by omega)
        have m0 : 0 ≤ b * d + n - 1 := by omega
        have m4 : (b * d + n - 1).tdiv n = (b * d + n - 1) / n := Int.tdiv_eq_ediv_of_nonneg m0
        have m5 : 0 ≤ (b * d + n - 1) / n := Int.ediv_nonneg m0 (by omega)
        have m6 : (b * d + n - 1) / n ≤ b * d + n - 1 := Int.ediv_le_self _ m0
        have m7 : IntKind.i64.wrap ((b * d + n - 1) / n) = (b * d + n - 1) / n := IntWalk.i64_in _ (by omega)
        have m8 : ¬ (n = 0) := by omega
        have m9 : IntKind.i64.wrap ((b * d + n - 1) / n - (a + b)) = (b * d + n - 1) / n - (a + b) := IntWalk.i64_in _ (by omega)
        have mc : 0 ≤ addI a b n d ∧ addI a b n d ≤ 2000000000 := by unfold addI most; split <;> omega
        have md : most 0 ((b * d + n - 1) / n - (a + b)) = addI a b n d := rfl
        obtain ⟨mc1, mc2⟩ := mc
        clear m1 m2 m5 m6 m0
        have H1 := Lib.hid (show a + addI a b n d > 1000000 → addV a b n d = .tuple #[.int .i64 0, .bool false] from fun h => (add_no (by unfold addOk; simp [h])).out)
        have H2 := Lib.hid (show ¬ (a + addI a b n d > 1000000) → addV a b n d = .tuple #[.int .i64 (addI a b n d), .bool true] from fun h => (add_yes (by unfold addOk; simp [hok, h0, hr]; omega)).out)
        generalize addI a b n d = z at mc1 mc2 md H1 H2
        go_enter Try.func23, Try.ntmps23
        go_wp2_with fail
        refine (brine_spec a b _).mono ?_
        rintro e w1 ⟨rfl, hw1⟩
        rw [hok]
        have HB := Lib.hid ((Box2.new (.int .i64 a) (.int .i64 b) 25 w w (Below.refl _ _)).more hw1)
        clear hw1
        have d0 := HB.out.1
        have d1 := HB.out.2.1
        go_wp2_with fail
        refine (mass_spec a b ha ha1 hb hb1 _).mono ?_
        rintro e w2 ⟨rfl, hw2⟩
        have HB2 := Lib.hid (HB.out.more hw2); clear HB hw2 d0 d1
        go_wp2_with fail
        refine (rate_spec n d _).mono ?_
        rintro e w3 ⟨rfl, rfl⟩
        rw [hr]
        obtain ⟨d0, d1, _, _, d4, d5⟩ := HB2.out
        go_wp2
        have HS := start2 d0 d1
        go_region_held3 (fun w' => w'.cell? ⟨w.heap.size, 0, none⟩ = some (.int .i64 a) ∧ w'.cell? ⟨w.heap.size, 1, none⟩ = some (.int .i64 b) ∧ Below w2.heap.size w2 w') (first | exact HS | assumption | exact ⟨by assumption, by assumption, by assumption⟩ | exact drew2 (by assumption) | go_keep)
          (first | (go_at_call 71; refine (mass_spec a b ha ha1 hb hb1 _).mono ?_; rintro e w3 ⟨rfl, hw3⟩; obtain ⟨k1, k2, k3⟩ := held2 d4 (by assumption) hw3) | (go_at_call 70; refine (most_any _ _ _).mono ?_; rintro e w3 ⟨rfl, rfl⟩; rw [md]))
        rename_i k1 k2 k3 _
        go_wp2
        · have hz : 1000000 < a + z := by assumption
          go_ret2
          exact rpost (H1.out hz).symm (be d5 k3)
        · have hz : a + z ≤ 1000000 := by assumption
          go_ret2
          exact rpost (H2.out (by omega)).symm (be d5 k3)
def strongOk (a b c d : Int) : Bool := okB a b && (okB c d && (!(a + b == 0) && !(c + d == 0)))
def strongV (a b c d : Int) : Value := if strongOk a b c d = true then .tuple #[.bool (decide (b * c > d * a)), .bool true] else .tuple #[.bool false, .bool false]
theorem strong_no {a b c d : Int} (h : strongOk a b c d = false) : Hid (strongV a b c d = .tuple #[.bool false, .bool false]) := Lib.hid (by unfold strongV; rw [h]; rfl)
theorem strong_yes {a b c d : Int} (h : strongOk a b c d = true) : Hid (strongV a b c d = .tuple #[.bool (decide (b * c > d * a)), .bool true]) := Lib.hid (by unfold strongV; rw [if_pos h])
theorem stronger_spec (a b c d : Int) (h1 : okB a b = true) (h2 : okB c d = true) (w : World) : Calls Try.prog 77 #[.agg #[.int .i64 a, .int .i64 b], .agg #[.int .i64 c, .int .i64 d]] w (RPost (.bool (decide (b * c > d * a))) w) := by
  obtain ⟨ha, ha1, hb, hb1⟩ := okB_true h1
  obtain ⟨hc, hc1, hd, hd1⟩ := okB_true h2
  have m1 : 0 ≤ b * c := Int.mul_nonneg hb hc
  have m2 : b * c ≤ 1000000 * 1000000 := Int.mul_le_mul hb1 (by omega) (by omega) (by omega)
  have m3 : IntKind.i64.wrap (b * c) = b * c := IntWalk.i64_in _ (by omega)
  have m4 : 0 ≤ d * a := Int.mul_nonneg hd ha
  have m5 : d * a ≤ 1000000 * 1000000 := Int.mul_le_mul hd1 (by omega) (by omega) (by omega)
  have m6 : IntKind.i64.wrap (d * a) = d * a := IntWalk.i64_in _ (by omega)
  clear m1 m2 m4 m5
  go_enter Try.func77, Try.ntmps77
  go_wp2
  go_ret
  exact rpost rfl (al (al (Below.refl _ _)))
theorem strong_spec (a b c d : Int) (w : World) : Calls Try.prog 26 #[.agg #[.int .i64 a, .int .i64 b], .agg #[.int .i64 c, .int .i64 d]] w (RPost (strongV a b c d) w) := by
  cases h1 : okB a b
  · have H := strong_no (a := a) (b := b) (c := c) (d := d) (by unfold strongOk; rw [h1]; rfl)
    go_enter Try.func26, Try.ntmps26
    go_wp2_with fail
    refine (brine_spec a b _).mono ?_
    rintro e w1 ⟨rfl, hw1⟩
    rw [h1]
    go_wp2
    go_ret2
    exact rpost H.out.symm (be (al (al (Below.refl _ _))) hw1)
  · obtain ⟨ha, ha1, hb, hb1⟩ := okB_true h1
    cases h2 : okB c d
    · have H := strong_no (a := a) (b := b) (c := c) (d := d) (by unfold strongOk; rw [h2]; simp)
      go_enter Try.func26, Try.ntmps26
      go_wp2_with fail
      refine (brine_spec a b _).mono ?_
      rintro e w1 ⟨rfl, hw1⟩
      rw [h1]
      have B2 := (Box2.new (.int .i64 c) (.int .i64 d) 25 w _ (al (Below.refl _ _))).more hw1
      rw [alloc_size] at B2
      obtain ⟨e0, e1, _, _, _, e5⟩ := B2
      clear hw1
      go_wp2_with fail
      refine (brine_spec c d _).mono ?_
      rintro e w2 ⟨rfl, hw2⟩
      rw [h2]
      go_wp2
      go_ret2
      exact rpost H.out.symm (be e5 hw2)
    · obtain ⟨hc, hc1, hd, hd1⟩ := okB_true h2
      by_cases h0 : a + b = 0
      · have H := strong_no (a := a) (b := b) (c := c) (d := d) (by unfold strongOk; rw [h0]; simp)
        go_enter Try.func26, Try.ntmps26
        go_wp2_with fail
        refine (brine_spec a b _).mono ?_
        rintro e w1 ⟨rfl, hw1⟩
        rw [h1]
        have HB := Lib.hid (((Box2.new (.int .i64 a) (.int .i64 b) 25 w w (Below.refl _ _)).more (al (Below.refl _ _))).more hw1)
        have B2 := (Box2.new (.int .i64 c) (.int .i64 d) 25 w _ (al (Below.refl _ _))).more hw1
        rw [alloc_size] at B2
        have HC := Lib.hid B2
        obtain ⟨e0, e1, _, _, _, e5⟩ := B2
        clear hw1
        go_wp2_with fail
        refine (brine_spec c d _).mono ?_
        rintro e w2 ⟨rfl, hw2⟩
        rw [h2]
        have HB2 := Lib.hid (HB.out.more hw2)
        clear hw2 HB HC e0 e1 e5
        have d0 := HB2.out.1
        have d1 := HB2.out.2.1
        go_wp2_with fail
        refine (mass_spec a b ha ha1 hb hb1 _).mono ?_
        rintro e w3 ⟨rfl, hw3⟩
        have HB3 := Lib.hid (HB2.out.more hw3)
        clear hw3
        go_wp2
        go_ret2
        exact rpost H.out.symm HB3.out.2.2.2.2.2
      · have HV := Lib.hid (show c + d = 0 → strongV a b c d = .tuple #[.bool false, .bool false] from fun h => (strong_no (by unfold strongOk; simp [h])).out)
        have HW := Lib.hid (show ¬ (c + d = 0) → strongV a b c d = .tuple #[.bool (decide (b * c > d * a)), .bool true] from fun h => (strong_yes (by unfold strongOk; simp [h, h0, h1, h2])).out)
        go_enter Try.func26, Try.ntmps26
        go_wp2_with fail
        refine (brine_spec a b _).mono ?_
        rintro e w1 ⟨rfl, hw1⟩
        rw [h1]
        have HB := Lib.hid (((Box2.new (.int .i64 a) (.int .i64 b) 25 w w (Below.refl _ _)).more (al (Below.refl _ _))).more hw1)
        have B2 := (Box2.new (.int .i64 c) (.int .i64 d) 25 w _ (al (Below.refl _ _))).more hw1
        rw [alloc_size] at B2
        have HC := Lib.hid B2; clear B2
        have e0 := HC.out.1
        have e1 := HC.out.2.1
        clear hw1
        go_wp2_with fail
        refine (brine_spec c d _).mono ?_
        rintro e w2 ⟨rfl, hw2⟩
        rw [h2]
        have HB2 := Lib.hid (HB.out.more hw2)
        have HC2 := Lib.hid (HC.out.more hw2)
        clear hw2 HB HC e0 e1
        have d0 := HB2.out.1
        have d1 := HB2.out.2.1
        go_wp2_with fail
        refine (mass_spec a b ha ha1 hb hb1 _).mono ?_
        rintro e w3 ⟨rfl, hw3⟩
        have HB3 := Lib.hid (HB2.out.more hw3)
        have HC3 := Lib.hid (HC2.out.more hw3)
        clear hw3 HB2 HC2 d0 d1
        have e0 := HC3.out.1
        have e1 := HC3.out.2.1
        go_wp2_with fail
        refine (mass_spec c d hc hc1 hd hd1 _).mono ?_
        rintro e w4 ⟨rfl, hw4⟩
        have HB4 := Lib.hid (HB3.out.more hw4)
        have HC4 := Lib.hid (HC3.out.more hw4)
        clear hw4 HB3 HC3 e0 e1
        have d0 := HB4.out.1
        have d1 := HB4.out.2.1
        have e0 := HC4.out.1
        have e1 := HC4.out.2.1
        by_cases h3 : c + d = 0
        · go_wp2
          go_ret2
          exact rpost (HV.out h3).symm HB4.out.2.2.2.2.2
        · have hx : ((a + b) == 0) = false := by rw [beq_eq_false_iff_ne]; omega
          have hy : ((c + d) == 0) = false := by rw [beq_eq_false_iff_ne]; omega
          go_wp2_with fail
          refine (stronger_spec a b c d h1 h2 _).mono ?_
          rintro e w5 ⟨rfl, hw5⟩
          go_wp2
          go_ret2
          exact rpost (HW.out h3).symm (be HB4.out.2.2.2.2.2 hw5)
end Go.Proofs.Ytbbnbkdglihhhaa.Brine5
