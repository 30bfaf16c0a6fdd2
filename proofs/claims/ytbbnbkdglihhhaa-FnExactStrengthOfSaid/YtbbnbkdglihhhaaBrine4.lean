/- The model's exported functions on brines: water to lose, to add, stronger. -/
import Derived.Test.YtbbnbkdglihhhaaBrine3
namespace Go.Proofs.Ytbbnbkdglihhhaa.Brine4
open Go.RowKit Go.Proofs.Ytbbnbkdglihhhaa.Mem Go.Proofs.Ytbbnbkdglihhhaa.Base Go.Proofs.Ytbbnbkdglihhhaa.Brine Go.Proofs.Ytbbnbkdglihhhaa.Brine2
set_option linter.unusedVariables false
def okR (n d : Int) : Bool := inB n 1 d && decide (d ≤ 1000)
theorem okR_true {n d : Int} (h : okR n d = true) : 1 ≤ n ∧ n ≤ d ∧ d ≤ 1000 := by
  unfold okR at h
  rw [Bool.and_eq_true] at h
  have h1 := of_inB h.1; have h2 := of_decide_eq_true h.2; omega
theorem rate_spec (n d : Int) (w : World) : Calls Try.prog 69 #[.int .i64 n, .int .i64 d] w fun e w' => e = .returned (.bool (okR n d)) ∧ w = w' := by
  cases h1 : inB n 1 d
  · have H := Lib.hid (show okR n d = false by unfold okR; rw [h1]; rfl)
    go_enter Try.func69, Try.ntmps69
    go_wp2_with (go_at_call 96; refine (in_any _ _ _ _).mono ?_; rintro e w' ⟨rfl, rfl⟩)
    go_ret
    exact ⟨by rw [H.out]; rfl, rfl⟩
  · have H := Lib.hid (show okR n d = decide (d ≤ 1000) by unfold okR; rw [h1]; rfl)
    go_enter Try.func69, Try.ntmps69
    go_wp2_with (go_at_call 96; refine (in_any _ _ _ _).mono ?_; rintro e w' ⟨rfl, rfl⟩)
    go_ret
    exact ⟨by rw [H.out]; rfl, rfl⟩
def loseI (a b n d : Int) : Int := most 0 (a + b - b * d / n)
def loseOk (a b n d : Int) : Bool := okB a b && (!(b == 0) && okR n d)
def loseV (a b n d : Int) : Value := if loseOk a b n d = true then .tuple #[.int .i64 (loseI a b n d), .bool true] else .tuple #[.int .i64 0, .bool false]
theorem lose_no {a b n d : Int} (h : loseOk a b n d = false) : Hid (loseV a b n d = .tuple #[.int .i64 0, .bool false]) := Lib.hid (by unfold loseV; rw [h]; rfl)
theorem lose_yes {a b n d : Int} (h : loseOk a b n d = true) : Hid (loseV a b n d = .tuple #[.int .i64 (loseI a b n d), .bool true]) := Lib.hid (by unfold loseV; rw [if_pos h])
theorem lose_spec (a b n d : Int) (w : World) : Calls Try.prog 19 #[.agg #[.int .i64 a, .int .i64 b], .int .i64 n, .int .i64 d] w (RPost (loseV a b n d) w) := by
  cases hok : okB a b
  · have H := lose_no (a := a) (b := b) (n := n) (d := d) (by unfold loseOk; rw [hok]; rfl)
    go_enter Try.func19, Try.ntmps19
    go_wp2_with fail
    refine (brine_spec a b _).mono ?_
    rintro e w1 ⟨rfl, hw1⟩
    rw [hok]
    go_wp2
    go_ret2
    exact rpost H.out.symm (be (al (Below.refl _ _)) hw1)
  · obtain ⟨ha, ha1, hb, hb1⟩ := okB_true hok
    by_cases h0 : b = 0
    · subst h0
      have H := lose_no (a := a) (b := 0) (n := n) (d := d) (by unfold loseOk; simp)
      go_enter Try.func19, Try.ntmps19
      go_wp2_with fail
      refine (brine_spec a 0 _).mono ?_
      rintro e w1 ⟨rfl, hw1⟩
      rw [hok]
      obtain ⟨d0, d1, _, _, _, d5⟩ := (Box2.new (.int .i64 a) (.int .i64 0) 25 w w (Below.refl _ _)).more hw1
      clear hw1
      go_wp2
      go_ret2
      exact rpost H.out.symm d5
    · cases hr : okR n d
      · have H := lose_no (a := a) (b := b) (n := n) (d := d) (by unfold loseOk; rw [hr]; simp)
        go_enter Try.func19, Try.ntmps19
        go_wp2_with fail
        refine (brine_spec a b _).mono ?_
        rintro e w1 ⟨rfl, hw1⟩
        rw [hok]
        obtain ⟨d0, d1, _, _, _, d5⟩ := (Box2.new (.int .i64 a) (.int .i64 b) 25 w w (Below.refl _ _)).more hw1
        clear hw1
        go_wp2_with fail
        refine (rate_spec n d _).mono ?_
        rintro e w2 ⟨rfl, rfl⟩
        rw [hr]
        go_wp2
        go_ret2
        exact rpost H.out.symm d5
      · have H := lose_yes (a := a) (b := b) (n := n) (d := d) (by unfold loseOk; rw [hr, hok]; simp [h0])
        obtain ⟨hn, hnd, hd⟩ := okR_true hr
        have m1 : 0 ≤ b * d := Int.mul_nonneg hb (by omega)
        have m2 : b * d ≤ 1000000 * 1000 := Int.mul_le_mul hb1 (by omega) (by omega) (by omega)
        have m3 : IntKind.i64.wrap (b * d) = b * d := IntWalk.i64_in _ (by omega)
        have m4 : (b * d).tdiv n = b * d / n := Int.tdiv_eq_ediv_of_nonneg m1
        have m5 : 0 ≤ b * d / n := Int.ediv_nonneg m1 (by omega)
        have m6 : b * d / n ≤ b * d := Int.ediv_le_self _ m1
        have m7 : IntKind.i64.wrap (b * d / n) = b * d / n := IntWalk.i64_in _ (by omega)
        have m8 : ¬ (n = 0) := by omega
        have m9 : IntKind.i64.wrap (a + b - b * d / n) = a + b - b * d / n := IntWalk.i64_in _ (by omega)
        clear m1 m2 m5 m6
        go_enter Try.func19, Try.ntmps19
        go_wp2_with fail
        refine (brine_spec a b _).mono ?_
        rintro e w1 ⟨rfl, hw1⟩
        rw [hok]
        obtain ⟨d0, d1, _, _, d4, d5⟩ := (Box2.new (.int .i64 a) (.int .i64 b) 25 w w (Below.refl _ _)).more hw1
        clear hw1
        go_wp2_with fail
        refine (rate_spec n d _).mono ?_
        rintro e w2 ⟨rfl, rfl⟩
        rw [hr]
        go_wp2
        have HS := start2 d0 d1
        go_region_held3 (fun w' => w'.cell? ⟨w.heap.size, 0, none⟩ = some (.int .i64 a) ∧ w'.cell? ⟨w.heap.size, 1, none⟩ = some (.int .i64 b) ∧ Below w1.heap.size w1 w') (first | exact HS | assumption | exact ⟨by assumption, by assumption, by assumption⟩ | exact drew2 (by assumption) | go_keep)
          (first | (go_at_call 71; refine (mass_spec a b ha ha1 hb hb1 _).mono ?_; rintro e w3 ⟨rfl, hw3⟩; obtain ⟨k1, k2, k3⟩ := held2 d4 (by assumption) hw3) | (go_at_call 70; refine (most_any _ _ _).mono ?_; rintro e w3 ⟨rfl, rfl⟩))
        rename_i k1 k2 k3 _
        go_wp2
        go_ret2
        exact rpost H.out.symm (be d5 k3)
end Go.Proofs.Ytbbnbkdglihhhaa.Brine4
