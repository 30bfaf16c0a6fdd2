/- The model's exported functions on one or two brines. -/
import Derived.Test.YtbbnbkdglihhhaaBrine2
namespace Go.Proofs.Ytbbnbkdglihhhaa.Brine3
open Go.RowKit Go.Proofs.Ytbbnbkdglihhhaa.Mem Go.Proofs.Ytbbnbkdglihhhaa.Base Go.Proofs.Ytbbnbkdglihhhaa.Brine Go.Proofs.Ytbbnbkdglihhhaa.Brine2
set_option linter.unusedVariables false
/-- a fraction in lowest terms: above, below. -/
def low (x y : Int) : Int := ((x.toNat / Nat.gcd x.toNat y.toNat : Nat) : Int)
def low' (x y : Int) : Int := ((y.toNat / Nat.gcd x.toNat y.toNat : Nat) : Int)
/-- What a brine's strength is. -/
def strV (a b : Int) : Value :=
  if okB a b = true then if a + b = 0 then .tuple #[.int .i64 0, .int .i64 0, .bool false]
    else .tuple #[.int .i64 (low b (a + b)), .int .i64 (low' b (a + b)), .bool true]
  else .tuple #[.int .i64 0, .int .i64 0, .bool false]
theorem reduce_int (a b : Int) (ha : 0 ≤ a) (ha1 : a ≤ 1000000) (hb : 0 ≤ b) (hb1 : b ≤ 1000000) (h0 : ¬ (a + b = 0)) (w : World) :
    Calls Try.prog 79 #[.int .i64 b, .int .i64 (a + b)] w (RPost (.tuple #[.int .i64 (low b (a + b)), .int .i64 (low' b (a + b))]) w) := by
  have h := reduce_spec b.toNat (a + b).toNat (by omega) (by omega) (by omega) w
  rwa [Int.toNat_of_nonneg hb, Int.toNat_of_nonneg (by omega)] at h
theorem strength_spec (a b : Int) (w : World) : Calls Try.prog 28 #[.agg #[.int .i64 a, .int .i64 b]] w (RPost (strV a b) w) := by
  cases hok : okB a b
  · have H := Lib.hid (show strV a b = .tuple #[.int .i64 0, .int .i64 0, .bool false] by unfold strV; rw [hok]; rfl)
    go_enter Try.func28, Try.ntmps28
    go_wp2_with fail
    refine (brine_spec a b _).mono ?_
    rintro e w1 ⟨rfl, hw1⟩
    rw [hok]
    go_wp2
    go_ret3
    exact rpost H.out.symm (be (al (Below.refl _ _)) hw1)
  · obtain ⟨ha, ha1, hb, hb1⟩ := okB_true hok
    by_cases h0 : a + b = 0
    · have H := Lib.hid (show strV a b = .tuple #[.int .i64 0, .int .i64 0, .bool false] by unfold strV; rw [if_pos hok, if_pos h0])
      go_enter Try.func28, Try.ntmps28
      go_wp2_with fail
      refine (brine_spec a b _).mono ?_
      rintro e w1 ⟨rfl, hw1⟩
      rw [hok]
      have B := (Box2.new (.int .i64 a) (.int .i64 b) 25 w w (Below.refl _ _)).more hw1
      have HB := Lib.hid B; obtain ⟨d0, d1, _, _, _, d5⟩ := B
      clear hw1
      go_wp2_with fail
      refine (mass_spec a b ha ha1 hb hb1 _).mono ?_
      rintro e w2 ⟨rfl, hw2⟩
      go_wp2
      go_ret3
      exact rpost H.out.symm (be d5 hw2)
    · have H := Lib.hid (show strV a b = _ by unfold strV; rw [if_pos hok, if_neg h0])
      go_enter Try.func28, Try.ntmps28
      go_wp2_with fail
      refine (brine_spec a b _).mono ?_
      rintro e w1 ⟨rfl, hw1⟩
      rw [hok]
      have B := (Box2.new (.int .i64 a) (.int .i64 b) 25 w w (Below.refl _ _)).more hw1
      have HB := Lib.hid B; obtain ⟨d0, d1, _, _, _, d5⟩ := B
      clear hw1
      go_wp2_with fail
      refine (mass_spec a b ha ha1 hb hb1 _).mono ?_
      rintro e w2 ⟨rfl, hw2⟩
      have HB2 := Lib.hid (HB.out.more hw2); clear HB d0 d1 d5 hw2
      go_wp2
      obtain ⟨d0, d1, _, _, d4, d5⟩ := HB2.out
      have HS := start2 d0 d1
      go_region_held3 (fun w' => w'.cell? ⟨w.heap.size, 0, none⟩ = some (.int .i64 a) ∧ w'.cell? ⟨w.heap.size, 1, none⟩ = some (.int .i64 b) ∧ Below w2.heap.size w2 w') (first | exact HS | assumption | exact ⟨by assumption, by assumption, by assumption⟩ | exact drew2 (by assumption) | go_keep)
        (first | (go_at_call 71; refine (mass_spec a b ha ha1 hb hb1 _).mono ?_; rintro e w3 ⟨rfl, hw3⟩; obtain ⟨k1, k2, k3⟩ := held2 d4 (by assumption) hw3) | (go_at_call 79; refine (reduce_int a b ha ha1 hb hb1 h0 _).mono ?_; rintro e w3 ⟨rfl, hw3⟩; obtain ⟨k1, k2, k3⟩ := held2 d4 (by assumption) hw3))
      rename_i k1 k2 k3 _
      go_wp2
      go_ret3
      exact rpost H.out.symm (be d5 k3)
end Go.Proofs.Ytbbnbkdglihhhaa.Brine3
