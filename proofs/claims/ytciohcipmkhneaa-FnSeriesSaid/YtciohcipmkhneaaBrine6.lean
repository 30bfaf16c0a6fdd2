/- The model's exported functions on brines: to take a part. -/
import Derived.Test.YtciohcipmkhneaaBrine5
import Derived.Test.YtciohcipmkhneaaRegn
import Derived.Test.YtciohcipmkhneaaBox
namespace Go.Proofs.Ytciohcipmkhneaa.Brine6
open Go.RowKit Go.Proofs.Ytciohcipmkhneaa.Mem Go.Proofs.Ytciohcipmkhneaa.Base Go.Proofs.Ytciohcipmkhneaa.Brine Go.Proofs.Ytciohcipmkhneaa.Brine2
set_option linter.unusedVariables false
set_option maxRecDepth 100000
/-- the part's water and salt. -/
def pw (a b n : Int) : Int := if n = 0 then 0 else n - partS a b n
def ps (a b n : Int) : Int := if n = 0 then 0 else partS a b n
theorem part_eq (a b n : Int) : (if n = 0 then br 0 0 else br (n - partS a b n) (partS a b n)) = br (pw a b n) (ps a b n) := by
  unfold pw ps; split <;> rfl
theorem part_in {a b n : Int} (ha : 0 ≤ a) (hb : 0 ≤ b) (hn : 0 ≤ n) (hn1 : n ≤ a + b) : 0 ≤ pw a b n ∧ pw a b n ≤ n ∧ 0 ≤ ps a b n ∧ ps a b n ≤ n ∧ ps a b n ≤ b := by
  unfold pw ps
  split
  · omega
  · have m1 : 0 ≤ b * n := Int.mul_nonneg hb hn
    have m5 : 0 ≤ partS a b n := Int.ediv_nonneg m1 (by omega)
    have m6 : partS a b n ≤ n := by unfold partS; exact Int.ediv_le_of_le_mul (by omega) (by rw [Int.mul_comm n]; exact Int.mul_le_mul_of_nonneg_right (by omega) hn)
    have m7 : partS a b n ≤ b := by unfold partS; exact Int.ediv_le_of_le_mul (by omega) (Int.mul_le_mul_of_nonneg_left hn1 hb)
    omega
theorem part_br (a b n : Int) (ha : 0 ≤ a) (ha1 : a ≤ 1000000) (hb : 0 ≤ b) (hb1 : b ≤ 1000000) (hn : 0 ≤ n) (hn1 : n ≤ a + b) (w : World) :
    Calls Try.prog 132 #[.agg #[.int .i64 a, .int .i64 b], .int .i64 n] w (RPost (br (pw a b n) (ps a b n)) w) := by
  have h := part_spec a b n ha ha1 hb hb1 hn hn1 w
  rwa [part_eq] at h
theorem left_spec (a b c d : Int) (ha : 0 ≤ a) (ha1 : a ≤ 1000000) (hb : 0 ≤ b) (hb1 : b ≤ 1000000) (hc : 0 ≤ c) (hc1 : c ≤ 2000000) (hd : 0 ≤ d) (hd1 : d ≤ 2000000) (w : World) :
    Calls Try.prog 133 #[.agg #[.int .i64 a, .int .i64 b], .agg #[.int .i64 c, .int .i64 d]] w (RPost (br (a - c) (b - d)) w) := by
  have m1 : IntKind.i64.wrap (a - c) = a - c := IntWalk.i64_in _ (by omega)
  have m2 : IntKind.i64.wrap (b - d) = b - d := IntWalk.i64_in _ (by omega)
  go_enter Try.func133, Try.ntmps133
  go_wp2
  exact bodyPost_ret (v := br (a - c) (b - d)) (by simp [br, results, Try.results133, go_sem]) rfl (rpost rfl (al (al (al (Below.refl _ _)))))
def takeOk (a b n : Int) : Bool := okB a b && (inB n 0 (a + b) && !decide (pw a b n > a))
def takeV (a b n : Int) : Value := if takeOk a b n = true then .tuple #[br (pw a b n) (ps a b n), br (a - pw a b n) (b - ps a b n), .bool true] else .tuple #[br 0 0, br 0 0, .bool false]
theorem take_no {a b n : Int} (h : takeOk a b n = false) : Hid (takeV a b n = .tuple #[br 0 0, br 0 0, .bool false]) := Lib.hid (by unfold takeV; rw [h]; rfl)
theorem take_yes {a b n : Int} (h : takeOk a b n = true) : Hid (takeV a b n = .tuple #[br (pw a b n) (ps a b n), br (a - pw a b n) (b - ps a b n), .bool true]) := Lib.hid (by unfold takeV; rw [if_pos h])
theorem part_room {a b n : Int} (ha : 0 ≤ a) (hb : 0 ≤ b) (hn : 0 ≤ n) (hn1 : n ≤ a + b) : pw a b n ≤ a := by
  unfold pw
  split
  · exact ha
  · have h0 : 0 < a + b := by omega
    have h1 : b * n < (partS a b n + 1) * (a + b) := by unfold partS; exact Int.lt_ediv_add_one_mul_self _ h0
    have h2 : (n - a) * (a + b) ≤ b * n := by
      have e1 : b * n - (n - a) * (a + b) = a * (a + b - n) := by
        rw [Int.sub_mul, Int.mul_sub, Int.mul_add, Int.mul_add, Int.mul_comm n a, Int.mul_comm n b]; omega
      have e2 : 0 ≤ a * (a + b - n) := Int.mul_nonneg ha (by omega)
      omega
    have h3 : (n - a) * (a + b) < (partS a b n + 1) * (a + b) := by omega
    have h4 := Int.lt_of_mul_lt_mul_right h3 (by omega)
    omega
theorem take_ok {a b n : Int} (h : okB a b = true) (hn : inB n 0 (a + b) = true) : takeOk a b n = true := by
  obtain ⟨ha, _, hb, _⟩ := okB_true h
  have hm := of_inB hn
  have := part_room ha hb hm.1 hm.2
  unfold takeOk; rw [h, hn]; simp; omega
end Go.Proofs.Ytciohcipmkhneaa.Brine6
