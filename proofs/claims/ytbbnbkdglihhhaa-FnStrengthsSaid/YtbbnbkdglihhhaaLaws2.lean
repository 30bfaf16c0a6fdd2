/- The laws on brines, walked. -/
import Derived.Test.YtbbnbkdglihhhaaHalve
namespace Go.Proofs.Ytbbnbkdglihhhaa.Laws2
open Go.RowKit Go.Proofs.Ytbbnbkdglihhhaa.Mem Go.Proofs.Ytbbnbkdglihhhaa.Base Go.Proofs.Ytbbnbkdglihhhaa.Brine Go.Proofs.Ytbbnbkdglihhhaa.Regn Go.Proofs.Ytbbnbkdglihhhaa.Boxes Go.Proofs.Ytbbnbkdglihhhaa.IBrine
set_option linter.unusedVariables false
set_option maxRecDepth 100000
/-- What each walk of a law ends in. -/
def Yes (w : World) (e : Ending) (w' : World) : Prop := e = .returned (.bool true) ∧ Below w.heap.size w w'
theorem to2 (a b : Int) (w : World) : Calls Try.prog 55 #[.agg #[.int .i64 a, .int .i64 b]] w (RPost (.agg #[.int .i64 a, .int .i64 b]) w) := SBrine.to_any ⟨a, b⟩ w
theorem str_form (a b : Int) : ∃ x y q, Brine3.strV a b = .tuple #[.int .i64 x, .int .i64 y, .bool q] := by
  unfold Brine3.strV; split
  · split <;> exact ⟨_, _, _, rfl⟩
  · exact ⟨_, _, _, rfl⟩
theorem str_law (a b : Int) (w : World) : Calls Try.prog 6 #[.agg #[.int .i64 a, .int .i64 b]] w (Yes w) := by
  obtain ⟨x, y, q, hv⟩ := str_form a b
  have HV := Lib.hid hv; clear hv
  go_enter Try.func6, Try.ntmps6
  go_wp2_with fail
  have P := Box.new (Below.refl _ w) [.int .i64 a, .int .i64 b] 56 (g := w.heap.size) rfl
  generalize (w.alloc (.cells #[.int .i64 a, .int .i64 b] 56)) = W1 at P ⊢
  have P_0 := P.cells 0 _ rfl
  have P_1 := P.cells 1 _ rfl
  have P_f0 := P.free 0 (by simp)
  have P_f1 := P.free 1 (by simp)
  have P_t := P.there
  go_wp2_with fail
  refine (to2 a b _).mono ?_
  rintro e v2 ⟨rfl, hv2⟩
  clear P_0 P_1 P_f0 P_f1 P_t
  replace P := P.more hv2
  have zhv2 := hv2.size
  clear hv2
  have P_0 := P.cells 0 _ rfl
  have P_1 := P.cells 1 _ rfl
  have P_f0 := P.free 0 (by simp)
  have P_f1 := P.free 1 (by simp)
  have P_t := P.there
  go_wp2_with fail
  refine (Brine3.strength_spec a b _).mono ?_
  rintro e v3 ⟨rfl, hv3⟩
  clear P_0 P_1 P_f0 P_f1 P_t
  replace P := P.more hv3
  have zhv3 := hv3.size
  clear hv3
  have P_0 := P.cells 0 _ rfl
  have P_1 := P.cells 1 _ rfl
  have P_f0 := P.free 0 (by simp)
  have P_f1 := P.free 1 (by simp)
  have P_t := P.there
  rw [HV.out]
  go_wp2_with fail
  refine (to2 a b _).mono ?_
  rintro e v4 ⟨rfl, hv4⟩
  clear P_0 P_1 P_f0 P_f1 P_t
  replace P := P.more hv4
  have zhv4 := hv4.size
  clear hv4
  have P_0 := P.cells 0 _ rfl
  have P_1 := P.cells 1 _ rfl
  have P_f0 := P.free 0 (by simp)
  have P_f1 := P.free 1 (by simp)
  have P_t := P.there
  go_wp2_with fail
  refine (strength_impl a b _).mono ?_
  rintro e v5 ⟨rfl, hv5⟩
  clear P_0 P_1 P_f0 P_f1 P_t
  replace P := P.more hv5
  have zhv5 := hv5.size
  clear hv5
  have P_0 := P.cells 0 _ rfl
  have P_1 := P.cells 1 _ rfl
  have P_f0 := P.free 0 (by simp)
  have P_f1 := P.free 1 (by simp)
  have P_t := P.there
  rw [HV.out]
  go_wp2
  go_ret
  exact ⟨rfl, P.below⟩
theorem lose_form (a b n d : Int) : ∃ x q, Brine4.loseV a b n d = .tuple #[.int .i64 x, .bool q] := by
  unfold Brine4.loseV; split <;> exact ⟨_, _, rfl⟩
theorem add_form (a b n d : Int) : ∃ x q, Brine5.addV a b n d = .tuple #[.int .i64 x, .bool q] := by
  unfold Brine5.addV; split <;> exact ⟨_, _, rfl⟩
end Go.Proofs.Ytbbnbkdglihhhaa.Laws2
