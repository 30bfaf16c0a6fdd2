/- == on two [2]int that are the same. -/
import Derived.Test.YtpbmncecejchjaaSPair
namespace Go.Proofs.Ytpbmncecejchjaa.DryEq
open Go Go.RowKit Go.Proofs.Ytpbmncecejchjaa.Mem Go.Proofs.Ytpbmncecejchjaa.Base
set_option linter.unusedVariables false
set_option linter.unusedSimpArgs false
theorem size_int (w : World) : (sizeOf 3).run Try.prog w = .ok 1 w := by
  simp [go_sem, sizeOf]
  rfl
theorem eq_pair (a b : Int) (w : World) : (Op.equalIn 10000 48 (.agg #[.int .i64 a, .int .i64 b]) (.agg #[.int .i64 a, .int .i64 b])).run Try.prog w = .ok true w := by
  have hag : ∀ w, (isAgg 3).run Try.prog w = .ok false w := fun w => by
    unfold isAgg
    rw [Sem.run_bind, run_underlying Try.underlying3 w]
    rfl
  have h1 : ∀ (d : Nat) (c : Int) (w : World), (Op.equalIn (d + 1) 3 (.int .i64 c) (.int .i64 c)).run Try.prog w = .ok true w := fun d c w => by
    rw [run_equalIn_int w d 3 .i64 .i64 c c Try.underlying3]; simp
  have h2 := h1 9998
  rw [show (10000 : Nat) = 9999 + 1 from rfl, Op.equalIn]
  simp only [Sem.run_bind, run_underlying Try.underlying48, Result.andThen_ok, size_int]
  simp [Std.Legacy.Range.forIn_eq_forIn_range', List.range', part, Sem.run_bind, Sem.run_pure, hag, h2, Result.andThen]
end Go.Proofs.Ytpbmncecejchjaa.DryEq
