/- Workers: the small functions of the model and of the program. -/
import Derived.Test.YtdikekecbapcaaaWork2
import Derived.Test.YtdikekecbapcaaaWithin
import Derived.Test.YtdikekecbapcaaaRegn2
import Derived.Test.YtdikekecbapcaaaKeep
namespace Go.Proofs.Ytdikekecbapcaaa.WorkS
open Go.RowKit Go.Proofs.Ytdikekecbapcaaa.Mem Go.Proofs.Ytdikekecbapcaaa.Base Go.Proofs.Ytdikekecbapcaaa.Within Go.Proofs.Ytdikekecbapcaaa.SWorker Go.Proofs.Ytdikekecbapcaaa.Regn Go.Proofs.Ytdikekecbapcaaa.Boxes Go.Proofs.Ytdikekecbapcaaa.Keep Go.Proofs.Ytdikekecbapcaaa.Work Go.Proofs.Ytdikekecbapcaaa.Work2
set_option linter.unusedVariables false
set_option maxRecDepth 100000
theorem cells5 {w W : World} {b o k : Nat} {l : List R} {x : R} (HB : Below w.heap.size w W) (hb : b < w.heap.size) (hc : ∀ (j : Nat) (v : Value), (flat l)[j]? = some v → w.cell? ⟨b, o + j, none⟩ = some v) (hlt : k < l.length) (hx : l[k] = x) :
    W.cell? ⟨b, o + k * 5, none⟩ = some (.int .i64 x.f0) ∧ W.cell? ⟨b, o + k * 5 + 1, none⟩ = some (.int .i64 x.f1) ∧ W.cell? ⟨b, o + k * 5 + 2, none⟩ = some (.int .i64 x.f2) ∧ W.cell? ⟨b, o + k * 5 + 3, none⟩ = some (.bool x.f3) ∧ W.cell? ⟨b, o + k * 5 + 4, none⟩ = some (.int .i64 x.f4) := by
  subst hx
  exact ⟨((bcell HB).1 _ _ hb).trans (hc _ _ (flat_0 l k hlt)), ((bcell HB).1 _ _ hb).trans (hc _ _ (flat_1 l k hlt)), ((bcell HB).1 _ _ hb).trans (hc _ _ (flat_2 l k hlt)), ((bcell HB).1 _ _ hb).trans (hc _ _ (flat_3 l k hlt)), ((bcell HB).1 _ _ hb).trans (hc _ _ (flat_4 l k hlt))⟩
theorem one_spec (x : R) (w : World) : Calls Try.prog 91 #[.agg #[.int .i64 x.f0, .int .i64 x.f1, .int .i64 x.f2, .bool x.f3, .int .i64 x.f4]] w (RPost (.bool (okW x)) w) := by
  have HG := Lib.hid (show okW x = (inB x.f0 1 99 && inB x.f1 0 5 && inB x.f2 1 50 && inB x.f4 0 6) from rfl)
  cases h0 : inB x.f0 1 99
  · go_enter Try.func91, Try.ntmps91
    go_wp2_with (go_at_call 81; (with_reducible refine (in_any _ _ _ _).mono ?_); rintro e' w' ⟨rfl, rfl⟩)
    go_ret
    exact rpost (by rw [HG.out, h0] <;> rfl) (al (Below.refl _ _))
  cases h1 : inB x.f1 0 5
  · go_enter Try.func91, Try.ntmps91
    go_wp2_with (go_at_call 81; (with_reducible refine (in_any _ _ _ _).mono ?_); rintro e' w' ⟨rfl, rfl⟩)
    go_ret
    exact rpost (by rw [HG.out, h0, h1] <;> rfl) (al (Below.refl _ _))
  cases h2 : inB x.f2 1 50
  · go_enter Try.func91, Try.ntmps91
    go_wp2_with (go_at_call 81; (with_reducible refine (in_any _ _ _ _).mono ?_); rintro e' w' ⟨rfl, rfl⟩)
    go_ret
    exact rpost (by rw [HG.out, h0, h1, h2] <;> rfl) (al (Below.refl _ _))
  go_enter Try.func91, Try.ntmps91
  go_wp2_with (go_at_call 81; (with_reducible refine (in_any _ _ _ _).mono ?_); rintro e' w' ⟨rfl, rfl⟩)
  go_ret
  exact rpost (by rw [HG.out, h0, h1, h2] <;> rfl) (al (Below.refl _ _))
theorem one_impl (x : R) (w : World) : Calls Try.prog 47 #[.agg #[.int .i64 x.f0, .int .i64 x.f1, .int .i64 x.f2, .bool x.f3, .int .i64 x.f4]] w (RPost (.bool (okW x)) w) := by
  have HG := Lib.hid (show okW x = (inB x.f0 1 99 && inB x.f1 0 5 && inB x.f2 1 50 && inB x.f4 0 6) from rfl)
  cases h0 : inB x.f0 1 99
  · go_enter Try.func47, Try.ntmps47
    go_wp2_with (go_at_call 69; (with_reducible refine (within_any _ _ _ _).mono ?_); rintro e' w' ⟨rfl, rfl⟩)
    go_ret
    exact rpost (by rw [HG.out, h0] <;> rfl) (al (Below.refl _ _))
  cases h1 : inB x.f1 0 5
  · go_enter Try.func47, Try.ntmps47
    go_wp2_with (go_at_call 69; (with_reducible refine (within_any _ _ _ _).mono ?_); rintro e' w' ⟨rfl, rfl⟩)
    go_ret
    exact rpost (by rw [HG.out, h0, h1] <;> rfl) (al (Below.refl _ _))
  cases h2 : inB x.f2 1 50
  · go_enter Try.func47, Try.ntmps47
    go_wp2_with (go_at_call 69; (with_reducible refine (within_any _ _ _ _).mono ?_); rintro e' w' ⟨rfl, rfl⟩)
    go_ret
    exact rpost (by rw [HG.out, h0, h1, h2] <;> rfl) (al (Below.refl _ _))
  go_enter Try.func47, Try.ntmps47
  go_wp2_with (go_at_call 69; (with_reducible refine (within_any _ _ _ _).mono ?_); rintro e' w' ⟨rfl, rfl⟩)
  go_ret
  exact rpost (by rw [HG.out, h0, h1, h2] <;> rfl) (al (Below.refl _ _))
theorem gang_spec (x : Int) (w : World) : Calls Try.prog 65 #[.int .i64 x] w (BPost (inB x 1 5) w) := by
  go_enter Try.func65, Try.ntmps65
  go_wp2_with (go_at_call 81; (with_reducible refine (in_any _ _ _ _).mono ?_); rintro e' w' ⟨rfl, rfl⟩)
  go_ret
  exact bpost rfl
theorem day_spec (x : Int) (w : World) : Calls Try.prog 80 #[.int .i64 x] w (BPost (inB x 0 4000) w) := by
  go_enter Try.func80, Try.ntmps80
  go_wp2_with (go_at_call 81; (with_reducible refine (in_any _ _ _ _).mono ?_); rintro e' w' ⟨rfl, rfl⟩)
  go_ret
  exact bpost rfl
theorem gang_impl (x : Int) (w : World) : Calls Try.prog 62 #[.int .i64 x] w (BPost (inB x 1 5) w) := by
  go_enter Try.func62, Try.ntmps62
  go_wp2_with (go_at_call 69; (with_reducible refine (within_any _ _ _ _).mono ?_); rintro e' w' ⟨rfl, rfl⟩)
  go_ret
  exact bpost rfl
theorem is_spec (x : R) (w : World) : Calls Try.prog 48 #[.agg #[.int .i64 x.f0, .int .i64 x.f1, .int .i64 x.f2, .bool x.f3, .int .i64 x.f4]] w (RPost (.bool (okW x)) w) := by
  go_enter Try.func48, Try.ntmps48
  go_wp2_with fail
  have X := Box.new (Below.refl _ w) [.int .i64 x.f0, .int .i64 x.f1, .int .i64 x.f2, .bool x.f3, .int .i64 x.f4] 50 (g := w.heap.size) rfl
  generalize (w.alloc (.cells #[.int .i64 x.f0, .int .i64 x.f1, .int .i64 x.f2, .bool x.f3, .int .i64 x.f4] 50)) = W1 at X ⊢
  have X_0 := X.cells 0 _ rfl
  have X_1 := X.cells 1 _ rfl
  have X_2 := X.cells 2 _ rfl
  have X_3 := X.cells 3 _ rfl
  have X_4 := X.cells 4 _ rfl
  have X_f0 := X.free 0 (by simp)
  have X_f1 := X.free 1 (by simp)
  have X_f2 := X.free 2 (by simp)
  have X_f3 := X.free 3 (by simp)
  have X_f4 := X.free 4 (by simp)
  have X_t := X.there
  go_wp2_with fail
  refine (one_spec x _).mono ?_
  rintro e v2 ⟨rfl, hv2⟩
  clear X_0 X_1 X_2 X_3 X_4 X_f0 X_f1 X_f2 X_f3 X_f4 X_t
  replace X := X.more hv2
  have zhv2 := hv2.size
  clear hv2
  have X_0 := X.cells 0 _ rfl
  have X_1 := X.cells 1 _ rfl
  have X_2 := X.cells 2 _ rfl
  have X_3 := X.cells 3 _ rfl
  have X_4 := X.cells 4 _ rfl
  have X_f0 := X.free 0 (by simp)
  have X_f1 := X.free 1 (by simp)
  have X_f2 := X.free 2 (by simp)
  have X_f3 := X.free 3 (by simp)
  have X_f4 := X.free 4 (by simp)
  have X_t := X.there
  go_wp2
  go_ret
  exact rpost rfl X.below
end Go.Proofs.Ytdikekecbapcaaa.WorkS
