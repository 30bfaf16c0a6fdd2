/- The laws on batches by value, walked. Made by tools/mk_law12.py. -/
import Derived.Test.YtpokgnkcnibapaaBatU
import Derived.Test.YtpokgnkcnibapaaBatW
import Derived.Test.YtpokgnkcnibapaaRegn3
namespace Go.Proofs.Ytpokgnkcnibapaa.Laws12a
open Go.RowKit Go.Proofs.Ytpokgnkcnibapaa.Mem Go.Proofs.Ytpokgnkcnibapaa.Base Go.Proofs.Ytpokgnkcnibapaa.SBatch Go.Proofs.Ytpokgnkcnibapaa.Regn Go.Proofs.Ytpokgnkcnibapaa.Boxes Go.Proofs.Ytpokgnkcnibapaa.Keep Go.Proofs.Ytpokgnkcnibapaa.BatP Go.Proofs.Ytpokgnkcnibapaa.BatQ
set_option linter.unusedVariables false
set_option linter.unusedSimpArgs false
set_option maxRecDepth 100000
/-- What each walk of a law ends in. -/
def Yes (w : World) (e : Ending) (w' : World) : Prop := e = .returned (.bool true) ∧ Below w.heap.size w w'
theorem aw_form (x : R) (w d : Int) : ∃ z n q, awV x w d = .tuple #[R.val z, .int .i64 n, .bool q] := by
  unfold awV; split <;> exact ⟨_, _, _, rfl⟩
theorem as_form (x : R) (w n : Int) : ∃ z q, asV x w n = .tuple #[R.val z, .bool q] := by
  unfold asV; split <;> exact ⟨_, _, rfl⟩
theorem dry_form (x : R) (p : Int) : ∃ z n q, dryV x p = .tuple #[R.val z, .int .i64 n, .bool q] := by
  unfold dryV; split <;> exact ⟨_, _, _, rfl⟩
theorem join_form (x y : R) : ∃ z q, joinV x y = .tuple #[R.val z, .bool q] := by
  unfold joinV; split <;> exact ⟨_, _, rfl⟩
theorem is_law (t : R) (w : World) : Calls Try.prog 5 #[.agg #[.int .i64 t.f0, .int .i64 t.f1, .int .i64 t.f2]] w (Yes w) := by
  go_enter Try.func5, Try.ntmps5
  go_wp2_with fail
  have P := Box.new (Below.refl _ w) [.int .i64 t.f0, .int .i64 t.f1, .int .i64 t.f2] 51 (g := w.heap.size) rfl
  generalize (w.alloc (.cells #[.int .i64 t.f0, .int .i64 t.f1, .int .i64 t.f2] 51)) = W1 at P ⊢
  have P_0 := P.cells 0 _ rfl
  have P_1 := P.cells 1 _ rfl
  have P_2 := P.cells 2 _ rfl
  have P_f0 := P.free 0 (by simp)
  have P_f1 := P.free 1 (by simp)
  have P_f2 := P.free 2 (by simp)
  have P_t := P.there
  go_wp2_with fail
  refine (SBatch.to_any t _).mono ?_
  rintro e v2 ⟨rfl, hv2⟩
  clear P_0 P_1 P_2 P_f0 P_f1 P_f2 P_t
  replace P := P.more hv2
  have zhv2 := hv2.size
  clear hv2
  have P_0 := P.cells 0 _ rfl
  have P_1 := P.cells 1 _ rfl
  have P_2 := P.cells 2 _ rfl
  have P_f0 := P.free 0 (by simp)
  have P_f1 := P.free 1 (by simp)
  have P_f2 := P.free 2 (by simp)
  have P_t := P.there
  unfold SBatch.R.val
  go_wp2_with fail
  refine (BatS.is_spec t _).mono ?_
  rintro e v3 ⟨rfl, hv3⟩
  clear P_0 P_1 P_2 P_f0 P_f1 P_f2 P_t
  replace P := P.more hv3
  have zhv3 := hv3.size
  clear hv3
  have P_0 := P.cells 0 _ rfl
  have P_1 := P.cells 1 _ rfl
  have P_2 := P.cells 2 _ rfl
  have P_f0 := P.free 0 (by simp)
  have P_f1 := P.free 1 (by simp)
  have P_f2 := P.free 2 (by simp)
  have P_t := P.there
  go_wp2_with fail
  refine (SBatch.to_any t _).mono ?_
  rintro e v4 ⟨rfl, hv4⟩
  clear P_0 P_1 P_2 P_f0 P_f1 P_f2 P_t
  replace P := P.more hv4
  have zhv4 := hv4.size
  clear hv4
  have P_0 := P.cells 0 _ rfl
  have P_1 := P.cells 1 _ rfl
  have P_2 := P.cells 2 _ rfl
  have P_f0 := P.free 0 (by simp)
  have P_f1 := P.free 1 (by simp)
  have P_f2 := P.free 2 (by simp)
  have P_t := P.there
  unfold SBatch.R.val
  go_wp2_with fail
  refine (BatS.is_impl t _).mono ?_
  rintro e v5 ⟨rfl, hv5⟩
  clear P_0 P_1 P_2 P_f0 P_f1 P_f2 P_t
  replace P := P.more hv5
  have zhv5 := hv5.size
  clear hv5
  have P_0 := P.cells 0 _ rfl
  have P_1 := P.cells 1 _ rfl
  have P_2 := P.cells 2 _ rfl
  have P_f0 := P.free 0 (by simp)
  have P_f1 := P.free 1 (by simp)
  have P_f2 := P.free 2 (by simp)
  have P_t := P.there
  generalize okT t = q
  go_wp2
  go_ret
  exact ⟨rfl, P.below⟩
theorem pur_law (t : R) (w : World) : Calls Try.prog 6 #[.agg #[.int .i64 t.f0, .int .i64 t.f1, .int .i64 t.f2]] w (Yes w) := by
  obtain ⟨a, b, q, hv, _⟩ := pur_form t
  have HV := Lib.hid hv; clear hv
  go_enter Try.func6, Try.ntmps6
  go_wp2_with fail
  have P := Box.new (Below.refl _ w) [.int .i64 t.f0, .int .i64 t.f1, .int .i64 t.f2] 51 (g := w.heap.size) rfl
  generalize (w.alloc (.cells #[.int .i64 t.f0, .int .i64 t.f1, .int .i64 t.f2] 51)) = W1 at P ⊢
  have P_0 := P.cells 0 _ rfl
  have P_1 := P.cells 1 _ rfl
  have P_2 := P.cells 2 _ rfl
  have P_f0 := P.free 0 (by simp)
  have P_f1 := P.free 1 (by simp)
  have P_f2 := P.free 2 (by simp)
  have P_t := P.there
  go_wp2_with fail
  refine (SBatch.to_any t _).mono ?_
  rintro e v2 ⟨rfl, hv2⟩
  clear P_0 P_1 P_2 P_f0 P_f1 P_f2 P_t
  replace P := P.more hv2
  have zhv2 := hv2.size
  clear hv2
  have P_0 := P.cells 0 _ rfl
  have P_1 := P.cells 1 _ rfl
  have P_2 := P.cells 2 _ rfl
  have P_f0 := P.free 0 (by simp)
  have P_f1 := P.free 1 (by simp)
  have P_f2 := P.free 2 (by simp)
  have P_t := P.there
  unfold SBatch.R.val
  go_wp2_with fail
  refine (BatU.pur_spec t _).mono ?_
  rintro e v3 ⟨rfl, hv3⟩
  clear P_0 P_1 P_2 P_f0 P_f1 P_f2 P_t
  replace P := P.more hv3
  have zhv3 := hv3.size
  clear hv3
  have P_0 := P.cells 0 _ rfl
  have P_1 := P.cells 1 _ rfl
  have P_2 := P.cells 2 _ rfl
  have P_f0 := P.free 0 (by simp)
  have P_f1 := P.free 1 (by simp)
  have P_f2 := P.free 2 (by simp)
  have P_t := P.there
  rw [HV.out]
  go_wp2_with fail
  refine (SBatch.to_any t _).mono ?_
  rintro e v4 ⟨rfl, hv4⟩
  clear P_0 P_1 P_2 P_f0 P_f1 P_f2 P_t
  replace P := P.more hv4
  have zhv4 := hv4.size
  clear hv4
  have P_0 := P.cells 0 _ rfl
  have P_1 := P.cells 1 _ rfl
  have P_2 := P.cells 2 _ rfl
  have P_f0 := P.free 0 (by simp)
  have P_f1 := P.free 1 (by simp)
  have P_f2 := P.free 2 (by simp)
  have P_t := P.there
  unfold SBatch.R.val
  go_wp2_with fail
  refine (BatU.pur_impl t _).mono ?_
  rintro e v5 ⟨rfl, hv5⟩
  clear P_0 P_1 P_2 P_f0 P_f1 P_f2 P_t
  replace P := P.more hv5
  have zhv5 := hv5.size
  clear hv5
  have P_0 := P.cells 0 _ rfl
  have P_1 := P.cells 1 _ rfl
  have P_2 := P.cells 2 _ rfl
  have P_f0 := P.free 0 (by simp)
  have P_f1 := P.free 1 (by simp)
  have P_f2 := P.free 2 (by simp)
  have P_t := P.there
  rw [HV.out]
  go_wp2
  go_ret
  exact ⟨rfl, P.below⟩
theorem aw_law (t : R) (v : Int) (d : Int) (w : World) : Calls Try.prog 7 #[.agg #[.int .i64 t.f0, .int .i64 t.f1, .int .i64 t.f2], .int .i64 v, .int .i64 d] w (Yes w) := by
  obtain ⟨z, n, q, hv⟩ := aw_form t v d
  have HV := Lib.hid hv; clear hv
  go_enter Try.func7, Try.ntmps7
  go_wp2_with fail
  have P := Box.new (Below.refl _ w) [.int .i64 t.f0, .int .i64 t.f1, .int .i64 t.f2] 51 (g := w.heap.size) rfl
  generalize (w.alloc (.cells #[.int .i64 t.f0, .int .i64 t.f1, .int .i64 t.f2] 51)) = W1 at P ⊢
  have P_0 := P.cells 0 _ rfl
  have P_1 := P.cells 1 _ rfl
  have P_2 := P.cells 2 _ rfl
  have P_f0 := P.free 0 (by simp)
  have P_f1 := P.free 1 (by simp)
  have P_f2 := P.free 2 (by simp)
  have P_t := P.there
  go_wp2_with fail
  refine (SBatch.to_any t _).mono ?_
  rintro e v2 ⟨rfl, hv2⟩
  clear P_0 P_1 P_2 P_f0 P_f1 P_f2 P_t
  replace P := P.more hv2
  have zhv2 := hv2.size
  clear hv2
  have P_0 := P.cells 0 _ rfl
  have P_1 := P.cells 1 _ rfl
  have P_2 := P.cells 2 _ rfl
  have P_f0 := P.free 0 (by simp)
  have P_f1 := P.free 1 (by simp)
  have P_f2 := P.free 2 (by simp)
  have P_t := P.there
  unfold SBatch.R.val
  go_wp2_with fail
  refine (BatV.aw_spec t v d _).mono ?_
  rintro e v3 ⟨rfl, hv3⟩
  clear P_0 P_1 P_2 P_f0 P_f1 P_f2 P_t
  replace P := P.more hv3
  have zhv3 := hv3.size
  clear hv3
  have P_0 := P.cells 0 _ rfl
  have P_1 := P.cells 1 _ rfl
  have P_2 := P.cells 2 _ rfl
  have P_f0 := P.free 0 (by simp)
  have P_f1 := P.free 1 (by simp)
  have P_f2 := P.free 2 (by simp)
  have P_t := P.there
  rw [HV.out]
  unfold R.val
  go_wp2_with fail
  have P_t4 := P.there
  have E := Box.new P.below [.int .i64 z.f0, .int .i64 z.f1, .int .i64 z.f2] 25 (g := v3.heap.size) rfl
  clear P_0 P_1 P_2 P_f0 P_f1 P_f2 P_t
  replace P := (P).alloc (.cells #[.int .i64 z.f0, .int .i64 z.f1, .int .i64 z.f2] 25)
  generalize (v3.alloc (.cells #[.int .i64 z.f0, .int .i64 z.f1, .int .i64 z.f2] 25)) = W4 at E P ⊢
  have P_0 := P.cells 0 _ rfl
  have P_1 := P.cells 1 _ rfl
  have P_2 := P.cells 2 _ rfl
  have P_f0 := P.free 0 (by simp)
  have P_f1 := P.free 1 (by simp)
  have P_f2 := P.free 2 (by simp)
  have P_t := P.there
  have E_0 := E.cells 0 _ rfl
  have E_1 := E.cells 1 _ rfl
  have E_2 := E.cells 2 _ rfl
  have E_f0 := E.free 0 (by simp)
  have E_f1 := E.free 1 (by simp)
  have E_f2 := E.free 2 (by simp)
  have E_t := E.there
  go_wp2_with fail
  refine (SBatch.to_any t _).mono ?_
  rintro e v5 ⟨rfl, hv5⟩
  clear P_0 P_1 P_2 P_f0 P_f1 P_f2 P_t
  clear E_0 E_1 E_2 E_f0 E_f1 E_f2 E_t
  replace P := P.more hv5
  replace E := E.more hv5
  have zhv5 := hv5.size
  clear hv5
  have P_0 := P.cells 0 _ rfl
  have P_1 := P.cells 1 _ rfl
  have P_2 := P.cells 2 _ rfl
  have P_f0 := P.free 0 (by simp)
  have P_f1 := P.free 1 (by simp)
  have P_f2 := P.free 2 (by simp)
  have P_t := P.there
  have E_0 := E.cells 0 _ rfl
  have E_1 := E.cells 1 _ rfl
  have E_2 := E.cells 2 _ rfl
  have E_f0 := E.free 0 (by simp)
  have E_f1 := E.free 1 (by simp)
  have E_f2 := E.free 2 (by simp)
  have E_t := E.there
  unfold SBatch.R.val
  go_wp2_with fail
  refine (BatV.aw_impl t v d _).mono ?_
  rintro e v6 ⟨rfl, hv6⟩
  clear P_0 P_1 P_2 P_f0 P_f1 P_f2 P_t
  clear E_0 E_1 E_2 E_f0 E_f1 E_f2 E_t
  replace P := P.more hv6
  replace E := E.more hv6
  have zhv6 := hv6.size
  clear hv6
  have P_0 := P.cells 0 _ rfl
  have P_1 := P.cells 1 _ rfl
  have P_2 := P.cells 2 _ rfl
  have P_f0 := P.free 0 (by simp)
  have P_f1 := P.free 1 (by simp)
  have P_f2 := P.free 2 (by simp)
  have P_t := P.there
  have E_0 := E.cells 0 _ rfl
  have E_1 := E.cells 1 _ rfl
  have E_2 := E.cells 2 _ rfl
  have E_f0 := E.free 0 (by simp)
  have E_f1 := E.free 1 (by simp)
  have E_f2 := E.free 2 (by simp)
  have E_t := E.there
  rw [HV.out]
  unfold R.val
  go_wp2_with fail
  have P_t7 := P.there
  have E_t7 := E.there
  have G := Box.new P.below [.int .i64 z.f0, .int .i64 z.f1, .int .i64 z.f2] 25 (g := v6.heap.size) rfl
  clear P_0 P_1 P_2 P_f0 P_f1 P_f2 P_t
  replace P := (P).alloc (.cells #[.int .i64 z.f0, .int .i64 z.f1, .int .i64 z.f2] 25)
  clear E_0 E_1 E_2 E_f0 E_f1 E_f2 E_t
  replace E := (E).alloc (.cells #[.int .i64 z.f0, .int .i64 z.f1, .int .i64 z.f2] 25)
  generalize (v6.alloc (.cells #[.int .i64 z.f0, .int .i64 z.f1, .int .i64 z.f2] 25)) = W7 at G P E ⊢
  have P_0 := P.cells 0 _ rfl
  have P_1 := P.cells 1 _ rfl
  have P_2 := P.cells 2 _ rfl
  have P_f0 := P.free 0 (by simp)
  have P_f1 := P.free 1 (by simp)
  have P_f2 := P.free 2 (by simp)
  have P_t := P.there
  have E_0 := E.cells 0 _ rfl
  have E_1 := E.cells 1 _ rfl
  have E_2 := E.cells 2 _ rfl
  have E_f0 := E.free 0 (by simp)
  have E_f1 := E.free 1 (by simp)
  have E_f2 := E.free 2 (by simp)
  have E_t := E.there
  have G_0 := G.cells 0 _ rfl
  have G_1 := G.cells 1 _ rfl
  have G_2 := G.cells 2 _ rfl
  have G_f0 := G.free 0 (by simp)
  have G_f1 := G.free 1 (by simp)
  have G_f2 := G.free 2 (by simp)
  have G_t := G.there
  go_wp2_with fail
  refine (SBatch.eq_any z z _).mono ?_
  rintro e v8 ⟨rfl, hv8⟩
  clear P_0 P_1 P_2 P_f0 P_f1 P_f2 P_t
  clear E_0 E_1 E_2 E_f0 E_f1 E_f2 E_t
  clear G_0 G_1 G_2 G_f0 G_f1 G_f2 G_t
  replace P := P.more hv8
  replace E := E.more hv8
  replace G := G.more hv8
  have zhv8 := hv8.size
  clear hv8
  have P_0 := P.cells 0 _ rfl
  have P_1 := P.cells 1 _ rfl
  have P_2 := P.cells 2 _ rfl
  have P_f0 := P.free 0 (by simp)
  have P_f1 := P.free 1 (by simp)
  have P_f2 := P.free 2 (by simp)
  have P_t := P.there
  have E_0 := E.cells 0 _ rfl
  have E_1 := E.cells 1 _ rfl
  have E_2 := E.cells 2 _ rfl
  have E_f0 := E.free 0 (by simp)
  have E_f1 := E.free 1 (by simp)
  have E_f2 := E.free 2 (by simp)
  have E_t := E.there
  have G_0 := G.cells 0 _ rfl
  have G_1 := G.cells 1 _ rfl
  have G_2 := G.cells 2 _ rfl
  have G_f0 := G.free 0 (by simp)
  have G_f1 := G.free 1 (by simp)
  have G_f2 := G.free 2 (by simp)
  have G_t := G.there
  rw [SBatch.same_self]
  go_wp2
  go_ret
  exact ⟨rfl, P.below⟩
theorem as_law (t : R) (v : Int) (n : Int) (w : World) : Calls Try.prog 8 #[.agg #[.int .i64 t.f0, .int .i64 t.f1, .int .i64 t.f2], .int .i64 v, .int .i64 n] w (Yes w) := by
  obtain ⟨z, q, hv⟩ := as_form t v n
  have HV := Lib.hid hv; clear hv
  go_enter Try.func8, Try.ntmps8
  go_wp2_with fail
  have P := Box.new (Below.refl _ w) [.int .i64 t.f0, .int .i64 t.f1, .int .i64 t.f2] 51 (g := w.heap.size) rfl
  generalize (w.alloc (.cells #[.int .i64 t.f0, .int .i64 t.f1, .int .i64 t.f2] 51)) = W1 at P ⊢
  have P_0 := P.cells 0 _ rfl
  have P_1 := P.cells 1 _ rfl
  have P_2 := P.cells 2 _ rfl
  have P_f0 := P.free 0 (by simp)
  have P_f1 := P.free 1 (by simp)
  have P_f2 := P.free 2 (by simp)
  have P_t := P.there
  go_wp2_with fail
  refine (SBatch.to_any t _).mono ?_
  rintro e v2 ⟨rfl, hv2⟩
  clear P_0 P_1 P_2 P_f0 P_f1 P_f2 P_t
  replace P := P.more hv2
  have zhv2 := hv2.size
  clear hv2
  have P_0 := P.cells 0 _ rfl
  have P_1 := P.cells 1 _ rfl
  have P_2 := P.cells 2 _ rfl
  have P_f0 := P.free 0 (by simp)
  have P_f1 := P.free 1 (by simp)
  have P_f2 := P.free 2 (by simp)
  have P_t := P.there
  unfold SBatch.R.val
  go_wp2_with fail
  refine (BatV.as_spec t v n _).mono ?_
  rintro e v3 ⟨rfl, hv3⟩
  clear P_0 P_1 P_2 P_f0 P_f1 P_f2 P_t
  replace P := P.more hv3
  have zhv3 := hv3.size
  clear hv3
  have P_0 := P.cells 0 _ rfl
  have P_1 := P.cells 1 _ rfl
  have P_2 := P.cells 2 _ rfl
  have P_f0 := P.free 0 (by simp)
  have P_f1 := P.free 1 (by simp)
  have P_f2 := P.free 2 (by simp)
  have P_t := P.there
  rw [HV.out]
  unfold R.val
  go_wp2_with fail
  have P_t4 := P.there
  have E := Box.new P.below [.int .i64 z.f0, .int .i64 z.f1, .int .i64 z.f2] 25 (g := v3.heap.size) rfl
  clear P_0 P_1 P_2 P_f0 P_f1 P_f2 P_t
  replace P := (P).alloc (.cells #[.int .i64 z.f0, .int .i64 z.f1, .int .i64 z.f2] 25)
  generalize (v3.alloc (.cells #[.int .i64 z.f0, .int .i64 z.f1, .int .i64 z.f2] 25)) = W4 at E P ⊢
  have P_0 := P.cells 0 _ rfl
  have P_1 := P.cells 1 _ rfl
  have P_2 := P.cells 2 _ rfl
  have P_f0 := P.free 0 (by simp)
  have P_f1 := P.free 1 (by simp)
  have P_f2 := P.free 2 (by simp)
  have P_t := P.there
  have E_0 := E.cells 0 _ rfl
  have E_1 := E.cells 1 _ rfl
  have E_2 := E.cells 2 _ rfl
  have E_f0 := E.free 0 (by simp)
  have E_f1 := E.free 1 (by simp)
  have E_f2 := E.free 2 (by simp)
  have E_t := E.there
  go_wp2_with fail
  refine (SBatch.to_any t _).mono ?_
  rintro e v5 ⟨rfl, hv5⟩
  clear P_0 P_1 P_2 P_f0 P_f1 P_f2 P_t
  clear E_0 E_1 E_2 E_f0 E_f1 E_f2 E_t
  replace P := P.more hv5
  replace E := E.more hv5
  have zhv5 := hv5.size
  clear hv5
  have P_0 := P.cells 0 _ rfl
  have P_1 := P.cells 1 _ rfl
  have P_2 := P.cells 2 _ rfl
  have P_f0 := P.free 0 (by simp)
  have P_f1 := P.free 1 (by simp)
  have P_f2 := P.free 2 (by simp)
  have P_t := P.there
  have E_0 := E.cells 0 _ rfl
  have E_1 := E.cells 1 _ rfl
  have E_2 := E.cells 2 _ rfl
  have E_f0 := E.free 0 (by simp)
  have E_f1 := E.free 1 (by simp)
  have E_f2 := E.free 2 (by simp)
  have E_t := E.there
  unfold SBatch.R.val
  go_wp2_with fail
  refine (BatV.as_impl t v n _).mono ?_
  rintro e v6 ⟨rfl, hv6⟩
  clear P_0 P_1 P_2 P_f0 P_f1 P_f2 P_t
  clear E_0 E_1 E_2 E_f0 E_f1 E_f2 E_t
  replace P := P.more hv6
  replace E := E.more hv6
  have zhv6 := hv6.size
  clear hv6
  have P_0 := P.cells 0 _ rfl
  have P_1 := P.cells 1 _ rfl
  have P_2 := P.cells 2 _ rfl
  have P_f0 := P.free 0 (by simp)
  have P_f1 := P.free 1 (by simp)
  have P_f2 := P.free 2 (by simp)
  have P_t := P.there
  have E_0 := E.cells 0 _ rfl
  have E_1 := E.cells 1 _ rfl
  have E_2 := E.cells 2 _ rfl
  have E_f0 := E.free 0 (by simp)
  have E_f1 := E.free 1 (by simp)
  have E_f2 := E.free 2 (by simp)
  have E_t := E.there
  rw [HV.out]
  unfold R.val
  go_wp2_with fail
  have P_t7 := P.there
  have E_t7 := E.there
  have G := Box.new P.below [.int .i64 z.f0, .int .i64 z.f1, .int .i64 z.f2] 25 (g := v6.heap.size) rfl
  clear P_0 P_1 P_2 P_f0 P_f1 P_f2 P_t
  replace P := (P).alloc (.cells #[.int .i64 z.f0, .int .i64 z.f1, .int .i64 z.f2] 25)
  clear E_0 E_1 E_2 E_f0 E_f1 E_f2 E_t
  replace E := (E).alloc (.cells #[.int .i64 z.f0, .int .i64 z.f1, .int .i64 z.f2] 25)
  generalize (v6.alloc (.cells #[.int .i64 z.f0, .int .i64 z.f1, .int .i64 z.f2] 25)) = W7 at G P E ⊢
  have P_0 := P.cells 0 _ rfl
  have P_1 := P.cells 1 _ rfl
  have P_2 := P.cells 2 _ rfl
  have P_f0 := P.free 0 (by simp)
  have P_f1 := P.free 1 (by simp)
  have P_f2 := P.free 2 (by simp)
  have P_t := P.there
  have E_0 := E.cells 0 _ rfl
  have E_1 := E.cells 1 _ rfl
  have E_2 := E.cells 2 _ rfl
  have E_f0 := E.free 0 (by simp)
  have E_f1 := E.free 1 (by simp)
  have E_f2 := E.free 2 (by simp)
  have E_t := E.there
  have G_0 := G.cells 0 _ rfl
  have G_1 := G.cells 1 _ rfl
  have G_2 := G.cells 2 _ rfl
  have G_f0 := G.free 0 (by simp)
  have G_f1 := G.free 1 (by simp)
  have G_f2 := G.free 2 (by simp)
  have G_t := G.there
  go_wp2_with fail
  refine (SBatch.eq_any z z _).mono ?_
  rintro e v8 ⟨rfl, hv8⟩
  clear P_0 P_1 P_2 P_f0 P_f1 P_f2 P_t
  clear E_0 E_1 E_2 E_f0 E_f1 E_f2 E_t
  clear G_0 G_1 G_2 G_f0 G_f1 G_f2 G_t
  replace P := P.more hv8
  replace E := E.more hv8
  replace G := G.more hv8
  have zhv8 := hv8.size
  clear hv8
  have P_0 := P.cells 0 _ rfl
  have P_1 := P.cells 1 _ rfl
  have P_2 := P.cells 2 _ rfl
  have P_f0 := P.free 0 (by simp)
  have P_f1 := P.free 1 (by simp)
  have P_f2 := P.free 2 (by simp)
  have P_t := P.there
  have E_0 := E.cells 0 _ rfl
  have E_1 := E.cells 1 _ rfl
  have E_2 := E.cells 2 _ rfl
  have E_f0 := E.free 0 (by simp)
  have E_f1 := E.free 1 (by simp)
  have E_f2 := E.free 2 (by simp)
  have E_t := E.there
  have G_0 := G.cells 0 _ rfl
  have G_1 := G.cells 1 _ rfl
  have G_2 := G.cells 2 _ rfl
  have G_f0 := G.free 0 (by simp)
  have G_f1 := G.free 1 (by simp)
  have G_f2 := G.free 2 (by simp)
  have G_t := G.there
  rw [SBatch.same_self]
  go_wp2
  go_ret
  exact ⟨rfl, P.below⟩
theorem sn_law (t : R) (v : Int) (m : Int) (w : World) : Calls Try.prog 9 #[.agg #[.int .i64 t.f0, .int .i64 t.f1, .int .i64 t.f2], .int .i64 v, .int .i64 m] w (Yes w) := by
  obtain ⟨n, q, hv, _⟩ := sn_form t v m
  have HV := Lib.hid hv; clear hv
  go_enter Try.func9, Try.ntmps9
  go_wp2_with fail
  have P := Box.new (Below.refl _ w) [.int .i64 t.f0, .int .i64 t.f1, .int .i64 t.f2] 51 (g := w.heap.size) rfl
  generalize (w.alloc (.cells #[.int .i64 t.f0, .int .i64 t.f1, .int .i64 t.f2] 51)) = W1 at P ⊢
  have P_0 := P.cells 0 _ rfl
  have P_1 := P.cells 1 _ rfl
  have P_2 := P.cells 2 _ rfl
  have P_f0 := P.free 0 (by simp)
  have P_f1 := P.free 1 (by simp)
  have P_f2 := P.free 2 (by simp)
  have P_t := P.there
  go_wp2_with fail
  refine (SBatch.to_any t _).mono ?_
  rintro e v2 ⟨rfl, hv2⟩
  clear P_0 P_1 P_2 P_f0 P_f1 P_f2 P_t
  replace P := P.more hv2
  have zhv2 := hv2.size
  clear hv2
  have P_0 := P.cells 0 _ rfl
  have P_1 := P.cells 1 _ rfl
  have P_2 := P.cells 2 _ rfl
  have P_f0 := P.free 0 (by simp)
  have P_f1 := P.free 1 (by simp)
  have P_f2 := P.free 2 (by simp)
  have P_t := P.there
  unfold SBatch.R.val
  go_wp2_with fail
  refine (BatW.sn_spec t v m _).mono ?_
  rintro e v3 ⟨rfl, hv3⟩
  clear P_0 P_1 P_2 P_f0 P_f1 P_f2 P_t
  replace P := P.more hv3
  have zhv3 := hv3.size
  clear hv3
  have P_0 := P.cells 0 _ rfl
  have P_1 := P.cells 1 _ rfl
  have P_2 := P.cells 2 _ rfl
  have P_f0 := P.free 0 (by simp)
  have P_f1 := P.free 1 (by simp)
  have P_f2 := P.free 2 (by simp)
  have P_t := P.there
  rw [HV.out]
  go_wp2_with fail
  refine (SBatch.to_any t _).mono ?_
  rintro e v4 ⟨rfl, hv4⟩
  clear P_0 P_1 P_2 P_f0 P_f1 P_f2 P_t
  replace P := P.more hv4
  have zhv4 := hv4.size
  clear hv4
  have P_0 := P.cells 0 _ rfl
  have P_1 := P.cells 1 _ rfl
  have P_2 := P.cells 2 _ rfl
  have P_f0 := P.free 0 (by simp)
  have P_f1 := P.free 1 (by simp)
  have P_f2 := P.free 2 (by simp)
  have P_t := P.there
  unfold SBatch.R.val
  go_wp2_with fail
  refine (BatW.sn_impl t v m _).mono ?_
  rintro e v5 ⟨rfl, hv5⟩
  clear P_0 P_1 P_2 P_f0 P_f1 P_f2 P_t
  replace P := P.more hv5
  have zhv5 := hv5.size
  clear hv5
  have P_0 := P.cells 0 _ rfl
  have P_1 := P.cells 1 _ rfl
  have P_2 := P.cells 2 _ rfl
  have P_f0 := P.free 0 (by simp)
  have P_f1 := P.free 1 (by simp)
  have P_f2 := P.free 2 (by simp)
  have P_t := P.there
  rw [HV.out]
  go_wp2
  go_ret
  exact ⟨rfl, P.below⟩
theorem wn_law (t : R) (m : Int) (w : World) : Calls Try.prog 10 #[.agg #[.int .i64 t.f0, .int .i64 t.f1, .int .i64 t.f2], .int .i64 m] w (Yes w) := by
  obtain ⟨n, q, hv, _⟩ := wn_form t m
  have HV := Lib.hid hv; clear hv
  go_enter Try.func10, Try.ntmps10
  go_wp2_with fail
  have P := Box.new (Below.refl _ w) [.int .i64 t.f0, .int .i64 t.f1, .int .i64 t.f2] 51 (g := w.heap.size) rfl
  generalize (w.alloc (.cells #[.int .i64 t.f0, .int .i64 t.f1, .int .i64 t.f2] 51)) = W1 at P ⊢
  have P_0 := P.cells 0 _ rfl
  have P_1 := P.cells 1 _ rfl
  have P_2 := P.cells 2 _ rfl
  have P_f0 := P.free 0 (by simp)
  have P_f1 := P.free 1 (by simp)
  have P_f2 := P.free 2 (by simp)
  have P_t := P.there
  go_wp2_with fail
  refine (SBatch.to_any t _).mono ?_
  rintro e v2 ⟨rfl, hv2⟩
  clear P_0 P_1 P_2 P_f0 P_f1 P_f2 P_t
  replace P := P.more hv2
  have zhv2 := hv2.size
  clear hv2
  have P_0 := P.cells 0 _ rfl
  have P_1 := P.cells 1 _ rfl
  have P_2 := P.cells 2 _ rfl
  have P_f0 := P.free 0 (by simp)
  have P_f1 := P.free 1 (by simp)
  have P_f2 := P.free 2 (by simp)
  have P_t := P.there
  unfold SBatch.R.val
  go_wp2_with fail
  refine (BatW.wn_spec t m _).mono ?_
  rintro e v3 ⟨rfl, hv3⟩
  clear P_0 P_1 P_2 P_f0 P_f1 P_f2 P_t
  replace P := P.more hv3
  have zhv3 := hv3.size
  clear hv3
  have P_0 := P.cells 0 _ rfl
  have P_1 := P.cells 1 _ rfl
  have P_2 := P.cells 2 _ rfl
  have P_f0 := P.free 0 (by simp)
  have P_f1 := P.free 1 (by simp)
  have P_f2 := P.free 2 (by simp)
  have P_t := P.there
  rw [HV.out]
  go_wp2_with fail
  refine (SBatch.to_any t _).mono ?_
  rintro e v4 ⟨rfl, hv4⟩
  clear P_0 P_1 P_2 P_f0 P_f1 P_f2 P_t
  replace P := P.more hv4
  have zhv4 := hv4.size
  clear hv4
  have P_0 := P.cells 0 _ rfl
  have P_1 := P.cells 1 _ rfl
  have P_2 := P.cells 2 _ rfl
  have P_f0 := P.free 0 (by simp)
  have P_f1 := P.free 1 (by simp)
  have P_f2 := P.free 2 (by simp)
  have P_t := P.there
  unfold SBatch.R.val
  go_wp2_with fail
  refine (BatW.wn_impl t m _).mono ?_
  rintro e v5 ⟨rfl, hv5⟩
  clear P_0 P_1 P_2 P_f0 P_f1 P_f2 P_t
  replace P := P.more hv5
  have zhv5 := hv5.size
  clear hv5
  have P_0 := P.cells 0 _ rfl
  have P_1 := P.cells 1 _ rfl
  have P_2 := P.cells 2 _ rfl
  have P_f0 := P.free 0 (by simp)
  have P_f1 := P.free 1 (by simp)
  have P_f2 := P.free 2 (by simp)
  have P_t := P.there
  rw [HV.out]
  go_wp2
  go_ret
  exact ⟨rfl, P.below⟩
theorem dry_law (t : R) (p : Int) (w : World) : Calls Try.prog 12 #[.agg #[.int .i64 t.f0, .int .i64 t.f1, .int .i64 t.f2], .int .i64 p] w (Yes w) := by
  obtain ⟨z, n, q, hv⟩ := dry_form t p
  have HV := Lib.hid hv; clear hv
  go_enter Try.func12, Try.ntmps12
  go_wp2_with fail
  have P := Box.new (Below.refl _ w) [.int .i64 t.f0, .int .i64 t.f1, .int .i64 t.f2] 51 (g := w.heap.size) rfl
  generalize (w.alloc (.cells #[.int .i64 t.f0, .int .i64 t.f1, .int .i64 t.f2] 51)) = W1 at P ⊢
  have P_0 := P.cells 0 _ rfl
  have P_1 := P.cells 1 _ rfl
  have P_2 := P.cells 2 _ rfl
  have P_f0 := P.free 0 (by simp)
  have P_f1 := P.free 1 (by simp)
  have P_f2 := P.free 2 (by simp)
  have P_t := P.there
  go_wp2_with fail
  refine (SBatch.to_any t _).mono ?_
  rintro e v2 ⟨rfl, hv2⟩
  clear P_0 P_1 P_2 P_f0 P_f1 P_f2 P_t
  replace P := P.more hv2
  have zhv2 := hv2.size
  clear hv2
  have P_0 := P.cells 0 _ rfl
  have P_1 := P.cells 1 _ rfl
  have P_2 := P.cells 2 _ rfl
  have P_f0 := P.free 0 (by simp)
  have P_f1 := P.free 1 (by simp)
  have P_f2 := P.free 2 (by simp)
  have P_t := P.there
  unfold SBatch.R.val
  go_wp2_with fail
  refine (BatU.dry_spec t p _).mono ?_
  rintro e v3 ⟨rfl, hv3⟩
  clear P_0 P_1 P_2 P_f0 P_f1 P_f2 P_t
  replace P := P.more hv3
  have zhv3 := hv3.size
  clear hv3
  have P_0 := P.cells 0 _ rfl
  have P_1 := P.cells 1 _ rfl
  have P_2 := P.cells 2 _ rfl
  have P_f0 := P.free 0 (by simp)
  have P_f1 := P.free 1 (by simp)
  have P_f2 := P.free 2 (by simp)
  have P_t := P.there
  rw [HV.out]
  unfold R.val
  go_wp2_with fail
  have P_t4 := P.there
  have E := Box.new P.below [.int .i64 z.f0, .int .i64 z.f1, .int .i64 z.f2] 25 (g := v3.heap.size) rfl
  clear P_0 P_1 P_2 P_f0 P_f1 P_f2 P_t
  replace P := (P).alloc (.cells #[.int .i64 z.f0, .int .i64 z.f1, .int .i64 z.f2] 25)
  generalize (v3.alloc (.cells #[.int .i64 z.f0, .int .i64 z.f1, .int .i64 z.f2] 25)) = W4 at E P ⊢
  have P_0 := P.cells 0 _ rfl
  have P_1 := P.cells 1 _ rfl
  have P_2 := P.cells 2 _ rfl
  have P_f0 := P.free 0 (by simp)
  have P_f1 := P.free 1 (by simp)
  have P_f2 := P.free 2 (by simp)
  have P_t := P.there
  have E_0 := E.cells 0 _ rfl
  have E_1 := E.cells 1 _ rfl
  have E_2 := E.cells 2 _ rfl
  have E_f0 := E.free 0 (by simp)
  have E_f1 := E.free 1 (by simp)
  have E_f2 := E.free 2 (by simp)
  have E_t := E.there
  go_wp2_with fail
  refine (SBatch.to_any t _).mono ?_
  rintro e v5 ⟨rfl, hv5⟩
  clear P_0 P_1 P_2 P_f0 P_f1 P_f2 P_t
  clear E_0 E_1 E_2 E_f0 E_f1 E_f2 E_t
  replace P := P.more hv5
  replace E := E.more hv5
  have zhv5 := hv5.size
  clear hv5
  have P_0 := P.cells 0 _ rfl
  have P_1 := P.cells 1 _ rfl
  have P_2 := P.cells 2 _ rfl
  have P_f0 := P.free 0 (by simp)
  have P_f1 := P.free 1 (by simp)
  have P_f2 := P.free 2 (by simp)
  have P_t := P.there
  have E_0 := E.cells 0 _ rfl
  have E_1 := E.cells 1 _ rfl
  have E_2 := E.cells 2 _ rfl
  have E_f0 := E.free 0 (by simp)
  have E_f1 := E.free 1 (by simp)
  have E_f2 := E.free 2 (by simp)
  have E_t := E.there
  unfold SBatch.R.val
  go_wp2_with fail
  refine (BatU.dry_impl t p _).mono ?_
  rintro e v6 ⟨rfl, hv6⟩
  clear P_0 P_1 P_2 P_f0 P_f1 P_f2 P_t
  clear E_0 E_1 E_2 E_f0 E_f1 E_f2 E_t
  replace P := P.more hv6
  replace E := E.more hv6
  have zhv6 := hv6.size
  clear hv6
  have P_0 := P.cells 0 _ rfl
  have P_1 := P.cells 1 _ rfl
  have P_2 := P.cells 2 _ rfl
  have P_f0 := P.free 0 (by simp)
  have P_f1 := P.free 1 (by simp)
  have P_f2 := P.free 2 (by simp)
  have P_t := P.there
  have E_0 := E.cells 0 _ rfl
  have E_1 := E.cells 1 _ rfl
  have E_2 := E.cells 2 _ rfl
  have E_f0 := E.free 0 (by simp)
  have E_f1 := E.free 1 (by simp)
  have E_f2 := E.free 2 (by simp)
  have E_t := E.there
  rw [HV.out]
  unfold R.val
  go_wp2_with fail
  have P_t7 := P.there
  have E_t7 := E.there
  have G := Box.new P.below [.int .i64 z.f0, .int .i64 z.f1, .int .i64 z.f2] 25 (g := v6.heap.size) rfl
  clear P_0 P_1 P_2 P_f0 P_f1 P_f2 P_t
  replace P := (P).alloc (.cells #[.int .i64 z.f0, .int .i64 z.f1, .int .i64 z.f2] 25)
  clear E_0 E_1 E_2 E_f0 E_f1 E_f2 E_t
  replace E := (E).alloc (.cells #[.int .i64 z.f0, .int .i64 z.f1, .int .i64 z.f2] 25)
  generalize (v6.alloc (.cells #[.int .i64 z.f0, .int .i64 z.f1, .int .i64 z.f2] 25)) = W7 at G P E ⊢
  have P_0 := P.cells 0 _ rfl
  have P_1 := P.cells 1 _ rfl
  have P_2 := P.cells 2 _ rfl
  have P_f0 := P.free 0 (by simp)
  have P_f1 := P.free 1 (by simp)
  have P_f2 := P.free 2 (by simp)
  have P_t := P.there
  have E_0 := E.cells 0 _ rfl
  have E_1 := E.cells 1 _ rfl
  have E_2 := E.cells 2 _ rfl
  have E_f0 := E.free 0 (by simp)
  have E_f1 := E.free 1 (by simp)
  have E_f2 := E.free 2 (by simp)
  have E_t := E.there
  have G_0 := G.cells 0 _ rfl
  have G_1 := G.cells 1 _ rfl
  have G_2 := G.cells 2 _ rfl
  have G_f0 := G.free 0 (by simp)
  have G_f1 := G.free 1 (by simp)
  have G_f2 := G.free 2 (by simp)
  have G_t := G.there
  go_wp2_with fail
  refine (SBatch.eq_any z z _).mono ?_
  rintro e v8 ⟨rfl, hv8⟩
  clear P_0 P_1 P_2 P_f0 P_f1 P_f2 P_t
  clear E_0 E_1 E_2 E_f0 E_f1 E_f2 E_t
  clear G_0 G_1 G_2 G_f0 G_f1 G_f2 G_t
  replace P := P.more hv8
  replace E := E.more hv8
  replace G := G.more hv8
  have zhv8 := hv8.size
  clear hv8
  have P_0 := P.cells 0 _ rfl
  have P_1 := P.cells 1 _ rfl
  have P_2 := P.cells 2 _ rfl
  have P_f0 := P.free 0 (by simp)
  have P_f1 := P.free 1 (by simp)
  have P_f2 := P.free 2 (by simp)
  have P_t := P.there
  have E_0 := E.cells 0 _ rfl
  have E_1 := E.cells 1 _ rfl
  have E_2 := E.cells 2 _ rfl
  have E_f0 := E.free 0 (by simp)
  have E_f1 := E.free 1 (by simp)
  have E_f2 := E.free 2 (by simp)
  have E_t := E.there
  have G_0 := G.cells 0 _ rfl
  have G_1 := G.cells 1 _ rfl
  have G_2 := G.cells 2 _ rfl
  have G_f0 := G.free 0 (by simp)
  have G_f1 := G.free 1 (by simp)
  have G_f2 := G.free 2 (by simp)
  have G_t := G.there
  rw [SBatch.same_self]
  go_wp2
  go_ret
  exact ⟨rfl, P.below⟩
set_option maxHeartbeats 8000000 in
theorem join_law (x y : R) (w : World) : Calls Try.prog 13 #[.agg #[.int .i64 x.f0, .int .i64 x.f1, .int .i64 x.f2], .agg #[.int .i64 y.f0, .int .i64 y.f1, .int .i64 y.f2]] w (Yes w) := by
  obtain ⟨z, q, hv⟩ := join_form x y
  have HV := Lib.hid hv; clear hv
  go_enter Try.func13, Try.ntmps13
  go_upto_region 1 with fail
  have P := (Box.new (Below.refl _ w) [.int .i64 x.f0, .int .i64 x.f1, .int .i64 x.f2] 51 (g := w.heap.size) rfl).alloc (.cells #[.int .i64 y.f0, .int .i64 y.f1, .int .i64 y.f2] 51)
  have Q := Box.new (al (Below.refl _ w) (o := (.cells #[.int .i64 x.f0, .int .i64 x.f1, .int .i64 x.f2] 51))) [.int .i64 y.f0, .int .i64 y.f1, .int .i64 y.f2] 51 (g := w.heap.size + 1) (by simp only [size_alloc'])
  generalize ((w.alloc (.cells #[.int .i64 x.f0, .int .i64 x.f1, .int .i64 x.f2] 51)).alloc (.cells #[.int .i64 y.f0, .int .i64 y.f1, .int .i64 y.f2] 51)) = W1 at P Q ⊢
  have P_0 := P.cells 0 _ rfl
  have P_1 := P.cells 1 _ rfl
  have P_2 := P.cells 2 _ rfl
  have P_f0 := P.free 0 (by simp)
  have P_f1 := P.free 1 (by simp)
  have P_f2 := P.free 2 (by simp)
  have P_t := P.there
  have Q_0 := Q.cells 0 _ rfl
  have Q_1 := Q.cells 1 _ rfl
  have Q_2 := Q.cells 2 _ rfl
  have Q_f0 := Q.free 0 (by simp)
  have Q_f1 := Q.free 1 (by simp)
  have Q_f2 := Q.free 2 (by simp)
  have Q_t := Q.there
  clear P_0 P_1 P_2 P_f0 P_f1 P_f2 P_t
  clear Q_0 Q_1 Q_2 Q_f0 Q_f1 Q_f2 Q_t
  refine wp_region_rel [10, 11, 12, 13, 14, 9, 15, 16, 5, 6] (fun L f w' => (Box (w.heap.size) [.int .i64 x.f0, .int .i64 x.f1, .int .i64 x.f2] w w') ∧ (Box (w.heap.size + 1) [.int .i64 y.f0, .int .i64 y.f1, .int .i64 y.f2] w w') ∧ (L 0 → f 10 = .agg #[.int .i64 x.f0, .int .i64 x.f1, .int .i64 x.f2]) ∧ (L 1 → f 11 = .agg #[.int .i64 x.f0, .int .i64 x.f1, .int .i64 x.f2]) ∧ (L 2 → f 12 = .agg #[.int .i64 y.f0, .int .i64 y.f1, .int .i64 y.f2]) ∧ (L 3 → f 13 = .agg #[.int .i64 y.f0, .int .i64 y.f1, .int .i64 y.f2]) ∧ (L 4 → f 14 = .tuple #[.agg #[.int .i64 z.f0, .int .i64 z.f1, .int .i64 z.f2], .bool q]) ∧ (L 5 → f 9 = .tuple #[.agg #[.int .i64 z.f0, .int .i64 z.f1, .int .i64 z.f2], .bool q]) ∧ (L 6 → f 15 = .agg #[.int .i64 z.f0, .int .i64 z.f1, .int .i64 z.f2]) ∧ (L 7 → f 16 = .bool q) ∧ (L 8 → ¬ L 9 → ∃ g, f 5 = .pointer (some ⟨g, 0, none⟩) ∧ (g ≠ w.heap.size ∧ g ≠ w.heap.size + 1) ∧ Box g [.int .i64 0, .int .i64 0, .int .i64 0] w w') ∧ (L 9 → ∃ g, f 5 = .pointer (some ⟨g, 0, none⟩) ∧ (g ≠ w.heap.size ∧ g ≠ w.heap.size + 1) ∧ Box g [.int .i64 z.f0, .int .i64 z.f1, .int .i64 z.f2] w w') ∧ (L 10 → f 6 = .bool q)) (by kernel_rfl) (by kernel_rfl) (by kernel_rfl) (fun f => ⟨P.drew, Q.drew, fun h => h.elim, fun h => h.elim, fun h => h.elim, fun h => h.elim, fun h => h.elim, fun h => h.elim, fun h => h.elim, fun h => h.elim, fun h => h.elim, fun h => h.elim, fun h => h.elim⟩) ?_ ?_
  · apply RelH.op2
    · intro L f u K hN hS hK
      simp only [puts, Act.put, List.setIfInBounds_toArray, List.set_cons_zero, List.set_cons_succ, upd, Nat.reduceEqDiff, ↓reduceIte, if_true, if_false] at hK ⊢
      have HS9 := Lib.hid hS
      obtain ⟨qP, qQ, c0, c1, c2, c3, c4, c5, c6, c7, c8, c9, c10⟩ := hS
      have qP_0 := qP.cells 0 _ rfl
      have qP_1 := qP.cells 1 _ rfl
      have qP_2 := qP.cells 2 _ rfl
      clear c0 c1 c2 c3 c4 c5 c6 c7 c8 c9 c10
      go_simp
      obtain ⟨qP, qQ, c0, c1, c2, c3, c4, c5, c6, c7, c8, c9, c10⟩ := HS9.out
      exact hK.out _ _ ⟨qP, qQ, fun _ => rfl, fun h => c1 (h.resolve_right (by decide)), fun h => c2 (h.resolve_right (by decide)), fun h => c3 (h.resolve_right (by decide)), fun h => c4 (h.resolve_right (by decide)), fun h => c5 (h.resolve_right (by decide)), fun h => c6 (h.resolve_right (by decide)), fun h => c7 (h.resolve_right (by decide)), fun h t0 => c8 (h.resolve_right (by decide)) (fun z => t0 (.inl z)), fun h => c9 (h.resolve_right (by decide)), fun h => c10 (h.resolve_right (by decide))⟩ _ rfl
    apply RelH.op2
    · intro L f u K hN hS hK
      simp only [puts, Act.put, List.setIfInBounds_toArray, List.set_cons_zero, List.set_cons_succ, upd, Nat.reduceEqDiff, ↓reduceIte, if_true, if_false] at hK ⊢
      have HS9 := Lib.hid hS
      obtain ⟨qP, qQ, c0, c1, c2, c3, c4, c5, c6, c7, c8, c9, c10⟩ := hS
      have e0 := c0 (hN.out.2 0 (by decide +kernel))
      have HCON := Lib.hid (SBatch.to_any x u)
      clear c0 c1 c2 c3 c4 c5 c6 c7 c8 c9 c10
      go_simp
      go_at_call 42
      (with_reducible refine HCON.out.mono ?_)
      rintro e uw1 ⟨rfl, hv⟩
      unfold SBatch.R.val
      go_wp2_with fail
      obtain ⟨qP, qQ, c0, c1, c2, c3, c4, c5, c6, c7, c8, c9, c10⟩ := HS9.out
      exact hK.out _ _ ⟨qP.more hv, qQ.more hv, fun h => c0 (h.resolve_right (by decide)), fun _ => rfl, fun h => c2 (h.resolve_right (by decide)), fun h => c3 (h.resolve_right (by decide)), fun h => c4 (h.resolve_right (by decide)), fun h => c5 (h.resolve_right (by decide)), fun h => c6 (h.resolve_right (by decide)), fun h => c7 (h.resolve_right (by decide)), fun h t0 => (let ⟨g, e, n, X⟩ := (c8 (h.resolve_right (by decide)) (fun z => t0 (.inl z))); ⟨g, e, n, X.more hv⟩), fun h => (let ⟨g, e, n, X⟩ := (c9 (h.resolve_right (by decide))); ⟨g, e, n, X.more hv⟩), fun h => c10 (h.resolve_right (by decide))⟩ _ (by simp only [e0] <;> rfl)
    apply RelH.op2
    · intro L f u K hN hS hK
      simp only [puts, Act.put, List.setIfInBounds_toArray, List.set_cons_zero, List.set_cons_succ, upd, Nat.reduceEqDiff, ↓reduceIte, if_true, if_false] at hK ⊢
      have HS9 := Lib.hid hS
      obtain ⟨qP, qQ, c0, c1, c2, c3, c4, c5, c6, c7, c8, c9, c10⟩ := hS
      have qQ_0 := qQ.cells 0 _ rfl
      have qQ_1 := qQ.cells 1 _ rfl
      have qQ_2 := qQ.cells 2 _ rfl
      clear c0 c1 c2 c3 c4 c5 c6 c7 c8 c9 c10
      go_simp
      obtain ⟨qP, qQ, c0, c1, c2, c3, c4, c5, c6, c7, c8, c9, c10⟩ := HS9.out
      exact hK.out _ _ ⟨qP, qQ, fun h => c0 (h.resolve_right (by decide)), fun h => c1 (h.resolve_right (by decide)), fun _ => rfl, fun h => c3 (h.resolve_right (by decide)), fun h => c4 (h.resolve_right (by decide)), fun h => c5 (h.resolve_right (by decide)), fun h => c6 (h.resolve_right (by decide)), fun h => c7 (h.resolve_right (by decide)), fun h t0 => c8 (h.resolve_right (by decide)) (fun z => t0 (.inl z)), fun h => c9 (h.resolve_right (by decide)), fun h => c10 (h.resolve_right (by decide))⟩ _ rfl
    apply RelH.op2
    · intro L f u K hN hS hK
      simp only [puts, Act.put, List.setIfInBounds_toArray, List.set_cons_zero, List.set_cons_succ, upd, Nat.reduceEqDiff, ↓reduceIte, if_true, if_false] at hK ⊢
      have HS9 := Lib.hid hS
      obtain ⟨qP, qQ, c0, c1, c2, c3, c4, c5, c6, c7, c8, c9, c10⟩ := hS
      have e2 := c2 (hN.out.2 2 (by decide +kernel))
      have HCON := Lib.hid (SBatch.to_any y u)
      clear c0 c1 c2 c3 c4 c5 c6 c7 c8 c9 c10
      go_simp
      go_at_call 42
      (with_reducible refine HCON.out.mono ?_)
      rintro e uw1 ⟨rfl, hv⟩
      unfold SBatch.R.val
      go_wp2_with fail
      obtain ⟨qP, qQ, c0, c1, c2, c3, c4, c5, c6, c7, c8, c9, c10⟩ := HS9.out
      exact hK.out _ _ ⟨qP.more hv, qQ.more hv, fun h => c0 (h.resolve_right (by decide)), fun h => c1 (h.resolve_right (by decide)), fun h => c2 (h.resolve_right (by decide)), fun _ => rfl, fun h => c4 (h.resolve_right (by decide)), fun h => c5 (h.resolve_right (by decide)), fun h => c6 (h.resolve_right (by decide)), fun h => c7 (h.resolve_right (by decide)), fun h t0 => (let ⟨g, e, n, X⟩ := (c8 (h.resolve_right (by decide)) (fun z => t0 (.inl z))); ⟨g, e, n, X.more hv⟩), fun h => (let ⟨g, e, n, X⟩ := (c9 (h.resolve_right (by decide))); ⟨g, e, n, X.more hv⟩), fun h => c10 (h.resolve_right (by decide))⟩ _ (by simp only [e2] <;> rfl)
    apply RelH.op2
    · intro L f u K hN hS hK
      simp only [puts, Act.put, List.setIfInBounds_toArray, List.set_cons_zero, List.set_cons_succ, upd, Nat.reduceEqDiff, ↓reduceIte, if_true, if_false] at hK ⊢
      have HS9 := Lib.hid hS
      obtain ⟨qP, qQ, c0, c1, c2, c3, c4, c5, c6, c7, c8, c9, c10⟩ := hS
      have e1 := c1 (hN.out.2 1 (by decide +kernel))
      have e3 := c3 (hN.out.2 3 (by decide +kernel))
      have HCON := Lib.hid (BatU.join_spec x y u)
      clear c0 c1 c2 c3 c4 c5 c6 c7 c8 c9 c10
      go_simp
      go_at_call 35
      (with_reducible refine HCON.out.mono ?_)
      rintro e uw1 ⟨rfl, hv⟩
      rw [HV.out]
      unfold SBatch.R.val
      go_wp2_with fail
      obtain ⟨qP, qQ, c0, c1, c2, c3, c4, c5, c6, c7, c8, c9, c10⟩ := HS9.out
      exact hK.out _ _ ⟨qP.more hv, qQ.more hv, fun h => c0 (h.resolve_right (by decide)), fun h => c1 (h.resolve_right (by decide)), fun h => c2 (h.resolve_right (by decide)), fun h => c3 (h.resolve_right (by decide)), fun _ => rfl, fun h => c5 (h.resolve_right (by decide)), fun h => c6 (h.resolve_right (by decide)), fun h => c7 (h.resolve_right (by decide)), fun h t0 => (let ⟨g, e, n, X⟩ := (c8 (h.resolve_right (by decide)) (fun z => t0 (.inl z))); ⟨g, e, n, X.more hv⟩), fun h => (let ⟨g, e, n, X⟩ := (c9 (h.resolve_right (by decide))); ⟨g, e, n, X.more hv⟩), fun h => c10 (h.resolve_right (by decide))⟩ _ (by simp only [e1, e3] <;> rfl)
    apply RelH.op2
    · intro L f u K hN hS hK
      simp only [puts, Act.put, List.setIfInBounds_toArray, List.set_cons_zero, List.set_cons_succ, upd, Nat.reduceEqDiff, ↓reduceIte, if_true, if_false] at hK ⊢
      have HS9 := Lib.hid hS
      obtain ⟨qP, qQ, c0, c1, c2, c3, c4, c5, c6, c7, c8, c9, c10⟩ := hS
      have e4 := c4 (hN.out.2 4 (by decide +kernel))
      clear c0 c1 c2 c3 c4 c5 c6 c7 c8 c9 c10
      go_simp
      obtain ⟨qP, qQ, c0, c1, c2, c3, c4, c5, c6, c7, c8, c9, c10⟩ := HS9.out
      exact hK.out _ _ ⟨qP, qQ, fun h => c0 (h.resolve_right (by decide)), fun h => c1 (h.resolve_right (by decide)), fun h => c2 (h.resolve_right (by decide)), fun h => c3 (h.resolve_right (by decide)), fun h => c4 (h.resolve_right (by decide)), fun _ => rfl, fun h => c6 (h.resolve_right (by decide)), fun h => c7 (h.resolve_right (by decide)), fun h t0 => c8 (h.resolve_right (by decide)) (fun z => t0 (.inl z)), fun h => c9 (h.resolve_right (by decide)), fun h => c10 (h.resolve_right (by decide))⟩ _ (by simp only [e4] <;> rfl)
    apply RelH.op2
    · intro L f u K hN hS hK
      simp only [puts, Act.put, List.setIfInBounds_toArray, List.set_cons_zero, List.set_cons_succ, upd, Nat.reduceEqDiff, ↓reduceIte, if_true, if_false] at hK ⊢
      have HS9 := Lib.hid hS
      obtain ⟨qP, qQ, c0, c1, c2, c3, c4, c5, c6, c7, c8, c9, c10⟩ := hS
      have e5 := c5 (hN.out.2 5 (by decide +kernel))
      clear c0 c1 c2 c3 c4 c5 c6 c7 c8 c9 c10
      go_simp
      obtain ⟨qP, qQ, c0, c1, c2, c3, c4, c5, c6, c7, c8, c9, c10⟩ := HS9.out
      exact hK.out _ _ ⟨qP, qQ, fun h => c0 (h.resolve_right (by decide)), fun h => c1 (h.resolve_right (by decide)), fun h => c2 (h.resolve_right (by decide)), fun h => c3 (h.resolve_right (by decide)), fun h => c4 (h.resolve_right (by decide)), fun h => c5 (h.resolve_right (by decide)), fun _ => rfl, fun h => c7 (h.resolve_right (by decide)), fun h t0 => c8 (h.resolve_right (by decide)) (fun z => t0 (.inl z)), fun h => c9 (h.resolve_right (by decide)), fun h => c10 (h.resolve_right (by decide))⟩ _ (by simp only [e5] <;> rfl)
    apply RelH.op2
    · intro L f u K hN hS hK
      simp only [puts, Act.put, List.setIfInBounds_toArray, List.set_cons_zero, List.set_cons_succ, upd, Nat.reduceEqDiff, ↓reduceIte, if_true, if_false] at hK ⊢
      have HS9 := Lib.hid hS
      obtain ⟨qP, qQ, c0, c1, c2, c3, c4, c5, c6, c7, c8, c9, c10⟩ := hS
      have e5 := c5 (hN.out.2 5 (by decide +kernel))
      clear c0 c1 c2 c3 c4 c5 c6 c7 c8 c9 c10
      go_simp
      obtain ⟨qP, qQ, c0, c1, c2, c3, c4, c5, c6, c7, c8, c9, c10⟩ := HS9.out
      exact hK.out _ _ ⟨qP, qQ, fun h => c0 (h.resolve_right (by decide)), fun h => c1 (h.resolve_right (by decide)), fun h => c2 (h.resolve_right (by decide)), fun h => c3 (h.resolve_right (by decide)), fun h => c4 (h.resolve_right (by decide)), fun h => c5 (h.resolve_right (by decide)), fun h => c6 (h.resolve_right (by decide)), fun _ => rfl, fun h t0 => c8 (h.resolve_right (by decide)) (fun z => t0 (.inl z)), fun h => c9 (h.resolve_right (by decide)), fun h => c10 (h.resolve_right (by decide))⟩ _ (by simp only [e5] <;> rfl)
    apply RelH.op2
    · intro L f u K hN hS hK
      simp only [puts, Act.put, List.setIfInBounds_toArray, List.set_cons_zero, List.set_cons_succ, upd, Nat.reduceEqDiff, ↓reduceIte, if_true, if_false] at hK ⊢
      have HS9 := Lib.hid hS
      obtain ⟨qP, qQ, c0, c1, c2, c3, c4, c5, c6, c7, c8, c9, c10⟩ := hS
      have hv : Below u.heap.size u (u.alloc (.cells #[.int .i64 0, .int .i64 0, .int .i64 0] 25)) := al (Below.refl _ _)
      have hX := Box.new qP.below [.int .i64 0, .int .i64 0, .int .i64 0] 25 (g := u.heap.size) rfl
      have hne : u.heap.size ≠ w.heap.size ∧ u.heap.size ≠ w.heap.size + 1 := by have h8 := qP.there; have h9 := qQ.there; omega
      clear c0 c1 c2 c3 c4 c5 c6 c7 c8 c9 c10
      go_simp
      obtain ⟨qP, qQ, c0, c1, c2, c3, c4, c5, c6, c7, c8, c9, c10⟩ := HS9.out
      exact hK.out _ _ ⟨qP.more hv, qQ.more hv, fun h => c0 (h.resolve_right (by decide)), fun h => c1 (h.resolve_right (by decide)), fun h => c2 (h.resolve_right (by decide)), fun h => c3 (h.resolve_right (by decide)), fun h => c4 (h.resolve_right (by decide)), fun h => c5 (h.resolve_right (by decide)), fun h => c6 (h.resolve_right (by decide)), fun h => c7 (h.resolve_right (by decide)), fun _ _ => ⟨_, rfl, hne, hX⟩, fun h => absurd (h.resolve_right (by decide)) (hN.out.1 9 (by decide +kernel)), fun h => c10 (h.resolve_right (by decide))⟩ _ rfl
    apply RelH.op2
    · intro L f u K hN hS hK
      simp only [puts, Act.put, List.setIfInBounds_toArray, List.set_cons_zero, List.set_cons_succ, upd, Nat.reduceEqDiff, ↓reduceIte, if_true, if_false] at hK ⊢
      have HS9 := Lib.hid hS
      obtain ⟨qP, qQ, c0, c1, c2, c3, c4, c5, c6, c7, c8, c9, c10⟩ := hS
      obtain ⟨g, e8, hne, X⟩ := c8 (hN.out.2 8 (by decide +kernel)) (hN.out.1 9 (by decide +kernel))
      have e6 := c6 (hN.out.2 6 (by decide +kernel))
      have X_0 := X.cells 0 _ rfl
      have X_1 := X.cells 1 _ rfl
      have X_2 := X.cells 2 _ rfl
      have X_f0 := X.free 0 (by simp)
      have X_f1 := X.free 1 (by simp)
      have X_f2 := X.free 2 (by simp)
      clear c0 c1 c2 c3 c4 c5 c6 c7 c8 c9 c10
      go_simp
      obtain ⟨qP, qQ, c0, c1, c2, c3, c4, c5, c6, c7, c8, c9, c10⟩ := HS9.out
      exact hK.out undef _ ⟨((qP.far X.base hne.1 0 _).far X.base hne.1 1 _).far X.base hne.1 2 _, ((qQ.far X.base hne.2 0 _).far X.base hne.2 1 _).far X.base hne.2 2 _, fun h => c0 (h.resolve_right (by decide)), fun h => c1 (h.resolve_right (by decide)), fun h => c2 (h.resolve_right (by decide)), fun h => c3 (h.resolve_right (by decide)), fun h => c4 (h.resolve_right (by decide)), fun h => c5 (h.resolve_right (by decide)), fun h => c6 (h.resolve_right (by decide)), fun h => c7 (h.resolve_right (by decide)), fun h t0 => (t0 (by simp)).elim, fun _ => ⟨g, e8, hne, ((X.set 0 (.int .i64 z.f0)).set 1 (.int .i64 z.f1)).set 2 (.int .i64 z.f2)⟩, fun h => c10 (h.resolve_right (by decide))⟩ _ (by simp only [e8, e6] <;> rfl)
    apply RelH.op2
    · intro L f u K hN hS hK
      simp only [puts, Act.put, List.setIfInBounds_toArray, List.set_cons_zero, List.set_cons_succ, upd, Nat.reduceEqDiff, ↓reduceIte, if_true, if_false] at hK ⊢
      have HS9 := Lib.hid hS
      obtain ⟨qP, qQ, c0, c1, c2, c3, c4, c5, c6, c7, c8, c9, c10⟩ := hS
      have e7 := c7 (hN.out.2 7 (by decide +kernel))
      clear c0 c1 c2 c3 c4 c5 c6 c7 c8 c9 c10
      go_simp
      obtain ⟨qP, qQ, c0, c1, c2, c3, c4, c5, c6, c7, c8, c9, c10⟩ := HS9.out
      exact hK.out _ _ ⟨qP, qQ, fun h => c0 (h.resolve_right (by decide)), fun h => c1 (h.resolve_right (by decide)), fun h => c2 (h.resolve_right (by decide)), fun h => c3 (h.resolve_right (by decide)), fun h => c4 (h.resolve_right (by decide)), fun h => c5 (h.resolve_right (by decide)), fun h => c6 (h.resolve_right (by decide)), fun h => c7 (h.resolve_right (by decide)), fun h t0 => c8 (h.resolve_right (by decide)) (fun z => t0 (.inl z)), fun h => c9 (h.resolve_right (by decide)), fun _ => rfl⟩ _ (by simp only [e7] <;> rfl)
    exact RelH.done
  intro L f V0 hL hS
  simp only [puts, Act.put, List.setIfInBounds_toArray, List.set_cons_zero, List.set_cons_succ]
  obtain ⟨qP, qQ, c0, c1, c2, c3, c4, c5, c6, c7, c8, c9, c10⟩ := hS
  clear P
  have P := qP; clear qP
  clear Q
  have Q := qQ; clear qQ
  obtain ⟨k, e9, hkk, E⟩ := c9 (hL 9 (by decide))
  have e0 := c0 (hL 0 (by decide)); have e1 := c1 (hL 1 (by decide)); have e2 := c2 (hL 2 (by decide)); have e3 := c3 (hL 3 (by decide)); have e4 := c4 (hL 4 (by decide)); have e5 := c5 (hL 5 (by decide)); have e6 := c6 (hL 6 (by decide)); have e7 := c7 (hL 7 (by decide)); have e10 := c10 (hL 10 (by decide))
  simp only [e0, e1, e2, e3, e4, e5, e6, e7, e9, e10]
  clear e0 e1 e2 e3 e4 e5 e6 e7 e9 e10 c0 c1 c2 c3 c4 c5 c6 c7 c8 c9 c10 hL
  go_upto_region 2 with fail
  refine wp_region_rel [18, 19, 20, 21, 22, 17, 23, 24, 7, 8] (fun L f w' => (Box (w.heap.size) [.int .i64 x.f0, .int .i64 x.f1, .int .i64 x.f2] w w') ∧ (Box (w.heap.size + 1) [.int .i64 y.f0, .int .i64 y.f1, .int .i64 y.f2] w w') ∧ (Box k [.int .i64 z.f0, .int .i64 z.f1, .int .i64 z.f2] w w') ∧ (L 0 → f 18 = .agg #[.int .i64 x.f0, .int .i64 x.f1, .int .i64 x.f2]) ∧ (L 1 → f 19 = .agg #[.int .i64 x.f0, .int .i64 x.f1, .int .i64 x.f2]) ∧ (L 2 → f 20 = .agg #[.int .i64 y.f0, .int .i64 y.f1, .int .i64 y.f2]) ∧ (L 3 → f 21 = .agg #[.int .i64 y.f0, .int .i64 y.f1, .int .i64 y.f2]) ∧ (L 4 → f 22 = .tuple #[.agg #[.int .i64 z.f0, .int .i64 z.f1, .int .i64 z.f2], .bool q]) ∧ (L 5 → f 17 = .tuple #[.agg #[.int .i64 z.f0, .int .i64 z.f1, .int .i64 z.f2], .bool q]) ∧ (L 6 → f 23 = .agg #[.int .i64 z.f0, .int .i64 z.f1, .int .i64 z.f2]) ∧ (L 7 → f 24 = .bool q) ∧ (L 8 → ¬ L 9 → ∃ g, f 7 = .pointer (some ⟨g, 0, none⟩) ∧ (g ≠ w.heap.size ∧ g ≠ w.heap.size + 1 ∧ g ≠ k) ∧ Box g [.int .i64 0, .int .i64 0, .int .i64 0] w w') ∧ (L 9 → ∃ g, f 7 = .pointer (some ⟨g, 0, none⟩) ∧ (g ≠ w.heap.size ∧ g ≠ w.heap.size + 1 ∧ g ≠ k) ∧ Box g [.int .i64 z.f0, .int .i64 z.f1, .int .i64 z.f2] w w') ∧ (L 10 → f 8 = .bool q)) (by kernel_rfl) (by kernel_rfl) (by kernel_rfl) (fun f => ⟨P.drew, Q.drew, E.drew, fun h => h.elim, fun h => h.elim, fun h => h.elim, fun h => h.elim, fun h => h.elim, fun h => h.elim, fun h => h.elim, fun h => h.elim, fun h => h.elim, fun h => h.elim, fun h => h.elim⟩) ?_ ?_
  · apply RelH.op2
    · intro L f u K hN hS hK
      simp only [puts, Act.put, List.setIfInBounds_toArray, List.set_cons_zero, List.set_cons_succ, upd, Nat.reduceEqDiff, ↓reduceIte, if_true, if_false] at hK ⊢
      have HS9 := Lib.hid hS
      obtain ⟨qP, qQ, qE, c0, c1, c2, c3, c4, c5, c6, c7, c8, c9, c10⟩ := hS
      have qP_0 := qP.cells 0 _ rfl
      have qP_1 := qP.cells 1 _ rfl
      have qP_2 := qP.cells 2 _ rfl
      clear c0 c1 c2 c3 c4 c5 c6 c7 c8 c9 c10
      go_simp
      obtain ⟨qP, qQ, qE, c0, c1, c2, c3, c4, c5, c6, c7, c8, c9, c10⟩ := HS9.out
      exact hK.out _ _ ⟨qP, qQ, qE, fun _ => rfl, fun h => c1 (h.resolve_right (by decide)), fun h => c2 (h.resolve_right (by decide)), fun h => c3 (h.resolve_right (by decide)), fun h => c4 (h.resolve_right (by decide)), fun h => c5 (h.resolve_right (by decide)), fun h => c6 (h.resolve_right (by decide)), fun h => c7 (h.resolve_right (by decide)), fun h t0 => c8 (h.resolve_right (by decide)) (fun z => t0 (.inl z)), fun h => c9 (h.resolve_right (by decide)), fun h => c10 (h.resolve_right (by decide))⟩ _ rfl
    apply RelH.op2
    · intro L f u K hN hS hK
      simp only [puts, Act.put, List.setIfInBounds_toArray, List.set_cons_zero, List.set_cons_succ, upd, Nat.reduceEqDiff, ↓reduceIte, if_true, if_false] at hK ⊢
      have HS9 := Lib.hid hS
      obtain ⟨qP, qQ, qE, c0, c1, c2, c3, c4, c5, c6, c7, c8, c9, c10⟩ := hS
      have e0 := c0 (hN.out.2 0 (by decide +kernel))
      have HCON := Lib.hid (SBatch.to_any x u)
      clear c0 c1 c2 c3 c4 c5 c6 c7 c8 c9 c10
      go_simp
      go_at_call 42
      (with_reducible refine HCON.out.mono ?_)
      rintro e uw1 ⟨rfl, hv⟩
      unfold SBatch.R.val
      go_wp2_with fail
      obtain ⟨qP, qQ, qE, c0, c1, c2, c3, c4, c5, c6, c7, c8, c9, c10⟩ := HS9.out
      exact hK.out _ _ ⟨qP.more hv, qQ.more hv, qE.more hv, fun h => c0 (h.resolve_right (by decide)), fun _ => rfl, fun h => c2 (h.resolve_right (by decide)), fun h => c3 (h.resolve_right (by decide)), fun h => c4 (h.resolve_right (by decide)), fun h => c5 (h.resolve_right (by decide)), fun h => c6 (h.resolve_right (by decide)), fun h => c7 (h.resolve_right (by decide)), fun h t0 => (let ⟨g, e, n, X⟩ := (c8 (h.resolve_right (by decide)) (fun z => t0 (.inl z))); ⟨g, e, n, X.more hv⟩), fun h => (let ⟨g, e, n, X⟩ := (c9 (h.resolve_right (by decide))); ⟨g, e, n, X.more hv⟩), fun h => c10 (h.resolve_right (by decide))⟩ _ (by simp only [e0] <;> rfl)
    apply RelH.op2
    · intro L f u K hN hS hK
      simp only [puts, Act.put, List.setIfInBounds_toArray, List.set_cons_zero, List.set_cons_succ, upd, Nat.reduceEqDiff, ↓reduceIte, if_true, if_false] at hK ⊢
      have HS9 := Lib.hid hS
      obtain ⟨qP, qQ, qE, c0, c1, c2, c3, c4, c5, c6, c7, c8, c9, c10⟩ := hS
      have qQ_0 := qQ.cells 0 _ rfl
      have qQ_1 := qQ.cells 1 _ rfl
      have qQ_2 := qQ.cells 2 _ rfl
      clear c0 c1 c2 c3 c4 c5 c6 c7 c8 c9 c10
      go_simp
      obtain ⟨qP, qQ, qE, c0, c1, c2, c3, c4, c5, c6, c7, c8, c9, c10⟩ := HS9.out
      exact hK.out _ _ ⟨qP, qQ, qE, fun h => c0 (h.resolve_right (by decide)), fun h => c1 (h.resolve_right (by decide)), fun _ => rfl, fun h => c3 (h.resolve_right (by decide)), fun h => c4 (h.resolve_right (by decide)), fun h => c5 (h.resolve_right (by decide)), fun h => c6 (h.resolve_right (by decide)), fun h => c7 (h.resolve_right (by decide)), fun h t0 => c8 (h.resolve_right (by decide)) (fun z => t0 (.inl z)), fun h => c9 (h.resolve_right (by decide)), fun h => c10 (h.resolve_right (by decide))⟩ _ rfl
    apply RelH.op2
    · intro L f u K hN hS hK
      simp only [puts, Act.put, List.setIfInBounds_toArray, List.set_cons_zero, List.set_cons_succ, upd, Nat.reduceEqDiff, ↓reduceIte, if_true, if_false] at hK ⊢
      have HS9 := Lib.hid hS
      obtain ⟨qP, qQ, qE, c0, c1, c2, c3, c4, c5, c6, c7, c8, c9, c10⟩ := hS
      have e2 := c2 (hN.out.2 2 (by decide +kernel))
      have HCON := Lib.hid (SBatch.to_any y u)
      clear c0 c1 c2 c3 c4 c5 c6 c7 c8 c9 c10
      go_simp
      go_at_call 42
      (with_reducible refine HCON.out.mono ?_)
      rintro e uw1 ⟨rfl, hv⟩
      unfold SBatch.R.val
      go_wp2_with fail
      obtain ⟨qP, qQ, qE, c0, c1, c2, c3, c4, c5, c6, c7, c8, c9, c10⟩ := HS9.out
      exact hK.out _ _ ⟨qP.more hv, qQ.more hv, qE.more hv, fun h => c0 (h.resolve_right (by decide)), fun h => c1 (h.resolve_right (by decide)), fun h => c2 (h.resolve_right (by decide)), fun _ => rfl, fun h => c4 (h.resolve_right (by decide)), fun h => c5 (h.resolve_right (by decide)), fun h => c6 (h.resolve_right (by decide)), fun h => c7 (h.resolve_right (by decide)), fun h t0 => (let ⟨g, e, n, X⟩ := (c8 (h.resolve_right (by decide)) (fun z => t0 (.inl z))); ⟨g, e, n, X.more hv⟩), fun h => (let ⟨g, e, n, X⟩ := (c9 (h.resolve_right (by decide))); ⟨g, e, n, X.more hv⟩), fun h => c10 (h.resolve_right (by decide))⟩ _ (by simp only [e2] <;> rfl)
    apply RelH.op2
    · intro L f u K hN hS hK
      simp only [puts, Act.put, List.setIfInBounds_toArray, List.set_cons_zero, List.set_cons_succ, upd, Nat.reduceEqDiff, ↓reduceIte, if_true, if_false] at hK ⊢
      have HS9 := Lib.hid hS
      obtain ⟨qP, qQ, qE, c0, c1, c2, c3, c4, c5, c6, c7, c8, c9, c10⟩ := hS
      have e1 := c1 (hN.out.2 1 (by decide +kernel))
      have e3 := c3 (hN.out.2 3 (by decide +kernel))
      have HCON := Lib.hid (BatU.join_impl x y u)
      clear c0 c1 c2 c3 c4 c5 c6 c7 c8 c9 c10
      go_simp
      go_at_call 34
      (with_reducible refine HCON.out.mono ?_)
      rintro e uw1 ⟨rfl, hv⟩
      rw [HV.out]
      unfold SBatch.R.val
      go_wp2_with fail
      obtain ⟨qP, qQ, qE, c0, c1, c2, c3, c4, c5, c6, c7, c8, c9, c10⟩ := HS9.out
      exact hK.out _ _ ⟨qP.more hv, qQ.more hv, qE.more hv, fun h => c0 (h.resolve_right (by decide)), fun h => c1 (h.resolve_right (by decide)), fun h => c2 (h.resolve_right (by decide)), fun h => c3 (h.resolve_right (by decide)), fun _ => rfl, fun h => c5 (h.resolve_right (by decide)), fun h => c6 (h.resolve_right (by decide)), fun h => c7 (h.resolve_right (by decide)), fun h t0 => (let ⟨g, e, n, X⟩ := (c8 (h.resolve_right (by decide)) (fun z => t0 (.inl z))); ⟨g, e, n, X.more hv⟩), fun h => (let ⟨g, e, n, X⟩ := (c9 (h.resolve_right (by decide))); ⟨g, e, n, X.more hv⟩), fun h => c10 (h.resolve_right (by decide))⟩ _ (by simp only [e1, e3] <;> rfl)
    apply RelH.op2
    · intro L f u K hN hS hK
      simp only [puts, Act.put, List.setIfInBounds_toArray, List.set_cons_zero, List.set_cons_succ, upd, Nat.reduceEqDiff, ↓reduceIte, if_true, if_false] at hK ⊢
      have HS9 := Lib.hid hS
      obtain ⟨qP, qQ, qE, c0, c1, c2, c3, c4, c5, c6, c7, c8, c9, c10⟩ := hS
      have e4 := c4 (hN.out.2 4 (by decide +kernel))
      clear c0 c1 c2 c3 c4 c5 c6 c7 c8 c9 c10
      go_simp
      obtain ⟨qP, qQ, qE, c0, c1, c2, c3, c4, c5, c6, c7, c8, c9, c10⟩ := HS9.out
      exact hK.out _ _ ⟨qP, qQ, qE, fun h => c0 (h.resolve_right (by decide)), fun h => c1 (h.resolve_right (by decide)), fun h => c2 (h.resolve_right (by decide)), fun h => c3 (h.resolve_right (by decide)), fun h => c4 (h.resolve_right (by decide)), fun _ => rfl, fun h => c6 (h.resolve_right (by decide)), fun h => c7 (h.resolve_right (by decide)), fun h t0 => c8 (h.resolve_right (by decide)) (fun z => t0 (.inl z)), fun h => c9 (h.resolve_right (by decide)), fun h => c10 (h.resolve_right (by decide))⟩ _ (by simp only [e4] <;> rfl)
    apply RelH.op2
    · intro L f u K hN hS hK
      simp only [puts, Act.put, List.setIfInBounds_toArray, List.set_cons_zero, List.set_cons_succ, upd, Nat.reduceEqDiff, ↓reduceIte, if_true, if_false] at hK ⊢
      have HS9 := Lib.hid hS
      obtain ⟨qP, qQ, qE, c0, c1, c2, c3, c4, c5, c6, c7, c8, c9, c10⟩ := hS
      have e5 := c5 (hN.out.2 5 (by decide +kernel))
      clear c0 c1 c2 c3 c4 c5 c6 c7 c8 c9 c10
      go_simp
      obtain ⟨qP, qQ, qE, c0, c1, c2, c3, c4, c5, c6, c7, c8, c9, c10⟩ := HS9.out
      exact hK.out _ _ ⟨qP, qQ, qE, fun h => c0 (h.resolve_right (by decide)), fun h => c1 (h.resolve_right (by decide)), fun h => c2 (h.resolve_right (by decide)), fun h => c3 (h.resolve_right (by decide)), fun h => c4 (h.resolve_right (by decide)), fun h => c5 (h.resolve_right (by decide)), fun _ => rfl, fun h => c7 (h.resolve_right (by decide)), fun h t0 => c8 (h.resolve_right (by decide)) (fun z => t0 (.inl z)), fun h => c9 (h.resolve_right (by decide)), fun h => c10 (h.resolve_right (by decide))⟩ _ (by simp only [e5] <;> rfl)
    apply RelH.op2
    · intro L f u K hN hS hK
      simp only [puts, Act.put, List.setIfInBounds_toArray, List.set_cons_zero, List.set_cons_succ, upd, Nat.reduceEqDiff, ↓reduceIte, if_true, if_false] at hK ⊢
      have HS9 := Lib.hid hS
      obtain ⟨qP, qQ, qE, c0, c1, c2, c3, c4, c5, c6, c7, c8, c9, c10⟩ := hS
      have e5 := c5 (hN.out.2 5 (by decide +kernel))
      clear c0 c1 c2 c3 c4 c5 c6 c7 c8 c9 c10
      go_simp
      obtain ⟨qP, qQ, qE, c0, c1, c2, c3, c4, c5, c6, c7, c8, c9, c10⟩ := HS9.out
      exact hK.out _ _ ⟨qP, qQ, qE, fun h => c0 (h.resolve_right (by decide)), fun h => c1 (h.resolve_right (by decide)), fun h => c2 (h.resolve_right (by decide)), fun h => c3 (h.resolve_right (by decide)), fun h => c4 (h.resolve_right (by decide)), fun h => c5 (h.resolve_right (by decide)), fun h => c6 (h.resolve_right (by decide)), fun _ => rfl, fun h t0 => c8 (h.resolve_right (by decide)) (fun z => t0 (.inl z)), fun h => c9 (h.resolve_right (by decide)), fun h => c10 (h.resolve_right (by decide))⟩ _ (by simp only [e5] <;> rfl)
    apply RelH.op2
    · intro L f u K hN hS hK
      simp only [puts, Act.put, List.setIfInBounds_toArray, List.set_cons_zero, List.set_cons_succ, upd, Nat.reduceEqDiff, ↓reduceIte, if_true, if_false] at hK ⊢
      have HS9 := Lib.hid hS
      obtain ⟨qP, qQ, qE, c0, c1, c2, c3, c4, c5, c6, c7, c8, c9, c10⟩ := hS
      have hv : Below u.heap.size u (u.alloc (.cells #[.int .i64 0, .int .i64 0, .int .i64 0] 25)) := al (Below.refl _ _)
      have hX := Box.new qP.below [.int .i64 0, .int .i64 0, .int .i64 0] 25 (g := u.heap.size) rfl
      have hne : u.heap.size ≠ w.heap.size ∧ u.heap.size ≠ w.heap.size + 1 ∧ u.heap.size ≠ k := by have h8 := qP.there; have h9 := qQ.there; have h7 := qE.there; omega
      clear c0 c1 c2 c3 c4 c5 c6 c7 c8 c9 c10
      go_simp
      obtain ⟨qP, qQ, qE, c0, c1, c2, c3, c4, c5, c6, c7, c8, c9, c10⟩ := HS9.out
      exact hK.out _ _ ⟨qP.more hv, qQ.more hv, qE.more hv, fun h => c0 (h.resolve_right (by decide)), fun h => c1 (h.resolve_right (by decide)), fun h => c2 (h.resolve_right (by decide)), fun h => c3 (h.resolve_right (by decide)), fun h => c4 (h.resolve_right (by decide)), fun h => c5 (h.resolve_right (by decide)), fun h => c6 (h.resolve_right (by decide)), fun h => c7 (h.resolve_right (by decide)), fun _ _ => ⟨_, rfl, hne, hX⟩, fun h => absurd (h.resolve_right (by decide)) (hN.out.1 9 (by decide +kernel)), fun h => c10 (h.resolve_right (by decide))⟩ _ rfl
    apply RelH.op2
    · intro L f u K hN hS hK
      simp only [puts, Act.put, List.setIfInBounds_toArray, List.set_cons_zero, List.set_cons_succ, upd, Nat.reduceEqDiff, ↓reduceIte, if_true, if_false] at hK ⊢
      have HS9 := Lib.hid hS
      obtain ⟨qP, qQ, qE, c0, c1, c2, c3, c4, c5, c6, c7, c8, c9, c10⟩ := hS
      obtain ⟨g, e8, hne, X⟩ := c8 (hN.out.2 8 (by decide +kernel)) (hN.out.1 9 (by decide +kernel))
      have e6 := c6 (hN.out.2 6 (by decide +kernel))
      have X_0 := X.cells 0 _ rfl
      have X_1 := X.cells 1 _ rfl
      have X_2 := X.cells 2 _ rfl
      have X_f0 := X.free 0 (by simp)
      have X_f1 := X.free 1 (by simp)
      have X_f2 := X.free 2 (by simp)
      clear c0 c1 c2 c3 c4 c5 c6 c7 c8 c9 c10
      go_simp
      obtain ⟨qP, qQ, qE, c0, c1, c2, c3, c4, c5, c6, c7, c8, c9, c10⟩ := HS9.out
      exact hK.out undef _ ⟨((qP.far X.base hne.1 0 _).far X.base hne.1 1 _).far X.base hne.1 2 _, ((qQ.far X.base hne.2.1 0 _).far X.base hne.2.1 1 _).far X.base hne.2.1 2 _, ((qE.far X.base hne.2.2 0 _).far X.base hne.2.2 1 _).far X.base hne.2.2 2 _, fun h => c0 (h.resolve_right (by decide)), fun h => c1 (h.resolve_right (by decide)), fun h => c2 (h.resolve_right (by decide)), fun h => c3 (h.resolve_right (by decide)), fun h => c4 (h.resolve_right (by decide)), fun h => c5 (h.resolve_right (by decide)), fun h => c6 (h.resolve_right (by decide)), fun h => c7 (h.resolve_right (by decide)), fun h t0 => (t0 (by simp)).elim, fun _ => ⟨g, e8, hne, ((X.set 0 (.int .i64 z.f0)).set 1 (.int .i64 z.f1)).set 2 (.int .i64 z.f2)⟩, fun h => c10 (h.resolve_right (by decide))⟩ _ (by simp only [e8, e6] <;> rfl)
    apply RelH.op2
    · intro L f u K hN hS hK
      simp only [puts, Act.put, List.setIfInBounds_toArray, List.set_cons_zero, List.set_cons_succ, upd, Nat.reduceEqDiff, ↓reduceIte, if_true, if_false] at hK ⊢
      have HS9 := Lib.hid hS
      obtain ⟨qP, qQ, qE, c0, c1, c2, c3, c4, c5, c6, c7, c8, c9, c10⟩ := hS
      have e7 := c7 (hN.out.2 7 (by decide +kernel))
      clear c0 c1 c2 c3 c4 c5 c6 c7 c8 c9 c10
      go_simp
      obtain ⟨qP, qQ, qE, c0, c1, c2, c3, c4, c5, c6, c7, c8, c9, c10⟩ := HS9.out
      exact hK.out _ _ ⟨qP, qQ, qE, fun h => c0 (h.resolve_right (by decide)), fun h => c1 (h.resolve_right (by decide)), fun h => c2 (h.resolve_right (by decide)), fun h => c3 (h.resolve_right (by decide)), fun h => c4 (h.resolve_right (by decide)), fun h => c5 (h.resolve_right (by decide)), fun h => c6 (h.resolve_right (by decide)), fun h => c7 (h.resolve_right (by decide)), fun h t0 => c8 (h.resolve_right (by decide)) (fun z => t0 (.inl z)), fun h => c9 (h.resolve_right (by decide)), fun _ => rfl⟩ _ (by simp only [e7] <;> rfl)
    exact RelH.done
  intro L f V1 hL hS
  simp only [puts, Act.put, List.setIfInBounds_toArray, List.set_cons_zero, List.set_cons_succ]
  obtain ⟨qP, qQ, qE, c0, c1, c2, c3, c4, c5, c6, c7, c8, c9, c10⟩ := hS
  clear P
  have P := qP; clear qP
  clear Q
  have Q := qQ; clear qQ
  clear E
  have E := qE; clear qE
  obtain ⟨k2, e9, hkk2, G⟩ := c9 (hL 9 (by decide))
  have e0 := c0 (hL 0 (by decide)); have e1 := c1 (hL 1 (by decide)); have e2 := c2 (hL 2 (by decide)); have e3 := c3 (hL 3 (by decide)); have e4 := c4 (hL 4 (by decide)); have e5 := c5 (hL 5 (by decide)); have e6 := c6 (hL 6 (by decide)); have e7 := c7 (hL 7 (by decide)); have e10 := c10 (hL 10 (by decide))
  simp only [e0, e1, e2, e3, e4, e5, e6, e7, e9, e10]
  clear e0 e1 e2 e3 e4 e5 e6 e7 e9 e10 c0 c1 c2 c3 c4 c5 c6 c7 c8 c9 c10 hL
  have P_0 := P.cells 0 _ rfl
  have P_1 := P.cells 1 _ rfl
  have P_2 := P.cells 2 _ rfl
  have P_f0 := P.free 0 (by simp)
  have P_f1 := P.free 1 (by simp)
  have P_f2 := P.free 2 (by simp)
  have P_t := P.there
  have Q_0 := Q.cells 0 _ rfl
  have Q_1 := Q.cells 1 _ rfl
  have Q_2 := Q.cells 2 _ rfl
  have Q_f0 := Q.free 0 (by simp)
  have Q_f1 := Q.free 1 (by simp)
  have Q_f2 := Q.free 2 (by simp)
  have Q_t := Q.there
  have E_0 := E.cells 0 _ rfl
  have E_1 := E.cells 1 _ rfl
  have E_2 := E.cells 2 _ rfl
  have E_f0 := E.free 0 (by simp)
  have E_f1 := E.free 1 (by simp)
  have E_f2 := E.free 2 (by simp)
  have E_t := E.there
  have G_0 := G.cells 0 _ rfl
  have G_1 := G.cells 1 _ rfl
  have G_2 := G.cells 2 _ rfl
  have G_f0 := G.free 0 (by simp)
  have G_f1 := G.free 1 (by simp)
  have G_f2 := G.free 2 (by simp)
  have G_t := G.there
  go_wp2_with fail
  refine (SBatch.eq_any z z _).mono ?_
  rintro e v1 ⟨rfl, hv1⟩
  clear P_0 P_1 P_2 P_f0 P_f1 P_f2 P_t
  clear Q_0 Q_1 Q_2 Q_f0 Q_f1 Q_f2 Q_t
  clear E_0 E_1 E_2 E_f0 E_f1 E_f2 E_t
  clear G_0 G_1 G_2 G_f0 G_f1 G_f2 G_t
  replace P := P.more hv1
  replace Q := Q.more hv1
  replace E := E.more hv1
  replace G := G.more hv1
  have zhv1 := hv1.size
  clear hv1
  have P_0 := P.cells 0 _ rfl
  have P_1 := P.cells 1 _ rfl
  have P_2 := P.cells 2 _ rfl
  have P_f0 := P.free 0 (by simp)
  have P_f1 := P.free 1 (by simp)
  have P_f2 := P.free 2 (by simp)
  have P_t := P.there
  have Q_0 := Q.cells 0 _ rfl
  have Q_1 := Q.cells 1 _ rfl
  have Q_2 := Q.cells 2 _ rfl
  have Q_f0 := Q.free 0 (by simp)
  have Q_f1 := Q.free 1 (by simp)
  have Q_f2 := Q.free 2 (by simp)
  have Q_t := Q.there
  have E_0 := E.cells 0 _ rfl
  have E_1 := E.cells 1 _ rfl
  have E_2 := E.cells 2 _ rfl
  have E_f0 := E.free 0 (by simp)
  have E_f1 := E.free 1 (by simp)
  have E_f2 := E.free 2 (by simp)
  have E_t := E.there
  have G_0 := G.cells 0 _ rfl
  have G_1 := G.cells 1 _ rfl
  have G_2 := G.cells 2 _ rfl
  have G_f0 := G.free 0 (by simp)
  have G_f1 := G.free 1 (by simp)
  have G_f2 := G.free 2 (by simp)
  have G_t := G.there
  rw [SBatch.same_self]
  go_wp2
  go_ret
  exact ⟨rfl, P.below⟩
end Go.Proofs.Ytpokgnkcnibapaa.Laws12a
