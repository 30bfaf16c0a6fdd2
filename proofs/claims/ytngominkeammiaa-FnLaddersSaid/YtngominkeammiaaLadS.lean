/- Ladders: the small functions of the model and of the program. -/
import Derived.Test.YtngominkeammiaaLadP
import Derived.Test.YtngominkeammiaaWithin
import Derived.Test.YtngominkeammiaaRegn2
import Derived.Test.YtngominkeammiaaKeep
import Derived.Test.YtngominkeammiaaIBrine
namespace Go.Proofs.Ytngominkeammiaa.LadS
open Go.RowKit Go.Proofs.Ytngominkeammiaa.Mem Go.Proofs.Ytngominkeammiaa.Base Go.Proofs.Ytngominkeammiaa.Within Go.Proofs.Ytngominkeammiaa.Brine Go.Proofs.Ytngominkeammiaa.Regn Go.Proofs.Ytngominkeammiaa.Boxes Go.Proofs.Ytngominkeammiaa.Keep Go.Proofs.Ytngominkeammiaa.LadP
open Go.Proofs.Ytngominkeammiaa.SRung hiding RPost rpost
set_option linter.unusedVariables false
set_option linter.unusedSimpArgs false
set_option maxRecDepth 100000
theorem cells2 {w W : World} {b o k : Nat} {l : List R} {x : R} (HB : Below w.heap.size w W) (hb : b < w.heap.size) (hc : ∀ (j : Nat) (v : Value), (flat l)[j]? = some v → w.cell? ⟨b, o + j, none⟩ = some v) (hlt : k < l.length) (hx : l[k] = x) :
    W.cell? ⟨b, o + k * 2, none⟩ = some (.int .i64 x.f0) ∧ W.cell? ⟨b, o + k * 2 + 1, none⟩ = some (.int .i64 x.f1) := by
  subst hx
  exact ⟨((bcell HB).1 _ _ hb).trans (hc _ _ (flat_0 l k hlt)), ((bcell HB).1 _ _ hb).trans (hc _ _ (flat_1 l k hlt))⟩
theorem one_impl (x : R) (w : World) : Calls Try.prog 62 #[.agg #[.int .i64 x.f0, .int .i64 x.f1]] w (RPost (.bool (okR x)) w) := by
  have HG := Lib.hid (show okR x = (inB x.f0 0 x.f1 && decide (x.f1 ≤ 1000)) from rfl)
  cases h0 : inB x.f0 0 x.f1
  all_goals
    go_enter Try.func62, Try.ntmps62
    go_wp2_with (go_at_call 61; (with_reducible refine (within_any _ _ _ _).mono ?_); rintro e' w' ⟨rfl, rfl⟩)
    go_ret
    exact rpost (by rw [HG.out, h0] <;> rfl) (al (Below.refl _ _))
theorem wd_impl (x : R) (h : okR x = true) (w : World) : Calls Try.prog 84 #[.agg #[.int .i64 x.f0, .int .i64 x.f1]] w (RPost (.int .i64 (wd x)) w) := by
  obtain ⟨h0, h1, h2⟩ := okR_true h
  have e1 : IntKind.i64.wrap (x.f1 - x.f0) = x.f1 - x.f0 := IntWalk.i64_in _ (by omega)
  have HV := Lib.hid (show wd x = x.f1 - x.f0 from rfl)
  clear h
  go_enter Try.func84, Try.ntmps84
  go_wp2
  go_ret
  exact rpost (by rw [HV.out] <;> rfl) (al (Below.refl _ _))
set_option maxHeartbeats 400000 in
theorem st_impl (x : R) (a b : Int) (h : okR x = true) (ho : okB a b = true) (w : World) : Calls Try.prog 67 #[.agg #[.int .i64 a, .int .i64 b], .agg #[.int .i64 x.f0, .int .i64 x.f1]] w (RPost (.bool (st x a b)) w) := by
  obtain ⟨p0, p1, p2, p3⟩ := prod_bd h ho
  obtain ⟨a0, a1, b0, b1⟩ := okB_true ho
  have e1 : IntKind.i64.wrap (x.f0 * (a + b)) = x.f0 * (a + b) := IntWalk.i64_in _ (by omega)
  have e2 : IntKind.i64.wrap (x.f1 * (a + b)) = x.f1 * (a + b) := IntWalk.i64_in _ (by omega)
  have e3 : IntKind.i64.wrap (1000 * b) = 1000 * b := IntWalk.i64_in _ (by omega)
  have HV := Lib.hid (show st x a b = inB (1000 * b) (x.f0 * (a + b)) (x.f1 * (a + b)) from rfl)
  clear h ho p0 p1 p2 p3
  go_enter Try.func67, Try.ntmps67
  go_wp2_with fail
  have B := (Box.new (Below.refl _ w) [.int .i64 a, .int .i64 b] 32 (g := w.heap.size) rfl).alloc (.cells #[.int .i64 x.f0, .int .i64 x.f1] 54)
  have X := Box.new (al (Below.refl _ w) (o := (.cells #[.int .i64 a, .int .i64 b] 32))) [.int .i64 x.f0, .int .i64 x.f1] 54 (g := w.heap.size + 1) (by simp only [size_alloc'])
  generalize ((w.alloc (.cells #[.int .i64 a, .int .i64 b] 32)).alloc (.cells #[.int .i64 x.f0, .int .i64 x.f1] 54)) = W1 at B X ⊢
  have B_0 := B.cells 0 _ rfl
  have B_1 := B.cells 1 _ rfl
  have B_f0 := B.free 0 (by simp)
  have B_f1 := B.free 1 (by simp)
  have B_t := B.there
  have X_0 := X.cells 0 _ rfl
  have X_1 := X.cells 1 _ rfl
  have X_f0 := X.free 0 (by simp)
  have X_f1 := X.free 1 (by simp)
  have X_t := X.there
  go_wp2_with fail
  refine (IBrine.mass_impl a b a0 a1 b0 b1 _).mono ?_
  rintro e v2 ⟨rfl, hv2⟩
  clear B_0 B_1 B_f0 B_f1 B_t
  clear X_0 X_1 X_f0 X_f1 X_t
  replace B := B.more hv2
  replace X := X.more hv2
  have zhv2 := hv2.size
  clear hv2
  have B_0 := B.cells 0 _ rfl
  have B_1 := B.cells 1 _ rfl
  have B_f0 := B.free 0 (by simp)
  have B_f1 := B.free 1 (by simp)
  have B_t := B.there
  have X_0 := X.cells 0 _ rfl
  have X_1 := X.cells 1 _ rfl
  have X_f0 := X.free 0 (by simp)
  have X_f1 := X.free 1 (by simp)
  have X_t := X.there
  go_wp2_with fail
  refine (within_any _ _ _ _).mono ?_
  rintro e _ ⟨rfl, rfl⟩
  go_wp2
  go_ret
  exact rpost (by rw [HV.out] <;> rfl) B.below
set_option maxHeartbeats 800000 in
theorem st_spec (x : R) (a b : Int) (h : okR x = true) (ho : okB a b = true) (w : World) : Calls Try.prog 69 #[.agg #[.int .i64 x.f0, .int .i64 x.f1], .agg #[.int .i64 a, .int .i64 b]] w (RPost (.bool (st x a b)) w) := by
  obtain ⟨p0, p1, p2, p3⟩ := prod_bd h ho
  obtain ⟨a0, a1, b0, b1⟩ := okB_true ho
  have e1 : IntKind.i64.wrap (x.f0 * (a + b)) = x.f0 * (a + b) := IntWalk.i64_in _ (by omega)
  have e2 : IntKind.i64.wrap (x.f1 * (a + b)) = x.f1 * (a + b) := IntWalk.i64_in _ (by omega)
  have e3 : IntKind.i64.wrap (1000 * b) = 1000 * b := IntWalk.i64_in _ (by omega)
  have HV := Lib.hid (show st x a b = inB (1000 * b) (x.f0 * (a + b)) (x.f1 * (a + b)) from rfl)
  clear h ho p0 p1 p2 p3
  go_enter Try.func69, Try.ntmps69
  go_wp2_with fail
  have X := (Box.new (Below.refl _ w) [.int .i64 x.f0, .int .i64 x.f1] 54 (g := w.heap.size) rfl).alloc (.cells #[.int .i64 a, .int .i64 b] 32)
  have B := Box.new (al (Below.refl _ w) (o := (.cells #[.int .i64 x.f0, .int .i64 x.f1] 54))) [.int .i64 a, .int .i64 b] 32 (g := w.heap.size + 1) (by simp only [size_alloc'])
  generalize ((w.alloc (.cells #[.int .i64 x.f0, .int .i64 x.f1] 54)).alloc (.cells #[.int .i64 a, .int .i64 b] 32)) = W1 at X B ⊢
  have X_0 := X.cells 0 _ rfl
  have X_1 := X.cells 1 _ rfl
  have X_f0 := X.free 0 (by simp)
  have X_f1 := X.free 1 (by simp)
  have X_t := X.there
  have B_0 := B.cells 0 _ rfl
  have B_1 := B.cells 1 _ rfl
  have B_f0 := B.free 0 (by simp)
  have B_f1 := B.free 1 (by simp)
  have B_t := B.there
  refine wp_region_text (fun w' => Box (w.heap.size) [.int .i64 x.f0, .int .i64 x.f1] w w' ∧ Box (w.heap.size + 1) [.int .i64 a, .int .i64 b] w w') (by kernel_rfl) (by kernel_rfl) ⟨X.drew, B.drew⟩ ?_
  clear X_0 X_1 X_f0 X_f1 X_t
  clear B_0 B_1 B_f0 B_f1 B_t
  iterate 15 (
    apply SeqH.one
    · intro uw K hS hK
      obtain ⟨qX, qB⟩ := hS
      have qB_0 := qB.cells 0 _ rfl
      have qB_1 := qB.cells 1 _ rfl
      have qX_0 := qX.cells 0 _ rfl
      have qX_1 := qX.cells 1 _ rfl
      first
        | (go_simp; exact hK.out _ ⟨qX, qB⟩)
        | (go_simp; go_at_call 82; (with_reducible refine (in_any _ _ _ _).mono ?_); rintro e _ ⟨rfl, rfl⟩; go_wp2_with fail; exact hK.out _ ⟨qX, qB⟩)
        | (go_simp; go_at_call 79; (with_reducible refine (mass_spec a b a0 a1 b0 b1 _).mono ?_); rintro e uw1 ⟨rfl, hv⟩; go_wp2_with fail; exact hK.out _ ⟨qX.more hv, qB.more hv⟩)
    try simp only [Act.put, List.setIfInBounds_toArray, List.set_cons_zero, List.set_cons_succ])
  refine SeqH.end' rfl ?_
  intro v2 hS
  clear X B
  obtain ⟨X, B⟩ := hS
  have X_0 := X.cells 0 _ rfl
  have X_1 := X.cells 1 _ rfl
  have X_f0 := X.free 0 (by simp)
  have X_f1 := X.free 1 (by simp)
  have X_t := X.there
  have B_0 := B.cells 0 _ rfl
  have B_1 := B.cells 1 _ rfl
  have B_f0 := B.free 0 (by simp)
  have B_f1 := B.free 1 (by simp)
  have B_t := B.there
  go_wp2
  go_ret
  exact rpost (by rw [HV.out] <;> rfl) B.below
end Go.Proofs.Ytngominkeammiaa.LadS
