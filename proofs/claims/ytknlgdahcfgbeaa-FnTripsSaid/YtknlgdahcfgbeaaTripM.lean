/- Trips: who meets, the program's and the model's. Made by tools/mk_tripm.py. -/
import Derived.Test.YtknlgdahcfgbeaaTripC
import Derived.Deep.Cut
import Derived.Deep.CutBlock
import Derived.Deep.CutRange
import Derived.Deep.DeepCutAuto
namespace Go.Proofs.Ytknlgdahcfgbeaa.TripM
open Go.RowKit Go.Proofs.Ytknlgdahcfgbeaa.Mem Go.Proofs.Ytknlgdahcfgbeaa.Base Go.Proofs.Ytknlgdahcfgbeaa.Within Go.Proofs.Ytknlgdahcfgbeaa.STrip Go.Proofs.Ytknlgdahcfgbeaa.Regn Go.Proofs.Ytknlgdahcfgbeaa.Boxes Go.Proofs.Ytknlgdahcfgbeaa.Keep Go.Proofs.Ytknlgdahcfgbeaa.TripP Go.Proofs.Ytknlgdahcfgbeaa.TripS Go.Proofs.Ytknlgdahcfgbeaa.TripC
set_option linter.unusedVariables false
set_option linter.unusedSimpArgs false
set_option maxRecDepth 100000
theorem ends_is {x y : R} {p q r s : Bool} (h1 : (x.f1 == y.f1) = p) (h2 : (x.f3 == y.f3) = q) (h3 : (x.f2 == y.f2) = r) (h4 : (arr x == arr y) = s) : ends x y = (p && q || r && s) := by
  unfold ends; rw [h1, h2, h3, h4]
theorem meet_ends {x y : R} (h : ends x y = true) : meetB x y = true := by unfold meetB; rw [h, Bool.or_true]
theorem crs_is {x y : R} {i j : Nat} {s1 e1 v1 s2 e2 v2 : Int} (h : cat x i = ⟨s1, e1, v1⟩) (h2 : cat y j = ⟨s2, e2, v2⟩) : crs x y i j = ((s1 == s2) && decide (e1 < v2) && decide (e2 < v1)) := by
  unfold cat at h h2
  injection h with a b c
  injection h2 with a' b' c'
  subst a; subst b; subst c; subst a'; subst b'; subst c'
  rfl
theorem onS_is {x y : R} {s : Int} {m n : Int} (h : ent x s = m) (h2 : ent y s = n) : onS x y s = (decide (0 ≤ m) && decide (0 ≤ n) && decide (m < n + 4) && decide (n < m + 4)) := by
  unfold onS; rw [h, h2]
set_option maxHeartbeats 4000000 in
theorem meet_impl (x y : R) (hx : okT x = true) (hy : okT y = true) (w : World) : Calls Try.prog 55 #[.agg #[.int .i64 x.f0, .int .i64 x.f1, .int .i64 x.f2, .int .i64 x.f3, .int .i64 x.f4], .agg #[.int .i64 y.f0, .int .i64 y.f1, .int .i64 y.f2, .int .i64 y.f3, .int .i64 y.f4]] w (RPost (.bool (meetB x y)) w) := by
  obtain ⟨_, _, a2, a3, a4, a5, _, a7, a8, _, _, _, _⟩ := okT_true hx
  have HAX := Lib.hid (fun W => arr_impl x a2 a3 a4 a5 a7 a8 W)
  clear a2 a3 a4 a5 a7 a8
  obtain ⟨_, _, a2, a3, a4, a5, _, a7, a8, _, _, _, _⟩ := okT_true hy
  have HAY := Lib.hid (fun W => arr_impl y a2 a3 a4 a5 a7 a8 W)
  clear a2 a3 a4 a5 a7 a8
  have HOX := Lib.hid hx
  have HOY := Lib.hid hy
  clear hx hy
  go_enter Try.func55, Try.ntmps55
  go_wp2_with fail
  have X := (Box.new (Below.refl _ w) [.int .i64 x.f0, .int .i64 x.f1, .int .i64 x.f2, .int .i64 x.f3, .int .i64 x.f4] 25 (g := w.heap.size) rfl).alloc (.cells #[.int .i64 y.f0, .int .i64 y.f1, .int .i64 y.f2, .int .i64 y.f3, .int .i64 y.f4] 25)
  have Y := Box.new (al (Below.refl _ w) (o := (.cells #[.int .i64 x.f0, .int .i64 x.f1, .int .i64 x.f2, .int .i64 x.f3, .int .i64 x.f4] 25))) [.int .i64 y.f0, .int .i64 y.f1, .int .i64 y.f2, .int .i64 y.f3, .int .i64 y.f4] 25 (g := w.heap.size + 1) (by simp only [size_alloc'])
  generalize ((w.alloc (.cells #[.int .i64 x.f0, .int .i64 x.f1, .int .i64 x.f2, .int .i64 x.f3, .int .i64 x.f4] 25)).alloc (.cells #[.int .i64 y.f0, .int .i64 y.f1, .int .i64 y.f2, .int .i64 y.f3, .int .i64 y.f4] 25)) = W1 at X Y ⊢
  have X_0 := X.cells 0 _ rfl
  have X_1 := X.cells 1 _ rfl
  have X_2 := X.cells 2 _ rfl
  have X_3 := X.cells 3 _ rfl
  have X_4 := X.cells 4 _ rfl
  have X_f0 := X.free 0 (by simp)
  have X_f1 := X.free 1 (by simp)
  have X_f2 := X.free 2 (by simp)
  have X_f3 := X.free 3 (by simp)
  have X_f4 := X.free 4 (by simp)
  have X_t := X.there
  have Y_0 := Y.cells 0 _ rfl
  have Y_1 := Y.cells 1 _ rfl
  have Y_2 := Y.cells 2 _ rfl
  have Y_3 := Y.cells 3 _ rfl
  have Y_4 := Y.cells 4 _ rfl
  have Y_f0 := Y.free 0 (by simp)
  have Y_f1 := Y.free 1 (by simp)
  have Y_f2 := Y.free 2 (by simp)
  have Y_f3 := Y.free 3 (by simp)
  have Y_f4 := Y.free 4 (by simp)
  have Y_t := Y.there
  go_cut [34] from 9 (fun v wc => ∃ q : Bool, v = .bool q ∧ Hid (ends x y = q) ∧ Box w.heap.size [.int .i64 x.f0, .int .i64 x.f1, .int .i64 x.f2, .int .i64 x.f3, .int .i64 x.f4] w wc ∧ Box (w.heap.size + 1) [.int .i64 y.f0, .int .i64 y.f1, .int .i64 y.f2, .int .i64 y.f3, .int .i64 y.f4] w wc)
  case first => as_aux_lemma =>
    cases g1 : (x.f1 == y.f1)
    · cases g3 : (x.f2 == y.f2)
      · have HE : ∃ q, ends x y = q ∧ q = false := ⟨_, rfl, by unfold ends; simp only [g1, g3, Bool.true_and, Bool.false_and, Bool.and_true, Bool.and_false, Bool.or_true, Bool.or_false, Bool.true_or, Bool.false_or]⟩
        have HQ := Lib.hid (HE.choose_spec.1.trans HE.choose_spec.2); clear HE
        refine wp_region_text (fun w' => Box (w.heap.size) [.int .i64 x.f0, .int .i64 x.f1, .int .i64 x.f2, .int .i64 x.f3, .int .i64 x.f4] w w' ∧ Box (w.heap.size + 1) [.int .i64 y.f0, .int .i64 y.f1, .int .i64 y.f2, .int .i64 y.f3, .int .i64 y.f4] w w') (by kernel_rfl) (by kernel_rfl) ⟨X.drew, Y.drew⟩ ?_
        clear X_0 X_1 X_2 X_3 X_4 X_f0 X_f1 X_f2 X_f3 X_f4 X_t
        clear Y_0 Y_1 Y_2 Y_3 Y_4 Y_f0 Y_f1 Y_f2 Y_f3 Y_f4 Y_t
        iterate 26 (
          apply SeqH.one
          · intro uw K hS hK
            obtain ⟨qX, qY⟩ := hS
            have qX_0 := qX.cells 0 _ rfl
            have qX_1 := qX.cells 1 _ rfl
            have qX_2 := qX.cells 2 _ rfl
            have qX_3 := qX.cells 3 _ rfl
            have qX_4 := qX.cells 4 _ rfl
            have qY_0 := qY.cells 0 _ rfl
            have qY_1 := qY.cells 1 _ rfl
            have qY_2 := qY.cells 2 _ rfl
            have qY_3 := qY.cells 3 _ rfl
            have qY_4 := qY.cells 4 _ rfl
            first
              | (go_simp; exact hK.out _ ⟨qX, qY⟩)
              | (go_simp; go_at_call 30; (with_reducible refine (HAX.out _).mono ?_); rintro e uw1 ⟨rfl, hv⟩; go_wp2_with fail; exact hK.out _ ⟨qX.more hv, qY.more hv⟩)
              | (go_simp; go_at_call 30; (with_reducible refine (HAY.out _).mono ?_); rintro e uw1 ⟨rfl, hv⟩; go_wp2_with fail; exact hK.out _ ⟨qX.more hv, qY.more hv⟩)
          try simp only [Act.put, List.setIfInBounds_toArray, List.set_cons_zero, List.set_cons_succ])
        refine SeqH.end' rfl ?_
        intro v2 hS
        clear X Y
        obtain ⟨X, Y⟩ := hS
        have X_0 := X.cells 0 _ rfl
        have X_1 := X.cells 1 _ rfl
        have X_2 := X.cells 2 _ rfl
        have X_3 := X.cells 3 _ rfl
        have X_4 := X.cells 4 _ rfl
        have X_f0 := X.free 0 (by simp)
        have X_f1 := X.free 1 (by simp)
        have X_f2 := X.free 2 (by simp)
        have X_f3 := X.free 3 (by simp)
        have X_f4 := X.free 4 (by simp)
        have X_t := X.there
        have Y_0 := Y.cells 0 _ rfl
        have Y_1 := Y.cells 1 _ rfl
        have Y_2 := Y.cells 2 _ rfl
        have Y_3 := Y.cells 3 _ rfl
        have Y_4 := Y.cells 4 _ rfl
        have Y_f0 := Y.free 0 (by simp)
        have Y_f1 := Y.free 1 (by simp)
        have Y_f2 := Y.free 2 (by simp)
        have Y_f3 := Y.free 3 (by simp)
        have Y_f4 := Y.free 4 (by simp)
        have Y_t := Y.there
        go_wp2_with fail
        go_meet
        case rel => exact ⟨_, rfl, HQ, X, Y⟩
      cases g4 : (arr x == arr y)
      · have HE : ∃ q, ends x y = q ∧ q = false := ⟨_, rfl, by unfold ends; simp only [g1, g3, g4, Bool.true_and, Bool.false_and, Bool.and_true, Bool.and_false, Bool.or_true, Bool.or_false, Bool.true_or, Bool.false_or]⟩
        have HQ := Lib.hid (HE.choose_spec.1.trans HE.choose_spec.2); clear HE
        refine wp_region_text (fun w' => Box (w.heap.size) [.int .i64 x.f0, .int .i64 x.f1, .int .i64 x.f2, .int .i64 x.f3, .int .i64 x.f4] w w' ∧ Box (w.heap.size + 1) [.int .i64 y.f0, .int .i64 y.f1, .int .i64 y.f2, .int .i64 y.f3, .int .i64 y.f4] w w') (by kernel_rfl) (by kernel_rfl) ⟨X.drew, Y.drew⟩ ?_
        clear X_0 X_1 X_2 X_3 X_4 X_f0 X_f1 X_f2 X_f3 X_f4 X_t
        clear Y_0 Y_1 Y_2 Y_3 Y_4 Y_f0 Y_f1 Y_f2 Y_f3 Y_f4 Y_t
        iterate 26 (
          apply SeqH.one
          · intro uw K hS hK
            obtain ⟨qX, qY⟩ := hS
            have qX_0 := qX.cells 0 _ rfl
            have qX_1 := qX.cells 1 _ rfl
            have qX_2 := qX.cells 2 _ rfl
            have qX_3 := qX.cells 3 _ rfl
            have qX_4 := qX.cells 4 _ rfl
            have qY_0 := qY.cells 0 _ rfl
            have qY_1 := qY.cells 1 _ rfl
            have qY_2 := qY.cells 2 _ rfl
            have qY_3 := qY.cells 3 _ rfl
            have qY_4 := qY.cells 4 _ rfl
            first
              | (go_simp; exact hK.out _ ⟨qX, qY⟩)
              | (go_simp; go_at_call 30; (with_reducible refine (HAX.out _).mono ?_); rintro e uw1 ⟨rfl, hv⟩; go_wp2_with fail; exact hK.out _ ⟨qX.more hv, qY.more hv⟩)
              | (go_simp; go_at_call 30; (with_reducible refine (HAY.out _).mono ?_); rintro e uw1 ⟨rfl, hv⟩; go_wp2_with fail; exact hK.out _ ⟨qX.more hv, qY.more hv⟩)
          try simp only [Act.put, List.setIfInBounds_toArray, List.set_cons_zero, List.set_cons_succ])
        refine SeqH.end' rfl ?_
        intro v1 hS
        clear X Y
        obtain ⟨X, Y⟩ := hS
        have X_0 := X.cells 0 _ rfl
        have X_1 := X.cells 1 _ rfl
        have X_2 := X.cells 2 _ rfl
        have X_3 := X.cells 3 _ rfl
        have X_4 := X.cells 4 _ rfl
        have X_f0 := X.free 0 (by simp)
        have X_f1 := X.free 1 (by simp)
        have X_f2 := X.free 2 (by simp)
        have X_f3 := X.free 3 (by simp)
        have X_f4 := X.free 4 (by simp)
        have X_t := X.there
        have Y_0 := Y.cells 0 _ rfl
        have Y_1 := Y.cells 1 _ rfl
        have Y_2 := Y.cells 2 _ rfl
        have Y_3 := Y.cells 3 _ rfl
        have Y_4 := Y.cells 4 _ rfl
        have Y_f0 := Y.free 0 (by simp)
        have Y_f1 := Y.free 1 (by simp)
        have Y_f2 := Y.free 2 (by simp)
        have Y_f3 := Y.free 3 (by simp)
        have Y_f4 := Y.free 4 (by simp)
        have Y_t := Y.there
        go_wp2_with fail
        go_meet
        case rel => exact ⟨_, rfl, HQ, X, Y⟩
      · have HE : ∃ q, ends x y = q ∧ q = true := ⟨_, rfl, by unfold ends; simp only [g1, g3, g4, Bool.true_and, Bool.false_and, Bool.and_true, Bool.and_false, Bool.or_true, Bool.or_false, Bool.true_or, Bool.false_or]⟩
        have HQ := Lib.hid (HE.choose_spec.1.trans HE.choose_spec.2); clear HE
        refine wp_region_text (fun w' => Box (w.heap.size) [.int .i64 x.f0, .int .i64 x.f1, .int .i64 x.f2, .int .i64 x.f3, .int .i64 x.f4] w w' ∧ Box (w.heap.size + 1) [.int .i64 y.f0, .int .i64 y.f1, .int .i64 y.f2, .int .i64 y.f3, .int .i64 y.f4] w w') (by kernel_rfl) (by kernel_rfl) ⟨X.drew, Y.drew⟩ ?_
        clear X_0 X_1 X_2 X_3 X_4 X_f0 X_f1 X_f2 X_f3 X_f4 X_t
        clear Y_0 Y_1 Y_2 Y_3 Y_4 Y_f0 Y_f1 Y_f2 Y_f3 Y_f4 Y_t
        iterate 26 (
          apply SeqH.one
          · intro uw K hS hK
            obtain ⟨qX, qY⟩ := hS
            have qX_0 := qX.cells 0 _ rfl
            have qX_1 := qX.cells 1 _ rfl
            have qX_2 := qX.cells 2 _ rfl
            have qX_3 := qX.cells 3 _ rfl
            have qX_4 := qX.cells 4 _ rfl
            have qY_0 := qY.cells 0 _ rfl
            have qY_1 := qY.cells 1 _ rfl
            have qY_2 := qY.cells 2 _ rfl
            have qY_3 := qY.cells 3 _ rfl
            have qY_4 := qY.cells 4 _ rfl
            first
              | (go_simp; exact hK.out _ ⟨qX, qY⟩)
              | (go_simp; go_at_call 30; (with_reducible refine (HAX.out _).mono ?_); rintro e uw1 ⟨rfl, hv⟩; go_wp2_with fail; exact hK.out _ ⟨qX.more hv, qY.more hv⟩)
              | (go_simp; go_at_call 30; (with_reducible refine (HAY.out _).mono ?_); rintro e uw1 ⟨rfl, hv⟩; go_wp2_with fail; exact hK.out _ ⟨qX.more hv, qY.more hv⟩)
          try simp only [Act.put, List.setIfInBounds_toArray, List.set_cons_zero, List.set_cons_succ])
        refine SeqH.end' rfl ?_
        intro v1 hS
        clear X Y
        obtain ⟨X, Y⟩ := hS
        have X_0 := X.cells 0 _ rfl
        have X_1 := X.cells 1 _ rfl
        have X_2 := X.cells 2 _ rfl
        have X_3 := X.cells 3 _ rfl
        have X_4 := X.cells 4 _ rfl
        have X_f0 := X.free 0 (by simp)
        have X_f1 := X.free 1 (by simp)
        have X_f2 := X.free 2 (by simp)
        have X_f3 := X.free 3 (by simp)
        have X_f4 := X.free 4 (by simp)
        have X_t := X.there
        have Y_0 := Y.cells 0 _ rfl
        have Y_1 := Y.cells 1 _ rfl
        have Y_2 := Y.cells 2 _ rfl
        have Y_3 := Y.cells 3 _ rfl
        have Y_4 := Y.cells 4 _ rfl
        have Y_f0 := Y.free 0 (by simp)
        have Y_f1 := Y.free 1 (by simp)
        have Y_f2 := Y.free 2 (by simp)
        have Y_f3 := Y.free 3 (by simp)
        have Y_f4 := Y.free 4 (by simp)
        have Y_t := Y.there
        go_wp2_with fail
        go_meet
        case rel => exact ⟨_, rfl, HQ, X, Y⟩
    cases g2 : (x.f3 == y.f3)
    · cases g3 : (x.f2 == y.f2)
      · have HE : ∃ q, ends x y = q ∧ q = false := ⟨_, rfl, by unfold ends; simp only [g1, g2, g3, Bool.true_and, Bool.false_and, Bool.and_true, Bool.and_false, Bool.or_true, Bool.or_false, Bool.true_or, Bool.false_or]⟩
        have HQ := Lib.hid (HE.choose_spec.1.trans HE.choose_spec.2); clear HE
        refine wp_region_text (fun w' => Box (w.heap.size) [.int .i64 x.f0, .int .i64 x.f1, .int .i64 x.f2, .int .i64 x.f3, .int .i64 x.f4] w w' ∧ Box (w.heap.size + 1) [.int .i64 y.f0, .int .i64 y.f1, .int .i64 y.f2, .int .i64 y.f3, .int .i64 y.f4] w w') (by kernel_rfl) (by kernel_rfl) ⟨X.drew, Y.drew⟩ ?_
        clear X_0 X_1 X_2 X_3 X_4 X_f0 X_f1 X_f2 X_f3 X_f4 X_t
        clear Y_0 Y_1 Y_2 Y_3 Y_4 Y_f0 Y_f1 Y_f2 Y_f3 Y_f4 Y_t
        iterate 26 (
          apply SeqH.one
          · intro uw K hS hK
            obtain ⟨qX, qY⟩ := hS
            have qX_0 := qX.cells 0 _ rfl
            have qX_1 := qX.cells 1 _ rfl
            have qX_2 := qX.cells 2 _ rfl
            have qX_3 := qX.cells 3 _ rfl
            have qX_4 := qX.cells 4 _ rfl
            have qY_0 := qY.cells 0 _ rfl
            have qY_1 := qY.cells 1 _ rfl
            have qY_2 := qY.cells 2 _ rfl
            have qY_3 := qY.cells 3 _ rfl
            have qY_4 := qY.cells 4 _ rfl
            first
              | (go_simp; exact hK.out _ ⟨qX, qY⟩)
              | (go_simp; go_at_call 30; (with_reducible refine (HAX.out _).mono ?_); rintro e uw1 ⟨rfl, hv⟩; go_wp2_with fail; exact hK.out _ ⟨qX.more hv, qY.more hv⟩)
              | (go_simp; go_at_call 30; (with_reducible refine (HAY.out _).mono ?_); rintro e uw1 ⟨rfl, hv⟩; go_wp2_with fail; exact hK.out _ ⟨qX.more hv, qY.more hv⟩)
          try simp only [Act.put, List.setIfInBounds_toArray, List.set_cons_zero, List.set_cons_succ])
        refine SeqH.end' rfl ?_
        intro v1 hS
        clear X Y
        obtain ⟨X, Y⟩ := hS
        have X_0 := X.cells 0 _ rfl
        have X_1 := X.cells 1 _ rfl
        have X_2 := X.cells 2 _ rfl
        have X_3 := X.cells 3 _ rfl
        have X_4 := X.cells 4 _ rfl
        have X_f0 := X.free 0 (by simp)
        have X_f1 := X.free 1 (by simp)
        have X_f2 := X.free 2 (by simp)
        have X_f3 := X.free 3 (by simp)
        have X_f4 := X.free 4 (by simp)
        have X_t := X.there
        have Y_0 := Y.cells 0 _ rfl
        have Y_1 := Y.cells 1 _ rfl
        have Y_2 := Y.cells 2 _ rfl
        have Y_3 := Y.cells 3 _ rfl
        have Y_4 := Y.cells 4 _ rfl
        have Y_f0 := Y.free 0 (by simp)
        have Y_f1 := Y.free 1 (by simp)
        have Y_f2 := Y.free 2 (by simp)
        have Y_f3 := Y.free 3 (by simp)
        have Y_f4 := Y.free 4 (by simp)
        have Y_t := Y.there
        go_wp2_with fail
        go_meet
        case rel => exact ⟨_, rfl, HQ, X, Y⟩
      cases g4 : (arr x == arr y)
      · have HE : ∃ q, ends x y = q ∧ q = false := ⟨_, rfl, by unfold ends; simp only [g1, g2, g3, g4, Bool.true_and, Bool.false_and, Bool.and_true, Bool.and_false, Bool.or_true, Bool.or_false, Bool.true_or, Bool.false_or]⟩
        have HQ := Lib.hid (HE.choose_spec.1.trans HE.choose_spec.2); clear HE
        refine wp_region_text (fun w' => Box (w.heap.size) [.int .i64 x.f0, .int .i64 x.f1, .int .i64 x.f2, .int .i64 x.f3, .int .i64 x.f4] w w' ∧ Box (w.heap.size + 1) [.int .i64 y.f0, .int .i64 y.f1, .int .i64 y.f2, .int .i64 y.f3, .int .i64 y.f4] w w') (by kernel_rfl) (by kernel_rfl) ⟨X.drew, Y.drew⟩ ?_
        clear X_0 X_1 X_2 X_3 X_4 X_f0 X_f1 X_f2 X_f3 X_f4 X_t
        clear Y_0 Y_1 Y_2 Y_3 Y_4 Y_f0 Y_f1 Y_f2 Y_f3 Y_f4 Y_t
        iterate 26 (
          apply SeqH.one
          · intro uw K hS hK
            obtain ⟨qX, qY⟩ := hS
            have qX_0 := qX.cells 0 _ rfl
            have qX_1 := qX.cells 1 _ rfl
            have qX_2 := qX.cells 2 _ rfl
            have qX_3 := qX.cells 3 _ rfl
            have qX_4 := qX.cells 4 _ rfl
            have qY_0 := qY.cells 0 _ rfl
            have qY_1 := qY.cells 1 _ rfl
            have qY_2 := qY.cells 2 _ rfl
            have qY_3 := qY.cells 3 _ rfl
            have qY_4 := qY.cells 4 _ rfl
            first
              | (go_simp; exact hK.out _ ⟨qX, qY⟩)
              | (go_simp; go_at_call 30; (with_reducible refine (HAX.out _).mono ?_); rintro e uw1 ⟨rfl, hv⟩; go_wp2_with fail; exact hK.out _ ⟨qX.more hv, qY.more hv⟩)
              | (go_simp; go_at_call 30; (with_reducible refine (HAY.out _).mono ?_); rintro e uw1 ⟨rfl, hv⟩; go_wp2_with fail; exact hK.out _ ⟨qX.more hv, qY.more hv⟩)
          try simp only [Act.put, List.setIfInBounds_toArray, List.set_cons_zero, List.set_cons_succ])
        refine SeqH.end' rfl ?_
        intro v1 hS
        clear X Y
        obtain ⟨X, Y⟩ := hS
        have X_0 := X.cells 0 _ rfl
        have X_1 := X.cells 1 _ rfl
        have X_2 := X.cells 2 _ rfl
        have X_3 := X.cells 3 _ rfl
        have X_4 := X.cells 4 _ rfl
        have X_f0 := X.free 0 (by simp)
        have X_f1 := X.free 1 (by simp)
        have X_f2 := X.free 2 (by simp)
        have X_f3 := X.free 3 (by simp)
        have X_f4 := X.free 4 (by simp)
        have X_t := X.there
        have Y_0 := Y.cells 0 _ rfl
        have Y_1 := Y.cells 1 _ rfl
        have Y_2 := Y.cells 2 _ rfl
        have Y_3 := Y.cells 3 _ rfl
        have Y_4 := Y.cells 4 _ rfl
        have Y_f0 := Y.free 0 (by simp)
        have Y_f1 := Y.free 1 (by simp)
        have Y_f2 := Y.free 2 (by simp)
        have Y_f3 := Y.free 3 (by simp)
        have Y_f4 := Y.free 4 (by simp)
        have Y_t := Y.there
        go_wp2_with fail
        go_meet
        case rel => exact ⟨_, rfl, HQ, X, Y⟩
      · have HE : ∃ q, ends x y = q ∧ q = true := ⟨_, rfl, by unfold ends; simp only [g1, g2, g3, g4, Bool.true_and, Bool.false_and, Bool.and_true, Bool.and_false, Bool.or_true, Bool.or_false, Bool.true_or, Bool.false_or]⟩
        have HQ := Lib.hid (HE.choose_spec.1.trans HE.choose_spec.2); clear HE
        refine wp_region_text (fun w' => Box (w.heap.size) [.int .i64 x.f0, .int .i64 x.f1, .int .i64 x.f2, .int .i64 x.f3, .int .i64 x.f4] w w' ∧ Box (w.heap.size + 1) [.int .i64 y.f0, .int .i64 y.f1, .int .i64 y.f2, .int .i64 y.f3, .int .i64 y.f4] w w') (by kernel_rfl) (by kernel_rfl) ⟨X.drew, Y.drew⟩ ?_
        clear X_0 X_1 X_2 X_3 X_4 X_f0 X_f1 X_f2 X_f3 X_f4 X_t
        clear Y_0 Y_1 Y_2 Y_3 Y_4 Y_f0 Y_f1 Y_f2 Y_f3 Y_f4 Y_t
        iterate 26 (
          apply SeqH.one
          · intro uw K hS hK
            obtain ⟨qX, qY⟩ := hS
            have qX_0 := qX.cells 0 _ rfl
            have qX_1 := qX.cells 1 _ rfl
            have qX_2 := qX.cells 2 _ rfl
            have qX_3 := qX.cells 3 _ rfl
            have qX_4 := qX.cells 4 _ rfl
            have qY_0 := qY.cells 0 _ rfl
            have qY_1 := qY.cells 1 _ rfl
            have qY_2 := qY.cells 2 _ rfl
            have qY_3 := qY.cells 3 _ rfl
            have qY_4 := qY.cells 4 _ rfl
            first
              | (go_simp; exact hK.out _ ⟨qX, qY⟩)
              | (go_simp; go_at_call 30; (with_reducible refine (HAX.out _).mono ?_); rintro e uw1 ⟨rfl, hv⟩; go_wp2_with fail; exact hK.out _ ⟨qX.more hv, qY.more hv⟩)
              | (go_simp; go_at_call 30; (with_reducible refine (HAY.out _).mono ?_); rintro e uw1 ⟨rfl, hv⟩; go_wp2_with fail; exact hK.out _ ⟨qX.more hv, qY.more hv⟩)
          try simp only [Act.put, List.setIfInBounds_toArray, List.set_cons_zero, List.set_cons_succ])
        refine SeqH.end' rfl ?_
        intro v1 hS
        clear X Y
        obtain ⟨X, Y⟩ := hS
        have X_0 := X.cells 0 _ rfl
        have X_1 := X.cells 1 _ rfl
        have X_2 := X.cells 2 _ rfl
        have X_3 := X.cells 3 _ rfl
        have X_4 := X.cells 4 _ rfl
        have X_f0 := X.free 0 (by simp)
        have X_f1 := X.free 1 (by simp)
        have X_f2 := X.free 2 (by simp)
        have X_f3 := X.free 3 (by simp)
        have X_f4 := X.free 4 (by simp)
        have X_t := X.there
        have Y_0 := Y.cells 0 _ rfl
        have Y_1 := Y.cells 1 _ rfl
        have Y_2 := Y.cells 2 _ rfl
        have Y_3 := Y.cells 3 _ rfl
        have Y_4 := Y.cells 4 _ rfl
        have Y_f0 := Y.free 0 (by simp)
        have Y_f1 := Y.free 1 (by simp)
        have Y_f2 := Y.free 2 (by simp)
        have Y_f3 := Y.free 3 (by simp)
        have Y_f4 := Y.free 4 (by simp)
        have Y_t := Y.there
        go_wp2_with fail
        go_meet
        case rel => exact ⟨_, rfl, HQ, X, Y⟩
    have HE : ∃ q, ends x y = q ∧ q = true := ⟨_, rfl, by unfold ends; simp only [g1, g2, Bool.true_and, Bool.false_and, Bool.and_true, Bool.and_false, Bool.or_true, Bool.or_false, Bool.true_or, Bool.false_or]⟩
    have HQ := Lib.hid (HE.choose_spec.1.trans HE.choose_spec.2); clear HE
    refine wp_region_text (fun w' => Box (w.heap.size) [.int .i64 x.f0, .int .i64 x.f1, .int .i64 x.f2, .int .i64 x.f3, .int .i64 x.f4] w w' ∧ Box (w.heap.size + 1) [.int .i64 y.f0, .int .i64 y.f1, .int .i64 y.f2, .int .i64 y.f3, .int .i64 y.f4] w w') (by kernel_rfl) (by kernel_rfl) ⟨X.drew, Y.drew⟩ ?_
    clear X_0 X_1 X_2 X_3 X_4 X_f0 X_f1 X_f2 X_f3 X_f4 X_t
    clear Y_0 Y_1 Y_2 Y_3 Y_4 Y_f0 Y_f1 Y_f2 Y_f3 Y_f4 Y_t
    iterate 26 (
      apply SeqH.one
      · intro uw K hS hK
        obtain ⟨qX, qY⟩ := hS
        have qX_0 := qX.cells 0 _ rfl
        have qX_1 := qX.cells 1 _ rfl
        have qX_2 := qX.cells 2 _ rfl
        have qX_3 := qX.cells 3 _ rfl
        have qX_4 := qX.cells 4 _ rfl
        have qY_0 := qY.cells 0 _ rfl
        have qY_1 := qY.cells 1 _ rfl
        have qY_2 := qY.cells 2 _ rfl
        have qY_3 := qY.cells 3 _ rfl
        have qY_4 := qY.cells 4 _ rfl
        first
          | (go_simp; exact hK.out _ ⟨qX, qY⟩)
          | (go_simp; go_at_call 30; (with_reducible refine (HAX.out _).mono ?_); rintro e uw1 ⟨rfl, hv⟩; go_wp2_with fail; exact hK.out _ ⟨qX.more hv, qY.more hv⟩)
          | (go_simp; go_at_call 30; (with_reducible refine (HAY.out _).mono ?_); rintro e uw1 ⟨rfl, hv⟩; go_wp2_with fail; exact hK.out _ ⟨qX.more hv, qY.more hv⟩)
      try simp only [Act.put, List.setIfInBounds_toArray, List.set_cons_zero, List.set_cons_succ])
    refine SeqH.end' rfl ?_
    intro v1 hS
    clear X Y
    obtain ⟨X, Y⟩ := hS
    have X_0 := X.cells 0 _ rfl
    have X_1 := X.cells 1 _ rfl
    have X_2 := X.cells 2 _ rfl
    have X_3 := X.cells 3 _ rfl
    have X_4 := X.cells 4 _ rfl
    have X_f0 := X.free 0 (by simp)
    have X_f1 := X.free 1 (by simp)
    have X_f2 := X.free 2 (by simp)
    have X_f3 := X.free 3 (by simp)
    have X_f4 := X.free 4 (by simp)
    have X_t := X.there
    have Y_0 := Y.cells 0 _ rfl
    have Y_1 := Y.cells 1 _ rfl
    have Y_2 := Y.cells 2 _ rfl
    have Y_3 := Y.cells 3 _ rfl
    have Y_4 := Y.cells 4 _ rfl
    have Y_f0 := Y.free 0 (by simp)
    have Y_f1 := Y.free 1 (by simp)
    have Y_f2 := Y.free 2 (by simp)
    have Y_f3 := Y.free 3 (by simp)
    have Y_f4 := Y.free 4 (by simp)
    have Y_t := Y.there
    go_wp2_with fail
    go_meet
    case rel => exact ⟨_, rfl, HQ, X, Y⟩
  case rest => as_aux_lemma =>
    clear X Y
    obtain ⟨q, rfl, HE, X, Y⟩ := hcut
    have X_0 := X.cells 0 _ rfl
    have X_1 := X.cells 1 _ rfl
    have X_2 := X.cells 2 _ rfl
    have X_3 := X.cells 3 _ rfl
    have X_4 := X.cells 4 _ rfl
    have X_f0 := X.free 0 (by simp)
    have X_f1 := X.free 1 (by simp)
    have X_f2 := X.free 2 (by simp)
    have X_f3 := X.free 3 (by simp)
    have X_f4 := X.free 4 (by simp)
    have X_t := X.there
    have Y_0 := Y.cells 0 _ rfl
    have Y_1 := Y.cells 1 _ rfl
    have Y_2 := Y.cells 2 _ rfl
    have Y_3 := Y.cells 3 _ rfl
    have Y_4 := Y.cells 4 _ rfl
    have Y_f0 := Y.free 0 (by simp)
    have Y_f1 := Y.free 1 (by simp)
    have Y_f2 := Y.free 2 (by simp)
    have Y_f3 := Y.free 3 (by simp)
    have Y_f4 := Y.free 4 (by simp)
    have Y_t := Y.there
    cases q
    · go_wp2_with fail
      refine (cross_impl x HOX.out _).mono ?_
      rintro e v1 ⟨A1, c1, rfl, O1, hv1⟩
      clear X_0 X_1 X_2 X_3 X_4 X_f0 X_f1 X_f2 X_f3 X_f4 X_t
      clear Y_0 Y_1 Y_2 Y_3 Y_4 Y_f0 Y_f1 Y_f2 Y_f3 Y_f4 Y_t
      replace X := X.more hv1
      replace Y := Y.more hv1
      have zhv1 := hv1.size
      clear hv1
      have X_0 := X.cells 0 _ rfl
      have X_1 := X.cells 1 _ rfl
      have X_2 := X.cells 2 _ rfl
      have X_3 := X.cells 3 _ rfl
      have X_4 := X.cells 4 _ rfl
      have X_f0 := X.free 0 (by simp)
      have X_f1 := X.free 1 (by simp)
      have X_f2 := X.free 2 (by simp)
      have X_f3 := X.free 3 (by simp)
      have X_f4 := X.free 4 (by simp)
      have X_t := X.there
      have Y_0 := Y.cells 0 _ rfl
      have Y_1 := Y.cells 1 _ rfl
      have Y_2 := Y.cells 2 _ rfl
      have Y_3 := Y.cells 3 _ rfl
      have Y_4 := Y.cells 4 _ rfl
      have Y_f0 := Y.free 0 (by simp)
      have Y_f1 := Y.free 1 (by simp)
      have Y_f2 := Y.free 2 (by simp)
      have Y_f3 := Y.free 3 (by simp)
      have Y_f4 := Y.free 4 (by simp)
      have Y_t := Y.there
      have R1 := RdL.of (Rd.of_own O1)
      clear O1
      obtain ⟨B1, hB1⟩ : ∃ B, v1.heap.size = B := ⟨_, rfl⟩
      rw [hB1] at R1; clear hB1
      obtain ⟨L1, hL1⟩ : ∃ L, crossL x (num x) = L := ⟨_, rfl⟩
      have HL1 := Lib.hid (show L1.length = num x by rw [← hL1, crossL_len])
      have HG1 := Lib.hid (show ∀ i (h : i < L1.length), L1[i] = cat x i by subst hL1; intro i h; exact crossL_get x _ i h)
      have hn1 : L1.length ≤ 9 := by have := (num_is HOX.out).2.2; rw [HL1.out]; exact this
      rw [hL1] at R1 ⊢
      clear hL1
      go_wp2_with fail
      clear X_0 X_1 X_2 X_3 X_4 X_f0 X_f1 X_f2 X_f3 X_f4 X_t
      clear Y_0 Y_1 Y_2 Y_3 Y_4 Y_f0 Y_f1 Y_f2 Y_f3 Y_f4 Y_t
      go_loopw [38] (fun i wr => ∃ k : Nat, k ≤ L1.length ∧ i = .int .i64 k ∧ Hid (∀ i j, i < k → j < num y → crs x y i j = false) ∧ RdL wr B1 A1 (cflat L1) ∧ Box w.heap.size [.int .i64 x.f0, .int .i64 x.f1, .int .i64 x.f2, .int .i64 x.f3, .int .i64 x.f4] w wr ∧ Box (w.heap.size + 1) [.int .i64 y.f0, .int .i64 y.f1, .int .i64 y.f2, .int .i64 y.f3, .int .i64 y.f4] w wr) (fun i _ => L1.length - (intOf i).toNat)
      case atStart => exact ⟨0, Nat.zero_le _, rfl, Lib.hid (fun i j h => by omega), R1, X, Y⟩
      case round =>
        clear X Y R1
        obtain ⟨k, hk, rfl, HA, R1, X, Y⟩ := hrel
        by_cases hlt : k < L1.length
        · obtain ⟨b, o, rfl, hb, hc⟩ := R1.2.at (k := k * 3) (by rw [cflat_n]; omega)
          have hbs : b < wr.heap.size := Nat.lt_of_lt_of_le hb R1.1
          obtain ⟨⟨s1, e1, v1⟩, hz⟩ : ∃ z, L1[k] = z := ⟨_, rfl⟩
          have d0 : wr.cell? ⟨b, o + k * 3, none⟩ = some (.int .i64 s1) := by rw [hc _ _ (cflat_0 L1 k hlt), hz]
          have d1 : wr.cell? ⟨b, o + k * 3 + 1, none⟩ = some (.int .i64 e1) := by rw [Nat.add_assoc, hc _ _ (cflat_1 L1 k hlt), hz]
          have d2 : wr.cell? ⟨b, o + k * 3 + 2, none⟩ = some (.int .i64 v1) := by rw [Nat.add_assoc, hc _ _ (cflat_2 L1 k hlt), hz]
          have HC1 := Lib.hid (show cat x k = ⟨s1, e1, v1⟩ by rw [← hz]; exact (HG1.out k hlt).symm)
          have HL := Lib.hid hlt
          have HKN := Lib.hid (show k < num x by rw [← HL1.out]; exact hlt)
          clear hz hc hb
          have X_0 := X.cells 0 _ rfl
          have X_1 := X.cells 1 _ rfl
          have X_2 := X.cells 2 _ rfl
          have X_3 := X.cells 3 _ rfl
          have X_4 := X.cells 4 _ rfl
          have X_f0 := X.free 0 (by simp)
          have X_f1 := X.free 1 (by simp)
          have X_f2 := X.free 2 (by simp)
          have X_f3 := X.free 3 (by simp)
          have X_f4 := X.free 4 (by simp)
          have X_t := X.there
          have Y_0 := Y.cells 0 _ rfl
          have Y_1 := Y.cells 1 _ rfl
          have Y_2 := Y.cells 2 _ rfl
          have Y_3 := Y.cells 3 _ rfl
          have Y_4 := Y.cells 4 _ rfl
          have Y_f0 := Y.free 0 (by simp)
          have Y_f1 := Y.free 1 (by simp)
          have Y_f2 := Y.free 2 (by simp)
          have Y_f3 := Y.free 3 (by simp)
          have Y_f4 := Y.free 4 (by simp)
          have Y_t := Y.there
          go_wp2_with fail
          have X_t1 := X.there
          have Y_t1 := Y.there
          have Z := Box.new X.below [.int .i64 s1, .int .i64 e1, .int .i64 v1] 51 (g := wr.heap.size) rfl
          clear X_0 X_1 X_2 X_3 X_4 X_f0 X_f1 X_f2 X_f3 X_f4 X_t
          replace X := (X).alloc (.cells #[.int .i64 s1, .int .i64 e1, .int .i64 v1] 51)
          clear Y_0 Y_1 Y_2 Y_3 Y_4 Y_f0 Y_f1 Y_f2 Y_f3 Y_f4 Y_t
          replace Y := (Y).alloc (.cells #[.int .i64 s1, .int .i64 e1, .int .i64 v1] 51)
          replace R1 := rdl_keep R1 (al (Below.refl _ _) (o := (.cells #[.int .i64 s1, .int .i64 e1, .int .i64 v1] 51)))
          generalize (wr.alloc (.cells #[.int .i64 s1, .int .i64 e1, .int .i64 v1] 51)) = W1 at Z X Y R1 ⊢
          have X_0 := X.cells 0 _ rfl
          have X_1 := X.cells 1 _ rfl
          have X_2 := X.cells 2 _ rfl
          have X_3 := X.cells 3 _ rfl
          have X_4 := X.cells 4 _ rfl
          have X_f0 := X.free 0 (by simp)
          have X_f1 := X.free 1 (by simp)
          have X_f2 := X.free 2 (by simp)
          have X_f3 := X.free 3 (by simp)
          have X_f4 := X.free 4 (by simp)
          have X_t := X.there
          have Y_0 := Y.cells 0 _ rfl
          have Y_1 := Y.cells 1 _ rfl
          have Y_2 := Y.cells 2 _ rfl
          have Y_3 := Y.cells 3 _ rfl
          have Y_4 := Y.cells 4 _ rfl
          have Y_f0 := Y.free 0 (by simp)
          have Y_f1 := Y.free 1 (by simp)
          have Y_f2 := Y.free 2 (by simp)
          have Y_f3 := Y.free 3 (by simp)
          have Y_f4 := Y.free 4 (by simp)
          have Y_t := Y.there
          have Z_0 := Z.cells 0 _ rfl
          have Z_1 := Z.cells 1 _ rfl
          have Z_2 := Z.cells 2 _ rfl
          have Z_f0 := Z.free 0 (by simp)
          have Z_f1 := Z.free 1 (by simp)
          have Z_f2 := Z.free 2 (by simp)
          have Z_t := Z.there
          clear d0 d1 d2 hbs
          go_wp2_with fail
          refine (cross_impl y HOY.out _).mono ?_
          rintro e v2 ⟨A2, c2, rfl, O2, hv2⟩
          clear X_0 X_1 X_2 X_3 X_4 X_f0 X_f1 X_f2 X_f3 X_f4 X_t
          clear Y_0 Y_1 Y_2 Y_3 Y_4 Y_f0 Y_f1 Y_f2 Y_f3 Y_f4 Y_t
          clear Z_0 Z_1 Z_2 Z_f0 Z_f1 Z_f2 Z_t
          replace X := X.more hv2
          replace Y := Y.more hv2
          replace Z := Z.more hv2
          replace R1 := rdl_keep R1 hv2
          have zhv2 := hv2.size
          clear hv2
          have X_0 := X.cells 0 _ rfl
          have X_1 := X.cells 1 _ rfl
          have X_2 := X.cells 2 _ rfl
          have X_3 := X.cells 3 _ rfl
          have X_4 := X.cells 4 _ rfl
          have X_f0 := X.free 0 (by simp)
          have X_f1 := X.free 1 (by simp)
          have X_f2 := X.free 2 (by simp)
          have X_f3 := X.free 3 (by simp)
          have X_f4 := X.free 4 (by simp)
          have X_t := X.there
          have Y_0 := Y.cells 0 _ rfl
          have Y_1 := Y.cells 1 _ rfl
          have Y_2 := Y.cells 2 _ rfl
          have Y_3 := Y.cells 3 _ rfl
          have Y_4 := Y.cells 4 _ rfl
          have Y_f0 := Y.free 0 (by simp)
          have Y_f1 := Y.free 1 (by simp)
          have Y_f2 := Y.free 2 (by simp)
          have Y_f3 := Y.free 3 (by simp)
          have Y_f4 := Y.free 4 (by simp)
          have Y_t := Y.there
          have Z_0 := Z.cells 0 _ rfl
          have Z_1 := Z.cells 1 _ rfl
          have Z_2 := Z.cells 2 _ rfl
          have Z_f0 := Z.free 0 (by simp)
          have Z_f1 := Z.free 1 (by simp)
          have Z_f2 := Z.free 2 (by simp)
          have Z_t := Z.there
          have R2 := RdL.of (Rd.of_own O2)
          clear O2
          obtain ⟨B2, hB2⟩ : ∃ B, v2.heap.size = B := ⟨_, rfl⟩
          rw [hB2] at R2; clear hB2
          obtain ⟨L2, hL2⟩ : ∃ L, crossL y (num y) = L := ⟨_, rfl⟩
          have HL2 := Lib.hid (show L2.length = num y by rw [← hL2, crossL_len])
          have HG2 := Lib.hid (show ∀ i (h : i < L2.length), L2[i] = cat y i by subst hL2; intro i h; exact crossL_get y _ i h)
          have hn2 : L2.length ≤ 9 := by have := (num_is HOY.out).2.2; rw [HL2.out]; exact this
          rw [hL2] at R2 ⊢
          clear hL2
          go_wp2_with fail
          clear X_0 X_1 X_2 X_3 X_4 X_f0 X_f1 X_f2 X_f3 X_f4 X_t
          clear Y_0 Y_1 Y_2 Y_3 Y_4 Y_f0 Y_f1 Y_f2 Y_f3 Y_f4 Y_t
          clear Z_0 Z_1 Z_2 Z_f0 Z_f1 Z_f2 Z_t
          obtain ⟨gz, hgz⟩ : ∃ g, wr.heap.size = g := ⟨_, rfl⟩
          rw [hgz] at Z ⊢
          clear hgz
          go_loopw [45] (fun j wr => ∃ m : Nat, m ≤ L2.length ∧ j = .int .i64 m ∧ Hid (∀ j, j < m → crs x y k j = false) ∧ RdL wr B1 (some ⟨b, o, none⟩) (cflat L1) ∧ RdL wr B2 A2 (cflat L2) ∧ Box w.heap.size [.int .i64 x.f0, .int .i64 x.f1, .int .i64 x.f2, .int .i64 x.f3, .int .i64 x.f4] w wr ∧ Box (w.heap.size + 1) [.int .i64 y.f0, .int .i64 y.f1, .int .i64 y.f2, .int .i64 y.f3, .int .i64 y.f4] w wr ∧ Box gz [.int .i64 s1, .int .i64 e1, .int .i64 v1] w wr) (fun j _ => L2.length - (intOf j).toNat)
          case atStart => exact ⟨0, Nat.zero_le _, rfl, Lib.hid (fun j h => by omega), R1, R2, X, Y, Z⟩
          case round =>
            clear X Y Z R1 R2
            obtain ⟨m, hm, rfl, HM, R1, R2, X, Y, Z⟩ := hrel
            by_cases hlm : m < L2.length
            · obtain ⟨b2, o2, rfl, hb2, hc⟩ := R2.2.at (k := m * 3) (by rw [cflat_n]; omega)
              have hbs : b2 < wr.heap.size := Nat.lt_of_lt_of_le hb2 R2.1
              obtain ⟨⟨s2, e2, v2⟩, hz⟩ : ∃ z, L2[m] = z := ⟨_, rfl⟩
              have d0 : wr.cell? ⟨b2, o2 + m * 3, none⟩ = some (.int .i64 s2) := by rw [hc _ _ (cflat_0 L2 m hlm), hz]
              have d1 : wr.cell? ⟨b2, o2 + m * 3 + 1, none⟩ = some (.int .i64 e2) := by rw [Nat.add_assoc, hc _ _ (cflat_1 L2 m hlm), hz]
              have d2 : wr.cell? ⟨b2, o2 + m * 3 + 2, none⟩ = some (.int .i64 v2) := by rw [Nat.add_assoc, hc _ _ (cflat_2 L2 m hlm), hz]
              have HQ := Lib.hid (crs_is HC1.out (show cat y m = ⟨s2, e2, v2⟩ by rw [← hz]; exact (HG2.out m hlm).symm))
              have HLM := Lib.hid hlm
              have HMN := Lib.hid (show m < num y by rw [← HL2.out]; exact hlm)
              clear hz hc hb2
              have Z_0 := Z.cells 0 _ rfl
              have Z_1 := Z.cells 1 _ rfl
              have Z_2 := Z.cells 2 _ rfl
              have Z_t := Z.there
              have nx := al (Below.refl _ wr) (o := .cells #[.int .i64 s2, .int .i64 e2, .int .i64 v2] 51)
              cases p1 : (s1 == s2)
              · have HN := Lib.hid (show crs x y k m = false by rw [HQ.out, p1]; rfl)
                go_wp2
                go_roundw
                case rel => exact ⟨m + 1, HLM.out, by go_num, Lib.hid (fun j hj => by
                    rcases Nat.lt_or_ge j m with h | h
                    · exact HM.out j h
                    · have : j = m := by omega
                      subst this; exact HN.out), rdl_keep R1 nx, rdl_keep R2 nx, X.more nx, Y.more nx, Z.more nx⟩
                case measure => have := HLM.out; simp [intOf]; omega
              cases p2 : decide (e1 < v2)
              · have HN := Lib.hid (show crs x y k m = false by rw [HQ.out, p1, p2]; rfl)
                go_wp2
                go_roundw
                case rel => exact ⟨m + 1, HLM.out, by go_num, Lib.hid (fun j hj => by
                    rcases Nat.lt_or_ge j m with h | h
                    · exact HM.out j h
                    · have : j = m := by omega
                      subst this; exact HN.out), rdl_keep R1 nx, rdl_keep R2 nx, X.more nx, Y.more nx, Z.more nx⟩
                case measure => have := HLM.out; simp [intOf]; omega
              cases p3 : decide (e2 < v1)
              · have HN := Lib.hid (show crs x y k m = false by rw [HQ.out, p1, p2, p3]; rfl)
                go_wp2
                go_roundw
                case rel => exact ⟨m + 1, HLM.out, by go_num, Lib.hid (fun j hj => by
                    rcases Nat.lt_or_ge j m with h | h
                    · exact HM.out j h
                    · have : j = m := by omega
                      subst this; exact HN.out), rdl_keep R1 nx, rdl_keep R2 nx, X.more nx, Y.more nx, Z.more nx⟩
                case measure => have := HLM.out; simp [intOf]; omega
              · have HN := Lib.hid (crs_meet HOX.out HOY.out HKN.out HMN.out (show crs x y k m = true by rw [HQ.out, p1, p2, p3]; rfl))
                go_wp2
                go_ret
                exact rpost (by rw [HN.out] <;> rfl) (al X.below)
            · have HF := Lib.hid (show ∀ j, j < num y → crs x y k j = false from fun j hj => HM.out j (by have := HL2.out; omega))
              go_wp2
              go_roundw
              case rel => exact ⟨k + 1, HL.out, by go_num, Lib.hid (fun i j hi hj => by
                  rcases Nat.lt_or_ge i k with h | h
                  · exact HA.out i j h hj
                  · have : i = k := by omega
                    subst this; exact HF.out j hj), R1, X, Y⟩
              case measure => have := HL.out; simp [intOf]; omega
        · have HF := Lib.hid (show meetB x y = false by
            rw [meet_end (crs_apart HOX.out HOY.out (fun i j hi hj => HA.out i j (by have := HL1.out; omega) hj)), HE.out])
          go_wp2
          go_ret
          exact rpost (by rw [HF.out] <;> rfl) X.below
    · have HF := Lib.hid (meet_ends HE.out)
      go_wp2
      go_ret
      exact rpost (by rw [HF.out] <;> rfl) X.below
end Go.Proofs.Ytknlgdahcfgbeaa.TripM
