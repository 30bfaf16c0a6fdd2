/- Trips: the model's l11Meet, l11Free, l11Find; the program's findTrip, meetsOther. Made by tools/mk_tripn.py. -/
import Derived.Test.YtknlgdahcfgbeaaTripM
import Derived.Lib.SliceRun
namespace Go.Proofs.Ytknlgdahcfgbeaa.TripN
open Go.RowKit Go.Proofs.Ytknlgdahcfgbeaa.Mem Go.Proofs.Ytknlgdahcfgbeaa.Base Go.Proofs.Ytknlgdahcfgbeaa.Within Go.Proofs.Ytknlgdahcfgbeaa.STrip Go.Proofs.Ytknlgdahcfgbeaa.Regn Go.Proofs.Ytknlgdahcfgbeaa.Boxes Go.Proofs.Ytknlgdahcfgbeaa.Keep Go.Proofs.Ytknlgdahcfgbeaa.TripP Go.Proofs.Ytknlgdahcfgbeaa.TripS Go.Proofs.Ytknlgdahcfgbeaa.TripG Go.Proofs.Ytknlgdahcfgbeaa.TripC Go.Proofs.Ytknlgdahcfgbeaa.TripM
set_option linter.unusedVariables false
set_option linter.unusedSimpArgs false
set_option maxRecDepth 100000
set_option maxHeartbeats 4000000 in
theorem meet_spec (x y : R) (hx : okT x = true) (hy : okT y = true) (w : World) : Calls Try.prog 56 #[.agg #[.int .i64 x.f0, .int .i64 x.f1, .int .i64 x.f2, .int .i64 x.f3, .int .i64 x.f4], .agg #[.int .i64 y.f0, .int .i64 y.f1, .int .i64 y.f2, .int .i64 y.f3, .int .i64 y.f4]] w (RPost (.bool (meetB x y)) w) := by
  obtain ⟨_, _, a2, a3, a4, a5, _, a7, a8, _, _, _, _⟩ := okT_true hx
  have HAX := Lib.hid (fun W => arr_spec x a2 a3 a4 a5 a7 a8 W)
  clear a2 a3 a4 a5 a7 a8
  obtain ⟨_, _, a2, a3, a4, a5, _, a7, a8, _, _, _, _⟩ := okT_true hy
  have HAY := Lib.hid (fun W => arr_spec y a2 a3 a4 a5 a7 a8 W)
  clear a2 a3 a4 a5 a7 a8
  have HOX := Lib.hid hx
  have HOY := Lib.hid hy
  clear hx hy
  go_enter Try.func56, Try.ntmps56
  go_wp2_with fail
  have X := (Box.new (Below.refl _ w) [.int .i64 x.f0, .int .i64 x.f1, .int .i64 x.f2, .int .i64 x.f3, .int .i64 x.f4] 25 (g := w.heap.size) rfl).alloc (.cells #[.int .i64 y.f0, .int .i64 y.f1, .int .i64 y.f2, .int .i64 y.f3, .int .i64 y.f4] 25)
  have Y := Box.new (al (Below.refl _ w) (o := (.cells #[.int .i64 x.f0, .int .i64 x.f1, .int .i64 x.f2, .int .i64 x.f3, .int .i64 x.f4] 25))) [.int .i64 y.f0, .int .i64 y.f1, .int .i64 y.f2, .int .i64 y.f3, .int .i64 y.f4] 25 (g := w.heap.size + 1) (by simp only [size_alloc'])
  generalize ((w.alloc (.cells #[.int .i64 x.f0, .int .i64 x.f1, .int .i64 x.f2, .int .i64 x.f3, .int .i64 x.f4] 25)).alloc (.cells #[.int .i64 y.f0, .int .i64 y.f1, .int .i64 y.f2, .int .i64 y.f3, .int .i64 y.f4] 25)) = W1 at X Y ⊢
  have X_0 := X.cells 0 _ rfl
  have X_1 := X.cells 1 _ rfl
  have X_2 := X.cells 2 _ rfl
  have X_3 := X.cells 3 _ rfl
  have X_4 := X.cells 4 _ rfl
  have X_f0 := X.free 0 (by simp)
  have X_f1 := X.free 1 (by simp)
  have X_f2 := X.free 2 (by simp)
  have X_f3 := X.free 3 (by simp)
  have X_f4 := X.free 4 (by simp)
  have X_t := X.there
  have Y_0 := Y.cells 0 _ rfl
  have Y_1 := Y.cells 1 _ rfl
  have Y_2 := Y.cells 2 _ rfl
  have Y_3 := Y.cells 3 _ rfl
  have Y_4 := Y.cells 4 _ rfl
  have Y_f0 := Y.free 0 (by simp)
  have Y_f1 := Y.free 1 (by simp)
  have Y_f2 := Y.free 2 (by simp)
  have Y_f3 := Y.free 3 (by simp)
  have Y_f4 := Y.free 4 (by simp)
  have Y_t := Y.there
  clear X_0 X_1 X_2 X_3 X_4 X_f0 X_f1 X_f2 X_f3 X_f4 X_t
  clear Y_0 Y_1 Y_2 Y_3 Y_4 Y_f0 Y_f1 Y_f2 Y_f3 Y_f4 Y_t
  go_loopw [5] (fun i wr => ∃ k : Nat, k ≤ 9 ∧ i = .int .i64 k ∧ Hid (Apart x y k) ∧ Box w.heap.size [.int .i64 x.f0, .int .i64 x.f1, .int .i64 x.f2, .int .i64 x.f3, .int .i64 x.f4] w wr ∧ Box (w.heap.size + 1) [.int .i64 y.f0, .int .i64 y.f1, .int .i64 y.f2, .int .i64 y.f3, .int .i64 y.f4] w wr) (fun i _ => 9 - (intOf i).toNat)
  case atStart => exact ⟨0, Nat.zero_le _, rfl, Lib.hid (fun s hs => by omega), X, Y⟩
  case round =>
    clear X Y
    obtain ⟨k, hk, rfl, HA, X, Y⟩ := hrel
    by_cases hlt : k < 9
    · obtain ⟨m, hm⟩ : ∃ m, ent x k = m := ⟨_, rfl⟩
      obtain ⟨n, hn⟩ : ∃ n, ent y k = n := ⟨_, rfl⟩
      have bm := ent_bd (s := (k : Int)) HOX.out
      have bn := ent_bd (s := (k : Int)) HOY.out
      rw [hm] at bm
      rw [hn] at bn
      have HS := Lib.hid (onS_is hm hn)
      have HM := Lib.hid hm
      have HN := Lib.hid hn
      have HCX := Lib.hid (fun W => ent_spec x k HOX.out (by omega) (by omega) W)
      have HCY := Lib.hid (fun W => ent_spec y k HOY.out (by omega) (by omega) W)
      have y1 : IntKind.i64.wrap (n + 4) = n + 4 := IntWalk.i64_in _ (by omega)
      have y2 : IntKind.i64.wrap (m + 4) = m + 4 := IntWalk.i64_in _ (by omega)
      have HL := Lib.hid hlt
      clear hm hn bm bn
      have X_0 := X.cells 0 _ rfl
      have X_1 := X.cells 1 _ rfl
      have X_2 := X.cells 2 _ rfl
      have X_3 := X.cells 3 _ rfl
      have X_4 := X.cells 4 _ rfl
      have X_f0 := X.free 0 (by simp)
      have X_f1 := X.free 1 (by simp)
      have X_f2 := X.free 2 (by simp)
      have X_f3 := X.free 3 (by simp)
      have X_f4 := X.free 4 (by simp)
      have X_t := X.there
      have Y_0 := Y.cells 0 _ rfl
      have Y_1 := Y.cells 1 _ rfl
      have Y_2 := Y.cells 2 _ rfl
      have Y_3 := Y.cells 3 _ rfl
      have Y_4 := Y.cells 4 _ rfl
      have Y_f0 := Y.free 0 (by simp)
      have Y_f1 := Y.free 1 (by simp)
      have Y_f2 := Y.free 2 (by simp)
      have Y_f3 := Y.free 3 (by simp)
      have Y_f4 := Y.free 4 (by simp)
      have Y_t := Y.there
      go_wp2_with fail
      refine wp_region_text (fun w' => Box (w.heap.size) [.int .i64 x.f0, .int .i64 x.f1, .int .i64 x.f2, .int .i64 x.f3, .int .i64 x.f4] w w' ∧ Box ((w.heap.size + 1)) [.int .i64 y.f0, .int .i64 y.f1, .int .i64 y.f2, .int .i64 y.f3, .int .i64 y.f4] w w') (by kernel_rfl) (by kernel_rfl) ⟨X.drew, Y.drew⟩ ?_
      clear X_0 X_1 X_2 X_3 X_4 X_f0 X_f1 X_f2 X_f3 X_f4 X_t
      clear Y_0 Y_1 Y_2 Y_3 Y_4 Y_f0 Y_f1 Y_f2 Y_f3 Y_f4 Y_t
      iterate 8 (
        apply SeqH.one
        · intro uw K hS hK
          obtain ⟨qX, qY⟩ := hS
          have qX_0 := qX.cells 0 _ rfl
          have qX_1 := qX.cells 1 _ rfl
          have qX_2 := qX.cells 2 _ rfl
          have qX_3 := qX.cells 3 _ rfl
          have qX_4 := qX.cells 4 _ rfl
          have qY_0 := qY.cells 0 _ rfl
          have qY_1 := qY.cells 1 _ rfl
          have qY_2 := qY.cells 2 _ rfl
          have qY_3 := qY.cells 3 _ rfl
          have qY_4 := qY.cells 4 _ rfl
          first
            | (go_simp; exact hK.out _ ⟨qX, qY⟩)
            | (go_simp; go_at_call 29; (with_reducible refine (HCX.out _).mono ?_); rintro e uw1 ⟨rfl, hv⟩; rw [HM.out]; go_wp2_with fail; exact hK.out _ ⟨qX.more hv, qY.more hv⟩)
            | (go_simp; go_at_call 29; (with_reducible refine (HCY.out _).mono ?_); rintro e uw1 ⟨rfl, hv⟩; rw [HN.out]; go_wp2_with fail; exact hK.out _ ⟨qX.more hv, qY.more hv⟩)
        try simp only [Act.put, List.setIfInBounds_toArray, List.set_cons_zero, List.set_cons_succ])
      refine SeqH.end' rfl ?_
      intro v2 hS
      clear X Y
      obtain ⟨X, Y⟩ := hS
      have X_0 := X.cells 0 _ rfl
      have X_1 := X.cells 1 _ rfl
      have X_2 := X.cells 2 _ rfl
      have X_3 := X.cells 3 _ rfl
      have X_4 := X.cells 4 _ rfl
      have X_f0 := X.free 0 (by simp)
      have X_f1 := X.free 1 (by simp)
      have X_f2 := X.free 2 (by simp)
      have X_f3 := X.free 3 (by simp)
      have X_f4 := X.free 4 (by simp)
      have X_t := X.there
      have Y_0 := Y.cells 0 _ rfl
      have Y_1 := Y.cells 1 _ rfl
      have Y_2 := Y.cells 2 _ rfl
      have Y_3 := Y.cells 3 _ rfl
      have Y_4 := Y.cells 4 _ rfl
      have Y_f0 := Y.free 0 (by simp)
      have Y_f1 := Y.free 1 (by simp)
      have Y_f2 := Y.free 2 (by simp)
      have Y_f3 := Y.free 3 (by simp)
      have Y_f4 := Y.free 4 (by simp)
      have Y_t := Y.there
      cases d1 : decide (0 ≤ m)
      · have HQ := Lib.hid (show onS x y (k : Int) = false by rw [HS.out, d1]; rfl)
        go_wp2
        go_roundw
        case rel => exact ⟨k + 1, HL.out, by go_num, Lib.hid (HA.out.next HQ.out), X, Y⟩
        case measure => have := HL.out; simp [intOf]; omega
      cases d2 : decide (0 ≤ n)
      · have HQ := Lib.hid (show onS x y (k : Int) = false by rw [HS.out, d1, d2]; rfl)
        go_wp2
        go_roundw
        case rel => exact ⟨k + 1, HL.out, by go_num, Lib.hid (HA.out.next HQ.out), X, Y⟩
        case measure => have := HL.out; simp [intOf]; omega
      cases d3 : decide (m < n + 4)
      · have HQ := Lib.hid (show onS x y (k : Int) = false by rw [HS.out, d1, d2, d3]; rfl)
        go_wp2
        go_roundw
        case rel => exact ⟨k + 1, HL.out, by go_num, Lib.hid (HA.out.next HQ.out), X, Y⟩
        case measure => have := HL.out; simp [intOf]; omega
      cases d4 : decide (n < m + 4)
      · have HQ := Lib.hid (show onS x y (k : Int) = false by rw [HS.out, d1, d2, d3, d4]; rfl)
        go_wp2
        go_roundw
        case rel => exact ⟨k + 1, HL.out, by go_num, Lib.hid (HA.out.next HQ.out), X, Y⟩
        case measure => have := HL.out; simp [intOf]; omega
      have HQ := Lib.hid (meet_on HL.out (show onS x y (k : Int) = true by rw [HS.out, d1, d2, d3, d4]; rfl))
      go_wp2
      go_ret
      exact rpost (by rw [HQ.out] <;> rfl) X.below
    · obtain rfl : k = 9 := by omega
      have HF := Lib.hid (meet_end HA.out)
      have X_0 := X.cells 0 _ rfl
      have X_1 := X.cells 1 _ rfl
      have X_2 := X.cells 2 _ rfl
      have X_3 := X.cells 3 _ rfl
      have X_4 := X.cells 4 _ rfl
      have X_f0 := X.free 0 (by simp)
      have X_f1 := X.free 1 (by simp)
      have X_f2 := X.free 2 (by simp)
      have X_f3 := X.free 3 (by simp)
      have X_f4 := X.free 4 (by simp)
      have X_t := X.there
      have Y_0 := Y.cells 0 _ rfl
      have Y_1 := Y.cells 1 _ rfl
      have Y_2 := Y.cells 2 _ rfl
      have Y_3 := Y.cells 3 _ rfl
      have Y_4 := Y.cells 4 _ rfl
      have Y_f0 := Y.free 0 (by simp)
      have Y_f1 := Y.free 1 (by simp)
      have Y_f2 := Y.free 2 (by simp)
      have Y_f3 := Y.free 3 (by simp)
      have Y_f4 := Y.free 4 (by simp)
      have Y_t := Y.there
      go_wp2_with fail
      cases g1 : (x.f1 == y.f1)
      · cases g3 : (x.f2 == y.f2)
        · have HQ := Lib.hid (show ends x y = false from by unfold ends; simp only [g1, g3, Bool.true_and, Bool.false_and, Bool.and_true, Bool.and_false, Bool.or_true, Bool.or_false, Bool.true_or, Bool.false_or])
          refine wp_region_text (fun w' => Box (w.heap.size) [.int .i64 x.f0, .int .i64 x.f1, .int .i64 x.f2, .int .i64 x.f3, .int .i64 x.f4] w w' ∧ Box ((w.heap.size + 1)) [.int .i64 y.f0, .int .i64 y.f1, .int .i64 y.f2, .int .i64 y.f3, .int .i64 y.f4] w w') (by kernel_rfl) (by kernel_rfl) ⟨X.drew, Y.drew⟩ ?_
          clear X_0 X_1 X_2 X_3 X_4 X_f0 X_f1 X_f2 X_f3 X_f4 X_t
          clear Y_0 Y_1 Y_2 Y_3 Y_4 Y_f0 Y_f1 Y_f2 Y_f3 Y_f4 Y_t
          iterate 27 (
            apply SeqH.one
            · intro uw K hS hK
              obtain ⟨qX, qY⟩ := hS
              have qX_0 := qX.cells 0 _ rfl
              have qX_1 := qX.cells 1 _ rfl
              have qX_2 := qX.cells 2 _ rfl
              have qX_3 := qX.cells 3 _ rfl
              have qX_4 := qX.cells 4 _ rfl
              have qY_0 := qY.cells 0 _ rfl
              have qY_1 := qY.cells 1 _ rfl
              have qY_2 := qY.cells 2 _ rfl
              have qY_3 := qY.cells 3 _ rfl
              have qY_4 := qY.cells 4 _ rfl
              first
                | (go_simp; exact hK.out _ ⟨qX, qY⟩)
                | (go_simp; go_at_call 28; (with_reducible refine (HAX.out _).mono ?_); rintro e uw1 ⟨rfl, hv⟩; go_wp2_with fail; exact hK.out _ ⟨qX.more hv, qY.more hv⟩)
                | (go_simp; go_at_call 28; (with_reducible refine (HAY.out _).mono ?_); rintro e uw1 ⟨rfl, hv⟩; go_wp2_with fail; exact hK.out _ ⟨qX.more hv, qY.more hv⟩)
            try simp only [Act.put, List.setIfInBounds_toArray, List.set_cons_zero, List.set_cons_succ])
          refine SeqH.end' rfl ?_
          intro v3 hS
          clear X Y
          obtain ⟨X, Y⟩ := hS
          have X_0 := X.cells 0 _ rfl
          have X_1 := X.cells 1 _ rfl
          have X_2 := X.cells 2 _ rfl
          have X_3 := X.cells 3 _ rfl
          have X_4 := X.cells 4 _ rfl
          have X_f0 := X.free 0 (by simp)
          have X_f1 := X.free 1 (by simp)
          have X_f2 := X.free 2 (by simp)
          have X_f3 := X.free 3 (by simp)
          have X_f4 := X.free 4 (by simp)
          have X_t := X.there
          have Y_0 := Y.cells 0 _ rfl
          have Y_1 := Y.cells 1 _ rfl
          have Y_2 := Y.cells 2 _ rfl
          have Y_3 := Y.cells 3 _ rfl
          have Y_4 := Y.cells 4 _ rfl
          have Y_f0 := Y.free 0 (by simp)
          have Y_f1 := Y.free 1 (by simp)
          have Y_f2 := Y.free 2 (by simp)
          have Y_f3 := Y.free 3 (by simp)
          have Y_f4 := Y.free 4 (by simp)
          have Y_t := Y.there
          go_wp2
          go_ret
          exact rpost (by rw [HF.out, HQ.out] <;> rfl) X.below
        cases g4 : (arr x == arr y)
        · have HQ := Lib.hid (show ends x y = false from by unfold ends; simp only [g1, g3, g4, Bool.true_and, Bool.false_and, Bool.and_true, Bool.and_false, Bool.or_true, Bool.or_false, Bool.true_or, Bool.false_or])
          refine wp_region_text (fun w' => Box (w.heap.size) [.int .i64 x.f0, .int .i64 x.f1, .int .i64 x.f2, .int .i64 x.f3, .int .i64 x.f4] w w' ∧ Box ((w.heap.size + 1)) [.int .i64 y.f0, .int .i64 y.f1, .int .i64 y.f2, .int .i64 y.f3, .int .i64 y.f4] w w') (by kernel_rfl) (by kernel_rfl) ⟨X.drew, Y.drew⟩ ?_
          clear X_0 X_1 X_2 X_3 X_4 X_f0 X_f1 X_f2 X_f3 X_f4 X_t
          clear Y_0 Y_1 Y_2 Y_3 Y_4 Y_f0 Y_f1 Y_f2 Y_f3 Y_f4 Y_t
          iterate 27 (
            apply SeqH.one
            · intro uw K hS hK
              obtain ⟨qX, qY⟩ := hS
              have qX_0 := qX.cells 0 _ rfl
              have qX_1 := qX.cells 1 _ rfl
              have qX_2 := qX.cells 2 _ rfl
              have qX_3 := qX.cells 3 _ rfl
              have qX_4 := qX.cells 4 _ rfl
              have qY_0 := qY.cells 0 _ rfl
              have qY_1 := qY.cells 1 _ rfl
              have qY_2 := qY.cells 2 _ rfl
              have qY_3 := qY.cells 3 _ rfl
              have qY_4 := qY.cells 4 _ rfl
              first
                | (go_simp; exact hK.out _ ⟨qX, qY⟩)
                | (go_simp; go_at_call 28; (with_reducible refine (HAX.out _).mono ?_); rintro e uw1 ⟨rfl, hv⟩; go_wp2_with fail; exact hK.out _ ⟨qX.more hv, qY.more hv⟩)
                | (go_simp; go_at_call 28; (with_reducible refine (HAY.out _).mono ?_); rintro e uw1 ⟨rfl, hv⟩; go_wp2_with fail; exact hK.out _ ⟨qX.more hv, qY.more hv⟩)
            try simp only [Act.put, List.setIfInBounds_toArray, List.set_cons_zero, List.set_cons_succ])
          refine SeqH.end' rfl ?_
          intro v4 hS
          clear X Y
          obtain ⟨X, Y⟩ := hS
          have X_0 := X.cells 0 _ rfl
          have X_1 := X.cells 1 _ rfl
          have X_2 := X.cells 2 _ rfl
          have X_3 := X.cells 3 _ rfl
          have X_4 := X.cells 4 _ rfl
          have X_f0 := X.free 0 (by simp)
          have X_f1 := X.free 1 (by simp)
          have X_f2 := X.free 2 (by simp)
          have X_f3 := X.free 3 (by simp)
          have X_f4 := X.free 4 (by simp)
          have X_t := X.there
          have Y_0 := Y.cells 0 _ rfl
          have Y_1 := Y.cells 1 _ rfl
          have Y_2 := Y.cells 2 _ rfl
          have Y_3 := Y.cells 3 _ rfl
          have Y_4 := Y.cells 4 _ rfl
          have Y_f0 := Y.free 0 (by simp)
          have Y_f1 := Y.free 1 (by simp)
          have Y_f2 := Y.free 2 (by simp)
          have Y_f3 := Y.free 3 (by simp)
          have Y_f4 := Y.free 4 (by simp)
          have Y_t := Y.there
          go_wp2
          go_ret
          exact rpost (by rw [HF.out, HQ.out] <;> rfl) X.below
        · have HQ := Lib.hid (show ends x y = true from by unfold ends; simp only [g1, g3, g4, Bool.true_and, Bool.false_and, Bool.and_true, Bool.and_false, Bool.or_true, Bool.or_false, Bool.true_or, Bool.false_or])
          refine wp_region_text (fun w' => Box (w.heap.size) [.int .i64 x.f0, .int .i64 x.f1, .int .i64 x.f2, .int .i64 x.f3, .int .i64 x.f4] w w' ∧ Box ((w.heap.size + 1)) [.int .i64 y.f0, .int .i64 y.f1, .int .i64 y.f2, .int .i64 y.f3, .int .i64 y.f4] w w') (by kernel_rfl) (by kernel_rfl) ⟨X.drew, Y.drew⟩ ?_
          clear X_0 X_1 X_2 X_3 X_4 X_f0 X_f1 X_f2 X_f3 X_f4 X_t
          clear Y_0 Y_1 Y_2 Y_3 Y_4 Y_f0 Y_f1 Y_f2 Y_f3 Y_f4 Y_t
          iterate 27 (
            apply SeqH.one
            · intro uw K hS hK
              obtain ⟨qX, qY⟩ := hS
              have qX_0 := qX.cells 0 _ rfl
              have qX_1 := qX.cells 1 _ rfl
              have qX_2 := qX.cells 2 _ rfl
              have qX_3 := qX.cells 3 _ rfl
              have qX_4 := qX.cells 4 _ rfl
              have qY_0 := qY.cells 0 _ rfl
              have qY_1 := qY.cells 1 _ rfl
              have qY_2 := qY.cells 2 _ rfl
              have qY_3 := qY.cells 3 _ rfl
              have qY_4 := qY.cells 4 _ rfl
              first
                | (go_simp; exact hK.out _ ⟨qX, qY⟩)
                | (go_simp; go_at_call 28; (with_reducible refine (HAX.out _).mono ?_); rintro e uw1 ⟨rfl, hv⟩; go_wp2_with fail; exact hK.out _ ⟨qX.more hv, qY.more hv⟩)
                | (go_simp; go_at_call 28; (with_reducible refine (HAY.out _).mono ?_); rintro e uw1 ⟨rfl, hv⟩; go_wp2_with fail; exact hK.out _ ⟨qX.more hv, qY.more hv⟩)
            try simp only [Act.put, List.setIfInBounds_toArray, List.set_cons_zero, List.set_cons_succ])
          refine SeqH.end' rfl ?_
          intro v5 hS
          clear X Y
          obtain ⟨X, Y⟩ := hS
          have X_0 := X.cells 0 _ rfl
          have X_1 := X.cells 1 _ rfl
          have X_2 := X.cells 2 _ rfl
          have X_3 := X.cells 3 _ rfl
          have X_4 := X.cells 4 _ rfl
          have X_f0 := X.free 0 (by simp)
          have X_f1 := X.free 1 (by simp)
          have X_f2 := X.free 2 (by simp)
          have X_f3 := X.free 3 (by simp)
          have X_f4 := X.free 4 (by simp)
          have X_t := X.there
          have Y_0 := Y.cells 0 _ rfl
          have Y_1 := Y.cells 1 _ rfl
          have Y_2 := Y.cells 2 _ rfl
          have Y_3 := Y.cells 3 _ rfl
          have Y_4 := Y.cells 4 _ rfl
          have Y_f0 := Y.free 0 (by simp)
          have Y_f1 := Y.free 1 (by simp)
          have Y_f2 := Y.free 2 (by simp)
          have Y_f3 := Y.free 3 (by simp)
          have Y_f4 := Y.free 4 (by simp)
          have Y_t := Y.there
          go_wp2
          go_ret
          exact rpost (by rw [HF.out, HQ.out] <;> rfl) X.below
      cases g2 : (x.f3 == y.f3)
      · cases g3 : (x.f2 == y.f2)
        · have HQ := Lib.hid (show ends x y = false from by unfold ends; simp only [g1, g2, g3, Bool.true_and, Bool.false_and, Bool.and_true, Bool.and_false, Bool.or_true, Bool.or_false, Bool.true_or, Bool.false_or])
          refine wp_region_text (fun w' => Box (w.heap.size) [.int .i64 x.f0, .int .i64 x.f1, .int .i64 x.f2, .int .i64 x.f3, .int .i64 x.f4] w w' ∧ Box ((w.heap.size + 1)) [.int .i64 y.f0, .int .i64 y.f1, .int .i64 y.f2, .int .i64 y.f3, .int .i64 y.f4] w w') (by kernel_rfl) (by kernel_rfl) ⟨X.drew, Y.drew⟩ ?_
          clear X_0 X_1 X_2 X_3 X_4 X_f0 X_f1 X_f2 X_f3 X_f4 X_t
          clear Y_0 Y_1 Y_2 Y_3 Y_4 Y_f0 Y_f1 Y_f2 Y_f3 Y_f4 Y_t
          iterate 27 (
            apply SeqH.one
            · intro uw K hS hK
              obtain ⟨qX, qY⟩ := hS
              have qX_0 := qX.cells 0 _ rfl
              have qX_1 := qX.cells 1 _ rfl
              have qX_2 := qX.cells 2 _ rfl
              have qX_3 := qX.cells 3 _ rfl
              have qX_4 := qX.cells 4 _ rfl
              have qY_0 := qY.cells 0 _ rfl
              have qY_1 := qY.cells 1 _ rfl
              have qY_2 := qY.cells 2 _ rfl
              have qY_3 := qY.cells 3 _ rfl
              have qY_4 := qY.cells 4 _ rfl
              first
                | (go_simp; exact hK.out _ ⟨qX, qY⟩)
                | (go_simp; go_at_call 28; (with_reducible refine (HAX.out _).mono ?_); rintro e uw1 ⟨rfl, hv⟩; go_wp2_with fail; exact hK.out _ ⟨qX.more hv, qY.more hv⟩)
                | (go_simp; go_at_call 28; (with_reducible refine (HAY.out _).mono ?_); rintro e uw1 ⟨rfl, hv⟩; go_wp2_with fail; exact hK.out _ ⟨qX.more hv, qY.more hv⟩)
            try simp only [Act.put, List.setIfInBounds_toArray, List.set_cons_zero, List.set_cons_succ])
          refine SeqH.end' rfl ?_
          intro v6 hS
          clear X Y
          obtain ⟨X, Y⟩ := hS
          have X_0 := X.cells 0 _ rfl
          have X_1 := X.cells 1 _ rfl
          have X_2 := X.cells 2 _ rfl
          have X_3 := X.cells 3 _ rfl
          have X_4 := X.cells 4 _ rfl
          have X_f0 := X.free 0 (by simp)
          have X_f1 := X.free 1 (by simp)
          have X_f2 := X.free 2 (by simp)
          have X_f3 := X.free 3 (by simp)
          have X_f4 := X.free 4 (by simp)
          have X_t := X.there
          have Y_0 := Y.cells 0 _ rfl
          have Y_1 := Y.cells 1 _ rfl
          have Y_2 := Y.cells 2 _ rfl
          have Y_3 := Y.cells 3 _ rfl
          have Y_4 := Y.cells 4 _ rfl
          have Y_f0 := Y.free 0 (by simp)
          have Y_f1 := Y.free 1 (by simp)
          have Y_f2 := Y.free 2 (by simp)
          have Y_f3 := Y.free 3 (by simp)
          have Y_f4 := Y.free 4 (by simp)
          have Y_t := Y.there
          go_wp2
          go_ret
          exact rpost (by rw [HF.out, HQ.out] <;> rfl) X.below
        cases g4 : (arr x == arr y)
        · have HQ := Lib.hid (show ends x y = false from by unfold ends; simp only [g1, g2, g3, g4, Bool.true_and, Bool.false_and, Bool.and_true, Bool.and_false, Bool.or_true, Bool.or_false, Bool.true_or, Bool.false_or])
          refine wp_region_text (fun w' => Box (w.heap.size) [.int .i64 x.f0, .int .i64 x.f1, .int .i64 x.f2, .int .i64 x.f3, .int .i64 x.f4] w w' ∧ Box ((w.heap.size + 1)) [.int .i64 y.f0, .int .i64 y.f1, .int .i64 y.f2, .int .i64 y.f3, .int .i64 y.f4] w w') (by kernel_rfl) (by kernel_rfl) ⟨X.drew, Y.drew⟩ ?_
          clear X_0 X_1 X_2 X_3 X_4 X_f0 X_f1 X_f2 X_f3 X_f4 X_t
          clear Y_0 Y_1 Y_2 Y_3 Y_4 Y_f0 Y_f1 Y_f2 Y_f3 Y_f4 Y_t
          iterate 27 (
            apply SeqH.one
            · intro uw K hS hK
              obtain ⟨qX, qY⟩ := hS
              have qX_0 := qX.cells 0 _ rfl
              have qX_1 := qX.cells 1 _ rfl
              have qX_2 := qX.cells 2 _ rfl
              have qX_3 := qX.cells 3 _ rfl
              have qX_4 := qX.cells 4 _ rfl
              have qY_0 := qY.cells 0 _ rfl
              have qY_1 := qY.cells 1 _ rfl
              have qY_2 := qY.cells 2 _ rfl
              have qY_3 := qY.cells 3 _ rfl
              have qY_4 := qY.cells 4 _ rfl
              first
                | (go_simp; exact hK.out _ ⟨qX, qY⟩)
                | (go_simp; go_at_call 28; (with_reducible refine (HAX.out _).mono ?_); rintro e uw1 ⟨rfl, hv⟩; go_wp2_with fail; exact hK.out _ ⟨qX.more hv, qY.more hv⟩)
                | (go_simp; go_at_call 28; (with_reducible refine (HAY.out _).mono ?_); rintro e uw1 ⟨rfl, hv⟩; go_wp2_with fail; exact hK.out _ ⟨qX.more hv, qY.more hv⟩)
            try simp only [Act.put, List.setIfInBounds_toArray, List.set_cons_zero, List.set_cons_succ])
          refine SeqH.end' rfl ?_
          intro v7 hS
          clear X Y
          obtain ⟨X, Y⟩ := hS
          have X_0 := X.cells 0 _ rfl
          have X_1 := X.cells 1 _ rfl
          have X_2 := X.cells 2 _ rfl
          have X_3 := X.cells 3 _ rfl
          have X_4 := X.cells 4 _ rfl
          have X_f0 := X.free 0 (by simp)
          have X_f1 := X.free 1 (by simp)
          have X_f2 := X.free 2 (by simp)
          have X_f3 := X.free 3 (by simp)
          have X_f4 := X.free 4 (by simp)
          have X_t := X.there
          have Y_0 := Y.cells 0 _ rfl
          have Y_1 := Y.cells 1 _ rfl
          have Y_2 := Y.cells 2 _ rfl
          have Y_3 := Y.cells 3 _ rfl
          have Y_4 := Y.cells 4 _ rfl
          have Y_f0 := Y.free 0 (by simp)
          have Y_f1 := Y.free 1 (by simp)
          have Y_f2 := Y.free 2 (by simp)
          have Y_f3 := Y.free 3 (by simp)
          have Y_f4 := Y.free 4 (by simp)
          have Y_t := Y.there
          go_wp2
          go_ret
          exact rpost (by rw [HF.out, HQ.out] <;> rfl) X.below
        · have HQ := Lib.hid (show ends x y = true from by unfold ends; simp only [g1, g2, g3, g4, Bool.true_and, Bool.false_and, Bool.and_true, Bool.and_false, Bool.or_true, Bool.or_false, Bool.true_or, Bool.false_or])
          refine wp_region_text (fun w' => Box (w.heap.size) [.int .i64 x.f0, .int .i64 x.f1, .int .i64 x.f2, .int .i64 x.f3, .int .i64 x.f4] w w' ∧ Box ((w.heap.size + 1)) [.int .i64 y.f0, .int .i64 y.f1, .int .i64 y.f2, .int .i64 y.f3, .int .i64 y.f4] w w') (by kernel_rfl) (by kernel_rfl) ⟨X.drew, Y.drew⟩ ?_
          clear X_0 X_1 X_2 X_3 X_4 X_f0 X_f1 X_f2 X_f3 X_f4 X_t
          clear Y_0 Y_1 Y_2 Y_3 Y_4 Y_f0 Y_f1 Y_f2 Y_f3 Y_f4 Y_t
          iterate 27 (
            apply SeqH.one
            · intro uw K hS hK
              obtain ⟨qX, qY⟩ := hS
              have qX_0 := qX.cells 0 _ rfl
              have qX_1 := qX.cells 1 _ rfl
              have qX_2 := qX.cells 2 _ rfl
              have qX_3 := qX.cells 3 _ rfl
              have qX_4 := qX.cells 4 _ rfl
              have qY_0 := qY.cells 0 _ rfl
              have qY_1 := qY.cells 1 _ rfl
              have qY_2 := qY.cells 2 _ rfl
              have qY_3 := qY.cells 3 _ rfl
              have qY_4 := qY.cells 4 _ rfl
              first
                | (go_simp; exact hK.out _ ⟨qX, qY⟩)
                | (go_simp; go_at_call 28; (with_reducible refine (HAX.out _).mono ?_); rintro e uw1 ⟨rfl, hv⟩; go_wp2_with fail; exact hK.out _ ⟨qX.more hv, qY.more hv⟩)
                | (go_simp; go_at_call 28; (with_reducible refine (HAY.out _).mono ?_); rintro e uw1 ⟨rfl, hv⟩; go_wp2_with fail; exact hK.out _ ⟨qX.more hv, qY.more hv⟩)
            try simp only [Act.put, List.setIfInBounds_toArray, List.set_cons_zero, List.set_cons_succ])
          refine SeqH.end' rfl ?_
          intro v8 hS
          clear X Y
          obtain ⟨X, Y⟩ := hS
          have X_0 := X.cells 0 _ rfl
          have X_1 := X.cells 1 _ rfl
          have X_2 := X.cells 2 _ rfl
          have X_3 := X.cells 3 _ rfl
          have X_4 := X.cells 4 _ rfl
          have X_f0 := X.free 0 (by simp)
          have X_f1 := X.free 1 (by simp)
          have X_f2 := X.free 2 (by simp)
          have X_f3 := X.free 3 (by simp)
          have X_f4 := X.free 4 (by simp)
          have X_t := X.there
          have Y_0 := Y.cells 0 _ rfl
          have Y_1 := Y.cells 1 _ rfl
          have Y_2 := Y.cells 2 _ rfl
          have Y_3 := Y.cells 3 _ rfl
          have Y_4 := Y.cells 4 _ rfl
          have Y_f0 := Y.free 0 (by simp)
          have Y_f1 := Y.free 1 (by simp)
          have Y_f2 := Y.free 2 (by simp)
          have Y_f3 := Y.free 3 (by simp)
          have Y_f4 := Y.free 4 (by simp)
          have Y_t := Y.there
          go_wp2
          go_ret
          exact rpost (by rw [HF.out, HQ.out] <;> rfl) X.below
      have HQ := Lib.hid (show ends x y = true from by unfold ends; simp only [g1, g2, Bool.true_and, Bool.false_and, Bool.and_true, Bool.and_false, Bool.or_true, Bool.or_false, Bool.true_or, Bool.false_or])
      refine wp_region_text (fun w' => Box (w.heap.size) [.int .i64 x.f0, .int .i64 x.f1, .int .i64 x.f2, .int .i64 x.f3, .int .i64 x.f4] w w' ∧ Box ((w.heap.size + 1)) [.int .i64 y.f0, .int .i64 y.f1, .int .i64 y.f2, .int .i64 y.f3, .int .i64 y.f4] w w') (by kernel_rfl) (by kernel_rfl) ⟨X.drew, Y.drew⟩ ?_
      clear X_0 X_1 X_2 X_3 X_4 X_f0 X_f1 X_f2 X_f3 X_f4 X_t
      clear Y_0 Y_1 Y_2 Y_3 Y_4 Y_f0 Y_f1 Y_f2 Y_f3 Y_f4 Y_t
      iterate 27 (
        apply SeqH.one
        · intro uw K hS hK
          obtain ⟨qX, qY⟩ := hS
          have qX_0 := qX.cells 0 _ rfl
          have qX_1 := qX.cells 1 _ rfl
          have qX_2 := qX.cells 2 _ rfl
          have qX_3 := qX.cells 3 _ rfl
          have qX_4 := qX.cells 4 _ rfl
          have qY_0 := qY.cells 0 _ rfl
          have qY_1 := qY.cells 1 _ rfl
          have qY_2 := qY.cells 2 _ rfl
          have qY_3 := qY.cells 3 _ rfl
          have qY_4 := qY.cells 4 _ rfl
          first
            | (go_simp; exact hK.out _ ⟨qX, qY⟩)
            | (go_simp; go_at_call 28; (with_reducible refine (HAX.out _).mono ?_); rintro e uw1 ⟨rfl, hv⟩; go_wp2_with fail; exact hK.out _ ⟨qX.more hv, qY.more hv⟩)
            | (go_simp; go_at_call 28; (with_reducible refine (HAY.out _).mono ?_); rintro e uw1 ⟨rfl, hv⟩; go_wp2_with fail; exact hK.out _ ⟨qX.more hv, qY.more hv⟩)
        try simp only [Act.put, List.setIfInBounds_toArray, List.set_cons_zero, List.set_cons_succ])
      refine SeqH.end' rfl ?_
      intro v9 hS
      clear X Y
      obtain ⟨X, Y⟩ := hS
      have X_0 := X.cells 0 _ rfl
      have X_1 := X.cells 1 _ rfl
      have X_2 := X.cells 2 _ rfl
      have X_3 := X.cells 3 _ rfl
      have X_4 := X.cells 4 _ rfl
      have X_f0 := X.free 0 (by simp)
      have X_f1 := X.free 1 (by simp)
      have X_f2 := X.free 2 (by simp)
      have X_f3 := X.free 3 (by simp)
      have X_f4 := X.free 4 (by simp)
      have X_t := X.there
      have Y_0 := Y.cells 0 _ rfl
      have Y_1 := Y.cells 1 _ rfl
      have Y_2 := Y.cells 2 _ rfl
      have Y_3 := Y.cells 3 _ rfl
      have Y_4 := Y.cells 4 _ rfl
      have Y_f0 := Y.free 0 (by simp)
      have Y_f1 := Y.free 1 (by simp)
      have Y_f2 := Y.free 2 (by simp)
      have Y_f3 := Y.free 3 (by simp)
      have Y_f4 := Y.free 4 (by simp)
      have Y_t := Y.there
      go_wp2
      go_ret
      exact rpost (by rw [HF.out, HQ.out] <;> rfl) X.below
def fndI (l : List R) (d : Int) : Int := match fnd l d with | some k => (k : Int) | none => -1
theorem fndI_some {l : List R} {d : Int} {k : Nat} (h : fnd l d = some k) : fndI l d = k := by unfold fndI; rw [h]
theorem fndI_none {l : List R} {d : Int} (h : fnd l d = none) : fndI l d = -1 := by unfold fndI; rw [h]
def IPost (n : Int) (w : World) (e : Ending) (w' : World) : Prop := e = .returned (.int .i64 n) ∧ w = w'
theorem ipost {n m : Int} {w : World} (h : m = n) : IPost n w (.returned (.int .i64 m)) w := ⟨by rw [h], rfl⟩
theorem find_spec (P : Option Addr) (cap : Nat) (l : List R) (d : Int) (w : World) (hr : Rd w w.heap.size P (flat l)) (hn : l.length ≤ 1048576) :
    Calls Try.prog 40 #[.slice P l.length cap, .int .i64 d] w (IPost (fndI l d) w) := by
  have HR := Lib.hid hr; clear hr
  go_enter Try.func40, Try.ntmps40
  go_wp2
  go_loopw [5] (fun i wr => ∃ k : Nat, k ≤ l.length ∧ i = .int .i64 k ∧ Hid (Not l d k) ∧ wr = w) (fun i _ => l.length - (intOf i).toNat)
  case atStart => exact ⟨0, Nat.zero_le _, rfl, Lib.hid (fun j _ hj => by omega), rfl⟩
  case round =>
    obtain ⟨k, hk, rfl, HN, rfl⟩ := hrel
    by_cases hlt : k < l.length
    · obtain ⟨b, o, rfl, hb, hc⟩ := HR.out.at (k := k * 5) (by rw [flat_n]; omega)
      obtain ⟨x, hx⟩ : ∃ x, l[k] = x := ⟨_, rfl⟩
      obtain ⟨h0, h1, h2, h3, h4⟩ := cells5 (Below.refl _ _) hb hc hlt hx
      have HL := Lib.hid hlt
      clear hc
      cases he : (x.f0 == d)
      · have HN1 := Lib.hid (HN.out.next hlt (by rw [hx]; exact beq_eq_false_iff_ne.1 he)); clear hx
        go_wp2
        go_roundw
        case rel => exact ⟨k + 1, HL.out, by go_num, HN1, trivial⟩
        case measure => have := HL.out; simp [intOf]; omega
      · have HF := Lib.hid (fndI_some (fnd_at hlt HN.out hx (eq_of_beq he))); clear hx
        go_wp2
        go_ret
        exact ipost HF.out.symm
    · have HF := Lib.hid (fndI_none (fnd_none (l := l) (d := d) (fun j hj _ => HN.out j hj (by omega))))
      go_wp2
      go_ret
      exact ipost HF.out.symm
/-- the program's findTrip. -/
def ftV (l : List R) (d : Int) : Value := if good l = true then (match fnd l d with | some k => .tuple #[.int .i64 (k : Int), .bool true] | none => .tuple #[.int .i64 0, .bool false]) else .tuple #[.int .i64 0, .bool false]
theorem ftV_bad {l : List R} {d : Int} (h : good l = false) : ftV l d = .tuple #[.int .i64 0, .bool false] := by unfold ftV; rw [h]; rfl
theorem ftV_some {l : List R} {d : Int} {k : Nat} (h : good l = true) (h1 : fnd l d = some k) : ftV l d = .tuple #[.int .i64 (k : Int), .bool true] := by unfold ftV; rw [if_pos h, h1]
theorem ftV_none {l : List R} {d : Int} (h : good l = true) (h1 : fnd l d = none) : ftV l d = .tuple #[.int .i64 0, .bool false] := by unfold ftV; rw [if_pos h, h1]
set_option maxHeartbeats 800000 in
theorem find_impl (P : Option Addr) (cap : Nat) (l : List R) (d : Int) (w : World) (hr : Rd w w.heap.size P (flat l)) (hn : l.length ≤ 1048576) :
    Calls Try.prog 37 #[.slice P l.length cap, .int .i64 d] w (RPost (ftV l d) w) := by
  have HR := Lib.hid hr; clear hr
  go_enter Try.func37, Try.ntmps37
  go_wp2_with fail
  refine (are_impl P cap l w HR.out hn).mono ?_
  rintro e w1 ⟨rfl, HB⟩
  cases hg : good l
  · have HV := Lib.hid (ftV_bad (d := d) hg)
    go_wp2
    go_ret2
    exact rpost (by rw [HV.out] <;> rfl) HB
  have HG := Lib.hid hg; clear hg
  go_wp2
  go_loopw [13] (fun i wr => ∃ k : Nat, k ≤ l.length ∧ i = .int .i64 k ∧ Hid (Not l d k) ∧ Below w.heap.size w wr) (fun i _ => l.length - (intOf i).toNat)
  case atStart => exact ⟨0, Nat.zero_le _, rfl, Lib.hid (fun j _ hj => by omega), HB⟩
  case round =>
    clear HB
    obtain ⟨k, hk, rfl, HN, HB⟩ := hrel
    by_cases hlt : k < l.length
    · obtain ⟨b, o, rfl, hb, hc⟩ := HR.out.at (k := k * 5) (by rw [flat_n]; omega)
      obtain ⟨x, hx⟩ : ∃ x, l[k] = x := ⟨_, rfl⟩
      obtain ⟨h0, h1, h2, h3, h4⟩ := cells5 HB hb hc hlt hx
      have HL := Lib.hid hlt
      clear hc
      cases he : (x.f0 == d)
      · have HN1 := Lib.hid (HN.out.next hlt (by rw [hx]; exact beq_eq_false_iff_ne.1 he)); clear hx
        go_wp2
        go_roundw
        case rel => exact ⟨k + 1, HL.out, by go_num, HN1, al HB⟩
        case measure => have := HL.out; simp [intOf]; omega
      · have HV := Lib.hid (ftV_some HG.out (fnd_at hlt HN.out hx (eq_of_beq he))); clear hx
        go_wp2
        go_ret2
        exact rpost (by rw [HV.out] <;> rfl) (al HB)
    · have HV := Lib.hid (ftV_none HG.out (fnd_none (l := l) (d := d) (fun j hj _ => HN.out j hj (by omega))))
      go_wp2
      go_ret2
      exact rpost (by rw [HV.out] <;> rfl) HB
set_option maxHeartbeats 800000 in
theorem free_spec (P : Option Addr) (cap : Nat) (l : List R) (y : R) (hl : ∀ x ∈ l, okT x = true) (hy : okT y = true) (w : World) (hr : Rd w w.heap.size P (flat l)) (hn : l.length ≤ 1048576) :
    Calls Try.prog 41 #[.slice P l.length cap, .agg #[.int .i64 y.f0, .int .i64 y.f1, .int .i64 y.f2, .int .i64 y.f3, .int .i64 y.f4]] w (RPost (.bool (freeB l y)) w) := by
  have HR := Lib.hid hr; clear hr
  have HLL := Lib.hid hl; clear hl
  have HOY := Lib.hid hy; clear hy
  go_enter Try.func41, Try.ntmps41
  go_wp2_with fail
  have Y := Box.new (Below.refl _ w) [.int .i64 y.f0, .int .i64 y.f1, .int .i64 y.f2, .int .i64 y.f3, .int .i64 y.f4] 25 (g := w.heap.size) rfl
  generalize (w.alloc (.cells #[.int .i64 y.f0, .int .i64 y.f1, .int .i64 y.f2, .int .i64 y.f3, .int .i64 y.f4] 25)) = W1 at Y ⊢
  have Y_0 := Y.cells 0 _ rfl
  have Y_1 := Y.cells 1 _ rfl
  have Y_2 := Y.cells 2 _ rfl
  have Y_3 := Y.cells 3 _ rfl
  have Y_4 := Y.cells 4 _ rfl
  have Y_f0 := Y.free 0 (by simp)
  have Y_f1 := Y.free 1 (by simp)
  have Y_f2 := Y.free 2 (by simp)
  have Y_f3 := Y.free 3 (by simp)
  have Y_f4 := Y.free 4 (by simp)
  have Y_t := Y.there
  clear Y_0 Y_1 Y_2 Y_3 Y_4 Y_f0 Y_f1 Y_f2 Y_f3 Y_f4 Y_t
  go_wp2_with fail
  go_loopw [5] (fun i wr => ∃ k : Nat, k ≤ l.length ∧ i = .int .i64 k ∧ Hid (Free l y k) ∧ Box w.heap.size [.int .i64 y.f0, .int .i64 y.f1, .int .i64 y.f2, .int .i64 y.f3, .int .i64 y.f4] w wr) (fun i _ => l.length - (intOf i).toNat)
  case atStart => exact ⟨0, Nat.zero_le _, rfl, Lib.hid (fun s hs => by omega), Y⟩
  case round =>
    clear Y
    obtain ⟨k, hk, rfl, HF, Y⟩ := hrel
    by_cases hlt : k < l.length
    · obtain ⟨b, o, rfl, hb, hc⟩ := HR.out.at (k := k * 5) (by rw [flat_n]; omega)
      obtain ⟨x, hx⟩ : ∃ x, l[k] = x := ⟨_, rfl⟩
      obtain ⟨h0, h1, h2, h3, h4⟩ := cells5 (Below.refl _ _) hb hc hlt hx
      have HOX := Lib.hid (show okT x = true by rw [← hx]; exact HLL.out _ (List.getElem_mem hlt))
      have HX := Lib.hid hx
      have HL := Lib.hid hlt
      clear hc hx
      have Y_0 := Y.cells 0 _ rfl
      have Y_1 := Y.cells 1 _ rfl
      have Y_2 := Y.cells 2 _ rfl
      have Y_3 := Y.cells 3 _ rfl
      have Y_4 := Y.cells 4 _ rfl
      have Y_f0 := Y.free 0 (by simp)
      have Y_f1 := Y.free 1 (by simp)
      have Y_f2 := Y.free 2 (by simp)
      have Y_f3 := Y.free 3 (by simp)
      have Y_f4 := Y.free 4 (by simp)
      have Y_t := Y.there
      cases he : (x.f0 != y.f0)
      · have HQ := Lib.hid (HF.out.next (freeAt_same HL.out HX.out (by simpa using he)))
        go_wp2_with fail
        have h0_c := ((bcell Y.below).1 _ _ hb).trans h0
        have h1_c := ((bcell Y.below).1 _ _ hb).trans h1
        have h2_c := ((bcell Y.below).1 _ _ hb).trans h2
        have h3_c := ((bcell Y.below).1 _ _ hb).trans h3
        have h4_c := ((bcell Y.below).1 _ _ hb).trans h4
        refine wp_region_text (fun w' => Box (w.heap.size) [.int .i64 y.f0, .int .i64 y.f1, .int .i64 y.f2, .int .i64 y.f3, .int .i64 y.f4] w w') (by kernel_rfl) (by kernel_rfl) (Y.drew) ?_
        clear Y_0 Y_1 Y_2 Y_3 Y_4 Y_f0 Y_f1 Y_f2 Y_f3 Y_f4 Y_t
        clear h0_c
        clear h1_c
        clear h2_c
        clear h3_c
        clear h4_c
        iterate 16 (
          apply SeqH.one
          · intro uw K hS hK
            have qY := hS
            have qY_0 := qY.cells 0 _ rfl
            have qY_1 := qY.cells 1 _ rfl
            have qY_2 := qY.cells 2 _ rfl
            have qY_3 := qY.cells 3 _ rfl
            have qY_4 := qY.cells 4 _ rfl
            have qh0_c := ((bcell qY.below).1 _ _ hb).trans h0
            have qh1_c := ((bcell qY.below).1 _ _ hb).trans h1
            have qh2_c := ((bcell qY.below).1 _ _ hb).trans h2
            have qh3_c := ((bcell qY.below).1 _ _ hb).trans h3
            have qh4_c := ((bcell qY.below).1 _ _ hb).trans h4
            first
              | (go_simp; exact hK.out _ qY)
              | (go_simp; go_at_call 56; (with_reducible refine (meet_spec x y HOX.out HOY.out _).mono ?_); rintro e uw1 ⟨rfl, hv⟩; go_wp2_with fail; exact hK.out _ (qY.more hv))
          try simp only [Act.put, List.setIfInBounds_toArray, List.set_cons_zero, List.set_cons_succ])
        refine SeqH.end' rfl ?_
        intro v2 hS
        clear Y
        have Y := hS; clear hS
        have Y_0 := Y.cells 0 _ rfl
        have Y_1 := Y.cells 1 _ rfl
        have Y_2 := Y.cells 2 _ rfl
        have Y_3 := Y.cells 3 _ rfl
        have Y_4 := Y.cells 4 _ rfl
        have Y_f0 := Y.free 0 (by simp)
        have Y_f1 := Y.free 1 (by simp)
        have Y_f2 := Y.free 2 (by simp)
        have Y_f3 := Y.free 3 (by simp)
        have Y_f4 := Y.free 4 (by simp)
        have Y_t := Y.there
        have h0_c := ((bcell Y.below).1 _ _ hb).trans h0
        have h1_c := ((bcell Y.below).1 _ _ hb).trans h1
        have h2_c := ((bcell Y.below).1 _ _ hb).trans h2
        have h3_c := ((bcell Y.below).1 _ _ hb).trans h3
        have h4_c := ((bcell Y.below).1 _ _ hb).trans h4
        go_wp2
        go_roundw
        case rel => exact ⟨k + 1, HL.out, by go_num, HQ, Y⟩
        case measure => have := HL.out; simp [intOf]; omega
      have HA := Lib.hid (freeAt_meet HL.out HX.out (show x.f0 ≠ y.f0 by simpa using he))
      cases hm : meetB x y
      · have HQ := Lib.hid (HF.out.next (show freeAt l y k = true by rw [HA.out, hm]; rfl))
        go_wp2_with fail
        have h0_c := ((bcell Y.below).1 _ _ hb).trans h0
        have h1_c := ((bcell Y.below).1 _ _ hb).trans h1
        have h2_c := ((bcell Y.below).1 _ _ hb).trans h2
        have h3_c := ((bcell Y.below).1 _ _ hb).trans h3
        have h4_c := ((bcell Y.below).1 _ _ hb).trans h4
        refine wp_region_text (fun w' => Box (w.heap.size) [.int .i64 y.f0, .int .i64 y.f1, .int .i64 y.f2, .int .i64 y.f3, .int .i64 y.f4] w w') (by kernel_rfl) (by kernel_rfl) (Y.drew) ?_
        clear Y_0 Y_1 Y_2 Y_3 Y_4 Y_f0 Y_f1 Y_f2 Y_f3 Y_f4 Y_t
        clear h0_c
        clear h1_c
        clear h2_c
        clear h3_c
        clear h4_c
        iterate 16 (
          apply SeqH.one
          · intro uw K hS hK
            have qY := hS
            have qY_0 := qY.cells 0 _ rfl
            have qY_1 := qY.cells 1 _ rfl
            have qY_2 := qY.cells 2 _ rfl
            have qY_3 := qY.cells 3 _ rfl
            have qY_4 := qY.cells 4 _ rfl
            have qh0_c := ((bcell qY.below).1 _ _ hb).trans h0
            have qh1_c := ((bcell qY.below).1 _ _ hb).trans h1
            have qh2_c := ((bcell qY.below).1 _ _ hb).trans h2
            have qh3_c := ((bcell qY.below).1 _ _ hb).trans h3
            have qh4_c := ((bcell qY.below).1 _ _ hb).trans h4
            first
              | (go_simp; exact hK.out _ qY)
              | (go_simp; go_at_call 56; (with_reducible refine (meet_spec x y HOX.out HOY.out _).mono ?_); rintro e uw1 ⟨rfl, hv⟩; rw [hm]; go_wp2_with fail; exact hK.out _ (qY.more hv))
          try simp only [Act.put, List.setIfInBounds_toArray, List.set_cons_zero, List.set_cons_succ])
        refine SeqH.end' rfl ?_
        intro v3 hS
        clear Y
        have Y := hS; clear hS
        have Y_0 := Y.cells 0 _ rfl
        have Y_1 := Y.cells 1 _ rfl
        have Y_2 := Y.cells 2 _ rfl
        have Y_3 := Y.cells 3 _ rfl
        have Y_4 := Y.cells 4 _ rfl
        have Y_f0 := Y.free 0 (by simp)
        have Y_f1 := Y.free 1 (by simp)
        have Y_f2 := Y.free 2 (by simp)
        have Y_f3 := Y.free 3 (by simp)
        have Y_f4 := Y.free 4 (by simp)
        have Y_t := Y.there
        have h0_c := ((bcell Y.below).1 _ _ hb).trans h0
        have h1_c := ((bcell Y.below).1 _ _ hb).trans h1
        have h2_c := ((bcell Y.below).1 _ _ hb).trans h2
        have h3_c := ((bcell Y.below).1 _ _ hb).trans h3
        have h4_c := ((bcell Y.below).1 _ _ hb).trans h4
        go_wp2
        go_roundw
        case rel => exact ⟨k + 1, HL.out, by go_num, HQ, Y⟩
        case measure => have := HL.out; simp [intOf]; omega
      · have HQ := Lib.hid (free_no HL.out (show freeAt l y k = false by rw [HA.out, hm]; rfl))
        go_wp2_with fail
        have h0_c := ((bcell Y.below).1 _ _ hb).trans h0
        have h1_c := ((bcell Y.below).1 _ _ hb).trans h1
        have h2_c := ((bcell Y.below).1 _ _ hb).trans h2
        have h3_c := ((bcell Y.below).1 _ _ hb).trans h3
        have h4_c := ((bcell Y.below).1 _ _ hb).trans h4
        refine wp_region_text (fun w' => Box (w.heap.size) [.int .i64 y.f0, .int .i64 y.f1, .int .i64 y.f2, .int .i64 y.f3, .int .i64 y.f4] w w') (by kernel_rfl) (by kernel_rfl) (Y.drew) ?_
        clear Y_0 Y_1 Y_2 Y_3 Y_4 Y_f0 Y_f1 Y_f2 Y_f3 Y_f4 Y_t
        clear h0_c
        clear h1_c
        clear h2_c
        clear h3_c
        clear h4_c
        iterate 16 (
          apply SeqH.one
          · intro uw K hS hK
            have qY := hS
            have qY_0 := qY.cells 0 _ rfl
            have qY_1 := qY.cells 1 _ rfl
            have qY_2 := qY.cells 2 _ rfl
            have qY_3 := qY.cells 3 _ rfl
            have qY_4 := qY.cells 4 _ rfl
            have qh0_c := ((bcell qY.below).1 _ _ hb).trans h0
            have qh1_c := ((bcell qY.below).1 _ _ hb).trans h1
            have qh2_c := ((bcell qY.below).1 _ _ hb).trans h2
            have qh3_c := ((bcell qY.below).1 _ _ hb).trans h3
            have qh4_c := ((bcell qY.below).1 _ _ hb).trans h4
            first
              | (go_simp; exact hK.out _ qY)
              | (go_simp; go_at_call 56; (with_reducible refine (meet_spec x y HOX.out HOY.out _).mono ?_); rintro e uw1 ⟨rfl, hv⟩; rw [hm]; go_wp2_with fail; exact hK.out _ (qY.more hv))
          try simp only [Act.put, List.setIfInBounds_toArray, List.set_cons_zero, List.set_cons_succ])
        refine SeqH.end' rfl ?_
        intro v4 hS
        clear Y
        have Y := hS; clear hS
        have Y_0 := Y.cells 0 _ rfl
        have Y_1 := Y.cells 1 _ rfl
        have Y_2 := Y.cells 2 _ rfl
        have Y_3 := Y.cells 3 _ rfl
        have Y_4 := Y.cells 4 _ rfl
        have Y_f0 := Y.free 0 (by simp)
        have Y_f1 := Y.free 1 (by simp)
        have Y_f2 := Y.free 2 (by simp)
        have Y_f3 := Y.free 3 (by simp)
        have Y_f4 := Y.free 4 (by simp)
        have Y_t := Y.there
        have h0_c := ((bcell Y.below).1 _ _ hb).trans h0
        have h1_c := ((bcell Y.below).1 _ _ hb).trans h1
        have h2_c := ((bcell Y.below).1 _ _ hb).trans h2
        have h3_c := ((bcell Y.below).1 _ _ hb).trans h3
        have h4_c := ((bcell Y.below).1 _ _ hb).trans h4
        go_wp2
        go_ret
        exact rpost (by rw [HQ.out] <;> rfl) Y.below
    · have HQ := Lib.hid (free_yes HF.out (by omega))
      go_wp2
      go_ret
      exact rpost (by rw [HQ.out] <;> rfl) Y.below
/-- what a function value answers of a worker, in every world that has what this one has. -/
def Gives (l : List R) (g : Nat) (lb : Array Value) (p : R → Bool) (w : World) : Prop :=
  ∀ (x : R) (W : World), x ∈ l → Below w.heap.size w W → Calls Try.prog g (#[.agg #[.int .i64 x.f0, .int .i64 x.f1, .int .i64 x.f2, .int .i64 x.f3, .int .i64 x.f4]] ++ lb) W (RPost (.bool (p x)) W)
def Nope (p : R → Bool) (l : List R) (k : Nat) : Prop := ∀ j (h : j < l.length), j < k → p l[j] = false
theorem Nope.next {p : R → Bool} {l : List R} {k : Nat} (h : Nope p l k) (hk : k < l.length) (he : p l[k] = false) : Nope p l (k + 1) := fun j hj hj2 => by
  rcases Nat.lt_or_ge j k with h1 | h1
  · exact h j hj h1
  · have : j = k := by omega
    subst this; exact he
theorem Nope.none {p : R → Bool} {l : List R} (h : Nope p l l.length) : l.any p = false := by
  rw [List.any_eq_false]
  intro y hy
  obtain ⟨j, hj, rfl⟩ := List.getElem_of_mem hy
  rw [h j hj hj]; simp
/-- the index answered: below zero just if there is none. -/
def IxPost (p : R → Bool) (l : List R) (w : World) (e : Ending) (w' : World) : Prop := ∃ i : Int, e = .returned (.int .i64 i) ∧ decide (0 ≤ i) = l.any p ∧ -1 ≤ i ∧ i ≤ 1048576 ∧ Below w.heap.size w w'
theorem ix_mk {p : R → Bool} {l : List R} {w w' : World} {v : Value} (i : Int) (h : v = .int .i64 i) (hi : decide (0 ≤ i) = l.any p) (h1 : -1 ≤ i) (h2 : i ≤ 1048576) (hB : Below w.heap.size w w') : IxPost p l w (.returned v) w' := ⟨i, by rw [h], hi, h1, h2, hB⟩
set_option maxHeartbeats 1000000 in
theorem index_any (P : Option Addr) (cap : Nat) (l : List R) (g : Nat) (lb : Array Value) (p : R → Bool) (eg : ∀ args w, (callFunc g args).run Try.prog w = .ok (.enter g args) w) (w : World) (hg : Gives l g lb p w) (hr : Rd w w.heap.size P (flat l)) (hn : l.length ≤ 1048576) :
    Calls Try.prog 61 #[.slice P l.length cap, .func (.func g) #[] lb] w (IxPost p l w) := by
  have HR := Lib.hid hr; clear hr
  have HG := Lib.hid hg; clear hg
  go_enter Try.func61, Try.ntmps61
  go_wp2
  go_loopw [8] (fun i wr => ∃ k : Nat, k ≤ l.length ∧ i = .int .i64 k ∧ Hid (Nope p l k) ∧ Below w.heap.size w wr) (fun i _ => l.length - (intOf i).toNat)
  case atStart => exact ⟨0, Nat.zero_le _, rfl, Lib.hid (fun j _ hj => by omega), Below.refl _ _⟩
  case round =>
    obtain ⟨k, hk, rfl, HN, HB⟩ := hrel
    by_cases hlt : k < l.length
    · obtain ⟨b, o, rfl, hb, hc⟩ := HR.out.at (k := k * 5) (by rw [flat_n]; omega)
      obtain ⟨x, hx⟩ : ∃ x, l[k] = x := ⟨_, rfl⟩
      obtain ⟨h0, h1, h2, h3, h4⟩ := cells5 HB hb hc hlt hx
      have hcall := HG.out x wr (by rw [← hx]; exact List.getElem_mem hlt) HB
      have HX := Lib.hid hx; clear hx hc
      have HL := Lib.hid hlt
      have HB' := Lib.hid HB; clear HB
      cases hq : p x with
      | true =>
        rw [hq] at hcall
        have HA := Lib.hid (show l.any p = true from List.any_eq_true.2 ⟨l[k]'hlt, List.getElem_mem hlt, by rw [HX.out]; exact hq⟩)
        go_wp2_with (go_at_fn g; refine hcall.mono ?_; rintro e w' ⟨rfl, hv⟩)
        go_ret
        exact ix_mk (k : Int) rfl (by rw [HA.out]; exact decide_eq_true (by omega)) (by omega) (by have := HL.out; omega) (be HB'.out hv)
      | false =>
        rw [hq] at hcall
        have HN1 := Lib.hid (HN.out.next HL.out (by rw [HX.out]; exact hq))
        go_wp2_with (go_at_fn g; refine hcall.mono ?_; rintro e w' ⟨rfl, hv⟩)
        go_roundw
        case rel => exact ⟨k + 1, HL.out, by go_num, HN1, be HB'.out hv⟩
        case measure => have := HL.out; simp [intOf]; omega
    · have HF := Lib.hid (show l.any p = false from Nope.none (fun j hj _ => HN.out j hj (by omega)))
      go_wp2
      go_ret
      exact ix_mk (-1) rfl (by rw [HF.out]; rfl) (by omega) (by omega) HB
theorem contains_any (P : Option Addr) (cap : Nat) (l : List R) (g : Nat) (lb : Array Value) (p : R → Bool) (eg : ∀ args w, (callFunc g args).run Try.prog w = .ok (.enter g args) w) (w : World) (hg : Gives l g lb p w) (hr : Rd w w.heap.size P (flat l)) (hn : l.length ≤ 1048576) :
    Calls Try.prog 53 #[.slice P l.length cap, .func (.func g) #[] lb] w (RPost (.bool (l.any p)) w) := by
  have HI := Lib.hid (index_any P cap l g lb p eg w hg hr hn); clear hg hr
  go_enter Try.func53, Try.ntmps53
  go_wp2_with fail
  refine HI.out.mono ?_
  rintro e w1 ⟨i, rfl, hi, h1, h2, hB⟩
  have HQ := Lib.hid hi; clear hi
  go_wp2
  go_ret
  exact rpost (by rw [← HQ.out] <;> rfl) hB
theorem other_gives (l : List R) (t : R) (hl : ∀ x ∈ l, okT x = true) (ht : okT t = true) (w W0 : World) (B : Box w.heap.size [.int .i64 t.f0, .int .i64 t.f1, .int .i64 t.f2, .int .i64 t.f3, .int .i64 t.f4] w W0) :
    Gives l 54 #[.pointer (some ⟨w.heap.size, 0, none⟩)] (fun x => x.f0 != t.f0 && meetB t x) W0 := by
  intro x W hx hW
  have HOX := Lib.hid (hl x hx)
  have HOT := Lib.hid ht
  replace B := B.more hW
  have HWB := B.there
  have c0 : W.cell? ⟨w.heap.size, 0, none⟩ = some (.int .i64 t.f0) := B.cells 0 _ rfl
  have c1 : W.cell? ⟨w.heap.size, 1, none⟩ = some (.int .i64 t.f1) := B.cells 1 _ rfl
  have c2 : W.cell? ⟨w.heap.size, 2, none⟩ = some (.int .i64 t.f2) := B.cells 2 _ rfl
  have c3 : W.cell? ⟨w.heap.size, 3, none⟩ = some (.int .i64 t.f3) := B.cells 3 _ rfl
  have c4 : W.cell? ⟨w.heap.size, 4, none⟩ = some (.int .i64 t.f4) := B.cells 4 _ rfl
  clear hx hW hl ht B
  show Calls Try.prog 54 #[.agg #[.int .i64 x.f0, .int .i64 x.f1, .int .i64 x.f2, .int .i64 x.f3, .int .i64 x.f4], .pointer (some ⟨w.heap.size, 0, none⟩)] W _
  generalize w.heap.size = p at HWB c0 c1 c2 c3 c4
  cases he : (x.f0 != t.f0)
  · go_enter Try.func54, Try.ntmps54
    go_wp2
    go_ret
    exact rpost (show _ = Value.bool (x.f0 != t.f0 && meetB t x) by rw [he] <;> rfl) (al (Below.refl _ _))
  · go_enter Try.func54, Try.ntmps54
    go_wp2_with fail
    refine (meet_impl t x HOT.out HOX.out _).mono ?_
    rintro e w1 ⟨rfl, hv⟩
    have HB := be (al (Below.refl _ W)) hv
    clear hv
    go_wp2
    go_ret
    exact rpost (show _ = Value.bool (x.f0 != t.f0 && meetB t x) by rw [he] <;> rfl) HB
theorem any_free (l : List R) (t : R) : l.any (fun x => x.f0 != t.f0 && meetB t x) = !freeB l t := by
  have e : freeB l t = l.all (fun x => !(x.f0 != t.f0 && meetB t x)) := by
    rw [Bool.eq_iff_iff, List.all_eq_true]
    unfold freeB
    rw [List.all_eq_true]
    constructor
    · intro h x hx
      obtain ⟨i, hi, rfl⟩ := List.getElem_of_mem hx
      have := h i (List.mem_range.2 hi)
      unfold freeAt at this
      rw [getD_at hi, meet_comm] at this
      exact this
    · intro h i hi
      have hi := List.mem_range.1 hi
      have := h l[i] (List.getElem_mem hi)
      unfold freeAt
      rw [getD_at hi, meet_comm]
      exact this
  rw [e, ← List.not_any_eq_all_not, Bool.not_not]
theorem other_impl (P : Option Addr) (cap : Nat) (l : List R) (t : R) (hl : ∀ x ∈ l, okT x = true) (ht : okT t = true) (w : World) (hr : Rd w w.heap.size P (flat l)) (hn : l.length ≤ 1048576) :
    Calls Try.prog 38 #[.agg #[.int .i64 t.f0, .int .i64 t.f1, .int .i64 t.f2, .int .i64 t.f3, .int .i64 t.f4], .slice P l.length cap] w (RPost (.bool (!freeB l t)) w) := by
  have HR := Lib.hid hr; clear hr
  have HQ := Lib.hid (any_free l t)
  go_enter Try.func38, Try.ntmps38
  go_wp2_with fail
  have B := Box.new (Below.refl _ w) [.int .i64 t.f0, .int .i64 t.f1, .int .i64 t.f2, .int .i64 t.f3, .int .i64 t.f4] 25 (g := w.heap.size) rfl
  generalize (w.alloc (.cells #[.int .i64 t.f0, .int .i64 t.f1, .int .i64 t.f2, .int .i64 t.f3, .int .i64 t.f4] 25)) = W1 at B ⊢
  have B_0 := B.cells 0 _ rfl
  have B_1 := B.cells 1 _ rfl
  have B_2 := B.cells 2 _ rfl
  have B_3 := B.cells 3 _ rfl
  have B_4 := B.cells 4 _ rfl
  have B_f0 := B.free 0 (by simp)
  have B_f1 := B.free 1 (by simp)
  have B_f2 := B.free 2 (by simp)
  have B_f3 := B.free 3 (by simp)
  have B_f4 := B.free 4 (by simp)
  have B_t := B.there
  refine (contains_any P cap l 54 #[.pointer (some ⟨w.heap.size, 0, none⟩)] _ (enters_of Try.func54 (by kernel_rfl) rfl) _ (other_gives l t hl ht w _ B) ((HR.out.below B.below (Nat.le_refl _)).mono B.below.size) hn).mono ?_
  rintro e w2 ⟨rfl, hv⟩
  have HB := be B.below hv
  clear hv
  rw [HQ.out]
  go_wp2
  go_ret
  exact rpost rfl HB
end Go.Proofs.Ytknlgdahcfgbeaa.TripN
