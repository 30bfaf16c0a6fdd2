/- The program's aroundBoth; slices.Delete over ponds. -/
import Derived.Test.YtncdkfkihfhcgaaJPond
import Derived.Test.YtncdkfkihfhcgaaCut2
import Derived.Deep.RegionLaw
import Derived.Deep.Cut
import Derived.Deep.DeepCutAuto
import Derived.Deep.CutBlock
namespace Go.Proofs.Ytncdkfkihfhcgaa.JPond2
open Go.RowKit Go.Proofs.Ytncdkfkihfhcgaa.Mem Go.Proofs.Ytncdkfkihfhcgaa.Base Go.Proofs.Ytncdkfkihfhcgaa.Within Go.Proofs.Ytncdkfkihfhcgaa.SPond Go.Proofs.Ytncdkfkihfhcgaa.Regn Go.Proofs.Ytncdkfkihfhcgaa.Boxes Go.Proofs.Ytncdkfkihfhcgaa.Pond Go.Proofs.Ytncdkfkihfhcgaa.Pond2 Go.Proofs.Ytncdkfkihfhcgaa.Pond3 Go.Proofs.Ytncdkfkihfhcgaa.Pond4 Go.Proofs.Ytncdkfkihfhcgaa.IPond Go.Proofs.Ytncdkfkihfhcgaa.IPond2 Go.Proofs.Ytncdkfkihfhcgaa.Pond6 Go.Proofs.Ytncdkfkihfhcgaa.Pond7 Go.Proofs.Ytncdkfkihfhcgaa.Keep Go.Proofs.Ytncdkfkihfhcgaa.PClone Go.Proofs.Ytncdkfkihfhcgaa.Cut Go.Proofs.Ytncdkfkihfhcgaa.JPond
set_option linter.unusedVariables false
set_option maxRecDepth 100000
theorem most_is {a b c : Int} (h : (a ≤ b ∧ c = b) ∨ (b ≤ a ∧ c = a)) : most a b = c := by unfold most; split <;> omega
theorem least_is {a b c : Int} (h : (a ≤ b ∧ c = a) ∨ (b ≤ a ∧ c = b)) : least a b = c := by unfold least; split <;> omega
theorem w_x {x y : R} (hx : okP x = true) (hy : okP y = true) (m : y.f1 + y.f3 ≤ x.f1 + x.f3) : IntKind.i64.wrap (x.f1 + x.f3 - oL x y) = oW x y := by
  have b := around_bd hx hy
  have e : oW x y = x.f1 + x.f3 - oL x y := by unfold oW; rw [most_is (.inr ⟨m, rfl⟩)]
  rw [← e]; exact IntWalk.i64_in _ (by omega)
theorem w_y {x y : R} (hx : okP x = true) (hy : okP y = true) (m : ¬ y.f1 + y.f3 ≤ x.f1 + x.f3) : IntKind.i64.wrap (y.f1 + y.f3 - oL x y) = oW x y := by
  have b := around_bd hx hy
  have e : oW x y = y.f1 + y.f3 - oL x y := by unfold oW; rw [most_is (.inl ⟨by omega, rfl⟩)]
  rw [← e]; exact IntWalk.i64_in _ (by omega)
theorem h_x {x y : R} (hx : okP x = true) (hy : okP y = true) (m : y.f2 + y.f4 ≤ x.f2 + x.f4) : IntKind.i64.wrap (x.f2 + x.f4 - oT x y) = oH x y := by
  have b := around_bd hx hy
  have e : oH x y = x.f2 + x.f4 - oT x y := by unfold oH; rw [most_is (.inr ⟨m, rfl⟩)]
  rw [← e]; exact IntWalk.i64_in _ (by omega)
theorem h_y {x y : R} (hx : okP x = true) (hy : okP y = true) (m : ¬ y.f2 + y.f4 ≤ x.f2 + x.f4) : IntKind.i64.wrap (y.f2 + y.f4 - oT x y) = oH x y := by
  have b := around_bd hx hy
  have e : oH x y = y.f2 + y.f4 - oT x y := by unfold oH; rw [most_is (.inl ⟨by omega, rfl⟩)]
  rw [← e]; exact IntWalk.i64_in _ (by omega)
theorem box_six {g : Nat} {w V : World} {a0 a1 a2 a3 a4 a5 c0 c1 c2 c3 c4 c5 d0 d1 d2 d3 d4 d5 : Value} (Z : Box g [a0, a1, a2, a3, a4, a5] w V) (h0 : c0 = d0) (h1 : c1 = d1) (h2 : c2 = d2) (h3 : c3 = d3) (h4 : c4 = d4) (h5 : c5 = d5) :
    Box g [d0, d1, d2, d3, d4, d5] w ((((((V.setCell ⟨g, 0, none⟩ c0).setCell ⟨g, 1, none⟩ c1).setCell ⟨g, 2, none⟩ c2).setCell ⟨g, 3, none⟩ c3).setCell ⟨g, 4, none⟩ c4).setCell ⟨g, 5, none⟩ c5) := by
  subst h0; subst h1; subst h2; subst h3; subst h4; subst h5
  exact (((((Z.set 0 c0).set 1 c1).set 2 c2).set 3 c3).set 4 c4).set 5 c5
set_option maxHeartbeats 4000000 in
theorem around_any (x y : R) (hx : okP x = true) (hy : okP y = true) (w : World) : Calls Try.prog 41 #[.agg #[.int .i64 x.f0, .int .i64 x.f1, .int .i64 x.f2, .int .i64 x.f3, .int .i64 x.f4, .int .i64 x.f5], .agg #[.int .i64 y.f0, .int .i64 y.f1, .int .i64 y.f2, .int .i64 y.f3, .int .i64 y.f4, .int .i64 y.f5]] w
    (RPost (.agg #[.int .i64 x.f0, .int .i64 (oL x y), .int .i64 (oT x y), .int .i64 (oW x y), .int .i64 (oH x y), .int .i64 (oD x y)]) w) := by
  have HX := Lib.hid hx; have HY := Lib.hid hy
  obtain ⟨_, _, a1, a2, a3, a4, a5, a6, a7, a8, _, _, _, _⟩ := okP_true hx
  obtain ⟨_, _, b1, b2, b3, b4, b5, b6, b7, b8, _, _, _, _⟩ := okP_true hy
  have y1 : IntKind.i64.wrap (x.f1 + x.f3) = x.f1 + x.f3 := IntWalk.i64_in _ (by omega)
  have y2 : IntKind.i64.wrap (y.f1 + y.f3) = y.f1 + y.f3 := IntWalk.i64_in _ (by omega)
  have y3 : IntKind.i64.wrap (x.f2 + x.f4) = x.f2 + x.f4 := IntWalk.i64_in _ (by omega)
  have y4 : IntKind.i64.wrap (y.f2 + y.f4) = y.f2 + y.f4 := IntWalk.i64_in _ (by omega)
  have H := Lib.hid (show around x.f0 x y = ⟨x.f0, oL x y, oT x y, oW x y, oH x y, oD x y⟩ from rfl)
  clear a1 a2 a3 a4 a5 a6 a7 a8 b1 b2 b3 b4 b5 b6 b7 b8 hx hy
  go_enter Try.func41, Try.ntmps41
  go_wp2_with fail
  have X := ((Box.new (Below.refl _ w) [.int .i64 x.f0, .int .i64 x.f1, .int .i64 x.f2, .int .i64 x.f3, .int .i64 x.f4, .int .i64 x.f5] 54 (g := w.heap.size) rfl).alloc (.cells #[.int .i64 y.f0, .int .i64 y.f1, .int .i64 y.f2, .int .i64 y.f3, .int .i64 y.f4, .int .i64 y.f5] 54)).alloc (.cells #[.int .i64 0, .int .i64 0, .int .i64 0, .int .i64 0, .int .i64 0, .int .i64 0] 54)
  have Y := (Box.new (al (Below.refl _ w) (o := (.cells #[.int .i64 x.f0, .int .i64 x.f1, .int .i64 x.f2, .int .i64 x.f3, .int .i64 x.f4, .int .i64 x.f5] 54))) [.int .i64 y.f0, .int .i64 y.f1, .int .i64 y.f2, .int .i64 y.f3, .int .i64 y.f4, .int .i64 y.f5] 54 (g := w.heap.size + 1) (by simp only [size_alloc'])).alloc (.cells #[.int .i64 0, .int .i64 0, .int .i64 0, .int .i64 0, .int .i64 0, .int .i64 0] 54)
  have Z := Box.new (al (al (Below.refl _ w) (o := (.cells #[.int .i64 x.f0, .int .i64 x.f1, .int .i64 x.f2, .int .i64 x.f3, .int .i64 x.f4, .int .i64 x.f5] 54))) (o := (.cells #[.int .i64 y.f0, .int .i64 y.f1, .int .i64 y.f2, .int .i64 y.f3, .int .i64 y.f4, .int .i64 y.f5] 54))) [.int .i64 0, .int .i64 0, .int .i64 0, .int .i64 0, .int .i64 0, .int .i64 0] 54 (g := w.heap.size + 1 + 1) (by simp only [size_alloc'])
  generalize (((w.alloc (.cells #[.int .i64 x.f0, .int .i64 x.f1, .int .i64 x.f2, .int .i64 x.f3, .int .i64 x.f4, .int .i64 x.f5] 54)).alloc (.cells #[.int .i64 y.f0, .int .i64 y.f1, .int .i64 y.f2, .int .i64 y.f3, .int .i64 y.f4, .int .i64 y.f5] 54)).alloc (.cells #[.int .i64 0, .int .i64 0, .int .i64 0, .int .i64 0, .int .i64 0, .int .i64 0] 54)) = W1 at X Y Z ⊢
  have X_0 := X.cells 0 _ rfl
  have X_1 := X.cells 1 _ rfl
  have X_2 := X.cells 2 _ rfl
  have X_3 := X.cells 3 _ rfl
  have X_4 := X.cells 4 _ rfl
  have X_5 := X.cells 5 _ rfl
  have X_f0 := X.free 0 (by simp)
  have X_f1 := X.free 1 (by simp)
  have X_f2 := X.free 2 (by simp)
  have X_f3 := X.free 3 (by simp)
  have X_f4 := X.free 4 (by simp)
  have X_f5 := X.free 5 (by simp)
  have X_t := X.there
  have Y_0 := Y.cells 0 _ rfl
  have Y_1 := Y.cells 1 _ rfl
  have Y_2 := Y.cells 2 _ rfl
  have Y_3 := Y.cells 3 _ rfl
  have Y_4 := Y.cells 4 _ rfl
  have Y_5 := Y.cells 5 _ rfl
  have Y_f0 := Y.free 0 (by simp)
  have Y_f1 := Y.free 1 (by simp)
  have Y_f2 := Y.free 2 (by simp)
  have Y_f3 := Y.free 3 (by simp)
  have Y_f4 := Y.free 4 (by simp)
  have Y_f5 := Y.free 5 (by simp)
  have Y_t := Y.there
  have Z_0 := Z.cells 0 _ rfl
  have Z_1 := Z.cells 1 _ rfl
  have Z_2 := Z.cells 2 _ rfl
  have Z_3 := Z.cells 3 _ rfl
  have Z_4 := Z.cells 4 _ rfl
  have Z_5 := Z.cells 5 _ rfl
  have Z_f0 := Z.free 0 (by simp)
  have Z_f1 := Z.free 1 (by simp)
  have Z_f2 := Z.free 2 (by simp)
  have Z_f3 := Z.free 3 (by simp)
  have Z_f4 := Z.free 4 (by simp)
  have Z_f5 := Z.free 5 (by simp)
  have Z_t := Z.there
  go_region
  have eL : (if y.f1 < x.f1 then y.f1 else x.f1) = oL x y := by unfold oL least; split <;> split <;> omega
  have eT : (if y.f2 < x.f2 then y.f2 else x.f2) = oT x y := by unfold oT least; split <;> split <;> omega
  rw [eL, eT]; clear eL eT
  replace X := X.drew; replace Y := Y.drew; replace Z := Z.drew
  generalize W1.drew = V at X Y Z ⊢
  clear X_0 X_1 X_2 X_3 X_4 X_5 X_f0 X_f1 X_f2 X_f3 X_f4 X_f5 X_t
  clear Y_0 Y_1 Y_2 Y_3 Y_4 Y_5 Y_f0 Y_f1 Y_f2 Y_f3 Y_f4 Y_f5 Y_t
  clear Z_0 Z_1 Z_2 Z_3 Z_4 Z_5 Z_f0 Z_f1 Z_f2 Z_f3 Z_f4 Z_f5 Z_t
  have X_0 := X.cells 0 _ rfl
  have X_1 := X.cells 1 _ rfl
  have X_2 := X.cells 2 _ rfl
  have X_3 := X.cells 3 _ rfl
  have X_4 := X.cells 4 _ rfl
  have X_5 := X.cells 5 _ rfl
  have X_f0 := X.free 0 (by simp)
  have X_f1 := X.free 1 (by simp)
  have X_f2 := X.free 2 (by simp)
  have X_f3 := X.free 3 (by simp)
  have X_f4 := X.free 4 (by simp)
  have X_f5 := X.free 5 (by simp)
  have X_t := X.there
  have Y_0 := Y.cells 0 _ rfl
  have Y_1 := Y.cells 1 _ rfl
  have Y_2 := Y.cells 2 _ rfl
  have Y_3 := Y.cells 3 _ rfl
  have Y_4 := Y.cells 4 _ rfl
  have Y_5 := Y.cells 5 _ rfl
  have Y_f0 := Y.free 0 (by simp)
  have Y_f1 := Y.free 1 (by simp)
  have Y_f2 := Y.free 2 (by simp)
  have Y_f3 := Y.free 3 (by simp)
  have Y_f4 := Y.free 4 (by simp)
  have Y_f5 := Y.free 5 (by simp)
  have Y_t := Y.there
  have Z_0 := Z.cells 0 _ rfl
  have Z_1 := Z.cells 1 _ rfl
  have Z_2 := Z.cells 2 _ rfl
  have Z_3 := Z.cells 3 _ rfl
  have Z_4 := Z.cells 4 _ rfl
  have Z_5 := Z.cells 5 _ rfl
  have Z_f0 := Z.free 0 (by simp)
  have Z_f1 := Z.free 1 (by simp)
  have Z_f2 := Z.free 2 (by simp)
  have Z_f3 := Z.free 3 (by simp)
  have Z_f4 := Z.free 4 (by simp)
  have Z_f5 := Z.free 5 (by simp)
  have Z_t := Z.there
  go_upto_region 2 with fail
  go_cut [] (fun wx => Box (w.heap.size + 1 + 1) [.int .i64 x.f0, .int .i64 (oL x y), .int .i64 (oT x y), .int .i64 (oW x y), .int .i64 (oH x y), .int .i64 (oD x y)] w wx)
  case first =>
    clear X_f0 X_f1 X_f2 X_f3 X_f4 X_f5 X_t Y_f0 Y_f1 Y_f2 Y_f3 Y_f4 Y_f5 Y_t Y_0 H
    have HXX := Lib.hid X; have HYY := Lib.hid Y; have HZZ := Lib.hid Z; clear X Y
    have HBD := Lib.hid (around_bd HX.out HY.out)
    go_wp2_with fail
    all_goals
      go_meet
      refine box_six HZZ.out rfl rfl rfl ?_ ?_ ?_
      · exact wrap_is (by unfold oW most; split <;> omega) (by have := HBD.out; omega) (by have := HBD.out; omega)
      · exact wrap_is (by unfold oH most; split <;> omega) (by have := HBD.out; omega) (by have := HBD.out; omega)
      · exact congrArg (Value.int .i64) (by unfold oD least; split <;> omega)
  case rest =>
    clear X Y Z X_0 X_1 X_2 X_3 X_4 X_5 X_f0 X_f1 X_f2 X_f3 X_f4 X_f5 X_t Y_0 Y_1 Y_2 Y_3 Y_4 Y_5 Y_f0 Y_f1 Y_f2 Y_f3 Y_f4 Y_f5 Y_t Z_0 Z_1 Z_2 Z_3 Z_4 Z_5 Z_f0 Z_f1 Z_f2 Z_f3 Z_f4 Z_f5 Z_t y1 y2 y3 y4 HX HY H
    have t0 := hcut.cells 0 _ rfl; have t1 := hcut.cells 1 _ rfl; have t2 := hcut.cells 2 _ rfl; have t3 := hcut.cells 3 _ rfl; have t4 := hcut.cells 4 _ rfl; have t5 := hcut.cells 5 _ rfl
    have hb := hcut.below
    clear hcut
    generalize oL x y = p1 at *
    generalize oT x y = p2 at *
    generalize oW x y = p3 at *
    generalize oH x y = p4 at *
    generalize oD x y = p5 at *
    go_wp2
    exact bodyPost_ret (v := .agg #[.int .i64 x.f0, .int .i64 p1, .int .i64 p2, .int .i64 p3, .int .i64 p4, .int .i64 p5]) (by simp [results, Try.results41, go_sem, t0, t1, t2, t3, t4, t5]) rfl (rpost rfl hb)
end Go.Proofs.Ytncdkfkihfhcgaa.JPond2
