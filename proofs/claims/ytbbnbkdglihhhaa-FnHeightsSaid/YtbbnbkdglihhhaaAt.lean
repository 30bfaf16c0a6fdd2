/- The model's height in a minute, TideAt. -/
import Derived.Test.YtbbnbkdglihhhaaRed
import Derived.Deep.RegionWith
import Derived.Deep.CutBlock
import Derived.Deep.Cut
import Derived.Deep.DeepCutAuto
import Derived.RegionTactic
import Derived.ChangeAlike
import Derived.BigRegion
namespace Go.Proofs.Ytbbnbkdglihhhaa.At
open Go.RowKit Go.Proofs.Ytbbnbkdglihhhaa.Mem Go.Proofs.Ytbbnbkdglihhhaa.Base Go.Proofs.Ytbbnbkdglihhhaa.SMark Go.Proofs.Ytbbnbkdglihhhaa.Regn Go.Proofs.Ytbbnbkdglihhhaa.Boxes Go.Proofs.Ytbbnbkdglihhhaa.Tide Go.Proofs.Ytbbnbkdglihhhaa.Tide2 Go.Proofs.Ytbbnbkdglihhhaa.Red
set_option linter.unusedVariables false
set_option maxRecDepth 100000
set_option maxHeartbeats 1000000 in
theorem at_spec (P : Option Addr) (cap : Nat) (l : List R) (m : Int) (w : World) (hr : Rd w w.heap.size P (flat l)) (hg : good l = true) (h0 : 0 ≤ m) (h1 : m ≤ 1440) :
    Calls Try.prog 94 #[.slice P l.length cap, .int .i64 m] w (RPost (.tuple #[.int .i64 (low (num l m) (den l m)), .int .i64 (low' (num l m) (den l m))]) w) := by
  obtain ⟨k, HS⟩ := seg_ok hg h0 h1
  have HD := Lib.hid (And.intro (num_bd hg h0 h1) (den_bd hg h0 h1))
  have HK := Lib.hid HS; clear HS
  have hk1 := HK.out.one
  have hkl := HK.out.lt
  have hl12 := (good_true hg).2.1
  have HG := Lib.hid hg; clear hg
  obtain ⟨b, o, rfl, hb, hc⟩ := rd2 hr hkl
  have HC := Lib.hid hc; clear hc hr
  go_enter Try.func94, Try.ntmps94
  go_wp2
  go_loopw [6] (fun i wr => ∃ j : Nat, 1 ≤ j ∧ j ≤ k ∧ i = .int .i64 j ∧ Below w.heap.size w wr) (fun i _ => k - (intOf i).toNat)
  case atStart => exact ⟨1, Nat.le_refl _, hk1, rfl, Below.refl _ _⟩
  case round =>
    obtain ⟨j, hj1, hjk, rfl, HB⟩ := hrel
    rcases Nat.lt_or_ge j k with hlt | hge
    · obtain ⟨x, hx⟩ : ∃ x, (at_ l j).f0 = x := ⟨_, rfl⟩
      have hl := HK.out.late j hj1 hlt
      have c0 := ((bcell HB).1 _ _ hb).trans (HC.out j (by omega)).1
      rw [hx] at hl c0
      clear hx
      have q1 : j < l.length := by omega
      go_wp2
      go_roundw
      case rel => exact ⟨j + 1, by omega, hlt, by go_num, HB⟩
      case measure => simp [intOf]; omega
    · obtain rfl : j = k := by omega
      obtain ⟨i, rfl⟩ : ∃ i, j = i + 1 := ⟨j - 1, by omega⟩
      obtain ⟨x, hx⟩ : ∃ x, at_ l i = x := ⟨_, rfl⟩
      obtain ⟨y, hy⟩ : ∃ y, at_ l (i + 1) = y := ⟨_, rfl⟩
      obtain ⟨c0, c1⟩ := HC.out i (by omega)
      obtain ⟨d0, d1⟩ := HC.out (i + 1) (by omega)
      have hlo := HK.out.lo; have hhi := HK.out.hi; have hasc := HK.out.asc
      have hm := (good_true HG.out).2.2.2.2
      have m1 := hm i (by omega); have m2 := hm (i + 1) hkl
      have g1 := good_minute HG.out (show i < l.length by omega); have g2 := good_minute HG.out hkl
      have e1 := num_is HK.out; have e2 := den_is HK.out
      rw [Nat.add_sub_cancel] at hlo hasc e1 e2
      rw [hx] at c0 c1 hlo hasc m1 g1 e1 e2
      rw [hy] at d0 d1 hhi hasc m2 g2 e1 e2
      have hbd := HD.out
      rw [e1, e2] at hbd
      have HE := Lib.hid (And.intro e1 e2)
      have HX := Lib.hid hx; have HY := Lib.hid hy
      clear hx hy e1 e2 hm
      replace c0 := ((bcell HB).1 _ _ hb).trans c0; replace c1 := ((bcell HB).1 _ _ hb).trans c1
      replace d0 := ((bcell HB).1 _ _ hb).trans d0; replace d1 := ((bcell HB).1 _ _ hb).trans d1
      have q2 : ¬ y.f0 < m := by omega
      have q3 : i < l.length := by omega
      have q4 : i + 1 < l.length := by omega
      have q5 : IntKind.i64.wrap (i : Int) = i := IntWalk.i64_in _ (by omega)
      have hb2 : b < wr.heap.size := Nat.lt_of_lt_of_le hb HB.size
      go_upto_region 4 with fail
      go_cut [7, 8] (fun p q wx => ∃ d g, p = .pointer (some ⟨d, 0, none⟩) ∧ q = .pointer (some ⟨g, 0, none⟩) ∧ d ≠ g ∧ Box d [.int .i64 x.f0, .int .i64 x.f1] w wx ∧ Box g [.int .i64 y.f0, .int .i64 y.f1] w wx)
      case first =>
        have B1 := ((Box.new HB [.int .i64 x.f0, .int .i64 x.f1] 95 (g := wr.heap.size) rfl).alloc (.cells #[.int .i64 y.f0, .int .i64 y.f1] 95)).drew
        have B2 := (Box.new (al HB (o := (.cells #[.int .i64 x.f0, .int .i64 x.f1] 95))) [.int .i64 y.f0, .int .i64 y.f1] 95 (g := wr.heap.size + 1) (by simp only [size_alloc'])).drew
        have C1 := ((Box.new HB [.int .i64 y.f0, .int .i64 y.f1] 95 (g := wr.heap.size) rfl).alloc (.cells #[.int .i64 x.f0, .int .i64 x.f1] 95)).drew
        have C2 := (Box.new (al HB (o := (.cells #[.int .i64 y.f0, .int .i64 y.f1] 95))) [.int .i64 x.f0, .int .i64 x.f1] 95 (g := wr.heap.size + 1) (by simp only [size_alloc'])).drew
        go_region
        all_goals (go_wp2_with fail)
        all_goals go_meet
        all_goals first | exact ⟨_, _, rfl, rfl, by omega, B1, B2⟩ | exact ⟨_, _, rfl, rfl, by omega, C2, C1⟩
      case rest =>
        obtain ⟨d, g, rfl, rfl, hdg, X, Y⟩ := hcut
        have hgd : g ≠ d := fun h => hdg h.symm
        clear c0 c1 d0 d1 HB hb2
        have X_0 := X.cells 0 _ rfl
        have X_1 := X.cells 1 _ rfl
        have X_f0 := X.free 0 (by simp)
        have X_f1 := X.free 1 (by simp)
        have X_t := X.there
        have Y_0 := Y.cells 0 _ rfl
        have Y_1 := Y.cells 1 _ rfl
        have Y_f0 := Y.free 0 (by simp)
        have Y_f1 := Y.free 1 (by simp)
        have Y_t := Y.there
        have z1 := mul_bd (x := x.f1) (y := y.f0 - m) (a := 500) (b := 1440) (by omega) (by omega) (by omega) (by omega) (by omega)
        have z2 := mul_bd (x := y.f1) (y := m - x.f0) (a := 500) (b := 1440) (by omega) (by omega) (by omega) (by omega) (by omega)
        have y1 : IntKind.i64.wrap (y.f0 - m) = y.f0 - m := IntWalk.i64_in _ (by omega)
        have y2 : IntKind.i64.wrap (m - x.f0) = m - x.f0 := IntWalk.i64_in _ (by omega)
        have y3 : IntKind.i64.wrap (x.f1 * (y.f0 - m)) = x.f1 * (y.f0 - m) := IntWalk.i64_in _ (by omega)
        have y4 : IntKind.i64.wrap (y.f1 * (m - x.f0)) = y.f1 * (m - x.f0) := IntWalk.i64_in _ (by omega)
        have y5 : IntKind.i64.wrap (x.f1 * (y.f0 - m) + y.f1 * (m - x.f0)) = x.f1 * (y.f0 - m) + y.f1 * (m - x.f0) := IntWalk.i64_in _ (by omega)
        have y6 : IntKind.i64.wrap (y.f0 - x.f0) = y.f0 - x.f0 := IntWalk.i64_in _ (by omega)
        have HR := Lib.hid (fun u => red_spec (x.f1 * (y.f0 - m) + y.f1 * (m - x.f0)) (y.f0 - x.f0) (by omega) (by omega) (by omega) (by omega) u)
        clear z1 z2 m1 m2 g1 g2 hbd hlo hhi hasc
        go_wp2_with fail
        go_wp2_with fail
        refine (HR.out _).mono ?_
        rintro e v1 ⟨rfl, hv1⟩
        clear X_0 X_1 X_f0 X_f1 X_t
        clear Y_0 Y_1 Y_f0 Y_f1 Y_t
        replace X := X.more hv1
        replace Y := Y.more hv1
        have zhv1 := hv1.size
        clear hv1
        have X_0 := X.cells 0 _ rfl
        have X_1 := X.cells 1 _ rfl
        have X_f0 := X.free 0 (by simp)
        have X_f1 := X.free 1 (by simp)
        have X_t := X.there
        have Y_0 := Y.cells 0 _ rfl
        have Y_1 := Y.cells 1 _ rfl
        have Y_f0 := Y.free 0 (by simp)
        have Y_f1 := Y.free 1 (by simp)
        have Y_t := Y.there
        have HV := Lib.hid (show num l m = x.f1 * (y.f0 - m) + y.f1 * (m - x.f0) ∧ den l m = y.f0 - x.f0 from HE.out)
        clear y1 y2 y3 y4 y5 y6
        go_wp2
        go_ret2
        exact rpost (by rw [HV.out.1, HV.out.2] <;> rfl) X.below
end Go.Proofs.Ytbbnbkdglihhhaa.At
