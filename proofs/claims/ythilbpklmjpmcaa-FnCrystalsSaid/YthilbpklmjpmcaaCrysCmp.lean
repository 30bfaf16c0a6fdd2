/- What FnCrystals compares by: vInts, vLiquor. -/
import Derived.Test.YthilbpklmjpmcaaDr
import Derived.Test.YthilbpklmjpmcaaSInt
import Derived.Test.YthilbpklmjpmcaaLiqG
namespace Go.Proofs.Ythilbpklmjpmcaa.CrysCmp
open Go.RowKit Go.Proofs.Ythilbpklmjpmcaa.Mem Go.Proofs.Ythilbpklmjpmcaa.Base Go.Proofs.Ythilbpklmjpmcaa.SInt Go.Proofs.Ythilbpklmjpmcaa.Boxes Go.Proofs.Ythilbpklmjpmcaa.Keep Go.Proofs.Ythilbpklmjpmcaa.Regn
set_option linter.unusedVariables false
set_option maxRecDepth 100000
set_option maxHeartbeats 800000 in
theorem vints_same (A A' : Option Addr) (c c' : Nat) (l : List Int) (w : World) (hr : Rd w w.heap.size A (iv l)) (hr' : Rd w w.heap.size A' (iv l)) (hn : l.length ≤ 1048576) :
    Calls Try.prog 19 #[.slice A l.length c, .slice A' l.length c'] w (SKind.RPost (.bool true) w) := by
  have HR := Lib.hid hr; clear hr
  have HR' := Lib.hid hr'; clear hr'
  go_enter Try.func19, Try.ntmps19
  go_wp2
  go_loopw [5] (fun i wr => ∃ k : Nat, k ≤ l.length ∧ i = .int .i64 k ∧ Drawn w wr) (fun i _ => l.length - (intOf i).toNat)
  case atStart => exact ⟨0, Nat.zero_le _, rfl, Drawn.refl _⟩
  case round =>
    obtain ⟨k, hk, rfl, hw⟩ := hrel
    have HW := Lib.hid hw; clear hw
    by_cases hlt : k < l.length
    · obtain ⟨b, o, rfl, hb, hc⟩ := HR.out.at (k := k) (by rw [iv_len]; exact hlt)
      obtain ⟨b', o', rfl, hb', hc'⟩ := HR'.out.at (k := k) (by rw [iv_len]; exact hlt)
      have h0 : wr.cell? ⟨b, o + k, none⟩ = some (.int .i64 l[k]) := (HW.out.cell _ _).trans (hc _ _ (iv_get l k hlt))
      have h1 : wr.cell? ⟨b', o' + k, none⟩ = some (.int .i64 l[k]) := (HW.out.cell _ _).trans (hc' _ _ (iv_get l k hlt))
      have e3 : IntKind.i64.wrap ((k : Int) + 1) = k + 1 := IntWalk.i64_in _ (by omega)
      clear hc hc'
      generalize l[k] = p0 at h0 h1
      go_wp2_with fail
      go_quiet (fail)
      generalize nq = q1
      go_wp2
      exact ⟨⟨k + 1, hlt, by go_num, HW.out.more _⟩, by simp [intOf]; omega⟩
    · go_wp2
      go_ret
      exact ⟨rfl, HW.out.below _⟩
set_option maxHeartbeats 800000 in
theorem vliq_same (wt : Int) (A A' : Option Addr) (c c' : Nat) (l : List Int) (w : World) (hr : Rd w w.heap.size A (iv l)) (hr' : Rd w w.heap.size A' (iv l)) (hn : l.length ≤ 1048576) :
    Calls Try.prog 18 #[.agg #[.int .i64 wt, .slice A l.length c], .agg #[.int .i64 wt, .slice A' l.length c']] w (SKind.RPost (.bool true) w) := by
  have HR := Lib.hid hr; clear hr
  have HR' := Lib.hid hr'; clear hr'
  go_enter Try.func18, Try.ntmps18
  go_wp2_with fail
  have X := (Box.new (Below.refl _ w) [.int .i64 wt, .slice A l.length c] 27 (g := w.heap.size) rfl).alloc (.cells #[.int .i64 wt, .slice A' l.length c'] 27)
  have Y := Box.new (al (Below.refl _ w) (o := (.cells #[.int .i64 wt, .slice A l.length c] 27))) [.int .i64 wt, .slice A' l.length c'] 27 (g := w.heap.size + 1) (by simp only [size_alloc'])
  generalize ((w.alloc (.cells #[.int .i64 wt, .slice A l.length c] 27)).alloc (.cells #[.int .i64 wt, .slice A' l.length c'] 27)) = W1 at X Y ⊢
  have X_0 := X.cells 0 _ rfl
  have X_1 := X.cells 1 _ rfl
  have X_f0 := X.free 0 (by simp)
  have X_f1 := X.free 1 (by simp)
  have X_t := X.there
  have Y_0 := Y.cells 0 _ rfl
  have Y_1 := Y.cells 1 _ rfl
  have Y_f0 := Y.free 0 (by simp)
  have Y_f1 := Y.free 1 (by simp)
  have Y_t := Y.there
  go_wp2_with fail
  refine (vints_same A A' c c' l _ (rd_keep HR.out X.below) (rd_keep HR'.out X.below) hn).mono ?_
  rintro e v2 ⟨rfl, hv2⟩
  clear X_0 X_1 X_f0 X_f1 X_t
  clear Y_0 Y_1 Y_f0 Y_f1 Y_t
  replace X := X.more hv2
  replace Y := Y.more hv2
  have zhv2 := hv2.size
  clear hv2
  have X_0 := X.cells 0 _ rfl
  have X_1 := X.cells 1 _ rfl
  have X_f0 := X.free 0 (by simp)
  have X_f1 := X.free 1 (by simp)
  have X_t := X.there
  have Y_0 := Y.cells 0 _ rfl
  have Y_1 := Y.cells 1 _ rfl
  have Y_f0 := Y.free 0 (by simp)
  have Y_f1 := Y.free 1 (by simp)
  have Y_t := Y.there
  go_wp2
  go_ret
  exact ⟨rfl, X.below⟩
end Go.Proofs.Ythilbpklmjpmcaa.CrysCmp
