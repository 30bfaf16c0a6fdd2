/- Batches by value: the model's and the program's functions. Made by tools/mk_batv.py. -/
import Derived.Test.YtpokgnkcnibapaaBatR
import Derived.Deep.Cut
import Derived.Deep.CutBlock
import Derived.Deep.DeepCutAuto
namespace Go.Proofs.Ytpokgnkcnibapaa.BatV
open Go.RowKit Go.Proofs.Ytpokgnkcnibapaa.Mem Go.Proofs.Ytpokgnkcnibapaa.Base Go.Proofs.Ytpokgnkcnibapaa.Within Go.Proofs.Ytpokgnkcnibapaa.SBatch Go.Proofs.Ytpokgnkcnibapaa.Regn Go.Proofs.Ytpokgnkcnibapaa.Boxes Go.Proofs.Ytpokgnkcnibapaa.Keep Go.Proofs.Ytpokgnkcnibapaa.BatP Go.Proofs.Ytpokgnkcnibapaa.BatQ Go.Proofs.Ytpokgnkcnibapaa.BatS Go.Proofs.Ytpokgnkcnibapaa.BatR
set_option linter.unusedVariables false
set_option linter.unusedSimpArgs false
set_option maxRecDepth 100000
theorem aw1 {x : R} {v d : Int} (h : okT x = false) : awOk x v d = false := by unfold awOk; rw [h]; rfl
theorem aw2 {x : R} {v d : Int} (h : isW v = false) : awOk x v d = false := by unfold awOk; rw [h]; simp
theorem aw3 {x : R} {v d : Int} (h : inB d 0 v = false) : awOk x v d = false := by unfold awOk; rw [h]; simp
theorem aw4 {x : R} {v d : Int} (h : okT x = true) (h1 : isW v = true) (h2 : inB d 0 v = true) : awOk x v d = true := by unfold awOk; rw [h, h1, h2]; rfl
theorem aw_parts {x : R} {v d : Int} (h : awOk x v d = true) : okT x = true ∧ 1 ≤ v ∧ v ≤ 100000000 ∧ 0 ≤ d ∧ d ≤ v := by
  unfold awOk at h
  rw [Bool.and_eq_true, Bool.and_eq_true] at h
  have i1 := isW_true h.1.2; have i2 := of_inB h.2
  exact ⟨h.1.1, i1.1, i1.2, i2.1, i2.2⟩
theorem as1 {x : R} {v n : Int} (h : awOk x v 0 = false) : asOk x v n = false := by
  unfold asOk
  cases hx : okT x
  · rfl
  · cases hv : isW v
    · rfl
    · exfalso
      have i1 := isW_true hv
      rw [aw4 hx hv (inB_true (by omega))] at h; cases h
theorem as1i {x : R} {v n : Int} (h : okT x = false) : asOk x v n = false := by unfold asOk; rw [h]; rfl
theorem as1w {x : R} {v n : Int} (h : isW v = false) : asOk x v n = false := by unfold asOk; rw [h]; simp
theorem as2 {x : R} {v n : Int} (h : inB n 1 6 = false) : asOk x v n = false := by unfold asOk; rw [h]; simp
theorem as3 {x : R} {v n : Int} (h : (v % n == 0) = false) : asOk x v n = false := by unfold asOk; rw [h]; simp
theorem as4 {x : R} {v n : Int} (h : okT x = true) (h0 : isW v = true) (h1 : inB n 1 6 = true) (h2 : (v % n == 0) = true) : asOk x v n = true := by unfold asOk; rw [h, h0, h1, h2]; rfl
theorem water_spec (x : R) (v d : Int) (w : World) : Calls Try.prog 55 #[.agg #[.int .i64 x.f0, .int .i64 x.f1, .int .i64 x.f2], .int .i64 v, .int .i64 d] w (RPost (.bool (awOk x v d)) w) := by
  go_enter Try.func55, Try.ntmps55
  go_wp2_with fail
  have B := Box.new (Below.refl _ w) [.int .i64 x.f0, .int .i64 x.f1, .int .i64 x.f2] 25 (g := w.heap.size) rfl
  generalize (w.alloc (.cells #[.int .i64 x.f0, .int .i64 x.f1, .int .i64 x.f2] 25)) = W1 at B ⊢
  have B_0 := B.cells 0 _ rfl
  have B_1 := B.cells 1 _ rfl
  have B_2 := B.cells 2 _ rfl
  have B_f0 := B.free 0 (by simp)
  have B_f1 := B.free 1 (by simp)
  have B_f2 := B.free 2 (by simp)
  have B_t := B.there
  go_wp2_with fail
  refine (good_spec x _).mono ?_
  rintro e v2 ⟨rfl, hv2⟩
  clear B_0 B_1 B_2 B_f0 B_f1 B_f2 B_t
  replace B := B.more hv2
  have zhv2 := hv2.size
  clear hv2
  have B_0 := B.cells 0 _ rfl
  have B_1 := B.cells 1 _ rfl
  have B_2 := B.cells 2 _ rfl
  have B_f0 := B.free 0 (by simp)
  have B_f1 := B.free 1 (by simp)
  have B_f2 := B.free 2 (by simp)
  have B_t := B.there
  cases hx : okT x
  · go_wp2
    go_ret
    exact rpost (by rw [aw1 hx] <;> rfl) B.below
  cases hv : inB v 1 100000000
  · have HV := Lib.hid (aw2 (x := x) (d := d) (show isW v = false from hv))
    go_wp2_with (go_at_call 59; (with_reducible refine (in_any _ _ _ _).mono ?_); rintro e' w' ⟨rfl, rfl⟩)
    go_ret
    exact rpost (by rw [HV.out] <;> rfl) B.below
  have HV := Lib.hid (show awOk x v d = inB d 0 v by unfold awOk isW; rw [hx, hv]; rfl)
  go_wp2_with (go_at_call 59; (with_reducible refine (in_any _ _ _ _).mono ?_); rintro e' w' ⟨rfl, rfl⟩)
  go_ret
  exact rpost (by rw [HV.out] <;> rfl) B.below
theorem aw_impl (x : R) (v d : Int) (w : World) : Calls Try.prog 16 #[.agg #[.int .i64 x.f0, .int .i64 x.f1, .int .i64 x.f2], .int .i64 v, .int .i64 d] w (RPost (awV x v d) w) := by
  go_enter Try.func16, Try.ntmps16
  go_wp2_with fail
  have B := (Box.new (Below.refl _ w) [.int .i64 x.f0, .int .i64 x.f1, .int .i64 x.f2] 25 (g := w.heap.size) rfl).alloc (.cells #[.int .i64 0, .int .i64 0, .int .i64 0] 25)
  have Z := Box.new (al (Below.refl _ w) (o := (.cells #[.int .i64 x.f0, .int .i64 x.f1, .int .i64 x.f2] 25))) [.int .i64 0, .int .i64 0, .int .i64 0] 25 (g := w.heap.size + 1) (by simp only [size_alloc'])
  generalize ((w.alloc (.cells #[.int .i64 x.f0, .int .i64 x.f1, .int .i64 x.f2] 25)).alloc (.cells #[.int .i64 0, .int .i64 0, .int .i64 0] 25)) = W1 at B Z ⊢
  have B_0 := B.cells 0 _ rfl
  have B_1 := B.cells 1 _ rfl
  have B_2 := B.cells 2 _ rfl
  have B_f0 := B.free 0 (by simp)
  have B_f1 := B.free 1 (by simp)
  have B_f2 := B.free 2 (by simp)
  have B_t := B.there
  have Z_0 := Z.cells 0 _ rfl
  have Z_1 := Z.cells 1 _ rfl
  have Z_2 := Z.cells 2 _ rfl
  have Z_f0 := Z.free 0 (by simp)
  have Z_f1 := Z.free 1 (by simp)
  have Z_f2 := Z.free 2 (by simp)
  have Z_t := Z.there
  go_wp2_with fail
  refine (is_impl x _).mono ?_
  rintro e v2 ⟨rfl, hv2⟩
  clear B_0 B_1 B_2 B_f0 B_f1 B_f2 B_t
  clear Z_0 Z_1 Z_2 Z_f0 Z_f1 Z_f2 Z_t
  replace B := B.more hv2
  replace Z := Z.more hv2
  have zhv2 := hv2.size
  clear hv2
  have B_0 := B.cells 0 _ rfl
  have B_1 := B.cells 1 _ rfl
  have B_2 := B.cells 2 _ rfl
  have B_f0 := B.free 0 (by simp)
  have B_f1 := B.free 1 (by simp)
  have B_f2 := B.free 2 (by simp)
  have B_t := B.there
  have Z_0 := Z.cells 0 _ rfl
  have Z_1 := Z.cells 1 _ rfl
  have Z_2 := Z.cells 2 _ rfl
  have Z_f0 := Z.free 0 (by simp)
  have Z_f1 := Z.free 1 (by simp)
  have Z_f2 := Z.free 2 (by simp)
  have Z_t := Z.there
  cases hx : okT x
  · have HV := Lib.hid (aw_no (aw1 (v := v) (d := d) hx))
    go_wp2
    clear B_0 B_1 B_2 B_f0 B_f1 B_f2 B_t
    clear Z_0 Z_1 Z_2 Z_f0 Z_f1 Z_f2 Z_t
    have B_t3 := B.there
    have Z_t3 := Z.there
    have B' : Box (w.heap.size) [.int .i64 x.f0, .int .i64 x.f1, .int .i64 x.f2] w _ := (((B.far Z.base (by omega) 0 (.int .i64 0)).far Z.base (by omega) 1 (.int .i64 0)).far Z.base (by omega) 2 (.int .i64 0))
    have Z' : Box (w.heap.size + 1) [.int .i64 0, .int .i64 0, .int .i64 0] w _ := (((Z.set 0 (.int .i64 0)).set 1 (.int .i64 0)).set 2 (.int .i64 0))
    clear B; have B := B'; clear B'
    clear Z; have Z := Z'; clear Z'
    have sz3 : (((v2.setCell ⟨w.heap.size + 1, 0, none⟩ (.int .i64 0)).setCell ⟨w.heap.size + 1, 1, none⟩ (.int .i64 0)).setCell ⟨w.heap.size + 1, 2, none⟩ (.int .i64 0)).heap.size = v2.heap.size := by simp only [size_set']
    generalize (((v2.setCell ⟨w.heap.size + 1, 0, none⟩ (.int .i64 0)).setCell ⟨w.heap.size + 1, 1, none⟩ (.int .i64 0)).setCell ⟨w.heap.size + 1, 2, none⟩ (.int .i64 0)) = W3 at B Z sz3 ⊢
    replace sz3 := Lib.hid sz3
    have B_0 := B.cells 0 _ rfl
    have B_1 := B.cells 1 _ rfl
    have B_2 := B.cells 2 _ rfl
    have B_f0 := B.free 0 (by simp)
    have B_f1 := B.free 1 (by simp)
    have B_f2 := B.free 2 (by simp)
    have B_t := B.there
    have Z_0 := Z.cells 0 _ rfl
    have Z_1 := Z.cells 1 _ rfl
    have Z_2 := Z.cells 2 _ rfl
    have Z_f0 := Z.free 0 (by simp)
    have Z_f1 := Z.free 1 (by simp)
    have Z_f2 := Z.free 2 (by simp)
    have Z_t := Z.there
    exact bodyPost_ret (v := .tuple #[zero.val, .int .i64 0, .bool false]) (by simp [R.val, zero, results, Try.results16, go_sem, Z_0, Z_1, Z_2]) rfl (rpost (HV.out.symm) Z.below)
  cases hv : isW v
  · have HV := Lib.hid (aw_no (aw2 (x := x) (d := d) hv))
    go_wp2_with (go_at_call 52; (with_reducible refine (water_impl _ _).mono ?_); rintro e' w' ⟨rfl, rfl⟩)
    clear B_0 B_1 B_2 B_f0 B_f1 B_f2 B_t
    clear Z_0 Z_1 Z_2 Z_f0 Z_f1 Z_f2 Z_t
    have B_t4 := B.there
    have Z_t4 := Z.there
    have B' : Box (w.heap.size) [.int .i64 x.f0, .int .i64 x.f1, .int .i64 x.f2] w _ := (((B.far Z.base (by omega) 0 (.int .i64 0)).far Z.base (by omega) 1 (.int .i64 0)).far Z.base (by omega) 2 (.int .i64 0))
    have Z' : Box (w.heap.size + 1) [.int .i64 0, .int .i64 0, .int .i64 0] w _ := (((Z.set 0 (.int .i64 0)).set 1 (.int .i64 0)).set 2 (.int .i64 0))
    clear B; have B := B'; clear B'
    clear Z; have Z := Z'; clear Z'
    have sz4 : (((v2.setCell ⟨w.heap.size + 1, 0, none⟩ (.int .i64 0)).setCell ⟨w.heap.size + 1, 1, none⟩ (.int .i64 0)).setCell ⟨w.heap.size + 1, 2, none⟩ (.int .i64 0)).heap.size = v2.heap.size := by simp only [size_set']
    generalize (((v2.setCell ⟨w.heap.size + 1, 0, none⟩ (.int .i64 0)).setCell ⟨w.heap.size + 1, 1, none⟩ (.int .i64 0)).setCell ⟨w.heap.size + 1, 2, none⟩ (.int .i64 0)) = W4 at B Z sz4 ⊢
    replace sz4 := Lib.hid sz4
    have B_0 := B.cells 0 _ rfl
    have B_1 := B.cells 1 _ rfl
    have B_2 := B.cells 2 _ rfl
    have B_f0 := B.free 0 (by simp)
    have B_f1 := B.free 1 (by simp)
    have B_f2 := B.free 2 (by simp)
    have B_t := B.there
    have Z_0 := Z.cells 0 _ rfl
    have Z_1 := Z.cells 1 _ rfl
    have Z_2 := Z.cells 2 _ rfl
    have Z_f0 := Z.free 0 (by simp)
    have Z_f1 := Z.free 1 (by simp)
    have Z_f2 := Z.free 2 (by simp)
    have Z_t := Z.there
    exact bodyPost_ret (v := .tuple #[zero.val, .int .i64 0, .bool false]) (by simp [R.val, zero, results, Try.results16, go_sem, Z_0, Z_1, Z_2]) rfl (rpost (HV.out.symm) Z.below)
  cases hd : inB d 0 v
  · have HV := Lib.hid (aw_no (aw3 (x := x) hd))
    go_wp2_with (first | (go_at_call 52; (with_reducible refine (water_impl _ _).mono ?_); rintro e' w' ⟨rfl, rfl⟩) | (go_at_call 53; (with_reducible refine (within_any _ _ _ _).mono ?_); rintro e' w' ⟨rfl, rfl⟩))
    clear B_0 B_1 B_2 B_f0 B_f1 B_f2 B_t
    clear Z_0 Z_1 Z_2 Z_f0 Z_f1 Z_f2 Z_t
    have B_t5 := B.there
    have Z_t5 := Z.there
    have B' : Box (w.heap.size) [.int .i64 x.f0, .int .i64 x.f1, .int .i64 x.f2] w _ := (((B.far Z.base (by omega) 0 (.int .i64 0)).far Z.base (by omega) 1 (.int .i64 0)).far Z.base (by omega) 2 (.int .i64 0))
    have Z' : Box (w.heap.size + 1) [.int .i64 0, .int .i64 0, .int .i64 0] w _ := (((Z.set 0 (.int .i64 0)).set 1 (.int .i64 0)).set 2 (.int .i64 0))
    clear B; have B := B'; clear B'
    clear Z; have Z := Z'; clear Z'
    have sz5 : (((v2.setCell ⟨w.heap.size + 1, 0, none⟩ (.int .i64 0)).setCell ⟨w.heap.size + 1, 1, none⟩ (.int .i64 0)).setCell ⟨w.heap.size + 1, 2, none⟩ (.int .i64 0)).heap.size = v2.heap.size := by simp only [size_set']
    generalize (((v2.setCell ⟨w.heap.size + 1, 0, none⟩ (.int .i64 0)).setCell ⟨w.heap.size + 1, 1, none⟩ (.int .i64 0)).setCell ⟨w.heap.size + 1, 2, none⟩ (.int .i64 0)) = W5 at B Z sz5 ⊢
    replace sz5 := Lib.hid sz5
    have B_0 := B.cells 0 _ rfl
    have B_1 := B.cells 1 _ rfl
    have B_2 := B.cells 2 _ rfl
    have B_f0 := B.free 0 (by simp)
    have B_f1 := B.free 1 (by simp)
    have B_f2 := B.free 2 (by simp)
    have B_t := B.there
    have Z_0 := Z.cells 0 _ rfl
    have Z_1 := Z.cells 1 _ rfl
    have Z_2 := Z.cells 2 _ rfl
    have Z_f0 := Z.free 0 (by simp)
    have Z_f1 := Z.free 1 (by simp)
    have Z_f2 := Z.free 2 (by simp)
    have Z_t := Z.there
    exact bodyPost_ret (v := .tuple #[zero.val, .int .i64 0, .bool false]) (by simp [R.val, zero, results, Try.results16, go_sem, Z_0, Z_1, Z_2]) rfl (rpost (HV.out.symm) Z.below)
  have HV := Lib.hid (aw_yes (aw4 hx hv hd))
  obtain ⟨h0, h1⟩ := isW_true hv
  obtain ⟨h2, h3⟩ := of_inB hd
  obtain ⟨y, hy⟩ : ∃ y, wash x v d = y := ⟨_, rfl⟩
  obtain ⟨n, hn⟩ : ∃ n, gone x v d = n := ⟨_, rfl⟩
  have HY := Lib.hid hy; clear hy
  have HN := Lib.hid hn; clear hn
  go_wp2_with (first | (go_at_call 52; (with_reducible refine (water_impl _ _).mono ?_); rintro e' w' ⟨rfl, rfl⟩) | (go_at_call 53; (with_reducible refine (within_any _ _ _ _).mono ?_); rintro e' w' ⟨rfl, rfl⟩))
  refine (wash_impl x v d hx h0 h1 h2 h3 _).mono ?_
  rintro e v9 ⟨rfl, hv9⟩
  clear B_0 B_1 B_2 B_f0 B_f1 B_f2 B_t
  clear Z_0 Z_1 Z_2 Z_f0 Z_f1 Z_f2 Z_t
  replace B := B.more hv9
  replace Z := Z.more hv9
  have zhv9 := hv9.size
  clear hv9
  have B_0 := B.cells 0 _ rfl
  have B_1 := B.cells 1 _ rfl
  have B_2 := B.cells 2 _ rfl
  have B_f0 := B.free 0 (by simp)
  have B_f1 := B.free 1 (by simp)
  have B_f2 := B.free 2 (by simp)
  have B_t := B.there
  have Z_0 := Z.cells 0 _ rfl
  have Z_1 := Z.cells 1 _ rfl
  have Z_2 := Z.cells 2 _ rfl
  have Z_f0 := Z.free 0 (by simp)
  have Z_f1 := Z.free 1 (by simp)
  have Z_f2 := Z.free 2 (by simp)
  have Z_t := Z.there
  rw [HY.out, HN.out]
  unfold R.val
  go_upto_region 4 with fail
  have B_t6 := B.there
  have Z_t6 := Z.there
  have D := Box.new B.below [.int .i64 y.f0, .int .i64 y.f1, .int .i64 y.f2] 25 (g := v9.heap.size) rfl
  clear B_0 B_1 B_2 B_f0 B_f1 B_f2 B_t
  replace B := (B).alloc (.cells #[.int .i64 y.f0, .int .i64 y.f1, .int .i64 y.f2] 25)
  clear Z_0 Z_1 Z_2 Z_f0 Z_f1 Z_f2 Z_t
  replace Z := (Z).alloc (.cells #[.int .i64 y.f0, .int .i64 y.f1, .int .i64 y.f2] 25)
  generalize (v9.alloc (.cells #[.int .i64 y.f0, .int .i64 y.f1, .int .i64 y.f2] 25)) = W6 at D B Z ⊢
  have B_0 := B.cells 0 _ rfl
  have B_1 := B.cells 1 _ rfl
  have B_2 := B.cells 2 _ rfl
  have B_f0 := B.free 0 (by simp)
  have B_f1 := B.free 1 (by simp)
  have B_f2 := B.free 2 (by simp)
  have B_t := B.there
  have Z_0 := Z.cells 0 _ rfl
  have Z_1 := Z.cells 1 _ rfl
  have Z_2 := Z.cells 2 _ rfl
  have Z_f0 := Z.free 0 (by simp)
  have Z_f1 := Z.free 1 (by simp)
  have Z_f2 := Z.free 2 (by simp)
  have Z_t := Z.there
  have D_0 := D.cells 0 _ rfl
  have D_1 := D.cells 1 _ rfl
  have D_2 := D.cells 2 _ rfl
  have D_f0 := D.free 0 (by simp)
  have D_f1 := D.free 1 (by simp)
  have D_f2 := D.free 2 (by simp)
  have D_t := D.there
  go_wp2
  clear B_0 B_1 B_2 B_f0 B_f1 B_f2 B_t
  clear Z_0 Z_1 Z_2 Z_f0 Z_f1 Z_f2 Z_t
  clear D_0 D_1 D_2 D_f0 D_f1 D_f2 D_t
  have B_t7 := B.there
  have Z_t7 := Z.there
  have D_t7 := D.there
  have B' : Box (w.heap.size) [.int .i64 x.f0, .int .i64 x.f1, .int .i64 x.f2] w _ := (((B.far Z.base (by omega) 0 (.int .i64 y.f0)).far Z.base (by omega) 1 (.int .i64 y.f1)).far Z.base (by omega) 2 (.int .i64 y.f2))
  have Z' : Box (w.heap.size + 1) [.int .i64 y.f0, .int .i64 y.f1, .int .i64 y.f2] w _ := (((Z.set 0 (.int .i64 y.f0)).set 1 (.int .i64 y.f1)).set 2 (.int .i64 y.f2))
  have D' : Box (v9.heap.size) [.int .i64 y.f0, .int .i64 y.f1, .int .i64 y.f2] w _ := (((D.far Z.base (by omega) 0 (.int .i64 y.f0)).far Z.base (by omega) 1 (.int .i64 y.f1)).far Z.base (by omega) 2 (.int .i64 y.f2))
  clear B; have B := B'; clear B'
  clear Z; have Z := Z'; clear Z'
  clear D; have D := D'; clear D'
  have sz7 : (((W6.setCell ⟨w.heap.size + 1, 0, none⟩ (.int .i64 y.f0)).setCell ⟨w.heap.size + 1, 1, none⟩ (.int .i64 y.f1)).setCell ⟨w.heap.size + 1, 2, none⟩ (.int .i64 y.f2)).heap.size = W6.heap.size := by simp only [size_set']
  generalize (((W6.setCell ⟨w.heap.size + 1, 0, none⟩ (.int .i64 y.f0)).setCell ⟨w.heap.size + 1, 1, none⟩ (.int .i64 y.f1)).setCell ⟨w.heap.size + 1, 2, none⟩ (.int .i64 y.f2)) = W7 at B Z D sz7 ⊢
  replace sz7 := Lib.hid sz7
  have B_0 := B.cells 0 _ rfl
  have B_1 := B.cells 1 _ rfl
  have B_2 := B.cells 2 _ rfl
  have B_f0 := B.free 0 (by simp)
  have B_f1 := B.free 1 (by simp)
  have B_f2 := B.free 2 (by simp)
  have B_t := B.there
  have Z_0 := Z.cells 0 _ rfl
  have Z_1 := Z.cells 1 _ rfl
  have Z_2 := Z.cells 2 _ rfl
  have Z_f0 := Z.free 0 (by simp)
  have Z_f1 := Z.free 1 (by simp)
  have Z_f2 := Z.free 2 (by simp)
  have Z_t := Z.there
  have D_0 := D.cells 0 _ rfl
  have D_1 := D.cells 1 _ rfl
  have D_2 := D.cells 2 _ rfl
  have D_f0 := D.free 0 (by simp)
  have D_f1 := D.free 1 (by simp)
  have D_f2 := D.free 2 (by simp)
  have D_t := D.there
  exact bodyPost_ret (v := .tuple #[.agg #[.int .i64 y.f0, .int .i64 y.f1, .int .i64 y.f2], .int .i64 n, .bool true]) (by simp [R.val, zero, results, Try.results16, go_sem, Z_0, Z_1, Z_2]) rfl (rpost (by rw [HV.out, HY.out, HN.out] <;> rfl) Z.below)
theorem aw_spec (x : R) (v d : Int) (w : World) : Calls Try.prog 17 #[.agg #[.int .i64 x.f0, .int .i64 x.f1, .int .i64 x.f2], .int .i64 v, .int .i64 d] w (RPost (awV x v d) w) := by
  go_enter Try.func17, Try.ntmps17
  go_wp2_with fail
  have B := (Box.new (Below.refl _ w) [.int .i64 x.f0, .int .i64 x.f1, .int .i64 x.f2] 25 (g := w.heap.size) rfl).alloc (.cells #[.int .i64 0, .int .i64 0, .int .i64 0] 25)
  have Z := Box.new (al (Below.refl _ w) (o := (.cells #[.int .i64 x.f0, .int .i64 x.f1, .int .i64 x.f2] 25))) [.int .i64 0, .int .i64 0, .int .i64 0] 25 (g := w.heap.size + 1) (by simp only [size_alloc'])
  generalize ((w.alloc (.cells #[.int .i64 x.f0, .int .i64 x.f1, .int .i64 x.f2] 25)).alloc (.cells #[.int .i64 0, .int .i64 0, .int .i64 0] 25)) = W1 at B Z ⊢
  have B_0 := B.cells 0 _ rfl
  have B_1 := B.cells 1 _ rfl
  have B_2 := B.cells 2 _ rfl
  have B_f0 := B.free 0 (by simp)
  have B_f1 := B.free 1 (by simp)
  have B_f2 := B.free 2 (by simp)
  have B_t := B.there
  have Z_0 := Z.cells 0 _ rfl
  have Z_1 := Z.cells 1 _ rfl
  have Z_2 := Z.cells 2 _ rfl
  have Z_f0 := Z.free 0 (by simp)
  have Z_f1 := Z.free 1 (by simp)
  have Z_f2 := Z.free 2 (by simp)
  have Z_t := Z.there
  go_wp2_with fail
  refine (water_spec x v d _).mono ?_
  rintro e v2 ⟨rfl, hv2⟩
  clear B_0 B_1 B_2 B_f0 B_f1 B_f2 B_t
  clear Z_0 Z_1 Z_2 Z_f0 Z_f1 Z_f2 Z_t
  replace B := B.more hv2
  replace Z := Z.more hv2
  have zhv2 := hv2.size
  clear hv2
  have B_0 := B.cells 0 _ rfl
  have B_1 := B.cells 1 _ rfl
  have B_2 := B.cells 2 _ rfl
  have B_f0 := B.free 0 (by simp)
  have B_f1 := B.free 1 (by simp)
  have B_f2 := B.free 2 (by simp)
  have B_t := B.there
  have Z_0 := Z.cells 0 _ rfl
  have Z_1 := Z.cells 1 _ rfl
  have Z_2 := Z.cells 2 _ rfl
  have Z_f0 := Z.free 0 (by simp)
  have Z_f1 := Z.free 1 (by simp)
  have Z_f2 := Z.free 2 (by simp)
  have Z_t := Z.there
  cases hq : awOk x v d
  · have HV := Lib.hid (aw_no hq)
    go_wp2
    clear B_0 B_1 B_2 B_f0 B_f1 B_f2 B_t
    clear Z_0 Z_1 Z_2 Z_f0 Z_f1 Z_f2 Z_t
    have B_t3 := B.there
    have Z_t3 := Z.there
    have B' : Box (w.heap.size) [.int .i64 x.f0, .int .i64 x.f1, .int .i64 x.f2] w _ := (((B.far Z.base (by omega) 0 (.int .i64 0)).far Z.base (by omega) 1 (.int .i64 0)).far Z.base (by omega) 2 (.int .i64 0))
    have Z' : Box (w.heap.size + 1) [.int .i64 0, .int .i64 0, .int .i64 0] w _ := (((Z.set 0 (.int .i64 0)).set 1 (.int .i64 0)).set 2 (.int .i64 0))
    clear B; have B := B'; clear B'
    clear Z; have Z := Z'; clear Z'
    have sz3 : (((v2.setCell ⟨w.heap.size + 1, 0, none⟩ (.int .i64 0)).setCell ⟨w.heap.size + 1, 1, none⟩ (.int .i64 0)).setCell ⟨w.heap.size + 1, 2, none⟩ (.int .i64 0)).heap.size = v2.heap.size := by simp only [size_set']
    generalize (((v2.setCell ⟨w.heap.size + 1, 0, none⟩ (.int .i64 0)).setCell ⟨w.heap.size + 1, 1, none⟩ (.int .i64 0)).setCell ⟨w.heap.size + 1, 2, none⟩ (.int .i64 0)) = W3 at B Z sz3 ⊢
    replace sz3 := Lib.hid sz3
    have B_0 := B.cells 0 _ rfl
    have B_1 := B.cells 1 _ rfl
    have B_2 := B.cells 2 _ rfl
    have B_f0 := B.free 0 (by simp)
    have B_f1 := B.free 1 (by simp)
    have B_f2 := B.free 2 (by simp)
    have B_t := B.there
    have Z_0 := Z.cells 0 _ rfl
    have Z_1 := Z.cells 1 _ rfl
    have Z_2 := Z.cells 2 _ rfl
    have Z_f0 := Z.free 0 (by simp)
    have Z_f1 := Z.free 1 (by simp)
    have Z_f2 := Z.free 2 (by simp)
    have Z_t := Z.there
    exact bodyPost_ret (v := .tuple #[zero.val, .int .i64 0, .bool false]) (by simp [R.val, zero, results, Try.results17, go_sem, Z_0, Z_1, Z_2]) rfl (rpost (HV.out.symm) Z.below)
  have HV := Lib.hid (aw_yes hq)
  obtain ⟨hx, h0, h1, h2, h3⟩ := aw_parts hq
  have HO := Lib.hid (wash_ok hx h0 h2 h3)
  obtain ⟨y, hy⟩ : ∃ y, wash x v d = y := ⟨_, rfl⟩
  obtain ⟨n, hn⟩ : ∃ n, gone x v d = n := ⟨_, rfl⟩
  have HY := Lib.hid hy; clear hy
  have HN := Lib.hid hn; clear hn
  clear hq
  go_wp2_with fail
  refine (wash_spec x v d hx h0 h1 h2 h3 _).mono ?_
  rintro e v4 ⟨rfl, hv4⟩
  clear B_0 B_1 B_2 B_f0 B_f1 B_f2 B_t
  clear Z_0 Z_1 Z_2 Z_f0 Z_f1 Z_f2 Z_t
  replace B := B.more hv4
  replace Z := Z.more hv4
  have zhv4 := hv4.size
  clear hv4
  have B_0 := B.cells 0 _ rfl
  have B_1 := B.cells 1 _ rfl
  have B_2 := B.cells 2 _ rfl
  have B_f0 := B.free 0 (by simp)
  have B_f1 := B.free 1 (by simp)
  have B_f2 := B.free 2 (by simp)
  have B_t := B.there
  have Z_0 := Z.cells 0 _ rfl
  have Z_1 := Z.cells 1 _ rfl
  have Z_2 := Z.cells 2 _ rfl
  have Z_f0 := Z.free 0 (by simp)
  have Z_f1 := Z.free 1 (by simp)
  have Z_f2 := Z.free 2 (by simp)
  have Z_t := Z.there
  rw [HY.out, HN.out]
  unfold R.val
  go_upto_region 4 with fail
  have B_t5 := B.there
  have Z_t5 := Z.there
  have D := Box.new B.below [.int .i64 y.f0, .int .i64 y.f1, .int .i64 y.f2] 25 (g := v4.heap.size) rfl
  clear B_0 B_1 B_2 B_f0 B_f1 B_f2 B_t
  replace B := (B).alloc (.cells #[.int .i64 y.f0, .int .i64 y.f1, .int .i64 y.f2] 25)
  clear Z_0 Z_1 Z_2 Z_f0 Z_f1 Z_f2 Z_t
  replace Z := (Z).alloc (.cells #[.int .i64 y.f0, .int .i64 y.f1, .int .i64 y.f2] 25)
  generalize (v4.alloc (.cells #[.int .i64 y.f0, .int .i64 y.f1, .int .i64 y.f2] 25)) = W5 at D B Z ⊢
  have B_0 := B.cells 0 _ rfl
  have B_1 := B.cells 1 _ rfl
  have B_2 := B.cells 2 _ rfl
  have B_f0 := B.free 0 (by simp)
  have B_f1 := B.free 1 (by simp)
  have B_f2 := B.free 2 (by simp)
  have B_t := B.there
  have Z_0 := Z.cells 0 _ rfl
  have Z_1 := Z.cells 1 _ rfl
  have Z_2 := Z.cells 2 _ rfl
  have Z_f0 := Z.free 0 (by simp)
  have Z_f1 := Z.free 1 (by simp)
  have Z_f2 := Z.free 2 (by simp)
  have Z_t := Z.there
  have D_0 := D.cells 0 _ rfl
  have D_1 := D.cells 1 _ rfl
  have D_2 := D.cells 2 _ rfl
  have D_f0 := D.free 0 (by simp)
  have D_f1 := D.free 1 (by simp)
  have D_f2 := D.free 2 (by simp)
  have D_t := D.there
  go_wp2_with fail
  refine (good_spec y _).mono ?_
  rintro e v6 ⟨rfl, hv6⟩
  clear B_0 B_1 B_2 B_f0 B_f1 B_f2 B_t
  clear Z_0 Z_1 Z_2 Z_f0 Z_f1 Z_f2 Z_t
  clear D_0 D_1 D_2 D_f0 D_f1 D_f2 D_t
  replace B := B.more hv6
  replace Z := Z.more hv6
  replace D := D.more hv6
  have zhv6 := hv6.size
  clear hv6
  have B_0 := B.cells 0 _ rfl
  have B_1 := B.cells 1 _ rfl
  have B_2 := B.cells 2 _ rfl
  have B_f0 := B.free 0 (by simp)
  have B_f1 := B.free 1 (by simp)
  have B_f2 := B.free 2 (by simp)
  have B_t := B.there
  have Z_0 := Z.cells 0 _ rfl
  have Z_1 := Z.cells 1 _ rfl
  have Z_2 := Z.cells 2 _ rfl
  have Z_f0 := Z.free 0 (by simp)
  have Z_f1 := Z.free 1 (by simp)
  have Z_f2 := Z.free 2 (by simp)
  have Z_t := Z.there
  have D_0 := D.cells 0 _ rfl
  have D_1 := D.cells 1 _ rfl
  have D_2 := D.cells 2 _ rfl
  have D_f0 := D.free 0 (by simp)
  have D_f1 := D.free 1 (by simp)
  have D_f2 := D.free 2 (by simp)
  have D_t := D.there
  rw [← HY.out, HO.out, HY.out]
  go_wp2
  clear B_0 B_1 B_2 B_f0 B_f1 B_f2 B_t
  clear Z_0 Z_1 Z_2 Z_f0 Z_f1 Z_f2 Z_t
  clear D_0 D_1 D_2 D_f0 D_f1 D_f2 D_t
  have B_t7 := B.there
  have Z_t7 := Z.there
  have D_t7 := D.there
  have B' : Box (w.heap.size) [.int .i64 x.f0, .int .i64 x.f1, .int .i64 x.f2] w _ := (((B.far Z.base (by omega) 0 (.int .i64 y.f0)).far Z.base (by omega) 1 (.int .i64 y.f1)).far Z.base (by omega) 2 (.int .i64 y.f2))
  have Z' : Box (w.heap.size + 1) [.int .i64 y.f0, .int .i64 y.f1, .int .i64 y.f2] w _ := (((Z.set 0 (.int .i64 y.f0)).set 1 (.int .i64 y.f1)).set 2 (.int .i64 y.f2))
  have D' : Box (v4.heap.size) [.int .i64 y.f0, .int .i64 y.f1, .int .i64 y.f2] w _ := (((D.far Z.base (by omega) 0 (.int .i64 y.f0)).far Z.base (by omega) 1 (.int .i64 y.f1)).far Z.base (by omega) 2 (.int .i64 y.f2))
  clear B; have B := B'; clear B'
  clear Z; have Z := Z'; clear Z'
  clear D; have D := D'; clear D'
  have sz7 : (((v6.setCell ⟨w.heap.size + 1, 0, none⟩ (.int .i64 y.f0)).setCell ⟨w.heap.size + 1, 1, none⟩ (.int .i64 y.f1)).setCell ⟨w.heap.size + 1, 2, none⟩ (.int .i64 y.f2)).heap.size = v6.heap.size := by simp only [size_set']
  generalize (((v6.setCell ⟨w.heap.size + 1, 0, none⟩ (.int .i64 y.f0)).setCell ⟨w.heap.size + 1, 1, none⟩ (.int .i64 y.f1)).setCell ⟨w.heap.size + 1, 2, none⟩ (.int .i64 y.f2)) = W7 at B Z D sz7 ⊢
  replace sz7 := Lib.hid sz7
  have B_0 := B.cells 0 _ rfl
  have B_1 := B.cells 1 _ rfl
  have B_2 := B.cells 2 _ rfl
  have B_f0 := B.free 0 (by simp)
  have B_f1 := B.free 1 (by simp)
  have B_f2 := B.free 2 (by simp)
  have B_t := B.there
  have Z_0 := Z.cells 0 _ rfl
  have Z_1 := Z.cells 1 _ rfl
  have Z_2 := Z.cells 2 _ rfl
  have Z_f0 := Z.free 0 (by simp)
  have Z_f1 := Z.free 1 (by simp)
  have Z_f2 := Z.free 2 (by simp)
  have Z_t := Z.there
  have D_0 := D.cells 0 _ rfl
  have D_1 := D.cells 1 _ rfl
  have D_2 := D.cells 2 _ rfl
  have D_f0 := D.free 0 (by simp)
  have D_f1 := D.free 1 (by simp)
  have D_f2 := D.free 2 (by simp)
  have D_t := D.there
  exact bodyPost_ret (v := .tuple #[.agg #[.int .i64 y.f0, .int .i64 y.f1, .int .i64 y.f2], .int .i64 n, .bool true]) (by simp [R.val, zero, results, Try.results17, go_sem, Z_0, Z_1, Z_2]) rfl (rpost (by rw [HV.out, HY.out, HN.out] <;> rfl) Z.below)
set_option maxHeartbeats 800000 in
theorem as_impl (x : R) (v n : Int) (w : World) : Calls Try.prog 24 #[.agg #[.int .i64 x.f0, .int .i64 x.f1, .int .i64 x.f2], .int .i64 v, .int .i64 n] w (RPost (asV x v n) w) := by
  go_enter Try.func24, Try.ntmps24
  go_wp2_with fail
  have B := (Box.new (Below.refl _ w) [.int .i64 x.f0, .int .i64 x.f1, .int .i64 x.f2] 25 (g := w.heap.size) rfl).alloc (.cells #[.int .i64 0, .int .i64 0, .int .i64 0] 25)
  have Z := Box.new (al (Below.refl _ w) (o := (.cells #[.int .i64 x.f0, .int .i64 x.f1, .int .i64 x.f2] 25))) [.int .i64 0, .int .i64 0, .int .i64 0] 25 (g := w.heap.size + 1) (by simp only [size_alloc'])
  generalize ((w.alloc (.cells #[.int .i64 x.f0, .int .i64 x.f1, .int .i64 x.f2] 25)).alloc (.cells #[.int .i64 0, .int .i64 0, .int .i64 0] 25)) = W1 at B Z ⊢
  have B_0 := B.cells 0 _ rfl
  have B_1 := B.cells 1 _ rfl
  have B_2 := B.cells 2 _ rfl
  have B_f0 := B.free 0 (by simp)
  have B_f1 := B.free 1 (by simp)
  have B_f2 := B.free 2 (by simp)
  have B_t := B.there
  have Z_0 := Z.cells 0 _ rfl
  have Z_1 := Z.cells 1 _ rfl
  have Z_2 := Z.cells 2 _ rfl
  have Z_f0 := Z.free 0 (by simp)
  have Z_f1 := Z.free 1 (by simp)
  have Z_f2 := Z.free 2 (by simp)
  have Z_t := Z.there
  go_wp2_with fail
  refine (is_impl x _).mono ?_
  rintro e v2 ⟨rfl, hv2⟩
  clear B_0 B_1 B_2 B_f0 B_f1 B_f2 B_t
  clear Z_0 Z_1 Z_2 Z_f0 Z_f1 Z_f2 Z_t
  replace B := B.more hv2
  replace Z := Z.more hv2
  have zhv2 := hv2.size
  clear hv2
  have B_0 := B.cells 0 _ rfl
  have B_1 := B.cells 1 _ rfl
  have B_2 := B.cells 2 _ rfl
  have B_f0 := B.free 0 (by simp)
  have B_f1 := B.free 1 (by simp)
  have B_f2 := B.free 2 (by simp)
  have B_t := B.there
  have Z_0 := Z.cells 0 _ rfl
  have Z_1 := Z.cells 1 _ rfl
  have Z_2 := Z.cells 2 _ rfl
  have Z_f0 := Z.free 0 (by simp)
  have Z_f1 := Z.free 1 (by simp)
  have Z_f2 := Z.free 2 (by simp)
  have Z_t := Z.there
  cases hx : okT x
  · have HV := Lib.hid (as_no (as1i (v := v) (n := n) hx))
    go_wp2
    clear B_0 B_1 B_2 B_f0 B_f1 B_f2 B_t
    clear Z_0 Z_1 Z_2 Z_f0 Z_f1 Z_f2 Z_t
    have B_t3 := B.there
    have Z_t3 := Z.there
    have B' : Box (w.heap.size) [.int .i64 x.f0, .int .i64 x.f1, .int .i64 x.f2] w _ := (((B.far Z.base (by omega) 0 (.int .i64 0)).far Z.base (by omega) 1 (.int .i64 0)).far Z.base (by omega) 2 (.int .i64 0))
    have Z' : Box (w.heap.size + 1) [.int .i64 0, .int .i64 0, .int .i64 0] w _ := (((Z.set 0 (.int .i64 0)).set 1 (.int .i64 0)).set 2 (.int .i64 0))
    clear B; have B := B'; clear B'
    clear Z; have Z := Z'; clear Z'
    have sz3 : (((v2.setCell ⟨w.heap.size + 1, 0, none⟩ (.int .i64 0)).setCell ⟨w.heap.size + 1, 1, none⟩ (.int .i64 0)).setCell ⟨w.heap.size + 1, 2, none⟩ (.int .i64 0)).heap.size = v2.heap.size := by simp only [size_set']
    generalize (((v2.setCell ⟨w.heap.size + 1, 0, none⟩ (.int .i64 0)).setCell ⟨w.heap.size + 1, 1, none⟩ (.int .i64 0)).setCell ⟨w.heap.size + 1, 2, none⟩ (.int .i64 0)) = W3 at B Z sz3 ⊢
    replace sz3 := Lib.hid sz3
    have B_0 := B.cells 0 _ rfl
    have B_1 := B.cells 1 _ rfl
    have B_2 := B.cells 2 _ rfl
    have B_f0 := B.free 0 (by simp)
    have B_f1 := B.free 1 (by simp)
    have B_f2 := B.free 2 (by simp)
    have B_t := B.there
    have Z_0 := Z.cells 0 _ rfl
    have Z_1 := Z.cells 1 _ rfl
    have Z_2 := Z.cells 2 _ rfl
    have Z_f0 := Z.free 0 (by simp)
    have Z_f1 := Z.free 1 (by simp)
    have Z_f2 := Z.free 2 (by simp)
    have Z_t := Z.there
    exact bodyPost_ret (v := .tuple #[zero.val, .bool false]) (by simp [R.val, zero, results, Try.results24, go_sem, Z_0, Z_1, Z_2]) rfl (rpost (HV.out.symm) Z.below)
  cases hv : isW v
  · have HV := Lib.hid (as_no (as1w (x := x) (n := n) hv))
    go_wp2_with (go_at_call 52; (with_reducible refine (water_impl _ _).mono ?_); rintro e' w' ⟨rfl, rfl⟩)
    clear B_0 B_1 B_2 B_f0 B_f1 B_f2 B_t
    clear Z_0 Z_1 Z_2 Z_f0 Z_f1 Z_f2 Z_t
    have B_t4 := B.there
    have Z_t4 := Z.there
    have B' : Box (w.heap.size) [.int .i64 x.f0, .int .i64 x.f1, .int .i64 x.f2] w _ := (((B.far Z.base (by omega) 0 (.int .i64 0)).far Z.base (by omega) 1 (.int .i64 0)).far Z.base (by omega) 2 (.int .i64 0))
    have Z' : Box (w.heap.size + 1) [.int .i64 0, .int .i64 0, .int .i64 0] w _ := (((Z.set 0 (.int .i64 0)).set 1 (.int .i64 0)).set 2 (.int .i64 0))
    clear B; have B := B'; clear B'
    clear Z; have Z := Z'; clear Z'
    have sz4 : (((v2.setCell ⟨w.heap.size + 1, 0, none⟩ (.int .i64 0)).setCell ⟨w.heap.size + 1, 1, none⟩ (.int .i64 0)).setCell ⟨w.heap.size + 1, 2, none⟩ (.int .i64 0)).heap.size = v2.heap.size := by simp only [size_set']
    generalize (((v2.setCell ⟨w.heap.size + 1, 0, none⟩ (.int .i64 0)).setCell ⟨w.heap.size + 1, 1, none⟩ (.int .i64 0)).setCell ⟨w.heap.size + 1, 2, none⟩ (.int .i64 0)) = W4 at B Z sz4 ⊢
    replace sz4 := Lib.hid sz4
    have B_0 := B.cells 0 _ rfl
    have B_1 := B.cells 1 _ rfl
    have B_2 := B.cells 2 _ rfl
    have B_f0 := B.free 0 (by simp)
    have B_f1 := B.free 1 (by simp)
    have B_f2 := B.free 2 (by simp)
    have B_t := B.there
    have Z_0 := Z.cells 0 _ rfl
    have Z_1 := Z.cells 1 _ rfl
    have Z_2 := Z.cells 2 _ rfl
    have Z_f0 := Z.free 0 (by simp)
    have Z_f1 := Z.free 1 (by simp)
    have Z_f2 := Z.free 2 (by simp)
    have Z_t := Z.there
    exact bodyPost_ret (v := .tuple #[zero.val, .bool false]) (by simp [R.val, zero, results, Try.results24, go_sem, Z_0, Z_1, Z_2]) rfl (rpost (HV.out.symm) Z.below)
  cases hn : inB n 1 6
  · have HV := Lib.hid (as_no (as2 (x := x) (v := v) hn))
    go_wp2_with (first | (go_at_call 52; (with_reducible refine (water_impl _ _).mono ?_); rintro e' w' ⟨rfl, rfl⟩) | (go_at_call 53; (with_reducible refine (within_any _ _ _ _).mono ?_); rintro e' w' ⟨rfl, rfl⟩))
    clear B_0 B_1 B_2 B_f0 B_f1 B_f2 B_t
    clear Z_0 Z_1 Z_2 Z_f0 Z_f1 Z_f2 Z_t
    have B_t5 := B.there
    have Z_t5 := Z.there
    have B' : Box (w.heap.size) [.int .i64 x.f0, .int .i64 x.f1, .int .i64 x.f2] w _ := (((B.far Z.base (by omega) 0 (.int .i64 0)).far Z.base (by omega) 1 (.int .i64 0)).far Z.base (by omega) 2 (.int .i64 0))
    have Z' : Box (w.heap.size + 1) [.int .i64 0, .int .i64 0, .int .i64 0] w _ := (((Z.set 0 (.int .i64 0)).set 1 (.int .i64 0)).set 2 (.int .i64 0))
    clear B; have B := B'; clear B'
    clear Z; have Z := Z'; clear Z'
    have sz5 : (((v2.setCell ⟨w.heap.size + 1, 0, none⟩ (.int .i64 0)).setCell ⟨w.heap.size + 1, 1, none⟩ (.int .i64 0)).setCell ⟨w.heap.size + 1, 2, none⟩ (.int .i64 0)).heap.size = v2.heap.size := by simp only [size_set']
    generalize (((v2.setCell ⟨w.heap.size + 1, 0, none⟩ (.int .i64 0)).setCell ⟨w.heap.size + 1, 1, none⟩ (.int .i64 0)).setCell ⟨w.heap.size + 1, 2, none⟩ (.int .i64 0)) = W5 at B Z sz5 ⊢
    replace sz5 := Lib.hid sz5
    have B_0 := B.cells 0 _ rfl
    have B_1 := B.cells 1 _ rfl
    have B_2 := B.cells 2 _ rfl
    have B_f0 := B.free 0 (by simp)
    have B_f1 := B.free 1 (by simp)
    have B_f2 := B.free 2 (by simp)
    have B_t := B.there
    have Z_0 := Z.cells 0 _ rfl
    have Z_1 := Z.cells 1 _ rfl
    have Z_2 := Z.cells 2 _ rfl
    have Z_f0 := Z.free 0 (by simp)
    have Z_f1 := Z.free 1 (by simp)
    have Z_f2 := Z.free 2 (by simp)
    have Z_t := Z.there
    exact bodyPost_ret (v := .tuple #[zero.val, .bool false]) (by simp [R.val, zero, results, Try.results24, go_sem, Z_0, Z_1, Z_2]) rfl (rpost (HV.out.symm) Z.below)
  obtain ⟨h0, h1⟩ := isW_true hv
  obtain ⟨h2, h3⟩ := of_inB hn
  have e1 : v.tmod n = v % n := Int.tmod_eq_emod_of_nonneg (by omega)
  have e2 : (n == 0) = false := by rw [beq_eq_false_iff_ne]; omega
  have e5 : ¬ (n = 0) := by omega
  have e3 : 0 ≤ v % n ∧ v % n < n := ⟨Int.emod_nonneg _ (by omega), Int.emod_lt_of_pos _ (by omega)⟩
  have e4 : IntKind.i64.wrap (v % n) = v % n := IntWalk.i64_in _ (by omega)
  cases hm : (v % n == 0)
  · have HV := Lib.hid (as_no (as3 (x := x) hm))
    have hm2 : (v % n != 0) = true := by rw [bne, hm]; rfl
    go_wp2_with (first | (go_at_call 52; (with_reducible refine (water_impl _ _).mono ?_); rintro e' w' ⟨rfl, rfl⟩) | (go_at_call 53; (with_reducible refine (within_any _ _ _ _).mono ?_); rintro e' w' ⟨rfl, rfl⟩))
    clear B_0 B_1 B_2 B_f0 B_f1 B_f2 B_t
    clear Z_0 Z_1 Z_2 Z_f0 Z_f1 Z_f2 Z_t
    have B_t6 := B.there
    have Z_t6 := Z.there
    have B' : Box (w.heap.size) [.int .i64 x.f0, .int .i64 x.f1, .int .i64 x.f2] w _ := (((B.far Z.base (by omega) 0 (.int .i64 0)).far Z.base (by omega) 1 (.int .i64 0)).far Z.base (by omega) 2 (.int .i64 0))
    have Z' : Box (w.heap.size + 1) [.int .i64 0, .int .i64 0, .int .i64 0] w _ := (((Z.set 0 (.int .i64 0)).set 1 (.int .i64 0)).set 2 (.int .i64 0))
    clear B; have B := B'; clear B'
    clear Z; have Z := Z'; clear Z'
    have sz6 : (((v2.setCell ⟨w.heap.size + 1, 0, none⟩ (.int .i64 0)).setCell ⟨w.heap.size + 1, 1, none⟩ (.int .i64 0)).setCell ⟨w.heap.size + 1, 2, none⟩ (.int .i64 0)).heap.size = v2.heap.size := by simp only [size_set']
    generalize (((v2.setCell ⟨w.heap.size + 1, 0, none⟩ (.int .i64 0)).setCell ⟨w.heap.size + 1, 1, none⟩ (.int .i64 0)).setCell ⟨w.heap.size + 1, 2, none⟩ (.int .i64 0)) = W6 at B Z sz6 ⊢
    replace sz6 := Lib.hid sz6
    have B_0 := B.cells 0 _ rfl
    have B_1 := B.cells 1 _ rfl
    have B_2 := B.cells 2 _ rfl
    have B_f0 := B.free 0 (by simp)
    have B_f1 := B.free 1 (by simp)
    have B_f2 := B.free 2 (by simp)
    have B_t := B.there
    have Z_0 := Z.cells 0 _ rfl
    have Z_1 := Z.cells 1 _ rfl
    have Z_2 := Z.cells 2 _ rfl
    have Z_f0 := Z.free 0 (by simp)
    have Z_f1 := Z.free 1 (by simp)
    have Z_f2 := Z.free 2 (by simp)
    have Z_t := Z.there
    exact bodyPost_ret (v := .tuple #[zero.val, .bool false]) (by simp [R.val, zero, results, Try.results24, go_sem, Z_0, Z_1, Z_2]) rfl (rpost (HV.out.symm) Z.below)
  have hq := as4 hx hv hn hm
  have HV := Lib.hid (as_yes hq)
  have hm2 : (v % n != 0) = false := by rw [bne, hm]; rfl
  obtain ⟨_, _, _, _, _, _, hu0, hu1⟩ := as_parts hq
  have HX := Lib.hid hx
  have f1 : v.tdiv n = v / n := Int.tdiv_eq_ediv_of_nonneg (by omega)
  have f2 : IntKind.i64.wrap (v / n) = v / n := IntWalk.i64_in _ (by omega)
  have HNN := Lib.hid (show ((n.toNat : Nat) : Int) = n from Int.toNat_of_nonneg (by omega))
  clear hq e3
  go_wp2_with (first | (go_at_call 52; (with_reducible refine (water_impl _ _).mono ?_); rintro e' w' ⟨rfl, rfl⟩) | (go_at_call 53; (with_reducible refine (within_any _ _ _ _).mono ?_); rintro e' w' ⟨rfl, rfl⟩))
  clear hx hv hn hm hm2 e1 e4
  generalize v / n = u at *
  go_loopw [29] (fun i wr => ∃ (k : Nat) (y : R), k ≤ n.toNat ∧ i = .int .i64 k ∧ Hid (stg x u k = y) ∧ Box w.heap.size [.int .i64 y.f0, .int .i64 y.f1, .int .i64 y.f2] w wr ∧ Box (w.heap.size + 1) [.int .i64 0, .int .i64 0, .int .i64 0] w wr) (fun i _ => n.toNat - (intOf i).toNat)
  case atStart => exact ⟨0, x, Nat.zero_le _, rfl, Lib.hid rfl, B, Z⟩
  case round =>
    clear B_0 B_1 B_2 B_f0 B_f1 B_f2 B_t
    clear Z_0 Z_1 Z_2 Z_f0 Z_f1 Z_f2 Z_t
    clear B Z
    obtain ⟨k, y, hk, rfl, HY, B, Z⟩ := hrel
    have B_0 := B.cells 0 _ rfl
    have B_1 := B.cells 1 _ rfl
    have B_2 := B.cells 2 _ rfl
    have B_f0 := B.free 0 (by simp)
    have B_f1 := B.free 1 (by simp)
    have B_f2 := B.free 2 (by simp)
    have B_t := B.there
    have Z_0 := Z.cells 0 _ rfl
    have Z_1 := Z.cells 1 _ rfl
    have Z_2 := Z.cells 2 _ rfl
    have Z_f0 := Z.free 0 (by simp)
    have Z_f1 := Z.free 1 (by simp)
    have Z_f2 := Z.free 2 (by simp)
    have Z_t := Z.there
    by_cases hlt : k < n.toNat
    · have hoy : okT y = true := by rw [← HY.out]; exact stg_ok HX.out hu0 k
      obtain ⟨z, hz⟩ : ∃ z, wash y u 0 = z := ⟨_, rfl⟩
      have HZ := Lib.hid hz
      have HNX := Lib.hid (show stg x u (k + 1) = z by rw [← hz, ← HY.out]; rfl)
      have HL := Lib.hid hlt
      clear hz
      go_wp2_with fail
      refine wp_region_seq (fun L w' => BoxL (L 8) (w.heap.size) [.int .i64 y.f0, .int .i64 y.f1, .int .i64 y.f2] [.int .i64 z.f0, .int .i64 z.f1, .int .i64 z.f2] w w' ∧ Box (w.heap.size + 1) [.int .i64 0, .int .i64 0, .int .i64 0] w w') (by kernel_rfl) (by kernel_rfl) ⟨BoxL.start _ B.drew, Z.drew⟩ ?_
      clear B_0 B_1 B_2 B_f0 B_f1 B_f2 B_t
      clear Z_0 Z_1 Z_2 Z_f0 Z_f1 Z_f2 Z_t
      iterate 9 (
        apply SeqH.op
        · intro L uw K hN hS hK
          obtain ⟨qB, qZ⟩ := hS
          try (have hh0 := qB.2 (hN.out.1 8 (by decide +kernel)); have qB_0 := hh0.cells 0 _ rfl; have qB_1 := hh0.cells 1 _ rfl; have qB_2 := hh0.cells 2 _ rfl; clear hh0)
          have qZ_0 := qZ.cells 0 _ rfl
          have qZ_1 := qZ.cells 1 _ rfl
          have qZ_2 := qZ.cells 2 _ rfl
          clear hN
          first
            | (go_simp; exact hK.out _ ⟨(qB).skip (by decide), qZ⟩)
            | (go_simp; go_at_call 54; (with_reducible refine (wash_impl y u 0 hoy hu0 hu1 (Int.le_refl _) (by omega) _).mono ?_); rintro e uw1 ⟨rfl, hv⟩; rw [HZ.out]; unfold R.val; go_wp2_with fail; exact hK.out _ ⟨(qB.more hv).skip (by decide), qZ.more hv⟩)
            | (rcases qB.two with hh | hh <;> (have h0 := hh.cells 0 _ rfl; have k0 := hh.free 0 (by simp); have h1 := hh.cells 1 _ rfl; have k1 := hh.free 1 (by simp); have h2 := hh.cells 2 _ rfl; have k2 := hh.free 2 (by simp); go_simp; exact hK.out _ ⟨BoxL.put (((hh.set 0 (.int .i64 z.f0)).set 1 (.int .i64 z.f1)).set 2 (.int .i64 z.f2)), (((qZ.far hh.base (by omega) 0 (.int .i64 z.f0)).far hh.base (by omega) 1 (.int .i64 z.f1)).far hh.base (by omega) 2 (.int .i64 z.f2))⟩))
        try simp only [Act.put, List.setIfInBounds_toArray, List.set_cons_zero, List.set_cons_succ])
      refine SeqH.done rfl ?_
      intro L v7 hL hS
      clear B Z
      obtain ⟨B, Z⟩ := hS
      replace B := B.done (hL 8 (by decide))
      clear hL
      have B_0 := B.cells 0 _ rfl
      have B_1 := B.cells 1 _ rfl
      have B_2 := B.cells 2 _ rfl
      have B_f0 := B.free 0 (by simp)
      have B_f1 := B.free 1 (by simp)
      have B_f2 := B.free 2 (by simp)
      have B_t := B.there
      have Z_0 := Z.cells 0 _ rfl
      have Z_1 := Z.cells 1 _ rfl
      have Z_2 := Z.cells 2 _ rfl
      have Z_f0 := Z.free 0 (by simp)
      have Z_f1 := Z.free 1 (by simp)
      have Z_f2 := Z.free 2 (by simp)
      have Z_t := Z.there
      go_wp2
      go_roundw
      case rel => exact ⟨k + 1, z, HL.out, by go_num, HNX, B, Z⟩
      case measure => have := HL.out; simp [intOf]; omega
    · have HF := Lib.hid (show stg x u n.toNat = y by rw [show n.toNat = k by omega]; exact HY.out)
      go_wp2
      clear B_0 B_1 B_2 B_f0 B_f1 B_f2 B_t
      clear Z_0 Z_1 Z_2 Z_f0 Z_f1 Z_f2 Z_t
      have B_t8 := B.there
      have Z_t8 := Z.there
      have B' : Box (w.heap.size) [.int .i64 y.f0, .int .i64 y.f1, .int .i64 y.f2] w _ := (((B.far Z.base (by omega) 0 (.int .i64 y.f0)).far Z.base (by omega) 1 (.int .i64 y.f1)).far Z.base (by omega) 2 (.int .i64 y.f2))
      have Z' : Box (w.heap.size + 1) [.int .i64 y.f0, .int .i64 y.f1, .int .i64 y.f2] w _ := (((Z.set 0 (.int .i64 y.f0)).set 1 (.int .i64 y.f1)).set 2 (.int .i64 y.f2))
      clear B; have B := B'; clear B'
      clear Z; have Z := Z'; clear Z'
      have sz8 : (((wr.setCell ⟨w.heap.size + 1, 0, none⟩ (.int .i64 y.f0)).setCell ⟨w.heap.size + 1, 1, none⟩ (.int .i64 y.f1)).setCell ⟨w.heap.size + 1, 2, none⟩ (.int .i64 y.f2)).heap.size = wr.heap.size := by simp only [size_set']
      generalize (((wr.setCell ⟨w.heap.size + 1, 0, none⟩ (.int .i64 y.f0)).setCell ⟨w.heap.size + 1, 1, none⟩ (.int .i64 y.f1)).setCell ⟨w.heap.size + 1, 2, none⟩ (.int .i64 y.f2)) = W8 at B Z sz8 ⊢
      replace sz8 := Lib.hid sz8
      have B_0 := B.cells 0 _ rfl
      have B_1 := B.cells 1 _ rfl
      have B_2 := B.cells 2 _ rfl
      have B_f0 := B.free 0 (by simp)
      have B_f1 := B.free 1 (by simp)
      have B_f2 := B.free 2 (by simp)
      have B_t := B.there
      have Z_0 := Z.cells 0 _ rfl
      have Z_1 := Z.cells 1 _ rfl
      have Z_2 := Z.cells 2 _ rfl
      have Z_f0 := Z.free 0 (by simp)
      have Z_f1 := Z.free 1 (by simp)
      have Z_f2 := Z.free 2 (by simp)
      have Z_t := Z.there
      exact bodyPost_ret (v := .tuple #[.agg #[.int .i64 y.f0, .int .i64 y.f1, .int .i64 y.f2], .bool true]) (by simp [R.val, zero, results, Try.results24, go_sem, Z_0, Z_1, Z_2]) rfl (rpost (by rw [HV.out, HF.out] <;> rfl) Z.below)
set_option maxHeartbeats 800000 in
theorem stg_spec (x : R) (v n : Int) (hx : okT x = true) (h0 : 1 ≤ v) (h1 : v ≤ 100000000) (h2 : 1 ≤ n) (h3 : n ≤ 6) (hu0 : 1 ≤ v / n) (hu1 : v / n ≤ 100000000) (w : World) : Calls Try.prog 60 #[.agg #[.int .i64 x.f0, .int .i64 x.f1, .int .i64 x.f2], .int .i64 v, .int .i64 n] w (RPost (stg x (v / n) n.toNat).val w) := by
  have HX := Lib.hid hx
  have e2 : (n == 0) = false := by rw [beq_eq_false_iff_ne]; omega
  have e5 : ¬ (n = 0) := by omega
  have f1 : v.tdiv n = v / n := Int.tdiv_eq_ediv_of_nonneg (by omega)
  have f2 : IntKind.i64.wrap (v / n) = v / n := IntWalk.i64_in _ (by omega)
  have HNN := Lib.hid (show ((n.toNat : Nat) : Int) = n from Int.toNat_of_nonneg (by omega))
  clear hx
  generalize v / n = u at *
  go_enter Try.func60, Try.ntmps60
  go_wp2_with fail
  have B := (Box.new (Below.refl _ w) [.int .i64 x.f0, .int .i64 x.f1, .int .i64 x.f2] 25 (g := w.heap.size) rfl).alloc (.cells #[.int .i64 0, .int .i64 0, .int .i64 0] 25)
  have Z := Box.new (al (Below.refl _ w) (o := (.cells #[.int .i64 x.f0, .int .i64 x.f1, .int .i64 x.f2] 25))) [.int .i64 0, .int .i64 0, .int .i64 0] 25 (g := w.heap.size + 1) (by simp only [size_alloc'])
  generalize ((w.alloc (.cells #[.int .i64 x.f0, .int .i64 x.f1, .int .i64 x.f2] 25)).alloc (.cells #[.int .i64 0, .int .i64 0, .int .i64 0] 25)) = W1 at B Z ⊢
  have B_0 := B.cells 0 _ rfl
  have B_1 := B.cells 1 _ rfl
  have B_2 := B.cells 2 _ rfl
  have B_f0 := B.free 0 (by simp)
  have B_f1 := B.free 1 (by simp)
  have B_f2 := B.free 2 (by simp)
  have B_t := B.there
  have Z_0 := Z.cells 0 _ rfl
  have Z_1 := Z.cells 1 _ rfl
  have Z_2 := Z.cells 2 _ rfl
  have Z_f0 := Z.free 0 (by simp)
  have Z_f1 := Z.free 1 (by simp)
  have Z_f2 := Z.free 2 (by simp)
  have Z_t := Z.there
  go_loopw [7] (fun i wr => ∃ (k : Nat) (y : R), k ≤ n.toNat ∧ i = .int .i64 k ∧ Hid (stg x u k = y) ∧ Box w.heap.size [.int .i64 y.f0, .int .i64 y.f1, .int .i64 y.f2] w wr ∧ Box (w.heap.size + 1) [.int .i64 0, .int .i64 0, .int .i64 0] w wr) (fun i _ => n.toNat - (intOf i).toNat)
  case atStart => exact ⟨0, x, Nat.zero_le _, rfl, Lib.hid rfl, B, Z⟩
  case round =>
    clear B_0 B_1 B_2 B_f0 B_f1 B_f2 B_t
    clear Z_0 Z_1 Z_2 Z_f0 Z_f1 Z_f2 Z_t
    clear B Z
    obtain ⟨k, y, hk, rfl, HY, B, Z⟩ := hrel
    have B_0 := B.cells 0 _ rfl
    have B_1 := B.cells 1 _ rfl
    have B_2 := B.cells 2 _ rfl
    have B_f0 := B.free 0 (by simp)
    have B_f1 := B.free 1 (by simp)
    have B_f2 := B.free 2 (by simp)
    have B_t := B.there
    have Z_0 := Z.cells 0 _ rfl
    have Z_1 := Z.cells 1 _ rfl
    have Z_2 := Z.cells 2 _ rfl
    have Z_f0 := Z.free 0 (by simp)
    have Z_f1 := Z.free 1 (by simp)
    have Z_f2 := Z.free 2 (by simp)
    have Z_t := Z.there
    by_cases hlt : k < n.toNat
    · have hoy : okT y = true := by rw [← HY.out]; exact stg_ok HX.out hu0 k
      obtain ⟨z, hz⟩ : ∃ z, wash y u 0 = z := ⟨_, rfl⟩
      have HZ := Lib.hid hz
      have HNX := Lib.hid (show stg x u (k + 1) = z by rw [← hz, ← HY.out]; rfl)
      have HL := Lib.hid hlt
      clear hz
      go_wp2_with fail
      refine wp_region_seq (fun L w' => BoxL (L 8) (w.heap.size) [.int .i64 y.f0, .int .i64 y.f1, .int .i64 y.f2] [.int .i64 z.f0, .int .i64 z.f1, .int .i64 z.f2] w w' ∧ Box (w.heap.size + 1) [.int .i64 0, .int .i64 0, .int .i64 0] w w') (by kernel_rfl) (by kernel_rfl) ⟨BoxL.start _ B.drew, Z.drew⟩ ?_
      clear B_0 B_1 B_2 B_f0 B_f1 B_f2 B_t
      clear Z_0 Z_1 Z_2 Z_f0 Z_f1 Z_f2 Z_t
      iterate 9 (
        apply SeqH.op
        · intro L uw K hN hS hK
          obtain ⟨qB, qZ⟩ := hS
          try (have hh0 := qB.2 (hN.out.1 8 (by decide +kernel)); have qB_0 := hh0.cells 0 _ rfl; have qB_1 := hh0.cells 1 _ rfl; have qB_2 := hh0.cells 2 _ rfl; clear hh0)
          have qZ_0 := qZ.cells 0 _ rfl
          have qZ_1 := qZ.cells 1 _ rfl
          have qZ_2 := qZ.cells 2 _ rfl
          clear hN
          first
            | (go_simp; exact hK.out _ ⟨(qB).skip (by decide), qZ⟩)
            | (go_simp; go_at_call 56; (with_reducible refine (wash_spec y u 0 hoy hu0 hu1 (Int.le_refl _) (by omega) _).mono ?_); rintro e uw1 ⟨rfl, hv⟩; rw [HZ.out]; unfold R.val; go_wp2_with fail; exact hK.out _ ⟨(qB.more hv).skip (by decide), qZ.more hv⟩)
            | (rcases qB.two with hh | hh <;> (have h0 := hh.cells 0 _ rfl; have k0 := hh.free 0 (by simp); have h1 := hh.cells 1 _ rfl; have k1 := hh.free 1 (by simp); have h2 := hh.cells 2 _ rfl; have k2 := hh.free 2 (by simp); go_simp; exact hK.out _ ⟨BoxL.put (((hh.set 0 (.int .i64 z.f0)).set 1 (.int .i64 z.f1)).set 2 (.int .i64 z.f2)), (((qZ.far hh.base (by omega) 0 (.int .i64 z.f0)).far hh.base (by omega) 1 (.int .i64 z.f1)).far hh.base (by omega) 2 (.int .i64 z.f2))⟩))
        try simp only [Act.put, List.setIfInBounds_toArray, List.set_cons_zero, List.set_cons_succ])
      refine SeqH.done rfl ?_
      intro L v2 hL hS
      clear B Z
      obtain ⟨B, Z⟩ := hS
      replace B := B.done (hL 8 (by decide))
      clear hL
      have B_0 := B.cells 0 _ rfl
      have B_1 := B.cells 1 _ rfl
      have B_2 := B.cells 2 _ rfl
      have B_f0 := B.free 0 (by simp)
      have B_f1 := B.free 1 (by simp)
      have B_f2 := B.free 2 (by simp)
      have B_t := B.there
      have Z_0 := Z.cells 0 _ rfl
      have Z_1 := Z.cells 1 _ rfl
      have Z_2 := Z.cells 2 _ rfl
      have Z_f0 := Z.free 0 (by simp)
      have Z_f1 := Z.free 1 (by simp)
      have Z_f2 := Z.free 2 (by simp)
      have Z_t := Z.there
      go_wp2
      go_roundw
      case rel => exact ⟨k + 1, z, HL.out, by go_num, HNX, B, Z⟩
      case measure => have := HL.out; simp [intOf]; omega
    · have HF := Lib.hid (show stg x u n.toNat = y by rw [show n.toNat = k by omega]; exact HY.out)
      go_wp2
      clear B_0 B_1 B_2 B_f0 B_f1 B_f2 B_t
      clear Z_0 Z_1 Z_2 Z_f0 Z_f1 Z_f2 Z_t
      have B_t3 := B.there
      have Z_t3 := Z.there
      have B' : Box (w.heap.size) [.int .i64 y.f0, .int .i64 y.f1, .int .i64 y.f2] w _ := (((B.far Z.base (by omega) 0 (.int .i64 y.f0)).far Z.base (by omega) 1 (.int .i64 y.f1)).far Z.base (by omega) 2 (.int .i64 y.f2))
      have Z' : Box (w.heap.size + 1) [.int .i64 y.f0, .int .i64 y.f1, .int .i64 y.f2] w _ := (((Z.set 0 (.int .i64 y.f0)).set 1 (.int .i64 y.f1)).set 2 (.int .i64 y.f2))
      clear B; have B := B'; clear B'
      clear Z; have Z := Z'; clear Z'
      have sz3 : (((wr.setCell ⟨w.heap.size + 1, 0, none⟩ (.int .i64 y.f0)).setCell ⟨w.heap.size + 1, 1, none⟩ (.int .i64 y.f1)).setCell ⟨w.heap.size + 1, 2, none⟩ (.int .i64 y.f2)).heap.size = wr.heap.size := by simp only [size_set']
      generalize (((wr.setCell ⟨w.heap.size + 1, 0, none⟩ (.int .i64 y.f0)).setCell ⟨w.heap.size + 1, 1, none⟩ (.int .i64 y.f1)).setCell ⟨w.heap.size + 1, 2, none⟩ (.int .i64 y.f2)) = W3 at B Z sz3 ⊢
      replace sz3 := Lib.hid sz3
      have B_0 := B.cells 0 _ rfl
      have B_1 := B.cells 1 _ rfl
      have B_2 := B.cells 2 _ rfl
      have B_f0 := B.free 0 (by simp)
      have B_f1 := B.free 1 (by simp)
      have B_f2 := B.free 2 (by simp)
      have B_t := B.there
      have Z_0 := Z.cells 0 _ rfl
      have Z_1 := Z.cells 1 _ rfl
      have Z_2 := Z.cells 2 _ rfl
      have Z_f0 := Z.free 0 (by simp)
      have Z_f1 := Z.free 1 (by simp)
      have Z_f2 := Z.free 2 (by simp)
      have Z_t := Z.there
      exact bodyPost_ret (v := .agg #[.int .i64 y.f0, .int .i64 y.f1, .int .i64 y.f2]) (by simp [R.val, zero, results, Try.results60, go_sem, Z_0, Z_1, Z_2]) rfl (rpost (by rw [HF.out] <;> rfl) Z.below)
theorem as_spec (x : R) (v n : Int) (w : World) : Calls Try.prog 25 #[.agg #[.int .i64 x.f0, .int .i64 x.f1, .int .i64 x.f2], .int .i64 v, .int .i64 n] w (RPost (asV x v n) w) := by
  go_enter Try.func25, Try.ntmps25
  go_wp2_with fail
  have B := (Box.new (Below.refl _ w) [.int .i64 x.f0, .int .i64 x.f1, .int .i64 x.f2] 25 (g := w.heap.size) rfl).alloc (.cells #[.int .i64 0, .int .i64 0, .int .i64 0] 25)
  have Z := Box.new (al (Below.refl _ w) (o := (.cells #[.int .i64 x.f0, .int .i64 x.f1, .int .i64 x.f2] 25))) [.int .i64 0, .int .i64 0, .int .i64 0] 25 (g := w.heap.size + 1) (by simp only [size_alloc'])
  generalize ((w.alloc (.cells #[.int .i64 x.f0, .int .i64 x.f1, .int .i64 x.f2] 25)).alloc (.cells #[.int .i64 0, .int .i64 0, .int .i64 0] 25)) = W1 at B Z ⊢
  have B_0 := B.cells 0 _ rfl
  have B_1 := B.cells 1 _ rfl
  have B_2 := B.cells 2 _ rfl
  have B_f0 := B.free 0 (by simp)
  have B_f1 := B.free 1 (by simp)
  have B_f2 := B.free 2 (by simp)
  have B_t := B.there
  have Z_0 := Z.cells 0 _ rfl
  have Z_1 := Z.cells 1 _ rfl
  have Z_2 := Z.cells 2 _ rfl
  have Z_f0 := Z.free 0 (by simp)
  have Z_f1 := Z.free 1 (by simp)
  have Z_f2 := Z.free 2 (by simp)
  have Z_t := Z.there
  go_wp2_with fail
  refine (water_spec x v 0 _).mono ?_
  rintro e v2 ⟨rfl, hv2⟩
  clear B_0 B_1 B_2 B_f0 B_f1 B_f2 B_t
  clear Z_0 Z_1 Z_2 Z_f0 Z_f1 Z_f2 Z_t
  replace B := B.more hv2
  replace Z := Z.more hv2
  have zhv2 := hv2.size
  clear hv2
  have B_0 := B.cells 0 _ rfl
  have B_1 := B.cells 1 _ rfl
  have B_2 := B.cells 2 _ rfl
  have B_f0 := B.free 0 (by simp)
  have B_f1 := B.free 1 (by simp)
  have B_f2 := B.free 2 (by simp)
  have B_t := B.there
  have Z_0 := Z.cells 0 _ rfl
  have Z_1 := Z.cells 1 _ rfl
  have Z_2 := Z.cells 2 _ rfl
  have Z_f0 := Z.free 0 (by simp)
  have Z_f1 := Z.free 1 (by simp)
  have Z_f2 := Z.free 2 (by simp)
  have Z_t := Z.there
  cases hw : awOk x v 0
  · have HV := Lib.hid (as_no (as1 (n := n) hw))
    go_wp2
    clear B_0 B_1 B_2 B_f0 B_f1 B_f2 B_t
    clear Z_0 Z_1 Z_2 Z_f0 Z_f1 Z_f2 Z_t
    have B_t3 := B.there
    have Z_t3 := Z.there
    have B' : Box (w.heap.size) [.int .i64 x.f0, .int .i64 x.f1, .int .i64 x.f2] w _ := (((B.far Z.base (by omega) 0 (.int .i64 0)).far Z.base (by omega) 1 (.int .i64 0)).far Z.base (by omega) 2 (.int .i64 0))
    have Z' : Box (w.heap.size + 1) [.int .i64 0, .int .i64 0, .int .i64 0] w _ := (((Z.set 0 (.int .i64 0)).set 1 (.int .i64 0)).set 2 (.int .i64 0))
    clear B; have B := B'; clear B'
    clear Z; have Z := Z'; clear Z'
    have sz3 : (((v2.setCell ⟨w.heap.size + 1, 0, none⟩ (.int .i64 0)).setCell ⟨w.heap.size + 1, 1, none⟩ (.int .i64 0)).setCell ⟨w.heap.size + 1, 2, none⟩ (.int .i64 0)).heap.size = v2.heap.size := by simp only [size_set']
    generalize (((v2.setCell ⟨w.heap.size + 1, 0, none⟩ (.int .i64 0)).setCell ⟨w.heap.size + 1, 1, none⟩ (.int .i64 0)).setCell ⟨w.heap.size + 1, 2, none⟩ (.int .i64 0)) = W3 at B Z sz3 ⊢
    replace sz3 := Lib.hid sz3
    have B_0 := B.cells 0 _ rfl
    have B_1 := B.cells 1 _ rfl
    have B_2 := B.cells 2 _ rfl
    have B_f0 := B.free 0 (by simp)
    have B_f1 := B.free 1 (by simp)
    have B_f2 := B.free 2 (by simp)
    have B_t := B.there
    have Z_0 := Z.cells 0 _ rfl
    have Z_1 := Z.cells 1 _ rfl
    have Z_2 := Z.cells 2 _ rfl
    have Z_f0 := Z.free 0 (by simp)
    have Z_f1 := Z.free 1 (by simp)
    have Z_f2 := Z.free 2 (by simp)
    have Z_t := Z.there
    exact bodyPost_ret (v := .tuple #[zero.val, .bool false]) (by simp [R.val, zero, results, Try.results25, go_sem, Z_0, Z_1, Z_2]) rfl (rpost (HV.out.symm) Z.below)
  obtain ⟨hx, h0, h1, _, _⟩ := aw_parts hw
  clear hw
  cases hn : inB n 1 6
  · have HV := Lib.hid (as_no (as2 (x := x) (v := v) hn))
    go_wp2_with (go_at_call 59; (with_reducible refine (in_any _ _ _ _).mono ?_); rintro e' w' ⟨rfl, rfl⟩)
    clear B_0 B_1 B_2 B_f0 B_f1 B_f2 B_t
    clear Z_0 Z_1 Z_2 Z_f0 Z_f1 Z_f2 Z_t
    have B_t4 := B.there
    have Z_t4 := Z.there
    have B' : Box (w.heap.size) [.int .i64 x.f0, .int .i64 x.f1, .int .i64 x.f2] w _ := (((B.far Z.base (by omega) 0 (.int .i64 0)).far Z.base (by omega) 1 (.int .i64 0)).far Z.base (by omega) 2 (.int .i64 0))
    have Z' : Box (w.heap.size + 1) [.int .i64 0, .int .i64 0, .int .i64 0] w _ := (((Z.set 0 (.int .i64 0)).set 1 (.int .i64 0)).set 2 (.int .i64 0))
    clear B; have B := B'; clear B'
    clear Z; have Z := Z'; clear Z'
    have sz4 : (((v2.setCell ⟨w.heap.size + 1, 0, none⟩ (.int .i64 0)).setCell ⟨w.heap.size + 1, 1, none⟩ (.int .i64 0)).setCell ⟨w.heap.size + 1, 2, none⟩ (.int .i64 0)).heap.size = v2.heap.size := by simp only [size_set']
    generalize (((v2.setCell ⟨w.heap.size + 1, 0, none⟩ (.int .i64 0)).setCell ⟨w.heap.size + 1, 1, none⟩ (.int .i64 0)).setCell ⟨w.heap.size + 1, 2, none⟩ (.int .i64 0)) = W4 at B Z sz4 ⊢
    replace sz4 := Lib.hid sz4
    have B_0 := B.cells 0 _ rfl
    have B_1 := B.cells 1 _ rfl
    have B_2 := B.cells 2 _ rfl
    have B_f0 := B.free 0 (by simp)
    have B_f1 := B.free 1 (by simp)
    have B_f2 := B.free 2 (by simp)
    have B_t := B.there
    have Z_0 := Z.cells 0 _ rfl
    have Z_1 := Z.cells 1 _ rfl
    have Z_2 := Z.cells 2 _ rfl
    have Z_f0 := Z.free 0 (by simp)
    have Z_f1 := Z.free 1 (by simp)
    have Z_f2 := Z.free 2 (by simp)
    have Z_t := Z.there
    exact bodyPost_ret (v := .tuple #[zero.val, .bool false]) (by simp [R.val, zero, results, Try.results25, go_sem, Z_0, Z_1, Z_2]) rfl (rpost (HV.out.symm) Z.below)
  obtain ⟨h2, h3⟩ := of_inB hn
  have e1 : v.tmod n = v % n := Int.tmod_eq_emod_of_nonneg (by omega)
  have e2 : (n == 0) = false := by rw [beq_eq_false_iff_ne]; omega
  have e5 : ¬ (n = 0) := by omega
  have e3 : 0 ≤ v % n ∧ v % n < n := ⟨Int.emod_nonneg _ (by omega), Int.emod_lt_of_pos _ (by omega)⟩
  have e4 : IntKind.i64.wrap (v % n) = v % n := IntWalk.i64_in _ (by omega)
  cases hm : (v % n == 0)
  · have HV := Lib.hid (as_no (as3 (x := x) hm))
    have hm2 : (v % n != 0) = true := by rw [bne, hm]; rfl
    go_wp2_with (go_at_call 59; (with_reducible refine (in_any _ _ _ _).mono ?_); rintro e' w' ⟨rfl, rfl⟩)
    clear B_0 B_1 B_2 B_f0 B_f1 B_f2 B_t
    clear Z_0 Z_1 Z_2 Z_f0 Z_f1 Z_f2 Z_t
    have B_t5 := B.there
    have Z_t5 := Z.there
    have B' : Box (w.heap.size) [.int .i64 x.f0, .int .i64 x.f1, .int .i64 x.f2] w _ := (((B.far Z.base (by omega) 0 (.int .i64 0)).far Z.base (by omega) 1 (.int .i64 0)).far Z.base (by omega) 2 (.int .i64 0))
    have Z' : Box (w.heap.size + 1) [.int .i64 0, .int .i64 0, .int .i64 0] w _ := (((Z.set 0 (.int .i64 0)).set 1 (.int .i64 0)).set 2 (.int .i64 0))
    clear B; have B := B'; clear B'
    clear Z; have Z := Z'; clear Z'
    have sz5 : (((v2.setCell ⟨w.heap.size + 1, 0, none⟩ (.int .i64 0)).setCell ⟨w.heap.size + 1, 1, none⟩ (.int .i64 0)).setCell ⟨w.heap.size + 1, 2, none⟩ (.int .i64 0)).heap.size = v2.heap.size := by simp only [size_set']
    generalize (((v2.setCell ⟨w.heap.size + 1, 0, none⟩ (.int .i64 0)).setCell ⟨w.heap.size + 1, 1, none⟩ (.int .i64 0)).setCell ⟨w.heap.size + 1, 2, none⟩ (.int .i64 0)) = W5 at B Z sz5 ⊢
    replace sz5 := Lib.hid sz5
    have B_0 := B.cells 0 _ rfl
    have B_1 := B.cells 1 _ rfl
    have B_2 := B.cells 2 _ rfl
    have B_f0 := B.free 0 (by simp)
    have B_f1 := B.free 1 (by simp)
    have B_f2 := B.free 2 (by simp)
    have B_t := B.there
    have Z_0 := Z.cells 0 _ rfl
    have Z_1 := Z.cells 1 _ rfl
    have Z_2 := Z.cells 2 _ rfl
    have Z_f0 := Z.free 0 (by simp)
    have Z_f1 := Z.free 1 (by simp)
    have Z_f2 := Z.free 2 (by simp)
    have Z_t := Z.there
    exact bodyPost_ret (v := .tuple #[zero.val, .bool false]) (by simp [R.val, zero, results, Try.results25, go_sem, Z_0, Z_1, Z_2]) rfl (rpost (HV.out.symm) Z.below)
  have hq := as4 hx (show isW v = true from inB_true ⟨h0, h1⟩) hn hm
  have HV := Lib.hid (as_yes hq)
  have hm2 : (v % n != 0) = false := by rw [bne, hm]; rfl
  obtain ⟨_, _, _, _, _, _, hu0, hu1⟩ := as_parts hq
  have HC := Lib.hid (fun W => stg_spec x v n hx h0 h1 h2 h3 hu0 hu1 W)
  obtain ⟨y, hy⟩ : ∃ y, stg x (v / n) n.toNat = y := ⟨_, rfl⟩
  have HY := Lib.hid hy; clear hy
  clear hq e3 hu0 hu1
  go_wp2_with (go_at_call 59; (with_reducible refine (in_any _ _ _ _).mono ?_); rintro e' w' ⟨rfl, rfl⟩)
  refine (HC.out _).mono ?_
  rintro e v9 ⟨rfl, hv9⟩
  clear B_0 B_1 B_2 B_f0 B_f1 B_f2 B_t
  clear Z_0 Z_1 Z_2 Z_f0 Z_f1 Z_f2 Z_t
  replace B := B.more hv9
  replace Z := Z.more hv9
  have zhv9 := hv9.size
  clear hv9
  have B_0 := B.cells 0 _ rfl
  have B_1 := B.cells 1 _ rfl
  have B_2 := B.cells 2 _ rfl
  have B_f0 := B.free 0 (by simp)
  have B_f1 := B.free 1 (by simp)
  have B_f2 := B.free 2 (by simp)
  have B_t := B.there
  have Z_0 := Z.cells 0 _ rfl
  have Z_1 := Z.cells 1 _ rfl
  have Z_2 := Z.cells 2 _ rfl
  have Z_f0 := Z.free 0 (by simp)
  have Z_f1 := Z.free 1 (by simp)
  have Z_f2 := Z.free 2 (by simp)
  have Z_t := Z.there
  rw [HY.out]
  unfold R.val
  go_wp2
  clear B_0 B_1 B_2 B_f0 B_f1 B_f2 B_t
  clear Z_0 Z_1 Z_2 Z_f0 Z_f1 Z_f2 Z_t
  have B_t6 := B.there
  have Z_t6 := Z.there
  have B' : Box (w.heap.size) [.int .i64 x.f0, .int .i64 x.f1, .int .i64 x.f2] w _ := (((B.far Z.base (by omega) 0 (.int .i64 y.f0)).far Z.base (by omega) 1 (.int .i64 y.f1)).far Z.base (by omega) 2 (.int .i64 y.f2))
  have Z' : Box (w.heap.size + 1) [.int .i64 y.f0, .int .i64 y.f1, .int .i64 y.f2] w _ := (((Z.set 0 (.int .i64 y.f0)).set 1 (.int .i64 y.f1)).set 2 (.int .i64 y.f2))
  clear B; have B := B'; clear B'
  clear Z; have Z := Z'; clear Z'
  have sz6 : (((v9.setCell ⟨w.heap.size + 1, 0, none⟩ (.int .i64 y.f0)).setCell ⟨w.heap.size + 1, 1, none⟩ (.int .i64 y.f1)).setCell ⟨w.heap.size + 1, 2, none⟩ (.int .i64 y.f2)).heap.size = v9.heap.size := by simp only [size_set']
  generalize (((v9.setCell ⟨w.heap.size + 1, 0, none⟩ (.int .i64 y.f0)).setCell ⟨w.heap.size + 1, 1, none⟩ (.int .i64 y.f1)).setCell ⟨w.heap.size + 1, 2, none⟩ (.int .i64 y.f2)) = W6 at B Z sz6 ⊢
  replace sz6 := Lib.hid sz6
  have B_0 := B.cells 0 _ rfl
  have B_1 := B.cells 1 _ rfl
  have B_2 := B.cells 2 _ rfl
  have B_f0 := B.free 0 (by simp)
  have B_f1 := B.free 1 (by simp)
  have B_f2 := B.free 2 (by simp)
  have B_t := B.there
  have Z_0 := Z.cells 0 _ rfl
  have Z_1 := Z.cells 1 _ rfl
  have Z_2 := Z.cells 2 _ rfl
  have Z_f0 := Z.free 0 (by simp)
  have Z_f1 := Z.free 1 (by simp)
  have Z_f2 := Z.free 2 (by simp)
  have Z_t := Z.there
  exact bodyPost_ret (v := .tuple #[.agg #[.int .i64 y.f0, .int .i64 y.f1, .int .i64 y.f2], .bool true]) (by simp [R.val, zero, results, Try.results25, go_sem, Z_0, Z_1, Z_2]) rfl (rpost (by rw [HV.out, HY.out] <;> rfl) Z.below)
end Go.Proofs.Ytpokgnkcnibapaa.BatV
