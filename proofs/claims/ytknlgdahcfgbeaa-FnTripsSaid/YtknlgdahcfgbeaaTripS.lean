/- Trips: the small functions of the model and of the program. Made by tools/mk_trips.py. -/
import Derived.Test.YtknlgdahcfgbeaaTripP
import Derived.Test.YtknlgdahcfgbeaaWithin
import Derived.Test.YtknlgdahcfgbeaaRegn2
import Derived.Test.YtknlgdahcfgbeaaKeep
namespace Go.Proofs.Ytknlgdahcfgbeaa.TripS
open Go.RowKit Go.Proofs.Ytknlgdahcfgbeaa.Mem Go.Proofs.Ytknlgdahcfgbeaa.Base Go.Proofs.Ytknlgdahcfgbeaa.Within Go.Proofs.Ytknlgdahcfgbeaa.STrip Go.Proofs.Ytknlgdahcfgbeaa.Regn Go.Proofs.Ytknlgdahcfgbeaa.Boxes Go.Proofs.Ytknlgdahcfgbeaa.Keep Go.Proofs.Ytknlgdahcfgbeaa.TripP
set_option linter.unusedVariables false
set_option linter.unusedSimpArgs false
set_option maxRecDepth 100000
theorem cells5 {w W : World} {b o k : Nat} {l : List R} {x : R} (HB : Below w.heap.size w W) (hb : b < w.heap.size) (hc : ∀ (j : Nat) (v : Value), (flat l)[j]? = some v → w.cell? ⟨b, o + j, none⟩ = some v) (hlt : k < l.length) (hx : l[k] = x) :
    W.cell? ⟨b, o + k * 5, none⟩ = some (.int .i64 x.f0) ∧ W.cell? ⟨b, o + k * 5 + 1, none⟩ = some (.int .i64 x.f1) ∧ W.cell? ⟨b, o + k * 5 + 2, none⟩ = some (.int .i64 x.f2) ∧ W.cell? ⟨b, o + k * 5 + 3, none⟩ = some (.int .i64 x.f3) ∧ W.cell? ⟨b, o + k * 5 + 4, none⟩ = some (.int .i64 x.f4) := by
  subst hx
  exact ⟨((bcell HB).1 _ _ hb).trans (hc _ _ (flat_0 l k hlt)), ((bcell HB).1 _ _ hb).trans (hc _ _ (flat_1 l k hlt)), ((bcell HB).1 _ _ hb).trans (hc _ _ (flat_2 l k hlt)), ((bcell HB).1 _ _ hb).trans (hc _ _ (flat_3 l k hlt)), ((bcell HB).1 _ _ hb).trans (hc _ _ (flat_4 l k hlt))⟩
theorem stop_spec (x : Int) (w : World) : Calls Try.prog 50 #[.int .i64 x] w (BPost (inB x 0 9) w) := by
  go_enter Try.func50, Try.ntmps50
  go_wp2_with (go_at_call 49; (with_reducible refine (in_any _ _ _ _).mono ?_); rintro e' w' ⟨rfl, rfl⟩)
  go_ret
  exact bpost rfl
theorem stop_impl (x : Int) (w : World) : Calls Try.prog 32 #[.int .i64 x] w (BPost (inB x 0 9) w) := by
  go_enter Try.func32, Try.ntmps32
  go_wp2_with (go_at_call 31; (with_reducible refine (within_any _ _ _ _).mono ?_); rintro e' w' ⟨rfl, rfl⟩)
  go_ret
  exact bpost rfl
theorem min_spec (x : Int) (w : World) : Calls Try.prog 48 #[.int .i64 x] w (BPost (inB x 0 1440) w) := by
  go_enter Try.func48, Try.ntmps48
  go_wp2_with (go_at_call 49; (with_reducible refine (in_any _ _ _ _).mono ?_); rintro e' w' ⟨rfl, rfl⟩)
  go_ret
  exact bpost rfl
/-- a number, and the world with no more than new memory. -/
theorem wrd (d n : Int) (h1 : -100 ≤ d) (h2 : d ≤ 100) (h : d * 4 = n) : Value.int .i64 (wrap64 (wrap64 d * 4)) = .int .i64 n := by
  rw [IntWalk.wrap64_in d ⟨by omega, by omega⟩, IntWalk.wrap64_in _ ⟨by omega, by omega⟩, h]
theorem dur_impl (x : R) (h1 : 0 ≤ x.f1) (h2 : x.f1 ≤ 9) (h3 : 0 ≤ x.f2) (h4 : x.f2 ≤ 9) (w : World) : Calls Try.prog 33 #[.agg #[.int .i64 x.f0, .int .i64 x.f1, .int .i64 x.f2, .int .i64 x.f3, .int .i64 x.f4]] w (RPost (.int .i64 (dur x)) w) := by
  have H := Lib.hid (dur_max (x := x))
  have HB := Lib.hid (dur_bd h1 h2 h3 h4)
  obtain ⟨p, hp⟩ : ∃ p, x.f1 = p := ⟨_, rfl⟩
  obtain ⟨q, hq⟩ : ∃ q, x.f2 = q := ⟨_, rfl⟩
  rw [hp] at h1 h2
  rw [hq] at h3 h4
  have HP := Lib.hid (show 0 ≤ p ∧ p ≤ 9 ∧ 0 ≤ q ∧ q ≤ 9 from ⟨h1, h2, h3, h4⟩)
  have HV := Lib.hid (show dur x = (most p q - lo p q) * 4 by rw [H.out, hp, hq])
  clear h1 h2 h3 h4
  rw [hp, hq]
  go_enter Try.func33, Try.ntmps33
  go_wp2
  all_goals
    have h9 := HP.out
    go_ret
    exact rpost (wrd _ _ (by omega) (by omega) (by rw [HV.out]; unfold most lo; (repeat' split) <;> omega)) (al (Below.refl _ _))
theorem arr_impl (x : R) (h1 : 0 ≤ x.f1) (h2 : x.f1 ≤ 9) (h3 : 0 ≤ x.f2) (h4 : x.f2 ≤ 9) (h5 : 0 ≤ x.f3) (h6 : x.f3 ≤ 1440) (w : World) : Calls Try.prog 30 #[.agg #[.int .i64 x.f0, .int .i64 x.f1, .int .i64 x.f2, .int .i64 x.f3, .int .i64 x.f4]] w (RPost (.int .i64 (arr x)) w) := by
  have hd := dur_bd h1 h2 h3 h4
  have z1 : IntKind.i64.wrap (x.f3 + dur x) = x.f3 + dur x := IntWalk.i64_in _ (by omega)
  have HV := Lib.hid (show arr x = x.f3 + dur x from rfl)
  clear hd
  go_enter Try.func30, Try.ntmps30
  go_wp2_with fail
  have X := Box.new (Below.refl _ w) [.int .i64 x.f0, .int .i64 x.f1, .int .i64 x.f2, .int .i64 x.f3, .int .i64 x.f4] 25 (g := w.heap.size) rfl
  generalize (w.alloc (.cells #[.int .i64 x.f0, .int .i64 x.f1, .int .i64 x.f2, .int .i64 x.f3, .int .i64 x.f4] 25)) = W1 at X ⊢
  have X_0 := X.cells 0 _ rfl
  have X_1 := X.cells 1 _ rfl
  have X_2 := X.cells 2 _ rfl
  have X_3 := X.cells 3 _ rfl
  have X_4 := X.cells 4 _ rfl
  have X_f0 := X.free 0 (by simp)
  have X_f1 := X.free 1 (by simp)
  have X_f2 := X.free 2 (by simp)
  have X_f3 := X.free 3 (by simp)
  have X_f4 := X.free 4 (by simp)
  have X_t := X.there
  refine wp_region_text (fun w' => Box (w.heap.size) [.int .i64 x.f0, .int .i64 x.f1, .int .i64 x.f2, .int .i64 x.f3, .int .i64 x.f4] w w') (by kernel_rfl) (by kernel_rfl) (X.drew) ?_
  clear X_0 X_1 X_2 X_3 X_4 X_f0 X_f1 X_f2 X_f3 X_f4 X_t
  iterate 6 (
    apply SeqH.one
    · intro uw K hS hK
      have qX := hS
      have qX_0 := qX.cells 0 _ rfl
      have qX_1 := qX.cells 1 _ rfl
      have qX_2 := qX.cells 2 _ rfl
      have qX_3 := qX.cells 3 _ rfl
      have qX_4 := qX.cells 4 _ rfl
      first
        | (go_simp; exact hK.out _ qX)
        | (go_simp; go_at_call 33; (with_reducible refine (dur_impl x h1 h2 h3 h4 _).mono ?_); rintro e uw1 ⟨rfl, hv⟩; go_wp2_with fail; exact hK.out _ (qX.more hv))
    try simp only [Act.put, List.setIfInBounds_toArray, List.set_cons_zero, List.set_cons_succ])
  refine SeqH.end' rfl ?_
  intro v2 hS
  clear X
  have X := hS; clear hS
  have X_0 := X.cells 0 _ rfl
  have X_1 := X.cells 1 _ rfl
  have X_2 := X.cells 2 _ rfl
  have X_3 := X.cells 3 _ rfl
  have X_4 := X.cells 4 _ rfl
  have X_f0 := X.free 0 (by simp)
  have X_f1 := X.free 1 (by simp)
  have X_f2 := X.free 2 (by simp)
  have X_f3 := X.free 3 (by simp)
  have X_f4 := X.free 4 (by simp)
  have X_t := X.there
  go_wp2
  go_ret
  exact rpost (by rw [HV.out] <;> rfl) X.below
theorem arr_spec (x : R) (h1 : 0 ≤ x.f1) (h2 : x.f1 ≤ 9) (h3 : 0 ≤ x.f2) (h4 : x.f2 ≤ 9) (h5 : 0 ≤ x.f3) (h6 : x.f3 ≤ 1440) (w : World) : Calls Try.prog 28 #[.agg #[.int .i64 x.f0, .int .i64 x.f1, .int .i64 x.f2, .int .i64 x.f3, .int .i64 x.f4]] w (RPost (.int .i64 (arr x)) w) := by
  have hd := dur_bd h1 h2 h3 h4
  have e1 : IntKind.i64.wrap (x.f1 - x.f2) = x.f1 - x.f2 := IntWalk.i64_in _ (by omega)
  have e2 : IntKind.i64.wrap (x.f2 - x.f1) = x.f2 - x.f1 := IntWalk.i64_in _ (by omega)
  have e3 : IntKind.i64.wrap (4 * most (x.f1 - x.f2) (x.f2 - x.f1)) = dur x := IntWalk.i64_in _ (by unfold dur at hd; omega)
  have z1 : IntKind.i64.wrap (x.f3 + dur x) = x.f3 + dur x := IntWalk.i64_in _ (by omega)
  have HV := Lib.hid (show arr x = x.f3 + dur x from rfl)
  clear hd h1 h2 h3 h4 h5 h6
  go_enter Try.func28, Try.ntmps28
  go_wp2_with fail
  have X := Box.new (Below.refl _ w) [.int .i64 x.f0, .int .i64 x.f1, .int .i64 x.f2, .int .i64 x.f3, .int .i64 x.f4] 25 (g := w.heap.size) rfl
  generalize (w.alloc (.cells #[.int .i64 x.f0, .int .i64 x.f1, .int .i64 x.f2, .int .i64 x.f3, .int .i64 x.f4] 25)) = W1 at X ⊢
  have X_0 := X.cells 0 _ rfl
  have X_1 := X.cells 1 _ rfl
  have X_2 := X.cells 2 _ rfl
  have X_3 := X.cells 3 _ rfl
  have X_4 := X.cells 4 _ rfl
  have X_f0 := X.free 0 (by simp)
  have X_f1 := X.free 1 (by simp)
  have X_f2 := X.free 2 (by simp)
  have X_f3 := X.free 3 (by simp)
  have X_f4 := X.free 4 (by simp)
  have X_t := X.there
  refine wp_region_text (fun w' => Box (w.heap.size) [.int .i64 x.f0, .int .i64 x.f1, .int .i64 x.f2, .int .i64 x.f3, .int .i64 x.f4] w w') (by kernel_rfl) (by kernel_rfl) (X.drew) ?_
  clear X_0 X_1 X_2 X_3 X_4 X_f0 X_f1 X_f2 X_f3 X_f4 X_t
  iterate 16 (
    apply SeqH.one
    · intro uw K hS hK
      have qX := hS
      have qX_0 := qX.cells 0 _ rfl
      have qX_1 := qX.cells 1 _ rfl
      have qX_2 := qX.cells 2 _ rfl
      have qX_3 := qX.cells 3 _ rfl
      have qX_4 := qX.cells 4 _ rfl
      first
        | (go_simp; exact hK.out _ qX)
        | (go_simp; go_at_call 51; (with_reducible refine (most_any _ _ _).mono ?_); rintro e _ ⟨rfl, rfl⟩; go_wp2_with fail; exact hK.out _ qX)
    try simp only [Act.put, List.setIfInBounds_toArray, List.set_cons_zero, List.set_cons_succ])
  refine SeqH.end' rfl ?_
  intro v2 hS
  clear X
  have X := hS; clear hS
  have X_0 := X.cells 0 _ rfl
  have X_1 := X.cells 1 _ rfl
  have X_2 := X.cells 2 _ rfl
  have X_3 := X.cells 3 _ rfl
  have X_4 := X.cells 4 _ rfl
  have X_f0 := X.free 0 (by simp)
  have X_f1 := X.free 1 (by simp)
  have X_f2 := X.free 2 (by simp)
  have X_f3 := X.free 3 (by simp)
  have X_f4 := X.free 4 (by simp)
  have X_t := X.there
  go_wp2
  go_ret
  exact rpost (by rw [HV.out] <;> rfl) X.below
set_option maxHeartbeats 800000 in
theorem one_spec (x : R) (w : World) : Calls Try.prog 27 #[.agg #[.int .i64 x.f0, .int .i64 x.f1, .int .i64 x.f2, .int .i64 x.f3, .int .i64 x.f4]] w (RPost (.bool (okT x)) w) := by
  have HG := Lib.hid (show okT x = (inB x.f0 1 99 && inB x.f1 0 9 && inB x.f2 0 9 && (x.f1 != x.f2) && inB x.f3 0 1440 && inB (arr x) 0 1440 && inB x.f4 0 8) from rfl)
  cases h0 : inB x.f0 1 99
  · go_enter Try.func27, Try.ntmps27
    go_wp2_with (first | (go_at_call 49; (with_reducible refine (in_any _ _ _ _).mono ?_); rintro e' w' ⟨rfl, rfl⟩) | (go_at_call 50; (with_reducible refine (stop_spec _ _).mono ?_); rintro e' w' ⟨rfl, rfl⟩) | (go_at_call 48; (with_reducible refine (min_spec _ _).mono ?_); rintro e' w' ⟨rfl, rfl⟩))
    go_ret
    exact rpost (by rw [HG.out, h0] <;> rfl) (al (Below.refl _ _))
  cases h1 : inB x.f1 0 9
  · go_enter Try.func27, Try.ntmps27
    go_wp2_with (first | (go_at_call 49; (with_reducible refine (in_any _ _ _ _).mono ?_); rintro e' w' ⟨rfl, rfl⟩) | (go_at_call 50; (with_reducible refine (stop_spec _ _).mono ?_); rintro e' w' ⟨rfl, rfl⟩) | (go_at_call 48; (with_reducible refine (min_spec _ _).mono ?_); rintro e' w' ⟨rfl, rfl⟩))
    go_ret
    exact rpost (by rw [HG.out, h0, h1] <;> rfl) (al (Below.refl _ _))
  cases h2 : inB x.f2 0 9
  · go_enter Try.func27, Try.ntmps27
    go_wp2_with (first | (go_at_call 49; (with_reducible refine (in_any _ _ _ _).mono ?_); rintro e' w' ⟨rfl, rfl⟩) | (go_at_call 50; (with_reducible refine (stop_spec _ _).mono ?_); rintro e' w' ⟨rfl, rfl⟩) | (go_at_call 48; (with_reducible refine (min_spec _ _).mono ?_); rintro e' w' ⟨rfl, rfl⟩))
    go_ret
    exact rpost (by rw [HG.out, h0, h1, h2] <;> rfl) (al (Below.refl _ _))
  cases h3 : (x.f1 != x.f2)
  · go_enter Try.func27, Try.ntmps27
    go_wp2_with (first | (go_at_call 49; (with_reducible refine (in_any _ _ _ _).mono ?_); rintro e' w' ⟨rfl, rfl⟩) | (go_at_call 50; (with_reducible refine (stop_spec _ _).mono ?_); rintro e' w' ⟨rfl, rfl⟩) | (go_at_call 48; (with_reducible refine (min_spec _ _).mono ?_); rintro e' w' ⟨rfl, rfl⟩))
    go_ret
    exact rpost (by rw [HG.out, h0, h1, h2, h3] <;> rfl) (al (Below.refl _ _))
  cases h4 : inB x.f3 0 1440
  · go_enter Try.func27, Try.ntmps27
    go_wp2_with (first | (go_at_call 49; (with_reducible refine (in_any _ _ _ _).mono ?_); rintro e' w' ⟨rfl, rfl⟩) | (go_at_call 50; (with_reducible refine (stop_spec _ _).mono ?_); rintro e' w' ⟨rfl, rfl⟩) | (go_at_call 48; (with_reducible refine (min_spec _ _).mono ?_); rintro e' w' ⟨rfl, rfl⟩))
    go_ret
    exact rpost (by rw [HG.out, h0, h1, h2, h3, h4] <;> rfl) (al (Below.refl _ _))
  have i1 := of_inB h1; have i2 := of_inB h2; have i4 := of_inB h4
  go_enter Try.func27, Try.ntmps27
  go_wp2_with (first | (go_at_call 49; (with_reducible refine (in_any _ _ _ _).mono ?_); rintro e' w' ⟨rfl, rfl⟩) | (go_at_call 50; (with_reducible refine (stop_spec _ _).mono ?_); rintro e' w' ⟨rfl, rfl⟩) | (go_at_call 48; (with_reducible refine (min_spec _ _).mono ?_); rintro e' w' ⟨rfl, rfl⟩))
  have X := Box.new (Below.refl _ w) [.int .i64 x.f0, .int .i64 x.f1, .int .i64 x.f2, .int .i64 x.f3, .int .i64 x.f4] 25 (g := w.heap.size) rfl
  generalize (w.alloc (.cells #[.int .i64 x.f0, .int .i64 x.f1, .int .i64 x.f2, .int .i64 x.f3, .int .i64 x.f4] 25)) = W1 at X ⊢
  have X_0 := X.cells 0 _ rfl
  have X_1 := X.cells 1 _ rfl
  have X_2 := X.cells 2 _ rfl
  have X_3 := X.cells 3 _ rfl
  have X_4 := X.cells 4 _ rfl
  have X_f0 := X.free 0 (by simp)
  have X_f1 := X.free 1 (by simp)
  have X_f2 := X.free 2 (by simp)
  have X_f3 := X.free 3 (by simp)
  have X_f4 := X.free 4 (by simp)
  have X_t := X.there
  refine (arr_spec x i1.1 i1.2 i2.1 i2.2 i4.1 i4.2 _).mono ?_
  rintro e w1 ⟨rfl, hv⟩
  clear X_0 X_1 X_2 X_3 X_4 X_f0 X_f1 X_f2 X_f3 X_f4 X_t
  replace X := X.more hv
  clear hv
  have X_0 := X.cells 0 _ rfl
  have X_1 := X.cells 1 _ rfl
  have X_2 := X.cells 2 _ rfl
  have X_3 := X.cells 3 _ rfl
  have X_4 := X.cells 4 _ rfl
  have X_f0 := X.free 0 (by simp)
  have X_f1 := X.free 1 (by simp)
  have X_f2 := X.free 2 (by simp)
  have X_f3 := X.free 3 (by simp)
  have X_f4 := X.free 4 (by simp)
  have X_t := X.there
  cases h5 : inB (arr x) 0 1440
  · go_wp2_with (first | (go_at_call 49; (with_reducible refine (in_any _ _ _ _).mono ?_); rintro e' w' ⟨rfl, rfl⟩) | (go_at_call 50; (with_reducible refine (stop_spec _ _).mono ?_); rintro e' w' ⟨rfl, rfl⟩) | (go_at_call 48; (with_reducible refine (min_spec _ _).mono ?_); rintro e' w' ⟨rfl, rfl⟩))
    go_ret
    exact rpost (by rw [HG.out, h0, h1, h2, h3, h4, h5] <;> rfl) X.below
  · go_wp2_with (first | (go_at_call 49; (with_reducible refine (in_any _ _ _ _).mono ?_); rintro e' w' ⟨rfl, rfl⟩) | (go_at_call 50; (with_reducible refine (stop_spec _ _).mono ?_); rintro e' w' ⟨rfl, rfl⟩) | (go_at_call 48; (with_reducible refine (min_spec _ _).mono ?_); rintro e' w' ⟨rfl, rfl⟩))
    go_ret
    exact rpost (by rw [HG.out, h0, h1, h2, h3, h4, h5] <;> rfl) X.below
set_option maxHeartbeats 800000 in
theorem one_impl (x : R) (w : World) : Calls Try.prog 11 #[.agg #[.int .i64 x.f0, .int .i64 x.f1, .int .i64 x.f2, .int .i64 x.f3, .int .i64 x.f4]] w (RPost (.bool (okT x)) w) := by
  have HG := Lib.hid (show okT x = (inB x.f0 1 99 && inB x.f1 0 9 && inB x.f2 0 9 && (x.f1 != x.f2) && inB x.f3 0 1440 && inB (arr x) 0 1440 && inB x.f4 0 8) from rfl)
  cases h0 : inB x.f0 1 99
  · go_enter Try.func11, Try.ntmps11
    go_wp2_with (first | (go_at_call 31; (with_reducible refine (within_any _ _ _ _).mono ?_); rintro e' w' ⟨rfl, rfl⟩) | (go_at_call 32; (with_reducible refine (stop_impl _ _).mono ?_); rintro e' w' ⟨rfl, rfl⟩))
    go_ret
    exact rpost (by rw [HG.out, h0] <;> rfl) (al (Below.refl _ _))
  cases h1 : inB x.f1 0 9
  · go_enter Try.func11, Try.ntmps11
    go_wp2_with (first | (go_at_call 31; (with_reducible refine (within_any _ _ _ _).mono ?_); rintro e' w' ⟨rfl, rfl⟩) | (go_at_call 32; (with_reducible refine (stop_impl _ _).mono ?_); rintro e' w' ⟨rfl, rfl⟩))
    go_ret
    exact rpost (by rw [HG.out, h0, h1] <;> rfl) (al (Below.refl _ _))
  cases h2 : inB x.f2 0 9
  · go_enter Try.func11, Try.ntmps11
    go_wp2_with (first | (go_at_call 31; (with_reducible refine (within_any _ _ _ _).mono ?_); rintro e' w' ⟨rfl, rfl⟩) | (go_at_call 32; (with_reducible refine (stop_impl _ _).mono ?_); rintro e' w' ⟨rfl, rfl⟩))
    go_ret
    exact rpost (by rw [HG.out, h0, h1, h2] <;> rfl) (al (Below.refl _ _))
  have HI := Lib.hid (okT_impl h1 h2)
  cases h3 : (x.f1 != x.f2)
  · have h3' : (x.f1 == x.f2) = true := by simpa using h3
    go_enter Try.func11, Try.ntmps11
    go_wp2_with (first | (go_at_call 31; (with_reducible refine (within_any _ _ _ _).mono ?_); rintro e' w' ⟨rfl, rfl⟩) | (go_at_call 32; (with_reducible refine (stop_impl _ _).mono ?_); rintro e' w' ⟨rfl, rfl⟩))
    go_ret
    exact rpost (by rw [HI.out, h0, h3] <;> rfl) (al (Below.refl _ _))
  have h3' : (x.f1 == x.f2) = false := by simpa using h3
  have i1 := of_inB h1; have i2 := of_inB h2
  have hd := dur_bd i1.1 i1.2 i2.1 i2.2
  have z1 : IntKind.i64.wrap (1440 - dur x) = 1440 - dur x := IntWalk.i64_in _ (by omega)
  clear hd
  cases h4 : inB x.f4 0 8
  · go_enter Try.func11, Try.ntmps11
    go_wp2_with (first | (go_at_call 31; (with_reducible refine (within_any _ _ _ _).mono ?_); rintro e' w' ⟨rfl, rfl⟩) | (go_at_call 32; (with_reducible refine (stop_impl _ _).mono ?_); rintro e' w' ⟨rfl, rfl⟩))
    have X := Box.new (Below.refl _ w) [.int .i64 x.f0, .int .i64 x.f1, .int .i64 x.f2, .int .i64 x.f3, .int .i64 x.f4] 25 (g := w.heap.size) rfl
    generalize (w.alloc (.cells #[.int .i64 x.f0, .int .i64 x.f1, .int .i64 x.f2, .int .i64 x.f3, .int .i64 x.f4] 25)) = W1 at X ⊢
    have X_0 := X.cells 0 _ rfl
    have X_1 := X.cells 1 _ rfl
    have X_2 := X.cells 2 _ rfl
    have X_3 := X.cells 3 _ rfl
    have X_4 := X.cells 4 _ rfl
    have X_f0 := X.free 0 (by simp)
    have X_f1 := X.free 1 (by simp)
    have X_f2 := X.free 2 (by simp)
    have X_f3 := X.free 3 (by simp)
    have X_f4 := X.free 4 (by simp)
    have X_t := X.there
    refine wp_region_text (fun w' => Box (w.heap.size) [.int .i64 x.f0, .int .i64 x.f1, .int .i64 x.f2, .int .i64 x.f3, .int .i64 x.f4] w w') (by kernel_rfl) (by kernel_rfl) (X.drew) ?_
    clear X_0 X_1 X_2 X_3 X_4 X_f0 X_f1 X_f2 X_f3 X_f4 X_t
    iterate 12 (
      apply SeqH.one
      · intro uw K hS hK
        have qX := hS
        have qX_0 := qX.cells 0 _ rfl
        have qX_1 := qX.cells 1 _ rfl
        have qX_2 := qX.cells 2 _ rfl
        have qX_3 := qX.cells 3 _ rfl
        have qX_4 := qX.cells 4 _ rfl
        first
          | (go_simp; exact hK.out _ qX)
          | (go_simp; go_at_call 31; (with_reducible refine (within_any _ _ _ _).mono ?_); rintro e _ ⟨rfl, rfl⟩; go_wp2_with fail; exact hK.out _ qX)
          | (go_simp; go_at_call 33; (with_reducible refine (dur_impl x i1.1 i1.2 i2.1 i2.2 _).mono ?_); rintro e uw1 ⟨rfl, hv⟩; go_wp2_with fail; exact hK.out _ (qX.more hv))
      try simp only [Act.put, List.setIfInBounds_toArray, List.set_cons_zero, List.set_cons_succ])
    refine SeqH.end' rfl ?_
    intro v2 hS
    clear X
    have X := hS; clear hS
    have X_0 := X.cells 0 _ rfl
    have X_1 := X.cells 1 _ rfl
    have X_2 := X.cells 2 _ rfl
    have X_3 := X.cells 3 _ rfl
    have X_4 := X.cells 4 _ rfl
    have X_f0 := X.free 0 (by simp)
    have X_f1 := X.free 1 (by simp)
    have X_f2 := X.free 2 (by simp)
    have X_f3 := X.free 3 (by simp)
    have X_f4 := X.free 4 (by simp)
    have X_t := X.there
    go_wp2
    go_ret
    exact rpost (by rw [HI.out, h0, h3, h4] <;> rfl) X.below
  · go_enter Try.func11, Try.ntmps11
    go_wp2_with (first | (go_at_call 31; (with_reducible refine (within_any _ _ _ _).mono ?_); rintro e' w' ⟨rfl, rfl⟩) | (go_at_call 32; (with_reducible refine (stop_impl _ _).mono ?_); rintro e' w' ⟨rfl, rfl⟩))
    have X := Box.new (Below.refl _ w) [.int .i64 x.f0, .int .i64 x.f1, .int .i64 x.f2, .int .i64 x.f3, .int .i64 x.f4] 25 (g := w.heap.size) rfl
    generalize (w.alloc (.cells #[.int .i64 x.f0, .int .i64 x.f1, .int .i64 x.f2, .int .i64 x.f3, .int .i64 x.f4] 25)) = W1 at X ⊢
    have X_0 := X.cells 0 _ rfl
    have X_1 := X.cells 1 _ rfl
    have X_2 := X.cells 2 _ rfl
    have X_3 := X.cells 3 _ rfl
    have X_4 := X.cells 4 _ rfl
    have X_f0 := X.free 0 (by simp)
    have X_f1 := X.free 1 (by simp)
    have X_f2 := X.free 2 (by simp)
    have X_f3 := X.free 3 (by simp)
    have X_f4 := X.free 4 (by simp)
    have X_t := X.there
    refine wp_region_text (fun w' => Box (w.heap.size) [.int .i64 x.f0, .int .i64 x.f1, .int .i64 x.f2, .int .i64 x.f3, .int .i64 x.f4] w w') (by kernel_rfl) (by kernel_rfl) (X.drew) ?_
    clear X_0 X_1 X_2 X_3 X_4 X_f0 X_f1 X_f2 X_f3 X_f4 X_t
    iterate 12 (
      apply SeqH.one
      · intro uw K hS hK
        have qX := hS
        have qX_0 := qX.cells 0 _ rfl
        have qX_1 := qX.cells 1 _ rfl
        have qX_2 := qX.cells 2 _ rfl
        have qX_3 := qX.cells 3 _ rfl
        have qX_4 := qX.cells 4 _ rfl
        first
          | (go_simp; exact hK.out _ qX)
          | (go_simp; go_at_call 31; (with_reducible refine (within_any _ _ _ _).mono ?_); rintro e _ ⟨rfl, rfl⟩; go_wp2_with fail; exact hK.out _ qX)
          | (go_simp; go_at_call 33; (with_reducible refine (dur_impl x i1.1 i1.2 i2.1 i2.2 _).mono ?_); rintro e uw1 ⟨rfl, hv⟩; go_wp2_with fail; exact hK.out _ (qX.more hv))
      try simp only [Act.put, List.setIfInBounds_toArray, List.set_cons_zero, List.set_cons_succ])
    refine SeqH.end' rfl ?_
    intro v2 hS
    clear X
    have X := hS; clear hS
    have X_0 := X.cells 0 _ rfl
    have X_1 := X.cells 1 _ rfl
    have X_2 := X.cells 2 _ rfl
    have X_3 := X.cells 3 _ rfl
    have X_4 := X.cells 4 _ rfl
    have X_f0 := X.free 0 (by simp)
    have X_f1 := X.free 1 (by simp)
    have X_f2 := X.free 2 (by simp)
    have X_f3 := X.free 3 (by simp)
    have X_f4 := X.free 4 (by simp)
    have X_t := X.there
    go_wp2
    go_ret
    exact rpost (by rw [HI.out, h0, h3, h4] <;> rfl) X.below
set_option maxHeartbeats 800000 in
theorem ent_spec (x : R) (s : Int) (hx : okT x = true) (hs0 : 0 ≤ s) (hs1 : s ≤ 9) (w : World) : Calls Try.prog 29 #[.agg #[.int .i64 x.f0, .int .i64 x.f1, .int .i64 x.f2, .int .i64 x.f3, .int .i64 x.f4], .int .i64 s] w (RPost (.int .i64 (ent x s)) w) := by
  obtain ⟨a0, a1, a2, a3, a4, a5, a6, a7, a8, a9, a10, a11, a12⟩ := okT_true hx
  have HE := Lib.hid (show ent x s = if x.f1 ≤ s ∧ s < x.f2 then x.f3 + 4 * (s - x.f1) else if x.f2 ≤ s ∧ s < x.f1 then x.f3 + 4 * (x.f1 - 1 - s) else -1 from rfl)
  have z1 : IntKind.i64.wrap (s - x.f1) = s - x.f1 := IntWalk.i64_in _ (by omega)
  have z2 : IntKind.i64.wrap (4 * (s - x.f1)) = 4 * (s - x.f1) := IntWalk.i64_in _ (by omega)
  have z3 : IntKind.i64.wrap (x.f3 + 4 * (s - x.f1)) = x.f3 + 4 * (s - x.f1) := IntWalk.i64_in _ (by omega)
  have z4 : IntKind.i64.wrap (x.f1 - 1) = x.f1 - 1 := IntWalk.i64_in _ (by omega)
  have z5 : IntKind.i64.wrap (x.f1 - 1 - s) = x.f1 - 1 - s := IntWalk.i64_in _ (by omega)
  have z6 : IntKind.i64.wrap (4 * (x.f1 - 1 - s)) = 4 * (x.f1 - 1 - s) := IntWalk.i64_in _ (by omega)
  have z7 : IntKind.i64.wrap (x.f3 + 4 * (x.f1 - 1 - s)) = x.f3 + 4 * (x.f1 - 1 - s) := IntWalk.i64_in _ (by omega)
  clear hx a0 a1 a2 a3 a4 a5 a6 a7 a8 a9 a10 a11 a12 hs0 hs1
  have K : ∀ p q r t : Bool, decide (x.f1 ≤ s) = p → decide (s < x.f2) = q → decide (x.f2 ≤ s) = r → decide (s < x.f1) = t → ent x s = if (p && q) = true then x.f3 + 4 * (s - x.f1) else if (r && t) = true then x.f3 + 4 * (x.f1 - 1 - s) else -1 := by
    intro p q r t h1 h2 h3 h4
    subst h1; subst h2; subst h3; subst h4
    rw [HE.out]; simp only [Bool.and_eq_true, decide_eq_true_eq]
  cases h1 : decide (x.f1 ≤ s)
  all_goals cases h2 : decide (s < x.f2)
  all_goals cases h3 : decide (x.f2 ≤ s)
  all_goals cases h4 : decide (s < x.f1)
  all_goals
    have HV := Lib.hid (K _ _ _ _ h1 h2 h3 h4)
    clear K
    go_enter Try.func29, Try.ntmps29
    go_wp2
    go_ret
    exact rpost (by rw [HV.out] <;> rfl) (al (Below.refl _ _))
end Go.Proofs.Ytknlgdahcfgbeaa.TripS

