/- Trips: what the model says of any small trips; the draw of a trip. Made by tools/mk_dtrip0.py. -/
import Derived.Test.YtknlgdahcfgbeaaTripM
import Derived.Lib.SliceRun
namespace Go.Proofs.Ytknlgdahcfgbeaa.DTrip0
open Go.RowKit Go.Proofs.Ytknlgdahcfgbeaa.Mem Go.Proofs.Ytknlgdahcfgbeaa.Base Go.Proofs.Ytknlgdahcfgbeaa.Within Go.Proofs.Ytknlgdahcfgbeaa.STrip Go.Proofs.Ytknlgdahcfgbeaa.Regn Go.Proofs.Ytknlgdahcfgbeaa.Boxes Go.Proofs.Ytknlgdahcfgbeaa.Keep Go.Proofs.Ytknlgdahcfgbeaa.TripP Go.Proofs.Ytknlgdahcfgbeaa.TripS Go.Proofs.Ytknlgdahcfgbeaa.TripC Go.Proofs.Ytknlgdahcfgbeaa.TripM
set_option linter.unusedVariables false
set_option linter.unusedSimpArgs false
set_option maxRecDepth 100000
/-- small numbers alone. -/
def Sm (x : R) : Prop := -10 ≤ x.f0 ∧ x.f0 ≤ 2000 ∧ -10 ≤ x.f1 ∧ x.f1 ≤ 2000 ∧ -10 ≤ x.f2 ∧ x.f2 ≤ 2000 ∧ -10 ≤ x.f3 ∧ x.f3 ≤ 2000 ∧ -10 ≤ x.f4 ∧ x.f4 ≤ 2000
theorem sm_arr {x : R} (h : Sm x) : -20000 ≤ arr x ∧ arr x ≤ 20000 ∧ -20000 ≤ dur x ∧ dur x ≤ 20000 := by
  obtain ⟨_, _, a2, a3, a4, a5, a6, a7, _, _⟩ := h
  unfold arr dur most; split <;> omega
theorem sm_ent {x : R} (h : Sm x) (s : Int) (h0 : 0 ≤ s) (h1 : s ≤ 9) : -20000 ≤ ent x s ∧ ent x s ≤ 20000 := by
  obtain ⟨_, _, a2, a3, a4, a5, a6, a7, _, _⟩ := h
  unfold ent; split
  · omega
  · split <;> omega
def QPost (w : World) (e : Ending) (w' : World) : Prop := ∃ q : Bool, e = .returned (.bool q) ∧ Below w.heap.size w w'
theorem arr_any (x : R) (h : Sm x) (w : World) : Calls Try.prog 28 #[.agg #[.int .i64 x.f0, .int .i64 x.f1, .int .i64 x.f2, .int .i64 x.f3, .int .i64 x.f4]] w (RPost (.int .i64 (arr x)) w) := by
  obtain ⟨_, _, hd0, hd1⟩ := sm_arr h
  obtain ⟨_, _, a2, a3, a4, a5, a6, a7, _, _⟩ := h
  have e1 : IntKind.i64.wrap (x.f1 - x.f2) = x.f1 - x.f2 := IntWalk.i64_in _ (by omega)
  have e2 : IntKind.i64.wrap (x.f2 - x.f1) = x.f2 - x.f1 := IntWalk.i64_in _ (by omega)
  have e3 : IntKind.i64.wrap (4 * most (x.f1 - x.f2) (x.f2 - x.f1)) = dur x := IntWalk.i64_in _ (by unfold dur at hd0 hd1; omega)
  have z1 : IntKind.i64.wrap (x.f3 + dur x) = x.f3 + dur x := IntWalk.i64_in _ (by omega)
  have HV := Lib.hid (show arr x = x.f3 + dur x from rfl)
  clear hd0 hd1 a2 a3 a4 a5 a6 a7
  go_enter Try.func28, Try.ntmps28
  go_wp2_with fail
  have X := Box.new (Below.refl _ w) [.int .i64 x.f0, .int .i64 x.f1, .int .i64 x.f2, .int .i64 x.f3, .int .i64 x.f4] 25 (g := w.heap.size) rfl
  generalize (w.alloc (.cells #[.int .i64 x.f0, .int .i64 x.f1, .int .i64 x.f2, .int .i64 x.f3, .int .i64 x.f4] 25)) = W1 at X ⊢
  have X_0 := X.cells 0 _ rfl
  have X_1 := X.cells 1 _ rfl
  have X_2 := X.cells 2 _ rfl
  have X_3 := X.cells 3 _ rfl
  have X_4 := X.cells 4 _ rfl
  have X_f0 := X.free 0 (by simp)
  have X_f1 := X.free 1 (by simp)
  have X_f2 := X.free 2 (by simp)
  have X_f3 := X.free 3 (by simp)
  have X_f4 := X.free 4 (by simp)
  have X_t := X.there
  refine wp_region_text (fun w' => Box (w.heap.size) [.int .i64 x.f0, .int .i64 x.f1, .int .i64 x.f2, .int .i64 x.f3, .int .i64 x.f4] w w') (by kernel_rfl) (by kernel_rfl) (X.drew) ?_
  clear X_0 X_1 X_2 X_3 X_4 X_f0 X_f1 X_f2 X_f3 X_f4 X_t
  iterate 16 (
    apply SeqH.one
    · intro uw K hS hK
      have qX := hS
      have qX_0 := qX.cells 0 _ rfl
      have qX_1 := qX.cells 1 _ rfl
      have qX_2 := qX.cells 2 _ rfl
      have qX_3 := qX.cells 3 _ rfl
      have qX_4 := qX.cells 4 _ rfl
      first
        | (go_simp; exact hK.out _ qX)
        | (go_simp; go_at_call 51; (with_reducible refine (most_any _ _ _).mono ?_); rintro e _ ⟨rfl, rfl⟩; go_wp2_with fail; exact hK.out _ qX)
    try simp only [Act.put, List.setIfInBounds_toArray, List.set_cons_zero, List.set_cons_succ])
  refine SeqH.end' rfl ?_
  intro v2 hS
  clear X
  have X := hS; clear hS
  have X_0 := X.cells 0 _ rfl
  have X_1 := X.cells 1 _ rfl
  have X_2 := X.cells 2 _ rfl
  have X_3 := X.cells 3 _ rfl
  have X_4 := X.cells 4 _ rfl
  have X_f0 := X.free 0 (by simp)
  have X_f1 := X.free 1 (by simp)
  have X_f2 := X.free 2 (by simp)
  have X_f3 := X.free 3 (by simp)
  have X_f4 := X.free 4 (by simp)
  have X_t := X.there
  go_wp2
  go_ret
  exact rpost (by rw [HV.out] <;> rfl) X.below
set_option maxHeartbeats 800000 in
theorem ent_any (x : R) (s : Int) (hx : Sm x) (hs0 : 0 ≤ s) (hs1 : s ≤ 9) (w : World) : Calls Try.prog 29 #[.agg #[.int .i64 x.f0, .int .i64 x.f1, .int .i64 x.f2, .int .i64 x.f3, .int .i64 x.f4], .int .i64 s] w (RPost (.int .i64 (ent x s)) w) := by
  obtain ⟨_, _, a2, a3, a4, a5, a6, a7, _, _⟩ := hx
  have HE := Lib.hid (show ent x s = if x.f1 ≤ s ∧ s < x.f2 then x.f3 + 4 * (s - x.f1) else if x.f2 ≤ s ∧ s < x.f1 then x.f3 + 4 * (x.f1 - 1 - s) else -1 from rfl)
  have z1 : IntKind.i64.wrap (s - x.f1) = s - x.f1 := IntWalk.i64_in _ (by omega)
  have z2 : IntKind.i64.wrap (4 * (s - x.f1)) = 4 * (s - x.f1) := IntWalk.i64_in _ (by omega)
  have z3 : IntKind.i64.wrap (x.f3 + 4 * (s - x.f1)) = x.f3 + 4 * (s - x.f1) := IntWalk.i64_in _ (by omega)
  have z4 : IntKind.i64.wrap (x.f1 - 1) = x.f1 - 1 := IntWalk.i64_in _ (by omega)
  have z5 : IntKind.i64.wrap (x.f1 - 1 - s) = x.f1 - 1 - s := IntWalk.i64_in _ (by omega)
  have z6 : IntKind.i64.wrap (4 * (x.f1 - 1 - s)) = 4 * (x.f1 - 1 - s) := IntWalk.i64_in _ (by omega)
  have z7 : IntKind.i64.wrap (x.f3 + 4 * (x.f1 - 1 - s)) = x.f3 + 4 * (x.f1 - 1 - s) := IntWalk.i64_in _ (by omega)
  clear a2 a3 a4 a5 a6 a7 hs0 hs1
  have K : ∀ p q r t : Bool, decide (x.f1 ≤ s) = p → decide (s < x.f2) = q → decide (x.f2 ≤ s) = r → decide (s < x.f1) = t → ent x s = if (p && q) = true then x.f3 + 4 * (s - x.f1) else if (r && t) = true then x.f3 + 4 * (x.f1 - 1 - s) else -1 := by
    intro p q r t h1 h2 h3 h4
    subst h1; subst h2; subst h3; subst h4
    rw [HE.out]; simp only [Bool.and_eq_true, decide_eq_true_eq]
  cases h1 : decide (x.f1 ≤ s)
  all_goals cases h2 : decide (s < x.f2)
  all_goals cases h3 : decide (x.f2 ≤ s)
  all_goals cases h4 : decide (s < x.f1)
  all_goals
    have HV := Lib.hid (K _ _ _ _ h1 h2 h3 h4)
    clear K
    go_enter Try.func29, Try.ntmps29
    go_wp2
    go_ret
    exact rpost (by rw [HV.out] <;> rfl) (al (Below.refl _ _))
set_option maxHeartbeats 4000000 in
theorem meet_any (x y : R) (hx : Sm x) (hy : Sm y) (w : World) : Calls Try.prog 56 #[.agg #[.int .i64 x.f0, .int .i64 x.f1, .int .i64 x.f2, .int .i64 x.f3, .int .i64 x.f4], .agg #[.int .i64 y.f0, .int .i64 y.f1, .int .i64 y.f2, .int .i64 y.f3, .int .i64 y.f4]] w (RPost (.bool (meetB x y)) w) := by
  have HAX := Lib.hid (fun W => arr_any x hx W)
  have HAY := Lib.hid (fun W => arr_any y hy W)
  have HOX := Lib.hid hx
  have HOY := Lib.hid hy
  clear hx hy
  go_enter Try.func56, Try.ntmps56
  go_wp2_with fail
  have X := (Box.new (Below.refl _ w) [.int .i64 x.f0, .int .i64 x.f1, .int .i64 x.f2, .int .i64 x.f3, .int .i64 x.f4] 25 (g := w.heap.size) rfl).alloc (.cells #[.int .i64 y.f0, .int .i64 y.f1, .int .i64 y.f2, .int .i64 y.f3, .int .i64 y.f4] 25)
  have Y := Box.new (al (Below.refl _ w) (o := (.cells #[.int .i64 x.f0, .int .i64 x.f1, .int .i64 x.f2, .int .i64 x.f3, .int .i64 x.f4] 25))) [.int .i64 y.f0, .int .i64 y.f1, .int .i64 y.f2, .int .i64 y.f3, .int .i64 y.f4] 25 (g := w.heap.size + 1) (by simp only [size_alloc'])
  generalize ((w.alloc (.cells #[.int .i64 x.f0, .int .i64 x.f1, .int .i64 x.f2, .int .i64 x.f3, .int .i64 x.f4] 25)).alloc (.cells #[.int .i64 y.f0, .int .i64 y.f1, .int .i64 y.f2, .int .i64 y.f3, .int .i64 y.f4] 25)) = W1 at X Y ⊢
  have X_0 := X.cells 0 _ rfl
  have X_1 := X.cells 1 _ rfl
  have X_2 := X.cells 2 _ rfl
  have X_3 := X.cells 3 _ rfl
  have X_4 := X.cells 4 _ rfl
  have X_f0 := X.free 0 (by simp)
  have X_f1 := X.free 1 (by simp)
  have X_f2 := X.free 2 (by simp)
  have X_f3 := X.free 3 (by simp)
  have X_f4 := X.free 4 (by simp)
  have X_t := X.there
  have Y_0 := Y.cells 0 _ rfl
  have Y_1 := Y.cells 1 _ rfl
  have Y_2 := Y.cells 2 _ rfl
  have Y_3 := Y.cells 3 _ rfl
  have Y_4 := Y.cells 4 _ rfl
  have Y_f0 := Y.free 0 (by simp)
  have Y_f1 := Y.free 1 (by simp)
  have Y_f2 := Y.free 2 (by simp)
  have Y_f3 := Y.free 3 (by simp)
  have Y_f4 := Y.free 4 (by simp)
  have Y_t := Y.there
  clear X_0 X_1 X_2 X_3 X_4 X_f0 X_f1 X_f2 X_f3 X_f4 X_t
  clear Y_0 Y_1 Y_2 Y_3 Y_4 Y_f0 Y_f1 Y_f2 Y_f3 Y_f4 Y_t
  go_loopw [5] (fun i wr => ∃ k : Nat, k ≤ 9 ∧ i = .int .i64 k ∧ Hid (Apart x y k) ∧ Box w.heap.size [.int .i64 x.f0, .int .i64 x.f1, .int .i64 x.f2, .int .i64 x.f3, .int .i64 x.f4] w wr ∧ Box (w.heap.size + 1) [.int .i64 y.f0, .int .i64 y.f1, .int .i64 y.f2, .int .i64 y.f3, .int .i64 y.f4] w wr) (fun i _ => 9 - (intOf i).toNat)
  case atStart => exact ⟨0, Nat.zero_le _, rfl, Lib.hid (fun s hs => by omega), X, Y⟩
  case round =>
    clear X Y
    obtain ⟨k, hk, rfl, HA, X, Y⟩ := hrel
    by_cases hlt : k < 9
    · obtain ⟨m, hm⟩ : ∃ m, ent x k = m := ⟨_, rfl⟩
      obtain ⟨n, hn⟩ : ∃ n, ent y k = n := ⟨_, rfl⟩
      have bm := sm_ent HOX.out (k : Int) (by omega) (by omega)
      have bn := sm_ent HOY.out (k : Int) (by omega) (by omega)
      rw [hm] at bm
      rw [hn] at bn
      have HS := Lib.hid (onS_is hm hn)
      have HM := Lib.hid hm
      have HN := Lib.hid hn
      have HCX := Lib.hid (fun W => ent_any x k HOX.out (by omega) (by omega) W)
      have HCY := Lib.hid (fun W => ent_any y k HOY.out (by omega) (by omega) W)
      have y1 : IntKind.i64.wrap (n + 4) = n + 4 := IntWalk.i64_in _ (by omega)
      have y2 : IntKind.i64.wrap (m + 4) = m + 4 := IntWalk.i64_in _ (by omega)
      have HL := Lib.hid hlt
      clear hm hn bm bn
      have X_0 := X.cells 0 _ rfl
      have X_1 := X.cells 1 _ rfl
      have X_2 := X.cells 2 _ rfl
      have X_3 := X.cells 3 _ rfl
      have X_4 := X.cells 4 _ rfl
      have X_f0 := X.free 0 (by simp)
      have X_f1 := X.free 1 (by simp)
      have X_f2 := X.free 2 (by simp)
      have X_f3 := X.free 3 (by simp)
      have X_f4 := X.free 4 (by simp)
      have X_t := X.there
      have Y_0 := Y.cells 0 _ rfl
      have Y_1 := Y.cells 1 _ rfl
      have Y_2 := Y.cells 2 _ rfl
      have Y_3 := Y.cells 3 _ rfl
      have Y_4 := Y.cells 4 _ rfl
      have Y_f0 := Y.free 0 (by simp)
      have Y_f1 := Y.free 1 (by simp)
      have Y_f2 := Y.free 2 (by simp)
      have Y_f3 := Y.free 3 (by simp)
      have Y_f4 := Y.free 4 (by simp)
      have Y_t := Y.there
      go_wp2_with fail
      refine wp_region_text (fun w' => Box (w.heap.size) [.int .i64 x.f0, .int .i64 x.f1, .int .i64 x.f2, .int .i64 x.f3, .int .i64 x.f4] w w' ∧ Box ((w.heap.size + 1)) [.int .i64 y.f0, .int .i64 y.f1, .int .i64 y.f2, .int .i64 y.f3, .int .i64 y.f4] w w') (by kernel_rfl) (by kernel_rfl) ⟨X.drew, Y.drew⟩ ?_
      clear X_0 X_1 X_2 X_3 X_4 X_f0 X_f1 X_f2 X_f3 X_f4 X_t
      clear Y_0 Y_1 Y_2 Y_3 Y_4 Y_f0 Y_f1 Y_f2 Y_f3 Y_f4 Y_t
      iterate 8 (
        apply SeqH.one
        · intro uw K hS hK
          obtain ⟨qX, qY⟩ := hS
          have qX_0 := qX.cells 0 _ rfl
          have qX_1 := qX.cells 1 _ rfl
          have qX_2 := qX.cells 2 _ rfl
          have qX_3 := qX.cells 3 _ rfl
          have qX_4 := qX.cells 4 _ rfl
          have qY_0 := qY.cells 0 _ rfl
          have qY_1 := qY.cells 1 _ rfl
          have qY_2 := qY.cells 2 _ rfl
          have qY_3 := qY.cells 3 _ rfl
          have qY_4 := qY.cells 4 _ rfl
          first
            | (go_simp; exact hK.out _ ⟨qX, qY⟩)
            | (go_simp; go_at_call 29; (with_reducible refine (HCX.out _).mono ?_); rintro e uw1 ⟨rfl, hv⟩; rw [HM.out]; go_wp2_with fail; exact hK.out _ ⟨qX.more hv, qY.more hv⟩)
            | (go_simp; go_at_call 29; (with_reducible refine (HCY.out _).mono ?_); rintro e uw1 ⟨rfl, hv⟩; rw [HN.out]; go_wp2_with fail; exact hK.out _ ⟨qX.more hv, qY.more hv⟩)
        try simp only [Act.put, List.setIfInBounds_toArray, List.set_cons_zero, List.set_cons_succ])
      refine SeqH.end' rfl ?_
      intro v2 hS
      clear X Y
      obtain ⟨X, Y⟩ := hS
      have X_0 := X.cells 0 _ rfl
      have X_1 := X.cells 1 _ rfl
      have X_2 := X.cells 2 _ rfl
      have X_3 := X.cells 3 _ rfl
      have X_4 := X.cells 4 _ rfl
      have X_f0 := X.free 0 (by simp)
      have X_f1 := X.free 1 (by simp)
      have X_f2 := X.free 2 (by simp)
      have X_f3 := X.free 3 (by simp)
      have X_f4 := X.free 4 (by simp)
      have X_t := X.there
      have Y_0 := Y.cells 0 _ rfl
      have Y_1 := Y.cells 1 _ rfl
      have Y_2 := Y.cells 2 _ rfl
      have Y_3 := Y.cells 3 _ rfl
      have Y_4 := Y.cells 4 _ rfl
      have Y_f0 := Y.free 0 (by simp)
      have Y_f1 := Y.free 1 (by simp)
      have Y_f2 := Y.free 2 (by simp)
      have Y_f3 := Y.free 3 (by simp)
      have Y_f4 := Y.free 4 (by simp)
      have Y_t := Y.there
      cases d1 : decide (0 ≤ m)
      · have HQ := Lib.hid (show onS x y (k : Int) = false by rw [HS.out, d1]; rfl)
        go_wp2
        go_roundw
        case rel => exact ⟨k + 1, HL.out, by go_num, Lib.hid (HA.out.next HQ.out), X, Y⟩
        case measure => have := HL.out; simp [intOf]; omega
      cases d2 : decide (0 ≤ n)
      · have HQ := Lib.hid (show onS x y (k : Int) = false by rw [HS.out, d1, d2]; rfl)
        go_wp2
        go_roundw
        case rel => exact ⟨k + 1, HL.out, by go_num, Lib.hid (HA.out.next HQ.out), X, Y⟩
        case measure => have := HL.out; simp [intOf]; omega
      cases d3 : decide (m < n + 4)
      · have HQ := Lib.hid (show onS x y (k : Int) = false by rw [HS.out, d1, d2, d3]; rfl)
        go_wp2
        go_roundw
        case rel => exact ⟨k + 1, HL.out, by go_num, Lib.hid (HA.out.next HQ.out), X, Y⟩
        case measure => have := HL.out; simp [intOf]; omega
      cases d4 : decide (n < m + 4)
      · have HQ := Lib.hid (show onS x y (k : Int) = false by rw [HS.out, d1, d2, d3, d4]; rfl)
        go_wp2
        go_roundw
        case rel => exact ⟨k + 1, HL.out, by go_num, Lib.hid (HA.out.next HQ.out), X, Y⟩
        case measure => have := HL.out; simp [intOf]; omega
      have HQ := Lib.hid (meet_on HL.out (show onS x y (k : Int) = true by rw [HS.out, d1, d2, d3, d4]; rfl))
      go_wp2
      go_ret
      exact rpost (by rw [HQ.out] <;> rfl) X.below
    · obtain rfl : k = 9 := by omega
      have HF := Lib.hid (meet_end HA.out)
      have X_0 := X.cells 0 _ rfl
      have X_1 := X.cells 1 _ rfl
      have X_2 := X.cells 2 _ rfl
      have X_3 := X.cells 3 _ rfl
      have X_4 := X.cells 4 _ rfl
      have X_f0 := X.free 0 (by simp)
      have X_f1 := X.free 1 (by simp)
      have X_f2 := X.free 2 (by simp)
      have X_f3 := X.free 3 (by simp)
      have X_f4 := X.free 4 (by simp)
      have X_t := X.there
      have Y_0 := Y.cells 0 _ rfl
      have Y_1 := Y.cells 1 _ rfl
      have Y_2 := Y.cells 2 _ rfl
      have Y_3 := Y.cells 3 _ rfl
      have Y_4 := Y.cells 4 _ rfl
      have Y_f0 := Y.free 0 (by simp)
      have Y_f1 := Y.free 1 (by simp)
      have Y_f2 := Y.free 2 (by simp)
      have Y_f3 := Y.free 3 (by simp)
      have Y_f4 := Y.free 4 (by simp)
      have Y_t := Y.there
      go_wp2_with fail
      cases g1 : (x.f1 == y.f1)
      · cases g3 : (x.f2 == y.f2)
        · have HQ := Lib.hid (show ends x y = false from by unfold ends; simp only [g1, g3, Bool.true_and, Bool.false_and, Bool.and_true, Bool.and_false, Bool.or_true, Bool.or_false, Bool.true_or, Bool.false_or])
          refine wp_region_text (fun w' => Box (w.heap.size) [.int .i64 x.f0, .int .i64 x.f1, .int .i64 x.f2, .int .i64 x.f3, .int .i64 x.f4] w w' ∧ Box ((w.heap.size + 1)) [.int .i64 y.f0, .int .i64 y.f1, .int .i64 y.f2, .int .i64 y.f3, .int .i64 y.f4] w w') (by kernel_rfl) (by kernel_rfl) ⟨X.drew, Y.drew⟩ ?_
          clear X_0 X_1 X_2 X_3 X_4 X_f0 X_f1 X_f2 X_f3 X_f4 X_t
          clear Y_0 Y_1 Y_2 Y_3 Y_4 Y_f0 Y_f1 Y_f2 Y_f3 Y_f4 Y_t
          iterate 27 (
            apply SeqH.one
            · intro uw K hS hK
              obtain ⟨qX, qY⟩ := hS
              have qX_0 := qX.cells 0 _ rfl
              have qX_1 := qX.cells 1 _ rfl
              have qX_2 := qX.cells 2 _ rfl
              have qX_3 := qX.cells 3 _ rfl
              have qX_4 := qX.cells 4 _ rfl
              have qY_0 := qY.cells 0 _ rfl
              have qY_1 := qY.cells 1 _ rfl
              have qY_2 := qY.cells 2 _ rfl
              have qY_3 := qY.cells 3 _ rfl
              have qY_4 := qY.cells 4 _ rfl
              first
                | (go_simp; exact hK.out _ ⟨qX, qY⟩)
                | (go_simp; go_at_call 28; (with_reducible refine (HAX.out _).mono ?_); rintro e uw1 ⟨rfl, hv⟩; go_wp2_with fail; exact hK.out _ ⟨qX.more hv, qY.more hv⟩)
                | (go_simp; go_at_call 28; (with_reducible refine (HAY.out _).mono ?_); rintro e uw1 ⟨rfl, hv⟩; go_wp2_with fail; exact hK.out _ ⟨qX.more hv, qY.more hv⟩)
            try simp only [Act.put, List.setIfInBounds_toArray, List.set_cons_zero, List.set_cons_succ])
          refine SeqH.end' rfl ?_
          intro v3 hS
          clear X Y
          obtain ⟨X, Y⟩ := hS
          have X_0 := X.cells 0 _ rfl
          have X_1 := X.cells 1 _ rfl
          have X_2 := X.cells 2 _ rfl
          have X_3 := X.cells 3 _ rfl
          have X_4 := X.cells 4 _ rfl
          have X_f0 := X.free 0 (by simp)
          have X_f1 := X.free 1 (by simp)
          have X_f2 := X.free 2 (by simp)
          have X_f3 := X.free 3 (by simp)
          have X_f4 := X.free 4 (by simp)
          have X_t := X.there
          have Y_0 := Y.cells 0 _ rfl
          have Y_1 := Y.cells 1 _ rfl
          have Y_2 := Y.cells 2 _ rfl
          have Y_3 := Y.cells 3 _ rfl
          have Y_4 := Y.cells 4 _ rfl
          have Y_f0 := Y.free 0 (by simp)
          have Y_f1 := Y.free 1 (by simp)
          have Y_f2 := Y.free 2 (by simp)
          have Y_f3 := Y.free 3 (by simp)
          have Y_f4 := Y.free 4 (by simp)
          have Y_t := Y.there
          go_wp2
          go_ret
          exact rpost (by rw [HF.out, HQ.out] <;> rfl) X.below
        cases g4 : (arr x == arr y)
        · have HQ := Lib.hid (show ends x y = false from by unfold ends; simp only [g1, g3, g4, Bool.true_and, Bool.false_and, Bool.and_true, Bool.and_false, Bool.or_true, Bool.or_false, Bool.true_or, Bool.false_or])
          refine wp_region_text (fun w' => Box (w.heap.size) [.int .i64 x.f0, .int .i64 x.f1, .int .i64 x.f2, .int .i64 x.f3, .int .i64 x.f4] w w' ∧ Box ((w.heap.size + 1)) [.int .i64 y.f0, .int .i64 y.f1, .int .i64 y.f2, .int .i64 y.f3, .int .i64 y.f4] w w') (by kernel_rfl) (by kernel_rfl) ⟨X.drew, Y.drew⟩ ?_
          clear X_0 X_1 X_2 X_3 X_4 X_f0 X_f1 X_f2 X_f3 X_f4 X_t
          clear Y_0 Y_1 Y_2 Y_3 Y_4 Y_f0 Y_f1 Y_f2 Y_f3 Y_f4 Y_t
          iterate 27 (
            apply SeqH.one
            · intro uw K hS hK
              obtain ⟨qX, qY⟩ := hS
              have qX_0 := qX.cells 0 _ rfl
              have qX_1 := qX.cells 1 _ rfl
              have qX_2 := qX.cells 2 _ rfl
              have qX_3 := qX.cells 3 _ rfl
              have qX_4 := qX.cells 4 _ rfl
              have qY_0 := qY.cells 0 _ rfl
              have qY_1 := qY.cells 1 _ rfl
              have qY_2 := qY.cells 2 _ rfl
              have qY_3 := qY.cells 3 _ rfl
              have qY_4 := qY.cells 4 _ rfl
              first
                | (go_simp; exact hK.out _ ⟨qX, qY⟩)
                | (go_simp; go_at_call 28; (with_reducible refine (HAX.out _).mono ?_); rintro e uw1 ⟨rfl, hv⟩; go_wp2_with fail; exact hK.out _ ⟨qX.more hv, qY.more hv⟩)
                | (go_simp; go_at_call 28; (with_reducible refine (HAY.out _).mono ?_); rintro e uw1 ⟨rfl, hv⟩; go_wp2_with fail; exact hK.out _ ⟨qX.more hv, qY.more hv⟩)
            try simp only [Act.put, List.setIfInBounds_toArray, List.set_cons_zero, List.set_cons_succ])
          refine SeqH.end' rfl ?_
          intro v4 hS
          clear X Y
          obtain ⟨X, Y⟩ := hS
          have X_0 := X.cells 0 _ rfl
          have X_1 := X.cells 1 _ rfl
          have X_2 := X.cells 2 _ rfl
          have X_3 := X.cells 3 _ rfl
          have X_4 := X.cells 4 _ rfl
          have X_f0 := X.free 0 (by simp)
          have X_f1 := X.free 1 (by simp)
          have X_f2 := X.free 2 (by simp)
          have X_f3 := X.free 3 (by simp)
          have X_f4 := X.free 4 (by simp)
          have X_t := X.there
          have Y_0 := Y.cells 0 _ rfl
          have Y_1 := Y.cells 1 _ rfl
          have Y_2 := Y.cells 2 _ rfl
          have Y_3 := Y.cells 3 _ rfl
          have Y_4 := Y.cells 4 _ rfl
          have Y_f0 := Y.free 0 (by simp)
          have Y_f1 := Y.free 1 (by simp)
          have Y_f2 := Y.free 2 (by simp)
          have Y_f3 := Y.free 3 (by simp)
          have Y_f4 := Y.free 4 (by simp)
          have Y_t := Y.there
          go_wp2
          go_ret
          exact rpost (by rw [HF.out, HQ.out] <;> rfl) X.below
        · have HQ := Lib.hid (show ends x y = true from by unfold ends; simp only [g1, g3, g4, Bool.true_and, Bool.false_and, Bool.and_true, Bool.and_false, Bool.or_true, Bool.or_false, Bool.true_or, Bool.false_or])
          refine wp_region_text (fun w' => Box (w.heap.size) [.int .i64 x.f0, .int .i64 x.f1, .int .i64 x.f2, .int .i64 x.f3, .int .i64 x.f4] w w' ∧ Box ((w.heap.size + 1)) [.int .i64 y.f0, .int .i64 y.f1, .int .i64 y.f2, .int .i64 y.f3, .int .i64 y.f4] w w') (by kernel_rfl) (by kernel_rfl) ⟨X.drew, Y.drew⟩ ?_
          clear X_0 X_1 X_2 X_3 X_4 X_f0 X_f1 X_f2 X_f3 X_f4 X_t
          clear Y_0 Y_1 Y_2 Y_3 Y_4 Y_f0 Y_f1 Y_f2 Y_f3 Y_f4 Y_t
          iterate 27 (
            apply SeqH.one
            · intro uw K hS hK
              obtain ⟨qX, qY⟩ := hS
              have qX_0 := qX.cells 0 _ rfl
              have qX_1 := qX.cells 1 _ rfl
              have qX_2 := qX.cells 2 _ rfl
              have qX_3 := qX.cells 3 _ rfl
              have qX_4 := qX.cells 4 _ rfl
              have qY_0 := qY.cells 0 _ rfl
              have qY_1 := qY.cells 1 _ rfl
              have qY_2 := qY.cells 2 _ rfl
              have qY_3 := qY.cells 3 _ rfl
              have qY_4 := qY.cells 4 _ rfl
              first
                | (go_simp; exact hK.out _ ⟨qX, qY⟩)
                | (go_simp; go_at_call 28; (with_reducible refine (HAX.out _).mono ?_); rintro e uw1 ⟨rfl, hv⟩; go_wp2_with fail; exact hK.out _ ⟨qX.more hv, qY.more hv⟩)
                | (go_simp; go_at_call 28; (with_reducible refine (HAY.out _).mono ?_); rintro e uw1 ⟨rfl, hv⟩; go_wp2_with fail; exact hK.out _ ⟨qX.more hv, qY.more hv⟩)
            try simp only [Act.put, List.setIfInBounds_toArray, List.set_cons_zero, List.set_cons_succ])
          refine SeqH.end' rfl ?_
          intro v5 hS
          clear X Y
          obtain ⟨X, Y⟩ := hS
          have X_0 := X.cells 0 _ rfl
          have X_1 := X.cells 1 _ rfl
          have X_2 := X.cells 2 _ rfl
          have X_3 := X.cells 3 _ rfl
          have X_4 := X.cells 4 _ rfl
          have X_f0 := X.free 0 (by simp)
          have X_f1 := X.free 1 (by simp)
          have X_f2 := X.free 2 (by simp)
          have X_f3 := X.free 3 (by simp)
          have X_f4 := X.free 4 (by simp)
          have X_t := X.there
          have Y_0 := Y.cells 0 _ rfl
          have Y_1 := Y.cells 1 _ rfl
          have Y_2 := Y.cells 2 _ rfl
          have Y_3 := Y.cells 3 _ rfl
          have Y_4 := Y.cells 4 _ rfl
          have Y_f0 := Y.free 0 (by simp)
          have Y_f1 := Y.free 1 (by simp)
          have Y_f2 := Y.free 2 (by simp)
          have Y_f3 := Y.free 3 (by simp)
          have Y_f4 := Y.free 4 (by simp)
          have Y_t := Y.there
          go_wp2
          go_ret
          exact rpost (by rw [HF.out, HQ.out] <;> rfl) X.below
      cases g2 : (x.f3 == y.f3)
      · cases g3 : (x.f2 == y.f2)
        · have HQ := Lib.hid (show ends x y = false from by unfold ends; simp only [g1, g2, g3, Bool.true_and, Bool.false_and, Bool.and_true, Bool.and_false, Bool.or_true, Bool.or_false, Bool.true_or, Bool.false_or])
          refine wp_region_text (fun w' => Box (w.heap.size) [.int .i64 x.f0, .int .i64 x.f1, .int .i64 x.f2, .int .i64 x.f3, .int .i64 x.f4] w w' ∧ Box ((w.heap.size + 1)) [.int .i64 y.f0, .int .i64 y.f1, .int .i64 y.f2, .int .i64 y.f3, .int .i64 y.f4] w w') (by kernel_rfl) (by kernel_rfl) ⟨X.drew, Y.drew⟩ ?_
          clear X_0 X_1 X_2 X_3 X_4 X_f0 X_f1 X_f2 X_f3 X_f4 X_t
          clear Y_0 Y_1 Y_2 Y_3 Y_4 Y_f0 Y_f1 Y_f2 Y_f3 Y_f4 Y_t
          iterate 27 (
            apply SeqH.one
            · intro uw K hS hK
              obtain ⟨qX, qY⟩ := hS
              have qX_0 := qX.cells 0 _ rfl
              have qX_1 := qX.cells 1 _ rfl
              have qX_2 := qX.cells 2 _ rfl
              have qX_3 := qX.cells 3 _ rfl
              have qX_4 := qX.cells 4 _ rfl
              have qY_0 := qY.cells 0 _ rfl
              have qY_1 := qY.cells 1 _ rfl
              have qY_2 := qY.cells 2 _ rfl
              have qY_3 := qY.cells 3 _ rfl
              have qY_4 := qY.cells 4 _ rfl
              first
                | (go_simp; exact hK.out _ ⟨qX, qY⟩)
                | (go_simp; go_at_call 28; (with_reducible refine (HAX.out _).mono ?_); rintro e uw1 ⟨rfl, hv⟩; go_wp2_with fail; exact hK.out _ ⟨qX.more hv, qY.more hv⟩)
                | (go_simp; go_at_call 28; (with_reducible refine (HAY.out _).mono ?_); rintro e uw1 ⟨rfl, hv⟩; go_wp2_with fail; exact hK.out _ ⟨qX.more hv, qY.more hv⟩)
            try simp only [Act.put, List.setIfInBounds_toArray, List.set_cons_zero, List.set_cons_succ])
          refine SeqH.end' rfl ?_
          intro v6 hS
          clear X Y
          obtain ⟨X, Y⟩ := hS
          have X_0 := X.cells 0 _ rfl
          have X_1 := X.cells 1 _ rfl
          have X_2 := X.cells 2 _ rfl
          have X_3 := X.cells 3 _ rfl
          have X_4 := X.cells 4 _ rfl
          have X_f0 := X.free 0 (by simp)
          have X_f1 := X.free 1 (by simp)
          have X_f2 := X.free 2 (by simp)
          have X_f3 := X.free 3 (by simp)
          have X_f4 := X.free 4 (by simp)
          have X_t := X.there
          have Y_0 := Y.cells 0 _ rfl
          have Y_1 := Y.cells 1 _ rfl
          have Y_2 := Y.cells 2 _ rfl
          have Y_3 := Y.cells 3 _ rfl
          have Y_4 := Y.cells 4 _ rfl
          have Y_f0 := Y.free 0 (by simp)
          have Y_f1 := Y.free 1 (by simp)
          have Y_f2 := Y.free 2 (by simp)
          have Y_f3 := Y.free 3 (by simp)
          have Y_f4 := Y.free 4 (by simp)
          have Y_t := Y.there
          go_wp2
          go_ret
          exact rpost (by rw [HF.out, HQ.out] <;> rfl) X.below
        cases g4 : (arr x == arr y)
        · have HQ := Lib.hid (show ends x y = false from by unfold ends; simp only [g1, g2, g3, g4, Bool.true_and, Bool.false_and, Bool.and_true, Bool.and_false, Bool.or_true, Bool.or_false, Bool.true_or, Bool.false_or])
          refine wp_region_text (fun w' => Box (w.heap.size) [.int .i64 x.f0, .int .i64 x.f1, .int .i64 x.f2, .int .i64 x.f3, .int .i64 x.f4] w w' ∧ Box ((w.heap.size + 1)) [.int .i64 y.f0, .int .i64 y.f1, .int .i64 y.f2, .int .i64 y.f3, .int .i64 y.f4] w w') (by kernel_rfl) (by kernel_rfl) ⟨X.drew, Y.drew⟩ ?_
          clear X_0 X_1 X_2 X_3 X_4 X_f0 X_f1 X_f2 X_f3 X_f4 X_t
          clear Y_0 Y_1 Y_2 Y_3 Y_4 Y_f0 Y_f1 Y_f2 Y_f3 Y_f4 Y_t
          iterate 27 (
            apply SeqH.one
            · intro uw K hS hK
              obtain ⟨qX, qY⟩ := hS
              have qX_0 := qX.cells 0 _ rfl
              have qX_1 := qX.cells 1 _ rfl
              have qX_2 := qX.cells 2 _ rfl
              have qX_3 := qX.cells 3 _ rfl
              have qX_4 := qX.cells 4 _ rfl
              have qY_0 := qY.cells 0 _ rfl
              have qY_1 := qY.cells 1 _ rfl
              have qY_2 := qY.cells 2 _ rfl
              have qY_3 := qY.cells 3 _ rfl
              have qY_4 := qY.cells 4 _ rfl
              first
                | (go_simp; exact hK.out _ ⟨qX, qY⟩)
                | (go_simp; go_at_call 28; (with_reducible refine (HAX.out _).mono ?_); rintro e uw1 ⟨rfl, hv⟩; go_wp2_with fail; exact hK.out _ ⟨qX.more hv, qY.more hv⟩)
                | (go_simp; go_at_call 28; (with_reducible refine (HAY.out _).mono ?_); rintro e uw1 ⟨rfl, hv⟩; go_wp2_with fail; exact hK.out _ ⟨qX.more hv, qY.more hv⟩)
            try simp only [Act.put, List.setIfInBounds_toArray, List.set_cons_zero, List.set_cons_succ])
          refine SeqH.end' rfl ?_
          intro v7 hS
          clear X Y
          obtain ⟨X, Y⟩ := hS
          have X_0 := X.cells 0 _ rfl
          have X_1 := X.cells 1 _ rfl
          have X_2 := X.cells 2 _ rfl
          have X_3 := X.cells 3 _ rfl
          have X_4 := X.cells 4 _ rfl
          have X_f0 := X.free 0 (by simp)
          have X_f1 := X.free 1 (by simp)
          have X_f2 := X.free 2 (by simp)
          have X_f3 := X.free 3 (by simp)
          have X_f4 := X.free 4 (by simp)
          have X_t := X.there
          have Y_0 := Y.cells 0 _ rfl
          have Y_1 := Y.cells 1 _ rfl
          have Y_2 := Y.cells 2 _ rfl
          have Y_3 := Y.cells 3 _ rfl
          have Y_4 := Y.cells 4 _ rfl
          have Y_f0 := Y.free 0 (by simp)
          have Y_f1 := Y.free 1 (by simp)
          have Y_f2 := Y.free 2 (by simp)
          have Y_f3 := Y.free 3 (by simp)
          have Y_f4 := Y.free 4 (by simp)
          have Y_t := Y.there
          go_wp2
          go_ret
          exact rpost (by rw [HF.out, HQ.out] <;> rfl) X.below
        · have HQ := Lib.hid (show ends x y = true from by unfold ends; simp only [g1, g2, g3, g4, Bool.true_and, Bool.false_and, Bool.and_true, Bool.and_false, Bool.or_true, Bool.or_false, Bool.true_or, Bool.false_or])
          refine wp_region_text (fun w' => Box (w.heap.size) [.int .i64 x.f0, .int .i64 x.f1, .int .i64 x.f2, .int .i64 x.f3, .int .i64 x.f4] w w' ∧ Box ((w.heap.size + 1)) [.int .i64 y.f0, .int .i64 y.f1, .int .i64 y.f2, .int .i64 y.f3, .int .i64 y.f4] w w') (by kernel_rfl) (by kernel_rfl) ⟨X.drew, Y.drew⟩ ?_
          clear X_0 X_1 X_2 X_3 X_4 X_f0 X_f1 X_f2 X_f3 X_f4 X_t
          clear Y_0 Y_1 Y_2 Y_3 Y_4 Y_f0 Y_f1 Y_f2 Y_f3 Y_f4 Y_t
          iterate 27 (
            apply SeqH.one
            · intro uw K hS hK
              obtain ⟨qX, qY⟩ := hS
              have qX_0 := qX.cells 0 _ rfl
              have qX_1 := qX.cells 1 _ rfl
              have qX_2 := qX.cells 2 _ rfl
              have qX_3 := qX.cells 3 _ rfl
              have qX_4 := qX.cells 4 _ rfl
              have qY_0 := qY.cells 0 _ rfl
              have qY_1 := qY.cells 1 _ rfl
              have qY_2 := qY.cells 2 _ rfl
              have qY_3 := qY.cells 3 _ rfl
              have qY_4 := qY.cells 4 _ rfl
              first
                | (go_simp; exact hK.out _ ⟨qX, qY⟩)
                | (go_simp; go_at_call 28; (with_reducible refine (HAX.out _).mono ?_); rintro e uw1 ⟨rfl, hv⟩; go_wp2_with fail; exact hK.out _ ⟨qX.more hv, qY.more hv⟩)
                | (go_simp; go_at_call 28; (with_reducible refine (HAY.out _).mono ?_); rintro e uw1 ⟨rfl, hv⟩; go_wp2_with fail; exact hK.out _ ⟨qX.more hv, qY.more hv⟩)
            try simp only [Act.put, List.setIfInBounds_toArray, List.set_cons_zero, List.set_cons_succ])
          refine SeqH.end' rfl ?_
          intro v8 hS
          clear X Y
          obtain ⟨X, Y⟩ := hS
          have X_0 := X.cells 0 _ rfl
          have X_1 := X.cells 1 _ rfl
          have X_2 := X.cells 2 _ rfl
          have X_3 := X.cells 3 _ rfl
          have X_4 := X.cells 4 _ rfl
          have X_f0 := X.free 0 (by simp)
          have X_f1 := X.free 1 (by simp)
          have X_f2 := X.free 2 (by simp)
          have X_f3 := X.free 3 (by simp)
          have X_f4 := X.free 4 (by simp)
          have X_t := X.there
          have Y_0 := Y.cells 0 _ rfl
          have Y_1 := Y.cells 1 _ rfl
          have Y_2 := Y.cells 2 _ rfl
          have Y_3 := Y.cells 3 _ rfl
          have Y_4 := Y.cells 4 _ rfl
          have Y_f0 := Y.free 0 (by simp)
          have Y_f1 := Y.free 1 (by simp)
          have Y_f2 := Y.free 2 (by simp)
          have Y_f3 := Y.free 3 (by simp)
          have Y_f4 := Y.free 4 (by simp)
          have Y_t := Y.there
          go_wp2
          go_ret
          exact rpost (by rw [HF.out, HQ.out] <;> rfl) X.below
      have HQ := Lib.hid (show ends x y = true from by unfold ends; simp only [g1, g2, Bool.true_and, Bool.false_and, Bool.and_true, Bool.and_false, Bool.or_true, Bool.or_false, Bool.true_or, Bool.false_or])
      refine wp_region_text (fun w' => Box (w.heap.size) [.int .i64 x.f0, .int .i64 x.f1, .int .i64 x.f2, .int .i64 x.f3, .int .i64 x.f4] w w' ∧ Box ((w.heap.size + 1)) [.int .i64 y.f0, .int .i64 y.f1, .int .i64 y.f2, .int .i64 y.f3, .int .i64 y.f4] w w') (by kernel_rfl) (by kernel_rfl) ⟨X.drew, Y.drew⟩ ?_
      clear X_0 X_1 X_2 X_3 X_4 X_f0 X_f1 X_f2 X_f3 X_f4 X_t
      clear Y_0 Y_1 Y_2 Y_3 Y_4 Y_f0 Y_f1 Y_f2 Y_f3 Y_f4 Y_t
      iterate 27 (
        apply SeqH.one
        · intro uw K hS hK
          obtain ⟨qX, qY⟩ := hS
          have qX_0 := qX.cells 0 _ rfl
          have qX_1 := qX.cells 1 _ rfl
          have qX_2 := qX.cells 2 _ rfl
          have qX_3 := qX.cells 3 _ rfl
          have qX_4 := qX.cells 4 _ rfl
          have qY_0 := qY.cells 0 _ rfl
          have qY_1 := qY.cells 1 _ rfl
          have qY_2 := qY.cells 2 _ rfl
          have qY_3 := qY.cells 3 _ rfl
          have qY_4 := qY.cells 4 _ rfl
          first
            | (go_simp; exact hK.out _ ⟨qX, qY⟩)
            | (go_simp; go_at_call 28; (with_reducible refine (HAX.out _).mono ?_); rintro e uw1 ⟨rfl, hv⟩; go_wp2_with fail; exact hK.out _ ⟨qX.more hv, qY.more hv⟩)
            | (go_simp; go_at_call 28; (with_reducible refine (HAY.out _).mono ?_); rintro e uw1 ⟨rfl, hv⟩; go_wp2_with fail; exact hK.out _ ⟨qX.more hv, qY.more hv⟩)
        try simp only [Act.put, List.setIfInBounds_toArray, List.set_cons_zero, List.set_cons_succ])
      refine SeqH.end' rfl ?_
      intro v9 hS
      clear X Y
      obtain ⟨X, Y⟩ := hS
      have X_0 := X.cells 0 _ rfl
      have X_1 := X.cells 1 _ rfl
      have X_2 := X.cells 2 _ rfl
      have X_3 := X.cells 3 _ rfl
      have X_4 := X.cells 4 _ rfl
      have X_f0 := X.free 0 (by simp)
      have X_f1 := X.free 1 (by simp)
      have X_f2 := X.free 2 (by simp)
      have X_f3 := X.free 3 (by simp)
      have X_f4 := X.free 4 (by simp)
      have X_t := X.there
      have Y_0 := Y.cells 0 _ rfl
      have Y_1 := Y.cells 1 _ rfl
      have Y_2 := Y.cells 2 _ rfl
      have Y_3 := Y.cells 3 _ rfl
      have Y_4 := Y.cells 4 _ rfl
      have Y_f0 := Y.free 0 (by simp)
      have Y_f1 := Y.free 1 (by simp)
      have Y_f2 := Y.free 2 (by simp)
      have Y_f3 := Y.free 3 (by simp)
      have Y_f4 := Y.free 4 (by simp)
      have Y_t := Y.there
      go_wp2
      go_ret
      exact rpost (by rw [HF.out, HQ.out] <;> rfl) X.below
set_option maxHeartbeats 800000 in
theorem free_any (P : Option Addr) (cap : Nat) (l : List R) (y : R) (hl : ∀ x ∈ l, Sm x) (hy : Sm y) (w : World) (hr : Rd w w.heap.size P (flat l)) (hn : l.length ≤ 1048576) :
    Calls Try.prog 41 #[.slice P l.length cap, .agg #[.int .i64 y.f0, .int .i64 y.f1, .int .i64 y.f2, .int .i64 y.f3, .int .i64 y.f4]] w (RPost (.bool (freeB l y)) w) := by
  have HR := Lib.hid hr; clear hr
  have HLL := Lib.hid hl; clear hl
  have HOY := Lib.hid hy; clear hy
  go_enter Try.func41, Try.ntmps41
  go_wp2_with fail
  have Y := Box.new (Below.refl _ w) [.int .i64 y.f0, .int .i64 y.f1, .int .i64 y.f2, .int .i64 y.f3, .int .i64 y.f4] 25 (g := w.heap.size) rfl
  generalize (w.alloc (.cells #[.int .i64 y.f0, .int .i64 y.f1, .int .i64 y.f2, .int .i64 y.f3, .int .i64 y.f4] 25)) = W1 at Y ⊢
  have Y_0 := Y.cells 0 _ rfl
  have Y_1 := Y.cells 1 _ rfl
  have Y_2 := Y.cells 2 _ rfl
  have Y_3 := Y.cells 3 _ rfl
  have Y_4 := Y.cells 4 _ rfl
  have Y_f0 := Y.free 0 (by simp)
  have Y_f1 := Y.free 1 (by simp)
  have Y_f2 := Y.free 2 (by simp)
  have Y_f3 := Y.free 3 (by simp)
  have Y_f4 := Y.free 4 (by simp)
  have Y_t := Y.there
  clear Y_0 Y_1 Y_2 Y_3 Y_4 Y_f0 Y_f1 Y_f2 Y_f3 Y_f4 Y_t
  go_wp2_with fail
  go_loopw [5] (fun i wr => ∃ k : Nat, k ≤ l.length ∧ i = .int .i64 k ∧ Hid (Free l y k) ∧ Box w.heap.size [.int .i64 y.f0, .int .i64 y.f1, .int .i64 y.f2, .int .i64 y.f3, .int .i64 y.f4] w wr) (fun i _ => l.length - (intOf i).toNat)
  case atStart => exact ⟨0, Nat.zero_le _, rfl, Lib.hid (fun s hs => by omega), Y⟩
  case round =>
    clear Y
    obtain ⟨k, hk, rfl, HF, Y⟩ := hrel
    by_cases hlt : k < l.length
    · obtain ⟨b, o, rfl, hb, hc⟩ := HR.out.at (k := k * 5) (by rw [flat_n]; omega)
      obtain ⟨x, hx⟩ : ∃ x, l[k] = x := ⟨_, rfl⟩
      obtain ⟨h0, h1, h2, h3, h4⟩ := cells5 (Below.refl _ _) hb hc hlt hx
      have HOX := Lib.hid (show Sm x by rw [← hx]; exact HLL.out _ (List.getElem_mem hlt))
      have HX := Lib.hid hx
      have HL := Lib.hid hlt
      clear hc hx
      have Y_0 := Y.cells 0 _ rfl
      have Y_1 := Y.cells 1 _ rfl
      have Y_2 := Y.cells 2 _ rfl
      have Y_3 := Y.cells 3 _ rfl
      have Y_4 := Y.cells 4 _ rfl
      have Y_f0 := Y.free 0 (by simp)
      have Y_f1 := Y.free 1 (by simp)
      have Y_f2 := Y.free 2 (by simp)
      have Y_f3 := Y.free 3 (by simp)
      have Y_f4 := Y.free 4 (by simp)
      have Y_t := Y.there
      cases he : (x.f0 != y.f0)
      · have HQ := Lib.hid (HF.out.next (freeAt_same HL.out HX.out (by simpa using he)))
        go_wp2_with fail
        have h0_c := ((bcell Y.below).1 _ _ hb).trans h0
        have h1_c := ((bcell Y.below).1 _ _ hb).trans h1
        have h2_c := ((bcell Y.below).1 _ _ hb).trans h2
        have h3_c := ((bcell Y.below).1 _ _ hb).trans h3
        have h4_c := ((bcell Y.below).1 _ _ hb).trans h4
        refine wp_region_text (fun w' => Box (w.heap.size) [.int .i64 y.f0, .int .i64 y.f1, .int .i64 y.f2, .int .i64 y.f3, .int .i64 y.f4] w w') (by kernel_rfl) (by kernel_rfl) (Y.drew) ?_
        clear Y_0 Y_1 Y_2 Y_3 Y_4 Y_f0 Y_f1 Y_f2 Y_f3 Y_f4 Y_t
        clear h0_c
        clear h1_c
        clear h2_c
        clear h3_c
        clear h4_c
        iterate 16 (
          apply SeqH.one
          · intro uw K hS hK
            have qY := hS
            have qY_0 := qY.cells 0 _ rfl
            have qY_1 := qY.cells 1 _ rfl
            have qY_2 := qY.cells 2 _ rfl
            have qY_3 := qY.cells 3 _ rfl
            have qY_4 := qY.cells 4 _ rfl
            have qh0_c := ((bcell qY.below).1 _ _ hb).trans h0
            have qh1_c := ((bcell qY.below).1 _ _ hb).trans h1
            have qh2_c := ((bcell qY.below).1 _ _ hb).trans h2
            have qh3_c := ((bcell qY.below).1 _ _ hb).trans h3
            have qh4_c := ((bcell qY.below).1 _ _ hb).trans h4
            first
              | (go_simp; exact hK.out _ qY)
              | (go_simp; go_at_call 56; (with_reducible refine (meet_any x y HOX.out HOY.out _).mono ?_); rintro e uw1 ⟨rfl, hv⟩; go_wp2_with fail; exact hK.out _ (qY.more hv))
          try simp only [Act.put, List.setIfInBounds_toArray, List.set_cons_zero, List.set_cons_succ])
        refine SeqH.end' rfl ?_
        intro v2 hS
        clear Y
        have Y := hS; clear hS
        have Y_0 := Y.cells 0 _ rfl
        have Y_1 := Y.cells 1 _ rfl
        have Y_2 := Y.cells 2 _ rfl
        have Y_3 := Y.cells 3 _ rfl
        have Y_4 := Y.cells 4 _ rfl
        have Y_f0 := Y.free 0 (by simp)
        have Y_f1 := Y.free 1 (by simp)
        have Y_f2 := Y.free 2 (by simp)
        have Y_f3 := Y.free 3 (by simp)
        have Y_f4 := Y.free 4 (by simp)
        have Y_t := Y.there
        have h0_c := ((bcell Y.below).1 _ _ hb).trans h0
        have h1_c := ((bcell Y.below).1 _ _ hb).trans h1
        have h2_c := ((bcell Y.below).1 _ _ hb).trans h2
        have h3_c := ((bcell Y.below).1 _ _ hb).trans h3
        have h4_c := ((bcell Y.below).1 _ _ hb).trans h4
        go_wp2
        go_roundw
        case rel => exact ⟨k + 1, HL.out, by go_num, HQ, Y⟩
        case measure => have := HL.out; simp [intOf]; omega
      have HA := Lib.hid (freeAt_meet HL.out HX.out (show x.f0 ≠ y.f0 by simpa using he))
      cases hm : meetB x y
      · have HQ := Lib.hid (HF.out.next (show freeAt l y k = true by rw [HA.out, hm]; rfl))
        go_wp2_with fail
        have h0_c := ((bcell Y.below).1 _ _ hb).trans h0
        have h1_c := ((bcell Y.below).1 _ _ hb).trans h1
        have h2_c := ((bcell Y.below).1 _ _ hb).trans h2
        have h3_c := ((bcell Y.below).1 _ _ hb).trans h3
        have h4_c := ((bcell Y.below).1 _ _ hb).trans h4
        refine wp_region_text (fun w' => Box (w.heap.size) [.int .i64 y.f0, .int .i64 y.f1, .int .i64 y.f2, .int .i64 y.f3, .int .i64 y.f4] w w') (by kernel_rfl) (by kernel_rfl) (Y.drew) ?_
        clear Y_0 Y_1 Y_2 Y_3 Y_4 Y_f0 Y_f1 Y_f2 Y_f3 Y_f4 Y_t
        clear h0_c
        clear h1_c
        clear h2_c
        clear h3_c
        clear h4_c
        iterate 16 (
          apply SeqH.one
          · intro uw K hS hK
            have qY := hS
            have qY_0 := qY.cells 0 _ rfl
            have qY_1 := qY.cells 1 _ rfl
            have qY_2 := qY.cells 2 _ rfl
            have qY_3 := qY.cells 3 _ rfl
            have qY_4 := qY.cells 4 _ rfl
            have qh0_c := ((bcell qY.below).1 _ _ hb).trans h0
            have qh1_c := ((bcell qY.below).1 _ _ hb).trans h1
            have qh2_c := ((bcell qY.below).1 _ _ hb).trans h2
            have qh3_c := ((bcell qY.below).1 _ _ hb).trans h3
            have qh4_c := ((bcell qY.below).1 _ _ hb).trans h4
            first
              | (go_simp; exact hK.out _ qY)
              | (go_simp; go_at_call 56; (with_reducible refine (meet_any x y HOX.out HOY.out _).mono ?_); rintro e uw1 ⟨rfl, hv⟩; rw [hm]; go_wp2_with fail; exact hK.out _ (qY.more hv))
          try simp only [Act.put, List.setIfInBounds_toArray, List.set_cons_zero, List.set_cons_succ])
        refine SeqH.end' rfl ?_
        intro v3 hS
        clear Y
        have Y := hS; clear hS
        have Y_0 := Y.cells 0 _ rfl
        have Y_1 := Y.cells 1 _ rfl
        have Y_2 := Y.cells 2 _ rfl
        have Y_3 := Y.cells 3 _ rfl
        have Y_4 := Y.cells 4 _ rfl
        have Y_f0 := Y.free 0 (by simp)
        have Y_f1 := Y.free 1 (by simp)
        have Y_f2 := Y.free 2 (by simp)
        have Y_f3 := Y.free 3 (by simp)
        have Y_f4 := Y.free 4 (by simp)
        have Y_t := Y.there
        have h0_c := ((bcell Y.below).1 _ _ hb).trans h0
        have h1_c := ((bcell Y.below).1 _ _ hb).trans h1
        have h2_c := ((bcell Y.below).1 _ _ hb).trans h2
        have h3_c := ((bcell Y.below).1 _ _ hb).trans h3
        have h4_c := ((bcell Y.below).1 _ _ hb).trans h4
        go_wp2
        go_roundw
        case rel => exact ⟨k + 1, HL.out, by go_num, HQ, Y⟩
        case measure => have := HL.out; simp [intOf]; omega
      · have HQ := Lib.hid (free_no HL.out (show freeAt l y k = false by rw [HA.out, hm]; rfl))
        go_wp2_with fail
        have h0_c := ((bcell Y.below).1 _ _ hb).trans h0
        have h1_c := ((bcell Y.below).1 _ _ hb).trans h1
        have h2_c := ((bcell Y.below).1 _ _ hb).trans h2
        have h3_c := ((bcell Y.below).1 _ _ hb).trans h3
        have h4_c := ((bcell Y.below).1 _ _ hb).trans h4
        refine wp_region_text (fun w' => Box (w.heap.size) [.int .i64 y.f0, .int .i64 y.f1, .int .i64 y.f2, .int .i64 y.f3, .int .i64 y.f4] w w') (by kernel_rfl) (by kernel_rfl) (Y.drew) ?_
        clear Y_0 Y_1 Y_2 Y_3 Y_4 Y_f0 Y_f1 Y_f2 Y_f3 Y_f4 Y_t
        clear h0_c
        clear h1_c
        clear h2_c
        clear h3_c
        clear h4_c
        iterate 16 (
          apply SeqH.one
          · intro uw K hS hK
            have qY := hS
            have qY_0 := qY.cells 0 _ rfl
            have qY_1 := qY.cells 1 _ rfl
            have qY_2 := qY.cells 2 _ rfl
            have qY_3 := qY.cells 3 _ rfl
            have qY_4 := qY.cells 4 _ rfl
            have qh0_c := ((bcell qY.below).1 _ _ hb).trans h0
            have qh1_c := ((bcell qY.below).1 _ _ hb).trans h1
            have qh2_c := ((bcell qY.below).1 _ _ hb).trans h2
            have qh3_c := ((bcell qY.below).1 _ _ hb).trans h3
            have qh4_c := ((bcell qY.below).1 _ _ hb).trans h4
            first
              | (go_simp; exact hK.out _ qY)
              | (go_simp; go_at_call 56; (with_reducible refine (meet_any x y HOX.out HOY.out _).mono ?_); rintro e uw1 ⟨rfl, hv⟩; rw [hm]; go_wp2_with fail; exact hK.out _ (qY.more hv))
          try simp only [Act.put, List.setIfInBounds_toArray, List.set_cons_zero, List.set_cons_succ])
        refine SeqH.end' rfl ?_
        intro v4 hS
        clear Y
        have Y := hS; clear hS
        have Y_0 := Y.cells 0 _ rfl
        have Y_1 := Y.cells 1 _ rfl
        have Y_2 := Y.cells 2 _ rfl
        have Y_3 := Y.cells 3 _ rfl
        have Y_4 := Y.cells 4 _ rfl
        have Y_f0 := Y.free 0 (by simp)
        have Y_f1 := Y.free 1 (by simp)
        have Y_f2 := Y.free 2 (by simp)
        have Y_f3 := Y.free 3 (by simp)
        have Y_f4 := Y.free 4 (by simp)
        have Y_t := Y.there
        have h0_c := ((bcell Y.below).1 _ _ hb).trans h0
        have h1_c := ((bcell Y.below).1 _ _ hb).trans h1
        have h2_c := ((bcell Y.below).1 _ _ hb).trans h2
        have h3_c := ((bcell Y.below).1 _ _ hb).trans h3
        have h4_c := ((bcell Y.below).1 _ _ hb).trans h4
        go_wp2
        go_ret
        exact rpost (by rw [HQ.out] <;> rfl) Y.below
    · have HQ := Lib.hid (free_yes HF.out (by omega))
      go_wp2
      go_ret
      exact rpost (by rw [HQ.out] <;> rfl) Y.below
end Go.Proofs.Ytknlgdahcfgbeaa.DTrip0
