/- Trips: AreTrips (the model's), ArrivalOf, LoadsTo, OnTheWay. -/
import Derived.Test.YtknlgdahcfgbeaaTripG
import Derived.Test.YtknlgdahcfgbeaaRInt
namespace Go.Proofs.Ytknlgdahcfgbeaa.TripL
open Go.RowKit Go.Proofs.Ytknlgdahcfgbeaa.Mem Go.Proofs.Ytknlgdahcfgbeaa.Base Go.Proofs.Ytknlgdahcfgbeaa.Within Go.Proofs.Ytknlgdahcfgbeaa.STrip Go.Proofs.Ytknlgdahcfgbeaa.Regn Go.Proofs.Ytknlgdahcfgbeaa.Boxes Go.Proofs.Ytknlgdahcfgbeaa.Keep Go.Proofs.Ytknlgdahcfgbeaa.SInt Go.Proofs.Ytknlgdahcfgbeaa.RInt Go.Proofs.Ytknlgdahcfgbeaa.TripP Go.Proofs.Ytknlgdahcfgbeaa.TripS Go.Proofs.Ytknlgdahcfgbeaa.TripG
set_option linter.unusedVariables false
set_option linter.unusedSimpArgs false
set_option maxRecDepth 100000
theorem are_spec (P : Option Addr) (cap : Nat) (l : List R) (w : World) (hr : Rd w w.heap.size P (flat l)) (hn : l.length ≤ 1048576) :
    Calls Try.prog 24 #[.slice P l.length cap] w (RPost (.bool (good l)) w) := by
  go_enter Try.func24, Try.ntmps24
  go_wp2_with fail
  refine (good_spec P cap l w hr hn).mono ?_
  rintro e w1 ⟨rfl, HB⟩
  go_wp2
  go_ret
  exact rpost rfl HB
/-- ArrivalOf. -/
def arrV (x : R) : Value := if okT x = true then .tuple #[.int .i64 (arr x), .bool true] else .tuple #[.int .i64 0, .bool false]
theorem arrV_no {x : R} (h : okT x = false) : arrV x = .tuple #[.int .i64 0, .bool false] := by unfold arrV; rw [h]; rfl
theorem arrV_yes {x : R} (h : okT x = true) : arrV x = .tuple #[.int .i64 (arr x), .bool true] := by unfold arrV; rw [if_pos h]
theorem arr_form (x : R) : ∃ n q, arrV x = .tuple #[.int .i64 n, .bool q] := by
  unfold arrV
  split
  · exact ⟨_, _, rfl⟩
  · exact ⟨_, _, rfl⟩
theorem ao_spec (x : R) (w : World) : Calls Try.prog 10 #[.agg #[.int .i64 x.f0, .int .i64 x.f1, .int .i64 x.f2, .int .i64 x.f3, .int .i64 x.f4]] w (RPost (arrV x) w) := by
  go_enter Try.func10, Try.ntmps10
  go_wp2_with fail
  have X := Box.new (Below.refl _ w) [.int .i64 x.f0, .int .i64 x.f1, .int .i64 x.f2, .int .i64 x.f3, .int .i64 x.f4] 25 (g := w.heap.size) rfl
  generalize (w.alloc (.cells #[.int .i64 x.f0, .int .i64 x.f1, .int .i64 x.f2, .int .i64 x.f3, .int .i64 x.f4] 25)) = W1 at X ⊢
  have X_0 := X.cells 0 _ rfl
  have X_1 := X.cells 1 _ rfl
  have X_2 := X.cells 2 _ rfl
  have X_3 := X.cells 3 _ rfl
  have X_4 := X.cells 4 _ rfl
  have X_f0 := X.free 0 (by simp)
  have X_f1 := X.free 1 (by simp)
  have X_f2 := X.free 2 (by simp)
  have X_f3 := X.free 3 (by simp)
  have X_f4 := X.free 4 (by simp)
  have X_t := X.there
  go_wp2_with fail
  refine (one_spec x _).mono ?_
  rintro e v2 ⟨rfl, hv2⟩
  clear X_0 X_1 X_2 X_3 X_4 X_f0 X_f1 X_f2 X_f3 X_f4 X_t
  replace X := X.more hv2
  have zhv2 := hv2.size
  clear hv2
  have X_0 := X.cells 0 _ rfl
  have X_1 := X.cells 1 _ rfl
  have X_2 := X.cells 2 _ rfl
  have X_3 := X.cells 3 _ rfl
  have X_4 := X.cells 4 _ rfl
  have X_f0 := X.free 0 (by simp)
  have X_f1 := X.free 1 (by simp)
  have X_f2 := X.free 2 (by simp)
  have X_f3 := X.free 3 (by simp)
  have X_f4 := X.free 4 (by simp)
  have X_t := X.there
  cases h : okT x
  · have HV := Lib.hid (arrV_no h)
    go_wp2
    go_ret2
    exact rpost (by rw [HV.out] <;> rfl) X.below
  · have HV := Lib.hid (arrV_yes h)
    obtain ⟨a0, a1, a2, a3, a4, a5, a6, a7, a8, a9, a10, a11, a12⟩ := okT_true h
    have HC := Lib.hid (fun W => arr_spec x a2 a3 a4 a5 a7 a8 W)
    clear a0 a1 a2 a3 a4 a5 a6 a7 a8 a9 a10 a11 a12
    go_wp2_with fail
    refine (HC.out _).mono ?_
    rintro e v3 ⟨rfl, hv3⟩
    clear X_0 X_1 X_2 X_3 X_4 X_f0 X_f1 X_f2 X_f3 X_f4 X_t
    replace X := X.more hv3
    have zhv3 := hv3.size
    clear hv3
    have X_0 := X.cells 0 _ rfl
    have X_1 := X.cells 1 _ rfl
    have X_2 := X.cells 2 _ rfl
    have X_3 := X.cells 3 _ rfl
    have X_4 := X.cells 4 _ rfl
    have X_f0 := X.free 0 (by simp)
    have X_f1 := X.free 1 (by simp)
    have X_f2 := X.free 2 (by simp)
    have X_f3 := X.free 3 (by simp)
    have X_f4 := X.free 4 (by simp)
    have X_t := X.there
    go_wp2
    go_ret2
    exact rpost (by rw [HV.out] <;> rfl) X.below
theorem ao_impl (x : R) (w : World) : Calls Try.prog 9 #[.agg #[.int .i64 x.f0, .int .i64 x.f1, .int .i64 x.f2, .int .i64 x.f3, .int .i64 x.f4]] w (RPost (arrV x) w) := by
  go_enter Try.func9, Try.ntmps9
  go_wp2_with fail
  have X := Box.new (Below.refl _ w) [.int .i64 x.f0, .int .i64 x.f1, .int .i64 x.f2, .int .i64 x.f3, .int .i64 x.f4] 25 (g := w.heap.size) rfl
  generalize (w.alloc (.cells #[.int .i64 x.f0, .int .i64 x.f1, .int .i64 x.f2, .int .i64 x.f3, .int .i64 x.f4] 25)) = W1 at X ⊢
  have X_0 := X.cells 0 _ rfl
  have X_1 := X.cells 1 _ rfl
  have X_2 := X.cells 2 _ rfl
  have X_3 := X.cells 3 _ rfl
  have X_4 := X.cells 4 _ rfl
  have X_f0 := X.free 0 (by simp)
  have X_f1 := X.free 1 (by simp)
  have X_f2 := X.free 2 (by simp)
  have X_f3 := X.free 3 (by simp)
  have X_f4 := X.free 4 (by simp)
  have X_t := X.there
  go_wp2_with fail
  refine (one_impl x _).mono ?_
  rintro e v2 ⟨rfl, hv2⟩
  clear X_0 X_1 X_2 X_3 X_4 X_f0 X_f1 X_f2 X_f3 X_f4 X_t
  replace X := X.more hv2
  have zhv2 := hv2.size
  clear hv2
  have X_0 := X.cells 0 _ rfl
  have X_1 := X.cells 1 _ rfl
  have X_2 := X.cells 2 _ rfl
  have X_3 := X.cells 3 _ rfl
  have X_4 := X.cells 4 _ rfl
  have X_f0 := X.free 0 (by simp)
  have X_f1 := X.free 1 (by simp)
  have X_f2 := X.free 2 (by simp)
  have X_f3 := X.free 3 (by simp)
  have X_f4 := X.free 4 (by simp)
  have X_t := X.there
  cases h : okT x
  · have HV := Lib.hid (arrV_no h)
    go_wp2
    go_ret2
    exact rpost (by rw [HV.out] <;> rfl) X.below
  · have HV := Lib.hid (arrV_yes h)
    obtain ⟨a0, a1, a2, a3, a4, a5, a6, a7, a8, a9, a10, a11, a12⟩ := okT_true h
    have HC := Lib.hid (fun W => arr_impl x a2 a3 a4 a5 a7 a8 W)
    clear a0 a1 a2 a3 a4 a5 a6 a7 a8 a9 a10 a11 a12
    go_wp2_with fail
    refine (HC.out _).mono ?_
    rintro e v3 ⟨rfl, hv3⟩
    clear X_0 X_1 X_2 X_3 X_4 X_f0 X_f1 X_f2 X_f3 X_f4 X_t
    replace X := X.more hv3
    have zhv3 := hv3.size
    clear hv3
    have X_0 := X.cells 0 _ rfl
    have X_1 := X.cells 1 _ rfl
    have X_2 := X.cells 2 _ rfl
    have X_3 := X.cells 3 _ rfl
    have X_4 := X.cells 4 _ rfl
    have X_f0 := X.free 0 (by simp)
    have X_f1 := X.free 1 (by simp)
    have X_f2 := X.free 2 (by simp)
    have X_f3 := X.free 3 (by simp)
    have X_f4 := X.free 4 (by simp)
    have X_t := X.there
    go_wp2
    go_ret2
    exact rpost (by rw [HV.out] <;> rfl) X.below
/-- LoadsTo. -/
def has (x : R) (s m : Int) : Bool := (x.f2 == s) && decide (arr x ≤ m)
def sumT (l : List R) (s m : Int) (k : Nat) : Int := ((l.take k).map fun x => if has x s m = true then x.f4 else 0).sum
theorem sumT_zero (l : List R) (s m : Int) : sumT l s m 0 = 0 := by simp [sumT]
theorem sumT_yes {l : List R} {s m : Int} {k : Nat} {x : R} (h : k < l.length) (hx : l[k] = x) (hq : has x s m = true) : sumT l s m (k + 1) = sumT l s m k + x.f4 := by
  unfold sumT; rw [List.take_succ_eq_append_getElem h, List.map_append, List.sum_append, hx]; simp [hq]
theorem sumT_no {l : List R} {s m : Int} {k : Nat} {x : R} (h : k < l.length) (hx : l[k] = x) (hq : has x s m = false) : sumT l s m (k + 1) = sumT l s m k := by
  unfold sumT; rw [List.take_succ_eq_append_getElem h, List.map_append, List.sum_append, hx]; simp [hq]
def ldOk (l : List R) (s m : Int) : Bool := good l && inB s 0 9 && inB m 0 1440
def ldV (l : List R) (s m : Int) : Value := if ldOk l s m = true then .tuple #[.int .i64 (sumT l s m l.length), .bool true] else .tuple #[.int .i64 0, .bool false]
theorem ldV_no {l : List R} {s m : Int} (h : ldOk l s m = false) : ldV l s m = .tuple #[.int .i64 0, .bool false] := by unfold ldV; rw [h]; rfl
theorem ldV_yes {l : List R} {s m : Int} (h : ldOk l s m = true) : ldV l s m = .tuple #[.int .i64 (sumT l s m l.length), .bool true] := by unfold ldV; rw [if_pos h]
theorem ld_form (l : List R) (s m : Int) : ∃ n q, ldV l s m = .tuple #[.int .i64 n, .bool q] := by
  unfold ldV
  split
  · exact ⟨_, _, rfl⟩
  · exact ⟨_, _, rfl⟩
theorem ld1 {l : List R} {s m : Int} (h : good l = false) : ldOk l s m = false := by unfold ldOk; rw [h]; rfl
theorem ld2 {l : List R} {s m : Int} (h : inB s 0 9 = false) : ldOk l s m = false := by unfold ldOk; rw [h, Bool.and_false]; rfl
theorem ld3 {l : List R} {s m : Int} (h : inB m 0 1440 = false) : ldOk l s m = false := by unfold ldOk; rw [h, Bool.and_false]
theorem ld4 {l : List R} {s m : Int} (h : good l = true) (h1 : inB s 0 9 = true) (h2 : inB m 0 1440 = true) : ldOk l s m = true := by unfold ldOk; rw [h, h1, h2]; rfl
theorem has_no {x : R} {s m : Int} (h : (x.f2 == s) = false) : has x s m = false := by unfold has; rw [h]; rfl
theorem has_is {x : R} {s m : Int} {q : Bool} (h : (x.f2 == s) = true) (h1 : decide (arr x ≤ m) = q) : has x s m = q := by unfold has; rw [h, h1]; rfl
end Go.Proofs.Ytknlgdahcfgbeaa.TripL
