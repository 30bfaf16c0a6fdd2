/- Trips: AreTrips (the model's), ArrivalOf, LoadsTo, OnTheWay. -/
import Derived.Test.YtphflbgljejokaaTripG
import Derived.Test.YtphflbgljejokaaRInt
namespace Go.Proofs.Ytphflbgljejokaa.TripL
open Go.RowKit Go.Proofs.Ytphflbgljejokaa.Mem Go.Proofs.Ytphflbgljejokaa.Base Go.Proofs.Ytphflbgljejokaa.Within Go.Proofs.Ytphflbgljejokaa.STrip Go.Proofs.Ytphflbgljejokaa.Regn Go.Proofs.Ytphflbgljejokaa.Boxes Go.Proofs.Ytphflbgljejokaa.Keep Go.Proofs.Ytphflbgljejokaa.SInt Go.Proofs.Ytphflbgljejokaa.RInt Go.Proofs.Ytphflbgljejokaa.TripP Go.Proofs.Ytphflbgljejokaa.TripS Go.Proofs.Ytphflbgljejokaa.TripG
set_option linter.unusedVariables false
set_option linter.unusedSimpArgs false
set_option maxRecDepth 100000
theorem are_spec (P : Option Addr) (cap : Nat) (l : List R) (w : World) (hr : Rd w w.heap.size P (flat l)) (hn : l.length ≤ 1048576) :
    Calls Try.prog 36 #[.slice P l.length cap] w (RPost (.bool (good l)) w) := by
  go_enter Try.func36, Try.ntmps36
  go_wp2_with fail
  refine (good_spec P cap l w hr hn).mono ?_
  rintro e w1 ⟨rfl, HB⟩
  go_wp2
  go_ret
  exact rpost rfl HB
/-- ArrivalOf. -/
def arrV (x : R) : Value := if okT x = true then .tuple #[.int .i64 (arr x), .bool true] else .tuple #[.int .i64 0, .bool false]
theorem arrV_no {x : R} (h : okT x = false) : arrV x = .tuple #[.int .i64 0, .bool false] := by unfold arrV; rw [h]; rfl
theorem arrV_yes {x : R} (h : okT x = true) : arrV x = .tuple #[.int .i64 (arr x), .bool true] := by unfold arrV; rw [if_pos h]
theorem arr_form (x : R) : ∃ n q, arrV x = .tuple #[.int .i64 n, .bool q] := by
  unfold arrV
  split
  · exact ⟨_, _, rfl⟩
  · exact ⟨_, _, rfl⟩
theorem ao_spec (x : R) (w : World) : Calls Try.prog 22 #[.agg #[.int .i64 x.f0, .int .i64 x.f1, .int .i64 x.f2, .int .i64 x.f3, .int .i64 x.f4]] w (RPost (arrV x) w) := by
  go_enter Try.func22, Try.ntmps22
  go_wp2_with fail
  have X := Box.new (Below.refl _ w) [.int .i64 x.f0, .int .i64 x.f1, .int .i64 x.f2, .int .i64 x.f3, .int .i64 x.f4] 25 (g := w.heap.size) rfl
  generalize (w.alloc (.cells #[.int .i64 x.f0, .int .i64 x.f1, .int .i64 x.f2, .int .i64 x.f3, .int .i64 x.f4] 25)) = W1 at X ⊢
  have X_0 := X.cells 0 _ rfl
  have X_1 := X.cells 1 _ rfl
  have X_2 := X.cells 2 _ rfl
  have X_3 := X.cells 3 _ rfl
  have X_4 := X.cells 4 _ rfl
  have X_f0 := X.free 0 (by simp)
  have X_f1 := X.free 1 (by simp)
  have X_f2 := X.free 2 (by simp)
  have X_f3 := X.free 3 (by simp)
  have X_f4 := X.free 4 (by simp)
  have X_t := X.there
  go_wp2_with fail
  refine (one_spec x _).mono ?_
  rintro e v2 ⟨rfl, hv2⟩
  clear X_0 X_1 X_2 X_3 X_4 X_f0 X_f1 X_f2 X_f3 X_f4 X_t
  replace X := X.more hv2
  have zhv2 := hv2.size
  clear hv2
  have X_0 := X.cells 0 _ rfl
  have X_1 := X.cells 1 _ rfl
  have X_2 := X.cells 2 _ rfl
  have X_3 := X.cells 3 _ rfl
  have X_4 := X.cells 4 _ rfl
  have X_f0 := X.free 0 (by simp)
  have X_f1 := X.free 1 (by simp)
  have X_f2 := X.free 2 (by simp)
  have X_f3 := X.free 3 (by simp)
  have X_f4 := X.free 4 (by simp)
  have X_t := X.there
  cases h : okT x
  · have HV := Lib.hid (arrV_no h)
    go_wp2
    go_ret2
    exact rpost (by rw [HV.out] <;> rfl) X.below
  · have HV := Lib.hid (arrV_yes h)
    obtain ⟨a0, a1, a2, a3, a4, a5, a6, a7, a8, a9, a10, a11, a12⟩ := okT_true h
    have HC := Lib.hid (fun W => arr_spec x a2 a3 a4 a5 a7 a8 W)
    clear a0 a1 a2 a3 a4 a5 a6 a7 a8 a9 a10 a11 a12
    go_wp2_with fail
    refine (HC.out _).mono ?_
    rintro e v3 ⟨rfl, hv3⟩
    clear X_0 X_1 X_2 X_3 X_4 X_f0 X_f1 X_f2 X_f3 X_f4 X_t
    replace X := X.more hv3
    have zhv3 := hv3.size
    clear hv3
    have X_0 := X.cells 0 _ rfl
    have X_1 := X.cells 1 _ rfl
    have X_2 := X.cells 2 _ rfl
    have X_3 := X.cells 3 _ rfl
    have X_4 := X.cells 4 _ rfl
    have X_f0 := X.free 0 (by simp)
    have X_f1 := X.free 1 (by simp)
    have X_f2 := X.free 2 (by simp)
    have X_f3 := X.free 3 (by simp)
    have X_f4 := X.free 4 (by simp)
    have X_t := X.there
    go_wp2
    go_ret2
    exact rpost (by rw [HV.out] <;> rfl) X.below
theorem ao_impl (x : R) (w : World) : Calls Try.prog 21 #[.agg #[.int .i64 x.f0, .int .i64 x.f1, .int .i64 x.f2, .int .i64 x.f3, .int .i64 x.f4]] w (RPost (arrV x) w) := by
  go_enter Try.func21, Try.ntmps21
  go_wp2_with fail
  have X := Box.new (Below.refl _ w) [.int .i64 x.f0, .int .i64 x.f1, .int .i64 x.f2, .int .i64 x.f3, .int .i64 x.f4] 25 (g := w.heap.size) rfl
  generalize (w.alloc (.cells #[.int .i64 x.f0, .int .i64 x.f1, .int .i64 x.f2, .int .i64 x.f3, .int .i64 x.f4] 25)) = W1 at X ⊢
  have X_0 := X.cells 0 _ rfl
  have X_1 := X.cells 1 _ rfl
  have X_2 := X.cells 2 _ rfl
  have X_3 := X.cells 3 _ rfl
  have X_4 := X.cells 4 _ rfl
  have X_f0 := X.free 0 (by simp)
  have X_f1 := X.free 1 (by simp)
  have X_f2 := X.free 2 (by simp)
  have X_f3 := X.free 3 (by simp)
  have X_f4 := X.free 4 (by simp)
  have X_t := X.there
  go_wp2_with fail
  refine (one_impl x _).mono ?_
  rintro e v2 ⟨rfl, hv2⟩
  clear X_0 X_1 X_2 X_3 X_4 X_f0 X_f1 X_f2 X_f3 X_f4 X_t
  replace X := X.more hv2
  have zhv2 := hv2.size
  clear hv2
  have X_0 := X.cells 0 _ rfl
  have X_1 := X.cells 1 _ rfl
  have X_2 := X.cells 2 _ rfl
  have X_3 := X.cells 3 _ rfl
  have X_4 := X.cells 4 _ rfl
  have X_f0 := X.free 0 (by simp)
  have X_f1 := X.free 1 (by simp)
  have X_f2 := X.free 2 (by simp)
  have X_f3 := X.free 3 (by simp)
  have X_f4 := X.free 4 (by simp)
  have X_t := X.there
  cases h : okT x
  · have HV := Lib.hid (arrV_no h)
    go_wp2
    go_ret2
    exact rpost (by rw [HV.out] <;> rfl) X.below
  · have HV := Lib.hid (arrV_yes h)
    obtain ⟨a0, a1, a2, a3, a4, a5, a6, a7, a8, a9, a10, a11, a12⟩ := okT_true h
    have HC := Lib.hid (fun W => arr_impl x a2 a3 a4 a5 a7 a8 W)
    clear a0 a1 a2 a3 a4 a5 a6 a7 a8 a9 a10 a11 a12
    go_wp2_with fail
    refine (HC.out _).mono ?_
    rintro e v3 ⟨rfl, hv3⟩
    clear X_0 X_1 X_2 X_3 X_4 X_f0 X_f1 X_f2 X_f3 X_f4 X_t
    replace X := X.more hv3
    have zhv3 := hv3.size
    clear hv3
    have X_0 := X.cells 0 _ rfl
    have X_1 := X.cells 1 _ rfl
    have X_2 := X.cells 2 _ rfl
    have X_3 := X.cells 3 _ rfl
    have X_4 := X.cells 4 _ rfl
    have X_f0 := X.free 0 (by simp)
    have X_f1 := X.free 1 (by simp)
    have X_f2 := X.free 2 (by simp)
    have X_f3 := X.free 3 (by simp)
    have X_f4 := X.free 4 (by simp)
    have X_t := X.there
    go_wp2
    go_ret2
    exact rpost (by rw [HV.out] <;> rfl) X.below
/-- LoadsTo. -/
def has (x : R) (s m : Int) : Bool := (x.f2 == s) && decide (arr x ≤ m)
def sumT (l : List R) (s m : Int) (k : Nat) : Int := ((l.take k).map fun x => if has x s m = true then x.f4 else 0).sum
theorem sumT_zero (l : List R) (s m : Int) : sumT l s m 0 = 0 := by simp [sumT]
theorem sumT_yes {l : List R} {s m : Int} {k : Nat} {x : R} (h : k < l.length) (hx : l[k] = x) (hq : has x s m = true) : sumT l s m (k + 1) = sumT l s m k + x.f4 := by
  unfold sumT; rw [List.take_succ_eq_append_getElem h, List.map_append, List.sum_append, hx]; simp [hq]
theorem sumT_no {l : List R} {s m : Int} {k : Nat} {x : R} (h : k < l.length) (hx : l[k] = x) (hq : has x s m = false) : sumT l s m (k + 1) = sumT l s m k := by
  unfold sumT; rw [List.take_succ_eq_append_getElem h, List.map_append, List.sum_append, hx]; simp [hq]
def ldOk (l : List R) (s m : Int) : Bool := good l && inB s 0 9 && inB m 0 1440
def ldV (l : List R) (s m : Int) : Value := if ldOk l s m = true then .tuple #[.int .i64 (sumT l s m l.length), .bool true] else .tuple #[.int .i64 0, .bool false]
theorem ldV_no {l : List R} {s m : Int} (h : ldOk l s m = false) : ldV l s m = .tuple #[.int .i64 0, .bool false] := by unfold ldV; rw [h]; rfl
theorem ldV_yes {l : List R} {s m : Int} (h : ldOk l s m = true) : ldV l s m = .tuple #[.int .i64 (sumT l s m l.length), .bool true] := by unfold ldV; rw [if_pos h]
theorem ld_form (l : List R) (s m : Int) : ∃ n q, ldV l s m = .tuple #[.int .i64 n, .bool q] := by
  unfold ldV
  split
  · exact ⟨_, _, rfl⟩
  · exact ⟨_, _, rfl⟩
theorem ld1 {l : List R} {s m : Int} (h : good l = false) : ldOk l s m = false := by unfold ldOk; rw [h]; rfl
theorem ld2 {l : List R} {s m : Int} (h : inB s 0 9 = false) : ldOk l s m = false := by unfold ldOk; rw [h, Bool.and_false]; rfl
theorem ld3 {l : List R} {s m : Int} (h : inB m 0 1440 = false) : ldOk l s m = false := by unfold ldOk; rw [h, Bool.and_false]
theorem ld4 {l : List R} {s m : Int} (h : good l = true) (h1 : inB s 0 9 = true) (h2 : inB m 0 1440 = true) : ldOk l s m = true := by unfold ldOk; rw [h, h1, h2]; rfl
theorem has_no {x : R} {s m : Int} (h : (x.f2 == s) = false) : has x s m = false := by unfold has; rw [h]; rfl
theorem has_is {x : R} {s m : Int} {q : Bool} (h : (x.f2 == s) = true) (h1 : decide (arr x ≤ m) = q) : has x s m = q := by unfold has; rw [h, h1]; rfl
set_option maxHeartbeats 1600000 in
theorem ld_spec (P : Option Addr) (cap : Nat) (l : List R) (s m : Int) (w : World) (hr : Rd w w.heap.size P (flat l)) (hn : l.length ≤ 1048576) :
    Calls Try.prog 44 #[.slice P l.length cap, .int .i64 s, .int .i64 m] w (RPost (ldV l s m) w) := by
  have HR := Lib.hid hr; clear hr
  go_enter Try.func44, Try.ntmps44
  go_wp2_with fail
  refine (good_spec P cap l w HR.out hn).mono ?_
  rintro e w1 ⟨rfl, HB⟩
  cases hg : good l
  · have HV := Lib.hid (ldV_no (ld1 (s := s) (m := m) hg))
    go_wp2
    go_ret2
    exact rpost (by rw [HV.out] <;> rfl) HB
  have HG := Lib.hid hg; clear hg
  cases hs : inB s 0 9
  · have HV := Lib.hid (ldV_no (ld2 (l := l) (m := m) hs))
    go_wp2_with (first | (go_at_call 89; (with_reducible refine (stop_spec _ _).mono ?_); rintro e' w' ⟨rfl, rfl⟩) | (go_at_call 84; (with_reducible refine (min_spec _ _).mono ?_); rintro e' w' ⟨rfl, rfl⟩))
    go_ret2
    exact rpost (by rw [HV.out] <;> rfl) HB
  cases hm : inB m 0 1440
  · have HV := Lib.hid (ldV_no (ld3 (l := l) (s := s) hm))
    go_wp2_with (first | (go_at_call 89; (with_reducible refine (stop_spec _ _).mono ?_); rintro e' w' ⟨rfl, rfl⟩) | (go_at_call 84; (with_reducible refine (min_spec _ _).mono ?_); rintro e' w' ⟨rfl, rfl⟩))
    go_ret2
    exact rpost (by rw [HV.out] <;> rfl) HB
  have HV := Lib.hid (ldV_yes (ld4 HG.out hs hm))
  obtain ⟨g10, gall⟩ := good_all HG.out
  have HA := Lib.hid gall; clear gall
  go_wp2_with (first | (go_at_call 89; (with_reducible refine (stop_spec _ _).mono ?_); rintro e' w' ⟨rfl, rfl⟩) | (go_at_call 84; (with_reducible refine (min_spec _ _).mono ?_); rintro e' w' ⟨rfl, rfl⟩))
  clear hs hm
  go_loopw [8, 9] (fun z i wr => ∃ (k : Nat) (q : Int), k ≤ l.length ∧ i = .int .i64 k ∧ z = .int .i64 q ∧ Hid (sumT l s m k = q) ∧ 0 ≤ q ∧ q ≤ 8 * k ∧ Below w.heap.size w wr) (fun _ i _ => l.length - (intOf i).toNat)
  case atStart => exact ⟨0, 0, Nat.zero_le _, rfl, rfl, Lib.hid (sumT_zero l s m), by omega, by omega, HB⟩
  case round =>
    clear HB
    obtain ⟨k, q, hk, rfl, rfl, HQ, q0, q1, HB⟩ := hrel
    by_cases hlt : k < l.length
    · obtain ⟨b', o, rfl, hb, hc⟩ := HR.out.at (k := k * 5) (by rw [flat_n]; omega)
      obtain ⟨x, hx⟩ : ∃ x, l[k] = x := ⟨_, rfl⟩
      obtain ⟨h0, h1, h2, h3, h4⟩ := cells5 HB hb hc hlt hx
      have HCC := Lib.hid hc; clear hc
      have hok := HA.out k hlt; rw [hx] at hok
      obtain ⟨a0, a1, a2, a3, a4, a5, a6, a7, a8, a9, a10, a11, a12⟩ := okT_true hok
      have HCA := Lib.hid (fun W => arr_spec x a2 a3 a4 a5 a7 a8 W)
      clear a0 a1 a2 a3 a4 a5 a6 a7 a8 a9 a10 hok
      have HX := Lib.hid hx; clear hx
      have HL := Lib.hid hlt
      cases he : (x.f2 == s)
      · have HN := Lib.hid ((sumT_no HL.out HX.out (has_no (m := m) he)).trans HQ.out)
        go_wp2
        go_roundw
        case rel => exact ⟨k + 1, q, HL.out, by go_num, rfl, HN, q0, by omega, HB⟩
        case measure => have := HL.out; simp [intOf]; omega
      · go_wp2_with fail
        refine (HCA.out _).mono ?_
        rintro e v1 ⟨rfl, hv⟩
        have HB1 := be HB hv
        clear h0 h1 h2 h3 h4 HB hv
        obtain ⟨h0, h1, h2, h3, h4⟩ := cells5 HB1 hb HCC.out hlt HX.out
        cases hc : decide (arr x ≤ m)
        · have HN := Lib.hid ((sumT_no HL.out HX.out (has_is he hc)).trans HQ.out)
          go_wp2
          go_roundw
          case rel => exact ⟨k + 1, q, HL.out, by go_num, rfl, HN, q0, by omega, HB1⟩
          case measure => have := HL.out; simp [intOf]; omega
        · have HN := Lib.hid ((sumT_yes HL.out HX.out (has_is he hc)).trans (by rw [HQ.out]))
          have y1 : IntKind.i64.wrap (q + x.f4) = q + x.f4 := IntWalk.i64_in _ (by omega)
          go_wp2
          go_roundw
          case rel => exact ⟨k + 1, q + x.f4, HL.out, by go_num, rfl, HN, by omega, by omega, HB1⟩
          case measure => have := HL.out; simp [intOf]; omega
    · have HF := Lib.hid (show sumT l s m l.length = q by have := HQ.out; rwa [show k = l.length by omega] at this)
      go_wp2
      go_ret2
      exact rpost (by rw [HV.out, HF.out] <;> rfl) HB
set_option maxHeartbeats 1600000 in
theorem ld_impl (P : Option Addr) (cap : Nat) (l : List R) (s m : Int) (w : World) (hr : Rd w w.heap.size P (flat l)) (hcp : l.length ≤ cap) (hn : l.length ≤ 1048576) :
    Calls Try.prog 43 #[.slice P l.length cap, .int .i64 s, .int .i64 m] w (RPost (ldV l s m) w) := by
  have HR := Lib.hid hr; clear hr
  go_enter Try.func43, Try.ntmps43
  go_wp2_with fail
  refine (are_impl P cap l w HR.out hn).mono ?_
  rintro e w1 ⟨rfl, HB⟩
  cases hg : good l
  · have HV := Lib.hid (ldV_no (ld1 (s := s) (m := m) hg))
    go_wp2
    go_ret2
    exact rpost (by rw [HV.out] <;> rfl) HB
  have HG := Lib.hid hg; clear hg
  cases hs : inB s 0 9
  · have HV := Lib.hid (ldV_no (ld2 (l := l) (m := m) hs))
    go_wp2_with (first | (go_at_call 68; (with_reducible refine (stop_impl _ _).mono ?_); rintro e' w' ⟨rfl, rfl⟩) | (go_at_call 67; (with_reducible refine (within_any _ _ _ _).mono ?_); rintro e' w' ⟨rfl, rfl⟩))
    go_ret2
    exact rpost (by rw [HV.out] <;> rfl) HB
  cases hm : inB m 0 1440
  · have HV := Lib.hid (ldV_no (ld3 (l := l) (s := s) hm))
    go_wp2_with (first | (go_at_call 68; (with_reducible refine (stop_impl _ _).mono ?_); rintro e' w' ⟨rfl, rfl⟩) | (go_at_call 67; (with_reducible refine (within_any _ _ _ _).mono ?_); rintro e' w' ⟨rfl, rfl⟩))
    go_ret2
    exact rpost (by rw [HV.out] <;> rfl) HB
  have HV := Lib.hid (ldV_yes (ld4 HG.out hs hm))
  obtain ⟨g10, gall⟩ := good_all HG.out
  have HA := Lib.hid gall; clear gall
  go_wp2_with (first | (go_at_call 68; (with_reducible refine (stop_impl _ _).mono ?_); rintro e' w' ⟨rfl, rfl⟩) | (go_at_call 67; (with_reducible refine (within_any _ _ _ _).mono ?_); rintro e' w' ⟨rfl, rfl⟩))
  clear hs hm
  go_loopw [8, 26] (fun z i wr => ∃ (k : Nat) (q : Int), k ≤ l.length ∧ i = .int .i64 k ∧ z = .int .i64 q ∧ Hid (sumT l s m k = q) ∧ 0 ≤ q ∧ q ≤ 8 * k ∧ Below w.heap.size w wr) (fun _ i _ => l.length - (intOf i).toNat)
  case atStart => exact ⟨0, 0, Nat.zero_le _, rfl, rfl, Lib.hid (sumT_zero l s m), by omega, by omega, HB⟩
  case round =>
    clear HB
    obtain ⟨k, q, hk, rfl, rfl, HQ, q0, q1, HB0⟩ := hrel
    by_cases hlt : k < l.length
    · obtain ⟨b', o, rfl, hb, hc⟩ := HR.out.at (k := k * 5) (by rw [flat_n]; omega)
      obtain ⟨x, hx⟩ : ∃ x, l[k] = x := ⟨_, rfl⟩
      obtain ⟨h0, h1, h2, h3, h4⟩ := cells5 HB0 hb hc hlt hx
      clear hc
      have hok := HA.out k hlt; rw [hx] at hok
      obtain ⟨a0, a1, a2, a3, a4, a5, a6, a7, a8, a9, a10, a11, a12⟩ := okT_true hok
      have HCA := Lib.hid (fun W => arr_impl x a2 a3 a4 a5 a7 a8 W)
      clear a0 a1 a2 a3 a4 a5 a6 a7 a8 a9 a10 hok
      have HX := Lib.hid hx; clear hx
      have HL := Lib.hid hlt
      cases he : (x.f2 == s)
      · have HN := Lib.hid ((sumT_no HL.out HX.out (has_no (m := m) he)).trans HQ.out)
        go_wp2
        go_roundw
        case rel => exact ⟨k + 1, q, HL.out, by go_num, rfl, HN, q0, by omega, al HB0⟩
        case measure => have := HL.out; simp [intOf]; omega
      · go_wp2_with fail
        have B := Box.new HB0 [.int .i64 x.f0, .int .i64 x.f1, .int .i64 x.f2, .int .i64 x.f3, .int .i64 x.f4] 25 (g := wr.heap.size) rfl
        generalize (wr.alloc (.cells #[.int .i64 x.f0, .int .i64 x.f1, .int .i64 x.f2, .int .i64 x.f3, .int .i64 x.f4] 25)) = W1 at B ⊢
        have B_0 := B.cells 0 _ rfl
        have B_1 := B.cells 1 _ rfl
        have B_2 := B.cells 2 _ rfl
        have B_3 := B.cells 3 _ rfl
        have B_4 := B.cells 4 _ rfl
        have B_f0 := B.free 0 (by simp)
        have B_f1 := B.free 1 (by simp)
        have B_f2 := B.free 2 (by simp)
        have B_f3 := B.free 3 (by simp)
        have B_f4 := B.free 4 (by simp)
        have B_t := B.there
        clear h0 h1 h2 h3 h4
        go_wp2_with fail
        refine (HCA.out _).mono ?_
        rintro e v2 ⟨rfl, hv2⟩
        clear B_0 B_1 B_2 B_3 B_4 B_f0 B_f1 B_f2 B_f3 B_f4 B_t
        replace B := B.more hv2
        have zhv2 := hv2.size
        clear hv2
        have B_0 := B.cells 0 _ rfl
        have B_1 := B.cells 1 _ rfl
        have B_2 := B.cells 2 _ rfl
        have B_3 := B.cells 3 _ rfl
        have B_4 := B.cells 4 _ rfl
        have B_f0 := B.free 0 (by simp)
        have B_f1 := B.free 1 (by simp)
        have B_f2 := B.free 2 (by simp)
        have B_f3 := B.free 3 (by simp)
        have B_f4 := B.free 4 (by simp)
        have B_t := B.there
        cases hc : decide (arr x ≤ m)
        · have HN := Lib.hid ((sumT_no HL.out HX.out (has_is he hc)).trans HQ.out)
          go_wp2
          go_roundw
          case rel => exact ⟨k + 1, q, HL.out, by go_num, rfl, HN, q0, by omega, B.below⟩
          case measure => have := HL.out; simp [intOf]; omega
        · have HN := Lib.hid ((sumT_yes HL.out HX.out (has_is he hc)).trans (by rw [HQ.out]))
          have y1 : IntKind.i64.wrap (q + x.f4) = q + x.f4 := IntWalk.i64_in _ (by omega)
          go_wp2
          go_roundw
          case rel => exact ⟨k + 1, q + x.f4, HL.out, by go_num, rfl, HN, by omega, by omega, B.below⟩
          case measure => have := HL.out; simp [intOf]; omega
    · have HF := Lib.hid (show sumT l s m l.length = q by have := HQ.out; rwa [show k = l.length by omega] at this)
      go_wp2
      go_ret2
      exact rpost (by rw [HV.out, HF.out] <;> rfl) HB0
end Go.Proofs.Ytphflbgljejokaa.TripL
