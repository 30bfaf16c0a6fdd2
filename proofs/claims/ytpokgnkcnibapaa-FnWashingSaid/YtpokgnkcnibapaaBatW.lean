/- Batches: how many stages, how much water. Made by tools/mk_batw.py. -/
import Derived.Test.YtpokgnkcnibapaaBatV
namespace Go.Proofs.Ytpokgnkcnibapaa.BatW
open Go.RowKit Go.Proofs.Ytpokgnkcnibapaa.Mem Go.Proofs.Ytpokgnkcnibapaa.Base Go.Proofs.Ytpokgnkcnibapaa.Within Go.Proofs.Ytpokgnkcnibapaa.SBatch Go.Proofs.Ytpokgnkcnibapaa.Regn Go.Proofs.Ytpokgnkcnibapaa.Boxes Go.Proofs.Ytpokgnkcnibapaa.Keep Go.Proofs.Ytpokgnkcnibapaa.BatP Go.Proofs.Ytpokgnkcnibapaa.BatQ Go.Proofs.Ytpokgnkcnibapaa.BatS Go.Proofs.Ytpokgnkcnibapaa.BatR Go.Proofs.Ytpokgnkcnibapaa.BatV
set_option linter.unusedVariables false
set_option linter.unusedSimpArgs false
set_option maxRecDepth 100000
theorem sn_aw {x : R} {v m : Int} (h : awOk x v 0 = false) : snV x v m = .tuple #[.int .i64 0, .bool false] :=
  sn_none (k := 7) (fun n _ _ => st_no1 (as1 h)) (by omega)
theorem as_at {x : R} {v : Int} {k : Nat} (h : asOk x v k = true) : asV x v k = .tuple #[(stg x (v / k) k).val, .bool true] := by
  rw [as_yes h, Int.toNat_natCast]
/-- the dirt of a batch by value. -/
theorem field_dirt (a b c : Int) (w : World) : (Instr.field 25 (.agg #[.int .i64 a, .int .i64 b, .int .i64 c]) 1).run Try.prog w = .ok (.int .i64 b) w := by
  have hag : (isAgg 3).run Try.prog w = .ok false w := by
    unfold isAgg
    rw [Sem.run_bind, run_underlying Try.underlying3 w]
    rfl
  simp [Instr.field, asAgg, run_underlying Try.underlying25, part, hag, Sem.run_bind, Sem.run_pure, Result.andThen]
set_option maxHeartbeats 400000 in
theorem sn_impl (x : R) (v m : Int) (w : World) : Calls Try.prog 27 #[.agg #[.int .i64 x.f0, .int .i64 x.f1, .int .i64 x.f2], .int .i64 v, .int .i64 m] w (RPost (snV x v m) w) := by
  by_cases hm : 0 ≤ m
  · have HM := Lib.hid hm
    go_enter Try.func27, Try.ntmps27
    go_upto_block 0 with fail
    have B := Box.new (Below.refl _ w) [.int .i64 x.f0, .int .i64 x.f1, .int .i64 x.f2] 25 (g := w.heap.size) rfl
    generalize (w.alloc (.cells #[.int .i64 x.f0, .int .i64 x.f1, .int .i64 x.f2] 25)) = W1 at B ⊢
    have B_0 := B.cells 0 _ rfl
    have B_1 := B.cells 1 _ rfl
    have B_2 := B.cells 2 _ rfl
    have B_f0 := B.free 0 (by simp)
    have B_f1 := B.free 1 (by simp)
    have B_f2 := B.free 2 (by simp)
    have B_t := B.there
    go_wp2_with fail
    go_loopw [8] (fun i wr => ∃ k : Nat, 1 ≤ k ∧ k ≤ 7 ∧ i = .int .i64 k ∧ Hid (NoSt x v m k) ∧ Box w.heap.size [.int .i64 x.f0, .int .i64 x.f1, .int .i64 x.f2] w wr) (fun i _ => 7 - (intOf i).toNat)
    case atStart => exact ⟨1, by omega, by omega, rfl, Lib.hid (NoSt.one x v m), B⟩
    case round =>
      clear B_0 B_1 B_2 B_f0 B_f1 B_f2 B_t
      clear B
      obtain ⟨k, hk1, hk7, rfl, HN, B⟩ := hrel
      have B_0 := B.cells 0 _ rfl
      have B_1 := B.cells 1 _ rfl
      have B_2 := B.cells 2 _ rfl
      have B_f0 := B.free 0 (by simp)
      have B_f1 := B.free 1 (by simp)
      have B_f2 := B.free 2 (by simp)
      have B_t := B.there
      by_cases hlt : k ≤ 6
      · have HK := Lib.hid (And.intro hk1 hlt)
        cases hq : asOk x v k
        · have HV := Lib.hid (as_no hq)
          have HNX := Lib.hid (HN.out.next (st_no1 (m := m) hq))
          go_wp2_with fail
          refine (as_impl x v k _).mono ?_
          rintro e v2 ⟨rfl, hv2⟩
          clear B_0 B_1 B_2 B_f0 B_f1 B_f2 B_t
          replace B := B.more hv2
          have zhv2 := hv2.size
          clear hv2
          have B_0 := B.cells 0 _ rfl
          have B_1 := B.cells 1 _ rfl
          have B_2 := B.cells 2 _ rfl
          have B_f0 := B.free 0 (by simp)
          have B_f1 := B.free 1 (by simp)
          have B_f2 := B.free 2 (by simp)
          have B_t := B.there
          rw [HV.out]
          unfold R.val zero
          go_wp2
          go_roundw
          case rel => exact ⟨k + 1, by omega, by have := HK.out; omega, by go_num, HNX, B.alloc _⟩
          case measure => have := HK.out; simp [intOf]; omega
        · have HV := Lib.hid (as_at hq)
          have HQ := Lib.hid hq; clear hq
          obtain ⟨y, hy⟩ : ∃ y, stg x (v / k) k = y := ⟨_, rfl⟩
          have HY := Lib.hid hy; clear hy
          go_wp2_with fail
          refine (as_impl x v k _).mono ?_
          rintro e v3 ⟨rfl, hv3⟩
          clear B_0 B_1 B_2 B_f0 B_f1 B_f2 B_t
          replace B := B.more hv3
          have zhv3 := hv3.size
          clear hv3
          have B_0 := B.cells 0 _ rfl
          have B_1 := B.cells 1 _ rfl
          have B_2 := B.cells 2 _ rfl
          have B_f0 := B.free 0 (by simp)
          have B_f1 := B.free 1 (by simp)
          have B_f2 := B.free 2 (by simp)
          have B_t := B.there
          rw [HV.out, HY.out]
          unfold R.val
          by_cases hd : y.f1 ≤ m
          · have HS := Lib.hid (sn_some HM.out HN.out HK.out.1 HK.out.2 (st_yes HQ.out (by rw [HY.out]; exact hd)))
            have hd' : decide (y.f1 ≤ m) = true := decide_eq_true hd
            go_wp2
            go_ret2
            exact rpost (by rw [HS.out] <;> rfl) (al B.below)
          · have HNX := Lib.hid (HN.out.next (st_no2 (x := x) (w := v) (n := k) (by rw [HY.out]; exact hd)))
            have hd' : decide (y.f1 ≤ m) = false := decide_eq_false hd
            go_wp2
            go_roundw
            case rel => exact ⟨k + 1, by omega, by have := HK.out; omega, by go_num, HNX, B.alloc _⟩
            case measure => have := HK.out; simp [intOf]; omega
      · have HS := Lib.hid (sn_none HN.out (show 7 ≤ k by omega))
        go_wp2
        go_ret2
        exact rpost (by rw [HS.out] <;> rfl) B.below
  · have HS := Lib.hid (sn_neg (x := x) (w := v) hm)
    go_enter Try.func27, Try.ntmps27
    go_wp2
    go_ret2
    exact rpost (by rw [HS.out] <;> rfl) (al (Below.refl _ _))
set_option maxHeartbeats 400000 in
theorem sn_spec (x : R) (v m : Int) (w : World) : Calls Try.prog 28 #[.agg #[.int .i64 x.f0, .int .i64 x.f1, .int .i64 x.f2], .int .i64 v, .int .i64 m] w (RPost (snV x v m) w) := by
  have hfd := field_dirt
  go_enter Try.func28, Try.ntmps28
  go_wp2_with fail
  have B := Box.new (Below.refl _ w) [.int .i64 x.f0, .int .i64 x.f1, .int .i64 x.f2] 25 (g := w.heap.size) rfl
  generalize (w.alloc (.cells #[.int .i64 x.f0, .int .i64 x.f1, .int .i64 x.f2] 25)) = W1 at B ⊢
  have B_0 := B.cells 0 _ rfl
  have B_1 := B.cells 1 _ rfl
  have B_2 := B.cells 2 _ rfl
  have B_f0 := B.free 0 (by simp)
  have B_f1 := B.free 1 (by simp)
  have B_f2 := B.free 2 (by simp)
  have B_t := B.there
  go_wp2_with fail
  refine (water_spec x v 0 _).mono ?_
  rintro e v2 ⟨rfl, hv2⟩
  clear B_0 B_1 B_2 B_f0 B_f1 B_f2 B_t
  replace B := B.more hv2
  have zhv2 := hv2.size
  clear hv2
  have B_0 := B.cells 0 _ rfl
  have B_1 := B.cells 1 _ rfl
  have B_2 := B.cells 2 _ rfl
  have B_f0 := B.free 0 (by simp)
  have B_f1 := B.free 1 (by simp)
  have B_f2 := B.free 2 (by simp)
  have B_t := B.there
  cases hw : awOk x v 0
  · have HS := Lib.hid (sn_aw (m := m) hw)
    go_wp2
    go_ret2
    exact rpost (by rw [HS.out] <;> rfl) B.below
  obtain ⟨hx, h0, h1, _, _⟩ := aw_parts hw
  have HX := Lib.hid hx
  have HW := Lib.hid (show isW v = true from inB_true ⟨h0, h1⟩)
  clear hw hx
  by_cases hm : 0 ≤ m
  · have HM := Lib.hid hm
    have hm' : decide (m < 0) = false := decide_eq_false (by omega)
    go_wp2_with fail
    go_loopw [8] (fun i wr => ∃ k : Nat, 1 ≤ k ∧ k ≤ 7 ∧ i = .int .i64 k ∧ Hid (NoSt x v m k) ∧ Box w.heap.size [.int .i64 x.f0, .int .i64 x.f1, .int .i64 x.f2] w wr) (fun i _ => 7 - (intOf i).toNat)
    case atStart => exact ⟨1, by omega, by omega, rfl, Lib.hid (NoSt.one x v m), B⟩
    case round =>
      clear B_0 B_1 B_2 B_f0 B_f1 B_f2 B_t
      clear B
      obtain ⟨k, hk1, hk7, rfl, HN, B⟩ := hrel
      have B_0 := B.cells 0 _ rfl
      have B_1 := B.cells 1 _ rfl
      have B_2 := B.cells 2 _ rfl
      have B_f0 := B.free 0 (by simp)
      have B_f1 := B.free 1 (by simp)
      have B_f2 := B.free 2 (by simp)
      have B_t := B.there
      by_cases hlt : k ≤ 6
      · have HK := Lib.hid (And.intro hk1 hlt)
        have e1 : v.tmod (k : Int) = v % k := Int.tmod_eq_emod_of_nonneg (by omega)
        have e2 : ((k : Int) == 0) = false := by rw [beq_eq_false_iff_ne]; omega
        have e5 : ¬ ((k : Int) = 0) := by omega
        have e3 : 0 ≤ v % k ∧ v % k < k := ⟨Int.emod_nonneg _ (by omega), Int.emod_lt_of_pos _ (by omega)⟩
        have e4 : IntKind.i64.wrap (v % k) = v % k := IntWalk.i64_in _ (by omega)
        clear e3
        cases hr : (v % (k : Int) == 0)
        · have HNX := Lib.hid (HN.out.next (st_no1 (m := m) (as3 (x := x) hr)))
          go_wp2
          go_roundw
          case rel => exact ⟨k + 1, by omega, by have := HK.out; omega, by go_num, HNX, B⟩
          case measure => have := HK.out; simp [intOf]; omega
        · have hq := as4 HX.out HW.out (show inB (k : Int) 1 6 = true from inB_true (by omega)) hr
          have HQ := Lib.hid hq
          obtain ⟨_, _, _, _, _, _, hu0, hu1⟩ := as_parts hq
          have HC := Lib.hid (fun W => stg_spec x v k HX.out h0 h1 (by omega) (by omega) hu0 hu1 W)
          obtain ⟨y, hy⟩ : ∃ y, stg x (v / k) k = y := ⟨_, rfl⟩
          have HY := Lib.hid (show stg x (v / k) (k : Int).toNat = y by rw [Int.toNat_natCast]; exact hy)
          have HYK := Lib.hid hy; clear hy
          clear hq hu0 hu1
          go_wp2_with fail
          refine (HC.out _).mono ?_
          rintro e v3 ⟨rfl, hv3⟩
          clear B_0 B_1 B_2 B_f0 B_f1 B_f2 B_t
          replace B := B.more hv3
          have zhv3 := hv3.size
          clear hv3
          have B_0 := B.cells 0 _ rfl
          have B_1 := B.cells 1 _ rfl
          have B_2 := B.cells 2 _ rfl
          have B_f0 := B.free 0 (by simp)
          have B_f1 := B.free 1 (by simp)
          have B_f2 := B.free 2 (by simp)
          have B_t := B.there
          rw [HY.out]
          unfold R.val
          by_cases hd : y.f1 ≤ m
          · have HS := Lib.hid (sn_some HM.out HN.out HK.out.1 HK.out.2 (st_yes HQ.out (by rw [HYK.out]; exact hd)))
            have hd' : decide (y.f1 ≤ m) = true := decide_eq_true hd
            go_wp2
            go_ret2
            exact rpost (by rw [HS.out] <;> rfl) B.below
          · have HNX := Lib.hid (HN.out.next (st_no2 (x := x) (w := v) (n := k) (by rw [HYK.out]; exact hd)))
            have hd' : decide (y.f1 ≤ m) = false := decide_eq_false hd
            go_wp2
            go_roundw
            case rel => exact ⟨k + 1, by omega, by have := HK.out; omega, by go_num, HNX, B⟩
            case measure => have := HK.out; simp [intOf]; omega
      · have HS := Lib.hid (sn_none HN.out (show 7 ≤ k by omega))
        go_wp2
        go_ret2
        exact rpost (by rw [HS.out] <;> rfl) B.below
  · have HS := Lib.hid (sn_neg (x := x) (w := v) hm)
    have hm' : decide (m < 0) = true := decide_eq_true (by omega)
    go_wp2
    go_ret2
    exact rpost (by rw [HS.out] <;> rfl) B.below
theorem lst_is2 {x : R} {m : Int} (hz : ¬ x.f2 = 0) : lst x m = (x.f1 * x.f2 + m - 1) / m - x.f2 := by unfold lst; rw [if_neg hz]
theorem lst_one {x : R} {m : Int} (hz : x.f2 = 0) : lst x m = 1 := by unfold lst; rw [if_pos hz]
theorem is_fit {x : R} {m : Int} (h : okT x = true) (hm : 0 ≤ m) (hd : ¬ x.f1 ≤ m) (h0 : x.f2 = 0 ∨ 1 ≤ m) : fit x m 100000000 = isW (lst x m) := by
  have hp := lst_pos h (by omega) h0
  rw [fit_lst h hm (by omega) h0 (by omega)]
  unfold isW inB
  rw [decide_eq_decide]; omega
set_option maxHeartbeats 400000 in
theorem wn_impl (x : R) (m : Int) (w : World) : Calls Try.prog 21 #[.agg #[.int .i64 x.f0, .int .i64 x.f1, .int .i64 x.f2], .int .i64 m] w (RPost (wnV x m) w) := by
  go_enter Try.func21, Try.ntmps21
  go_wp2_with fail
  have B := Box.new (Below.refl _ w) [.int .i64 x.f0, .int .i64 x.f1, .int .i64 x.f2] 25 (g := w.heap.size) rfl
  generalize (w.alloc (.cells #[.int .i64 x.f0, .int .i64 x.f1, .int .i64 x.f2] 25)) = W1 at B ⊢
  have B_0 := B.cells 0 _ rfl
  have B_1 := B.cells 1 _ rfl
  have B_2 := B.cells 2 _ rfl
  have B_f0 := B.free 0 (by simp)
  have B_f1 := B.free 1 (by simp)
  have B_f2 := B.free 2 (by simp)
  have B_t := B.there
  go_wp2_with fail
  refine (is_impl x _).mono ?_
  rintro e v2 ⟨rfl, hv2⟩
  clear B_0 B_1 B_2 B_f0 B_f1 B_f2 B_t
  replace B := B.more hv2
  have zhv2 := hv2.size
  clear hv2
  have B_0 := B.cells 0 _ rfl
  have B_1 := B.cells 1 _ rfl
  have B_2 := B.cells 2 _ rfl
  have B_f0 := B.free 0 (by simp)
  have B_f1 := B.free 1 (by simp)
  have B_f2 := B.free 2 (by simp)
  have B_t := B.there
  cases hx : okT x
  · have HV := Lib.hid (wn_bad (m := m) (.inl hx))
    go_wp2
    go_ret2
    exact rpost (by rw [HV.out] <;> rfl) B.below
  by_cases hm : 0 ≤ m
  · have hm' : decide (m < 0) = false := decide_eq_false (by omega)
    by_cases hd : x.f1 ≤ m
    · have HV := Lib.hid (wn_zero hx hm hd)
      have hd' : decide (x.f1 ≤ m) = true := decide_eq_true hd
      go_wp2
      go_ret2
      exact rpost (by rw [HV.out] <;> rfl) B.below
    have hd' : decide (x.f1 ≤ m) = false := decide_eq_false hd
    by_cases hz : x.f2 = 0
    · have HV := Lib.hid (wn_yes hx hm (by omega) (by rw [fit_lst hx hm (by omega) (.inl hz) (by omega), lst_one hz]; decide))
      have HL := Lib.hid (lst_one (m := m) hz)
      have hz' : (x.f2 == 0) = true := beq_iff_eq.2 hz
      clear hz
      go_wp2
      go_ret2
      exact rpost (by rw [HV.out, HL.out] <;> rfl) B.below
    have hz' : (x.f2 == 0) = false := beq_eq_false_iff_ne.2 hz
    by_cases hm0 : m = 0
    · have HV := Lib.hid (wn_no hx hm (by omega) (fit_none hx (by omega) hz hm0 (by omega)))
      have hm0' : (m == 0) = true := beq_iff_eq.2 hm0
      clear hm0
      go_wp2
      go_ret2
      exact rpost (by rw [HV.out] <;> rfl) B.below
    have hm0' : (m == 0) = false := beq_eq_false_iff_ne.2 hm0
    obtain ⟨a0, a1, a2, a3, a4, a5⟩ := okT_true hx
    have p0 : 0 ≤ x.f1 * x.f2 := Int.mul_nonneg a2 a4
    have p1 : x.f1 * x.f2 ≤ 100000000 * 100000000 := Int.mul_le_mul a3 a5 a4 (by omega)
    have e1 : IntKind.i64.wrap (x.f1 * x.f2) = x.f1 * x.f2 := IntWalk.i64_in _ (by omega)
    have e2 : 0 ≤ (x.f1 * x.f2 + m - 1) / m := Int.ediv_nonneg (by omega) (by omega)
    have e3 : (x.f1 * x.f2 + m - 1) / m ≤ x.f1 * x.f2 + m - 1 := Int.ediv_le_self _ (by omega)
    have HU := Lib.hid (fun W => up_impl (x.f1 * x.f2) m p0 (by omega) (by omega) (by omega) W)
    have HL := Lib.hid (lst_is2 (m := m) hz)
    have HF := Lib.hid (is_fit hx hm (by omega) (.inr (by omega)))
    obtain ⟨c, hc⟩ : ∃ c, (x.f1 * x.f2 + m - 1) / m = c := ⟨_, rfl⟩
    rw [hc] at e2 e3
    have HC := Lib.hid hc; clear hc
    have e4 : IntKind.i64.wrap (c - x.f2) = c - x.f2 := IntWalk.i64_in _ (by omega)
    clear e2 e3 p0 p1
    go_wp2_with fail
    refine wp_region_text (fun w' => Box (w.heap.size) [.int .i64 x.f0, .int .i64 x.f1, .int .i64 x.f2] w w') (by kernel_rfl) (by kernel_rfl) (B.drew) ?_
    clear B_0 B_1 B_2 B_f0 B_f1 B_f2 B_t
    iterate 11 (
      apply SeqH.one
      · intro uw K hS hK
        have qB := hS
        have qB_0 := qB.cells 0 _ rfl
        have qB_1 := qB.cells 1 _ rfl
        have qB_2 := qB.cells 2 _ rfl
        first
          | (go_simp; exact hK.out _ qB)
          | (go_simp; go_at_call 58; (with_reducible refine (HU.out _).mono ?_); rintro e _ ⟨rfl, rfl⟩; rw [HC.out]; go_wp2_with fail; exact hK.out _ qB)
      try simp only [Act.put, List.setIfInBounds_toArray, List.set_cons_zero, List.set_cons_succ])
    refine SeqH.end' rfl ?_
    intro v3 hS
    clear B
    have B := hS; clear hS
    have B_0 := B.cells 0 _ rfl
    have B_1 := B.cells 1 _ rfl
    have B_2 := B.cells 2 _ rfl
    have B_f0 := B.free 0 (by simp)
    have B_f1 := B.free 1 (by simp)
    have B_f2 := B.free 2 (by simp)
    have B_t := B.there
    cases hq : isW (c - x.f2)
    · have HV := Lib.hid (wn_no hx hm (by omega) (by rw [HF.out, HL.out, HC.out]; exact hq))
      go_wp2_with (go_at_call 52; (with_reducible refine (water_impl _ _).mono ?_); rintro e' w' ⟨rfl, rfl⟩)
      go_ret2
      exact rpost (by rw [HV.out] <;> rfl) B.below
    · have HV := Lib.hid (wn_yes hx hm (by omega) (by rw [HF.out, HL.out, HC.out]; exact hq))
      go_wp2_with (go_at_call 52; (with_reducible refine (water_impl _ _).mono ?_); rintro e' w' ⟨rfl, rfl⟩)
      go_ret2
      exact rpost (by rw [HV.out, HL.out, HC.out] <;> rfl) B.below
  · have HV := Lib.hid (wn_bad (x := x) (.inr hm))
    have hm' : decide (m < 0) = true := decide_eq_true (by omega)
    go_wp2
    go_ret2
    exact rpost (by rw [HV.out] <;> rfl) B.below
set_option maxHeartbeats 400000 in
theorem wn_spec (x : R) (m : Int) (w : World) : Calls Try.prog 22 #[.agg #[.int .i64 x.f0, .int .i64 x.f1, .int .i64 x.f2], .int .i64 m] w (RPost (wnV x m) w) := by
  go_enter Try.func22, Try.ntmps22
  go_wp2_with fail
  have B := Box.new (Below.refl _ w) [.int .i64 x.f0, .int .i64 x.f1, .int .i64 x.f2] 25 (g := w.heap.size) rfl
  generalize (w.alloc (.cells #[.int .i64 x.f0, .int .i64 x.f1, .int .i64 x.f2] 25)) = W1 at B ⊢
  have B_0 := B.cells 0 _ rfl
  have B_1 := B.cells 1 _ rfl
  have B_2 := B.cells 2 _ rfl
  have B_f0 := B.free 0 (by simp)
  have B_f1 := B.free 1 (by simp)
  have B_f2 := B.free 2 (by simp)
  have B_t := B.there
  go_wp2_with fail
  refine (good_spec x _).mono ?_
  rintro e v2 ⟨rfl, hv2⟩
  clear B_0 B_1 B_2 B_f0 B_f1 B_f2 B_t
  replace B := B.more hv2
  have zhv2 := hv2.size
  clear hv2
  have B_0 := B.cells 0 _ rfl
  have B_1 := B.cells 1 _ rfl
  have B_2 := B.cells 2 _ rfl
  have B_f0 := B.free 0 (by simp)
  have B_f1 := B.free 1 (by simp)
  have B_f2 := B.free 2 (by simp)
  have B_t := B.there
  cases hx : okT x
  · have HV := Lib.hid (wn_bad (m := m) (.inl hx))
    go_wp2
    go_ret2
    exact rpost (by rw [HV.out] <;> rfl) B.below
  by_cases hm : 0 ≤ m
  · have hm' : decide (m < 0) = false := decide_eq_false (by omega)
    by_cases hd : x.f1 ≤ m
    · have HV := Lib.hid (wn_zero hx hm hd)
      have hd' : decide (x.f1 ≤ m) = true := decide_eq_true hd
      go_wp2
      go_ret2
      exact rpost (by rw [HV.out] <;> rfl) B.below
    have hd' : decide (x.f1 ≤ m) = false := decide_eq_false hd
    have HF := Lib.hid (show fit x m 100000000 = decide ((wash x 100000000 0).f1 ≤ m) from rfl)
    obtain ⟨y, hy⟩ : ∃ y, wash x 100000000 0 = y := ⟨_, rfl⟩
    have HY := Lib.hid hy; clear hy
    go_wp2_with fail
    refine (wash_spec x 100000000 0 hx (by omega) (Int.le_refl _) (Int.le_refl _) (by omega) _).mono ?_
    rintro e v3 ⟨rfl, hv3⟩
    clear B_0 B_1 B_2 B_f0 B_f1 B_f2 B_t
    replace B := B.more hv3
    have zhv3 := hv3.size
    clear hv3
    have B_0 := B.cells 0 _ rfl
    have B_1 := B.cells 1 _ rfl
    have B_2 := B.cells 2 _ rfl
    have B_f0 := B.free 0 (by simp)
    have B_f1 := B.free 1 (by simp)
    have B_f2 := B.free 2 (by simp)
    have B_t := B.there
    rw [HY.out]
    unfold R.val
    by_cases hf : y.f1 ≤ m
    · have HV := Lib.hid (wn_yes hx hm (by omega) (by rw [HF.out, HY.out]; exact decide_eq_true hf))
      have HFF := Lib.hid (show fit x m 100000000 = true by rw [HF.out, HY.out]; exact decide_eq_true hf)
      have HX := Lib.hid hx
      have HM := Lib.hid (And.intro hm hd)
      have hf' : decide (m < y.f1) = false := decide_eq_false (by omega)
      clear hx hm hd hd' hm' hf
      go_wp2_with fail
      have B_t4 := B.there
      have Y := Box.new B.below [.int .i64 y.f0, .int .i64 y.f1, .int .i64 y.f2] 25 (g := v3.heap.size) rfl
      clear B_0 B_1 B_2 B_f0 B_f1 B_f2 B_t
      replace B := (B).alloc (.cells #[.int .i64 y.f0, .int .i64 y.f1, .int .i64 y.f2] 25)
      generalize (v3.alloc (.cells #[.int .i64 y.f0, .int .i64 y.f1, .int .i64 y.f2] 25)) = W4 at Y B ⊢
      have B_0 := B.cells 0 _ rfl
      have B_1 := B.cells 1 _ rfl
      have B_2 := B.cells 2 _ rfl
      have B_f0 := B.free 0 (by simp)
      have B_f1 := B.free 1 (by simp)
      have B_f2 := B.free 2 (by simp)
      have B_t := B.there
      have Y_0 := Y.cells 0 _ rfl
      have Y_1 := Y.cells 1 _ rfl
      have Y_2 := Y.cells 2 _ rfl
      have Y_f0 := Y.free 0 (by simp)
      have Y_f1 := Y.free 1 (by simp)
      have Y_f2 := Y.free 2 (by simp)
      have Y_t := Y.there
      go_loopw [6, 7] (fun a b wr => ∃ p q : Int, 1 ≤ p ∧ p ≤ q ∧ q ≤ 100000000 ∧ a = .int .i64 p ∧ b = .int .i64 q ∧ Hid (fit x m q = true) ∧ Hid (p = 1 ∨ fit x m (p - 1) = false) ∧ Box w.heap.size [.int .i64 x.f0, .int .i64 x.f1, .int .i64 x.f2] w wr) (fun a b _ => (intOf b - intOf a).toNat)
      case atStart => exact ⟨1, 100000000, by omega, by omega, by omega, rfl, rfl, HFF, Lib.hid (.inl rfl), B⟩
      case round =>
        clear B_0 B_1 B_2 B_f0 B_f1 B_f2 B_t
        clear Y_0 Y_1 Y_2 Y_f0 Y_f1 Y_f2 Y_t
        clear B Y HFF
        obtain ⟨p, q, h1, h2, h3, rfl, rfl, HQ, HP, B⟩ := hrel
        have B_0 := B.cells 0 _ rfl
        have B_1 := B.cells 1 _ rfl
        have B_2 := B.cells 2 _ rfl
        have B_f0 := B.free 0 (by simp)
        have B_f1 := B.free 1 (by simp)
        have B_f2 := B.free 2 (by simp)
        have B_t := B.there
        by_cases hlt : p < q
        · have hlt' : decide (p < q) = true := decide_eq_true hlt
          have e1 : (p + q).tdiv 2 = (p + q) / 2 := Int.tdiv_eq_ediv_of_nonneg (by omega)
          obtain ⟨c, hc⟩ : ∃ c, (p + q) / 2 = c := ⟨_, rfl⟩
          have c0 : p ≤ c := by omega
          have c1 : c < q := by omega
          rw [hc] at e1
          clear hc
          have HH := Lib.hid (show 1 ≤ p ∧ p ≤ c ∧ c < q ∧ q ≤ 100000000 from ⟨h1, c0, c1, h3⟩)
          have e2 : IntKind.i64.wrap c = c := IntWalk.i64_in _ (by omega)
          have HF2 := Lib.hid (show fit x m c = decide ((wash x c 0).f1 ≤ m) from rfl)
          obtain ⟨z, hz⟩ : ∃ z, wash x c 0 = z := ⟨_, rfl⟩
          have HZ := Lib.hid hz; clear hz
          go_wp2_with fail
          refine (wash_spec x c 0 HX.out (by omega) (by omega) (Int.le_refl _) (by omega) _).mono ?_
          rintro e v1 ⟨rfl, hv1⟩
          clear B_0 B_1 B_2 B_f0 B_f1 B_f2 B_t
          replace B := B.more hv1
          have zhv1 := hv1.size
          clear hv1
          have B_0 := B.cells 0 _ rfl
          have B_1 := B.cells 1 _ rfl
          have B_2 := B.cells 2 _ rfl
          have B_f0 := B.free 0 (by simp)
          have B_f1 := B.free 1 (by simp)
          have B_f2 := B.free 2 (by simp)
          have B_t := B.there
          rw [HZ.out]
          unfold R.val
          by_cases hd : z.f1 ≤ m
          · have HN := Lib.hid (show fit x m c = true by rw [HF2.out, HZ.out]; exact decide_eq_true hd)
            have hd' : decide (z.f1 ≤ m) = true := decide_eq_true hd
            go_wp2
            go_roundw
            case rel => exact ⟨p, c, by have := HH.out; omega, by have := HH.out; omega, by have := HH.out; omega, rfl, rfl, HN, HP, B.alloc _⟩
            case measure => have := HH.out; simp [intOf]; omega
          · have HN := Lib.hid (show fit x m (c + 1 - 1) = false by rw [show c + 1 - 1 = c by omega, HF2.out, HZ.out]; exact decide_eq_false hd)
            have hd' : decide (z.f1 ≤ m) = false := decide_eq_false hd
            go_wp2
            go_roundw
            case rel => exact ⟨c + 1, q, by have := HH.out; omega, by have := HH.out; omega, by have := HH.out; omega, by go_num, rfl, HQ, Lib.hid (.inr HN.out), B.alloc _⟩
            case measure => have := HH.out; simp [intOf]; omega
        · have hlt' : decide (p < q) = false := decide_eq_false hlt
          have HE := Lib.hid (lst_is HX.out (by have := HM.out.2; omega) HM.out.1 h1 (by have := HQ.out; rwa [show q = p by omega] at this) HP.out)
          go_wp2
          go_ret2
          exact rpost (by rw [HV.out, HE.out] <;> rfl) B.below
    · have HV := Lib.hid (wn_no hx hm (by omega) (by rw [HF.out, HY.out]; exact decide_eq_false hf))
      have hf' : decide (m < y.f1) = true := decide_eq_true (by omega)
      go_wp2
      go_ret2
      exact rpost (by rw [HV.out] <;> rfl) (al B.below)
  · have HV := Lib.hid (wn_bad (x := x) (.inr hm))
    have hm' : decide (m < 0) = true := decide_eq_true (by omega)
    go_wp2
    go_ret2
    exact rpost (by rw [HV.out] <;> rfl) B.below
end Go.Proofs.Ytpokgnkcnibapaa.BatW
