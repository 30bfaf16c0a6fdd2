/- The laws on trips whose answers are numbers or a row of numbers, walked. Made by tools/mk_law11.py. -/
import Derived.Test.YtphflbgljejokaaTripW
import Derived.Test.YtphflbgljejokaaTripF
namespace Go.Proofs.Ytphflbgljejokaa.Laws11a
open Go.RowKit Go.Proofs.Ytphflbgljejokaa.Mem Go.Proofs.Ytphflbgljejokaa.Base Go.Proofs.Ytphflbgljejokaa.STrip Go.Proofs.Ytphflbgljejokaa.Regn Go.Proofs.Ytphflbgljejokaa.Boxes Go.Proofs.Ytphflbgljejokaa.Keep Go.Proofs.Ytphflbgljejokaa.TripP Go.Proofs.Ytphflbgljejokaa.TripL
set_option linter.unusedVariables false
set_option linter.unusedSimpArgs false
set_option maxRecDepth 100000
/-- What each walk of a law ends in. -/
def Yes (w : World) (e : Ending) (w' : World) : Prop := e = .returned (.bool true) ∧ Below w.heap.size w w'
theorem is_law (t : R) (w : World) : Calls Try.prog 5 #[.agg #[.int .i64 t.f0, .int .i64 t.f1, .int .i64 t.f2, .int .i64 t.f3, .int .i64 t.f4]] w (Yes w) := by
  go_enter Try.func5, Try.ntmps5
  go_wp2_with fail
  have P := Box.new (Below.refl _ w) [.int .i64 t.f0, .int .i64 t.f1, .int .i64 t.f2, .int .i64 t.f3, .int .i64 t.f4] 54 (g := w.heap.size) rfl
  generalize (w.alloc (.cells #[.int .i64 t.f0, .int .i64 t.f1, .int .i64 t.f2, .int .i64 t.f3, .int .i64 t.f4] 54)) = W1 at P ⊢
  have P_0 := P.cells 0 _ rfl
  have P_1 := P.cells 1 _ rfl
  have P_2 := P.cells 2 _ rfl
  have P_3 := P.cells 3 _ rfl
  have P_4 := P.cells 4 _ rfl
  have P_f0 := P.free 0 (by simp)
  have P_f1 := P.free 1 (by simp)
  have P_f2 := P.free 2 (by simp)
  have P_f3 := P.free 3 (by simp)
  have P_f4 := P.free 4 (by simp)
  have P_t := P.there
  go_wp2_with fail
  refine (STrip.to_any t _).mono ?_
  rintro e v2 ⟨rfl, hv2⟩
  clear P_0 P_1 P_2 P_3 P_4 P_f0 P_f1 P_f2 P_f3 P_f4 P_t
  replace P := P.more hv2
  have zhv2 := hv2.size
  clear hv2
  have P_0 := P.cells 0 _ rfl
  have P_1 := P.cells 1 _ rfl
  have P_2 := P.cells 2 _ rfl
  have P_3 := P.cells 3 _ rfl
  have P_4 := P.cells 4 _ rfl
  have P_f0 := P.free 0 (by simp)
  have P_f1 := P.free 1 (by simp)
  have P_f2 := P.free 2 (by simp)
  have P_f3 := P.free 3 (by simp)
  have P_f4 := P.free 4 (by simp)
  have P_t := P.there
  unfold STrip.R.val
  go_wp2_with fail
  refine (TripS.is_spec t _).mono ?_
  rintro e v3 ⟨rfl, hv3⟩
  clear P_0 P_1 P_2 P_3 P_4 P_f0 P_f1 P_f2 P_f3 P_f4 P_t
  replace P := P.more hv3
  have zhv3 := hv3.size
  clear hv3
  have P_0 := P.cells 0 _ rfl
  have P_1 := P.cells 1 _ rfl
  have P_2 := P.cells 2 _ rfl
  have P_3 := P.cells 3 _ rfl
  have P_4 := P.cells 4 _ rfl
  have P_f0 := P.free 0 (by simp)
  have P_f1 := P.free 1 (by simp)
  have P_f2 := P.free 2 (by simp)
  have P_f3 := P.free 3 (by simp)
  have P_f4 := P.free 4 (by simp)
  have P_t := P.there
  go_wp2_with fail
  refine (STrip.to_any t _).mono ?_
  rintro e v4 ⟨rfl, hv4⟩
  clear P_0 P_1 P_2 P_3 P_4 P_f0 P_f1 P_f2 P_f3 P_f4 P_t
  replace P := P.more hv4
  have zhv4 := hv4.size
  clear hv4
  have P_0 := P.cells 0 _ rfl
  have P_1 := P.cells 1 _ rfl
  have P_2 := P.cells 2 _ rfl
  have P_3 := P.cells 3 _ rfl
  have P_4 := P.cells 4 _ rfl
  have P_f0 := P.free 0 (by simp)
  have P_f1 := P.free 1 (by simp)
  have P_f2 := P.free 2 (by simp)
  have P_f3 := P.free 3 (by simp)
  have P_f4 := P.free 4 (by simp)
  have P_t := P.there
  unfold STrip.R.val
  go_wp2_with fail
  refine (TripS.one_impl t _).mono ?_
  rintro e v5 ⟨rfl, hv5⟩
  clear P_0 P_1 P_2 P_3 P_4 P_f0 P_f1 P_f2 P_f3 P_f4 P_t
  replace P := P.more hv5
  have zhv5 := hv5.size
  clear hv5
  have P_0 := P.cells 0 _ rfl
  have P_1 := P.cells 1 _ rfl
  have P_2 := P.cells 2 _ rfl
  have P_3 := P.cells 3 _ rfl
  have P_4 := P.cells 4 _ rfl
  have P_f0 := P.free 0 (by simp)
  have P_f1 := P.free 1 (by simp)
  have P_f2 := P.free 2 (by simp)
  have P_f3 := P.free 3 (by simp)
  have P_f4 := P.free 4 (by simp)
  have P_t := P.there
  generalize okT t = q
  go_wp2
  go_ret
  exact ⟨rfl, P.below⟩
theorem ao_law (t : R) (w : World) : Calls Try.prog 7 #[.agg #[.int .i64 t.f0, .int .i64 t.f1, .int .i64 t.f2, .int .i64 t.f3, .int .i64 t.f4]] w (Yes w) := by
  obtain ⟨n, q, hv⟩ := arr_form t
  have HV := Lib.hid hv; clear hv
  go_enter Try.func7, Try.ntmps7
  go_wp2_with fail
  have P := Box.new (Below.refl _ w) [.int .i64 t.f0, .int .i64 t.f1, .int .i64 t.f2, .int .i64 t.f3, .int .i64 t.f4] 54 (g := w.heap.size) rfl
  generalize (w.alloc (.cells #[.int .i64 t.f0, .int .i64 t.f1, .int .i64 t.f2, .int .i64 t.f3, .int .i64 t.f4] 54)) = W1 at P ⊢
  have P_0 := P.cells 0 _ rfl
  have P_1 := P.cells 1 _ rfl
  have P_2 := P.cells 2 _ rfl
  have P_3 := P.cells 3 _ rfl
  have P_4 := P.cells 4 _ rfl
  have P_f0 := P.free 0 (by simp)
  have P_f1 := P.free 1 (by simp)
  have P_f2 := P.free 2 (by simp)
  have P_f3 := P.free 3 (by simp)
  have P_f4 := P.free 4 (by simp)
  have P_t := P.there
  go_wp2_with fail
  refine (STrip.to_any t _).mono ?_
  rintro e v2 ⟨rfl, hv2⟩
  clear P_0 P_1 P_2 P_3 P_4 P_f0 P_f1 P_f2 P_f3 P_f4 P_t
  replace P := P.more hv2
  have zhv2 := hv2.size
  clear hv2
  have P_0 := P.cells 0 _ rfl
  have P_1 := P.cells 1 _ rfl
  have P_2 := P.cells 2 _ rfl
  have P_3 := P.cells 3 _ rfl
  have P_4 := P.cells 4 _ rfl
  have P_f0 := P.free 0 (by simp)
  have P_f1 := P.free 1 (by simp)
  have P_f2 := P.free 2 (by simp)
  have P_f3 := P.free 3 (by simp)
  have P_f4 := P.free 4 (by simp)
  have P_t := P.there
  unfold STrip.R.val
  go_wp2_with fail
  refine (ao_spec t _).mono ?_
  rintro e v3 ⟨rfl, hv3⟩
  clear P_0 P_1 P_2 P_3 P_4 P_f0 P_f1 P_f2 P_f3 P_f4 P_t
  replace P := P.more hv3
  have zhv3 := hv3.size
  clear hv3
  have P_0 := P.cells 0 _ rfl
  have P_1 := P.cells 1 _ rfl
  have P_2 := P.cells 2 _ rfl
  have P_3 := P.cells 3 _ rfl
  have P_4 := P.cells 4 _ rfl
  have P_f0 := P.free 0 (by simp)
  have P_f1 := P.free 1 (by simp)
  have P_f2 := P.free 2 (by simp)
  have P_f3 := P.free 3 (by simp)
  have P_f4 := P.free 4 (by simp)
  have P_t := P.there
  rw [HV.out]
  go_wp2_with fail
  refine (STrip.to_any t _).mono ?_
  rintro e v4 ⟨rfl, hv4⟩
  clear P_0 P_1 P_2 P_3 P_4 P_f0 P_f1 P_f2 P_f3 P_f4 P_t
  replace P := P.more hv4
  have zhv4 := hv4.size
  clear hv4
  have P_0 := P.cells 0 _ rfl
  have P_1 := P.cells 1 _ rfl
  have P_2 := P.cells 2 _ rfl
  have P_3 := P.cells 3 _ rfl
  have P_4 := P.cells 4 _ rfl
  have P_f0 := P.free 0 (by simp)
  have P_f1 := P.free 1 (by simp)
  have P_f2 := P.free 2 (by simp)
  have P_f3 := P.free 3 (by simp)
  have P_f4 := P.free 4 (by simp)
  have P_t := P.there
  unfold STrip.R.val
  go_wp2_with fail
  refine (ao_impl t _).mono ?_
  rintro e v5 ⟨rfl, hv5⟩
  clear P_0 P_1 P_2 P_3 P_4 P_f0 P_f1 P_f2 P_f3 P_f4 P_t
  replace P := P.more hv5
  have zhv5 := hv5.size
  clear hv5
  have P_0 := P.cells 0 _ rfl
  have P_1 := P.cells 1 _ rfl
  have P_2 := P.cells 2 _ rfl
  have P_3 := P.cells 3 _ rfl
  have P_4 := P.cells 4 _ rfl
  have P_f0 := P.free 0 (by simp)
  have P_f1 := P.free 1 (by simp)
  have P_f2 := P.free 2 (by simp)
  have P_f3 := P.free 3 (by simp)
  have P_f4 := P.free 4 (by simp)
  have P_t := P.there
  rw [HV.out]
  go_wp2
  go_ret
  exact ⟨rfl, P.below⟩
theorem are_impl (P : Option Addr) (cap : Nat) (l : List R) (w : World) (hr : Rd w w.heap.size P (flat l)) (hc : l.length ≤ cap) (hn : l.length ≤ 1048576) :
    Calls Try.prog 35 #[.slice P l.length cap] w (RPost (.bool (good l)) w) := TripG.are_impl P cap l w hr hn
theorem are_law (P : Option Addr) (cap : Nat) (l : List STrip.R) (w : World) (hr : Rd w w.heap.size P (STrip.flat l)) (hn : l.length ≤ maxLen) :
    Calls Try.prog 6 #[.slice P l.length cap] w (Yes w) := by
  have HN := Lib.hid hn
  unfold maxLen at hn
  by_cases hbig : 1048576 < l.length
  · have HS := Lib.hid (show STrip.szV 1048576 l.length = -1 by unfold STrip.szV; rw [if_pos (by omega)])
    go_enter Try.func6, Try.ntmps6
    go_wp2_with fail
    refine (STrip.szS_any P cap l.length 1048576 w (by omega) (by omega) HN.out).mono ?_
    rintro e _ ⟨rfl, rfl⟩
    rw [HS.out]
    go_wp2
    go_ret
    exact ⟨rfl, Below.refl _ _⟩
  · have HS := Lib.hid (show STrip.szV 1048576 l.length = 1048576 - l.length by unfold STrip.szV; rw [if_neg (by omega)])
    obtain ⟨q, hv⟩ : ∃ q, Value.bool (good l) = .bool q := ⟨_, rfl⟩
    have HV := Lib.hid hv; clear hv
    go_enter Try.func6, Try.ntmps6
    go_wp2_with fail
    refine (STrip.szS_any P cap l.length 1048576 w (by omega) (by omega) HN.out).mono ?_
    rintro e _ ⟨rfl, rfl⟩
    rw [HS.out]
    go_wp2_with fail
    refine (STrip.toS_any P cap l w hr (by omega)).mono ?_
    rintro e v2 ⟨rfl, ho1, hb1⟩
    go_wp2_with fail
    refine (TripL.are_spec _ _ l _ (Rd.of_own ho1) (by omega)).mono ?_
    rintro e v3 ⟨rfl, hb2⟩
    rw [HV.out]
    have HB := be hb1 hb2
    clear ho1 hb1 hb2
    go_wp2_with fail
    refine (STrip.toS_any P cap l _ ((hr.below HB (Nat.le_refl _)).mono HB.size) (by omega)).mono ?_
    rintro e v4 ⟨rfl, ho, hv4⟩
    replace HB := be HB hv4
    have zhv4 := hv4.size
    go_wp2_with fail
    refine (are_impl _ _ l _ (Rd.of_own ho) (Nat.le_refl _) (by omega)).mono ?_
    rintro e v5 ⟨rfl, hv5⟩
    replace HB := be HB hv5
    replace ho := own_keep ho hv5
    have zhv5 := hv5.size
    rw [HV.out]
    go_wp2_with fail
    refine (STrip.toS_any P cap l _ ((hr.below HB (Nat.le_refl _)).mono HB.size) (by omega)).mono ?_
    rintro e v6 ⟨rfl, ho2, hv6⟩
    replace HB := be HB hv6
    replace ho := own_keep ho hv6
    have zhv6 := hv6.size
    go_wp2_with fail
    refine (STrip.eqS_any _ _ _ _ l l _ (Rd.of_own ho) (Rd.of_own ho2) HN.out HN.out).mono ?_
    rintro e v7 ⟨rfl, hv7⟩
    replace HB := be HB hv7
    replace ho := own_keep ho hv7
    have zhv7 := hv7.size
    rw [decide_eq_true rfl]
    go_wp2
    go_ret
    exact ⟨rfl, HB⟩
theorem ld_law (P : Option Addr) (cap : Nat) (l : List STrip.R) (s : Int) (m : Int) (w : World) (hr : Rd w w.heap.size P (STrip.flat l)) (hn : l.length ≤ maxLen) :
    Calls Try.prog 12 #[.slice P l.length cap, .int .i64 s, .int .i64 m] w (Yes w) := by
  have HN := Lib.hid hn
  unfold maxLen at hn
  by_cases hbig : 1048576 < l.length
  · have HS := Lib.hid (show STrip.szV 1048576 l.length = -1 by unfold STrip.szV; rw [if_pos (by omega)])
    go_enter Try.func12, Try.ntmps12
    go_wp2_with fail
    refine (STrip.szS_any P cap l.length 1048576 w (by omega) (by omega) HN.out).mono ?_
    rintro e _ ⟨rfl, rfl⟩
    rw [HS.out]
    go_wp2
    go_ret
    exact ⟨rfl, Below.refl _ _⟩
  · have HS := Lib.hid (show STrip.szV 1048576 l.length = 1048576 - l.length by unfold STrip.szV; rw [if_neg (by omega)])
    obtain ⟨x, q, hv⟩ : ∃ x q, ldV l s m = .tuple #[.int .i64 x, .bool q] := ld_form l s m
    have HV := Lib.hid hv; clear hv
    go_enter Try.func12, Try.ntmps12
    go_wp2_with fail
    refine (STrip.szS_any P cap l.length 1048576 w (by omega) (by omega) HN.out).mono ?_
    rintro e _ ⟨rfl, rfl⟩
    rw [HS.out]
    go_wp2_with fail
    refine (STrip.toS_any P cap l w hr (by omega)).mono ?_
    rintro e v2 ⟨rfl, ho1, hb1⟩
    go_wp2_with fail
    refine (TripL.ld_spec _ _ l s m _ (Rd.of_own ho1) (by omega)).mono ?_
    rintro e v3 ⟨rfl, hb2⟩
    rw [HV.out]
    have HB := be hb1 hb2
    clear ho1 hb1 hb2
    go_wp2_with fail
    refine (STrip.toS_any P cap l _ ((hr.below HB (Nat.le_refl _)).mono HB.size) (by omega)).mono ?_
    rintro e v4 ⟨rfl, ho, hv4⟩
    replace HB := be HB hv4
    have zhv4 := hv4.size
    go_wp2_with fail
    refine (TripL.ld_impl _ _ l s m _ (Rd.of_own ho) (Nat.le_refl _) (by omega)).mono ?_
    rintro e v5 ⟨rfl, hv5⟩
    replace HB := be HB hv5
    replace ho := own_keep ho hv5
    have zhv5 := hv5.size
    rw [HV.out]
    go_wp2_with fail
    refine (STrip.toS_any P cap l _ ((hr.below HB (Nat.le_refl _)).mono HB.size) (by omega)).mono ?_
    rintro e v6 ⟨rfl, ho2, hv6⟩
    replace HB := be HB hv6
    replace ho := own_keep ho hv6
    have zhv6 := hv6.size
    go_wp2_with fail
    refine (STrip.eqS_any _ _ _ _ l l _ (Rd.of_own ho) (Rd.of_own ho2) HN.out HN.out).mono ?_
    rintro e v7 ⟨rfl, hv7⟩
    replace HB := be HB hv7
    replace ho := own_keep ho hv7
    have zhv7 := hv7.size
    rw [decide_eq_true rfl]
    go_wp2
    go_ret
    exact ⟨rfl, HB⟩
theorem way_len (l : List R) (m : Int) : (TripW.wayF l m).length ≤ 100 := TripW.way_len l m
set_option maxHeartbeats 800000 in
theorem way_law (P : Option Addr) (cap : Nat) (l : List STrip.R) (m : Int) (w : World) (hr : Rd w w.heap.size P (STrip.flat l)) (hn : l.length ≤ maxLen) :
    Calls Try.prog 13 #[.slice P l.length cap, .int .i64 m] w (Yes w) := by
  have HN := Lib.hid hn
  unfold maxLen at hn
  by_cases hbig : 1048576 < l.length
  · have HS := Lib.hid (show STrip.szV 1048576 l.length = -1 by unfold STrip.szV; rw [if_pos (by omega)])
    go_enter Try.func13, Try.ntmps13
    go_wp2_with fail
    refine (STrip.szS_any P cap l.length 1048576 w (by omega) (by omega) HN.out).mono ?_
    rintro e _ ⟨rfl, rfl⟩
    rw [HS.out]
    go_wp2
    go_ret
    exact ⟨rfl, Below.refl _ _⟩
  · have HS := Lib.hid (show STrip.szV 1048576 l.length = 1048576 - l.length by unfold STrip.szV; rw [if_neg (by omega)])
    have hs := fun P cap w hr => TripW.way_spec P cap l m w hr (by omega)
    have hi := fun P cap w hr hc => TripW.way_impl P cap l m w hr hc (by omega)
    have hm : (TripW.wayF l m).length ≤ 100 := way_len l m
    unfold RInt.IPost at hs hi
    generalize TripW.wayF l m = M at hs hi hm
    generalize TripW.wayOk l m = q at hs hi
    have HSP := Lib.hid hs; clear hs
    have HIM := Lib.hid hi; clear hi
    have HM := Lib.hid (show M.length ≤ maxLen by unfold maxLen; omega)
    have hk1 : decide ((1 : Int) + l.length * 5 < 0) = false := decide_eq_false (by omega)
    go_enter Try.func13, Try.ntmps13
    go_wp2_with fail
    refine (STrip.szS_any P cap l.length 1048576 w (by omega) (by omega) HN.out).mono ?_
    rintro e _ ⟨rfl, rfl⟩
    rw [HS.out]
    go_wp2_with fail
    refine (STrip.toS_any P cap l w hr (by omega)).mono ?_
    rintro e v2 ⟨rfl, ho1, hb1⟩
    go_wp2_with fail
    refine (HSP.out _ _ _ (Rd.of_own ho1)).mono ?_
    rintro e v3 ⟨A0, c0, rfl, O0, hb2⟩
    have HB := be hb1 hb2
    have RL := RdL.of (Rd.of_own O0)
    clear ho1 hb1 hb2 O0
    have hXB := HB.size
    go_wp2_with fail
    refine (STrip.toS_any P cap l _ ((hr.below HB (Nat.le_refl _)).mono HB.size) (by omega)).mono ?_
    rintro e v4 ⟨rfl, OX, hv4⟩
    replace HB := be HB hv4
    replace RL := rdl_keep RL hv4
    have zhv4 := hv4.size
    have hXG := own_lt OX
    go_wp2_with fail
    refine (HIM.out _ _ _ (Rd.of_own OX) (Nat.le_refl _)).mono ?_
    rintro e v5 ⟨A1, c1, rfl, O1, hv5⟩
    replace HB := be HB hv5
    replace RL := rdl_keep RL hv5
    replace OX := own_keep OX hv5
    have zhv5 := hv5.size
    go_wp2_with fail
    refine (SInt.eqS_any A1 A0 c1 c0 M M _ (Rd.of_own O1) RL.rd HM.out HM.out).mono ?_
    rintro e v6 ⟨rfl, hv6⟩
    replace HB := be HB hv6
    replace RL := rdl_keep RL hv6
    replace OX := own_keep OX hv6
    replace O1 := own_keep O1 hv6
    have zhv6 := hv6.size
    rw [decide_eq_true rfl]
    go_wp2_with fail
    refine (STrip.toS_any P cap l _ ((hr.below HB (Nat.le_refl _)).mono HB.size) (by omega)).mono ?_
    rintro e v7 ⟨rfl, ho2, hv7⟩
    replace HB := be HB hv7
    replace RL := rdl_keep RL hv7
    replace OX := own_keep OX hv7
    replace O1 := own_keep O1 hv7
    have zhv7 := hv7.size
    go_wp2_with fail
    refine (STrip.eqS_any _ _ _ _ l l _ (Rd.of_own OX) (Rd.of_own ho2) HN.out HN.out).mono ?_
    rintro e v8 ⟨rfl, hv8⟩
    replace HB := be HB hv8
    replace RL := rdl_keep RL hv8
    replace OX := own_keep OX hv8
    replace O1 := own_keep O1 hv8
    have zhv8 := hv8.size
    rw [decide_eq_true rfl]
    clear ho2
    go_wp2_with fail
    refine (STrip.markS_any _ _ v3.heap.size l 1 _ OX (by omega) (by omega) (by omega)).mono ?_
    rintro e v9 ⟨rfl, om, hg⟩
    replace RL := RL.grown hg (fun k hk => by have := row_at hk; omega)
    replace O1 := own_grown O1 hg (fun k hk => by have := row_at hk; omega)
    replace HB := bl_grown HB hg (fun k hk => by have := row_at hk; omega)
    clear OX
    clear om hg
    go_wp2_with fail
    refine (SInt.eqS_any A1 A0 c1 c0 M M _ (Rd.of_own O1) RL.rd HM.out HM.out).mono ?_
    rintro e v10 ⟨rfl, hv10⟩
    replace HB := be HB hv10
    replace RL := rdl_keep RL hv10
    replace O1 := own_keep O1 hv10
    have zhv10 := hv10.size
    rw [decide_eq_true rfl]
    go_wp2_with fail
    refine (SInt.markS_any A1 c1 v4.heap.size M 1 _ O1 (by omega) (by omega) (by omega)).mono ?_
    rintro e v11 ⟨rfl, OM, hg⟩
    replace RL := RL.grown hg (fun k hk => by have := own_ge OM k hk; omega)
    replace HB := bl_grown HB hg (fun k hk => by have := own_ge OM k hk; omega)
    clear O1
    clear hg
    go_wp2_with fail
    refine (SInt.heldS_any A1 c1 _ 1 M.length _ (Rd.of_own OM) (by omega) (by omega) (by omega)).mono ?_
    rintro e v12 ⟨rfl, hd⟩
    have hd2 := hd.below v11.heap.size; clear hd
    replace HB := be HB hd2
    replace RL := rdl_keep RL hd2
    replace OM := own_keep OM hd2
    go_wp2_with fail
    refine (STrip.toS_any P cap l _ ((hr.below HB (Nat.le_refl _)).mono HB.size) (by omega)).mono ?_
    rintro e v13 ⟨rfl, OY, hv13⟩
    replace HB := be HB hv13
    replace RL := rdl_keep RL hv13
    replace OM := own_keep OM hv13
    have zhv13 := hv13.size
    go_wp2_with fail
    refine (HIM.out _ _ _ (Rd.of_own OY) (Nat.le_refl _)).mono ?_
    rintro e v14 ⟨A2, c2, rfl, O2, hv14⟩
    replace HB := be HB hv14
    replace RL := rdl_keep RL hv14
    replace OM := own_keep OM hv14
    have zhv14 := hv14.size
    clear OY
    go_wp2_with fail
    refine (SInt.eqS_any A2 A0 c2 c0 M M _ (Rd.of_own O2) RL.rd HM.out HM.out).mono ?_
    rintro e v15 ⟨rfl, hv15⟩
    replace HB := be HB hv15
    replace RL := rdl_keep RL hv15
    replace OM := own_keep OM hv15
    have zhv15 := hv15.size
    rw [decide_eq_true rfl]
    clear O2
    go_wp2_with fail
    refine (SInt.heldS_any A1 c1 _ 1 M.length _ (Rd.of_own OM) (by omega) (by omega) (by omega)).mono ?_
    rintro e v16 ⟨rfl, hd⟩
    go_wp2
    go_ret
    exact ⟨rfl, be HB (hd.below _)⟩
set_option maxHeartbeats 400000 in
theorem fs_law (P : Option Addr) (cap : Nat) (l : List R) (t : R) (w : World) (hr : Rd w w.heap.size P (flat l)) (hn : l.length ≤ maxLen) :
    Calls Try.prog 10 #[.slice P l.length cap, .agg #[.int .i64 t.f0, .int .i64 t.f1, .int .i64 t.f2, .int .i64 t.f3, .int .i64 t.f4]] w (Yes w) := by
  have HN := Lib.hid hn
  unfold maxLen at hn
  by_cases hbig : 1048576 < l.length
  · have HS := Lib.hid (show STrip.szV 1048576 l.length = -1 by unfold STrip.szV; rw [if_pos (by omega)])
    go_enter Try.func10, Try.ntmps10
    go_wp2_with fail
    have B := Box.new (Below.refl _ w) [.int .i64 t.f0, .int .i64 t.f1, .int .i64 t.f2, .int .i64 t.f3, .int .i64 t.f4] 54 (g := w.heap.size) rfl
    generalize (w.alloc (.cells #[.int .i64 t.f0, .int .i64 t.f1, .int .i64 t.f2, .int .i64 t.f3, .int .i64 t.f4] 54)) = W1 at B ⊢
    have B_0 := B.cells 0 _ rfl
    have B_1 := B.cells 1 _ rfl
    have B_2 := B.cells 2 _ rfl
    have B_3 := B.cells 3 _ rfl
    have B_4 := B.cells 4 _ rfl
    have B_f0 := B.free 0 (by simp)
    have B_f1 := B.free 1 (by simp)
    have B_f2 := B.free 2 (by simp)
    have B_f3 := B.free 3 (by simp)
    have B_f4 := B.free 4 (by simp)
    have B_t := B.there
    go_wp2_with fail
    refine (STrip.szS_any P cap l.length 1048576 _ (by omega) (by omega) HN.out).mono ?_
    rintro e _ ⟨rfl, rfl⟩
    rw [HS.out]
    go_wp2
    go_ret
    exact ⟨rfl, B.below⟩
  · have HS := Lib.hid (show STrip.szV 1048576 l.length = 1048576 - l.length by unfold STrip.szV; rw [if_neg (by omega)])
    obtain ⟨x, y, hv⟩ : ∃ x y, TripF.fsV l t = .tuple #[.int .i64 x, .bool y] := TripF.fs_form l t
    have HV := Lib.hid hv; clear hv
    go_enter Try.func10, Try.ntmps10
    go_wp2_with fail
    have B := Box.new (Below.refl _ w) [.int .i64 t.f0, .int .i64 t.f1, .int .i64 t.f2, .int .i64 t.f3, .int .i64 t.f4] 54 (g := w.heap.size) rfl
    generalize (w.alloc (.cells #[.int .i64 t.f0, .int .i64 t.f1, .int .i64 t.f2, .int .i64 t.f3, .int .i64 t.f4] 54)) = W1 at B ⊢
    have B_0 := B.cells 0 _ rfl
    have B_1 := B.cells 1 _ rfl
    have B_2 := B.cells 2 _ rfl
    have B_3 := B.cells 3 _ rfl
    have B_4 := B.cells 4 _ rfl
    have B_f0 := B.free 0 (by simp)
    have B_f1 := B.free 1 (by simp)
    have B_f2 := B.free 2 (by simp)
    have B_f3 := B.free 3 (by simp)
    have B_f4 := B.free 4 (by simp)
    have B_t := B.there
    go_wp2_with fail
    refine (STrip.szS_any P cap l.length 1048576 _ (by omega) (by omega) HN.out).mono ?_
    rintro e _ ⟨rfl, rfl⟩
    rw [HS.out]
    go_wp2
    clear B_0 B_1 B_2 B_3 B_4 B_f0 B_f1 B_f2 B_f3 B_f4 B_t
    obtain ⟨n03, hn03⟩ : ∃ n, n = W1.heap.size := ⟨_, rfl⟩
    have zn03 : w.heap.size ≤ n03 := by rw [hn03]; exact B.below.size
    refine wp_region_seq (fun L w' => Box (w.heap.size) [.int .i64 t.f0, .int .i64 t.f1, .int .i64 t.f2, .int .i64 t.f3, .int .i64 t.f4] w w' ∧ (¬ L 1 → ¬ L 3 → w'.heap.size = n03) ∧ (L 1 → w'.ownsRow n03 25 5 (.slice (some ⟨n03, 0, none⟩) l.length l.length) l.length (STrip.flat l))) (by kernel_rfl) (by kernel_rfl) ⟨B.drew, fun _ _ => hn03.symm, fun h => h.elim⟩ ?_
    replace hn03 := Lib.hid hn03
    iterate 10 (
      apply SeqH.op
      · intro L uw K hN hS hK
        obtain ⟨qB, qz, qo⟩ := hS
        have qB_0 := qB.cells 0 _ rfl
        have qB_1 := qB.cells 1 _ rfl
        have qB_2 := qB.cells 2 _ rfl
        have qB_3 := qB.cells 3 _ rfl
        have qB_4 := qB.cells 4 _ rfl
        first
          | (go_simp; exact hK.out _ ⟨qB, fun a b => qz (fun h => a (.inl h)) (fun h => b (.inl h)), fun h => qo (h.resolve_right (by decide))⟩)
          | (have e0 := qz (hN.out.1 1 (by decide +kernel)) (hN.out.1 3 (by decide +kernel)); go_simp; go_at_call 51; (with_reducible refine (STrip.toS_any P cap l uw (rd_keep hr qB.below) (by omega)).mono ?_); rintro e uw1 ⟨rfl, ho, hv⟩; rw [e0] at ho ⊢; go_wp2_with fail; exact hK.out _ ⟨qB.more hv, fun a _ => (a (by simp)).elim, fun _ => ho⟩)
          | (go_simp; go_at_call 49; (with_reducible refine (STrip.to_any t _).mono ?_); rintro e uw1 ⟨rfl, hv⟩; unfold STrip.R.val; go_wp2_with fail; exact hK.out _ ⟨qB.more hv, fun _ b => (b (by simp)).elim, fun h => own_keep (qo (h.resolve_right (by decide))) hv⟩)
          | (have ql := hN.out.2 1 (by decide +kernel); have qr := qo ql; go_simp; go_at_call 26; (with_reducible refine (TripF.fs_spec _ _ l t _ (Rd.of_own qr) (by omega)).mono ?_); rintro e uw1 ⟨rfl, hv⟩; rw [HV.out]; go_wp2_with fail; exact hK.out _ ⟨qB.more hv, fun a _ => (a (.inl ql)).elim, fun h => own_keep qr hv⟩)
      try simp only [Act.put, List.setIfInBounds_toArray, List.set_cons_zero, List.set_cons_succ])
    refine SeqH.done rfl ?_
    intro L v3 hL hS
    clear hL B
    obtain ⟨B, _, _⟩ := hS
    have B_0 := B.cells 0 _ rfl
    have B_1 := B.cells 1 _ rfl
    have B_2 := B.cells 2 _ rfl
    have B_3 := B.cells 3 _ rfl
    have B_4 := B.cells 4 _ rfl
    have B_f0 := B.free 0 (by simp)
    have B_f1 := B.free 1 (by simp)
    have B_f2 := B.free 2 (by simp)
    have B_f3 := B.free 3 (by simp)
    have B_f4 := B.free 4 (by simp)
    have B_t := B.there
    go_wp2_with fail
    go_wp2_with fail
    refine (STrip.toS_any P cap l _ (rd_keep hr B.below) (by omega)).mono ?_
    rintro e v4 ⟨rfl, ho, hv4⟩
    clear B_0 B_1 B_2 B_3 B_4 B_f0 B_f1 B_f2 B_f3 B_f4 B_t
    replace B := B.more hv4
    have zhv4 := hv4.size
    clear hv4
    have B_0 := B.cells 0 _ rfl
    have B_1 := B.cells 1 _ rfl
    have B_2 := B.cells 2 _ rfl
    have B_3 := B.cells 3 _ rfl
    have B_4 := B.cells 4 _ rfl
    have B_f0 := B.free 0 (by simp)
    have B_f1 := B.free 1 (by simp)
    have B_f2 := B.free 2 (by simp)
    have B_f3 := B.free 3 (by simp)
    have B_f4 := B.free 4 (by simp)
    have B_t := B.there
    go_wp2_with fail
    refine (STrip.to_any t _).mono ?_
    rintro e v5 ⟨rfl, hv5⟩
    clear B_0 B_1 B_2 B_3 B_4 B_f0 B_f1 B_f2 B_f3 B_f4 B_t
    replace B := B.more hv5
    replace ho := own_keep ho hv5
    have zhv5 := hv5.size
    clear hv5
    have B_0 := B.cells 0 _ rfl
    have B_1 := B.cells 1 _ rfl
    have B_2 := B.cells 2 _ rfl
    have B_3 := B.cells 3 _ rfl
    have B_4 := B.cells 4 _ rfl
    have B_f0 := B.free 0 (by simp)
    have B_f1 := B.free 1 (by simp)
    have B_f2 := B.free 2 (by simp)
    have B_f3 := B.free 3 (by simp)
    have B_f4 := B.free 4 (by simp)
    have B_t := B.there
    unfold STrip.R.val
    go_wp2_with fail
    refine (TripF.fs_impl _ _ l t _ (Rd.of_own ho) (Nat.le_refl _) (by omega)).mono ?_
    rintro e v6 ⟨rfl, hv6⟩
    clear B_0 B_1 B_2 B_3 B_4 B_f0 B_f1 B_f2 B_f3 B_f4 B_t
    replace B := B.more hv6
    replace ho := own_keep ho hv6
    have zhv6 := hv6.size
    clear hv6
    have B_0 := B.cells 0 _ rfl
    have B_1 := B.cells 1 _ rfl
    have B_2 := B.cells 2 _ rfl
    have B_3 := B.cells 3 _ rfl
    have B_4 := B.cells 4 _ rfl
    have B_f0 := B.free 0 (by simp)
    have B_f1 := B.free 1 (by simp)
    have B_f2 := B.free 2 (by simp)
    have B_f3 := B.free 3 (by simp)
    have B_f4 := B.free 4 (by simp)
    have B_t := B.there
    rw [HV.out]
    go_wp2_with fail
    refine (STrip.toS_any P cap l _ (rd_keep hr B.below) (by omega)).mono ?_
    rintro e v7 ⟨rfl, ho2, hv7⟩
    clear B_0 B_1 B_2 B_3 B_4 B_f0 B_f1 B_f2 B_f3 B_f4 B_t
    replace B := B.more hv7
    replace ho := own_keep ho hv7
    have zhv7 := hv7.size
    clear hv7
    have B_0 := B.cells 0 _ rfl
    have B_1 := B.cells 1 _ rfl
    have B_2 := B.cells 2 _ rfl
    have B_3 := B.cells 3 _ rfl
    have B_4 := B.cells 4 _ rfl
    have B_f0 := B.free 0 (by simp)
    have B_f1 := B.free 1 (by simp)
    have B_f2 := B.free 2 (by simp)
    have B_f3 := B.free 3 (by simp)
    have B_f4 := B.free 4 (by simp)
    have B_t := B.there
    go_wp2_with fail
    refine (STrip.eqS_any _ _ _ _ l l _ (Rd.of_own ho) (Rd.of_own ho2) HN.out HN.out).mono ?_
    rintro e v8 ⟨rfl, hv8⟩
    clear B_0 B_1 B_2 B_3 B_4 B_f0 B_f1 B_f2 B_f3 B_f4 B_t
    replace B := B.more hv8
    replace ho := own_keep ho hv8
    have zhv8 := hv8.size
    clear hv8
    have B_0 := B.cells 0 _ rfl
    have B_1 := B.cells 1 _ rfl
    have B_2 := B.cells 2 _ rfl
    have B_3 := B.cells 3 _ rfl
    have B_4 := B.cells 4 _ rfl
    have B_f0 := B.free 0 (by simp)
    have B_f1 := B.free 1 (by simp)
    have B_f2 := B.free 2 (by simp)
    have B_f3 := B.free 3 (by simp)
    have B_f4 := B.free 4 (by simp)
    have B_t := B.there
    rw [decide_eq_true rfl]
    go_wp2
    go_ret
    exact ⟨rfl, B.below⟩
end Go.Proofs.Ytphflbgljejokaa.Laws11a
