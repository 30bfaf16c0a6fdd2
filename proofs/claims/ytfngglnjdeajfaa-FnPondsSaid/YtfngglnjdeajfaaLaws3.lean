/- The laws on ponds whose answers are numbers, walked. -/
import Derived.Test.YtfngglnjdeajfaaPond8
namespace Go.Proofs.Ytfngglnjdeajfaa.Laws3
open Go.RowKit Go.Proofs.Ytfngglnjdeajfaa.Mem Go.Proofs.Ytfngglnjdeajfaa.Base Go.Proofs.Ytfngglnjdeajfaa.SPond Go.Proofs.Ytfngglnjdeajfaa.Regn Go.Proofs.Ytfngglnjdeajfaa.Boxes Go.Proofs.Ytfngglnjdeajfaa.Pond Go.Proofs.Ytfngglnjdeajfaa.Pond2 Go.Proofs.Ytfngglnjdeajfaa.Pond3
set_option linter.unusedVariables false
set_option maxRecDepth 100000
/-- What each walk of a law ends in. -/
def Yes (w : World) (e : Ending) (w' : World) : Prop := e = .returned (.bool true) ∧ Below w.heap.size w w'
theorem isp_law (a b c d e f : Int) (w : World) : Calls Try.prog 5 #[.agg #[.int .i64 a, .int .i64 b, .int .i64 c, .int .i64 d, .int .i64 e, .int .i64 f]] w (Yes w) := by
  go_enter Try.func5, Try.ntmps5
  go_wp2_with fail
  have P := Box.new (Below.refl _ w) [.int .i64 a, .int .i64 b, .int .i64 c, .int .i64 d, .int .i64 e, .int .i64 f] 49 (g := w.heap.size) rfl
  generalize (w.alloc (.cells #[.int .i64 a, .int .i64 b, .int .i64 c, .int .i64 d, .int .i64 e, .int .i64 f] 49)) = W1 at P ⊢
  have P_0 := P.cells 0 _ rfl
  have P_1 := P.cells 1 _ rfl
  have P_2 := P.cells 2 _ rfl
  have P_3 := P.cells 3 _ rfl
  have P_4 := P.cells 4 _ rfl
  have P_5 := P.cells 5 _ rfl
  have P_f0 := P.free 0 (by simp)
  have P_f1 := P.free 1 (by simp)
  have P_f2 := P.free 2 (by simp)
  have P_f3 := P.free 3 (by simp)
  have P_f4 := P.free 4 (by simp)
  have P_f5 := P.free 5 (by simp)
  have P_t := P.there
  go_wp2_with fail
  refine (SPond.to_any ⟨a, b, c, d, e, f⟩ _).mono ?_
  rintro e v2 ⟨rfl, hv2⟩
  clear P_0 P_1 P_2 P_3 P_4 P_5 P_f0 P_f1 P_f2 P_f3 P_f4 P_f5 P_t
  replace P := P.more hv2
  have zhv2 := hv2.size
  clear hv2
  have P_0 := P.cells 0 _ rfl
  have P_1 := P.cells 1 _ rfl
  have P_2 := P.cells 2 _ rfl
  have P_3 := P.cells 3 _ rfl
  have P_4 := P.cells 4 _ rfl
  have P_5 := P.cells 5 _ rfl
  have P_f0 := P.free 0 (by simp)
  have P_f1 := P.free 1 (by simp)
  have P_f2 := P.free 2 (by simp)
  have P_f3 := P.free 3 (by simp)
  have P_f4 := P.free 4 (by simp)
  have P_f5 := P.free 5 (by simp)
  have P_t := P.there
  unfold SPond.R.val
  go_wp2_with fail
  refine (Pond5.ispond_spec ⟨a, b, c, d, e, f⟩ _).mono ?_
  rintro e v3 ⟨rfl, hv3⟩
  clear P_0 P_1 P_2 P_3 P_4 P_5 P_f0 P_f1 P_f2 P_f3 P_f4 P_f5 P_t
  replace P := P.more hv3
  have zhv3 := hv3.size
  clear hv3
  have P_0 := P.cells 0 _ rfl
  have P_1 := P.cells 1 _ rfl
  have P_2 := P.cells 2 _ rfl
  have P_3 := P.cells 3 _ rfl
  have P_4 := P.cells 4 _ rfl
  have P_5 := P.cells 5 _ rfl
  have P_f0 := P.free 0 (by simp)
  have P_f1 := P.free 1 (by simp)
  have P_f2 := P.free 2 (by simp)
  have P_f3 := P.free 3 (by simp)
  have P_f4 := P.free 4 (by simp)
  have P_f5 := P.free 5 (by simp)
  have P_t := P.there
  go_wp2_with fail
  refine (SPond.to_any ⟨a, b, c, d, e, f⟩ _).mono ?_
  rintro e v4 ⟨rfl, hv4⟩
  clear P_0 P_1 P_2 P_3 P_4 P_5 P_f0 P_f1 P_f2 P_f3 P_f4 P_f5 P_t
  replace P := P.more hv4
  have zhv4 := hv4.size
  clear hv4
  have P_0 := P.cells 0 _ rfl
  have P_1 := P.cells 1 _ rfl
  have P_2 := P.cells 2 _ rfl
  have P_3 := P.cells 3 _ rfl
  have P_4 := P.cells 4 _ rfl
  have P_5 := P.cells 5 _ rfl
  have P_f0 := P.free 0 (by simp)
  have P_f1 := P.free 1 (by simp)
  have P_f2 := P.free 2 (by simp)
  have P_f3 := P.free 3 (by simp)
  have P_f4 := P.free 4 (by simp)
  have P_f5 := P.free 5 (by simp)
  have P_t := P.there
  unfold SPond.R.val
  go_wp2_with fail
  refine (IPond.pond_impl ⟨a, b, c, d, e, f⟩ _).mono ?_
  rintro e v5 ⟨rfl, hv5⟩
  clear P_0 P_1 P_2 P_3 P_4 P_5 P_f0 P_f1 P_f2 P_f3 P_f4 P_f5 P_t
  replace P := P.more hv5
  have zhv5 := hv5.size
  clear hv5
  have P_0 := P.cells 0 _ rfl
  have P_1 := P.cells 1 _ rfl
  have P_2 := P.cells 2 _ rfl
  have P_3 := P.cells 3 _ rfl
  have P_4 := P.cells 4 _ rfl
  have P_5 := P.cells 5 _ rfl
  have P_f0 := P.free 0 (by simp)
  have P_f1 := P.free 1 (by simp)
  have P_f2 := P.free 2 (by simp)
  have P_f3 := P.free 3 (by simp)
  have P_f4 := P.free 4 (by simp)
  have P_f5 := P.free 5 (by simp)
  have P_t := P.there
  generalize okP ⟨a, b, c, d, e, f⟩ = q
  go_wp2
  go_ret
  exact ⟨rfl, P.below⟩
theorem are_law (P : Option Addr) (cap : Nat) (l : List SPond.R) (w : World) (hr : Rd w w.heap.size P (SPond.flat l)) (hn : l.length ≤ maxLen) :
    Calls Try.prog 6 #[.slice P l.length cap] w (Yes w) := by
  have HN := Lib.hid hn
  unfold maxLen at hn
  by_cases hbig : 1048576 < l.length
  · have HS := Lib.hid (show SPond.szV 1048576 l.length = -1 by unfold SPond.szV; rw [if_pos (by omega)])
    go_enter Try.func6, Try.ntmps6
    go_wp2_with fail
    refine (SPond.szS_any P cap l.length 1048576 w (by omega) (by omega) HN.out).mono ?_
    rintro e _ ⟨rfl, rfl⟩
    rw [HS.out]
    go_wp2
    go_ret
    exact ⟨rfl, Below.refl _ _⟩
  · have HS := Lib.hid (show SPond.szV 1048576 l.length = 1048576 - l.length by unfold SPond.szV; rw [if_neg (by omega)])
    obtain ⟨q, hv⟩ : ∃ q, Value.bool (good l) = .bool q := ⟨_, rfl⟩
    have HV := Lib.hid hv; clear hv
    go_enter Try.func6, Try.ntmps6
    go_wp2_with fail
    refine (SPond.szS_any P cap l.length 1048576 w (by omega) (by omega) HN.out).mono ?_
    rintro e _ ⟨rfl, rfl⟩
    rw [HS.out]
    go_wp2_with fail
    refine (SPond.toS_any P cap l w hr (by omega)).mono ?_
    rintro e v2 ⟨rfl, ho1, hb1⟩
    go_wp2_with fail
    refine (Pond5.are_spec _ _ l _ (Rd.of_own ho1) (by omega)).mono ?_
    rintro e v3 ⟨rfl, hb2⟩
    rw [HV.out]
    have HB := be hb1 hb2
    clear ho1 hb1 hb2
    go_wp2_with fail
    refine (SPond.toS_any P cap l _ ((hr.below HB (Nat.le_refl _)).mono HB.size) (by omega)).mono ?_
    rintro e v4 ⟨rfl, ho, hv4⟩
    replace HB := be HB hv4
    have zhv4 := hv4.size
    go_wp2_with fail
    refine (IPond2.are_impl _ _ l _ (Rd.of_own ho) (Nat.le_refl _) (by omega)).mono ?_
    rintro e v5 ⟨rfl, hv5⟩
    replace HB := be HB hv5
    replace ho := own_keep ho hv5
    have zhv5 := hv5.size
    rw [HV.out]
    go_wp2_with fail
    refine (SPond.toS_any P cap l _ ((hr.below HB (Nat.le_refl _)).mono HB.size) (by omega)).mono ?_
    rintro e v6 ⟨rfl, ho2, hv6⟩
    replace HB := be HB hv6
    replace ho := own_keep ho hv6
    have zhv6 := hv6.size
    go_wp2_with fail
    refine (SPond.eqS_any _ _ _ _ l l _ (Rd.of_own ho) (Rd.of_own ho2) HN.out HN.out).mono ?_
    rintro e v7 ⟨rfl, hv7⟩
    replace HB := be HB hv7
    replace ho := own_keep ho hv7
    have zhv7 := hv7.size
    rw [decide_eq_true rfl]
    go_wp2
    go_ret
    exact ⟨rfl, HB⟩
theorem holds_law (P : Option Addr) (cap : Nat) (l : List SPond.R) (id : Int) (w : World) (hr : Rd w w.heap.size P (SPond.flat l)) (hn : l.length ≤ maxLen) :
    Calls Try.prog 7 #[.slice P l.length cap, .int .i64 id] w (Yes w) := by
  have HN := Lib.hid hn
  unfold maxLen at hn
  by_cases hbig : 1048576 < l.length
  · have HS := Lib.hid (show SPond.szV 1048576 l.length = -1 by unfold SPond.szV; rw [if_pos (by omega)])
    go_enter Try.func7, Try.ntmps7
    go_wp2_with fail
    refine (SPond.szS_any P cap l.length 1048576 w (by omega) (by omega) HN.out).mono ?_
    rintro e _ ⟨rfl, rfl⟩
    rw [HS.out]
    go_wp2
    go_ret
    exact ⟨rfl, Below.refl _ _⟩
  · have HS := Lib.hid (show SPond.szV 1048576 l.length = 1048576 - l.length by unfold SPond.szV; rw [if_neg (by omega)])
    obtain ⟨x, q, hv⟩ : ∃ x q, Pond4.holdsV l id = .tuple #[.int .i64 x, .bool q] := by unfold Pond4.holdsV; split <;> exact ⟨_, _, rfl⟩
    have HV := Lib.hid hv; clear hv
    go_enter Try.func7, Try.ntmps7
    go_wp2_with fail
    refine (SPond.szS_any P cap l.length 1048576 w (by omega) (by omega) HN.out).mono ?_
    rintro e _ ⟨rfl, rfl⟩
    rw [HS.out]
    go_wp2_with fail
    refine (SPond.toS_any P cap l w hr (by omega)).mono ?_
    rintro e v2 ⟨rfl, ho1, hb1⟩
    go_wp2_with fail
    refine (Pond4.holds_spec _ _ l id _ (Rd.of_own ho1) (by omega)).mono ?_
    rintro e v3 ⟨rfl, hb2⟩
    rw [HV.out]
    have HB := be hb1 hb2
    clear ho1 hb1 hb2
    go_wp2_with fail
    refine (SPond.toS_any P cap l _ ((hr.below HB (Nat.le_refl _)).mono HB.size) (by omega)).mono ?_
    rintro e v4 ⟨rfl, ho, hv4⟩
    replace HB := be HB hv4
    have zhv4 := hv4.size
    go_wp2_with fail
    refine (Pond6.holds_impl _ _ l id _ (Rd.of_own ho) (Nat.le_refl _) (by omega)).mono ?_
    rintro e v5 ⟨rfl, hv5⟩
    replace HB := be HB hv5
    replace ho := own_keep ho hv5
    have zhv5 := hv5.size
    rw [HV.out]
    go_wp2_with fail
    refine (SPond.toS_any P cap l _ ((hr.below HB (Nat.le_refl _)).mono HB.size) (by omega)).mono ?_
    rintro e v6 ⟨rfl, ho2, hv6⟩
    replace HB := be HB hv6
    replace ho := own_keep ho hv6
    have zhv6 := hv6.size
    go_wp2_with fail
    refine (SPond.eqS_any _ _ _ _ l l _ (Rd.of_own ho) (Rd.of_own ho2) HN.out HN.out).mono ?_
    rintro e v7 ⟨rfl, hv7⟩
    replace HB := be HB hv7
    replace ho := own_keep ho hv7
    have zhv7 := hv7.size
    rw [decide_eq_true rfl]
    go_wp2
    go_ret
    exact ⟨rfl, HB⟩
theorem at_law (P : Option Addr) (cap : Nat) (l : List SPond.R) (u : Int) (v : Int) (w : World) (hr : Rd w w.heap.size P (SPond.flat l)) (hn : l.length ≤ maxLen) :
    Calls Try.prog 8 #[.slice P l.length cap, .int .i64 u, .int .i64 v] w (Yes w) := by
  have HN := Lib.hid hn
  unfold maxLen at hn
  by_cases hbig : 1048576 < l.length
  · have HS := Lib.hid (show SPond.szV 1048576 l.length = -1 by unfold SPond.szV; rw [if_pos (by omega)])
    go_enter Try.func8, Try.ntmps8
    go_wp2_with fail
    refine (SPond.szS_any P cap l.length 1048576 w (by omega) (by omega) HN.out).mono ?_
    rintro e _ ⟨rfl, rfl⟩
    rw [HS.out]
    go_wp2
    go_ret
    exact ⟨rfl, Below.refl _ _⟩
  · have HS := Lib.hid (show SPond.szV 1048576 l.length = 1048576 - l.length by unfold SPond.szV; rw [if_neg (by omega)])
    obtain ⟨x, q, hv⟩ : ∃ x q, Pond5.atV l u v = .tuple #[.int .i64 x, .bool q] := by unfold Pond5.atV; split <;> exact ⟨_, _, rfl⟩
    have HV := Lib.hid hv; clear hv
    go_enter Try.func8, Try.ntmps8
    go_wp2_with fail
    refine (SPond.szS_any P cap l.length 1048576 w (by omega) (by omega) HN.out).mono ?_
    rintro e _ ⟨rfl, rfl⟩
    rw [HS.out]
    go_wp2_with fail
    refine (SPond.toS_any P cap l w hr (by omega)).mono ?_
    rintro e v2 ⟨rfl, ho1, hb1⟩
    go_wp2_with fail
    refine (Pond5.at_spec _ _ l u v _ (Rd.of_own ho1) (by omega)).mono ?_
    rintro e v3 ⟨rfl, hb2⟩
    rw [HV.out]
    have HB := be hb1 hb2
    clear ho1 hb1 hb2
    go_wp2_with fail
    refine (SPond.toS_any P cap l _ ((hr.below HB (Nat.le_refl _)).mono HB.size) (by omega)).mono ?_
    rintro e v4 ⟨rfl, ho, hv4⟩
    replace HB := be HB hv4
    have zhv4 := hv4.size
    go_wp2_with fail
    refine (Pond5.at_impl _ _ l u v _ (Rd.of_own ho) (Nat.le_refl _) (by omega)).mono ?_
    rintro e v5 ⟨rfl, hv5⟩
    replace HB := be HB hv5
    replace ho := own_keep ho hv5
    have zhv5 := hv5.size
    rw [HV.out]
    go_wp2_with fail
    refine (SPond.toS_any P cap l _ ((hr.below HB (Nat.le_refl _)).mono HB.size) (by omega)).mono ?_
    rintro e v6 ⟨rfl, ho2, hv6⟩
    replace HB := be HB hv6
    replace ho := own_keep ho hv6
    have zhv6 := hv6.size
    go_wp2_with fail
    refine (SPond.eqS_any _ _ _ _ l l _ (Rd.of_own ho) (Rd.of_own ho2) HN.out HN.out).mono ?_
    rintro e v7 ⟨rfl, hv7⟩
    replace HB := be HB hv7
    replace ho := own_keep ho hv7
    have zhv7 := hv7.size
    rw [decide_eq_true rfl]
    go_wp2
    go_ret
    exact ⟨rfl, HB⟩
theorem bank_law (P : Option Addr) (cap : Nat) (l : List SPond.R) (a : Int) (b : Int) (w : World) (hr : Rd w w.heap.size P (SPond.flat l)) (hn : l.length ≤ maxLen) :
    Calls Try.prog 9 #[.slice P l.length cap, .int .i64 a, .int .i64 b] w (Yes w) := by
  have HN := Lib.hid hn
  unfold maxLen at hn
  by_cases hbig : 1048576 < l.length
  · have HS := Lib.hid (show SPond.szV 1048576 l.length = -1 by unfold SPond.szV; rw [if_pos (by omega)])
    go_enter Try.func9, Try.ntmps9
    go_wp2_with fail
    refine (SPond.szS_any P cap l.length 1048576 w (by omega) (by omega) HN.out).mono ?_
    rintro e _ ⟨rfl, rfl⟩
    rw [HS.out]
    go_wp2
    go_ret
    exact ⟨rfl, Below.refl _ _⟩
  · have HS := Lib.hid (show SPond.szV 1048576 l.length = 1048576 - l.length by unfold SPond.szV; rw [if_neg (by omega)])
    obtain ⟨x, q, hv⟩ : ∃ x q, Pond7.bankV l a b = .tuple #[.int .i64 x, .bool q] := by unfold Pond7.bankV; split <;> exact ⟨_, _, rfl⟩
    have HV := Lib.hid hv; clear hv
    go_enter Try.func9, Try.ntmps9
    go_wp2_with fail
    refine (SPond.szS_any P cap l.length 1048576 w (by omega) (by omega) HN.out).mono ?_
    rintro e _ ⟨rfl, rfl⟩
    rw [HS.out]
    go_wp2_with fail
    refine (SPond.toS_any P cap l w hr (by omega)).mono ?_
    rintro e v2 ⟨rfl, ho1, hb1⟩
    go_wp2_with fail
    refine (Pond7.bankof_spec _ _ l a b _ (Rd.of_own ho1) (by omega)).mono ?_
    rintro e v3 ⟨rfl, hb2⟩
    rw [HV.out]
    have HB := be hb1 hb2
    clear ho1 hb1 hb2
    go_wp2_with fail
    refine (SPond.toS_any P cap l _ ((hr.below HB (Nat.le_refl _)).mono HB.size) (by omega)).mono ?_
    rintro e v4 ⟨rfl, ho, hv4⟩
    replace HB := be HB hv4
    have zhv4 := hv4.size
    go_wp2_with fail
    refine (Pond7.bankof_impl _ _ l a b _ (Rd.of_own ho) (Nat.le_refl _) (by omega)).mono ?_
    rintro e v5 ⟨rfl, hv5⟩
    replace HB := be HB hv5
    replace ho := own_keep ho hv5
    have zhv5 := hv5.size
    rw [HV.out]
    go_wp2_with fail
    refine (SPond.toS_any P cap l _ ((hr.below HB (Nat.le_refl _)).mono HB.size) (by omega)).mono ?_
    rintro e v6 ⟨rfl, ho2, hv6⟩
    replace HB := be HB hv6
    replace ho := own_keep ho hv6
    have zhv6 := hv6.size
    go_wp2_with fail
    refine (SPond.eqS_any _ _ _ _ l l _ (Rd.of_own ho) (Rd.of_own ho2) HN.out HN.out).mono ?_
    rintro e v7 ⟨rfl, hv7⟩
    replace HB := be HB hv7
    replace ho := own_keep ho hv7
    have zhv7 := hv7.size
    rw [decide_eq_true rfl]
    go_wp2
    go_ret
    exact ⟨rfl, HB⟩
theorem outer_law (P : Option Addr) (cap : Nat) (l : List SPond.R) (id : Int) (w : World) (hr : Rd w w.heap.size P (SPond.flat l)) (hn : l.length ≤ maxLen) :
    Calls Try.prog 11 #[.slice P l.length cap, .int .i64 id] w (Yes w) := by
  have HN := Lib.hid hn
  unfold maxLen at hn
  by_cases hbig : 1048576 < l.length
  · have HS := Lib.hid (show SPond.szV 1048576 l.length = -1 by unfold SPond.szV; rw [if_pos (by omega)])
    go_enter Try.func11, Try.ntmps11
    go_wp2_with fail
    refine (SPond.szS_any P cap l.length 1048576 w (by omega) (by omega) HN.out).mono ?_
    rintro e _ ⟨rfl, rfl⟩
    rw [HS.out]
    go_wp2
    go_ret
    exact ⟨rfl, Below.refl _ _⟩
  · have HS := Lib.hid (show SPond.szV 1048576 l.length = 1048576 - l.length by unfold SPond.szV; rw [if_neg (by omega)])
    obtain ⟨x, q, hv⟩ : ∃ x q, Pond8.outV l id = .tuple #[.int .i64 x, .bool q] := by unfold Pond8.outV; split <;> exact ⟨_, _, rfl⟩
    have HV := Lib.hid hv; clear hv
    go_enter Try.func11, Try.ntmps11
    go_wp2_with fail
    refine (SPond.szS_any P cap l.length 1048576 w (by omega) (by omega) HN.out).mono ?_
    rintro e _ ⟨rfl, rfl⟩
    rw [HS.out]
    go_wp2_with fail
    refine (SPond.toS_any P cap l w hr (by omega)).mono ?_
    rintro e v2 ⟨rfl, ho1, hb1⟩
    go_wp2_with fail
    refine (Pond8.outer_spec _ _ l id _ (Rd.of_own ho1) (by omega)).mono ?_
    rintro e v3 ⟨rfl, hb2⟩
    rw [HV.out]
    have HB := be hb1 hb2
    clear ho1 hb1 hb2
    go_wp2_with fail
    refine (SPond.toS_any P cap l _ ((hr.below HB (Nat.le_refl _)).mono HB.size) (by omega)).mono ?_
    rintro e v4 ⟨rfl, ho, hv4⟩
    replace HB := be HB hv4
    have zhv4 := hv4.size
    go_wp2_with fail
    refine (Pond8.outer_impl _ _ l id _ (Rd.of_own ho) (Nat.le_refl _) (by omega)).mono ?_
    rintro e v5 ⟨rfl, hv5⟩
    replace HB := be HB hv5
    replace ho := own_keep ho hv5
    have zhv5 := hv5.size
    rw [HV.out]
    go_wp2_with fail
    refine (SPond.toS_any P cap l _ ((hr.below HB (Nat.le_refl _)).mono HB.size) (by omega)).mono ?_
    rintro e v6 ⟨rfl, ho2, hv6⟩
    replace HB := be HB hv6
    replace ho := own_keep ho hv6
    have zhv6 := hv6.size
    go_wp2_with fail
    refine (SPond.eqS_any _ _ _ _ l l _ (Rd.of_own ho) (Rd.of_own ho2) HN.out HN.out).mono ?_
    rintro e v7 ⟨rfl, hv7⟩
    replace HB := be HB hv7
    replace ho := own_keep ho hv7
    have zhv7 := hv7.size
    rw [decide_eq_true rfl]
    go_wp2
    go_ret
    exact ⟨rfl, HB⟩
theorem free_law (P : Option Addr) (cap : Nat) (l : List SPond.R) (w : World) (hr : Rd w w.heap.size P (SPond.flat l)) (hn : l.length ≤ maxLen) :
    Calls Try.prog 15 #[.slice P l.length cap] w (Yes w) := by
  have HN := Lib.hid hn
  unfold maxLen at hn
  by_cases hbig : 1048576 < l.length
  · have HS := Lib.hid (show SPond.szV 1048576 l.length = -1 by unfold SPond.szV; rw [if_pos (by omega)])
    go_enter Try.func15, Try.ntmps15
    go_wp2_with fail
    refine (SPond.szS_any P cap l.length 1048576 w (by omega) (by omega) HN.out).mono ?_
    rintro e _ ⟨rfl, rfl⟩
    rw [HS.out]
    go_wp2
    go_ret
    exact ⟨rfl, Below.refl _ _⟩
  · have HS := Lib.hid (show SPond.szV 1048576 l.length = 1048576 - l.length by unfold SPond.szV; rw [if_neg (by omega)])
    obtain ⟨x, q, hv⟩ : ∃ x q, Pond4.freeV l = .tuple #[.int .i64 x, .bool q] := by unfold Pond4.freeV; split <;> exact ⟨_, _, rfl⟩
    have HV := Lib.hid hv; clear hv
    go_enter Try.func15, Try.ntmps15
    go_wp2_with fail
    refine (SPond.szS_any P cap l.length 1048576 w (by omega) (by omega) HN.out).mono ?_
    rintro e _ ⟨rfl, rfl⟩
    rw [HS.out]
    go_wp2_with fail
    refine (SPond.toS_any P cap l w hr (by omega)).mono ?_
    rintro e v2 ⟨rfl, ho1, hb1⟩
    go_wp2_with fail
    refine (Pond4.free_spec _ _ l _ (Rd.of_own ho1) (by omega)).mono ?_
    rintro e v3 ⟨rfl, hb2⟩
    rw [HV.out]
    have HB := be hb1 hb2
    clear ho1 hb1 hb2
    go_wp2_with fail
    refine (SPond.toS_any P cap l _ ((hr.below HB (Nat.le_refl _)).mono HB.size) (by omega)).mono ?_
    rintro e v4 ⟨rfl, ho, hv4⟩
    replace HB := be HB hv4
    have zhv4 := hv4.size
    go_wp2_with fail
    refine (Pond8.free_impl _ _ l _ (Rd.of_own ho) (Nat.le_refl _) (by omega)).mono ?_
    rintro e v5 ⟨rfl, hv5⟩
    replace HB := be HB hv5
    replace ho := own_keep ho hv5
    have zhv5 := hv5.size
    rw [HV.out]
    go_wp2_with fail
    refine (SPond.toS_any P cap l _ ((hr.below HB (Nat.le_refl _)).mono HB.size) (by omega)).mono ?_
    rintro e v6 ⟨rfl, ho2, hv6⟩
    replace HB := be HB hv6
    replace ho := own_keep ho hv6
    have zhv6 := hv6.size
    go_wp2_with fail
    refine (SPond.eqS_any _ _ _ _ l l _ (Rd.of_own ho) (Rd.of_own ho2) HN.out HN.out).mono ?_
    rintro e v7 ⟨rfl, hv7⟩
    replace HB := be HB hv7
    replace ho := own_keep ho hv7
    have zhv7 := hv7.size
    rw [decide_eq_true rfl]
    go_wp2
    go_ret
    exact ⟨rfl, HB⟩
end Go.Proofs.Ytfngglnjdeajfaa.Laws3
