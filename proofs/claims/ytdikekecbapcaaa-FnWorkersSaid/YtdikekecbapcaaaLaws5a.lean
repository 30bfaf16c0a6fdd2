/- The laws on workers whose answers are numbers, walked. -/
import Derived.Test.YtdikekecbapcaaaWorkT
import Derived.Test.YtdikekecbapcaaaWorkM
import Derived.Test.YtdikekecbapcaaaWorkN
namespace Go.Proofs.Ytdikekecbapcaaa.Laws5a
open Go.RowKit Go.Proofs.Ytdikekecbapcaaa.Mem Go.Proofs.Ytdikekecbapcaaa.Base Go.Proofs.Ytdikekecbapcaaa.SWorker Go.Proofs.Ytdikekecbapcaaa.Regn Go.Proofs.Ytdikekecbapcaaa.Boxes Go.Proofs.Ytdikekecbapcaaa.Keep Go.Proofs.Ytdikekecbapcaaa.Work Go.Proofs.Ytdikekecbapcaaa.Work2
set_option linter.unusedVariables false
set_option maxRecDepth 100000
/-- What each walk of a law ends in. -/
def Yes (w : World) (e : Ending) (w' : World) : Prop := e = .returned (.bool true) ∧ Below w.heap.size w w'
theorem isw_law (a b c : Int) (d : Bool) (e : Int) (w : World) : Calls Try.prog 5 #[.agg #[.int .i64 a, .int .i64 b, .int .i64 c, .bool d, .int .i64 e]] w (Yes w) := by
  go_enter Try.func5, Try.ntmps5
  go_wp2_with fail
  have P := Box.new (Below.refl _ w) [.int .i64 a, .int .i64 b, .int .i64 c, .bool d, .int .i64 e] 54 (g := w.heap.size) rfl
  generalize (w.alloc (.cells #[.int .i64 a, .int .i64 b, .int .i64 c, .bool d, .int .i64 e] 54)) = W1 at P ⊢
  have P_0 := P.cells 0 _ rfl
  have P_1 := P.cells 1 _ rfl
  have P_2 := P.cells 2 _ rfl
  have P_3 := P.cells 3 _ rfl
  have P_4 := P.cells 4 _ rfl
  have P_f0 := P.free 0 (by simp)
  have P_f1 := P.free 1 (by simp)
  have P_f2 := P.free 2 (by simp)
  have P_f3 := P.free 3 (by simp)
  have P_f4 := P.free 4 (by simp)
  have P_t := P.there
  go_wp2_with fail
  refine (SWorker.to_any ⟨a, b, c, d, e⟩ _).mono ?_
  rintro e v2 ⟨rfl, hv2⟩
  clear P_0 P_1 P_2 P_3 P_4 P_f0 P_f1 P_f2 P_f3 P_f4 P_t
  replace P := P.more hv2
  have zhv2 := hv2.size
  clear hv2
  have P_0 := P.cells 0 _ rfl
  have P_1 := P.cells 1 _ rfl
  have P_2 := P.cells 2 _ rfl
  have P_3 := P.cells 3 _ rfl
  have P_4 := P.cells 4 _ rfl
  have P_f0 := P.free 0 (by simp)
  have P_f1 := P.free 1 (by simp)
  have P_f2 := P.free 2 (by simp)
  have P_f3 := P.free 3 (by simp)
  have P_f4 := P.free 4 (by simp)
  have P_t := P.there
  unfold SWorker.R.val
  go_wp2_with fail
  refine (WorkS.is_spec ⟨a, b, c, d, e⟩ _).mono ?_
  rintro e v3 ⟨rfl, hv3⟩
  clear P_0 P_1 P_2 P_3 P_4 P_f0 P_f1 P_f2 P_f3 P_f4 P_t
  replace P := P.more hv3
  have zhv3 := hv3.size
  clear hv3
  have P_0 := P.cells 0 _ rfl
  have P_1 := P.cells 1 _ rfl
  have P_2 := P.cells 2 _ rfl
  have P_3 := P.cells 3 _ rfl
  have P_4 := P.cells 4 _ rfl
  have P_f0 := P.free 0 (by simp)
  have P_f1 := P.free 1 (by simp)
  have P_f2 := P.free 2 (by simp)
  have P_f3 := P.free 3 (by simp)
  have P_f4 := P.free 4 (by simp)
  have P_t := P.there
  go_wp2_with fail
  refine (SWorker.to_any ⟨a, b, c, d, e⟩ _).mono ?_
  rintro e v4 ⟨rfl, hv4⟩
  clear P_0 P_1 P_2 P_3 P_4 P_f0 P_f1 P_f2 P_f3 P_f4 P_t
  replace P := P.more hv4
  have zhv4 := hv4.size
  clear hv4
  have P_0 := P.cells 0 _ rfl
  have P_1 := P.cells 1 _ rfl
  have P_2 := P.cells 2 _ rfl
  have P_3 := P.cells 3 _ rfl
  have P_4 := P.cells 4 _ rfl
  have P_f0 := P.free 0 (by simp)
  have P_f1 := P.free 1 (by simp)
  have P_f2 := P.free 2 (by simp)
  have P_f3 := P.free 3 (by simp)
  have P_f4 := P.free 4 (by simp)
  have P_t := P.there
  unfold SWorker.R.val
  go_wp2_with fail
  refine (WorkS.one_impl ⟨a, b, c, d, e⟩ _).mono ?_
  rintro e v5 ⟨rfl, hv5⟩
  clear P_0 P_1 P_2 P_3 P_4 P_f0 P_f1 P_f2 P_f3 P_f4 P_t
  replace P := P.more hv5
  have zhv5 := hv5.size
  clear hv5
  have P_0 := P.cells 0 _ rfl
  have P_1 := P.cells 1 _ rfl
  have P_2 := P.cells 2 _ rfl
  have P_3 := P.cells 3 _ rfl
  have P_4 := P.cells 4 _ rfl
  have P_f0 := P.free 0 (by simp)
  have P_f1 := P.free 1 (by simp)
  have P_f2 := P.free 2 (by simp)
  have P_f3 := P.free 3 (by simp)
  have P_f4 := P.free 4 (by simp)
  have P_t := P.there
  generalize okW ⟨a, b, c, d, e⟩ = q
  go_wp2
  go_ret
  exact ⟨rfl, P.below⟩
theorem are_spec (P : Option Addr) (cap : Nat) (l : List R) (w : World) (hr : Rd w w.heap.size P (flat l)) (hn : l.length ≤ 1048576) :
    Calls Try.prog 50 #[.slice P l.length cap] w (RPost (.bool (good l)) w) := by
  go_enter Try.func50, Try.ntmps50
  go_wp2_with fail
  refine (WorkG.good_spec P cap l w hr hn).mono ?_
  rintro e w1 ⟨rfl, HB⟩
  go_wp2
  go_ret
  exact rpost rfl HB
theorem are_impl (P : Option Addr) (cap : Nat) (l : List R) (w : World) (hr : Rd w w.heap.size P (flat l)) (hc : l.length ≤ cap) (hn : l.length ≤ 1048576) :
    Calls Try.prog 49 #[.slice P l.length cap] w (RPost (.bool (good l)) w) := WorkG.are_impl P cap l w hr hn
theorem on_form (l : List R) (g d : Int) : ∃ x q, WorkL.onV l g d = .tuple #[.int .i64 x, .bool q] := by
  unfold WorkL.onV
  split
  · exact ⟨_, _, rfl⟩
  · exact ⟨_, _, rfl⟩
theorem arew_law (P : Option Addr) (cap : Nat) (l : List SWorker.R) (w : World) (hr : Rd w w.heap.size P (SWorker.flat l)) (hn : l.length ≤ maxLen) :
    Calls Try.prog 6 #[.slice P l.length cap] w (Yes w) := by
  have HN := Lib.hid hn
  unfold maxLen at hn
  by_cases hbig : 1048576 < l.length
  · have HS := Lib.hid (show SWorker.szV 1048576 l.length = -1 by unfold SWorker.szV; rw [if_pos (by omega)])
    go_enter Try.func6, Try.ntmps6
    go_wp2_with fail
    refine (SWorker.szS_any P cap l.length 1048576 w (by omega) (by omega) HN.out).mono ?_
    rintro e _ ⟨rfl, rfl⟩
    rw [HS.out]
    go_wp2
    go_ret
    exact ⟨rfl, Below.refl _ _⟩
  · have HS := Lib.hid (show SWorker.szV 1048576 l.length = 1048576 - l.length by unfold SWorker.szV; rw [if_neg (by omega)])
    obtain ⟨q, hv⟩ : ∃ q, Value.bool (good l) = .bool q := ⟨_, rfl⟩
    have HV := Lib.hid hv; clear hv
    go_enter Try.func6, Try.ntmps6
    go_wp2_with fail
    refine (SWorker.szS_any P cap l.length 1048576 w (by omega) (by omega) HN.out).mono ?_
    rintro e _ ⟨rfl, rfl⟩
    rw [HS.out]
    go_wp2_with fail
    refine (SWorker.toS_any P cap l w hr (by omega)).mono ?_
    rintro e v2 ⟨rfl, ho1, hb1⟩
    go_wp2_with fail
    refine (are_spec _ _ l _ (Rd.of_own ho1) (by omega)).mono ?_
    rintro e v3 ⟨rfl, hb2⟩
    rw [HV.out]
    have HB := be hb1 hb2
    clear ho1 hb1 hb2
    go_wp2_with fail
    refine (SWorker.toS_any P cap l _ ((hr.below HB (Nat.le_refl _)).mono HB.size) (by omega)).mono ?_
    rintro e v4 ⟨rfl, ho, hv4⟩
    replace HB := be HB hv4
    have zhv4 := hv4.size
    go_wp2_with fail
    refine (are_impl _ _ l _ (Rd.of_own ho) (Nat.le_refl _) (by omega)).mono ?_
    rintro e v5 ⟨rfl, hv5⟩
    replace HB := be HB hv5
    replace ho := own_keep ho hv5
    have zhv5 := hv5.size
    rw [HV.out]
    go_wp2_with fail
    refine (SWorker.toS_any P cap l _ ((hr.below HB (Nat.le_refl _)).mono HB.size) (by omega)).mono ?_
    rintro e v6 ⟨rfl, ho2, hv6⟩
    replace HB := be HB hv6
    replace ho := own_keep ho hv6
    have zhv6 := hv6.size
    go_wp2_with fail
    refine (SWorker.eqS_any _ _ _ _ l l _ (Rd.of_own ho) (Rd.of_own ho2) HN.out HN.out).mono ?_
    rintro e v7 ⟨rfl, hv7⟩
    replace HB := be HB hv7
    replace ho := own_keep ho hv7
    have zhv7 := hv7.size
    rw [decide_eq_true rfl]
    go_wp2
    go_ret
    exact ⟨rfl, HB⟩
theorem on_law (P : Option Addr) (cap : Nat) (l : List SWorker.R) (g : Int) (d : Int) (w : World) (hr : Rd w w.heap.size P (SWorker.flat l)) (hn : l.length ≤ maxLen) :
    Calls Try.prog 7 #[.slice P l.length cap, .int .i64 g, .int .i64 d] w (Yes w) := by
  have HN := Lib.hid hn
  unfold maxLen at hn
  by_cases hbig : 1048576 < l.length
  · have HS := Lib.hid (show SWorker.szV 1048576 l.length = -1 by unfold SWorker.szV; rw [if_pos (by omega)])
    go_enter Try.func7, Try.ntmps7
    go_wp2_with fail
    refine (SWorker.szS_any P cap l.length 1048576 w (by omega) (by omega) HN.out).mono ?_
    rintro e _ ⟨rfl, rfl⟩
    rw [HS.out]
    go_wp2
    go_ret
    exact ⟨rfl, Below.refl _ _⟩
  · have HS := Lib.hid (show SWorker.szV 1048576 l.length = 1048576 - l.length by unfold SWorker.szV; rw [if_neg (by omega)])
    obtain ⟨x, q, hv⟩ : ∃ x q, WorkL.onV l g d = .tuple #[.int .i64 x, .bool q] := on_form l g d
    have HV := Lib.hid hv; clear hv
    go_enter Try.func7, Try.ntmps7
    go_wp2_with fail
    refine (SWorker.szS_any P cap l.length 1048576 w (by omega) (by omega) HN.out).mono ?_
    rintro e _ ⟨rfl, rfl⟩
    rw [HS.out]
    go_wp2_with fail
    refine (SWorker.toS_any P cap l w hr (by omega)).mono ?_
    rintro e v2 ⟨rfl, ho1, hb1⟩
    go_wp2_with fail
    refine (WorkL.on_spec _ _ l g d _ (Rd.of_own ho1) (by omega)).mono ?_
    rintro e v3 ⟨rfl, hb2⟩
    rw [HV.out]
    have HB := be hb1 hb2
    clear ho1 hb1 hb2
    go_wp2_with fail
    refine (SWorker.toS_any P cap l _ ((hr.below HB (Nat.le_refl _)).mono HB.size) (by omega)).mono ?_
    rintro e v4 ⟨rfl, ho, hv4⟩
    replace HB := be HB hv4
    have zhv4 := hv4.size
    go_wp2_with fail
    refine (WorkL.on_impl _ _ l g d _ (Rd.of_own ho) (Nat.le_refl _) (by omega)).mono ?_
    rintro e v5 ⟨rfl, hv5⟩
    replace HB := be HB hv5
    replace ho := own_keep ho hv5
    have zhv5 := hv5.size
    rw [HV.out]
    go_wp2_with fail
    refine (SWorker.toS_any P cap l _ ((hr.below HB (Nat.le_refl _)).mono HB.size) (by omega)).mono ?_
    rintro e v6 ⟨rfl, ho2, hv6⟩
    replace HB := be HB hv6
    replace ho := own_keep ho hv6
    have zhv6 := hv6.size
    go_wp2_with fail
    refine (SWorker.eqS_any _ _ _ _ l l _ (Rd.of_own ho) (Rd.of_own ho2) HN.out HN.out).mono ?_
    rintro e v7 ⟨rfl, hv7⟩
    replace HB := be HB hv7
    replace ho := own_keep ho hv7
    have zhv7 := hv7.size
    rw [decide_eq_true rfl]
    go_wp2
    go_ret
    exact ⟨rfl, HB⟩
theorem days_law (P : Option Addr) (cap : Nat) (l : List SWorker.R) (g : Int) (d : Int) (m : Int) (w : World) (hr : Rd w w.heap.size P (SWorker.flat l)) (hn : l.length ≤ maxLen) :
    Calls Try.prog 9 #[.slice P l.length cap, .int .i64 g, .int .i64 d, .int .i64 m] w (Yes w) := by
  have HN := Lib.hid hn
  unfold maxLen at hn
  by_cases hbig : 1048576 < l.length
  · have HS := Lib.hid (show SWorker.szV 1048576 l.length = -1 by unfold SWorker.szV; rw [if_pos (by omega)])
    go_enter Try.func9, Try.ntmps9
    go_wp2_with fail
    refine (SWorker.szS_any P cap l.length 1048576 w (by omega) (by omega) HN.out).mono ?_
    rintro e _ ⟨rfl, rfl⟩
    rw [HS.out]
    go_wp2
    go_ret
    exact ⟨rfl, Below.refl _ _⟩
  · have HS := Lib.hid (show SWorker.szV 1048576 l.length = 1048576 - l.length by unfold SWorker.szV; rw [if_neg (by omega)])
    obtain ⟨x, q, hv⟩ : ∃ x q, daysV l g d m = .tuple #[.int .i64 x, .bool q] := WorkM.days_form l g d m
    have HV := Lib.hid hv; clear hv
    go_enter Try.func9, Try.ntmps9
    go_wp2_with fail
    refine (SWorker.szS_any P cap l.length 1048576 w (by omega) (by omega) HN.out).mono ?_
    rintro e _ ⟨rfl, rfl⟩
    rw [HS.out]
    go_wp2_with fail
    refine (SWorker.toS_any P cap l w hr (by omega)).mono ?_
    rintro e v2 ⟨rfl, ho1, hb1⟩
    go_wp2_with fail
    refine (WorkM.days_spec _ _ l g d m _ (Rd.of_own ho1) (by omega)).mono ?_
    rintro e v3 ⟨rfl, hb2⟩
    rw [HV.out]
    have HB := be hb1 hb2
    clear ho1 hb1 hb2
    go_wp2_with fail
    refine (SWorker.toS_any P cap l _ ((hr.below HB (Nat.le_refl _)).mono HB.size) (by omega)).mono ?_
    rintro e v4 ⟨rfl, ho, hv4⟩
    replace HB := be HB hv4
    have zhv4 := hv4.size
    go_wp2_with fail
    refine (WorkM.days_impl _ _ l g d m _ (Rd.of_own ho) (Nat.le_refl _) (by omega)).mono ?_
    rintro e v5 ⟨rfl, hv5⟩
    replace HB := be HB hv5
    replace ho := own_keep ho hv5
    have zhv5 := hv5.size
    rw [HV.out]
    go_wp2_with fail
    refine (SWorker.toS_any P cap l _ ((hr.below HB (Nat.le_refl _)).mono HB.size) (by omega)).mono ?_
    rintro e v6 ⟨rfl, ho2, hv6⟩
    replace HB := be HB hv6
    replace ho := own_keep ho hv6
    have zhv6 := hv6.size
    go_wp2_with fail
    refine (SWorker.eqS_any _ _ _ _ l l _ (Rd.of_own ho) (Rd.of_own ho2) HN.out HN.out).mono ?_
    rintro e v7 ⟨rfl, hv7⟩
    replace HB := be HB hv7
    replace ho := own_keep ho hv7
    have zhv7 := hv7.size
    rw [decide_eq_true rfl]
    go_wp2
    go_ret
    exact ⟨rfl, HB⟩
theorem chg_law (P : Option Addr) (cap : Nat) (l : List SWorker.R) (id : Int) (w : World) (hr : Rd w w.heap.size P (SWorker.flat l)) (hn : l.length ≤ maxLen) :
    Calls Try.prog 12 #[.slice P l.length cap, .int .i64 id] w (Yes w) := by
  have HN := Lib.hid hn
  unfold maxLen at hn
  by_cases hbig : 1048576 < l.length
  · have HS := Lib.hid (show SWorker.szV 1048576 l.length = -1 by unfold SWorker.szV; rw [if_pos (by omega)])
    go_enter Try.func12, Try.ntmps12
    go_wp2_with fail
    refine (SWorker.szS_any P cap l.length 1048576 w (by omega) (by omega) HN.out).mono ?_
    rintro e _ ⟨rfl, rfl⟩
    rw [HS.out]
    go_wp2
    go_ret
    exact ⟨rfl, Below.refl _ _⟩
  · have HS := Lib.hid (show SWorker.szV 1048576 l.length = 1048576 - l.length by unfold SWorker.szV; rw [if_neg (by omega)])
    obtain ⟨x, y, q, hv⟩ : ∃ x y q, chgV l id = .tuple #[.int .i64 x, .int .i64 y, .bool q] := WorkT.chg_form l id
    have HV := Lib.hid hv; clear hv
    go_enter Try.func12, Try.ntmps12
    go_wp2_with fail
    refine (SWorker.szS_any P cap l.length 1048576 w (by omega) (by omega) HN.out).mono ?_
    rintro e _ ⟨rfl, rfl⟩
    rw [HS.out]
    go_wp2_with fail
    refine (SWorker.toS_any P cap l w hr (by omega)).mono ?_
    rintro e v2 ⟨rfl, ho1, hb1⟩
    go_wp2_with fail
    refine (WorkT.chg_spec _ _ l id _ (Rd.of_own ho1) (by omega)).mono ?_
    rintro e v3 ⟨rfl, hb2⟩
    rw [HV.out]
    have HB := be hb1 hb2
    clear ho1 hb1 hb2
    go_wp2_with fail
    refine (SWorker.toS_any P cap l _ ((hr.below HB (Nat.le_refl _)).mono HB.size) (by omega)).mono ?_
    rintro e v4 ⟨rfl, ho, hv4⟩
    replace HB := be HB hv4
    have zhv4 := hv4.size
    go_wp2_with fail
    refine (WorkT.chg_impl _ _ l id _ (Rd.of_own ho) (Nat.le_refl _) (by omega)).mono ?_
    rintro e v5 ⟨rfl, hv5⟩
    replace HB := be HB hv5
    replace ho := own_keep ho hv5
    have zhv5 := hv5.size
    rw [HV.out]
    go_wp2_with fail
    refine (SWorker.toS_any P cap l _ ((hr.below HB (Nat.le_refl _)).mono HB.size) (by omega)).mono ?_
    rintro e v6 ⟨rfl, ho2, hv6⟩
    replace HB := be HB hv6
    replace ho := own_keep ho hv6
    have zhv6 := hv6.size
    go_wp2_with fail
    refine (SWorker.eqS_any _ _ _ _ l l _ (Rd.of_own ho) (Rd.of_own ho2) HN.out HN.out).mono ?_
    rintro e v7 ⟨rfl, hv7⟩
    replace HB := be HB hv7
    replace ho := own_keep ho hv7
    have zhv7 := hv7.size
    rw [decide_eq_true rfl]
    go_wp2
    go_ret
    exact ⟨rfl, HB⟩
end Go.Proofs.Ytdikekecbapcaaa.Laws5a
