/- The laws of chapter 8 whose answers hold no drawn region, walked. -/
import Derived.Test.YtciohcipmkhneaaSerS
import Derived.Test.YtciohcipmkhneaaSerR
import Derived.Test.YtciohcipmkhneaaSerB
import Derived.Test.YtciohcipmkhneaaSerE
import Derived.Test.YtciohcipmkhneaaSerN
import Derived.Test.YtciohcipmkhneaaSerD2
namespace Go.Proofs.Ytciohcipmkhneaa.Laws8a
open Go.RowKit Go.Proofs.Ytciohcipmkhneaa.Mem Go.Proofs.Ytciohcipmkhneaa.Base Go.Proofs.Ytciohcipmkhneaa.SBasin Go.Proofs.Ytciohcipmkhneaa.Regn Go.Proofs.Ytciohcipmkhneaa.Boxes Go.Proofs.Ytciohcipmkhneaa.Keep Go.Proofs.Ytciohcipmkhneaa.Ser Go.Proofs.Ytciohcipmkhneaa.SerQ
set_option linter.unusedVariables false
set_option maxRecDepth 100000
/-- What each walk of a law ends in. -/
def Yes (w : World) (e : Ending) (w' : World) : Prop := e = .returned (.bool true) ∧ Below w.heap.size w w'
theorem is_spec (P : Option Addr) (cap : Nat) (l : List R) (w : World) (hr : Rd w w.heap.size P (flat l)) (hn : l.length ≤ 1048576) :
    Calls Try.prog 22 #[.slice P l.length cap] w (Brine.RPost (.bool (good l)) w) := by
  go_enter Try.func22, Try.ntmps22
  go_wp2_with fail
  refine (SerG.good_spec P cap l w hr hn).mono ?_
  rintro e w1 ⟨rfl, HB⟩
  go_wp2
  go_ret
  exact Brine.rpost rfl HB
theorem is_law (P : Option Addr) (cap : Nat) (l : List SBasin.R) (w : World) (hr : Rd w w.heap.size P (SBasin.flat l)) (hn : l.length ≤ maxLen) :
    Calls Try.prog 6 #[.slice P l.length cap] w (Yes w) := by
  have HN := Lib.hid hn
  unfold maxLen at hn
  by_cases hbig : 1048576 < l.length
  · have HS := Lib.hid (show SBasin.szV 1048576 l.length = -1 by unfold SBasin.szV; rw [if_pos (by omega)])
    go_enter Try.func6, Try.ntmps6
    go_wp2_with fail
    refine (SBasin.szS_any P cap l.length 1048576 w (by omega) (by omega) HN.out).mono ?_
    rintro e _ ⟨rfl, rfl⟩
    rw [HS.out]
    go_wp2
    go_ret
    exact ⟨rfl, Below.refl _ _⟩
  · have HS := Lib.hid (show SBasin.szV 1048576 l.length = 1048576 - l.length by unfold SBasin.szV; rw [if_neg (by omega)])
    obtain ⟨q, hv⟩ : ∃ q, Value.bool (good l) = .bool q := ⟨_, rfl⟩
    have HV := Lib.hid hv; clear hv
    go_enter Try.func6, Try.ntmps6
    go_wp2_with fail
    refine (SBasin.szS_any P cap l.length 1048576 w (by omega) (by omega) HN.out).mono ?_
    rintro e _ ⟨rfl, rfl⟩
    rw [HS.out]
    go_wp2_with fail
    refine (SBasin.toS_any P cap l w hr (by omega)).mono ?_
    rintro e v2 ⟨rfl, ho1, hb1⟩
    go_wp2_with fail
    refine (is_spec _ _ l _ (Rd.of_own ho1) (by omega)).mono ?_
    rintro e v3 ⟨rfl, hb2⟩
    rw [HV.out]
    have HB := be hb1 hb2
    clear ho1 hb1 hb2
    go_wp2_with fail
    refine (SBasin.toS_any P cap l _ ((hr.below HB (Nat.le_refl _)).mono HB.size) (by omega)).mono ?_
    rintro e v4 ⟨rfl, ho, hv4⟩
    replace HB := be HB hv4
    have zhv4 := hv4.size
    go_wp2_with fail
    refine (SerG.good_impl _ _ l _ (Rd.of_own ho) (by omega)).mono ?_
    rintro e v5 ⟨rfl, hv5⟩
    replace HB := be HB hv5
    replace ho := own_keep ho hv5
    have zhv5 := hv5.size
    rw [HV.out]
    go_wp2_with fail
    refine (SBasin.toS_any P cap l _ ((hr.below HB (Nat.le_refl _)).mono HB.size) (by omega)).mono ?_
    rintro e v6 ⟨rfl, ho2, hv6⟩
    replace HB := be HB hv6
    replace ho := own_keep ho hv6
    have zhv6 := hv6.size
    go_wp2_with fail
    refine (SBasin.eqS_any _ _ _ _ l l _ (Rd.of_own ho) (Rd.of_own ho2) HN.out HN.out).mono ?_
    rintro e v7 ⟨rfl, hv7⟩
    replace HB := be HB hv7
    replace ho := own_keep ho hv7
    have zhv7 := hv7.size
    rw [decide_eq_true rfl]
    go_wp2
    go_ret
    exact ⟨rfl, HB⟩
theorem rise_law (P : Option Addr) (cap : Nat) (l : List SBasin.R) (w : World) (hr : Rd w w.heap.size P (SBasin.flat l)) (hn : l.length ≤ maxLen) :
    Calls Try.prog 8 #[.slice P l.length cap] w (Yes w) := by
  have HN := Lib.hid hn
  unfold maxLen at hn
  by_cases hbig : 1048576 < l.length
  · have HS := Lib.hid (show SBasin.szV 1048576 l.length = -1 by unfold SBasin.szV; rw [if_pos (by omega)])
    go_enter Try.func8, Try.ntmps8
    go_wp2_with fail
    refine (SBasin.szS_any P cap l.length 1048576 w (by omega) (by omega) HN.out).mono ?_
    rintro e _ ⟨rfl, rfl⟩
    rw [HS.out]
    go_wp2
    go_ret
    exact ⟨rfl, Below.refl _ _⟩
  · have HS := Lib.hid (show SBasin.szV 1048576 l.length = 1048576 - l.length by unfold SBasin.szV; rw [if_neg (by omega)])
    obtain ⟨p, q, hv⟩ : ∃ p q, riseV l = .tuple #[.bool p, .bool q] := rise_form l
    have HV := Lib.hid hv; clear hv
    go_enter Try.func8, Try.ntmps8
    go_wp2_with fail
    refine (SBasin.szS_any P cap l.length 1048576 w (by omega) (by omega) HN.out).mono ?_
    rintro e _ ⟨rfl, rfl⟩
    rw [HS.out]
    go_wp2_with fail
    refine (SBasin.toS_any P cap l w hr (by omega)).mono ?_
    rintro e v2 ⟨rfl, ho1, hb1⟩
    go_wp2_with fail
    refine (SerR.rise_spec _ _ l _ (Rd.of_own ho1) (by omega)).mono ?_
    rintro e v3 ⟨rfl, hb2⟩
    rw [HV.out]
    have HB := be hb1 hb2
    clear ho1 hb1 hb2
    go_wp2_with fail
    refine (SBasin.toS_any P cap l _ ((hr.below HB (Nat.le_refl _)).mono HB.size) (by omega)).mono ?_
    rintro e v4 ⟨rfl, ho, hv4⟩
    replace HB := be HB hv4
    have zhv4 := hv4.size
    go_wp2_with fail
    refine (SerR.rise_impl _ _ l _ (Rd.of_own ho) (Nat.le_refl _) (by omega)).mono ?_
    rintro e v5 ⟨rfl, hv5⟩
    replace HB := be HB hv5
    replace ho := own_keep ho hv5
    have zhv5 := hv5.size
    rw [HV.out]
    go_wp2_with fail
    refine (SBasin.toS_any P cap l _ ((hr.below HB (Nat.le_refl _)).mono HB.size) (by omega)).mono ?_
    rintro e v6 ⟨rfl, ho2, hv6⟩
    replace HB := be HB hv6
    replace ho := own_keep ho hv6
    have zhv6 := hv6.size
    go_wp2_with fail
    refine (SBasin.eqS_any _ _ _ _ l l _ (Rd.of_own ho) (Rd.of_own ho2) HN.out HN.out).mono ?_
    rintro e v7 ⟨rfl, hv7⟩
    replace HB := be HB hv7
    replace ho := own_keep ho hv7
    have zhv7 := hv7.size
    rw [decide_eq_true rfl]
    go_wp2
    go_ret
    exact ⟨rfl, HB⟩
theorem best_law (P : Option Addr) (cap : Nat) (l : List SBasin.R) (w : World) (hr : Rd w w.heap.size P (SBasin.flat l)) (hn : l.length ≤ maxLen) :
    Calls Try.prog 14 #[.slice P l.length cap] w (Yes w) := by
  have HN := Lib.hid hn
  unfold maxLen at hn
  by_cases hbig : 1048576 < l.length
  · have HS := Lib.hid (show SBasin.szV 1048576 l.length = -1 by unfold SBasin.szV; rw [if_pos (by omega)])
    go_enter Try.func14, Try.ntmps14
    go_wp2_with fail
    refine (SBasin.szS_any P cap l.length 1048576 w (by omega) (by omega) HN.out).mono ?_
    rintro e _ ⟨rfl, rfl⟩
    rw [HS.out]
    go_wp2
    go_ret
    exact ⟨rfl, Below.refl _ _⟩
  · have HS := Lib.hid (show SBasin.szV 1048576 l.length = 1048576 - l.length by unfold SBasin.szV; rw [if_neg (by omega)])
    obtain ⟨x, q, hv⟩ : ∃ x q, bestV l = .tuple #[.int .i64 x, .bool q] := best_form l
    have HV := Lib.hid hv; clear hv
    go_enter Try.func14, Try.ntmps14
    go_wp2_with fail
    refine (SBasin.szS_any P cap l.length 1048576 w (by omega) (by omega) HN.out).mono ?_
    rintro e _ ⟨rfl, rfl⟩
    rw [HS.out]
    go_wp2_with fail
    refine (SBasin.toS_any P cap l w hr (by omega)).mono ?_
    rintro e v2 ⟨rfl, ho1, hb1⟩
    go_wp2_with fail
    refine (SerB.best_spec _ _ l _ (Rd.of_own ho1) (by omega)).mono ?_
    rintro e v3 ⟨rfl, hb2⟩
    rw [HV.out]
    have HB := be hb1 hb2
    clear ho1 hb1 hb2
    go_wp2_with fail
    refine (SBasin.toS_any P cap l _ ((hr.below HB (Nat.le_refl _)).mono HB.size) (by omega)).mono ?_
    rintro e v4 ⟨rfl, ho, hv4⟩
    replace HB := be HB hv4
    have zhv4 := hv4.size
    go_wp2_with fail
    refine (SerB.best_impl _ _ l _ (Rd.of_own ho) (Nat.le_refl _) (by omega)).mono ?_
    rintro e v5 ⟨rfl, hv5⟩
    replace HB := be HB hv5
    replace ho := own_keep ho hv5
    have zhv5 := hv5.size
    rw [HV.out]
    go_wp2_with fail
    refine (SBasin.toS_any P cap l _ ((hr.below HB (Nat.le_refl _)).mono HB.size) (by omega)).mono ?_
    rintro e v6 ⟨rfl, ho2, hv6⟩
    replace HB := be HB hv6
    replace ho := own_keep ho hv6
    have zhv6 := hv6.size
    go_wp2_with fail
    refine (SBasin.eqS_any _ _ _ _ l l _ (Rd.of_own ho) (Rd.of_own ho2) HN.out HN.out).mono ?_
    rintro e v7 ⟨rfl, hv7⟩
    replace HB := be HB hv7
    replace ho := own_keep ho hv7
    have zhv7 := hv7.size
    rw [decide_eq_true rfl]
    go_wp2
    go_ret
    exact ⟨rfl, HB⟩
theorem pte_law (P : Option Addr) (cap : Nat) (l : List SBasin.R) (n : Int) (w : World) (hr : Rd w w.heap.size P (SBasin.flat l)) (hn : l.length ≤ maxLen) :
    Calls Try.prog 11 #[.slice P l.length cap, .int .i64 n] w (Yes w) := by
  have HN := Lib.hid hn
  unfold maxLen at hn
  by_cases hbig : 1048576 < l.length
  · have HS := Lib.hid (show SBasin.szV 1048576 l.length = -1 by unfold SBasin.szV; rw [if_pos (by omega)])
    go_enter Try.func11, Try.ntmps11
    go_wp2_with fail
    refine (SBasin.szS_any P cap l.length 1048576 w (by omega) (by omega) HN.out).mono ?_
    rintro e _ ⟨rfl, rfl⟩
    rw [HS.out]
    go_wp2
    go_ret
    exact ⟨rfl, Below.refl _ _⟩
  · have HS := Lib.hid (show SBasin.szV 1048576 l.length = 1048576 - l.length by unfold SBasin.szV; rw [if_neg (by omega)])
    obtain ⟨x, q, hv⟩ : ∃ x q, SerE.pteV l n = .tuple #[.int .i64 x, .bool q] := SerE.pte_form l n
    have HV := Lib.hid hv; clear hv
    go_enter Try.func11, Try.ntmps11
    go_wp2_with fail
    refine (SBasin.szS_any P cap l.length 1048576 w (by omega) (by omega) HN.out).mono ?_
    rintro e _ ⟨rfl, rfl⟩
    rw [HS.out]
    go_wp2_with fail
    refine (SBasin.toS_any P cap l w hr (by omega)).mono ?_
    rintro e v2 ⟨rfl, ho1, hb1⟩
    go_wp2_with fail
    refine (SerE.pte_spec _ _ l n _ (Rd.of_own ho1) (by omega)).mono ?_
    rintro e v3 ⟨rfl, hb2⟩
    rw [HV.out]
    have HB := be hb1 hb2
    clear ho1 hb1 hb2
    go_wp2_with fail
    refine (SBasin.toS_any P cap l _ ((hr.below HB (Nat.le_refl _)).mono HB.size) (by omega)).mono ?_
    rintro e v4 ⟨rfl, ho, hv4⟩
    replace HB := be HB hv4
    have zhv4 := hv4.size
    go_wp2_with fail
    refine (SerE.pte_impl _ _ l n _ (Rd.of_own ho) (Nat.le_refl _) (by omega)).mono ?_
    rintro e v5 ⟨rfl, hv5⟩
    replace HB := be HB hv5
    replace ho := own_keep ho hv5
    have zhv5 := hv5.size
    rw [HV.out]
    go_wp2_with fail
    refine (SBasin.toS_any P cap l _ ((hr.below HB (Nat.le_refl _)).mono HB.size) (by omega)).mono ?_
    rintro e v6 ⟨rfl, ho2, hv6⟩
    replace HB := be HB hv6
    replace ho := own_keep ho hv6
    have zhv6 := hv6.size
    go_wp2_with fail
    refine (SBasin.eqS_any _ _ _ _ l l _ (Rd.of_own ho) (Rd.of_own ho2) HN.out HN.out).mono ?_
    rintro e v7 ⟨rfl, hv7⟩
    replace HB := be HB hv7
    replace ho := own_keep ho hv7
    have zhv7 := hv7.size
    rw [decide_eq_true rfl]
    go_wp2
    go_ret
    exact ⟨rfl, HB⟩
theorem sum_law (P : Option Addr) (cap : Nat) (l : List SBasin.R) (w : World) (hr : Rd w w.heap.size P (SBasin.flat l)) (hn : l.length ≤ maxLen) :
    Calls Try.prog 7 #[.slice P l.length cap] w (Yes w) := by
  have HN := Lib.hid hn
  unfold maxLen at hn
  by_cases hbig : 1048576 < l.length
  · have HS := Lib.hid (show SBasin.szV 1048576 l.length = -1 by unfold SBasin.szV; rw [if_pos (by omega)])
    go_enter Try.func7, Try.ntmps7
    go_wp2_with fail
    refine (SBasin.szS_any P cap l.length 1048576 w (by omega) (by omega) HN.out).mono ?_
    rintro e _ ⟨rfl, rfl⟩
    rw [HS.out]
    go_wp2
    go_ret
    exact ⟨rfl, Below.refl _ _⟩
  · have HS := Lib.hid (show SBasin.szV 1048576 l.length = 1048576 - l.length by unfold SBasin.szV; rw [if_neg (by omega)])
    obtain ⟨x, y, q, hv⟩ := sum_form l
    have HV := Lib.hid hv; clear hv
    go_enter Try.func7, Try.ntmps7
    go_wp2_with fail
    refine (SBasin.szS_any P cap l.length 1048576 w (by omega) (by omega) HN.out).mono ?_
    rintro e _ ⟨rfl, rfl⟩
    rw [HS.out]
    go_wp2_with fail
    refine (SBasin.toS_any P cap l w hr (by omega)).mono ?_
    rintro e v2 ⟨rfl, ho1, hb1⟩
    go_wp2_with fail
    refine (SerS.sum_spec _ _ l _ (Rd.of_own ho1) (by omega)).mono ?_
    rintro e v3 ⟨rfl, hb2⟩
    rw [HV.out]
    unfold Brine.br
    have HB0 := be hb1 hb2
    clear ho1 hb1 hb2
    go_wp2_with fail
    have E := Box.new HB0 [.int .i64 x, .int .i64 y] 26 (g := v3.heap.size) rfl
    generalize (v3.alloc (.cells #[.int .i64 x, .int .i64 y] 26)) = W4 at E ⊢
    have E_0 := E.cells 0 _ rfl
    have E_1 := E.cells 1 _ rfl
    have E_f0 := E.free 0 (by simp)
    have E_f1 := E.free 1 (by simp)
    have E_t := E.there
    go_wp2_with fail
    refine (SBasin.toS_any P cap l _ ((hr.below E.below (Nat.le_refl _)).mono E.below.size) (by omega)).mono ?_
    rintro e v5 ⟨rfl, ho, hv5⟩
    clear E_0 E_1 E_f0 E_f1 E_t
    replace E := E.more hv5
    have zhv5 := hv5.size
    clear hv5
    have E_0 := E.cells 0 _ rfl
    have E_1 := E.cells 1 _ rfl
    have E_f0 := E.free 0 (by simp)
    have E_f1 := E.free 1 (by simp)
    have E_t := E.there
    go_wp2_with fail
    refine (SerS.sum_impl _ _ l _ (Rd.of_own ho) (Nat.le_refl _) (by omega)).mono ?_
    rintro e v6 ⟨rfl, hv6⟩
    clear E_0 E_1 E_f0 E_f1 E_t
    replace E := E.more hv6
    replace ho := own_keep ho hv6
    have zhv6 := hv6.size
    clear hv6
    have E_0 := E.cells 0 _ rfl
    have E_1 := E.cells 1 _ rfl
    have E_f0 := E.free 0 (by simp)
    have E_f1 := E.free 1 (by simp)
    have E_t := E.there
    rw [HV.out]
    unfold Brine.br
    go_wp2_with fail
    have E_t7 := E.there
    have G := Box.new E.below [.int .i64 x, .int .i64 y] 26 (g := v6.heap.size) rfl
    clear E_0 E_1 E_f0 E_f1 E_t
    replace E := (E).alloc (.cells #[.int .i64 x, .int .i64 y] 26)
    replace ho := own_keep ho (al (Below.refl _ _) (o := (.cells #[.int .i64 x, .int .i64 y] 26)))
    generalize (v6.alloc (.cells #[.int .i64 x, .int .i64 y] 26)) = W7 at G E ho ⊢
    have E_0 := E.cells 0 _ rfl
    have E_1 := E.cells 1 _ rfl
    have E_f0 := E.free 0 (by simp)
    have E_f1 := E.free 1 (by simp)
    have E_t := E.there
    have G_0 := G.cells 0 _ rfl
    have G_1 := G.cells 1 _ rfl
    have G_f0 := G.free 0 (by simp)
    have G_f1 := G.free 1 (by simp)
    have G_t := G.there
    go_wp2_with fail
    refine (SBrine.eq_any ⟨x, y⟩ ⟨x, y⟩ _).mono ?_
    rintro e v8 ⟨rfl, hv8⟩
    clear E_0 E_1 E_f0 E_f1 E_t
    clear G_0 G_1 G_f0 G_f1 G_t
    replace E := E.more hv8
    replace G := G.more hv8
    replace ho := own_keep ho hv8
    have zhv8 := hv8.size
    clear hv8
    have E_0 := E.cells 0 _ rfl
    have E_1 := E.cells 1 _ rfl
    have E_f0 := E.free 0 (by simp)
    have E_f1 := E.free 1 (by simp)
    have E_t := E.there
    have G_0 := G.cells 0 _ rfl
    have G_1 := G.cells 1 _ rfl
    have G_f0 := G.free 0 (by simp)
    have G_f1 := G.free 1 (by simp)
    have G_t := G.there
    rw [SBrine.same_self]
    go_wp2_with fail
    refine (SBasin.toS_any P cap l _ ((hr.below E.below (Nat.le_refl _)).mono E.below.size) (by omega)).mono ?_
    rintro e v9 ⟨rfl, ho2, hv9⟩
    clear E_0 E_1 E_f0 E_f1 E_t
    clear G_0 G_1 G_f0 G_f1 G_t
    replace E := E.more hv9
    replace G := G.more hv9
    replace ho := own_keep ho hv9
    have zhv9 := hv9.size
    clear hv9
    have E_0 := E.cells 0 _ rfl
    have E_1 := E.cells 1 _ rfl
    have E_f0 := E.free 0 (by simp)
    have E_f1 := E.free 1 (by simp)
    have E_t := E.there
    have G_0 := G.cells 0 _ rfl
    have G_1 := G.cells 1 _ rfl
    have G_f0 := G.free 0 (by simp)
    have G_f1 := G.free 1 (by simp)
    have G_t := G.there
    go_wp2_with fail
    refine (SBasin.eqS_any _ _ _ _ l l _ (Rd.of_own ho) (Rd.of_own ho2) HN.out HN.out).mono ?_
    rintro e v10 ⟨rfl, hv10⟩
    clear E_0 E_1 E_f0 E_f1 E_t
    clear G_0 G_1 G_f0 G_f1 G_t
    replace E := E.more hv10
    replace G := G.more hv10
    replace ho := own_keep ho hv10
    have zhv10 := hv10.size
    clear hv10
    have E_0 := E.cells 0 _ rfl
    have E_1 := E.cells 1 _ rfl
    have E_f0 := E.free 0 (by simp)
    have E_f1 := E.free 1 (by simp)
    have E_t := E.there
    have G_0 := G.cells 0 _ rfl
    have G_1 := G.cells 1 _ rfl
    have G_f0 := G.free 0 (by simp)
    have G_f1 := G.free 1 (by simp)
    have G_t := G.there
    rw [decide_eq_true rfl]
    go_wp2
    go_ret
    exact ⟨rfl, E.below⟩
set_option maxHeartbeats 800000 in
theorem sun_law (P : Option Addr) (cap : Nat) (l : List SBasin.R) (r : Int) (w : World) (hr : Rd w w.heap.size P (SBasin.flat l)) (hn : l.length ≤ maxLen) :
    Calls Try.prog 13 #[.slice P l.length cap, .int .i64 r] w (Yes w) := by
  have HN := Lib.hid hn
  unfold maxLen at hn
  by_cases hbig : 1048576 < l.length
  · have HS := Lib.hid (show SBasin.szV 1048576 l.length = -1 by unfold SBasin.szV; rw [if_pos (by omega)])
    go_enter Try.func13, Try.ntmps13
    go_wp2_with fail
    refine (SBasin.szS_any P cap l.length 1048576 w (by omega) (by omega) HN.out).mono ?_
    rintro e _ ⟨rfl, rfl⟩
    rw [HS.out]
    go_wp2
    go_ret
    exact ⟨rfl, Below.refl _ _⟩
  · have HS := Lib.hid (show SBasin.szV 1048576 l.length = 1048576 - l.length by unfold SBasin.szV; rw [if_neg (by omega)])
    have hs := fun P cap w hr => SerN.sun_spec P cap l r w hr (by omega)
    have hi := fun P cap w hr hc => SerN.sun_impl P cap l r w hr hc (by omega)
    have hm : (SerN.sunL l r).length ≤ 100 := SerN.sun_len l r
    unfold SerQ.Row2 at hs hi
    generalize SerN.sunL l r = M at hs hi hm
    generalize SerN.sunOk l r = q at hs hi
    generalize (SerN.sunN l r) = y at hs hi
    have HSP := Lib.hid hs; clear hs
    have HIM := Lib.hid hi; clear hi
    have HM := Lib.hid (show M.length ≤ maxLen by unfold maxLen; omega)
    have hk1 : decide ((1 : Int) + l.length * 3 < 0) = false := decide_eq_false (by omega)
    go_enter Try.func13, Try.ntmps13
    go_wp2_with fail
    refine (SBasin.szS_any P cap l.length 1048576 w (by omega) (by omega) HN.out).mono ?_
    rintro e _ ⟨rfl, rfl⟩
    rw [HS.out]
    go_wp2_with fail
    refine (SBasin.toS_any P cap l w hr (by omega)).mono ?_
    rintro e v2 ⟨rfl, ho1, hb1⟩
    go_wp2_with fail
    refine (HSP.out _ _ _ (Rd.of_own ho1)).mono ?_
    rintro e v3 ⟨A0, c0, rfl, O0, hb2⟩
    have HB := be hb1 hb2
    have RL := RdL.of (Rd.of_own O0)
    clear ho1 hb1 hb2 O0
    have hXB := HB.size
    go_wp2_with fail
    refine (SBasin.toS_any P cap l _ ((hr.below HB (Nat.le_refl _)).mono HB.size) (by omega)).mono ?_
    rintro e v4 ⟨rfl, OX, hv4⟩
    replace HB := be HB hv4
    replace RL := rdl_keep RL hv4
    have zhv4 := hv4.size
    have hXG := own_lt OX
    go_wp2_with fail
    refine (HIM.out _ _ _ (Rd.of_own OX) (Nat.le_refl _)).mono ?_
    rintro e v5 ⟨A1, c1, rfl, O1, hv5⟩
    replace HB := be HB hv5
    replace RL := rdl_keep RL hv5
    replace OX := own_keep OX hv5
    have zhv5 := hv5.size
    go_wp2_with fail
    refine (SBasin.eqS_any A1 A0 c1 c0 M M _ (Rd.of_own O1) RL.rd HM.out HM.out).mono ?_
    rintro e v6 ⟨rfl, hv6⟩
    replace HB := be HB hv6
    replace RL := rdl_keep RL hv6
    replace OX := own_keep OX hv6
    replace O1 := own_keep O1 hv6
    have zhv6 := hv6.size
    rw [decide_eq_true rfl]
    go_wp2_with fail
    refine (SBasin.toS_any P cap l _ ((hr.below HB (Nat.le_refl _)).mono HB.size) (by omega)).mono ?_
    rintro e v7 ⟨rfl, ho2, hv7⟩
    replace HB := be HB hv7
    replace RL := rdl_keep RL hv7
    replace OX := own_keep OX hv7
    replace O1 := own_keep O1 hv7
    have zhv7 := hv7.size
    go_wp2_with fail
    refine (SBasin.eqS_any _ _ _ _ l l _ (Rd.of_own OX) (Rd.of_own ho2) HN.out HN.out).mono ?_
    rintro e v8 ⟨rfl, hv8⟩
    replace HB := be HB hv8
    replace RL := rdl_keep RL hv8
    replace OX := own_keep OX hv8
    replace O1 := own_keep O1 hv8
    have zhv8 := hv8.size
    rw [decide_eq_true rfl]
    clear ho2
    go_wp2_with fail
    refine (SBasin.markS_any _ _ v3.heap.size l 1 _ OX (by omega) (by omega) (by omega)).mono ?_
    rintro e v9 ⟨rfl, om, hg⟩
    replace RL := RL.grown hg (fun k hk => by have := row_at hk; omega)
    replace O1 := own_grown O1 hg (fun k hk => by have := row_at hk; omega)
    replace HB := bl_grown HB hg (fun k hk => by have := row_at hk; omega)
    clear OX
    clear om hg
    go_wp2_with fail
    refine (SBasin.eqS_any A1 A0 c1 c0 M M _ (Rd.of_own O1) RL.rd HM.out HM.out).mono ?_
    rintro e v10 ⟨rfl, hv10⟩
    replace HB := be HB hv10
    replace RL := rdl_keep RL hv10
    replace O1 := own_keep O1 hv10
    have zhv10 := hv10.size
    rw [decide_eq_true rfl]
    go_wp2_with fail
    refine (SBasin.markS_any A1 c1 v4.heap.size M 1 _ O1 (by omega) (by omega) (by omega)).mono ?_
    rintro e v11 ⟨rfl, OM, hg⟩
    replace RL := RL.grown hg (fun k hk => by have := own_ge OM k hk; omega)
    replace HB := bl_grown HB hg (fun k hk => by have := own_ge OM k hk; omega)
    clear O1
    clear hg
    go_wp2_with fail
    refine (SBasin.heldS_any A1 c1 _ 1 M.length _ (Rd.of_own OM) (by omega) (by omega) (by omega)).mono ?_
    rintro e v12 ⟨rfl, hd⟩
    have hd2 := hd.below v11.heap.size; clear hd
    replace HB := be HB hd2
    replace RL := rdl_keep RL hd2
    replace OM := own_keep OM hd2
    go_wp2_with fail
    refine (SBasin.toS_any P cap l _ ((hr.below HB (Nat.le_refl _)).mono HB.size) (by omega)).mono ?_
    rintro e v13 ⟨rfl, OY, hv13⟩
    replace HB := be HB hv13
    replace RL := rdl_keep RL hv13
    replace OM := own_keep OM hv13
    have zhv13 := hv13.size
    go_wp2_with fail
    refine (HIM.out _ _ _ (Rd.of_own OY) (Nat.le_refl _)).mono ?_
    rintro e v14 ⟨A2, c2, rfl, O2, hv14⟩
    replace HB := be HB hv14
    replace RL := rdl_keep RL hv14
    replace OM := own_keep OM hv14
    have zhv14 := hv14.size
    clear OY
    go_wp2_with fail
    refine (SBasin.eqS_any A2 A0 c2 c0 M M _ (Rd.of_own O2) RL.rd HM.out HM.out).mono ?_
    rintro e v15 ⟨rfl, hv15⟩
    replace HB := be HB hv15
    replace RL := rdl_keep RL hv15
    replace OM := own_keep OM hv15
    have zhv15 := hv15.size
    rw [decide_eq_true rfl]
    clear O2
    go_wp2_with fail
    refine (SBasin.heldS_any A1 c1 _ 1 M.length _ (Rd.of_own OM) (by omega) (by omega) (by omega)).mono ?_
    rintro e v16 ⟨rfl, hd⟩
    go_wp2
    go_ret
    exact ⟨rfl, be HB (hd.below _)⟩
set_option maxHeartbeats 800000 in
theorem dep_law (P : Option Addr) (cap : Nat) (l : List SBasin.R) (w : World) (hr : Rd w w.heap.size P (SBasin.flat l)) (hn : l.length ≤ maxLen) :
    Calls Try.prog 15 #[.slice P l.length cap] w (Yes w) := by
  have HN := Lib.hid hn
  unfold maxLen at hn
  by_cases hbig : 1048576 < l.length
  · have HS := Lib.hid (show SBasin.szV 1048576 l.length = -1 by unfold SBasin.szV; rw [if_pos (by omega)])
    go_enter Try.func15, Try.ntmps15
    go_wp2_with fail
    refine (SBasin.szS_any P cap l.length 1048576 w (by omega) (by omega) HN.out).mono ?_
    rintro e _ ⟨rfl, rfl⟩
    rw [HS.out]
    go_wp2
    go_ret
    exact ⟨rfl, Below.refl _ _⟩
  · have HS := Lib.hid (show SBasin.szV 1048576 l.length = 1048576 - l.length by unfold SBasin.szV; rw [if_neg (by omega)])
    have hs := fun P cap w hr => SerD.dep_spec P cap l w hr (by omega)
    have hi := fun P cap w hr hc => SerD2.dep_impl P cap l w hr hc (by omega)
    have hm : (SerD.depL l).length ≤ 100 := SerD.dep_len l
    unfold SerD.DepPost at hs hi
    generalize SerD.depL l = M at hs hi hm
    generalize good l = q at hs hi
    have HSP := Lib.hid hs; clear hs
    have HIM := Lib.hid hi; clear hi
    have HM := Lib.hid (show M.length ≤ maxLen by unfold maxLen; omega)
    have hk1 : decide ((1 : Int) + l.length * 3 < 0) = false := decide_eq_false (by omega)
    go_enter Try.func15, Try.ntmps15
    go_wp2_with fail
    refine (SBasin.szS_any P cap l.length 1048576 w (by omega) (by omega) HN.out).mono ?_
    rintro e _ ⟨rfl, rfl⟩
    rw [HS.out]
    go_wp2_with fail
    refine (SBasin.toS_any P cap l w hr (by omega)).mono ?_
    rintro e v2 ⟨rfl, ho1, hb1⟩
    go_wp2_with fail
    refine (HSP.out _ _ _ (Rd.of_own ho1)).mono ?_
    rintro e v3 ⟨A0, c0, rfl, O0, hb2⟩
    have HB := be hb1 hb2
    have RL := RdL.of (Rd.of_own O0)
    clear ho1 hb1 hb2 O0
    have hXB := HB.size
    go_wp2_with fail
    refine (SBasin.toS_any P cap l _ ((hr.below HB (Nat.le_refl _)).mono HB.size) (by omega)).mono ?_
    rintro e v4 ⟨rfl, OX, hv4⟩
    replace HB := be HB hv4
    replace RL := rdl_keep RL hv4
    have zhv4 := hv4.size
    have hXG := own_lt OX
    go_wp2_with fail
    refine (HIM.out _ _ _ (Rd.of_own OX) (Nat.le_refl _)).mono ?_
    rintro e v5 ⟨A1, c1, rfl, O1, hv5⟩
    replace HB := be HB hv5
    replace RL := rdl_keep RL hv5
    replace OX := own_keep OX hv5
    have zhv5 := hv5.size
    go_wp2_with fail
    refine (SInt.eqS_any A1 A0 c1 c0 M M _ (Rd.of_own O1) RL.rd HM.out HM.out).mono ?_
    rintro e v6 ⟨rfl, hv6⟩
    replace HB := be HB hv6
    replace RL := rdl_keep RL hv6
    replace OX := own_keep OX hv6
    replace O1 := own_keep O1 hv6
    have zhv6 := hv6.size
    rw [decide_eq_true rfl]
    go_wp2_with fail
    refine (SBasin.toS_any P cap l _ ((hr.below HB (Nat.le_refl _)).mono HB.size) (by omega)).mono ?_
    rintro e v7 ⟨rfl, ho2, hv7⟩
    replace HB := be HB hv7
    replace RL := rdl_keep RL hv7
    replace OX := own_keep OX hv7
    replace O1 := own_keep O1 hv7
    have zhv7 := hv7.size
    go_wp2_with fail
    refine (SBasin.eqS_any _ _ _ _ l l _ (Rd.of_own OX) (Rd.of_own ho2) HN.out HN.out).mono ?_
    rintro e v8 ⟨rfl, hv8⟩
    replace HB := be HB hv8
    replace RL := rdl_keep RL hv8
    replace OX := own_keep OX hv8
    replace O1 := own_keep O1 hv8
    have zhv8 := hv8.size
    rw [decide_eq_true rfl]
    clear ho2
    go_wp2_with fail
    refine (SBasin.markS_any _ _ v3.heap.size l 1 _ OX (by omega) (by omega) (by omega)).mono ?_
    rintro e v9 ⟨rfl, om, hg⟩
    replace RL := RL.grown hg (fun k hk => by have := row_at hk; omega)
    replace O1 := own_grown O1 hg (fun k hk => by have := row_at hk; omega)
    replace HB := bl_grown HB hg (fun k hk => by have := row_at hk; omega)
    clear OX
    clear om hg
    go_wp2_with fail
    refine (SInt.eqS_any A1 A0 c1 c0 M M _ (Rd.of_own O1) RL.rd HM.out HM.out).mono ?_
    rintro e v10 ⟨rfl, hv10⟩
    replace HB := be HB hv10
    replace RL := rdl_keep RL hv10
    replace O1 := own_keep O1 hv10
    have zhv10 := hv10.size
    rw [decide_eq_true rfl]
    go_wp2_with fail
    refine (SInt.markS_any A1 c1 v4.heap.size M 1 _ O1 (by omega) (by omega) (by omega)).mono ?_
    rintro e v11 ⟨rfl, OM, hg⟩
    replace RL := RL.grown hg (fun k hk => by have := own_ge OM k hk; omega)
    replace HB := bl_grown HB hg (fun k hk => by have := own_ge OM k hk; omega)
    clear O1
    clear hg
    go_wp2_with fail
    refine (SInt.heldS_any A1 c1 _ 1 M.length _ (Rd.of_own OM) (by omega) (by omega) (by omega)).mono ?_
    rintro e v12 ⟨rfl, hd⟩
    have hd2 := hd.below v11.heap.size; clear hd
    replace HB := be HB hd2
    replace RL := rdl_keep RL hd2
    replace OM := own_keep OM hd2
    go_wp2_with fail
    refine (SBasin.toS_any P cap l _ ((hr.below HB (Nat.le_refl _)).mono HB.size) (by omega)).mono ?_
    rintro e v13 ⟨rfl, OY, hv13⟩
    replace HB := be HB hv13
    replace RL := rdl_keep RL hv13
    replace OM := own_keep OM hv13
    have zhv13 := hv13.size
    go_wp2_with fail
    refine (HIM.out _ _ _ (Rd.of_own OY) (Nat.le_refl _)).mono ?_
    rintro e v14 ⟨A2, c2, rfl, O2, hv14⟩
    replace HB := be HB hv14
    replace RL := rdl_keep RL hv14
    replace OM := own_keep OM hv14
    have zhv14 := hv14.size
    clear OY
    go_wp2_with fail
    refine (SInt.eqS_any A2 A0 c2 c0 M M _ (Rd.of_own O2) RL.rd HM.out HM.out).mono ?_
    rintro e v15 ⟨rfl, hv15⟩
    replace HB := be HB hv15
    replace RL := rdl_keep RL hv15
    replace OM := own_keep OM hv15
    have zhv15 := hv15.size
    rw [decide_eq_true rfl]
    clear O2
    go_wp2_with fail
    refine (SInt.heldS_any A1 c1 _ 1 M.length _ (Rd.of_own OM) (by omega) (by omega) (by omega)).mono ?_
    rintro e v16 ⟨rfl, hd⟩
    go_wp2
    go_ret
    exact ⟨rfl, be HB (hd.below _)⟩
end Go.Proofs.Ytciohcipmkhneaa.Laws8a
