/- The laws on showers whose answers are numbers, walked. -/
import Derived.Test.YtpbmncecejchjaaShwL
import Derived.Test.YtpbmncecejchjaaShwC
import Derived.Test.YtpbmncecejchjaaShwW
namespace Go.Proofs.Ytpbmncecejchjaa.Laws9a
open Go.RowKit Go.Proofs.Ytpbmncecejchjaa.Mem Go.Proofs.Ytpbmncecejchjaa.Base Go.Proofs.Ytpbmncecejchjaa.SShower Go.Proofs.Ytpbmncecejchjaa.Regn Go.Proofs.Ytpbmncecejchjaa.Boxes Go.Proofs.Ytpbmncecejchjaa.Keep Go.Proofs.Ytpbmncecejchjaa.Shw
set_option linter.unusedVariables false
set_option maxRecDepth 100000
/-- What each walk of a law ends in. -/
def Yes (w : World) (e : Ending) (w' : World) : Prop := e = .returned (.bool true) ∧ Below w.heap.size w w'
theorem are_spec (P : Option Addr) (cap : Nat) (l : List R) (w : World) (hr : Rd w w.heap.size P (flat l)) (hn : l.length ≤ 1048576) :
    Calls Try.prog 20 #[.slice P l.length cap] w (RPost (.bool (good l)) w) := by
  go_enter Try.func20, Try.ntmps20
  go_wp2_with fail
  refine (ShwG.good_spec P cap l w hr hn).mono ?_
  rintro e w1 ⟨rfl, HB⟩
  go_wp2
  go_ret
  exact rpost rfl HB
theorem are_impl (P : Option Addr) (cap : Nat) (l : List R) (w : World) (hr : Rd w w.heap.size P (flat l)) (hc : l.length ≤ cap) (hn : l.length ≤ 1048576) :
    Calls Try.prog 19 #[.slice P l.length cap] w (RPost (.bool (good l)) w) := ShwG.are_impl P cap l w hr hn
theorem are_law (P : Option Addr) (cap : Nat) (l : List SShower.R) (w : World) (hr : Rd w w.heap.size P (SShower.flat l)) (hn : l.length ≤ maxLen) :
    Calls Try.prog 5 #[.slice P l.length cap] w (Yes w) := by
  have HN := Lib.hid hn
  unfold maxLen at hn
  by_cases hbig : 1048576 < l.length
  · have HS := Lib.hid (show SShower.szV 1048576 l.length = -1 by unfold SShower.szV; rw [if_pos (by omega)])
    go_enter Try.func5, Try.ntmps5
    go_wp2_with fail
    refine (SShower.szS_any P cap l.length 1048576 w (by omega) (by omega) HN.out).mono ?_
    rintro e _ ⟨rfl, rfl⟩
    rw [HS.out]
    go_wp2
    go_ret
    exact ⟨rfl, Below.refl _ _⟩
  · have HS := Lib.hid (show SShower.szV 1048576 l.length = 1048576 - l.length by unfold SShower.szV; rw [if_neg (by omega)])
    obtain ⟨q, hv⟩ : ∃ q, Value.bool (good l) = .bool q := ⟨_, rfl⟩
    have HV := Lib.hid hv; clear hv
    go_enter Try.func5, Try.ntmps5
    go_wp2_with fail
    refine (SShower.szS_any P cap l.length 1048576 w (by omega) (by omega) HN.out).mono ?_
    rintro e _ ⟨rfl, rfl⟩
    rw [HS.out]
    go_wp2_with fail
    refine (SShower.toS_any P cap l w hr (by omega)).mono ?_
    rintro e v2 ⟨rfl, ho1, hb1⟩
    go_wp2_with fail
    refine (are_spec _ _ l _ (Rd.of_own ho1) (by omega)).mono ?_
    rintro e v3 ⟨rfl, hb2⟩
    rw [HV.out]
    have HB := be hb1 hb2
    clear ho1 hb1 hb2
    go_wp2_with fail
    refine (SShower.toS_any P cap l _ ((hr.below HB (Nat.le_refl _)).mono HB.size) (by omega)).mono ?_
    rintro e v4 ⟨rfl, ho, hv4⟩
    replace HB := be HB hv4
    have zhv4 := hv4.size
    go_wp2_with fail
    refine (are_impl _ _ l _ (Rd.of_own ho) (Nat.le_refl _) (by omega)).mono ?_
    rintro e v5 ⟨rfl, hv5⟩
    replace HB := be HB hv5
    replace ho := own_keep ho hv5
    have zhv5 := hv5.size
    rw [HV.out]
    go_wp2_with fail
    refine (SShower.toS_any P cap l _ ((hr.below HB (Nat.le_refl _)).mono HB.size) (by omega)).mono ?_
    rintro e v6 ⟨rfl, ho2, hv6⟩
    replace HB := be HB hv6
    replace ho := own_keep ho hv6
    have zhv6 := hv6.size
    go_wp2_with fail
    refine (SShower.eqS_any _ _ _ _ l l _ (Rd.of_own ho) (Rd.of_own ho2) HN.out HN.out).mono ?_
    rintro e v7 ⟨rfl, hv7⟩
    replace HB := be HB hv7
    replace ho := own_keep ho hv7
    have zhv7 := hv7.size
    rw [decide_eq_true rfl]
    go_wp2
    go_ret
    exact ⟨rfl, HB⟩
theorem rain_law (P : Option Addr) (cap : Nat) (l : List SShower.R) (c : Int) (d : Int) (w : World) (hr : Rd w w.heap.size P (SShower.flat l)) (hn : l.length ≤ maxLen) :
    Calls Try.prog 6 #[.slice P l.length cap, .int .i64 c, .int .i64 d] w (Yes w) := by
  have HN := Lib.hid hn
  unfold maxLen at hn
  by_cases hbig : 1048576 < l.length
  · have HS := Lib.hid (show SShower.szV 1048576 l.length = -1 by unfold SShower.szV; rw [if_pos (by omega)])
    go_enter Try.func6, Try.ntmps6
    go_wp2_with fail
    refine (SShower.szS_any P cap l.length 1048576 w (by omega) (by omega) HN.out).mono ?_
    rintro e _ ⟨rfl, rfl⟩
    rw [HS.out]
    go_wp2
    go_ret
    exact ⟨rfl, Below.refl _ _⟩
  · have HS := Lib.hid (show SShower.szV 1048576 l.length = 1048576 - l.length by unfold SShower.szV; rw [if_neg (by omega)])
    obtain ⟨x, q, hv⟩ : ∃ x q, rainV l c d = .tuple #[.int .i64 x, .bool q] := rain_form l c d
    have HV := Lib.hid hv; clear hv
    go_enter Try.func6, Try.ntmps6
    go_wp2_with fail
    refine (SShower.szS_any P cap l.length 1048576 w (by omega) (by omega) HN.out).mono ?_
    rintro e _ ⟨rfl, rfl⟩
    rw [HS.out]
    go_wp2_with fail
    refine (SShower.toS_any P cap l w hr (by omega)).mono ?_
    rintro e v2 ⟨rfl, ho1, hb1⟩
    go_wp2_with fail
    refine (ShwL.rain_spec _ _ l c d _ (Rd.of_own ho1) (by omega)).mono ?_
    rintro e v3 ⟨rfl, hb2⟩
    rw [HV.out]
    have HB := be hb1 hb2
    clear ho1 hb1 hb2
    go_wp2_with fail
    refine (SShower.toS_any P cap l _ ((hr.below HB (Nat.le_refl _)).mono HB.size) (by omega)).mono ?_
    rintro e v4 ⟨rfl, ho, hv4⟩
    replace HB := be HB hv4
    have zhv4 := hv4.size
    go_wp2_with fail
    refine (ShwL.rain_impl _ _ l c d _ (Rd.of_own ho) (Nat.le_refl _) (by omega)).mono ?_
    rintro e v5 ⟨rfl, hv5⟩
    replace HB := be HB hv5
    replace ho := own_keep ho hv5
    have zhv5 := hv5.size
    rw [HV.out]
    go_wp2_with fail
    refine (SShower.toS_any P cap l _ ((hr.below HB (Nat.le_refl _)).mono HB.size) (by omega)).mono ?_
    rintro e v6 ⟨rfl, ho2, hv6⟩
    replace HB := be HB hv6
    replace ho := own_keep ho hv6
    have zhv6 := hv6.size
    go_wp2_with fail
    refine (SShower.eqS_any _ _ _ _ l l _ (Rd.of_own ho) (Rd.of_own ho2) HN.out HN.out).mono ?_
    rintro e v7 ⟨rfl, hv7⟩
    replace HB := be HB hv7
    replace ho := own_keep ho hv7
    have zhv7 := hv7.size
    rw [decide_eq_true rfl]
    go_wp2
    go_ret
    exact ⟨rfl, HB⟩
theorem btw_law (P : Option Addr) (cap : Nat) (l : List SShower.R) (c : Int) (a : Int) (b : Int) (w : World) (hr : Rd w w.heap.size P (SShower.flat l)) (hn : l.length ≤ maxLen) :
    Calls Try.prog 8 #[.slice P l.length cap, .int .i64 c, .int .i64 a, .int .i64 b] w (Yes w) := by
  have HN := Lib.hid hn
  unfold maxLen at hn
  by_cases hbig : 1048576 < l.length
  · have HS := Lib.hid (show SShower.szV 1048576 l.length = -1 by unfold SShower.szV; rw [if_pos (by omega)])
    go_enter Try.func8, Try.ntmps8
    go_wp2_with fail
    refine (SShower.szS_any P cap l.length 1048576 w (by omega) (by omega) HN.out).mono ?_
    rintro e _ ⟨rfl, rfl⟩
    rw [HS.out]
    go_wp2
    go_ret
    exact ⟨rfl, Below.refl _ _⟩
  · have HS := Lib.hid (show SShower.szV 1048576 l.length = 1048576 - l.length by unfold SShower.szV; rw [if_neg (by omega)])
    obtain ⟨x, q, hv⟩ : ∃ x q, btwV l c a b = .tuple #[.int .i64 x, .bool q] := btw_form l c a b
    have HV := Lib.hid hv; clear hv
    go_enter Try.func8, Try.ntmps8
    go_wp2_with fail
    refine (SShower.szS_any P cap l.length 1048576 w (by omega) (by omega) HN.out).mono ?_
    rintro e _ ⟨rfl, rfl⟩
    rw [HS.out]
    go_wp2_with fail
    refine (SShower.toS_any P cap l w hr (by omega)).mono ?_
    rintro e v2 ⟨rfl, ho1, hb1⟩
    go_wp2_with fail
    refine (ShwL.btw_spec _ _ l c a b _ (Rd.of_own ho1) (by omega)).mono ?_
    rintro e v3 ⟨rfl, hb2⟩
    rw [HV.out]
    have HB := be hb1 hb2
    clear ho1 hb1 hb2
    go_wp2_with fail
    refine (SShower.toS_any P cap l _ ((hr.below HB (Nat.le_refl _)).mono HB.size) (by omega)).mono ?_
    rintro e v4 ⟨rfl, ho, hv4⟩
    replace HB := be HB hv4
    have zhv4 := hv4.size
    go_wp2_with fail
    refine (ShwL.btw_impl _ _ l c a b _ (Rd.of_own ho) (Nat.le_refl _) (by omega)).mono ?_
    rintro e v5 ⟨rfl, hv5⟩
    replace HB := be HB hv5
    replace ho := own_keep ho hv5
    have zhv5 := hv5.size
    rw [HV.out]
    go_wp2_with fail
    refine (SShower.toS_any P cap l _ ((hr.below HB (Nat.le_refl _)).mono HB.size) (by omega)).mono ?_
    rintro e v6 ⟨rfl, ho2, hv6⟩
    replace HB := be HB hv6
    replace ho := own_keep ho hv6
    have zhv6 := hv6.size
    go_wp2_with fail
    refine (SShower.eqS_any _ _ _ _ l l _ (Rd.of_own ho) (Rd.of_own ho2) HN.out HN.out).mono ?_
    rintro e v7 ⟨rfl, hv7⟩
    replace HB := be HB hv7
    replace ho := own_keep ho hv7
    have zhv7 := hv7.size
    rw [decide_eq_true rfl]
    go_wp2
    go_ret
    exact ⟨rfl, HB⟩
theorem wet_law (P : Option Addr) (cap : Nat) (l : List SShower.R) (w : World) (hr : Rd w w.heap.size P (SShower.flat l)) (hn : l.length ≤ maxLen) :
    Calls Try.prog 13 #[.slice P l.length cap] w (Yes w) := by
  have HN := Lib.hid hn
  unfold maxLen at hn
  by_cases hbig : 1048576 < l.length
  · have HS := Lib.hid (show SShower.szV 1048576 l.length = -1 by unfold SShower.szV; rw [if_pos (by omega)])
    go_enter Try.func13, Try.ntmps13
    go_wp2_with fail
    refine (SShower.szS_any P cap l.length 1048576 w (by omega) (by omega) HN.out).mono ?_
    rintro e _ ⟨rfl, rfl⟩
    rw [HS.out]
    go_wp2
    go_ret
    exact ⟨rfl, Below.refl _ _⟩
  · have HS := Lib.hid (show SShower.szV 1048576 l.length = 1048576 - l.length by unfold SShower.szV; rw [if_neg (by omega)])
    obtain ⟨x, q, hv⟩ : ∃ x q, ShwW.wetV l = .tuple #[.int .i64 x, .bool q] := ShwW.wet_form l
    have HV := Lib.hid hv; clear hv
    go_enter Try.func13, Try.ntmps13
    go_wp2_with fail
    refine (SShower.szS_any P cap l.length 1048576 w (by omega) (by omega) HN.out).mono ?_
    rintro e _ ⟨rfl, rfl⟩
    rw [HS.out]
    go_wp2_with fail
    refine (SShower.toS_any P cap l w hr (by omega)).mono ?_
    rintro e v2 ⟨rfl, ho1, hb1⟩
    go_wp2_with fail
    refine (ShwW.wet_spec _ _ l _ (Rd.of_own ho1) (by omega)).mono ?_
    rintro e v3 ⟨rfl, hb2⟩
    rw [HV.out]
    have HB := be hb1 hb2
    clear ho1 hb1 hb2
    go_wp2_with fail
    refine (SShower.toS_any P cap l _ ((hr.below HB (Nat.le_refl _)).mono HB.size) (by omega)).mono ?_
    rintro e v4 ⟨rfl, ho, hv4⟩
    replace HB := be HB hv4
    have zhv4 := hv4.size
    go_wp2_with fail
    refine (ShwW.wet_impl _ _ l _ (Rd.of_own ho) (Nat.le_refl _) (by omega)).mono ?_
    rintro e v5 ⟨rfl, hv5⟩
    replace HB := be HB hv5
    replace ho := own_keep ho hv5
    have zhv5 := hv5.size
    rw [HV.out]
    go_wp2_with fail
    refine (SShower.toS_any P cap l _ ((hr.below HB (Nat.le_refl _)).mono HB.size) (by omega)).mono ?_
    rintro e v6 ⟨rfl, ho2, hv6⟩
    replace HB := be HB hv6
    replace ho := own_keep ho hv6
    have zhv6 := hv6.size
    go_wp2_with fail
    refine (SShower.eqS_any _ _ _ _ l l _ (Rd.of_own ho) (Rd.of_own ho2) HN.out HN.out).mono ?_
    rintro e v7 ⟨rfl, hv7⟩
    replace HB := be HB hv7
    replace ho := own_keep ho hv7
    have zhv7 := hv7.size
    rw [decide_eq_true rfl]
    go_wp2
    go_ret
    exact ⟨rfl, HB⟩
set_option maxHeartbeats 400000 in
theorem need_law (P : Option Addr) (cap : Nat) (l : List SShower.R) (p q : Int) (c : Int) (d : Int) (t : Int) (w : World) (hr : Rd w w.heap.size P (SShower.flat l)) (hn : l.length ≤ maxLen) :
    Calls Try.prog 11 #[.slice P l.length cap, .agg #[.int .i64 p, .int .i64 q], .int .i64 c, .int .i64 d, .int .i64 t] w (Yes w) := by
  have HN := Lib.hid hn
  unfold maxLen at hn
  by_cases hbig : 1048576 < l.length
  · have HS := Lib.hid (show SShower.szV 1048576 l.length = -1 by unfold SShower.szV; rw [if_pos (by omega)])
    go_enter Try.func11, Try.ntmps11
    go_wp2_with fail
    have B := Box.new (Below.refl _ w) [.int .i64 p, .int .i64 q] 61 (g := w.heap.size) rfl
    generalize (w.alloc (.cells #[.int .i64 p, .int .i64 q] 61)) = W1 at B ⊢
    have B_0 := B.cells 0 _ rfl
    have B_1 := B.cells 1 _ rfl
    have B_f0 := B.free 0 (by simp)
    have B_f1 := B.free 1 (by simp)
    have B_t := B.there
    go_wp2_with fail
    refine (SShower.szS_any P cap l.length 1048576 _ (by omega) (by omega) HN.out).mono ?_
    rintro e _ ⟨rfl, rfl⟩
    rw [HS.out]
    go_wp2
    go_ret
    exact ⟨rfl, B.below⟩
  · have HS := Lib.hid (show SShower.szV 1048576 l.length = 1048576 - l.length by unfold SShower.szV; rw [if_neg (by omega)])
    obtain ⟨x, y, hv⟩ : ∃ x y, ShwC.needV (ShwC.ndOk l p q c d t) (ShwC.first p (kilo l c d) t) = .tuple #[.int .i64 x, .bool y] := ShwC.need_form _ _
    have HV := Lib.hid hv; clear hv
    go_enter Try.func11, Try.ntmps11
    go_wp2_with fail
    have B := Box.new (Below.refl _ w) [.int .i64 p, .int .i64 q] 61 (g := w.heap.size) rfl
    generalize (w.alloc (.cells #[.int .i64 p, .int .i64 q] 61)) = W1 at B ⊢
    have B_0 := B.cells 0 _ rfl
    have B_1 := B.cells 1 _ rfl
    have B_f0 := B.free 0 (by simp)
    have B_f1 := B.free 1 (by simp)
    have B_t := B.there
    go_wp2_with fail
    refine (SShower.szS_any P cap l.length 1048576 _ (by omega) (by omega) HN.out).mono ?_
    rintro e _ ⟨rfl, rfl⟩
    rw [HS.out]
    go_wp2
    clear B_0 B_1 B_f0 B_f1 B_t
    obtain ⟨n03, hn03⟩ : ∃ n, n = W1.heap.size := ⟨_, rfl⟩
    have zn03 : w.heap.size ≤ n03 := by rw [hn03]; exact B.below.size
    refine wp_region_seq (fun L w' => Box (w.heap.size) [.int .i64 p, .int .i64 q] w w' ∧ (¬ L 1 → ¬ L 3 → w'.heap.size = n03) ∧ (L 1 → w'.ownsRow n03 54 2 (.slice (some ⟨n03, 0, none⟩) l.length l.length) l.length (SShower.flat l))) (by kernel_rfl) (by kernel_rfl) ⟨B.drew, fun _ _ => hn03.symm, fun h => h.elim⟩ ?_
    replace hn03 := Lib.hid hn03
    iterate 13 (
      apply SeqH.op
      · intro L uw K hN hS hK
        obtain ⟨qB, qz, qo⟩ := hS
        have qB_0 := qB.cells 0 _ rfl
        have qB_1 := qB.cells 1 _ rfl
        first
          | (go_simp; exact hK.out _ ⟨qB, fun a b => qz (fun h => a (.inl h)) (fun h => b (.inl h)), fun h => qo (h.resolve_right (by decide))⟩)
          | (have e0 := qz (hN.out.1 1 (by decide +kernel)) (hN.out.1 3 (by decide +kernel)); go_simp; go_at_call 43; (with_reducible refine (SShower.toS_any P cap l uw (rd_keep hr qB.below) (by omega)).mono ?_); rintro e uw1 ⟨rfl, ho, hv⟩; rw [e0] at ho ⊢; go_wp2_with fail; exact hK.out _ ⟨qB.more hv, fun a _ => (a (by simp)).elim, fun _ => ho⟩)
          | (go_simp; go_at_call 45; (with_reducible refine (SBrine.to_any ⟨p, q⟩ _).mono ?_); rintro e uw1 ⟨rfl, hv⟩; unfold SBrine.R.val; go_wp2_with fail; exact hK.out _ ⟨qB.more hv, fun _ b => (b (by simp)).elim, fun h => own_keep (qo (h.resolve_right (by decide))) hv⟩)
          | (have ql := hN.out.2 1 (by decide +kernel); have qr := qo ql; go_simp; go_at_call 24; (with_reducible refine (ShwC.need_spec _ _ l p q c d t _ (Rd.of_own qr) (by omega)).mono ?_); rintro e uw1 ⟨rfl, hv⟩; rw [HV.out]; go_wp2_with fail; exact hK.out _ ⟨qB.more hv, fun a _ => (a (.inl ql)).elim, fun h => own_keep qr hv⟩)
      try simp only [Act.put, List.setIfInBounds_toArray, List.set_cons_zero, List.set_cons_succ])
    refine SeqH.done rfl ?_
    intro L v3 hL hS
    clear hL B
    obtain ⟨B, _, _⟩ := hS
    have B_0 := B.cells 0 _ rfl
    have B_1 := B.cells 1 _ rfl
    have B_f0 := B.free 0 (by simp)
    have B_f1 := B.free 1 (by simp)
    have B_t := B.there
    go_wp2_with fail
    go_wp2_with fail
    refine (SShower.toS_any P cap l _ (rd_keep hr B.below) (by omega)).mono ?_
    rintro e v4 ⟨rfl, ho, hv4⟩
    clear B_0 B_1 B_f0 B_f1 B_t
    replace B := B.more hv4
    have zhv4 := hv4.size
    clear hv4
    have B_0 := B.cells 0 _ rfl
    have B_1 := B.cells 1 _ rfl
    have B_f0 := B.free 0 (by simp)
    have B_f1 := B.free 1 (by simp)
    have B_t := B.there
    go_wp2_with fail
    refine (SBrine.to_any ⟨p, q⟩ _).mono ?_
    rintro e v5 ⟨rfl, hv5⟩
    clear B_0 B_1 B_f0 B_f1 B_t
    replace B := B.more hv5
    replace ho := own_keep ho hv5
    have zhv5 := hv5.size
    clear hv5
    have B_0 := B.cells 0 _ rfl
    have B_1 := B.cells 1 _ rfl
    have B_f0 := B.free 0 (by simp)
    have B_f1 := B.free 1 (by simp)
    have B_t := B.there
    unfold SBrine.R.val
    go_wp2_with fail
    refine (ShwC.need_impl _ _ l p q c d t _ (Rd.of_own ho) (Nat.le_refl _) (by omega)).mono ?_
    rintro e v6 ⟨rfl, hv6⟩
    clear B_0 B_1 B_f0 B_f1 B_t
    replace B := B.more hv6
    replace ho := own_keep ho hv6
    have zhv6 := hv6.size
    clear hv6
    have B_0 := B.cells 0 _ rfl
    have B_1 := B.cells 1 _ rfl
    have B_f0 := B.free 0 (by simp)
    have B_f1 := B.free 1 (by simp)
    have B_t := B.there
    rw [HV.out]
    go_wp2_with fail
    refine (SShower.toS_any P cap l _ (rd_keep hr B.below) (by omega)).mono ?_
    rintro e v7 ⟨rfl, ho2, hv7⟩
    clear B_0 B_1 B_f0 B_f1 B_t
    replace B := B.more hv7
    replace ho := own_keep ho hv7
    have zhv7 := hv7.size
    clear hv7
    have B_0 := B.cells 0 _ rfl
    have B_1 := B.cells 1 _ rfl
    have B_f0 := B.free 0 (by simp)
    have B_f1 := B.free 1 (by simp)
    have B_t := B.there
    go_wp2_with fail
    refine (SShower.eqS_any _ _ _ _ l l _ (Rd.of_own ho) (Rd.of_own ho2) HN.out HN.out).mono ?_
    rintro e v8 ⟨rfl, hv8⟩
    clear B_0 B_1 B_f0 B_f1 B_t
    replace B := B.more hv8
    replace ho := own_keep ho hv8
    have zhv8 := hv8.size
    clear hv8
    have B_0 := B.cells 0 _ rfl
    have B_1 := B.cells 1 _ rfl
    have B_f0 := B.free 0 (by simp)
    have B_f1 := B.free 1 (by simp)
    have B_t := B.there
    rw [decide_eq_true rfl]
    go_wp2
    go_ret
    exact ⟨rfl, B.below⟩
end Go.Proofs.Ytpbmncecejchjaa.Laws9a
