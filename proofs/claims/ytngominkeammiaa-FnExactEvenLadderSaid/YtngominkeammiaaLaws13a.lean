/- The laws on ladders whose answers are numbers, and EvenLadder, walked. Made by tools/mk_law13.py. -/
import Derived.Test.YtngominkeammiaaLadX
import Derived.Test.YtngominkeammiaaLadZa
import Derived.Test.YtngominkeammiaaLadZb
import Derived.Test.YtngominkeammiaaLadU
import Derived.Test.YtngominkeammiaaSBrine
namespace Go.Proofs.Ytngominkeammiaa.Laws13a
open Go.RowKit Go.Proofs.Ytngominkeammiaa.Mem Go.Proofs.Ytngominkeammiaa.Base Go.Proofs.Ytngominkeammiaa.SRung Go.Proofs.Ytngominkeammiaa.Regn Go.Proofs.Ytngominkeammiaa.Boxes Go.Proofs.Ytngominkeammiaa.Keep Go.Proofs.Ytngominkeammiaa.LadP
set_option linter.unusedVariables false
set_option linter.unusedSimpArgs false
set_option maxRecDepth 100000
/-- What each walk of a law ends in. -/
def Yes (w : World) (e : Ending) (w' : World) : Prop := e = .returned (.bool true) ∧ Below w.heap.size w w'
theorem are_impl (P : Option Addr) (cap : Nat) (l : List R) (w : World) (hr : Rd w w.heap.size P (flat l)) (hc : l.length ≤ cap) (hn : l.length ≤ 1048576) :
    Calls Try.prog 19 #[.slice P l.length cap] w (Brine.RPost (.bool (good l)) w) := LadG.good_impl P cap l w hr hn
theorem is_law (P : Option Addr) (cap : Nat) (l : List SRung.R) (w : World) (hr : Rd w w.heap.size P (SRung.flat l)) (hn : l.length ≤ maxLen) :
    Calls Try.prog 5 #[.slice P l.length cap] w (Yes w) := by
  have HN := Lib.hid hn
  unfold maxLen at hn
  by_cases hbig : 1048576 < l.length
  · have HS := Lib.hid (show SRung.szV 1048576 l.length = -1 by unfold SRung.szV; rw [if_pos (by omega)])
    go_enter Try.func5, Try.ntmps5
    go_wp2_with fail
    refine (SRung.szS_any P cap l.length 1048576 w (by omega) (by omega) HN.out).mono ?_
    rintro e _ ⟨rfl, rfl⟩
    rw [HS.out]
    go_wp2
    go_ret
    exact ⟨rfl, Below.refl _ _⟩
  · have HS := Lib.hid (show SRung.szV 1048576 l.length = 1048576 - l.length by unfold SRung.szV; rw [if_neg (by omega)])
    obtain ⟨q, hv⟩ : ∃ q, Value.bool (good l) = .bool q := ⟨_, rfl⟩
    have HV := Lib.hid hv; clear hv
    go_enter Try.func5, Try.ntmps5
    go_wp2_with fail
    refine (SRung.szS_any P cap l.length 1048576 w (by omega) (by omega) HN.out).mono ?_
    rintro e _ ⟨rfl, rfl⟩
    rw [HS.out]
    go_wp2_with fail
    refine (SRung.toS_any P cap l w hr (by omega)).mono ?_
    rintro e v2 ⟨rfl, ho1, hb1⟩
    go_wp2_with fail
    refine (LadG.is_spec _ _ l _ (Rd.of_own ho1) (by omega)).mono ?_
    rintro e v3 ⟨rfl, hb2⟩
    rw [HV.out]
    have HB := be hb1 hb2
    clear ho1 hb1 hb2
    go_wp2_with fail
    refine (SRung.toS_any P cap l _ ((hr.below HB (Nat.le_refl _)).mono HB.size) (by omega)).mono ?_
    rintro e v4 ⟨rfl, ho, hv4⟩
    replace HB := be HB hv4
    have zhv4 := hv4.size
    go_wp2_with fail
    refine (are_impl _ _ l _ (Rd.of_own ho) (Nat.le_refl _) (by omega)).mono ?_
    rintro e v5 ⟨rfl, hv5⟩
    replace HB := be HB hv5
    replace ho := own_keep ho hv5
    have zhv5 := hv5.size
    rw [HV.out]
    go_wp2_with fail
    refine (SRung.toS_any P cap l _ ((hr.below HB (Nat.le_refl _)).mono HB.size) (by omega)).mono ?_
    rintro e v6 ⟨rfl, ho2, hv6⟩
    replace HB := be HB hv6
    replace ho := own_keep ho hv6
    have zhv6 := hv6.size
    go_wp2_with fail
    refine (SRung.eqS_any _ _ _ _ l l _ (Rd.of_own ho) (Rd.of_own ho2) HN.out HN.out).mono ?_
    rintro e v7 ⟨rfl, hv7⟩
    replace HB := be HB hv7
    replace ho := own_keep ho hv7
    have zhv7 := hv7.size
    rw [decide_eq_true rfl]
    go_wp2
    go_ret
    exact ⟨rfl, HB⟩
theorem wid_law (P : Option Addr) (cap : Nat) (l : List SRung.R) (w : World) (hr : Rd w w.heap.size P (SRung.flat l)) (hn : l.length ≤ maxLen) :
    Calls Try.prog 12 #[.slice P l.length cap] w (Yes w) := by
  have HN := Lib.hid hn
  unfold maxLen at hn
  by_cases hbig : 1048576 < l.length
  · have HS := Lib.hid (show SRung.szV 1048576 l.length = -1 by unfold SRung.szV; rw [if_pos (by omega)])
    go_enter Try.func12, Try.ntmps12
    go_wp2_with fail
    refine (SRung.szS_any P cap l.length 1048576 w (by omega) (by omega) HN.out).mono ?_
    rintro e _ ⟨rfl, rfl⟩
    rw [HS.out]
    go_wp2
    go_ret
    exact ⟨rfl, Below.refl _ _⟩
  · have HS := Lib.hid (show SRung.szV 1048576 l.length = 1048576 - l.length by unfold SRung.szV; rw [if_neg (by omega)])
    obtain ⟨x, q, hv⟩ : ∃ x q, widV l = .tuple #[.int .i64 x, .bool q] := wid_form l
    have HV := Lib.hid hv; clear hv
    go_enter Try.func12, Try.ntmps12
    go_wp2_with fail
    refine (SRung.szS_any P cap l.length 1048576 w (by omega) (by omega) HN.out).mono ?_
    rintro e _ ⟨rfl, rfl⟩
    rw [HS.out]
    go_wp2_with fail
    refine (SRung.toS_any P cap l w hr (by omega)).mono ?_
    rintro e v2 ⟨rfl, ho1, hb1⟩
    go_wp2_with fail
    refine (LadV.wid_spec _ _ l _ (Rd.of_own ho1) (by omega)).mono ?_
    rintro e v3 ⟨rfl, hb2⟩
    rw [HV.out]
    have HB := be hb1 hb2
    clear ho1 hb1 hb2
    go_wp2_with fail
    refine (SRung.toS_any P cap l _ ((hr.below HB (Nat.le_refl _)).mono HB.size) (by omega)).mono ?_
    rintro e v4 ⟨rfl, ho, hv4⟩
    replace HB := be HB hv4
    have zhv4 := hv4.size
    go_wp2_with fail
    refine (LadV.wid_impl _ _ l _ (Rd.of_own ho) (Nat.le_refl _) (by omega)).mono ?_
    rintro e v5 ⟨rfl, hv5⟩
    replace HB := be HB hv5
    replace ho := own_keep ho hv5
    have zhv5 := hv5.size
    rw [HV.out]
    go_wp2_with fail
    refine (SRung.toS_any P cap l _ ((hr.below HB (Nat.le_refl _)).mono HB.size) (by omega)).mono ?_
    rintro e v6 ⟨rfl, ho2, hv6⟩
    replace HB := be HB hv6
    replace ho := own_keep ho hv6
    have zhv6 := hv6.size
    go_wp2_with fail
    refine (SRung.eqS_any _ _ _ _ l l _ (Rd.of_own ho) (Rd.of_own ho2) HN.out HN.out).mono ?_
    rintro e v7 ⟨rfl, hv7⟩
    replace HB := be HB hv7
    replace ho := own_keep ho hv7
    have zhv7 := hv7.size
    rw [decide_eq_true rfl]
    go_wp2
    go_ret
    exact ⟨rfl, HB⟩
set_option maxHeartbeats 800000 in
theorem room_law (P : Option Addr) (cap : Nat) (l : List SRung.R) (i p q : Int) (w : World) (hr : Rd w w.heap.size P (SRung.flat l)) (hn : l.length ≤ maxLen) :
    Calls Try.prog 9 #[.slice P l.length cap, .int .i64 i, .agg #[.int .i64 p, .int .i64 q]] w (Yes w) := by
  have HN := Lib.hid hn
  unfold maxLen at hn
  by_cases hbig : 1048576 < l.length
  · have HS := Lib.hid (show SRung.szV 1048576 l.length = -1 by unfold SRung.szV; rw [if_pos (by omega)])
    go_enter Try.func9, Try.ntmps9
    go_wp2_with fail
    have B := Box.new (Below.refl _ w) [.int .i64 p, .int .i64 q] 69 (g := w.heap.size) rfl
    generalize (w.alloc (.cells #[.int .i64 p, .int .i64 q] 69)) = W1 at B ⊢
    have B_0 := B.cells 0 _ rfl
    have B_1 := B.cells 1 _ rfl
    have B_f0 := B.free 0 (by simp)
    have B_f1 := B.free 1 (by simp)
    have B_t := B.there
    go_wp2_with fail
    refine (SRung.szS_any P cap l.length 1048576 _ (by omega) (by omega) HN.out).mono ?_
    rintro e _ ⟨rfl, rfl⟩
    rw [HS.out]
    go_wp2
    go_ret
    exact ⟨rfl, B.below⟩
  · have HS := Lib.hid (show SRung.szV 1048576 l.length = 1048576 - l.length by unfold SRung.szV; rw [if_neg (by omega)])
    obtain ⟨x, y, hv⟩ : ∃ x y, roomV l i p q = .tuple #[.int .i64 x, .bool y] := room_form l i p q
    have HV := Lib.hid hv; clear hv
    go_enter Try.func9, Try.ntmps9
    go_wp2_with fail
    have B := Box.new (Below.refl _ w) [.int .i64 p, .int .i64 q] 69 (g := w.heap.size) rfl
    generalize (w.alloc (.cells #[.int .i64 p, .int .i64 q] 69)) = W1 at B ⊢
    have B_0 := B.cells 0 _ rfl
    have B_1 := B.cells 1 _ rfl
    have B_f0 := B.free 0 (by simp)
    have B_f1 := B.free 1 (by simp)
    have B_t := B.there
    go_wp2_with fail
    refine (SRung.szS_any P cap l.length 1048576 _ (by omega) (by omega) HN.out).mono ?_
    rintro e _ ⟨rfl, rfl⟩
    rw [HS.out]
    go_wp2
    clear B_0 B_1 B_f0 B_f1 B_t
    obtain ⟨n03, hn03⟩ : ∃ n, n = W1.heap.size := ⟨_, rfl⟩
    have zn03 : w.heap.size ≤ n03 := by rw [hn03]; exact B.below.size
    refine wp_region_seq (fun L w' => Box (w.heap.size) [.int .i64 p, .int .i64 q] w w' ∧ (¬ L 1 → ¬ L 4 → w'.heap.size = n03) ∧ (L 1 → w'.ownsRow n03 54 2 (.slice (some ⟨n03, 0, none⟩) l.length l.length) l.length (SRung.flat l))) (by kernel_rfl) (by kernel_rfl) ⟨B.drew, fun _ _ => hn03.symm, fun h => h.elim⟩ ?_
    replace hn03 := Lib.hid hn03
    iterate 11 (
      apply SeqH.op
      · intro L uw K hN hS hK
        obtain ⟨qB, qz, qo⟩ := hS
        have qB_0 := qB.cells 0 _ rfl
        have qB_1 := qB.cells 1 _ rfl
        first
          | (go_simp; exact hK.out _ ⟨qB, fun a b => qz (fun h => a (.inl h)) (fun h => b (.inl h)), fun h => qo (h.resolve_right (by decide))⟩)
          | (have e0 := qz (hN.out.1 1 (by decide +kernel)) (hN.out.1 4 (by decide +kernel)); go_simp; go_at_call 43; (with_reducible refine (SRung.toS_any P cap l uw (rd_keep hr qB.below) (by omega)).mono ?_); rintro e uw1 ⟨rfl, ho, hv⟩; rw [e0] at ho ⊢; go_wp2_with fail; exact hK.out _ ⟨qB.more hv, fun a _ => (a (by simp)).elim, fun _ => ho⟩)
          | (go_simp; go_at_call 53; (with_reducible refine (SBrine.to_any ⟨p, q⟩ _).mono ?_); rintro e uw1 ⟨rfl, hv⟩; unfold SBrine.R.val; go_wp2_with fail; exact hK.out _ ⟨qB.more hv, fun _ b => (b (by simp)).elim, fun h => own_keep (qo (h.resolve_right (by decide))) hv⟩)
          | (have ql := hN.out.2 1 (by decide +kernel); have qr := qo ql; go_simp; go_at_call 33; (with_reducible refine (LadZb.room_spec _ _ l i p q _ (Rd.of_own qr) (by omega)).mono ?_); rintro e uw1 ⟨rfl, hv⟩; rw [HV.out]; go_wp2_with fail; exact hK.out _ ⟨qB.more hv, fun a _ => (a (.inl ql)).elim, fun h => own_keep qr hv⟩)
      try simp only [Act.put, List.setIfInBounds_toArray, List.set_cons_zero, List.set_cons_succ])
    refine SeqH.done rfl ?_
    intro L v3 hL hS
    clear hL B
    obtain ⟨B, _, _⟩ := hS
    have B_0 := B.cells 0 _ rfl
    have B_1 := B.cells 1 _ rfl
    have B_f0 := B.free 0 (by simp)
    have B_f1 := B.free 1 (by simp)
    have B_t := B.there
    go_wp2_with fail
    go_wp2_with fail
    refine (SRung.toS_any P cap l _ (rd_keep hr B.below) (by omega)).mono ?_
    rintro e v4 ⟨rfl, ho, hv4⟩
    clear B_0 B_1 B_f0 B_f1 B_t
    replace B := B.more hv4
    have zhv4 := hv4.size
    clear hv4
    have B_0 := B.cells 0 _ rfl
    have B_1 := B.cells 1 _ rfl
    have B_f0 := B.free 0 (by simp)
    have B_f1 := B.free 1 (by simp)
    have B_t := B.there
    go_wp2_with fail
    refine (SBrine.to_any ⟨p, q⟩ _).mono ?_
    rintro e v5 ⟨rfl, hv5⟩
    clear B_0 B_1 B_f0 B_f1 B_t
    replace B := B.more hv5
    replace ho := own_keep ho hv5
    have zhv5 := hv5.size
    clear hv5
    have B_0 := B.cells 0 _ rfl
    have B_1 := B.cells 1 _ rfl
    have B_f0 := B.free 0 (by simp)
    have B_f1 := B.free 1 (by simp)
    have B_t := B.there
    unfold SBrine.R.val
    go_wp2_with fail
    refine (LadZa.room_impl _ _ l i p q _ (Rd.of_own ho) (by omega)).mono ?_
    rintro e v6 ⟨rfl, hv6⟩
    clear B_0 B_1 B_f0 B_f1 B_t
    replace B := B.more hv6
    replace ho := own_keep ho hv6
    have zhv6 := hv6.size
    clear hv6
    have B_0 := B.cells 0 _ rfl
    have B_1 := B.cells 1 _ rfl
    have B_f0 := B.free 0 (by simp)
    have B_f1 := B.free 1 (by simp)
    have B_t := B.there
    rw [HV.out]
    go_wp2_with fail
    refine (SRung.toS_any P cap l _ (rd_keep hr B.below) (by omega)).mono ?_
    rintro e v7 ⟨rfl, ho2, hv7⟩
    clear B_0 B_1 B_f0 B_f1 B_t
    replace B := B.more hv7
    replace ho := own_keep ho hv7
    have zhv7 := hv7.size
    clear hv7
    have B_0 := B.cells 0 _ rfl
    have B_1 := B.cells 1 _ rfl
    have B_f0 := B.free 0 (by simp)
    have B_f1 := B.free 1 (by simp)
    have B_t := B.there
    go_wp2_with fail
    refine (SRung.eqS_any _ _ _ _ l l _ (Rd.of_own ho) (Rd.of_own ho2) HN.out HN.out).mono ?_
    rintro e v8 ⟨rfl, hv8⟩
    clear B_0 B_1 B_f0 B_f1 B_t
    replace B := B.more hv8
    replace ho := own_keep ho hv8
    have zhv8 := hv8.size
    clear hv8
    have B_0 := B.cells 0 _ rfl
    have B_1 := B.cells 1 _ rfl
    have B_f0 := B.free 0 (by simp)
    have B_f1 := B.free 1 (by simp)
    have B_t := B.there
    rw [decide_eq_true rfl]
    go_wp2
    go_ret
    exact ⟨rfl, B.below⟩
set_option maxHeartbeats 800000 in
theorem sun_law (P : Option Addr) (cap : Nat) (l : List SRung.R) (i p q : Int) (w : World) (hr : Rd w w.heap.size P (SRung.flat l)) (hn : l.length ≤ maxLen) :
    Calls Try.prog 10 #[.slice P l.length cap, .int .i64 i, .agg #[.int .i64 p, .int .i64 q]] w (Yes w) := by
  have HN := Lib.hid hn
  unfold maxLen at hn
  by_cases hbig : 1048576 < l.length
  · have HS := Lib.hid (show SRung.szV 1048576 l.length = -1 by unfold SRung.szV; rw [if_pos (by omega)])
    go_enter Try.func10, Try.ntmps10
    go_wp2_with fail
    have B := Box.new (Below.refl _ w) [.int .i64 p, .int .i64 q] 69 (g := w.heap.size) rfl
    generalize (w.alloc (.cells #[.int .i64 p, .int .i64 q] 69)) = W1 at B ⊢
    have B_0 := B.cells 0 _ rfl
    have B_1 := B.cells 1 _ rfl
    have B_f0 := B.free 0 (by simp)
    have B_f1 := B.free 1 (by simp)
    have B_t := B.there
    go_wp2_with fail
    refine (SRung.szS_any P cap l.length 1048576 _ (by omega) (by omega) HN.out).mono ?_
    rintro e _ ⟨rfl, rfl⟩
    rw [HS.out]
    go_wp2
    go_ret
    exact ⟨rfl, B.below⟩
  · have HS := Lib.hid (show SRung.szV 1048576 l.length = 1048576 - l.length by unfold SRung.szV; rw [if_neg (by omega)])
    obtain ⟨x, y, hv⟩ : ∃ x y, sunV l i p q = .tuple #[.int .i64 x, .bool y] := sun_form l i p q
    have HV := Lib.hid hv; clear hv
    go_enter Try.func10, Try.ntmps10
    go_wp2_with fail
    have B := Box.new (Below.refl _ w) [.int .i64 p, .int .i64 q] 69 (g := w.heap.size) rfl
    generalize (w.alloc (.cells #[.int .i64 p, .int .i64 q] 69)) = W1 at B ⊢
    have B_0 := B.cells 0 _ rfl
    have B_1 := B.cells 1 _ rfl
    have B_f0 := B.free 0 (by simp)
    have B_f1 := B.free 1 (by simp)
    have B_t := B.there
    go_wp2_with fail
    refine (SRung.szS_any P cap l.length 1048576 _ (by omega) (by omega) HN.out).mono ?_
    rintro e _ ⟨rfl, rfl⟩
    rw [HS.out]
    go_wp2
    clear B_0 B_1 B_f0 B_f1 B_t
    obtain ⟨n03, hn03⟩ : ∃ n, n = W1.heap.size := ⟨_, rfl⟩
    have zn03 : w.heap.size ≤ n03 := by rw [hn03]; exact B.below.size
    refine wp_region_seq (fun L w' => Box (w.heap.size) [.int .i64 p, .int .i64 q] w w' ∧ (¬ L 1 → ¬ L 4 → w'.heap.size = n03) ∧ (L 1 → w'.ownsRow n03 54 2 (.slice (some ⟨n03, 0, none⟩) l.length l.length) l.length (SRung.flat l))) (by kernel_rfl) (by kernel_rfl) ⟨B.drew, fun _ _ => hn03.symm, fun h => h.elim⟩ ?_
    replace hn03 := Lib.hid hn03
    iterate 11 (
      apply SeqH.op
      · intro L uw K hN hS hK
        obtain ⟨qB, qz, qo⟩ := hS
        have qB_0 := qB.cells 0 _ rfl
        have qB_1 := qB.cells 1 _ rfl
        first
          | (go_simp; exact hK.out _ ⟨qB, fun a b => qz (fun h => a (.inl h)) (fun h => b (.inl h)), fun h => qo (h.resolve_right (by decide))⟩)
          | (have e0 := qz (hN.out.1 1 (by decide +kernel)) (hN.out.1 4 (by decide +kernel)); go_simp; go_at_call 43; (with_reducible refine (SRung.toS_any P cap l uw (rd_keep hr qB.below) (by omega)).mono ?_); rintro e uw1 ⟨rfl, ho, hv⟩; rw [e0] at ho ⊢; go_wp2_with fail; exact hK.out _ ⟨qB.more hv, fun a _ => (a (by simp)).elim, fun _ => ho⟩)
          | (go_simp; go_at_call 53; (with_reducible refine (SBrine.to_any ⟨p, q⟩ _).mono ?_); rintro e uw1 ⟨rfl, hv⟩; unfold SBrine.R.val; go_wp2_with fail; exact hK.out _ ⟨qB.more hv, fun _ b => (b (by simp)).elim, fun h => own_keep (qo (h.resolve_right (by decide))) hv⟩)
          | (have ql := hN.out.2 1 (by decide +kernel); have qr := qo ql; go_simp; go_at_call 35; (with_reducible refine (LadZb.sun_spec _ _ l i p q _ (Rd.of_own qr) (by omega)).mono ?_); rintro e uw1 ⟨rfl, hv⟩; rw [HV.out]; go_wp2_with fail; exact hK.out _ ⟨qB.more hv, fun a _ => (a (.inl ql)).elim, fun h => own_keep qr hv⟩)
      try simp only [Act.put, List.setIfInBounds_toArray, List.set_cons_zero, List.set_cons_succ])
    refine SeqH.done rfl ?_
    intro L v3 hL hS
    clear hL B
    obtain ⟨B, _, _⟩ := hS
    have B_0 := B.cells 0 _ rfl
    have B_1 := B.cells 1 _ rfl
    have B_f0 := B.free 0 (by simp)
    have B_f1 := B.free 1 (by simp)
    have B_t := B.there
    go_wp2_with fail
    go_wp2_with fail
    refine (SRung.toS_any P cap l _ (rd_keep hr B.below) (by omega)).mono ?_
    rintro e v4 ⟨rfl, ho, hv4⟩
    clear B_0 B_1 B_f0 B_f1 B_t
    replace B := B.more hv4
    have zhv4 := hv4.size
    clear hv4
    have B_0 := B.cells 0 _ rfl
    have B_1 := B.cells 1 _ rfl
    have B_f0 := B.free 0 (by simp)
    have B_f1 := B.free 1 (by simp)
    have B_t := B.there
    go_wp2_with fail
    refine (SBrine.to_any ⟨p, q⟩ _).mono ?_
    rintro e v5 ⟨rfl, hv5⟩
    clear B_0 B_1 B_f0 B_f1 B_t
    replace B := B.more hv5
    replace ho := own_keep ho hv5
    have zhv5 := hv5.size
    clear hv5
    have B_0 := B.cells 0 _ rfl
    have B_1 := B.cells 1 _ rfl
    have B_f0 := B.free 0 (by simp)
    have B_f1 := B.free 1 (by simp)
    have B_t := B.there
    unfold SBrine.R.val
    go_wp2_with fail
    refine (LadZa.sun_impl _ _ l i p q _ (Rd.of_own ho) (by omega)).mono ?_
    rintro e v6 ⟨rfl, hv6⟩
    clear B_0 B_1 B_f0 B_f1 B_t
    replace B := B.more hv6
    replace ho := own_keep ho hv6
    have zhv6 := hv6.size
    clear hv6
    have B_0 := B.cells 0 _ rfl
    have B_1 := B.cells 1 _ rfl
    have B_f0 := B.free 0 (by simp)
    have B_f1 := B.free 1 (by simp)
    have B_t := B.there
    rw [HV.out]
    go_wp2_with fail
    refine (SRung.toS_any P cap l _ (rd_keep hr B.below) (by omega)).mono ?_
    rintro e v7 ⟨rfl, ho2, hv7⟩
    clear B_0 B_1 B_f0 B_f1 B_t
    replace B := B.more hv7
    replace ho := own_keep ho hv7
    have zhv7 := hv7.size
    clear hv7
    have B_0 := B.cells 0 _ rfl
    have B_1 := B.cells 1 _ rfl
    have B_f0 := B.free 0 (by simp)
    have B_f1 := B.free 1 (by simp)
    have B_t := B.there
    go_wp2_with fail
    refine (SRung.eqS_any _ _ _ _ l l _ (Rd.of_own ho) (Rd.of_own ho2) HN.out HN.out).mono ?_
    rintro e v8 ⟨rfl, hv8⟩
    clear B_0 B_1 B_f0 B_f1 B_t
    replace B := B.more hv8
    replace ho := own_keep ho hv8
    have zhv8 := hv8.size
    clear hv8
    have B_0 := B.cells 0 _ rfl
    have B_1 := B.cells 1 _ rfl
    have B_f0 := B.free 0 (by simp)
    have B_f1 := B.free 1 (by simp)
    have B_t := B.there
    rw [decide_eq_true rfl]
    go_wp2
    go_ret
    exact ⟨rfl, B.below⟩
set_option maxHeartbeats 1600000 in
theorem keep_law (P : Option Addr) (cap : Nat) (l : List SRung.R) (P' : Option Addr) (cap' : Nat) (m : List SBasin.R) (w : World) (hr : Rd w w.heap.size P (SRung.flat l)) (hr' : Rd w w.heap.size P' (SBasin.flat m)) (hn : l.length ≤ maxLen) (hn' : m.length ≤ maxLen) :
    Calls Try.prog 6 #[.slice P l.length cap, .slice P' m.length cap'] w (Yes w) := by
  have HN := Lib.hid hn
  have HN' := Lib.hid hn'
  unfold maxLen at hn hn'
  by_cases hbig : 1048576 < l.length
  · have HS := Lib.hid (show SRung.szV 1048576 l.length = -1 by unfold SRung.szV; rw [if_pos (by omega)])
    go_enter Try.func6, Try.ntmps6
    go_wp2_with fail
    refine (SRung.szS_any P cap l.length 1048576 w (by omega) (by omega) HN.out).mono ?_
    rintro e _ ⟨rfl, rfl⟩
    rw [HS.out]
    go_wp2
    go_ret
    exact ⟨rfl, Below.refl _ _⟩
  have HS := Lib.hid (show SRung.szV 1048576 l.length = 1048576 - l.length by unfold SRung.szV; rw [if_neg (by omega)])
  by_cases hbig' : (1048576 : Int) - l.length < m.length
  · have HS' := Lib.hid (show SBasin.szV (1048576 - l.length) m.length = -1 by unfold SBasin.szV; rw [if_pos hbig'])
    clear hbig'
    go_enter Try.func6, Try.ntmps6
    go_wp2_with fail
    refine (SRung.szS_any P cap l.length 1048576 w (by omega) (by omega) HN.out).mono ?_
    rintro e _ ⟨rfl, rfl⟩
    rw [HS.out]
    go_wp2_with fail
    refine (SBasin.szS_any P' cap' m.length (1048576 - l.length) w (by omega) (by omega) HN'.out).mono ?_
    rintro e _ ⟨rfl, rfl⟩
    rw [HS'.out]
    go_wp2
    go_ret
    exact ⟨rfl, Below.refl _ _⟩
  have HS' := Lib.hid (show SBasin.szV (1048576 - l.length) m.length = 1048576 - l.length - m.length by unfold SBasin.szV; rw [if_neg hbig'])
  have hk0 : decide ((1048576 : Int) - l.length - m.length < 0) = false := decide_eq_false (by omega)
  have hnm : m.length ≤ 1048576 := by omega
  have HK0 := Lib.hid hbig'; clear hbig'
  obtain ⟨x, q, hv⟩ := LadX.keep_form l m
  have HV := Lib.hid hv; clear hv
  go_enter Try.func6, Try.ntmps6
  go_wp2_with fail
  refine (SRung.szS_any P cap l.length 1048576 w (by omega) (by omega) HN.out).mono ?_
  rintro e _ ⟨rfl, rfl⟩
  rw [HS.out]
  go_wp2_with fail
  refine (SBasin.szS_any P' cap' m.length (1048576 - l.length) w (by omega) (by omega) HN'.out).mono ?_
  rintro e _ ⟨rfl, rfl⟩
  rw [HS'.out]
  have HB := Below.refl w.heap.size w
  go_wp2_with fail
  refine (SRung.toS_any P cap l _ (rd_keep hr HB) (by omega)).mono ?_
  rintro e v3 ⟨rfl, ho1, hv3⟩
  replace HB := be HB hv3
  have zhv3 := hv3.size
  go_wp2_with fail
  refine (SBasin.toS_any P' cap' m _ (rd_keep hr' HB) (by omega)).mono ?_
  rintro e v4 ⟨rfl, ho2, hv4⟩
  replace HB := be HB hv4
  replace ho1 := own_keep ho1 hv4
  have zhv4 := hv4.size
  go_wp2_with fail
  refine (LadX.keep_spec _ _ _ _ l m _ (Rd.of_own ho1) (Rd.of_own ho2) (by omega) (by omega)).mono ?_
  rintro e v5 ⟨rfl, hv5⟩
  replace HB := be HB hv5
  replace ho1 := own_keep ho1 hv5
  replace ho2 := own_keep ho2 hv5
  have zhv5 := hv5.size
  rw [HV.out]
  clear ho1
  clear ho2
  go_wp2_with fail
  refine (SRung.toS_any P cap l _ (rd_keep hr HB) (by omega)).mono ?_
  rintro e v6 ⟨rfl, OX, hv6⟩
  replace HB := be HB hv6
  have zhv6 := hv6.size
  go_wp2_with fail
  refine (SBasin.toS_any P' cap' m _ (rd_keep hr' HB) (by omega)).mono ?_
  rintro e v7 ⟨rfl, OY, hv7⟩
  replace HB := be HB hv7
  replace OX := own_keep OX hv7
  have zhv7 := hv7.size
  go_wp2_with fail
  refine (LadX.keep_impl _ _ _ _ l m _ (Rd.of_own OX) (Rd.of_own OY) (by omega) (by omega)).mono ?_
  rintro e v8 ⟨rfl, hv8⟩
  replace HB := be HB hv8
  replace OX := own_keep OX hv8
  replace OY := own_keep OY hv8
  have zhv8 := hv8.size
  rw [HV.out]
  go_wp2_with fail
  refine (SRung.toS_any P cap l _ (rd_keep hr HB) (by omega)).mono ?_
  rintro e v9 ⟨rfl, ho3, hv9⟩
  replace HB := be HB hv9
  replace OX := own_keep OX hv9
  replace OY := own_keep OY hv9
  have zhv9 := hv9.size
  go_wp2_with fail
  refine (SRung.eqS_any _ _ _ _ l l _ (Rd.of_own OX) (Rd.of_own ho3) HN.out HN.out).mono ?_
  rintro e v10 ⟨rfl, hv10⟩
  replace HB := be HB hv10
  replace OX := own_keep OX hv10
  replace OY := own_keep OY hv10
  have zhv10 := hv10.size
  rw [decide_eq_true rfl]
  clear ho3
  go_wp2_with fail
  refine (SBasin.toS_any P' cap' m _ (rd_keep hr' HB) (by omega)).mono ?_
  rintro e v11 ⟨rfl, ho3, hv11⟩
  replace HB := be HB hv11
  replace OX := own_keep OX hv11
  replace OY := own_keep OY hv11
  have zhv11 := hv11.size
  go_wp2_with fail
  refine (SBasin.eqS_any _ _ _ _ m m _ (Rd.of_own OY) (Rd.of_own ho3) HN'.out HN'.out).mono ?_
  rintro e v12 ⟨rfl, hv12⟩
  replace HB := be HB hv12
  replace OX := own_keep OX hv12
  replace OY := own_keep OY hv12
  have zhv12 := hv12.size
  rw [decide_eq_true rfl]
  go_wp2
  go_ret
  exact ⟨rfl, HB⟩
theorem even_len (n lo hi : Int) : (evenL n lo hi).length ≤ 100 := by
  unfold evenL
  split
  · rename_i h
    have := ev_parts h
    rw [tell_len]; omega
  · simp
set_option maxHeartbeats 800000 in
theorem even_law (n lo hi : Int) (w : World) : Calls Try.prog 13 #[.int .i64 n, .int .i64 lo, .int .i64 hi] w (Yes w) := by
  have hs := LadU.even_spec n lo hi
  have hi' := LadU.even_impl n lo hi
  have hl := even_len n lo hi
  unfold LadV.RowPost at hs hi'
  generalize evenL n lo hi = L at hs hi' hl
  generalize evOk n lo hi = q at hs hi'
  have HS := Lib.hid hs; clear hs
  have HI := Lib.hid hi'; clear hi'
  have HM := Lib.hid (show L.length ≤ maxLen by unfold maxLen; omega)
  go_enter Try.func13, Try.ntmps13
  have HB := Below.refl w.heap.size w
  go_wp2_with fail
  refine (HS.out _).mono ?_
  rintro e v1 ⟨A0, c0, rfl, O0, hv1⟩
  replace HB := be HB hv1
  have zhv1 := hv1.size
  have RL := RdL.of (Rd.of_own O0)
  clear O0
  have hXB := HB.size
  go_wp2_with fail
  refine (HI.out _).mono ?_
  rintro e v2 ⟨A1, c1, rfl, O1, hv2⟩
  replace HB := be HB hv2
  replace RL := rdl_keep RL hv2
  have zhv2 := hv2.size
  go_wp2_with fail
  refine (eqS_any A1 A0 c1 c0 L L _ (Rd.of_own O1) RL.rd HM.out HM.out).mono ?_
  rintro e v3 ⟨rfl, hv3⟩
  replace HB := be HB hv3
  replace RL := rdl_keep RL hv3
  replace O1 := own_keep O1 hv3
  have zhv3 := hv3.size
  rw [decide_eq_true rfl]
  go_wp2_with fail
  refine (markS_any A1 c1 v1.heap.size L 1 _ O1 (by omega) (by omega) (by omega)).mono ?_
  rintro e v4 ⟨rfl, OM, hg⟩
  replace RL := RL.grown hg (fun k hk => by have := own_ge OM k hk; omega)
  replace HB := bl_grown HB hg (fun k hk => by have := own_ge OM k hk; omega)
  clear O1
  clear hg
  go_wp2_with fail
  refine (heldS_any A1 c1 _ 1 L.length _ (Rd.of_own OM) (by omega) (by omega) (by omega)).mono ?_
  rintro e v5 ⟨rfl, hd⟩
  have hd2 := hd.below v4.heap.size; clear hd
  replace HB := be HB hd2
  replace RL := rdl_keep RL hd2
  replace OM := own_keep OM hd2
  go_wp2_with fail
  refine (HI.out _).mono ?_
  rintro e v6 ⟨A2, c2, rfl, O2, hv6⟩
  replace HB := be HB hv6
  replace RL := rdl_keep RL hv6
  replace OM := own_keep OM hv6
  have zhv6 := hv6.size
  go_wp2_with fail
  refine (eqS_any A2 A0 c2 c0 L L _ (Rd.of_own O2) RL.rd HM.out HM.out).mono ?_
  rintro e v7 ⟨rfl, hv7⟩
  replace HB := be HB hv7
  replace RL := rdl_keep RL hv7
  replace OM := own_keep OM hv7
  have zhv7 := hv7.size
  rw [decide_eq_true rfl]
  clear O2
  go_wp2_with fail
  refine (heldS_any A1 c1 _ 1 L.length _ (Rd.of_own OM) (by omega) (by omega) (by omega)).mono ?_
  rintro e v8 ⟨rfl, hd⟩
  go_wp2
  go_ret
  exact ⟨rfl, be HB (hd.below _)⟩
end Go.Proofs.Ytngominkeammiaa.Laws13a
