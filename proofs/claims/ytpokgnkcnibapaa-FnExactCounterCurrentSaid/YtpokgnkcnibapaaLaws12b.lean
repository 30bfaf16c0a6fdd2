/- The laws on batches in a row, walked. Made by tools/mk_law12.py. -/
import Derived.Test.YtpokgnkcnibapaaBatX
namespace Go.Proofs.Ytpokgnkcnibapaa.Laws12b
open Go.RowKit Go.Proofs.Ytpokgnkcnibapaa.Mem Go.Proofs.Ytpokgnkcnibapaa.Base Go.Proofs.Ytpokgnkcnibapaa.SBatch Go.Proofs.Ytpokgnkcnibapaa.Regn Go.Proofs.Ytpokgnkcnibapaa.Boxes Go.Proofs.Ytpokgnkcnibapaa.Keep Go.Proofs.Ytpokgnkcnibapaa.BatP Go.Proofs.Ytpokgnkcnibapaa.BatQ
set_option linter.unusedVariables false
set_option linter.unusedSimpArgs false
set_option maxRecDepth 100000
/-- What each walk of a law ends in. -/
def Yes (w : World) (e : Ending) (w' : World) : Prop := e = .returned (.bool true) ∧ Below w.heap.size w w'
set_option maxHeartbeats 800000 in
theorem cc_law (P : Option Addr) (cap : Nat) (l : List SBatch.R) (v : Int) (w : World) (hr : Rd w w.heap.size P (SBatch.flat l)) (hn : l.length ≤ maxLen) :
    Calls Try.prog 11 #[.slice P l.length cap, .int .i64 v] w (Yes w) := by
  have HN := Lib.hid hn
  unfold maxLen at hn
  by_cases hbig : 1048576 < l.length
  · have HS := Lib.hid (show SBatch.szV 1048576 l.length = -1 by unfold SBatch.szV; rw [if_pos (by omega)])
    go_enter Try.func11, Try.ntmps11
    go_wp2_with fail
    refine (SBatch.szS_any P cap l.length 1048576 w (by omega) (by omega) HN.out).mono ?_
    rintro e _ ⟨rfl, rfl⟩
    rw [HS.out]
    go_wp2
    go_ret
    exact ⟨rfl, Below.refl _ _⟩
  · have HS := Lib.hid (show SBatch.szV 1048576 l.length = 1048576 - l.length by unfold SBatch.szV; rw [if_neg (by omega)])
    have hs := fun P cap w hr => BatX.cc_spec P cap l v w hr (by omega)
    have hi := fun P cap w hr hc => BatX.cc_impl P cap l v w hr hc (by omega)
    have hm : (ccL l v).length ≤ 100 := ccL_len l v
    unfold BatC.Row2 at hs hi
    generalize ccL l v = M at hs hi hm
    generalize ccOk l v = q at hs hi
    generalize (ccN l v) = y at hs hi
    have HSP := Lib.hid hs; clear hs
    have HIM := Lib.hid hi; clear hi
    have HM := Lib.hid (show M.length ≤ maxLen by unfold maxLen; omega)
    have hk1 : decide ((1 : Int) + l.length * 3 < 0) = false := decide_eq_false (by omega)
    go_enter Try.func11, Try.ntmps11
    go_wp2_with fail
    refine (SBatch.szS_any P cap l.length 1048576 w (by omega) (by omega) HN.out).mono ?_
    rintro e _ ⟨rfl, rfl⟩
    rw [HS.out]
    go_wp2_with fail
    refine (SBatch.toS_any P cap l w hr (by omega)).mono ?_
    rintro e v2 ⟨rfl, ho1, hb1⟩
    go_wp2_with fail
    refine (HSP.out _ _ _ (Rd.of_own ho1)).mono ?_
    rintro e v3 ⟨A0, c0, rfl, O0, hb2⟩
    have HB := be hb1 hb2
    have RL := RdL.of (Rd.of_own O0)
    clear ho1 hb1 hb2 O0
    have hXB := HB.size
    go_wp2_with fail
    refine (SBatch.toS_any P cap l _ ((hr.below HB (Nat.le_refl _)).mono HB.size) (by omega)).mono ?_
    rintro e v4 ⟨rfl, OX, hv4⟩
    replace HB := be HB hv4
    replace RL := rdl_keep RL hv4
    have zhv4 := hv4.size
    have hXG := own_lt OX
    go_wp2_with fail
    refine (HIM.out _ _ _ (Rd.of_own OX) (Nat.le_refl _)).mono ?_
    rintro e v5 ⟨A1, c1, rfl, O1, hv5⟩
    replace HB := be HB hv5
    replace RL := rdl_keep RL hv5
    replace OX := own_keep OX hv5
    have zhv5 := hv5.size
    go_wp2_with fail
    refine (SBatch.eqS_any A1 A0 c1 c0 M M _ (Rd.of_own O1) RL.rd HM.out HM.out).mono ?_
    rintro e v6 ⟨rfl, hv6⟩
    replace HB := be HB hv6
    replace RL := rdl_keep RL hv6
    replace OX := own_keep OX hv6
    replace O1 := own_keep O1 hv6
    have zhv6 := hv6.size
    rw [decide_eq_true rfl]
    go_wp2_with fail
    refine (SBatch.toS_any P cap l _ ((hr.below HB (Nat.le_refl _)).mono HB.size) (by omega)).mono ?_
    rintro e v7 ⟨rfl, ho2, hv7⟩
    replace HB := be HB hv7
    replace RL := rdl_keep RL hv7
    replace OX := own_keep OX hv7
    replace O1 := own_keep O1 hv7
    have zhv7 := hv7.size
    go_wp2_with fail
    refine (SBatch.eqS_any _ _ _ _ l l _ (Rd.of_own OX) (Rd.of_own ho2) HN.out HN.out).mono ?_
    rintro e v8 ⟨rfl, hv8⟩
    replace HB := be HB hv8
    replace RL := rdl_keep RL hv8
    replace OX := own_keep OX hv8
    replace O1 := own_keep O1 hv8
    have zhv8 := hv8.size
    rw [decide_eq_true rfl]
    clear ho2
    go_wp2_with fail
    refine (SBatch.markS_any _ _ v3.heap.size l 1 _ OX (by omega) (by omega) (by omega)).mono ?_
    rintro e v9 ⟨rfl, om, hg⟩
    replace RL := RL.grown hg (fun k hk => by have := row_at hk; omega)
    replace O1 := own_grown O1 hg (fun k hk => by have := row_at hk; omega)
    replace HB := bl_grown HB hg (fun k hk => by have := row_at hk; omega)
    clear OX
    clear om hg
    go_wp2_with fail
    refine (SBatch.eqS_any A1 A0 c1 c0 M M _ (Rd.of_own O1) RL.rd HM.out HM.out).mono ?_
    rintro e v10 ⟨rfl, hv10⟩
    replace HB := be HB hv10
    replace RL := rdl_keep RL hv10
    replace O1 := own_keep O1 hv10
    have zhv10 := hv10.size
    rw [decide_eq_true rfl]
    go_wp2_with fail
    refine (SBatch.markS_any A1 c1 v4.heap.size M 1 _ O1 (by omega) (by omega) (by omega)).mono ?_
    rintro e v11 ⟨rfl, OM, hg⟩
    replace RL := RL.grown hg (fun k hk => by have := own_ge OM k hk; omega)
    replace HB := bl_grown HB hg (fun k hk => by have := own_ge OM k hk; omega)
    clear O1
    clear hg
    go_wp2_with fail
    refine (SBatch.heldS_any A1 c1 _ 1 M.length _ (Rd.of_own OM) (by omega) (by omega) (by omega)).mono ?_
    rintro e v12 ⟨rfl, hd⟩
    have hd2 := hd.below v11.heap.size; clear hd
    replace HB := be HB hd2
    replace RL := rdl_keep RL hd2
    replace OM := own_keep OM hd2
    go_wp2_with fail
    refine (SBatch.toS_any P cap l _ ((hr.below HB (Nat.le_refl _)).mono HB.size) (by omega)).mono ?_
    rintro e v13 ⟨rfl, OY, hv13⟩
    replace HB := be HB hv13
    replace RL := rdl_keep RL hv13
    replace OM := own_keep OM hv13
    have zhv13 := hv13.size
    go_wp2_with fail
    refine (HIM.out _ _ _ (Rd.of_own OY) (Nat.le_refl _)).mono ?_
    rintro e v14 ⟨A2, c2, rfl, O2, hv14⟩
    replace HB := be HB hv14
    replace RL := rdl_keep RL hv14
    replace OM := own_keep OM hv14
    have zhv14 := hv14.size
    clear OY
    go_wp2_with fail
    refine (SBatch.eqS_any A2 A0 c2 c0 M M _ (Rd.of_own O2) RL.rd HM.out HM.out).mono ?_
    rintro e v15 ⟨rfl, hv15⟩
    replace HB := be HB hv15
    replace RL := rdl_keep RL hv15
    replace OM := own_keep OM hv15
    have zhv15 := hv15.size
    rw [decide_eq_true rfl]
    clear O2
    go_wp2_with fail
    refine (SBatch.heldS_any A1 c1 _ 1 M.length _ (Rd.of_own OM) (by omega) (by omega) (by omega)).mono ?_
    rintro e v16 ⟨rfl, hd⟩
    go_wp2
    go_ret
    exact ⟨rfl, be HB (hd.below _)⟩
end Go.Proofs.Ytpokgnkcnibapaa.Laws12b
