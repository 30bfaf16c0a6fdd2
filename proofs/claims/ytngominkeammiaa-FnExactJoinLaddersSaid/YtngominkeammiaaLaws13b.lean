/- The laws on two lists whose answers lie in memory (OffRungs, JoinLadders), walked. Made by tools/mk_law13.py. -/
import Derived.Test.YtngominkeammiaaLadX
import Derived.Test.YtngominkeammiaaLadU
import Derived.Test.YtngominkeammiaaLaws13a
namespace Go.Proofs.Ytngominkeammiaa.Laws13b
open Go.RowKit Go.Proofs.Ytngominkeammiaa.Mem Go.Proofs.Ytngominkeammiaa.Base Go.Proofs.Ytngominkeammiaa.SRung Go.Proofs.Ytngominkeammiaa.Regn Go.Proofs.Ytngominkeammiaa.Boxes Go.Proofs.Ytngominkeammiaa.Keep Go.Proofs.Ytngominkeammiaa.LadP
set_option linter.unusedVariables false
set_option linter.unusedSimpArgs false
set_option maxRecDepth 100000
abbrev Yes := Laws13a.Yes
theorem off_len (l : List R) (s : List SBasin.R) : (LadX.offL l s).length ≤ 100 := by
  unfold LadX.offL
  split
  · rename_i h
    have h8 := (good_all (LadX.off_parts h).1).2.1
    have := pick_len (LadW.offP l s) l.length
    omega
  · simp
theorem join_len (l m : List R) : (joinL l m).length ≤ 100 := by
  unfold joinL
  split
  · rename_i h
    unfold joinOk at h
    rw [Bool.and_eq_true] at h
    have h8 := (good_all h.1).2.1
    rw [jl_len]; omega
  · simp
set_option maxHeartbeats 1600000 in
theorem off_law (P : Option Addr) (cap : Nat) (l : List SRung.R) (P' : Option Addr) (cap' : Nat) (m : List SBasin.R) (w : World) (hr : Rd w w.heap.size P (SRung.flat l)) (hr' : Rd w w.heap.size P' (SBasin.flat m)) (hn : l.length ≤ maxLen) (hn' : m.length ≤ maxLen) :
    Calls Try.prog 7 #[.slice P l.length cap, .slice P' m.length cap'] w (Yes w) := by
  have HN := Lib.hid hn
  have HN' := Lib.hid hn'
  unfold maxLen at hn hn'
  by_cases hbig : 1048576 < l.length
  · have HS := Lib.hid (show SRung.szV 1048576 l.length = -1 by unfold SRung.szV; rw [if_pos (by omega)])
    go_enter Try.func7, Try.ntmps7
    go_wp2_with fail
    refine (SRung.szS_any P cap l.length 1048576 w (by omega) (by omega) HN.out).mono ?_
    rintro e _ ⟨rfl, rfl⟩
    rw [HS.out]
    go_wp2
    go_ret
    exact ⟨rfl, Below.refl _ _⟩
  have HS := Lib.hid (show SRung.szV 1048576 l.length = 1048576 - l.length by unfold SRung.szV; rw [if_neg (by omega)])
  by_cases hbig' : (1048576 : Int) - l.length < m.length
  · have HS' := Lib.hid (show SBasin.szV (1048576 - l.length) m.length = -1 by unfold SBasin.szV; rw [if_pos hbig'])
    clear hbig'
    go_enter Try.func7, Try.ntmps7
    go_wp2_with fail
    refine (SRung.szS_any P cap l.length 1048576 w (by omega) (by omega) HN.out).mono ?_
    rintro e _ ⟨rfl, rfl⟩
    rw [HS.out]
    go_wp2_with fail
    refine (SBasin.szS_any P' cap' m.length (1048576 - l.length) w (by omega) (by omega) HN'.out).mono ?_
    rintro e _ ⟨rfl, rfl⟩
    rw [HS'.out]
    go_wp2
    go_ret
    exact ⟨rfl, Below.refl _ _⟩
  have HS' := Lib.hid (show SBasin.szV (1048576 - l.length) m.length = 1048576 - l.length - m.length by unfold SBasin.szV; rw [if_neg hbig'])
  have hk0 : decide ((1048576 : Int) - l.length - m.length < 0) = false := decide_eq_false (by omega)
  have hnm : m.length ≤ 1048576 := by omega
  have HK0 := Lib.hid hbig'; clear hbig'
  have hs := fun P P' cap cap' w hr hr' => LadX.offr_spec P P' cap cap' l m w hr hr' (by omega) (by omega)
  have hi := fun P P' cap cap' w hr hr' => LadX.offr_impl P P' cap cap' l m w hr hr' (by omega) (by omega)
  have hm : (LadX.offL l m).length ≤ 100 := off_len l m
  unfold LadW.IxPost at hs hi
  generalize LadX.offL l m = M at hs hi hm
  generalize LadX.offOk l m = q at hs hi
  have HSP := Lib.hid hs; clear hs
  have HIM := Lib.hid hi; clear hi
  have HM := Lib.hid (show M.length ≤ maxLen by unfold maxLen; omega)
  have hk1 : decide ((1 : Int) + l.length * 2 < 0) = false := decide_eq_false (by omega)
  have hk2 : decide ((1 : Int) + l.length * 2 + m.length * 3 < 0) = false := decide_eq_false (by omega)
  go_enter Try.func7, Try.ntmps7
  go_wp2_with fail
  refine (SRung.szS_any P cap l.length 1048576 w (by omega) (by omega) HN.out).mono ?_
  rintro e _ ⟨rfl, rfl⟩
  rw [HS.out]
  go_wp2_with fail
  refine (SBasin.szS_any P' cap' m.length (1048576 - l.length) w (by omega) (by omega) HN'.out).mono ?_
  rintro e _ ⟨rfl, rfl⟩
  rw [HS'.out]
  have HB := Below.refl w.heap.size w
  go_wp2_with fail
  refine (SRung.toS_any P cap l _ (rd_keep hr HB) (by omega)).mono ?_
  rintro e v3 ⟨rfl, ho1, hv3⟩
  replace HB := be HB hv3
  have zhv3 := hv3.size
  go_wp2_with fail
  refine (SBasin.toS_any P' cap' m _ (rd_keep hr' HB) (by omega)).mono ?_
  rintro e v4 ⟨rfl, ho2, hv4⟩
  replace HB := be HB hv4
  replace ho1 := own_keep ho1 hv4
  have zhv4 := hv4.size
  go_wp2_with fail
  refine (HSP.out _ _ _ _ _ (Rd.of_own ho1) (Rd.of_own ho2)).mono ?_
  rintro e v5 ⟨A0, c0, rfl, O0, hv5⟩
  replace HB := be HB hv5
  replace ho1 := own_keep ho1 hv5
  replace ho2 := own_keep ho2 hv5
  have zhv5 := hv5.size
  have RL := RdL.of (Rd.of_own O0)
  clear ho1
  clear ho2
  clear O0
  have hXB := HB.size
  go_wp2_with fail
  refine (SRung.toS_any P cap l _ (rd_keep hr HB) (by omega)).mono ?_
  rintro e v6 ⟨rfl, OX, hv6⟩
  replace HB := be HB hv6
  replace RL := rdl_keep RL hv6
  have zhv6 := hv6.size
  have hXY := own_lt OX
  go_wp2_with fail
  refine (SBasin.toS_any P' cap' m _ (rd_keep hr' HB) (by omega)).mono ?_
  rintro e v7 ⟨rfl, OY, hv7⟩
  replace HB := be HB hv7
  replace RL := rdl_keep RL hv7
  replace OX := own_keep OX hv7
  have zhv7 := hv7.size
  have hYG := own_lt OY
  go_wp2_with fail
  refine (HIM.out _ _ _ _ _ (Rd.of_own OX) (Rd.of_own OY)).mono ?_
  rintro e v8 ⟨A1, c1, rfl, O1, hv8⟩
  replace HB := be HB hv8
  replace RL := rdl_keep RL hv8
  replace OX := own_keep OX hv8
  replace OY := own_keep OY hv8
  have zhv8 := hv8.size
  go_wp2_with fail
  refine (SInt.eqS_any A1 A0 c1 c0 M M _ (Rd.of_own O1) RL.rd HM.out HM.out).mono ?_
  rintro e v9 ⟨rfl, hv9⟩
  replace HB := be HB hv9
  replace RL := rdl_keep RL hv9
  replace OX := own_keep OX hv9
  replace OY := own_keep OY hv9
  replace O1 := own_keep O1 hv9
  have zhv9 := hv9.size
  rw [decide_eq_true rfl]
  go_wp2_with fail
  refine (SRung.toS_any P cap l _ (rd_keep hr HB) (by omega)).mono ?_
  rintro e v10 ⟨rfl, ho3, hv10⟩
  replace HB := be HB hv10
  replace RL := rdl_keep RL hv10
  replace OX := own_keep OX hv10
  replace OY := own_keep OY hv10
  replace O1 := own_keep O1 hv10
  have zhv10 := hv10.size
  go_wp2_with fail
  refine (SRung.eqS_any _ _ _ _ l l _ (Rd.of_own OX) (Rd.of_own ho3) HN.out HN.out).mono ?_
  rintro e v11 ⟨rfl, hv11⟩
  replace HB := be HB hv11
  replace RL := rdl_keep RL hv11
  replace OX := own_keep OX hv11
  replace OY := own_keep OY hv11
  replace O1 := own_keep O1 hv11
  have zhv11 := hv11.size
  rw [decide_eq_true rfl]
  clear ho3
  go_wp2_with fail
  refine (SBasin.toS_any P' cap' m _ (rd_keep hr' HB) (by omega)).mono ?_
  rintro e v12 ⟨rfl, ho3, hv12⟩
  replace HB := be HB hv12
  replace RL := rdl_keep RL hv12
  replace OX := own_keep OX hv12
  replace OY := own_keep OY hv12
  replace O1 := own_keep O1 hv12
  have zhv12 := hv12.size
  go_wp2_with fail
  refine (SBasin.eqS_any _ _ _ _ m m _ (Rd.of_own OY) (Rd.of_own ho3) HN'.out HN'.out).mono ?_
  rintro e v13 ⟨rfl, hv13⟩
  replace HB := be HB hv13
  replace RL := rdl_keep RL hv13
  replace OX := own_keep OX hv13
  replace OY := own_keep OY hv13
  replace O1 := own_keep O1 hv13
  have zhv13 := hv13.size
  rw [decide_eq_true rfl]
  clear ho3
  go_wp2_with fail
  refine (SRung.markS_any _ _ v5.heap.size l 1 _ OX (by omega) (by omega) (by omega)).mono ?_
  rintro e v14 ⟨rfl, om, hg⟩
  replace RL := RL.grown hg (fun k hk => by have := row_at hk; omega)
  replace O1 := own_grown O1 hg (fun k hk => by have := row_at hk; omega)
  replace OY := own_grown OY hg (fun k hk => by have := row_at hk; omega)
  replace HB := bl_grown HB hg (fun k hk => by have := row_at hk; omega)
  clear OX
  clear om hg
  go_wp2_with fail
  refine (SBasin.markS_any _ _ v6.heap.size m (1 + l.length * 2) _ OY (by omega) (by omega) (by omega)).mono ?_
  rintro e v15 ⟨rfl, om, hg⟩
  replace RL := RL.grown hg (fun k hk => by have := row_at hk; omega)
  replace O1 := own_grown O1 hg (fun k hk => by have := row_at hk; omega)
  replace HB := bl_grown HB hg (fun k hk => by have := row_at hk; omega)
  clear OY
  clear om hg
  go_wp2_with fail
  refine (SInt.eqS_any A1 A0 c1 c0 M M _ (Rd.of_own O1) RL.rd HM.out HM.out).mono ?_
  rintro e v16 ⟨rfl, hv16⟩
  replace HB := be HB hv16
  replace RL := rdl_keep RL hv16
  replace O1 := own_keep O1 hv16
  have zhv16 := hv16.size
  rw [decide_eq_true rfl]
  go_wp2_with fail
  refine (SInt.markS_any A1 c1 v7.heap.size M 1 _ O1 (by omega) (by omega) (by omega)).mono ?_
  rintro e v17 ⟨rfl, OM, hg⟩
  replace RL := RL.grown hg (fun k hk => by have := own_ge OM k hk; omega)
  replace HB := bl_grown HB hg (fun k hk => by have := own_ge OM k hk; omega)
  clear O1
  clear hg
  go_wp2_with fail
  refine (SInt.heldS_any A1 c1 _ 1 M.length _ (Rd.of_own OM) (by omega) (by omega) (by omega)).mono ?_
  rintro e v18 ⟨rfl, hd⟩
  have hd2 := hd.below v17.heap.size; clear hd
  replace HB := be HB hd2
  replace RL := rdl_keep RL hd2
  replace OM := own_keep OM hd2
  go_wp2_with fail
  refine (SRung.toS_any P cap l _ (rd_keep hr HB) (by omega)).mono ?_
  rintro e v19 ⟨rfl, OZ, hv19⟩
  replace HB := be HB hv19
  replace RL := rdl_keep RL hv19
  replace OM := own_keep OM hv19
  have zhv19 := hv19.size
  go_wp2_with fail
  refine (SBasin.toS_any P' cap' m _ (rd_keep hr' HB) (by omega)).mono ?_
  rintro e v20 ⟨rfl, OY, hv20⟩
  replace HB := be HB hv20
  replace RL := rdl_keep RL hv20
  replace OM := own_keep OM hv20
  replace OZ := own_keep OZ hv20
  have zhv20 := hv20.size
  go_wp2_with fail
  refine (HIM.out _ _ _ _ _ (Rd.of_own OZ) (Rd.of_own OY)).mono ?_
  rintro e v21 ⟨A2, c2, rfl, O2, hv21⟩
  replace HB := be HB hv21
  replace RL := rdl_keep RL hv21
  replace OM := own_keep OM hv21
  replace OZ := own_keep OZ hv21
  replace OY := own_keep OY hv21
  have zhv21 := hv21.size
  clear OZ
  clear OY
  go_wp2_with fail
  refine (SInt.eqS_any A2 A0 c2 c0 M M _ (Rd.of_own O2) RL.rd HM.out HM.out).mono ?_
  rintro e v22 ⟨rfl, hv22⟩
  replace HB := be HB hv22
  replace RL := rdl_keep RL hv22
  replace OM := own_keep OM hv22
  have zhv22 := hv22.size
  rw [decide_eq_true rfl]
  clear O2
  go_wp2_with fail
  refine (SInt.heldS_any A1 c1 _ 1 M.length _ (Rd.of_own OM) (by omega) (by omega) (by omega)).mono ?_
  rintro e v23 ⟨rfl, hd⟩
  go_wp2
  go_ret
  exact ⟨rfl, be HB (hd.below _)⟩
set_option maxHeartbeats 1600000 in
theorem join_law (P : Option Addr) (cap : Nat) (l : List SRung.R) (P' : Option Addr) (cap' : Nat) (m : List SRung.R) (w : World) (hr : Rd w w.heap.size P (SRung.flat l)) (hr' : Rd w w.heap.size P' (SRung.flat m)) (hn : l.length ≤ maxLen) (hn' : m.length ≤ maxLen) :
    Calls Try.prog 11 #[.slice P l.length cap, .slice P' m.length cap'] w (Yes w) := by
  have HN := Lib.hid hn
  have HN' := Lib.hid hn'
  unfold maxLen at hn hn'
  by_cases hbig : 1048576 < l.length
  · have HS := Lib.hid (show SRung.szV 1048576 l.length = -1 by unfold SRung.szV; rw [if_pos (by omega)])
    go_enter Try.func11, Try.ntmps11
    go_wp2_with fail
    refine (SRung.szS_any P cap l.length 1048576 w (by omega) (by omega) HN.out).mono ?_
    rintro e _ ⟨rfl, rfl⟩
    rw [HS.out]
    go_wp2
    go_ret
    exact ⟨rfl, Below.refl _ _⟩
  have HS := Lib.hid (show SRung.szV 1048576 l.length = 1048576 - l.length by unfold SRung.szV; rw [if_neg (by omega)])
  by_cases hbig' : (1048576 : Int) - l.length < m.length
  · have HS' := Lib.hid (show SRung.szV (1048576 - l.length) m.length = -1 by unfold SRung.szV; rw [if_pos hbig'])
    clear hbig'
    go_enter Try.func11, Try.ntmps11
    go_wp2_with fail
    refine (SRung.szS_any P cap l.length 1048576 w (by omega) (by omega) HN.out).mono ?_
    rintro e _ ⟨rfl, rfl⟩
    rw [HS.out]
    go_wp2_with fail
    refine (SRung.szS_any P' cap' m.length (1048576 - l.length) w (by omega) (by omega) HN'.out).mono ?_
    rintro e _ ⟨rfl, rfl⟩
    rw [HS'.out]
    go_wp2
    go_ret
    exact ⟨rfl, Below.refl _ _⟩
  have HS' := Lib.hid (show SRung.szV (1048576 - l.length) m.length = 1048576 - l.length - m.length by unfold SRung.szV; rw [if_neg hbig'])
  have hk0 : decide ((1048576 : Int) - l.length - m.length < 0) = false := decide_eq_false (by omega)
  have hnm : m.length ≤ 1048576 := by omega
  have HK0 := Lib.hid hbig'; clear hbig'
  have hs := fun P P' cap cap' w hr hr' => LadV.join_spec P P' cap cap' l m w hr hr' (by omega) (by omega)
  have hi := fun P P' cap cap' w hr hr' => LadU.join_impl P P' cap cap' l m w hr hr' (by omega) (by omega)
  have hm : (joinL l m).length ≤ 100 := join_len l m
  unfold LadV.RowPost at hs hi
  generalize joinL l m = M at hs hi hm
  generalize joinOk l m = q at hs hi
  have HSP := Lib.hid hs; clear hs
  have HIM := Lib.hid hi; clear hi
  have HM := Lib.hid (show M.length ≤ maxLen by unfold maxLen; omega)
  have hk1 : decide ((1 : Int) + l.length * 2 < 0) = false := decide_eq_false (by omega)
  have hk2 : decide ((1 : Int) + l.length * 2 + m.length * 2 < 0) = false := decide_eq_false (by omega)
  go_enter Try.func11, Try.ntmps11
  go_wp2_with fail
  refine (SRung.szS_any P cap l.length 1048576 w (by omega) (by omega) HN.out).mono ?_
  rintro e _ ⟨rfl, rfl⟩
  rw [HS.out]
  go_wp2_with fail
  refine (SRung.szS_any P' cap' m.length (1048576 - l.length) w (by omega) (by omega) HN'.out).mono ?_
  rintro e _ ⟨rfl, rfl⟩
  rw [HS'.out]
  have HB := Below.refl w.heap.size w
  go_wp2_with fail
  refine (SRung.toS_any P cap l _ (rd_keep hr HB) (by omega)).mono ?_
  rintro e v3 ⟨rfl, ho1, hv3⟩
  replace HB := be HB hv3
  have zhv3 := hv3.size
  go_wp2_with fail
  refine (SRung.toS_any P' cap' m _ (rd_keep hr' HB) (by omega)).mono ?_
  rintro e v4 ⟨rfl, ho2, hv4⟩
  replace HB := be HB hv4
  replace ho1 := own_keep ho1 hv4
  have zhv4 := hv4.size
  go_wp2_with fail
  refine (HSP.out _ _ _ _ _ (Rd.of_own ho1) (Rd.of_own ho2)).mono ?_
  rintro e v5 ⟨A0, c0, rfl, O0, hv5⟩
  replace HB := be HB hv5
  replace ho1 := own_keep ho1 hv5
  replace ho2 := own_keep ho2 hv5
  have zhv5 := hv5.size
  have RL := RdL.of (Rd.of_own O0)
  clear ho1
  clear ho2
  clear O0
  have hXB := HB.size
  go_wp2_with fail
  refine (SRung.toS_any P cap l _ (rd_keep hr HB) (by omega)).mono ?_
  rintro e v6 ⟨rfl, OX, hv6⟩
  replace HB := be HB hv6
  replace RL := rdl_keep RL hv6
  have zhv6 := hv6.size
  have hXY := own_lt OX
  go_wp2_with fail
  refine (SRung.toS_any P' cap' m _ (rd_keep hr' HB) (by omega)).mono ?_
  rintro e v7 ⟨rfl, OY, hv7⟩
  replace HB := be HB hv7
  replace RL := rdl_keep RL hv7
  replace OX := own_keep OX hv7
  have zhv7 := hv7.size
  have hYG := own_lt OY
  go_wp2_with fail
  refine (HIM.out _ _ _ _ _ (Rd.of_own OX) (Rd.of_own OY)).mono ?_
  rintro e v8 ⟨A1, c1, rfl, O1, hv8⟩
  replace HB := be HB hv8
  replace RL := rdl_keep RL hv8
  replace OX := own_keep OX hv8
  replace OY := own_keep OY hv8
  have zhv8 := hv8.size
  go_wp2_with fail
  refine (SRung.eqS_any A1 A0 c1 c0 M M _ (Rd.of_own O1) RL.rd HM.out HM.out).mono ?_
  rintro e v9 ⟨rfl, hv9⟩
  replace HB := be HB hv9
  replace RL := rdl_keep RL hv9
  replace OX := own_keep OX hv9
  replace OY := own_keep OY hv9
  replace O1 := own_keep O1 hv9
  have zhv9 := hv9.size
  rw [decide_eq_true rfl]
  go_wp2_with fail
  refine (SRung.toS_any P cap l _ (rd_keep hr HB) (by omega)).mono ?_
  rintro e v10 ⟨rfl, ho3, hv10⟩
  replace HB := be HB hv10
  replace RL := rdl_keep RL hv10
  replace OX := own_keep OX hv10
  replace OY := own_keep OY hv10
  replace O1 := own_keep O1 hv10
  have zhv10 := hv10.size
  go_wp2_with fail
  refine (SRung.eqS_any _ _ _ _ l l _ (Rd.of_own OX) (Rd.of_own ho3) HN.out HN.out).mono ?_
  rintro e v11 ⟨rfl, hv11⟩
  replace HB := be HB hv11
  replace RL := rdl_keep RL hv11
  replace OX := own_keep OX hv11
  replace OY := own_keep OY hv11
  replace O1 := own_keep O1 hv11
  have zhv11 := hv11.size
  rw [decide_eq_true rfl]
  clear ho3
  go_wp2_with fail
  refine (SRung.toS_any P' cap' m _ (rd_keep hr' HB) (by omega)).mono ?_
  rintro e v12 ⟨rfl, ho3, hv12⟩
  replace HB := be HB hv12
  replace RL := rdl_keep RL hv12
  replace OX := own_keep OX hv12
  replace OY := own_keep OY hv12
  replace O1 := own_keep O1 hv12
  have zhv12 := hv12.size
  go_wp2_with fail
  refine (SRung.eqS_any _ _ _ _ m m _ (Rd.of_own OY) (Rd.of_own ho3) HN'.out HN'.out).mono ?_
  rintro e v13 ⟨rfl, hv13⟩
  replace HB := be HB hv13
  replace RL := rdl_keep RL hv13
  replace OX := own_keep OX hv13
  replace OY := own_keep OY hv13
  replace O1 := own_keep O1 hv13
  have zhv13 := hv13.size
  rw [decide_eq_true rfl]
  clear ho3
  go_wp2_with fail
  refine (SRung.markS_any _ _ v5.heap.size l 1 _ OX (by omega) (by omega) (by omega)).mono ?_
  rintro e v14 ⟨rfl, om, hg⟩
  replace RL := RL.grown hg (fun k hk => by have := row_at hk; omega)
  replace O1 := own_grown O1 hg (fun k hk => by have := row_at hk; omega)
  replace OY := own_grown OY hg (fun k hk => by have := row_at hk; omega)
  replace HB := bl_grown HB hg (fun k hk => by have := row_at hk; omega)
  clear OX
  clear om hg
  go_wp2_with fail
  refine (SRung.markS_any _ _ v6.heap.size m (1 + l.length * 2) _ OY (by omega) (by omega) (by omega)).mono ?_
  rintro e v15 ⟨rfl, om, hg⟩
  replace RL := RL.grown hg (fun k hk => by have := row_at hk; omega)
  replace O1 := own_grown O1 hg (fun k hk => by have := row_at hk; omega)
  replace HB := bl_grown HB hg (fun k hk => by have := row_at hk; omega)
  clear OY
  clear om hg
  go_wp2_with fail
  refine (SRung.eqS_any A1 A0 c1 c0 M M _ (Rd.of_own O1) RL.rd HM.out HM.out).mono ?_
  rintro e v16 ⟨rfl, hv16⟩
  replace HB := be HB hv16
  replace RL := rdl_keep RL hv16
  replace O1 := own_keep O1 hv16
  have zhv16 := hv16.size
  rw [decide_eq_true rfl]
  go_wp2_with fail
  refine (SRung.markS_any A1 c1 v7.heap.size M 1 _ O1 (by omega) (by omega) (by omega)).mono ?_
  rintro e v17 ⟨rfl, OM, hg⟩
  replace RL := RL.grown hg (fun k hk => by have := own_ge OM k hk; omega)
  replace HB := bl_grown HB hg (fun k hk => by have := own_ge OM k hk; omega)
  clear O1
  clear hg
  go_wp2_with fail
  refine (SRung.heldS_any A1 c1 _ 1 M.length _ (Rd.of_own OM) (by omega) (by omega) (by omega)).mono ?_
  rintro e v18 ⟨rfl, hd⟩
  have hd2 := hd.below v17.heap.size; clear hd
  replace HB := be HB hd2
  replace RL := rdl_keep RL hd2
  replace OM := own_keep OM hd2
  go_wp2_with fail
  refine (SRung.toS_any P cap l _ (rd_keep hr HB) (by omega)).mono ?_
  rintro e v19 ⟨rfl, OZ, hv19⟩
  replace HB := be HB hv19
  replace RL := rdl_keep RL hv19
  replace OM := own_keep OM hv19
  have zhv19 := hv19.size
  go_wp2_with fail
  refine (SRung.toS_any P' cap' m _ (rd_keep hr' HB) (by omega)).mono ?_
  rintro e v20 ⟨rfl, OY, hv20⟩
  replace HB := be HB hv20
  replace RL := rdl_keep RL hv20
  replace OM := own_keep OM hv20
  replace OZ := own_keep OZ hv20
  have zhv20 := hv20.size
  go_wp2_with fail
  refine (HIM.out _ _ _ _ _ (Rd.of_own OZ) (Rd.of_own OY)).mono ?_
  rintro e v21 ⟨A2, c2, rfl, O2, hv21⟩
  replace HB := be HB hv21
  replace RL := rdl_keep RL hv21
  replace OM := own_keep OM hv21
  replace OZ := own_keep OZ hv21
  replace OY := own_keep OY hv21
  have zhv21 := hv21.size
  clear OZ
  clear OY
  go_wp2_with fail
  refine (SRung.eqS_any A2 A0 c2 c0 M M _ (Rd.of_own O2) RL.rd HM.out HM.out).mono ?_
  rintro e v22 ⟨rfl, hv22⟩
  replace HB := be HB hv22
  replace RL := rdl_keep RL hv22
  replace OM := own_keep OM hv22
  have zhv22 := hv22.size
  rw [decide_eq_true rfl]
  clear O2
  go_wp2_with fail
  refine (SRung.heldS_any A1 c1 _ 1 M.length _ (Rd.of_own OM) (by omega) (by omega) (by omega)).mono ?_
  rintro e v23 ⟨rfl, hd⟩
  go_wp2
  go_ret
  exact ⟨rfl, be HB (hd.below _)⟩
end Go.Proofs.Ytngominkeammiaa.Laws13b
