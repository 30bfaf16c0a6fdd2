/- FnHeights, walked. -/
import Derived.Test.YtbbnbkdglihhhaaTLaw0
import Derived.Test.YtbbnbkdglihhhaaLaws4b
namespace Go.Proofs.Ytbbnbkdglihhhaa.HeightLaw
open Go.RowKit Go.Proofs.Ytbbnbkdglihhhaa.Mem Go.Proofs.Ytbbnbkdglihhhaa.Base Go.Proofs.Ytbbnbkdglihhhaa.Draw Go.Proofs.Ytbbnbkdglihhhaa.SMark Go.Proofs.Ytbbnbkdglihhhaa.Regn Go.Proofs.Ytbbnbkdglihhhaa.Boxes Go.Proofs.Ytbbnbkdglihhhaa.Keep Go.Proofs.Ytbbnbkdglihhhaa.SInt Go.Proofs.Ytbbnbkdglihhhaa.RInt Go.Proofs.Ytbbnbkdglihhhaa.RMark Go.Proofs.Ytbbnbkdglihhhaa.Tide Go.Proofs.Ytbbnbkdglihhhaa.Tide2 Go.Proofs.Ytbbnbkdglihhhaa.Span Go.Proofs.Ytbbnbkdglihhhaa.MTide Go.Proofs.Ytbbnbkdglihhhaa.DTide2 Go.Proofs.Ytbbnbkdglihhhaa.TLaw0 Go.Proofs.Ytbbnbkdglihhhaa.Laws4
set_option linter.unusedVariables false
set_option maxRecDepth 100000
set_option maxHeartbeats 6400000 in
theorem law (A : Option Addr) (cap : Nat) (zs : List Int) (w : World) (hr : Rd w w.heap.size A (zs.map (Value.int .u8))) (hn : zs.length ≤ maxLen) (hb : ∀ z ∈ zs, 0 ≤ z ∧ z ≤ 255) :
    Calls Try.prog 5 #[.slice A zs.length cap] w (Yes w) := by
  by_cases hbig : 65536 < zs.length
  · have HG := Lib.hid (show TLaw0.bigB zs.length = true from decide_eq_true hbig)
    clear hr hb
    go_enter Try.func5, Try.ntmps5
    go_wp2_with fail
    refine (vbig_any A cap zs.length w hn).mono ?_
    rintro e w' ⟨rfl, rfl⟩
    rw [HG.out]
    go_wp2
    go_ret
    exact ⟨rfl, Below.refl _ _⟩
  have HG := Lib.hid (show TLaw0.bigB zs.length = false from decide_eq_false hbig)
  have HN := Lib.hid hn; clear hn
  have HC := Lib.hid (show Src w A zs from ⟨hr, by omega, hb⟩); clear hr hb
  go_enter Try.func5, Try.ntmps5
  go_wp2_with fail
  refine (vbig_any A cap zs.length w HN.out).mono ?_
  rintro e w' ⟨rfl, rfl⟩
  rw [HG.out]
  clear HG hbig HN
  go_wp2_with fail
  refine (drawShift A cap zs w HC.out).mono ?_
  rintro e va ⟨L, g, c, d, rfl, hl0, hl, O, HB⟩
  have hcp := own_cap O
  have HML := Lib.hid (show (Shift.shL L d).length ≤ maxLen by have := Laws4b.shift_len L d; unfold maxLen; omega)
  go_wp2_with fail
  refine (Shift.shift_impl (some ⟨g, 0, none⟩) c L d _ (Rd.of_own O) hcp (by omega)).mono ?_
  rintro e v1 ⟨A1, c1, rfl, O1, hv1⟩
  replace HB := be HB hv1
  replace O := own_keep O hv1
  have zhv1 := hv1.size
  go_wp2_with fail
  refine (Shift.shift_spec (some ⟨g, 0, none⟩) c L d _ (Rd.of_own O) (by omega)).mono ?_
  rintro e v2 ⟨A2, c2, rfl, O2, hv2⟩
  replace HB := be HB hv2
  replace O := own_keep O hv2
  replace O1 := own_keep O1 hv2
  have zhv2 := hv2.size
  go_wp2_with fail
  refine (vmarks_same A1 A2 c1 c2 (Shift.shL L d) _ (Rd.of_own O1) (Rd.of_own O2) HML.out).mono ?_
  rintro e v3 ⟨rfl, hv3⟩
  replace HB := be HB hv3
  replace O := own_keep O hv3
  replace O1 := own_keep O1 hv3
  have zhv3 := hv3.size
  clear O2
  cases hok : Shift.shOk L d
  · clear O1
    clear O
    clear hok
    go_wp2_with fail
    refine (drawArea A cap zs _ (HC.out.below HB)).mono ?_
    rintro e v4 ⟨L3, g3, d3, h3, rfl, hl30, hl3, P3, hv4⟩
    replace HB := be HB hv4
    have zhv4 := hv4.size
    cases hk : askH L3 h3
    · have HV3 := Lib.hid (areaV_no hk)
      clear hk
      go_wp2_with fail
      refine (IMin2.area_impl (some ⟨g3, 0, none⟩) d3 L3 h3 _ (Rd.of_own P3) (own_cap P3) (by omega)).mono ?_
      rintro e v5 ⟨rfl, hv5⟩
      replace HB := be HB hv5
      replace P3 := own_keep P3 hv5
      have zhv5 := hv5.size
      rw [HV3.out]
      go_wp2_with fail
      refine (SSpan2.area_spec (some ⟨g3, 0, none⟩) d3 L3 h3 _ (Rd.of_own P3) (by omega)).mono ?_
      rintro e v6 ⟨rfl, hv6⟩
      replace HB := be HB hv6
      replace P3 := own_keep P3 hv6
      have zhv6 := hv6.size
      rw [HV3.out]
      clear P3
      go_wp2_with fail
      refine (drawHigh A cap zs _ (HC.out.below HB)).mono ?_
      rintro e v7 ⟨L4, g4, d4, rfl, hl40, hl4, P4, hv7⟩
      replace HB := be HB hv7
      have zhv7 := hv7.size
      obtain ⟨x4, y4, q4, hv4⟩ := Tide3.highV_form L4
      have HV4 := Lib.hid hv4; clear hv4
      go_wp2_with fail
      refine (Tide3.high_impl (some ⟨g4, 0, none⟩) d4 L4 _ (Rd.of_own P4) (own_cap P4) (by omega)).mono ?_
      rintro e v8 ⟨rfl, hv8⟩
      replace HB := be HB hv8
      replace P4 := own_keep P4 hv8
      have zhv8 := hv8.size
      rw [HV4.out]
      go_wp2_with fail
      refine (Tide3.high_spec (some ⟨g4, 0, none⟩) d4 L4 _ (Rd.of_own P4) (by omega)).mono ?_
      rintro e v9 ⟨rfl, hv9⟩
      replace HB := be HB hv9
      replace P4 := own_keep P4 hv9
      have zhv9 := hv9.size
      rw [HV4.out]
      clear P4
      go_wp2_with fail
      refine (drawTurns A cap zs _ (HC.out.below HB)).mono ?_
      rintro e v10 ⟨L5, g5, d5, rfl, hl50, hl5, P5, hv10⟩
      replace HB := be HB hv10
      have zhv10 := hv10.size
      have HT5 := Lib.hid (show (Turn.turnsL L5).length ≤ maxLen by have := Laws4b.turns_len L5; unfold maxLen; omega)
      have HI5 := Lib.hid (fun P cap w hr hc hn => Turn.turns_impl P cap L5 w hr hc hn)
      have HS5 := Lib.hid (fun P cap w hr hn => Turn.turns_spec P cap L5 w hr hn)
      generalize Turn.turnsL L5 = T5 at HT5 HI5 HS5
      generalize hq5 : good L5 = q5 at HI5 HS5
      clear hq5
      go_wp2_with fail
      refine (HI5.out (some ⟨g5, 0, none⟩) d5 _ (Rd.of_own P5) (own_cap P5) (by omega)).mono ?_
      rintro e v11 ⟨A7, c7, rfl, O7, hv11⟩
      replace HB := be HB hv11
      replace P5 := own_keep P5 hv11
      have zhv11 := hv11.size
      go_wp2_with fail
      refine (HS5.out (some ⟨g5, 0, none⟩) d5 _ (Rd.of_own P5) (by omega)).mono ?_
      rintro e v12 ⟨A8, c8, rfl, O8, hv12⟩
      replace HB := be HB hv12
      replace P5 := own_keep P5 hv12
      replace O7 := own_keep O7 hv12
      have zhv12 := hv12.size
      go_wp2_with fail
      refine (vints_any A7 A8 c7 c8 T5 T5 _ (Rd.of_own O7) (Rd.of_own O8) HT5.out HT5.out).mono ?_
      rintro e v13 ⟨rfl, hv13⟩
      replace HB := be HB hv13
      replace P5 := own_keep P5 hv13
      replace O7 := own_keep O7 hv13
      have zhv13 := hv13.size
      rw [decide_eq_true rfl]
      go_wp2
      go_ret
      exact ⟨by simp, HB⟩
    · have HV3 := Lib.hid (areaV_yes hk)
      have hgd : good L3 = true ∧ inB h3 (-500) 500 = true := by unfold askH at hk; rw [Bool.and_eq_true] at hk; exact hk
      have hhb := of_inB hgd.2
      clear hk
      by_cases h5 : h3 < 500
      · have hk2 : askH L3 (h3 + 1) = true := by unfold askH; rw [hgd.1, inB_true (show -500 ≤ h3 + 1 ∧ h3 + 1 ≤ 500 by omega)]; rfl
        have HV4 := Lib.hid (areaV_yes hk2)
        have hmono := area_mono hgd.1 h3 1441 (Nat.le_refl _)
        have y1 : IntKind.i64.wrap (h3 + 1) = h3 + 1 := IntWalk.i64_in _ (by omega)
        generalize area L3 h3 1441 = a1 at *
        generalize area L3 (h3 + 1) 1441 = a2 at *
        have n1 : ¬ a1 < a2 := by omega
        clear hk2 hgd hhb
        go_wp2_with fail
        refine (IMin2.area_impl (some ⟨g3, 0, none⟩) d3 L3 h3 _ (Rd.of_own P3) (own_cap P3) (by omega)).mono ?_
        rintro e v14 ⟨rfl, hv14⟩
        replace HB := be HB hv14
        replace P3 := own_keep P3 hv14
        have zhv14 := hv14.size
        rw [HV3.out]
        go_wp2_with fail
        refine (SSpan2.area_spec (some ⟨g3, 0, none⟩) d3 L3 h3 _ (Rd.of_own P3) (by omega)).mono ?_
        rintro e v15 ⟨rfl, hv15⟩
        replace HB := be HB hv15
        replace P3 := own_keep P3 hv15
        have zhv15 := hv15.size
        rw [HV3.out]
        go_wp2_with fail
        refine (IMin2.area_impl (some ⟨g3, 0, none⟩) d3 L3 (h3 + 1) _ (Rd.of_own P3) (own_cap P3) (by omega)).mono ?_
        rintro e v16 ⟨rfl, hv16⟩
        replace HB := be HB hv16
        replace P3 := own_keep P3 hv16
        have zhv16 := hv16.size
        rw [HV4.out]
        clear P3
        go_wp2_with fail
        refine (drawHigh A cap zs _ (HC.out.below HB)).mono ?_
        rintro e v17 ⟨L4, g4, d4, rfl, hl40, hl4, P4, hv17⟩
        replace HB := be HB hv17
        have zhv17 := hv17.size
        obtain ⟨x4, y4, q4, hv4⟩ := Tide3.highV_form L4
        have HV4 := Lib.hid hv4; clear hv4
        go_wp2_with fail
        refine (Tide3.high_impl (some ⟨g4, 0, none⟩) d4 L4 _ (Rd.of_own P4) (own_cap P4) (by omega)).mono ?_
        rintro e v18 ⟨rfl, hv18⟩
        replace HB := be HB hv18
        replace P4 := own_keep P4 hv18
        have zhv18 := hv18.size
        rw [HV4.out]
        go_wp2_with fail
        refine (Tide3.high_spec (some ⟨g4, 0, none⟩) d4 L4 _ (Rd.of_own P4) (by omega)).mono ?_
        rintro e v19 ⟨rfl, hv19⟩
        replace HB := be HB hv19
        replace P4 := own_keep P4 hv19
        have zhv19 := hv19.size
        rw [HV4.out]
        clear P4
        go_wp2_with fail
        refine (drawTurns A cap zs _ (HC.out.below HB)).mono ?_
        rintro e v20 ⟨L5, g5, d5, rfl, hl50, hl5, P5, hv20⟩
        replace HB := be HB hv20
        have zhv20 := hv20.size
        have HT5 := Lib.hid (show (Turn.turnsL L5).length ≤ maxLen by have := Laws4b.turns_len L5; unfold maxLen; omega)
        have HI5 := Lib.hid (fun P cap w hr hc hn => Turn.turns_impl P cap L5 w hr hc hn)
        have HS5 := Lib.hid (fun P cap w hr hn => Turn.turns_spec P cap L5 w hr hn)
        generalize Turn.turnsL L5 = T5 at HT5 HI5 HS5
        generalize hq5 : good L5 = q5 at HI5 HS5
        clear hq5
        go_wp2_with fail
        refine (HI5.out (some ⟨g5, 0, none⟩) d5 _ (Rd.of_own P5) (own_cap P5) (by omega)).mono ?_
        rintro e v21 ⟨A7, c7, rfl, O7, hv21⟩
        replace HB := be HB hv21
        replace P5 := own_keep P5 hv21
        have zhv21 := hv21.size
        go_wp2_with fail
        refine (HS5.out (some ⟨g5, 0, none⟩) d5 _ (Rd.of_own P5) (by omega)).mono ?_
        rintro e v22 ⟨A8, c8, rfl, O8, hv22⟩
        replace HB := be HB hv22
        replace P5 := own_keep P5 hv22
        replace O7 := own_keep O7 hv22
        have zhv22 := hv22.size
        go_wp2_with fail
        refine (vints_any A7 A8 c7 c8 T5 T5 _ (Rd.of_own O7) (Rd.of_own O8) HT5.out HT5.out).mono ?_
        rintro e v23 ⟨rfl, hv23⟩
        replace HB := be HB hv23
        replace P5 := own_keep P5 hv23
        replace O7 := own_keep O7 hv23
        have zhv23 := hv23.size
        rw [decide_eq_true rfl]
        go_wp2
        go_ret
        exact ⟨by simp, HB⟩
      · have h5' : 500 ≤ h3 := by omega
        clear hgd hhb
        go_wp2_with fail
        refine (IMin2.area_impl (some ⟨g3, 0, none⟩) d3 L3 h3 _ (Rd.of_own P3) (own_cap P3) (by omega)).mono ?_
        rintro e v24 ⟨rfl, hv24⟩
        replace HB := be HB hv24
        replace P3 := own_keep P3 hv24
        have zhv24 := hv24.size
        rw [HV3.out]
        go_wp2_with fail
        refine (SSpan2.area_spec (some ⟨g3, 0, none⟩) d3 L3 h3 _ (Rd.of_own P3) (by omega)).mono ?_
        rintro e v25 ⟨rfl, hv25⟩
        replace HB := be HB hv25
        replace P3 := own_keep P3 hv25
        have zhv25 := hv25.size
        rw [HV3.out]
        clear P3
        go_wp2_with fail
        refine (drawHigh A cap zs _ (HC.out.below HB)).mono ?_
        rintro e v26 ⟨L4, g4, d4, rfl, hl40, hl4, P4, hv26⟩
        replace HB := be HB hv26
        have zhv26 := hv26.size
        obtain ⟨x4, y4, q4, hv4⟩ := Tide3.highV_form L4
        have HV4 := Lib.hid hv4; clear hv4
        go_wp2_with fail
        refine (Tide3.high_impl (some ⟨g4, 0, none⟩) d4 L4 _ (Rd.of_own P4) (own_cap P4) (by omega)).mono ?_
        rintro e v27 ⟨rfl, hv27⟩
        replace HB := be HB hv27
        replace P4 := own_keep P4 hv27
        have zhv27 := hv27.size
        rw [HV4.out]
        go_wp2_with fail
        refine (Tide3.high_spec (some ⟨g4, 0, none⟩) d4 L4 _ (Rd.of_own P4) (by omega)).mono ?_
        rintro e v28 ⟨rfl, hv28⟩
        replace HB := be HB hv28
        replace P4 := own_keep P4 hv28
        have zhv28 := hv28.size
        rw [HV4.out]
        clear P4
        go_wp2_with fail
        refine (drawTurns A cap zs _ (HC.out.below HB)).mono ?_
        rintro e v29 ⟨L5, g5, d5, rfl, hl50, hl5, P5, hv29⟩
        replace HB := be HB hv29
        have zhv29 := hv29.size
        have HT5 := Lib.hid (show (Turn.turnsL L5).length ≤ maxLen by have := Laws4b.turns_len L5; unfold maxLen; omega)
        have HI5 := Lib.hid (fun P cap w hr hc hn => Turn.turns_impl P cap L5 w hr hc hn)
        have HS5 := Lib.hid (fun P cap w hr hn => Turn.turns_spec P cap L5 w hr hn)
        generalize Turn.turnsL L5 = T5 at HT5 HI5 HS5
        generalize hq5 : good L5 = q5 at HI5 HS5
        clear hq5
        go_wp2_with fail
        refine (HI5.out (some ⟨g5, 0, none⟩) d5 _ (Rd.of_own P5) (own_cap P5) (by omega)).mono ?_
        rintro e v30 ⟨A7, c7, rfl, O7, hv30⟩
        replace HB := be HB hv30
        replace P5 := own_keep P5 hv30
        have zhv30 := hv30.size
        go_wp2_with fail
        refine (HS5.out (some ⟨g5, 0, none⟩) d5 _ (Rd.of_own P5) (by omega)).mono ?_
        rintro e v31 ⟨A8, c8, rfl, O8, hv31⟩
        replace HB := be HB hv31
        replace P5 := own_keep P5 hv31
        replace O7 := own_keep O7 hv31
        have zhv31 := hv31.size
        go_wp2_with fail
        refine (vints_any A7 A8 c7 c8 T5 T5 _ (Rd.of_own O7) (Rd.of_own O8) HT5.out HT5.out).mono ?_
        rintro e v32 ⟨rfl, hv32⟩
        replace HB := be HB hv32
        replace P5 := own_keep P5 hv32
        replace O7 := own_keep O7 hv32
        have zhv32 := hv32.size
        rw [decide_eq_true rfl]
        go_wp2
        go_ret
        exact ⟨by simp, HB⟩
  · have hg3 : good L = true ∧ inB d (-1000) 1000 = true ∧ good (Shift.sh L d) = true := by unfold Shift.shOk at hok; simp only [Bool.and_eq_true] at hok; exact ⟨hok.1.1, hok.1.2, hok.2⟩
    have hdb := of_inB hg3.2.1
    have HSL := Lib.hid (Shift.shL_yes hok)
    have hlen2 : (Shift.shL L d).length ≤ 1048576 := by have := HML.out; rw [HSL.out, Shift.sh_len]; omega
    have hc1 := own_cap O1
    have HQ1 := Lib.hid hg3.1
    have HQ2 := Lib.hid (show good (Shift.shL L d) = true by rw [HSL.out]; exact hg3.2.2)
    have HT1 := Lib.hid (show Turn.turnsL (Shift.shL L d) = Turn.turnsL L by rw [HSL.out]; exact turnsL_sh hg3.1 hg3.2.2)
    have HH1 := Lib.hid (Tide3.highV_yes hg3.1)
    have HH2 := Lib.hid (show Tide3.highV (Shift.shL L d) = .tuple #[.int .i64 (at_ L (Tide3.best L L.length)).f0, .int .i64 ((at_ L (Tide3.best L L.length)).f1 + d), .bool true] by rw [HSL.out]; exact highV_sh hg3.1 hg3.2.2)
    have htb := top_bd hg3.1
    have HTL := Lib.hid (show (Turn.turnsL L).length ≤ maxLen by have := Laws4b.turns_len L; unfold maxLen; omega)
    have HI1 := Lib.hid (fun P cap w hr hc hn => Turn.turns_impl P cap L w hr hc hn)
    have HI2 := Lib.hid (fun P cap w hr hc hn => Turn.turns_impl P cap (Shift.shL L d) w hr hc hn)
    rw [HQ1.out] at HI1
    rw [HQ2.out, HT1.out] at HI2
    generalize (at_ L (Tide3.best L L.length)).f1 = top at *
    generalize (at_ L (Tide3.best L L.length)).f0 = topm at *
    generalize Turn.turnsL L = T at HI1 HI2 HTL
    have y1 : IntKind.i64.wrap (top + d) = top + d := IntWalk.i64_in _ (by omega)
    clear hok hg3 hdb htb HT1 HQ1 HQ2 HSL
    go_wp2_with fail
    refine (HI1.out (some ⟨g, 0, none⟩) c _ (Rd.of_own O) hcp (by omega)).mono ?_
    rintro e v33 ⟨A3, c3, rfl, O3, hv33⟩
    replace HB := be HB hv33
    replace O := own_keep O hv33
    replace O1 := own_keep O1 hv33
    have zhv33 := hv33.size
    go_wp2_with fail
    refine (HI2.out A1 c1 _ (Rd.of_own O1) hc1 hlen2).mono ?_
    rintro e v34 ⟨A4, c4, rfl, O4, hv34⟩
    replace HB := be HB hv34
    replace O := own_keep O hv34
    replace O1 := own_keep O1 hv34
    replace O3 := own_keep O3 hv34
    have zhv34 := hv34.size
    go_wp2_with fail
    refine (Tide3.high_impl (some ⟨g, 0, none⟩) c L _ (Rd.of_own O) hcp (by omega)).mono ?_
    rintro e v35 ⟨rfl, hv35⟩
    replace HB := be HB hv35
    replace O := own_keep O hv35
    replace O1 := own_keep O1 hv35
    replace O3 := own_keep O3 hv35
    replace O4 := own_keep O4 hv35
    have zhv35 := hv35.size
    rw [HH1.out]
    go_wp2_with fail
    refine (Tide3.high_impl A1 c1 (Shift.shL L d) _ (Rd.of_own O1) hc1 hlen2).mono ?_
    rintro e v36 ⟨rfl, hv36⟩
    replace HB := be HB hv36
    replace O := own_keep O hv36
    replace O1 := own_keep O1 hv36
    replace O3 := own_keep O3 hv36
    replace O4 := own_keep O4 hv36
    have zhv36 := hv36.size
    rw [HH2.out]
    go_wp2_with fail
    refine (vints_any A3 A4 c3 c4 T T _ (Rd.of_own O3) (Rd.of_own O4) HTL.out HTL.out).mono ?_
    rintro e v37 ⟨rfl, hv37⟩
    replace HB := be HB hv37
    replace O := own_keep O hv37
    replace O1 := own_keep O1 hv37
    replace O3 := own_keep O3 hv37
    replace O4 := own_keep O4 hv37
    have zhv37 := hv37.size
    rw [decide_eq_true rfl]
    clear O4
    clear O3
    clear O1
    clear O
    go_wp2_with fail
    refine (drawArea A cap zs _ (HC.out.below HB)).mono ?_
    rintro e v38 ⟨L3, g3, d3, h3, rfl, hl30, hl3, P3, hv38⟩
    replace HB := be HB hv38
    have zhv38 := hv38.size
    cases hk : askH L3 h3
    · have HV3 := Lib.hid (areaV_no hk)
      clear hk
      go_wp2_with fail
      refine (IMin2.area_impl (some ⟨g3, 0, none⟩) d3 L3 h3 _ (Rd.of_own P3) (own_cap P3) (by omega)).mono ?_
      rintro e v39 ⟨rfl, hv39⟩
      replace HB := be HB hv39
      replace P3 := own_keep P3 hv39
      have zhv39 := hv39.size
      rw [HV3.out]
      go_wp2_with fail
      refine (SSpan2.area_spec (some ⟨g3, 0, none⟩) d3 L3 h3 _ (Rd.of_own P3) (by omega)).mono ?_
      rintro e v40 ⟨rfl, hv40⟩
      replace HB := be HB hv40
      replace P3 := own_keep P3 hv40
      have zhv40 := hv40.size
      rw [HV3.out]
      clear P3
      go_wp2_with fail
      refine (drawHigh A cap zs _ (HC.out.below HB)).mono ?_
      rintro e v41 ⟨L4, g4, d4, rfl, hl40, hl4, P4, hv41⟩
      replace HB := be HB hv41
      have zhv41 := hv41.size
      obtain ⟨x4, y4, q4, hv4⟩ := Tide3.highV_form L4
      have HV4 := Lib.hid hv4; clear hv4
      go_wp2_with fail
      refine (Tide3.high_impl (some ⟨g4, 0, none⟩) d4 L4 _ (Rd.of_own P4) (own_cap P4) (by omega)).mono ?_
      rintro e v42 ⟨rfl, hv42⟩
      replace HB := be HB hv42
      replace P4 := own_keep P4 hv42
      have zhv42 := hv42.size
      rw [HV4.out]
      go_wp2_with fail
      refine (Tide3.high_spec (some ⟨g4, 0, none⟩) d4 L4 _ (Rd.of_own P4) (by omega)).mono ?_
      rintro e v43 ⟨rfl, hv43⟩
      replace HB := be HB hv43
      replace P4 := own_keep P4 hv43
      have zhv43 := hv43.size
      rw [HV4.out]
      clear P4
      go_wp2_with fail
      refine (drawTurns A cap zs _ (HC.out.below HB)).mono ?_
      rintro e v44 ⟨L5, g5, d5, rfl, hl50, hl5, P5, hv44⟩
      replace HB := be HB hv44
      have zhv44 := hv44.size
      have HT5 := Lib.hid (show (Turn.turnsL L5).length ≤ maxLen by have := Laws4b.turns_len L5; unfold maxLen; omega)
      have HI5 := Lib.hid (fun P cap w hr hc hn => Turn.turns_impl P cap L5 w hr hc hn)
      have HS5 := Lib.hid (fun P cap w hr hn => Turn.turns_spec P cap L5 w hr hn)
      generalize Turn.turnsL L5 = T5 at HT5 HI5 HS5
      generalize hq5 : good L5 = q5 at HI5 HS5
      clear hq5
      go_wp2_with fail
      refine (HI5.out (some ⟨g5, 0, none⟩) d5 _ (Rd.of_own P5) (own_cap P5) (by omega)).mono ?_
      rintro e v45 ⟨A7, c7, rfl, O7, hv45⟩
      replace HB := be HB hv45
      replace P5 := own_keep P5 hv45
      have zhv45 := hv45.size
      go_wp2_with fail
      refine (HS5.out (some ⟨g5, 0, none⟩) d5 _ (Rd.of_own P5) (by omega)).mono ?_
      rintro e v46 ⟨A8, c8, rfl, O8, hv46⟩
      replace HB := be HB hv46
      replace P5 := own_keep P5 hv46
      replace O7 := own_keep O7 hv46
      have zhv46 := hv46.size
      go_wp2_with fail
      refine (vints_any A7 A8 c7 c8 T5 T5 _ (Rd.of_own O7) (Rd.of_own O8) HT5.out HT5.out).mono ?_
      rintro e v47 ⟨rfl, hv47⟩
      replace HB := be HB hv47
      replace P5 := own_keep P5 hv47
      replace O7 := own_keep O7 hv47
      have zhv47 := hv47.size
      rw [decide_eq_true rfl]
      go_wp2
      go_ret
      exact ⟨by simp, HB⟩
    · have HV3 := Lib.hid (areaV_yes hk)
      have hgd : good L3 = true ∧ inB h3 (-500) 500 = true := by unfold askH at hk; rw [Bool.and_eq_true] at hk; exact hk
      have hhb := of_inB hgd.2
      clear hk
      by_cases h5 : h3 < 500
      · have hk2 : askH L3 (h3 + 1) = true := by unfold askH; rw [hgd.1, inB_true (show -500 ≤ h3 + 1 ∧ h3 + 1 ≤ 500 by omega)]; rfl
        have HV4 := Lib.hid (areaV_yes hk2)
        have hmono := area_mono hgd.1 h3 1441 (Nat.le_refl _)
        have y1 : IntKind.i64.wrap (h3 + 1) = h3 + 1 := IntWalk.i64_in _ (by omega)
        generalize area L3 h3 1441 = a1 at *
        generalize area L3 (h3 + 1) 1441 = a2 at *
        have n1 : ¬ a1 < a2 := by omega
        clear hk2 hgd hhb
        go_wp2_with fail
        refine (IMin2.area_impl (some ⟨g3, 0, none⟩) d3 L3 h3 _ (Rd.of_own P3) (own_cap P3) (by omega)).mono ?_
        rintro e v48 ⟨rfl, hv48⟩
        replace HB := be HB hv48
        replace P3 := own_keep P3 hv48
        have zhv48 := hv48.size
        rw [HV3.out]
        go_wp2_with fail
        refine (SSpan2.area_spec (some ⟨g3, 0, none⟩) d3 L3 h3 _ (Rd.of_own P3) (by omega)).mono ?_
        rintro e v49 ⟨rfl, hv49⟩
        replace HB := be HB hv49
        replace P3 := own_keep P3 hv49
        have zhv49 := hv49.size
        rw [HV3.out]
        go_wp2_with fail
        refine (IMin2.area_impl (some ⟨g3, 0, none⟩) d3 L3 (h3 + 1) _ (Rd.of_own P3) (own_cap P3) (by omega)).mono ?_
        rintro e v50 ⟨rfl, hv50⟩
        replace HB := be HB hv50
        replace P3 := own_keep P3 hv50
        have zhv50 := hv50.size
        rw [HV4.out]
        clear P3
        go_wp2_with fail
        refine (drawHigh A cap zs _ (HC.out.below HB)).mono ?_
        rintro e v51 ⟨L4, g4, d4, rfl, hl40, hl4, P4, hv51⟩
        replace HB := be HB hv51
        have zhv51 := hv51.size
        obtain ⟨x4, y4, q4, hv4⟩ := Tide3.highV_form L4
        have HV4 := Lib.hid hv4; clear hv4
        go_wp2_with fail
        refine (Tide3.high_impl (some ⟨g4, 0, none⟩) d4 L4 _ (Rd.of_own P4) (own_cap P4) (by omega)).mono ?_
        rintro e v52 ⟨rfl, hv52⟩
        replace HB := be HB hv52
        replace P4 := own_keep P4 hv52
        have zhv52 := hv52.size
        rw [HV4.out]
        go_wp2_with fail
        refine (Tide3.high_spec (some ⟨g4, 0, none⟩) d4 L4 _ (Rd.of_own P4) (by omega)).mono ?_
        rintro e v53 ⟨rfl, hv53⟩
        replace HB := be HB hv53
        replace P4 := own_keep P4 hv53
        have zhv53 := hv53.size
        rw [HV4.out]
        clear P4
        go_wp2_with fail
        refine (drawTurns A cap zs _ (HC.out.below HB)).mono ?_
        rintro e v54 ⟨L5, g5, d5, rfl, hl50, hl5, P5, hv54⟩
        replace HB := be HB hv54
        have zhv54 := hv54.size
        have HT5 := Lib.hid (show (Turn.turnsL L5).length ≤ maxLen by have := Laws4b.turns_len L5; unfold maxLen; omega)
        have HI5 := Lib.hid (fun P cap w hr hc hn => Turn.turns_impl P cap L5 w hr hc hn)
        have HS5 := Lib.hid (fun P cap w hr hn => Turn.turns_spec P cap L5 w hr hn)
        generalize Turn.turnsL L5 = T5 at HT5 HI5 HS5
        generalize hq5 : good L5 = q5 at HI5 HS5
        clear hq5
        go_wp2_with fail
        refine (HI5.out (some ⟨g5, 0, none⟩) d5 _ (Rd.of_own P5) (own_cap P5) (by omega)).mono ?_
        rintro e v55 ⟨A7, c7, rfl, O7, hv55⟩
        replace HB := be HB hv55
        replace P5 := own_keep P5 hv55
        have zhv55 := hv55.size
        go_wp2_with fail
        refine (HS5.out (some ⟨g5, 0, none⟩) d5 _ (Rd.of_own P5) (by omega)).mono ?_
        rintro e v56 ⟨A8, c8, rfl, O8, hv56⟩
        replace HB := be HB hv56
        replace P5 := own_keep P5 hv56
        replace O7 := own_keep O7 hv56
        have zhv56 := hv56.size
        go_wp2_with fail
        refine (vints_any A7 A8 c7 c8 T5 T5 _ (Rd.of_own O7) (Rd.of_own O8) HT5.out HT5.out).mono ?_
        rintro e v57 ⟨rfl, hv57⟩
        replace HB := be HB hv57
        replace P5 := own_keep P5 hv57
        replace O7 := own_keep O7 hv57
        have zhv57 := hv57.size
        rw [decide_eq_true rfl]
        go_wp2
        go_ret
        exact ⟨by simp, HB⟩
      · have h5' : 500 ≤ h3 := by omega
        clear hgd hhb
        go_wp2_with fail
        refine (IMin2.area_impl (some ⟨g3, 0, none⟩) d3 L3 h3 _ (Rd.of_own P3) (own_cap P3) (by omega)).mono ?_
        rintro e v58 ⟨rfl, hv58⟩
        replace HB := be HB hv58
        replace P3 := own_keep P3 hv58
        have zhv58 := hv58.size
        rw [HV3.out]
        go_wp2_with fail
        refine (SSpan2.area_spec (some ⟨g3, 0, none⟩) d3 L3 h3 _ (Rd.of_own P3) (by omega)).mono ?_
        rintro e v59 ⟨rfl, hv59⟩
        replace HB := be HB hv59
        replace P3 := own_keep P3 hv59
        have zhv59 := hv59.size
        rw [HV3.out]
        clear P3
        go_wp2_with fail
        refine (drawHigh A cap zs _ (HC.out.below HB)).mono ?_
        rintro e v60 ⟨L4, g4, d4, rfl, hl40, hl4, P4, hv60⟩
        replace HB := be HB hv60
        have zhv60 := hv60.size
        obtain ⟨x4, y4, q4, hv4⟩ := Tide3.highV_form L4
        have HV4 := Lib.hid hv4; clear hv4
        go_wp2_with fail
        refine (Tide3.high_impl (some ⟨g4, 0, none⟩) d4 L4 _ (Rd.of_own P4) (own_cap P4) (by omega)).mono ?_
        rintro e v61 ⟨rfl, hv61⟩
        replace HB := be HB hv61
        replace P4 := own_keep P4 hv61
        have zhv61 := hv61.size
        rw [HV4.out]
        go_wp2_with fail
        refine (Tide3.high_spec (some ⟨g4, 0, none⟩) d4 L4 _ (Rd.of_own P4) (by omega)).mono ?_
        rintro e v62 ⟨rfl, hv62⟩
        replace HB := be HB hv62
        replace P4 := own_keep P4 hv62
        have zhv62 := hv62.size
        rw [HV4.out]
        clear P4
        go_wp2_with fail
        refine (drawTurns A cap zs _ (HC.out.below HB)).mono ?_
        rintro e v63 ⟨L5, g5, d5, rfl, hl50, hl5, P5, hv63⟩
        replace HB := be HB hv63
        have zhv63 := hv63.size
        have HT5 := Lib.hid (show (Turn.turnsL L5).length ≤ maxLen by have := Laws4b.turns_len L5; unfold maxLen; omega)
        have HI5 := Lib.hid (fun P cap w hr hc hn => Turn.turns_impl P cap L5 w hr hc hn)
        have HS5 := Lib.hid (fun P cap w hr hn => Turn.turns_spec P cap L5 w hr hn)
        generalize Turn.turnsL L5 = T5 at HT5 HI5 HS5
        generalize hq5 : good L5 = q5 at HI5 HS5
        clear hq5
        go_wp2_with fail
        refine (HI5.out (some ⟨g5, 0, none⟩) d5 _ (Rd.of_own P5) (own_cap P5) (by omega)).mono ?_
        rintro e v64 ⟨A7, c7, rfl, O7, hv64⟩
        replace HB := be HB hv64
        replace P5 := own_keep P5 hv64
        have zhv64 := hv64.size
        go_wp2_with fail
        refine (HS5.out (some ⟨g5, 0, none⟩) d5 _ (Rd.of_own P5) (by omega)).mono ?_
        rintro e v65 ⟨A8, c8, rfl, O8, hv65⟩
        replace HB := be HB hv65
        replace P5 := own_keep P5 hv65
        replace O7 := own_keep O7 hv65
        have zhv65 := hv65.size
        go_wp2_with fail
        refine (vints_any A7 A8 c7 c8 T5 T5 _ (Rd.of_own O7) (Rd.of_own O8) HT5.out HT5.out).mono ?_
        rintro e v66 ⟨rfl, hv66⟩
        replace HB := be HB hv66
        replace P5 := own_keep P5 hv66
        replace O7 := own_keep O7 hv66
        have zhv66 := hv66.size
        rw [decide_eq_true rfl]
        go_wp2
        go_ret
        exact ⟨by simp, HB⟩
end Go.Proofs.Ytbbnbkdglihhhaa.HeightLaw
