/- FnTides, walked. -/
import Derived.Test.YtbbnbkdglihhhaaTLaw0
namespace Go.Proofs.Ytbbnbkdglihhhaa.TideLaw
open Go.RowKit Go.Proofs.Ytbbnbkdglihhhaa.Mem Go.Proofs.Ytbbnbkdglihhhaa.Base Go.Proofs.Ytbbnbkdglihhhaa.Draw Go.Proofs.Ytbbnbkdglihhhaa.SMark Go.Proofs.Ytbbnbkdglihhhaa.Regn Go.Proofs.Ytbbnbkdglihhhaa.Boxes Go.Proofs.Ytbbnbkdglihhhaa.Keep Go.Proofs.Ytbbnbkdglihhhaa.SInt Go.Proofs.Ytbbnbkdglihhhaa.RInt Go.Proofs.Ytbbnbkdglihhhaa.Tide Go.Proofs.Ytbbnbkdglihhhaa.Tide2 Go.Proofs.Ytbbnbkdglihhhaa.Span Go.Proofs.Ytbbnbkdglihhhaa.MTide Go.Proofs.Ytbbnbkdglihhhaa.DTide2 Go.Proofs.Ytbbnbkdglihhhaa.TLaw0 Go.Proofs.Ytbbnbkdglihhhaa.Laws4
set_option linter.unusedVariables false
set_option maxRecDepth 100000
set_option maxHeartbeats 6400000 in
theorem law (A : Option Addr) (cap : Nat) (zs : List Int) (w : World) (hr : Rd w w.heap.size A (zs.map (Value.int .u8))) (hn : zs.length ≤ maxLen) (hb : ∀ z ∈ zs, 0 ≤ z ∧ z ≤ 255) :
    Calls Try.prog 4 #[.slice A zs.length cap] w (Yes w) := by
  by_cases hbig : 65536 < zs.length
  · have HG := Lib.hid (show TLaw0.bigB zs.length = true from decide_eq_true hbig)
    clear hr hb
    go_enter Try.func4, Try.ntmps4
    go_wp2_with fail
    refine (vbig_any A cap zs.length w hn).mono ?_
    rintro e w' ⟨rfl, rfl⟩
    rw [HG.out]
    go_wp2
    go_ret
    exact ⟨rfl, Below.refl _ _⟩
  have HG := Lib.hid (show TLaw0.bigB zs.length = false from decide_eq_false hbig)
  have HN := Lib.hid hn; clear hn
  have HC := Lib.hid (show Src w A zs from ⟨hr, by omega, hb⟩); clear hr hb
  go_enter Try.func4, Try.ntmps4
  go_wp2_with fail
  refine (vbig_any A cap zs.length w HN.out).mono ?_
  rintro e w' ⟨rfl, rfl⟩
  rw [HG.out]
  clear HG hbig HN
  go_wp2_with fail
  refine (drawMin A cap zs w HC.out).mono ?_
  rintro e va ⟨L, g, c, s, p, rfl, hl0, hl, O, HB⟩
  have hcp := own_cap O
  have HPI := Lib.hid (pairs_in L s p)
  have HPU := Lib.hid (pairs_out L s p)
  have hI := inL_len L s p
  have hU := outL_len L s p
  obtain ⟨x1, f1, hv1⟩ := firstV_form (inL L s p)
  have HF := Lib.hid (first_len hv1)
  have HV1 := Lib.hid hv1; clear hv1
  have HS1 := Lib.hid (fun P cap w hr hn => SSpan2.in_spec P cap L s p w hr hn)
  have HI1 := Lib.hid (fun P cap w hr hc hn => IMin.in_impl P cap L s p w hr hc hn)
  have HS2 := Lib.hid (fun P cap w hr hn => SSpan2.out_spec P cap L s p w hr hn)
  have HI2 := Lib.hid (fun P cap w hr hc hn => IMin.out_impl P cap L s p w hr hc hn)
  have HS3 := Lib.hid (fun P cap w hr hn => SSpan2.first_spec P cap L s p w hr hn)
  have HI3 := Lib.hid (fun P cap w hr hc hn => IMin2.first_impl P cap L s p w hr hc hn)
  have HNA := Lib.hid (fun h : asked L s p = false => inL_no h)
  generalize inL L s p = I at *
  generalize outL L s p = U at *
  have HML := Lib.hid (show I.length ≤ maxLen ∧ U.length ≤ maxLen by unfold maxLen; omega)
  have hzs := HB.size
  go_wp2_with fail
  refine (HI1.out (some ⟨g, 0, none⟩) c _ (Rd.of_own O) hcp (by omega)).mono ?_
  rintro e v1 ⟨A1, c1, rfl, O1, hv1⟩
  replace HB := be HB hv1
  replace O := own_keep O hv1
  have zhv1 := hv1.size
  replace O1 := own_base O1 (base' := w.heap.size) hzs
  go_wp2_with fail
  refine (HS1.out (some ⟨g, 0, none⟩) c _ (Rd.of_own O) (by omega)).mono ?_
  rintro e v2 ⟨A2, c2, rfl, O2, hv2⟩
  replace HB := be HB hv2
  replace O := own_keep O hv2
  replace O1 := own_keep O1 hv2
  have zhv2 := hv2.size
  go_wp2_with fail
  refine (vints_any A1 A2 c1 c2 I I _ (Rd.of_own O1) (Rd.of_own O2) HML.out.1 HML.out.1).mono ?_
  rintro e v3 ⟨rfl, hv3⟩
  replace HB := be HB hv3
  replace O := own_keep O hv3
  replace O1 := own_keep O1 hv3
  have zhv3 := hv3.size
  rw [decide_eq_true rfl]
  clear O2
  go_wp2_with fail
  refine (tide_impl (some ⟨g, 0, none⟩) c L _ (Rd.of_own O) (by omega)).mono ?_
  rintro e v4 ⟨rfl, hv4⟩
  replace HB := be HB hv4
  replace O := own_keep O hv4
  replace O1 := own_keep O1 hv4
  have zhv4 := hv4.size
  go_wp2_with fail
  refine (Tide4.istide_spec (some ⟨g, 0, none⟩) c L _ (Rd.of_own O) (by omega)).mono ?_
  rintro e v5 ⟨rfl, hv5⟩
  replace HB := be HB hv5
  replace O := own_keep O hv5
  replace O1 := own_keep O1 hv5
  have zhv5 := hv5.size
  have hzs := HB.size
  go_wp2_with fail
  refine (HI2.out (some ⟨g, 0, none⟩) c _ (Rd.of_own O) hcp (by omega)).mono ?_
  rintro e v6 ⟨A3, c3, rfl, O3, hv6⟩
  replace HB := be HB hv6
  replace O := own_keep O hv6
  replace O1 := own_keep O1 hv6
  have zhv6 := hv6.size
  replace O3 := own_base O3 (base' := w.heap.size) hzs
  go_wp2_with fail
  refine (HS2.out (some ⟨g, 0, none⟩) c _ (Rd.of_own O) (by omega)).mono ?_
  rintro e v7 ⟨A4, c4, rfl, O4, hv7⟩
  replace HB := be HB hv7
  replace O := own_keep O hv7
  replace O1 := own_keep O1 hv7
  replace O3 := own_keep O3 hv7
  have zhv7 := hv7.size
  go_wp2_with fail
  refine (vints_any A3 A4 c3 c4 U U _ (Rd.of_own O3) (Rd.of_own O4) HML.out.2 HML.out.2).mono ?_
  rintro e v8 ⟨rfl, hv8⟩
  replace HB := be HB hv8
  replace O := own_keep O hv8
  replace O1 := own_keep O1 hv8
  replace O3 := own_keep O3 hv8
  have zhv8 := hv8.size
  rw [decide_eq_true rfl]
  clear O4
  go_wp2_with fail
  refine (HI3.out (some ⟨g, 0, none⟩) c _ (Rd.of_own O) hcp (by omega)).mono ?_
  rintro e v9 ⟨rfl, hv9⟩
  replace HB := be HB hv9
  replace O := own_keep O hv9
  replace O1 := own_keep O1 hv9
  replace O3 := own_keep O3 hv9
  have zhv9 := hv9.size
  rw [HV1.out]
  go_wp2_with fail
  refine (HS3.out (some ⟨g, 0, none⟩) c _ (Rd.of_own O) (by omega)).mono ?_
  rintro e v10 ⟨rfl, hv10⟩
  replace HB := be HB hv10
  replace O := own_keep O hv10
  replace O1 := own_keep O1 hv10
  replace O3 := own_keep O3 hv10
  have zhv10 := hv10.size
  rw [HV1.out]
  clear O
  have hf := HF.out
  subst hf
  clear HF HV1 HS1 HI1 HS2 HI2 HS3 HI3
  cases hq : asked L s p
  · have hI0 : I.length = 0 := by rw [HNA.out hq]; rfl
    have hI1 : decide ((0 : Int) < I.length) = false := decide_eq_false (by omega)
    have hI2 : ¬ 0 < I.length := by omega
    have HI0 := Lib.hid hI0; clear hI0 hq
    go_wp2
    go_loopw [18] (fun i wr => ∃ (m j : Nat), m = 2 * j ∧ m ≤ I.length ∧ i = .int .i64 ((m : Int) + 1) ∧ wr.ownsRow w.heap.size 3 1 (.slice A1 I.length c1) I.length (iv I) ∧ wr.ownsRow w.heap.size 3 1 (.slice A3 U.length c3) U.length (iv U) ∧ Below w.heap.size w wr) (fun i _ => I.length - (intOf i).toNat)
    case atStart => exact ⟨0, 0, rfl, by omega, rfl, O1, O3, HB⟩
    case round =>
      clear O1 O3 HB
      obtain ⟨m, j, hmj, hmI, rfl, O1, O3, HB⟩ := hrel
      by_cases hlt : m + 1 < I.length
      · exact absurd hlt (by have := HI0.out; omega)
      · have q3 : ¬ (m : Int) + 1 < I.length := by omega
        go_wp2_with fail
        refine (drawAt A cap zs _ (HC.out.below HB)).mono ?_
        rintro e v1 ⟨L2, g2, d2, m2, rfl, hl20, hl2, P2, hv1⟩
        replace HB := be HB hv1
        have zhv1 := hv1.size
        cases hk : Flow.askAt L2 m2
        · have HV2 := Lib.hid (Flow.atV_no hk)
          go_wp2_with fail
          refine (ISea.tideat_impl (some ⟨g2, 0, none⟩) d2 L2 m2 _ (Rd.of_own P2) (own_cap P2) (by omega)).mono ?_
          rintro e v2 ⟨rfl, hv2⟩
          replace HB := be HB hv2
          replace P2 := own_keep P2 hv2
          have zhv2 := hv2.size
          rw [HV2.out]
          go_wp2_with fail
          refine (Flow.tideat_spec (some ⟨g2, 0, none⟩) d2 L2 m2 _ (Rd.of_own P2) (by omega)).mono ?_
          rintro e v3 ⟨rfl, hv3⟩
          replace HB := be HB hv3
          replace P2 := own_keep P2 hv3
          have zhv3 := hv3.size
          rw [HV2.out]
          go_wp2
          go_ret
          exact ⟨rfl, HB⟩
        · have HV2 := Lib.hid (Flow.atV_yes hk)
          have hgd : good L2 = true ∧ inB m2 0 1440 = true := by unfold Flow.askAt at hk; rw [Bool.and_eq_true] at hk; exact hk
          have hmb := of_inB hgd.2
          have htop := num_top hgd.1 hmb.1 hmb.2
          have hdd := den_bd hgd.1 hmb.1 hmb.2
          have hl3 := Flow.low'_le (n := num L2 m2) (show 0 < den L2 m2 by omega)
          have hl4 := low'_pos (n := num L2 m2) (show 0 < den L2 m2 by omega)
          have htb := top_bd hgd.1
          have HH := Lib.hid (Tide3.highV_yes hgd.1)
          generalize low (num L2 m2) (den L2 m2) = x at *
          generalize low' (num L2 m2) (den L2 m2) = y at *
          generalize (at_ L2 (Tide3.best L2 L2.length)).f1 = top at *
          generalize (at_ L2 (Tide3.best L2 L2.length)).f0 = topm at *
          have z1 := mul_bd (x := top) (y := y) (a := 500) (b := 1440) (by omega) (by omega) (by omega) (by omega) (by omega)
          have y1 : IntKind.i64.wrap (top * y) = top * y := IntWalk.i64_in _ (by omega)
          clear hgd hmb hdd hl3 hl4 htb z1 hk
          go_wp2_with fail
          refine (ISea.tideat_impl (some ⟨g2, 0, none⟩) d2 L2 m2 _ (Rd.of_own P2) (own_cap P2) (by omega)).mono ?_
          rintro e v4 ⟨rfl, hv4⟩
          replace HB := be HB hv4
          replace P2 := own_keep P2 hv4
          have zhv4 := hv4.size
          rw [HV2.out]
          go_wp2_with fail
          refine (Flow.tideat_spec (some ⟨g2, 0, none⟩) d2 L2 m2 _ (Rd.of_own P2) (by omega)).mono ?_
          rintro e v5 ⟨rfl, hv5⟩
          replace HB := be HB hv5
          replace P2 := own_keep P2 hv5
          have zhv5 := hv5.size
          rw [HV2.out]
          go_wp2_with fail
          refine (Tide3.high_impl (some ⟨g2, 0, none⟩) d2 L2 _ (Rd.of_own P2) (own_cap P2) (by omega)).mono ?_
          rintro e v6 ⟨rfl, hv6⟩
          replace HB := be HB hv6
          replace P2 := own_keep P2 hv6
          have zhv6 := hv6.size
          rw [HH.out]
          go_wp2
          go_ret
          exact ⟨rfl, HB⟩
  · clear hq
    go_wp2
    go_loopw [18] (fun i wr => ∃ (m j : Nat), m = 2 * j ∧ m ≤ I.length ∧ i = .int .i64 ((m : Int) + 1) ∧ wr.ownsRow w.heap.size 3 1 (.slice A1 I.length c1) I.length (iv I) ∧ wr.ownsRow w.heap.size 3 1 (.slice A3 U.length c3) U.length (iv U) ∧ Below w.heap.size w wr) (fun i _ => I.length - (intOf i).toNat)
    case atStart => exact ⟨0, 0, rfl, by omega, rfl, O1, O3, HB⟩
    case round =>
      clear O1 O3 HB
      obtain ⟨m, j, hmj, hmI, rfl, O1, O3, HB⟩ := hrel
      by_cases hlt : m + 1 < I.length
      · obtain ⟨a, b, ha, hb, hab, hin⟩ := HPI.out.2 j (by omega)
        rw [← hmj] at ha hb
        have HIN := Lib.hid hin; have HMJ := Lib.hid hmj; clear hin hmj
        obtain ⟨ga, ca, hA⟩ := own_some O1 (by omega)
        obtain ⟨rfl, rfl⟩ := hA
        have c0 : wr.cell? ⟨ga, m, none⟩ = some (.int .i64 (a : Int)) := by rw [O1.cellAt m (by omega)]; unfold iv; rw [List.getElem?_map, ha]; rfl
        have c1' : wr.cell? ⟨ga, m + 1, none⟩ = some (.int .i64 (b : Int)) := by rw [O1.cellAt (m + 1) (by omega)]; unfold iv; rw [List.getElem?_map, hb]; rfl
        have e1 : ¬ ((b : Int) < a) := by omega
        have e1' : ¬ (b < a) := by omega
        have q1 : IntKind.i64.wrap (m : Int) = m := IntWalk.i64_in _ (by omega)
        have q2 : m < I.length := by omega
        have q3 : (m : Int) + 1 < I.length := by omega
        have q4 : IntKind.i64.wrap ((m : Int) + 1 + 2) = (m : Int) + 1 + 2 := IntWalk.i64_in _ (by omega)
        have HAB := Lib.hid hab; clear hab ha hb
        go_wp2
        go_quiet (fail)
        replace O1 := own_keep O1 (Below.drewN' (Below.refl _ wr) nq)
        replace O3 := own_keep O3 (Below.drewN' (Below.refl _ wr) nq)
        replace HB := Below.drewN' HB nq
        replace c0 : (wr.drewN nq).cell? ⟨ga, m, none⟩ = some (.int .i64 (a : Int)) := c0
        replace c1' : (wr.drewN nq).cell? ⟨ga, m + 1, none⟩ = some (.int .i64 (b : Int)) := c1'
        generalize wr.drewN nq = wq at O1 O3 HB c0 c1' ⊢
        go_wp2
        go_loopw [19] (fun i wr => ∃ (m3 j3 : Nat), m3 = 2 * j3 ∧ m3 ≤ U.length ∧ i = .int .i64 ((m3 : Int) + 1) ∧ wr.ownsRow w.heap.size 3 1 (.slice (some ⟨ga, 0, none⟩) I.length c1) I.length (iv I) ∧ wr.ownsRow w.heap.size 3 1 (.slice A3 U.length c3) U.length (iv U) ∧ Below w.heap.size w wr ∧ wr.cell? ⟨ga, m, none⟩ = some (.int .i64 (a : Int)) ∧ wr.cell? ⟨ga, m + 1, none⟩ = some (.int .i64 (b : Int))) (fun i _ => U.length - (intOf i).toNat)
        case atStart => exact ⟨0, 0, rfl, by omega, rfl, O1, O3, HB, c0, c1'⟩
        case round =>
          clear O1 O3 HB c0 c1'
          obtain ⟨m3, j3, hmj3, hmU, rfl, O1, O3, HB, c0, c1'⟩ := hrel
          by_cases hlt3 : m3 + 1 < U.length
          · obtain ⟨c, d, hc, hd, hcd, hout⟩ := HPU.out.2 j3 (by omega)
            rw [← hmj3] at hc hd
            have hap := apart HIN.out hout HAB.out hcd
            have HMJ3 := Lib.hid hmj3; clear hmj3
            obtain ⟨gb, cb, hA⟩ := own_some O3 (by omega)
            obtain ⟨rfl, rfl⟩ := hA
            have d0 : wr.cell? ⟨gb, m3, none⟩ = some (.int .i64 (c : Int)) := by rw [O3.cellAt m3 (by omega)]; unfold iv; rw [List.getElem?_map, hc]; rfl
            have d1 : wr.cell? ⟨gb, m3 + 1, none⟩ = some (.int .i64 (d : Int)) := by rw [O3.cellAt (m3 + 1) (by omega)]; unfold iv; rw [List.getElem?_map, hd]; rfl
            have r1 : IntKind.i64.wrap (m3 : Int) = m3 := IntWalk.i64_in _ (by omega)
            have r2 : m3 < U.length := by omega
            have r3 : (m3 : Int) + 1 < U.length := by omega
            have r4 : IntKind.i64.wrap ((m3 : Int) + 1 + 2) = (m3 : Int) + 1 + 2 := IntWalk.i64_in _ (by omega)
            have hpar : m3 + 2 ≤ U.length := by omega
            clear hc hd hout hcd
            by_cases h1 : (a : Int) ≤ d
            · have h2 := hap h1
              have h1' : a ≤ d := by omega
              have h2' : ¬ c ≤ b := by omega
              clear hap
              go_wp2
              go_quiet (fail)
              go_wp2
              go_roundw
              case rel => exact ⟨m3 + 2, j3 + 1, by have := HMJ3.out; omega, hpar, by go_num, own_keep O1 (Below.drewN' (Below.refl _ wr) _), own_keep O3 (Below.drewN' (Below.refl _ wr) _), Below.drewN' HB _, c0, c1'⟩
              case measure => simp [intOf]; omega
            · have h1' : ¬ a ≤ d := by omega
              clear hap
              go_wp2
              go_quiet (fail)
              go_wp2
              go_roundw
              case rel => exact ⟨m3 + 2, j3 + 1, by have := HMJ3.out; omega, hpar, by go_num, own_keep O1 (Below.drewN' (Below.refl _ wr) _), own_keep O3 (Below.drewN' (Below.refl _ wr) _), Below.drewN' HB _, c0, c1'⟩
              case measure => simp [intOf]; omega
          · have r3 : ¬ (m3 : Int) + 1 < U.length := by omega
            go_wp2
            go_roundw
            case rel => exact ⟨m + 2, j + 1, by have := HMJ.out; omega, by omega, by go_num, O1, O3, HB⟩
            case measure => simp [intOf]; omega
      · have q3 : ¬ (m : Int) + 1 < I.length := by omega
        go_wp2_with fail
        refine (drawAt A cap zs _ (HC.out.below HB)).mono ?_
        rintro e v1 ⟨L2, g2, d2, m2, rfl, hl20, hl2, P2, hv1⟩
        replace HB := be HB hv1
        have zhv1 := hv1.size
        cases hk : Flow.askAt L2 m2
        · have HV2 := Lib.hid (Flow.atV_no hk)
          go_wp2_with fail
          refine (ISea.tideat_impl (some ⟨g2, 0, none⟩) d2 L2 m2 _ (Rd.of_own P2) (own_cap P2) (by omega)).mono ?_
          rintro e v2 ⟨rfl, hv2⟩
          replace HB := be HB hv2
          replace P2 := own_keep P2 hv2
          have zhv2 := hv2.size
          rw [HV2.out]
          go_wp2_with fail
          refine (Flow.tideat_spec (some ⟨g2, 0, none⟩) d2 L2 m2 _ (Rd.of_own P2) (by omega)).mono ?_
          rintro e v3 ⟨rfl, hv3⟩
          replace HB := be HB hv3
          replace P2 := own_keep P2 hv3
          have zhv3 := hv3.size
          rw [HV2.out]
          go_wp2
          go_ret
          exact ⟨rfl, HB⟩
        · have HV2 := Lib.hid (Flow.atV_yes hk)
          have hgd : good L2 = true ∧ inB m2 0 1440 = true := by unfold Flow.askAt at hk; rw [Bool.and_eq_true] at hk; exact hk
          have hmb := of_inB hgd.2
          have htop := num_top hgd.1 hmb.1 hmb.2
          have hdd := den_bd hgd.1 hmb.1 hmb.2
          have hl3 := Flow.low'_le (n := num L2 m2) (show 0 < den L2 m2 by omega)
          have hl4 := low'_pos (n := num L2 m2) (show 0 < den L2 m2 by omega)
          have htb := top_bd hgd.1
          have HH := Lib.hid (Tide3.highV_yes hgd.1)
          generalize low (num L2 m2) (den L2 m2) = x at *
          generalize low' (num L2 m2) (den L2 m2) = y at *
          generalize (at_ L2 (Tide3.best L2 L2.length)).f1 = top at *
          generalize (at_ L2 (Tide3.best L2 L2.length)).f0 = topm at *
          have z1 := mul_bd (x := top) (y := y) (a := 500) (b := 1440) (by omega) (by omega) (by omega) (by omega) (by omega)
          have y1 : IntKind.i64.wrap (top * y) = top * y := IntWalk.i64_in _ (by omega)
          clear hgd hmb hdd hl3 hl4 htb z1 hk
          go_wp2_with fail
          refine (ISea.tideat_impl (some ⟨g2, 0, none⟩) d2 L2 m2 _ (Rd.of_own P2) (own_cap P2) (by omega)).mono ?_
          rintro e v4 ⟨rfl, hv4⟩
          replace HB := be HB hv4
          replace P2 := own_keep P2 hv4
          have zhv4 := hv4.size
          rw [HV2.out]
          go_wp2_with fail
          refine (Flow.tideat_spec (some ⟨g2, 0, none⟩) d2 L2 m2 _ (Rd.of_own P2) (by omega)).mono ?_
          rintro e v5 ⟨rfl, hv5⟩
          replace HB := be HB hv5
          replace P2 := own_keep P2 hv5
          have zhv5 := hv5.size
          rw [HV2.out]
          go_wp2_with fail
          refine (Tide3.high_impl (some ⟨g2, 0, none⟩) d2 L2 _ (Rd.of_own P2) (own_cap P2) (by omega)).mono ?_
          rintro e v6 ⟨rfl, hv6⟩
          replace HB := be HB hv6
          replace P2 := own_keep P2 hv6
          have zhv6 := hv6.size
          rw [HH.out]
          go_wp2
          go_ret
          exact ⟨rfl, HB⟩
end Go.Proofs.Ytbbnbkdglihhhaa.TideLaw
