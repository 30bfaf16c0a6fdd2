/- FnGangs, walked. -/
import Derived.Test.YtmfaeekmcclleaaGLaw0
import Derived.Test.YtmfaeekmcclleaaMGang
import Derived.Test.YtmfaeekmcclleaaDWork3
import Derived.Test.YtmfaeekmcclleaaLaws5a
import Derived.Deep.Cut
import Derived.Deep.CutBlock
import Derived.Deep.DeepCutAuto
namespace Go.Proofs.Ytmfaeekmcclleaa.GangLaw
open Go.RowKit Go.Proofs.Ytmfaeekmcclleaa.Mem Go.Proofs.Ytmfaeekmcclleaa.Base Go.Proofs.Ytmfaeekmcclleaa.SWorker Go.Proofs.Ytmfaeekmcclleaa.Regn Go.Proofs.Ytmfaeekmcclleaa.Boxes Go.Proofs.Ytmfaeekmcclleaa.Keep Go.Proofs.Ytmfaeekmcclleaa.SInt Go.Proofs.Ytmfaeekmcclleaa.RInt Go.Proofs.Ytmfaeekmcclleaa.Work Go.Proofs.Ytmfaeekmcclleaa.Work2 Go.Proofs.Ytmfaeekmcclleaa.WorkL Go.Proofs.Ytmfaeekmcclleaa.WorkM Go.Proofs.Ytmfaeekmcclleaa.WorkN Go.Proofs.Ytmfaeekmcclleaa.WorkT Go.Proofs.Ytmfaeekmcclleaa.DWork3 Go.Proofs.Ytmfaeekmcclleaa.GLaw0 Go.Proofs.Ytmfaeekmcclleaa.MGang Go.Proofs.Ytmfaeekmcclleaa.Laws5a
set_option linter.unusedVariables false
set_option maxRecDepth 100000
set_option maxHeartbeats 6400000 in
theorem law (A : Option Addr) (cap : Nat) (zs : List Int) (w : World) (hr : Rd w w.heap.size A (zs.map (Value.int .u8))) (hn : zs.length ≤ maxLen) (hb : ∀ z ∈ zs, 0 ≤ z ∧ z ≤ 255) :
    Calls Try.prog 3 #[.slice A zs.length cap] w (Yes w) := by
  by_cases hbig : 65536 < zs.length
  · have HG := Lib.hid (show GLaw0.bigB zs.length = true from decide_eq_true hbig)
    clear hr hb
    go_enter Try.func3, Try.ntmps3
    go_wp2_with fail
    refine (vbig_any A cap zs.length w hn).mono ?_
    rintro e w' ⟨rfl, rfl⟩
    rw [HG.out]
    go_wp2
    go_ret
    exact ⟨rfl, Below.refl _ _⟩
  have HG := Lib.hid (show GLaw0.bigB zs.length = false from decide_eq_false hbig)
  have HN := Lib.hid hn; clear hn
  have HC := Lib.hid (show Draw.Src w A zs from ⟨hr, by omega, hb⟩); clear hr hb
  go_enter Try.func3, Try.ntmps3
  go_wp2_with fail
  refine (vbig_any A cap zs.length w HN.out).mono ?_
  rintro e w' ⟨rfl, rfl⟩
  rw [HG.out]
  clear HG hbig HN
  go_wp2_with fail
  refine (drawWeek A cap zs w HC.out).mono ?_
  rintro e va ⟨L, g, c, x, hl, rfl, O, HB⟩
  have hcp := own_cap O
  have HS1 := Lib.hid (fun P cap w hr hn => rweek_spec P cap L x w hr hn)
  have HI1 := Lib.hid (fun P cap w hr hc hn => rweek_impl P cap L x w hr hc hn)
  have HS2 := Lib.hid (fun P cap w hr hn => idle_spec P cap L x w hr hn)
  have HI2 := Lib.hid (fun P cap w hr hc hn => idle_impl P cap L x w hr hc hn)
  have HNO := Lib.hid (fun h : allOk L x = false => And.intro (week_no h) (idle_no h))
  have HWK := Lib.hid (show allOk L x = true → (weekL L x).length = 7 ∧ ∀ k : Nat, k < 7 → (weekL L x)[k]? = some (rakedOn L x k) ∧ (idleL L x).any (fun y => y == (k : Int)) = (rakedOn L x k == 0) from fun h => by
    rw [week_yes h, idle_yes h]
    exact ⟨WorkK.week_len L x, fun k hk => ⟨week_k L x k hk, idle_k h k hk⟩⟩)
  have hI := weekL_len L x
  have hJ := idleL_len L x
  have HON := Lib.hid (fun h : allOk L x = true => on_k h)
  generalize weekL L x = I at *
  generalize idleL L x = J at *
  have HML := Lib.hid (show I.length ≤ maxLen ∧ J.length ≤ maxLen by unfold maxLen; omega)
  generalize allOk L x = q at *
  have hzs := HB.size
  go_wp2_with fail
  refine (HI1.out (some ⟨g, 0, none⟩) c _ (Rd.of_own O) hcp (by omega)).mono ?_
  rintro e v1 ⟨A1, c1, rfl, O1, hv1⟩
  replace HB := be HB hv1
  replace O := own_keep O hv1
  have zhv1 := hv1.size
  replace O1 := own_base O1 (base' := w.heap.size) hzs
  go_wp2_with fail
  refine (HS1.out (some ⟨g, 0, none⟩) c _ (Rd.of_own O) (by omega)).mono ?_
  rintro e v2 ⟨A2, c2, rfl, O2, hv2⟩
  replace HB := be HB hv2
  replace O := own_keep O hv2
  replace O1 := own_keep O1 hv2
  have zhv2 := hv2.size
  go_upto_region 6 with fail
  go_cut [80] from 45 (fun cnd wc => cnd = .bool false ∧ wc.ownsRow w.heap.size 50 5 (.slice (some ⟨g, 0, none⟩) L.length c) L.length (flat L) ∧ wc.ownsRow w.heap.size 3 1 (.slice A1 I.length c1) I.length (iv I) ∧ Below w.heap.size w wc)
  case first => as_aux_lemma =>
    cases q
    · go_wp2_with fail
      refine (vints_any A1 A2 c1 c2 I I _ (Rd.of_own O1) (Rd.of_own O2) HML.out.1 HML.out.1).mono ?_
      rintro e v3 ⟨rfl, hv3⟩
      replace HB := be HB hv3
      replace O := own_keep O hv3
      replace O1 := own_keep O1 hv3
      replace O2 := own_keep O2 hv3
      have zhv3 := hv3.size
      rw [decide_eq_true rfl]
      go_wp2
      go_meet
      exact ⟨rfl, O, O1, HB⟩
    · have h7 : ((I.length : Int) != 7) = false := by rw [(HWK.out rfl).1]; rfl
      go_wp2_with fail
      refine (vints_any A1 A2 c1 c2 I I _ (Rd.of_own O1) (Rd.of_own O2) HML.out.1 HML.out.1).mono ?_
      rintro e v4 ⟨rfl, hv4⟩
      replace HB := be HB hv4
      replace O := own_keep O hv4
      replace O1 := own_keep O1 hv4
      replace O2 := own_keep O2 hv4
      have zhv4 := hv4.size
      rw [decide_eq_true rfl]
      go_wp2
      go_meet
      exact ⟨rfl, O, O1, HB⟩
  case rest =>
    clear O O1 O2 HB HS1 HI1 zhv1 zhv2 hv1 hv2 hzs
    obtain ⟨rfl, O, O1, HB⟩ := hcut
    have hzs := HB.size
    go_wp2_with fail
    refine (HI2.out (some ⟨g, 0, none⟩) c _ (Rd.of_own O) hcp (by omega)).mono ?_
    rintro e v1 ⟨A3, c3, rfl, O3, hv1⟩
    replace HB := be HB hv1
    replace O := own_keep O hv1
    replace O1 := own_keep O1 hv1
    have zhv1 := hv1.size
    replace O3 := own_base O3 (base' := w.heap.size) hzs
    go_wp2_with fail
    refine (HS2.out (some ⟨g, 0, none⟩) c _ (Rd.of_own O) (by omega)).mono ?_
    rintro e v2 ⟨A4, c4, rfl, O4, hv2⟩
    replace HB := be HB hv2
    replace O := own_keep O hv2
    replace O1 := own_keep O1 hv2
    replace O3 := own_keep O3 hv2
    have zhv2 := hv2.size
    go_wp2_with fail
    refine (vints_any A3 A4 c3 c4 J J _ (Rd.of_own O3) (Rd.of_own O4) HML.out.2 HML.out.2).mono ?_
    rintro e v3 ⟨rfl, hv3⟩
    replace HB := be HB hv3
    replace O := own_keep O hv3
    replace O1 := own_keep O1 hv3
    replace O3 := own_keep O3 hv3
    have zhv3 := hv3.size
    rw [decide_eq_true rfl]
    go_upto_block 0 with fail
    go_cut [] from 13 (fun wc => Below w.heap.size w wc)
    case first =>
      clear O4
      go_wp2_with fail
      go_loopw [13] (fun i wr => ∃ (k : Nat), k ≤ 7 ∧ i = .int .i64 k ∧ wr.ownsRow w.heap.size 50 5 (.slice (some ⟨g, 0, none⟩) L.length c) L.length (flat L) ∧ wr.ownsRow w.heap.size 3 1 (.slice A1 I.length c1) I.length (iv I) ∧ wr.ownsRow w.heap.size 3 1 (.slice A3 J.length c3) J.length (iv J) ∧ Below w.heap.size w wr) (fun i _ => 7 - (intOf i).toNat)
      case atStart => exact ⟨0, by omega, rfl, O, O1, O3, HB⟩
      case round =>
        clear O O1 O3 HB hzs
        obtain ⟨k, hk, rfl, O, O1, O3, HB⟩ := hrel
        by_cases hlt : k < 7
        · cases q
          · go_wp2
            go_meet
            exact HB
          · have hw := HWK.out rfl
            have h7 := hw.1
            obtain ⟨b1, rfl⟩ := WorkP.own_some O1 (by omega)
            have hki : (k : Int) < 7 := by omega
            have hk7 : k < I.length := by omega
            have hk8 : (k : Int) < I.length := by omega
            obtain ⟨r, hr⟩ : ∃ r, rakedOn L x k = r := ⟨_, rfl⟩
            have hm := hw.2 k hlt
            rw [hr] at hm
            have HM := Lib.hid hm; clear hm hw
            have HV := Lib.hid ((HON.out rfl k hlt).trans (by rw [hr])); clear hr
            have HH7 := Lib.hid h7; clear h7
            go_wp2_with fail
            refine (on_impl (some ⟨g, 0, none⟩) c L x (k : Int) _ (Rd.of_own O) hcp (by omega)).mono ?_
            rintro e v1 ⟨rfl, hv1⟩
            replace HB := be HB hv1
            replace O := own_keep O hv1
            replace O1 := own_keep O1 hv1
            replace O3 := own_keep O3 hv1
            have zhv1 := hv1.size
            rw [HV.out]
            have m0 := WorkK.row_get O1 HM.out.1
            go_wp2_with fail
            refine (rhas_any A3 c3 J (k : Int) _ (Rd.of_own O3) (by omega)).mono ?_
            rintro e v2 ⟨rfl, hv2⟩
            replace HB := be HB hv2
            replace O := own_keep O hv2
            replace O1 := own_keep O1 hv2
            replace O3 := own_keep O3 hv2
            have zhv2 := hv2.size
            rw [HM.out.2]
            clear m0
            go_wp2
            go_roundw
            case rel => exact ⟨k + 1, by omega, by go_num, O, O1, O3, HB⟩
            case measure => simp [intOf]; omega
        · obtain rfl : k = 7 := by omega
          go_wp2
          go_meet
          exact HB
    case rest =>
      clear O O1 O3 O4 HB hzs HI2 HS2 HWK HON HNO HML hI hJ hcp hl
      have HB := hcut
      clear hcut
      have HB0 := Lib.hid HB.size
      go_wp2_with fail
      refine (drawChange A cap zs _ (HC.out.below HB)).mono ?_
      rintro e v1 ⟨L2, g2, d2, id, hl2, rfl, P2, hv1⟩
      replace HB := be HB hv1
      have zhv1 := hv1.size
      replace P2 := own_base P2 (base' := w.heap.size) (by have := HB0.out; omega)
      obtain ⟨y1, y2, q2, hv2⟩ := chg_form L2 id
      have HT := Lib.hid (chg_told hv2)
      have HV2 := Lib.hid hv2; clear hv2
      go_wp2_with fail
      refine (chg_impl (some ⟨g2, 0, none⟩) d2 L2 id _ (Rd.of_own P2) (own_cap P2) (by omega)).mono ?_
      rintro e v2 ⟨rfl, hv2⟩
      replace HB := be HB hv2
      replace P2 := own_keep P2 hv2
      have zhv2 := hv2.size
      rw [HV2.out]
      go_wp2_with fail
      refine (chg_spec (some ⟨g2, 0, none⟩) d2 L2 id _ (Rd.of_own P2) (by omega)).mono ?_
      rintro e v3 ⟨rfl, hv3⟩
      replace HB := be HB hv3
      replace P2 := own_keep P2 hv3
      have zhv3 := hv3.size
      rw [HV2.out]
      go_upto_block 2 with fail
      go_cut [24] from 24 (fun s wc => ∃ t, s = .int .i64 t ∧ t ≤ y2 ∧ Below w.heap.size w wc)
      case first => as_aux_lemma =>
        go_wp2_with fail
        go_loopw [24, 25] (fun s i wr => ∃ (k : Nat) (t : Int), k ≤ 5 ∧ i = .int .i64 ((k : Int) + 1) ∧ s = .int .i64 t ∧ Hid ((q2 = true → gangs L2 k = t) ∧ (q2 = false → t = 0)) ∧ 0 ≤ t ∧ t ≤ 4200 * k ∧ wr.ownsRow w.heap.size 50 5 (.slice (some ⟨g2, 0, none⟩) L2.length d2) L2.length (flat L2) ∧ Below w.heap.size w wr) (fun _ i _ => 6 - (intOf i).toNat)
        case atStart => exact ⟨0, 0, by omega, rfl, rfl, Lib.hid ⟨fun _ => rfl, fun _ => rfl⟩, by omega, by omega, P2, HB⟩
        case round =>
          clear P2 HB
          obtain ⟨k, t, hk, rfl, rfl, HG, t0, t1, P2, HB⟩ := hrel
          by_cases hlt : k < 5
          · have hki : (k : Int) + 1 ≤ 5 := by omega
            cases q2
            · have ht : t ≤ y2 := by rw [HG.out.2 rfl, HT.out.1 rfl]; exact Int.le_refl _
              go_wp2
              go_meet
              exact ⟨t, rfl, ht, HB⟩
            · have hgd := (HT.out.2 rfl).1
              have hal := all_good hgd k hlt
              have HIW := Lib.hid (fun P cap w hr hc hn => rweek_impl P cap L2 ((k : Int) + 1) w hr hc hn)
              rw [week_yes hal, hal] at HIW
              have hwb := weekSum_bd (good_sane hgd) ((k : Int) + 1)
              have hN := gangs_snoc L2 k
              rw [HG.out.1 rfl] at hN
              have HWM := Lib.hid (WorkK.week_mem (good_sane hgd) ((k : Int) + 1))
              have HWL := Lib.hid (WorkK.week_len L2 ((k : Int) + 1))
              unfold weekSum at hN hwb
              obtain ⟨r, hr⟩ : ∃ r, (week L2 ((k : Int) + 1)).sum = r := ⟨_, rfl⟩
              rw [hr] at hN hwb
              have HR := Lib.hid hr; clear hr hal hgd
              have HNX := Lib.hid hN; clear hN
              generalize week L2 ((k : Int) + 1) = I2 at *
              have y0 : IntKind.i64.wrap ((k : Int) + 1 + 1) = (k : Int) + 1 + 1 := IntWalk.i64_in _ (by omega)
              have y3 : IntKind.i64.wrap (t + r) = t + r := IntWalk.i64_in _ (by omega)
              go_wp2_with fail
              refine (HIW.out (some ⟨g2, 0, none⟩) d2 _ (Rd.of_own P2) (own_cap P2) (by omega)).mono ?_
              rintro e v1 ⟨A5, c5, rfl, O5, hv1⟩
              replace HB := be HB hv1
              replace P2 := own_keep P2 hv1
              have zhv1 := hv1.size
              go_wp2_with fail
              refine (rsum_any A5 c5 I2 _ (Rd.of_own O5) (by rw [HWL.out]; omega) HWM.out).mono ?_
              rintro e v2 ⟨rfl, hv2⟩
              replace HB := be HB hv2
              replace P2 := own_keep P2 hv2
              replace O5 := own_keep O5 hv2
              have zhv2 := hv2.size
              rw [HR.out]
              clear O5
              go_wp2
              exact ⟨⟨k + 1, t + r, by omega, by first | go_num | (congr 1; omega), rfl, Lib.hid ⟨fun _ => HNX.out, fun e => (by cases e)⟩, by omega, by omega, P2, HB⟩, by simp [intOf]; omega⟩
          · obtain rfl : k = 5 := by omega
            have ht : t ≤ y2 := by
              cases q2
              · rw [HG.out.2 rfl, HT.out.1 rfl]; exact Int.le_refl _
              · have := (HT.out.2 rfl).2.1
                have h5 := HG.out.1 rfl
                unfold allOf at this
                omega
            have hk6 : decide (((5 : Nat) : Int) + 1 ≤ 5) = false := rfl
            go_wp2
            go_meet
            exact ⟨t, rfl, ht, HB⟩
      case rest =>
        clear P2 HB
        obtain ⟨t, rfl, ht, HB⟩ := hcut
        have ht1 : decide (y2 < t) = false := decide_eq_false (by omega)
        go_wp2_with fail
        refine (drawDays A cap zs _ (HC.out.below HB)).mono ?_
        rintro e v1 ⟨L3, g3, d3, x3, m3, z3, hl3, rfl, P3, hv1⟩
        replace HB := be HB hv1
        have zhv1 := hv1.size
        obtain ⟨xd, q3, hv3⟩ := days_form L3 x3 m3 z3
        have HT3 := Lib.hid (days_told hv3)
        have HV3 := Lib.hid hv3; clear hv3
        go_wp2_with fail
        refine (days_impl (some ⟨g3, 0, none⟩) d3 L3 x3 m3 z3 _ (Rd.of_own P3) (own_cap P3) (by omega)).mono ?_
        rintro e v2 ⟨rfl, hv2⟩
        replace HB := be HB hv2
        replace P3 := own_keep P3 hv2
        have zhv2 := hv2.size
        rw [HV3.out]
        go_wp2_with fail
        refine (days_spec (some ⟨g3, 0, none⟩) d3 L3 x3 m3 z3 _ (Rd.of_own P3) (by omega)).mono ?_
        rintro e v3 ⟨rfl, hv3⟩
        replace HB := be HB hv3
        replace P3 := own_keep P3 hv3
        have zhv3 := hv3.size
        rw [HV3.out]
        go_upto_if 224 with fail
        go_cut [] from 36 (fun wc => Below w.heap.size w wc)
        case first => as_aux_lemma =>
          cases q3
          · go_wp2
            go_meet
            exact HB
          · obtain ⟨r, hr, h1, h2⟩ := HT3.out rfl
            have HR := Lib.hid hr; clear hr
            have k1 : decide (r < 1) = false := decide_eq_false (by omega)
            have k2 : decide (xd < m3) = false := decide_eq_false (by omega)
            go_wp2_with fail
            refine (on_impl (some ⟨g3, 0, none⟩) d3 L3 x3 xd _ (Rd.of_own P3) (own_cap P3) (by omega)).mono ?_
            rintro e v4 ⟨rfl, hv4⟩
            replace HB := be HB hv4
            replace P3 := own_keep P3 hv4
            have zhv4 := hv4.size
            rw [HR.out]
            go_wp2
            go_meet
            exact HB
        case rest =>
          clear P3 HB HT3 HV3
          have HB := hcut
          clear hcut
          go_wp2_with fail
          refine (drawOn A cap zs _ (HC.out.below HB)).mono ?_
          rintro e v1 ⟨L4, g4, d4, x4, m4, hl4, rfl, P4, hv1⟩
          replace HB := be HB hv1
          have zhv1 := hv1.size
          obtain ⟨x5, q5, hv5⟩ := on_form L4 x4 m4
          have HV5 := Lib.hid hv5; clear hv5
          go_wp2_with fail
          refine (on_impl (some ⟨g4, 0, none⟩) d4 L4 x4 m4 _ (Rd.of_own P4) (own_cap P4) (by omega)).mono ?_
          rintro e v2 ⟨rfl, hv2⟩
          replace HB := be HB hv2
          replace P4 := own_keep P4 hv2
          have zhv2 := hv2.size
          rw [HV5.out]
          go_wp2_with fail
          refine (on_spec (some ⟨g4, 0, none⟩) d4 L4 x4 m4 _ (Rd.of_own P4) (by omega)).mono ?_
          rintro e v3 ⟨rfl, hv3⟩
          replace HB := be HB hv3
          replace P4 := own_keep P4 hv3
          have zhv3 := hv3.size
          rw [HV5.out]
          go_wp2
          go_ret
          exact ⟨rfl, HB⟩
end Go.Proofs.Ytmfaeekmcclleaa.GangLaw
