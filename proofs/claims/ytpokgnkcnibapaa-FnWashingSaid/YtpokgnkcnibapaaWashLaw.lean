/- FnWashing, walked. Made by tools/mk_washlaw.py. -/
import Derived.Deep.Cut
import Derived.Deep.CutBlock
import Derived.Deep.CutRange
import Derived.Deep.DeepCutAuto
import Derived.Test.YtpokgnkcnibapaaBatFacts
import Derived.Test.YtpokgnkcnibapaaBatU
import Derived.Test.YtpokgnkcnibapaaBatW
import Derived.Test.YtpokgnkcnibapaaDBat3
namespace Go.Proofs.Ytpokgnkcnibapaa.WashLaw
open Go.RowKit Go.Proofs.Ytpokgnkcnibapaa.Mem Go.Proofs.Ytpokgnkcnibapaa.Base Go.Proofs.Ytpokgnkcnibapaa.Within Go.Proofs.Ytpokgnkcnibapaa.SBatch Go.Proofs.Ytpokgnkcnibapaa.Regn Go.Proofs.Ytpokgnkcnibapaa.Boxes Go.Proofs.Ytpokgnkcnibapaa.Keep Go.Proofs.Ytpokgnkcnibapaa.BatP Go.Proofs.Ytpokgnkcnibapaa.BatQ Go.Proofs.Ytpokgnkcnibapaa.BatFacts
set_option linter.unusedVariables false
set_option linter.unusedSimpArgs false
set_option maxRecDepth 100000
abbrev Yes (w : World) (e : Ending) (w' : World) : Prop := e = .returned (.bool true) ∧ Below w.heap.size w w'
theorem bne_b (q : Bool) : (q != q) = false := by cases q <;> rfl
theorem beq_b (q : Bool) : (q == q) = true := by cases q <;> rfl
set_option maxHeartbeats 8000000 in
theorem law (A : Option Addr) (cap : Nat) (zs : List Int) (w : World) (hr : Rd w w.heap.size A (zs.map (Value.int .u8))) (hn : zs.length ≤ maxLen) (hb : ∀ z ∈ zs, 0 ≤ z ∧ z ≤ 255) :
    Calls Try.prog 3 #[.slice A zs.length cap] w (Yes w) := by
  by_cases hbig : 65536 < zs.length
  · have HG := Lib.hid (show Draw.bigB zs.length = true from decide_eq_true hbig)
    clear hr hb
    go_enter Try.func3, Try.ntmps3
    go_wp2_with fail
    refine (Draw.big_any A cap zs.length w hn).mono ?_
    rintro e w' ⟨rfl, rfl⟩
    rw [HG.out]
    go_wp2
    go_ret
    exact ⟨rfl, Below.refl _ _⟩
  have HG := Lib.hid (show Draw.bigB zs.length = false from decide_eq_false hbig)
  have HN := Lib.hid hn; clear hn
  have HC := Lib.hid (show Draw.Src w A zs from ⟨hr, by omega, hb⟩); clear hr hb
  go_enter Try.func3, Try.ntmps3
  go_wp2_with fail
  refine (Draw.big_any A cap zs.length w HN.out).mono ?_
  rintro e w' ⟨rfl, rfl⟩
  rw [HG.out]
  clear HG hbig HN
  go_wp2_with fail
  refine (DBat2.drawWash A cap zs w HC.out).mono ?_
  rintro e w1 ⟨b, v, d, rfl, HB⟩
  obtain ⟨z, n, q, hv, hk⟩ := aw_told b v d
  have HV := Lib.hid hv; clear hv
  have HK := Lib.hid hk; clear hk
  go_wp2_with fail
  have X := Box.new HB [.int .i64 b.f0, .int .i64 b.f1, .int .i64 b.f2] 25 (g := w1.heap.size) rfl
  replace HB := be HB (al (Below.refl _ _) (o := (.cells #[.int .i64 b.f0, .int .i64 b.f1, .int .i64 b.f2] 25)))
  generalize (w1.alloc (.cells #[.int .i64 b.f0, .int .i64 b.f1, .int .i64 b.f2] 25)) = W1 at X HB ⊢
  have X_0 := X.cells 0 _ rfl
  have X_1 := X.cells 1 _ rfl
  have X_2 := X.cells 2 _ rfl
  have X_f0 := X.free 0 (by simp)
  have X_f1 := X.free 1 (by simp)
  have X_f2 := X.free 2 (by simp)
  have X_t := X.there
  go_wp2_with fail
  refine (BatV.aw_impl b v d _).mono ?_
  rintro e v2 ⟨rfl, hv2⟩
  clear X_0 X_1 X_2 X_f0 X_f1 X_f2 X_t
  replace X := X.more hv2
  replace HB := be HB hv2
  have zhv2 := hv2.size
  clear hv2
  have X_0 := X.cells 0 _ rfl
  have X_1 := X.cells 1 _ rfl
  have X_2 := X.cells 2 _ rfl
  have X_f0 := X.free 0 (by simp)
  have X_f1 := X.free 1 (by simp)
  have X_f2 := X.free 2 (by simp)
  have X_t := X.there
  rw [HV.out]
  unfold SBatch.R.val
  go_wp2_with fail
  have X_t3 := X.there
  have O := Box.new X.below [.int .i64 z.f0, .int .i64 z.f1, .int .i64 z.f2] 25 (g := v2.heap.size) rfl
  clear X_0 X_1 X_2 X_f0 X_f1 X_f2 X_t
  replace X := (X).alloc (.cells #[.int .i64 z.f0, .int .i64 z.f1, .int .i64 z.f2] 25)
  replace HB := be HB (al (Below.refl _ _) (o := (.cells #[.int .i64 z.f0, .int .i64 z.f1, .int .i64 z.f2] 25)))
  generalize (v2.alloc (.cells #[.int .i64 z.f0, .int .i64 z.f1, .int .i64 z.f2] 25)) = W3 at O X HB ⊢
  have X_0 := X.cells 0 _ rfl
  have X_1 := X.cells 1 _ rfl
  have X_2 := X.cells 2 _ rfl
  have X_f0 := X.free 0 (by simp)
  have X_f1 := X.free 1 (by simp)
  have X_f2 := X.free 2 (by simp)
  have X_t := X.there
  have O_0 := O.cells 0 _ rfl
  have O_1 := O.cells 1 _ rfl
  have O_2 := O.cells 2 _ rfl
  have O_f0 := O.free 0 (by simp)
  have O_f1 := O.free 1 (by simp)
  have O_f2 := O.free 2 (by simp)
  have O_t := O.there
  go_wp2_with fail
  refine (BatV.aw_spec b v d _).mono ?_
  rintro e v4 ⟨rfl, hv4⟩
  clear X_0 X_1 X_2 X_f0 X_f1 X_f2 X_t
  clear O_0 O_1 O_2 O_f0 O_f1 O_f2 O_t
  replace X := X.more hv4
  replace O := O.more hv4
  replace HB := be HB hv4
  have zhv4 := hv4.size
  clear hv4
  have X_0 := X.cells 0 _ rfl
  have X_1 := X.cells 1 _ rfl
  have X_2 := X.cells 2 _ rfl
  have X_f0 := X.free 0 (by simp)
  have X_f1 := X.free 1 (by simp)
  have X_f2 := X.free 2 (by simp)
  have X_t := X.there
  have O_0 := O.cells 0 _ rfl
  have O_1 := O.cells 1 _ rfl
  have O_2 := O.cells 2 _ rfl
  have O_f0 := O.free 0 (by simp)
  have O_f1 := O.free 1 (by simp)
  have O_f2 := O.free 2 (by simp)
  have O_t := O.there
  rw [HV.out]
  unfold SBatch.R.val
  go_upto_region 6 with fail
  have X_t5 := X.there
  have O_t5 := O.there
  have Y := Box.new X.below [.int .i64 z.f0, .int .i64 z.f1, .int .i64 z.f2] 25 (g := v4.heap.size) rfl
  clear X_0 X_1 X_2 X_f0 X_f1 X_f2 X_t
  replace X := (X).alloc (.cells #[.int .i64 z.f0, .int .i64 z.f1, .int .i64 z.f2] 25)
  clear O_0 O_1 O_2 O_f0 O_f1 O_f2 O_t
  replace O := (O).alloc (.cells #[.int .i64 z.f0, .int .i64 z.f1, .int .i64 z.f2] 25)
  replace HB := be HB (al (Below.refl _ _) (o := (.cells #[.int .i64 z.f0, .int .i64 z.f1, .int .i64 z.f2] 25)))
  generalize (v4.alloc (.cells #[.int .i64 z.f0, .int .i64 z.f1, .int .i64 z.f2] 25)) = W5 at Y X O HB ⊢
  have X_0 := X.cells 0 _ rfl
  have X_1 := X.cells 1 _ rfl
  have X_2 := X.cells 2 _ rfl
  have X_f0 := X.free 0 (by simp)
  have X_f1 := X.free 1 (by simp)
  have X_f2 := X.free 2 (by simp)
  have X_t := X.there
  have O_0 := O.cells 0 _ rfl
  have O_1 := O.cells 1 _ rfl
  have O_2 := O.cells 2 _ rfl
  have O_f0 := O.free 0 (by simp)
  have O_f1 := O.free 1 (by simp)
  have O_f2 := O.free 2 (by simp)
  have O_t := O.there
  have Y_0 := Y.cells 0 _ rfl
  have Y_1 := Y.cells 1 _ rfl
  have Y_2 := Y.cells 2 _ rfl
  have Y_f0 := Y.free 0 (by simp)
  have Y_f1 := Y.free 1 (by simp)
  have Y_f2 := Y.free 2 (by simp)
  have Y_t := Y.there
  have b1 := bne_b q
  obtain ⟨qb, hqb⟩ : ∃ qb, okT b = qb := ⟨_, rfl⟩
  have HQB := Lib.hid hqb; clear hqb
  have b2 := bne_b qb
  refine wp_region_text (fun w' => Box (w1.heap.size) [.int .i64 b.f0, .int .i64 b.f1, .int .i64 b.f2] w w' ∧ Box (v2.heap.size) [.int .i64 z.f0, .int .i64 z.f1, .int .i64 z.f2] w w' ∧ Box (v4.heap.size) [.int .i64 z.f0, .int .i64 z.f1, .int .i64 z.f2] w w' ∧ Below w.heap.size w w') (by kernel_rfl) (by kernel_rfl) ⟨X.drew, O.drew, Y.drew, be HB (Below.refl _ _).drew⟩ ?_
  clear X_0 X_1 X_2 X_f0 X_f1 X_f2 X_t
  clear O_0 O_1 O_2 O_f0 O_f1 O_f2 O_t
  clear Y_0 Y_1 Y_2 Y_f0 Y_f1 Y_f2 Y_t
  iterate 20 (
    apply SeqH.one
    · intro uw K hS hK
      obtain ⟨qX, qO, qY, qHB⟩ := hS
      have qX_0 := qX.cells 0 _ rfl
      have qX_1 := qX.cells 1 _ rfl
      have qX_2 := qX.cells 2 _ rfl
      have qO_0 := qO.cells 0 _ rfl
      have qO_1 := qO.cells 1 _ rfl
      have qO_2 := qO.cells 2 _ rfl
      have qY_0 := qY.cells 0 _ rfl
      have qY_1 := qY.cells 1 _ rfl
      have qY_2 := qY.cells 2 _ rfl
      first
        | (go_simp; exact hK.out _ ⟨qX, qO, qY, qHB⟩)
        | (go_simp; go_at_call 18; (with_reducible refine (BatS.is_impl b _).mono ?_); rintro e uw1 ⟨rfl, hv⟩; rw [HQB.out]; go_wp2_with fail; exact hK.out _ ⟨qX.more hv, qO.more hv, qY.more hv, be qHB hv⟩)
        | (go_simp; go_at_call 19; (with_reducible refine (BatS.is_spec b _).mono ?_); rintro e uw1 ⟨rfl, hv⟩; rw [HQB.out]; go_wp2_with fail; exact hK.out _ ⟨qX.more hv, qO.more hv, qY.more hv, be qHB hv⟩)
    try simp only [Act.put, List.setIfInBounds_toArray, List.set_cons_zero, List.set_cons_succ])
  refine SeqH.end' rfl ?_
  intro v6 hS
  clear X O Y HB
  obtain ⟨X, O, Y, HB⟩ := hS
  have X_0 := X.cells 0 _ rfl
  have X_1 := X.cells 1 _ rfl
  have X_2 := X.cells 2 _ rfl
  have X_f0 := X.free 0 (by simp)
  have X_f1 := X.free 1 (by simp)
  have X_f2 := X.free 2 (by simp)
  have X_t := X.there
  have O_0 := O.cells 0 _ rfl
  have O_1 := O.cells 1 _ rfl
  have O_2 := O.cells 2 _ rfl
  have O_f0 := O.free 0 (by simp)
  have O_f1 := O.free 1 (by simp)
  have O_f2 := O.free 2 (by simp)
  have O_t := O.there
  have Y_0 := Y.cells 0 _ rfl
  have Y_1 := Y.cells 1 _ rfl
  have Y_2 := Y.cells 2 _ rfl
  have Y_f0 := Y.free 0 (by simp)
  have Y_f1 := Y.free 1 (by simp)
  have Y_f2 := Y.free 2 (by simp)
  have Y_t := Y.there
  go_upto_region 8 with fail
  go_cut [113] from 40 (fun cnd wc => cnd = .bool false ∧ v6 = wc)
  case first => as_aux_lemma =>
    cases q
    · go_wp2
      go_meet
      exact ⟨rfl, rfl⟩
    · obtain ⟨k0, k1, k2, k3, k4, k5, k6, k7, k8, k9, k10⟩ := HK.out rfl
      have d0 : (z.f0 != b.f0) = false := by rw [bne_eq_false_iff_eq]; exact k0
      have d2 : (z.f2 != b.f2) = false := by rw [bne_eq_false_iff_eq]; exact k1
      have d1 : (z.f1 + n != b.f1 + d) = false := by rw [bne_eq_false_iff_eq]; exact k10
      have d3 : decide (n < 0) = false := decide_eq_false (by omega)
      have e1 : IntKind.i64.wrap (z.f1 + n) = z.f1 + n := IntWalk.i64_in _ (by omega)
      have e2 : IntKind.i64.wrap (b.f1 + d) = b.f1 + d := IntWalk.i64_in _ (by omega)
      clear k0 k1 k10
      go_wp2
      go_meet
      exact ⟨rfl, rfl⟩
  case rest => as_aux_lemma =>
    obtain ⟨rfl, rfl⟩ := hcut
    go_upto_region 10 with fail
    have HB0 := Lib.hid X.below
    clear b1 b2 HV HK HQB HB
    clear X_0 X_1 X_2 X_f0 X_f1 X_f2 X_t
    clear O_0 O_1 O_2 O_f0 O_f1 O_f2 O_t
    clear Y_0 Y_1 Y_2 Y_f0 Y_f1 Y_f2 Y_t
    clear X O Y
    have HB := HB0.out
    clear HB0
    go_wp2_with fail
    refine (DBat3.drawWater A cap zs _ (HC.out.below HB)).mono ?_
    rintro e w2 ⟨c, m, rfl, hB2⟩
    replace HB := be HB hB2
    clear hB2
    obtain ⟨l, t, hv, hk⟩ := wn_told c m
    have HV := Lib.hid hv; clear hv
    have HK := Lib.hid hk; clear hk
    have b3 := bne_b t
    go_wp2_with fail
    have X := Box.new HB [.int .i64 c.f0, .int .i64 c.f1, .int .i64 c.f2] 25 (g := w2.heap.size) rfl
    replace HB := be HB (al (Below.refl _ _) (o := (.cells #[.int .i64 c.f0, .int .i64 c.f1, .int .i64 c.f2] 25)))
    generalize (w2.alloc (.cells #[.int .i64 c.f0, .int .i64 c.f1, .int .i64 c.f2] 25)) = W1 at X HB ⊢
    have X_0 := X.cells 0 _ rfl
    have X_1 := X.cells 1 _ rfl
    have X_2 := X.cells 2 _ rfl
    have X_f0 := X.free 0 (by simp)
    have X_f1 := X.free 1 (by simp)
    have X_f2 := X.free 2 (by simp)
    have X_t := X.there
    go_wp2_with fail
    refine (BatW.wn_impl c m _).mono ?_
    rintro e v2 ⟨rfl, hv2⟩
    clear X_0 X_1 X_2 X_f0 X_f1 X_f2 X_t
    replace X := X.more hv2
    replace HB := be HB hv2
    have zhv2 := hv2.size
    clear hv2
    have X_0 := X.cells 0 _ rfl
    have X_1 := X.cells 1 _ rfl
    have X_2 := X.cells 2 _ rfl
    have X_f0 := X.free 0 (by simp)
    have X_f1 := X.free 1 (by simp)
    have X_f2 := X.free 2 (by simp)
    have X_t := X.there
    rw [HV.out]
    go_wp2_with fail
    refine (BatW.wn_spec c m _).mono ?_
    rintro e v3 ⟨rfl, hv3⟩
    clear X_0 X_1 X_2 X_f0 X_f1 X_f2 X_t
    replace X := X.more hv3
    replace HB := be HB hv3
    have zhv3 := hv3.size
    clear hv3
    have X_0 := X.cells 0 _ rfl
    have X_1 := X.cells 1 _ rfl
    have X_2 := X.cells 2 _ rfl
    have X_f0 := X.free 0 (by simp)
    have X_f1 := X.free 1 (by simp)
    have X_f2 := X.free 2 (by simp)
    have X_t := X.there
    rw [HV.out]
    clear HV
    go_upto_region 15 with fail
    go_cut [143] from 40 (fun cnd wc => cnd = .bool (t && decide (0 < l)) ∧ v3 = wc)
    case first => as_aux_lemma =>
      cases t
      · go_wp2
        go_meet
        exact ⟨rfl, rfl⟩
      · go_wp2
        go_meet
        exact ⟨by simp, rfl⟩
    case rest => as_aux_lemma =>
      obtain ⟨hz0, rfl⟩ := hcut
      obtain ⟨bb, hbb⟩ : ∃ bb, (t && decide (0 < l)) = bb := ⟨_, rfl⟩
      rw [hbb] at hz0
      subst hz0
      have HBB := Lib.hid hbb
      clear hbb b3
      go_upto_if 143 with fail
      go_cut [18, 19, 20, 21, 22, 23] from 40 (fun s18 s19 s20 s21 s22 s23 wc => Below w.heap.size w wc)
      case first => as_aux_lemma =>
        cases bb
        · go_wp2
          go_meet
          case rel => exact X.below
        · have hbb := HBB.out
          rw [Bool.and_eq_true, decide_eq_true_eq] at hbb
          obtain ⟨l0, l1, hl, hm⟩ := HK.out hbb.1
          have hp := hbb.2
          obtain ⟨z1, n1, hv1, hz1⟩ := hl hp
          have HV1 := Lib.hid hv1
          have HM := Lib.hid hm
          have hz1' : decide (m < z1.f1) = false := decide_eq_false (by omega)
          clear hl hm hv1 hbb
          go_wp2_with fail
          refine (BatV.aw_impl c l 0 _).mono ?_
          rintro e v4 ⟨rfl, hv4⟩
          clear X_0 X_1 X_2 X_f0 X_f1 X_f2 X_t
          replace X := X.more hv4
          replace HB := be HB hv4
          have zhv4 := hv4.size
          clear hv4
          have X_0 := X.cells 0 _ rfl
          have X_1 := X.cells 1 _ rfl
          have X_2 := X.cells 2 _ rfl
          have X_f0 := X.free 0 (by simp)
          have X_f1 := X.free 1 (by simp)
          have X_f2 := X.free 2 (by simp)
          have X_t := X.there
          rw [HV1.out]
          unfold SBatch.R.val
          go_upto_region 17 with fail
          have X_t5 := X.there
          have U := Box.new X.below [.int .i64 z1.f0, .int .i64 z1.f1, .int .i64 z1.f2] 25 (g := v4.heap.size) rfl
          clear X_0 X_1 X_2 X_f0 X_f1 X_f2 X_t
          replace X := (X).alloc (.cells #[.int .i64 z1.f0, .int .i64 z1.f1, .int .i64 z1.f2] 25)
          replace HB := be HB (al (Below.refl _ _) (o := (.cells #[.int .i64 z1.f0, .int .i64 z1.f1, .int .i64 z1.f2] 25)))
          generalize (v4.alloc (.cells #[.int .i64 z1.f0, .int .i64 z1.f1, .int .i64 z1.f2] 25)) = W5 at U X HB ⊢
          have X_0 := X.cells 0 _ rfl
          have X_1 := X.cells 1 _ rfl
          have X_2 := X.cells 2 _ rfl
          have X_f0 := X.free 0 (by simp)
          have X_f1 := X.free 1 (by simp)
          have X_f2 := X.free 2 (by simp)
          have X_t := X.there
          have U_0 := U.cells 0 _ rfl
          have U_1 := U.cells 1 _ rfl
          have U_2 := U.cells 2 _ rfl
          have U_f0 := U.free 0 (by simp)
          have U_f1 := U.free 1 (by simp)
          have U_f2 := U.free 2 (by simp)
          have U_t := U.there
          by_cases h1 : 1 < l
          · have h1' : decide (1 < l) = true := decide_eq_true h1
            obtain ⟨z2, n2, hv2, hz2⟩ := HM.out h1
            have HV2 := Lib.hid hv2
            have hz2' : decide (z2.f1 ≤ m) = false := decide_eq_false (by omega)
            have e1 : IntKind.i64.wrap (l - 1) = l - 1 := IntWalk.i64_in _ (by omega)
            clear hv2
            go_wp2_with fail
            refine (BatV.aw_impl c (l - 1) 0 _).mono ?_
            rintro e v6 ⟨rfl, hv6⟩
            clear X_0 X_1 X_2 X_f0 X_f1 X_f2 X_t
            clear U_0 U_1 U_2 U_f0 U_f1 U_f2 U_t
            replace X := X.more hv6
            replace U := U.more hv6
            replace HB := be HB hv6
            have zhv6 := hv6.size
            clear hv6
            have X_0 := X.cells 0 _ rfl
            have X_1 := X.cells 1 _ rfl
            have X_2 := X.cells 2 _ rfl
            have X_f0 := X.free 0 (by simp)
            have X_f1 := X.free 1 (by simp)
            have X_f2 := X.free 2 (by simp)
            have X_t := X.there
            have U_0 := U.cells 0 _ rfl
            have U_1 := U.cells 1 _ rfl
            have U_2 := U.cells 2 _ rfl
            have U_f0 := U.free 0 (by simp)
            have U_f1 := U.free 1 (by simp)
            have U_f2 := U.free 2 (by simp)
            have U_t := U.there
            rw [HV2.out]
            unfold SBatch.R.val
            go_wp2
            go_meet
            case rel => exact al X.below
          · have h1' : decide (1 < l) = false := decide_eq_false h1
            go_wp2
            go_meet
            case rel => exact X.below
      case rest => as_aux_lemma =>
        clear HB X HK
        have HB := hcut
        clear hcut
        go_wp2_with fail
        refine (DBat2.drawStages A cap zs wc (HC.out.below HB)).mono ?_
        rintro e w3 ⟨x, v, m, rfl, hB3⟩
        replace HB := be HB hB3
        clear hB3
        obtain ⟨z, q, hv, hk⟩ := as_told x v m
        have HV := Lib.hid hv; clear hv
        have HK := Lib.hid hk; clear hk
        have b4 := bne_b q
        go_wp2_with fail
        have X := Box.new HB [.int .i64 x.f0, .int .i64 x.f1, .int .i64 x.f2] 25 (g := w3.heap.size) rfl
        replace HB := be HB (al (Below.refl _ _) (o := (.cells #[.int .i64 x.f0, .int .i64 x.f1, .int .i64 x.f2] 25)))
        generalize (w3.alloc (.cells #[.int .i64 x.f0, .int .i64 x.f1, .int .i64 x.f2] 25)) = W1 at X HB ⊢
        have X_0 := X.cells 0 _ rfl
        have X_1 := X.cells 1 _ rfl
        have X_2 := X.cells 2 _ rfl
        have X_f0 := X.free 0 (by simp)
        have X_f1 := X.free 1 (by simp)
        have X_f2 := X.free 2 (by simp)
        have X_t := X.there
        go_wp2_with fail
        refine (BatV.as_impl x v m _).mono ?_
        rintro e v2 ⟨rfl, hv2⟩
        clear X_0 X_1 X_2 X_f0 X_f1 X_f2 X_t
        replace X := X.more hv2
        replace HB := be HB hv2
        have zhv2 := hv2.size
        clear hv2
        have X_0 := X.cells 0 _ rfl
        have X_1 := X.cells 1 _ rfl
        have X_2 := X.cells 2 _ rfl
        have X_f0 := X.free 0 (by simp)
        have X_f1 := X.free 1 (by simp)
        have X_f2 := X.free 2 (by simp)
        have X_t := X.there
        rw [HV.out]
        unfold SBatch.R.val
        go_wp2_with fail
        have X_t3 := X.there
        have O := Box.new X.below [.int .i64 z.f0, .int .i64 z.f1, .int .i64 z.f2] 25 (g := v2.heap.size) rfl
        clear X_0 X_1 X_2 X_f0 X_f1 X_f2 X_t
        replace X := (X).alloc (.cells #[.int .i64 z.f0, .int .i64 z.f1, .int .i64 z.f2] 25)
        replace HB := be HB (al (Below.refl _ _) (o := (.cells #[.int .i64 z.f0, .int .i64 z.f1, .int .i64 z.f2] 25)))
        generalize (v2.alloc (.cells #[.int .i64 z.f0, .int .i64 z.f1, .int .i64 z.f2] 25)) = W3 at O X HB ⊢
        have X_0 := X.cells 0 _ rfl
        have X_1 := X.cells 1 _ rfl
        have X_2 := X.cells 2 _ rfl
        have X_f0 := X.free 0 (by simp)
        have X_f1 := X.free 1 (by simp)
        have X_f2 := X.free 2 (by simp)
        have X_t := X.there
        have O_0 := O.cells 0 _ rfl
        have O_1 := O.cells 1 _ rfl
        have O_2 := O.cells 2 _ rfl
        have O_f0 := O.free 0 (by simp)
        have O_f1 := O.free 1 (by simp)
        have O_f2 := O.free 2 (by simp)
        have O_t := O.there
        go_wp2_with fail
        refine (BatV.as_spec x v m _).mono ?_
        rintro e v4 ⟨rfl, hv4⟩
        clear X_0 X_1 X_2 X_f0 X_f1 X_f2 X_t
        clear O_0 O_1 O_2 O_f0 O_f1 O_f2 O_t
        replace X := X.more hv4
        replace O := O.more hv4
        replace HB := be HB hv4
        have zhv4 := hv4.size
        clear hv4
        have X_0 := X.cells 0 _ rfl
        have X_1 := X.cells 1 _ rfl
        have X_2 := X.cells 2 _ rfl
        have X_f0 := X.free 0 (by simp)
        have X_f1 := X.free 1 (by simp)
        have X_f2 := X.free 2 (by simp)
        have X_t := X.there
        have O_0 := O.cells 0 _ rfl
        have O_1 := O.cells 1 _ rfl
        have O_2 := O.cells 2 _ rfl
        have O_f0 := O.free 0 (by simp)
        have O_f1 := O.free 1 (by simp)
        have O_f2 := O.free 2 (by simp)
        have O_t := O.there
        rw [HV.out]
        unfold SBatch.R.val
        clear HV
        go_upto_region 26 with fail
        have X_t5 := X.there
        have O_t5 := O.there
        have Y := Box.new X.below [.int .i64 z.f0, .int .i64 z.f1, .int .i64 z.f2] 25 (g := v4.heap.size) rfl
        clear X_0 X_1 X_2 X_f0 X_f1 X_f2 X_t
        replace X := (X).alloc (.cells #[.int .i64 z.f0, .int .i64 z.f1, .int .i64 z.f2] 25)
        clear O_0 O_1 O_2 O_f0 O_f1 O_f2 O_t
        replace O := (O).alloc (.cells #[.int .i64 z.f0, .int .i64 z.f1, .int .i64 z.f2] 25)
        replace HB := be HB (al (Below.refl _ _) (o := (.cells #[.int .i64 z.f0, .int .i64 z.f1, .int .i64 z.f2] 25)))
        generalize (v4.alloc (.cells #[.int .i64 z.f0, .int .i64 z.f1, .int .i64 z.f2] 25)) = W5 at Y X O HB ⊢
        have X_0 := X.cells 0 _ rfl
        have X_1 := X.cells 1 _ rfl
        have X_2 := X.cells 2 _ rfl
        have X_f0 := X.free 0 (by simp)
        have X_f1 := X.free 1 (by simp)
        have X_f2 := X.free 2 (by simp)
        have X_t := X.there
        have O_0 := O.cells 0 _ rfl
        have O_1 := O.cells 1 _ rfl
        have O_2 := O.cells 2 _ rfl
        have O_f0 := O.free 0 (by simp)
        have O_f1 := O.free 1 (by simp)
        have O_f2 := O.free 2 (by simp)
        have O_t := O.there
        have Y_0 := Y.cells 0 _ rfl
        have Y_1 := Y.cells 1 _ rfl
        have Y_2 := Y.cells 2 _ rfl
        have Y_f0 := Y.free 0 (by simp)
        have Y_f1 := Y.free 1 (by simp)
        have Y_f2 := Y.free 2 (by simp)
        have Y_t := Y.there
        go_cut [214] from 40 (fun cnd wc => cnd = .bool false ∧ W5 = wc)
        case first => as_aux_lemma =>
          cases q
          · go_wp2
            go_meet
            exact ⟨rfl, rfl⟩
          · have hle := HK.out rfl
            have hle' : decide (x.f1 < z.f1) = false := decide_eq_false (by omega)
            go_wp2
            go_meet
            exact ⟨rfl, rfl⟩
        case rest => as_aux_lemma =>
          obtain ⟨rfl, rfl⟩ := hcut
          have HB0 := Lib.hid X.below
          clear HK HB b4
          clear X_0 X_1 X_2 X_f0 X_f1 X_f2 X_t
          clear O_0 O_1 O_2 O_f0 O_f1 O_f2 O_t
          clear Y_0 Y_1 Y_2 Y_f0 Y_f1 Y_f2 Y_t
          clear X O Y
          have HB := HB0.out
          clear HB0
          go_wp2_with fail
          refine (DBat3.drawNeeded A cap zs _ (HC.out.below HB)).mono ?_
          rintro e w4 ⟨y, v, m, rfl, hB4⟩
          replace HB := be HB hB4
          clear hB4
          obtain ⟨n, q, hv, hk⟩ := sn_told y v m
          have HV := Lib.hid hv; clear hv
          have HK := Lib.hid hk; clear hk
          have b5 := bne_b q
          go_wp2_with fail
          have X := Box.new HB [.int .i64 y.f0, .int .i64 y.f1, .int .i64 y.f2] 25 (g := w4.heap.size) rfl
          replace HB := be HB (al (Below.refl _ _) (o := (.cells #[.int .i64 y.f0, .int .i64 y.f1, .int .i64 y.f2] 25)))
          generalize (w4.alloc (.cells #[.int .i64 y.f0, .int .i64 y.f1, .int .i64 y.f2] 25)) = W1 at X HB ⊢
          have X_0 := X.cells 0 _ rfl
          have X_1 := X.cells 1 _ rfl
          have X_2 := X.cells 2 _ rfl
          have X_f0 := X.free 0 (by simp)
          have X_f1 := X.free 1 (by simp)
          have X_f2 := X.free 2 (by simp)
          have X_t := X.there
          go_wp2_with fail
          refine (BatW.sn_impl y v m _).mono ?_
          rintro e v2 ⟨rfl, hv2⟩
          clear X_0 X_1 X_2 X_f0 X_f1 X_f2 X_t
          replace X := X.more hv2
          replace HB := be HB hv2
          have zhv2 := hv2.size
          clear hv2
          have X_0 := X.cells 0 _ rfl
          have X_1 := X.cells 1 _ rfl
          have X_2 := X.cells 2 _ rfl
          have X_f0 := X.free 0 (by simp)
          have X_f1 := X.free 1 (by simp)
          have X_f2 := X.free 2 (by simp)
          have X_t := X.there
          rw [HV.out]
          go_wp2_with fail
          refine (BatW.sn_spec y v m _).mono ?_
          rintro e v3 ⟨rfl, hv3⟩
          clear X_0 X_1 X_2 X_f0 X_f1 X_f2 X_t
          replace X := X.more hv3
          replace HB := be HB hv3
          have zhv3 := hv3.size
          clear hv3
          have X_0 := X.cells 0 _ rfl
          have X_1 := X.cells 1 _ rfl
          have X_2 := X.cells 2 _ rfl
          have X_f0 := X.free 0 (by simp)
          have X_f1 := X.free 1 (by simp)
          have X_f2 := X.free 2 (by simp)
          have X_t := X.there
          rw [HV.out]
          cases q
          · go_wp2
            go_ret
            exact ⟨rfl, X.below⟩
          · obtain ⟨z, hz, hle⟩ := HK.out rfl
            have HZ := Lib.hid hz; clear hz
            have hle' : decide (z.f1 ≤ m) = true := decide_eq_true hle
            go_wp2_with fail
            refine (BatV.as_impl y v n _).mono ?_
            rintro e v4 ⟨rfl, hv4⟩
            clear X_0 X_1 X_2 X_f0 X_f1 X_f2 X_t
            replace X := X.more hv4
            replace HB := be HB hv4
            have zhv4 := hv4.size
            clear hv4
            have X_0 := X.cells 0 _ rfl
            have X_1 := X.cells 1 _ rfl
            have X_2 := X.cells 2 _ rfl
            have X_f0 := X.free 0 (by simp)
            have X_f1 := X.free 1 (by simp)
            have X_f2 := X.free 2 (by simp)
            have X_t := X.there
            rw [HZ.out]
            unfold SBatch.R.val
            go_wp2
            go_ret
            exact ⟨rfl, al X.below⟩
end Go.Proofs.Ytpokgnkcnibapaa.WashLaw
