/- FnSuns, walked. -/
import Derived.Test.YtcmomccdnkligaaSunsFacts
import Derived.Test.YtcmomccdnkligaaLaws6a
import Derived.Test.YtcmomccdnkligaaDSun3
import Derived.Deep.Cut
import Derived.Deep.CutBlock
import Derived.Deep.DeepCutAuto
namespace Go.Proofs.Ytcmomccdnkligaa.SunsLaw
open Go.RowKit Go.Proofs.Ytcmomccdnkligaa.Mem Go.Proofs.Ytcmomccdnkligaa.Base Go.Proofs.Ytcmomccdnkligaa.SSun Go.Proofs.Ytcmomccdnkligaa.Regn Go.Proofs.Ytcmomccdnkligaa.Boxes Go.Proofs.Ytcmomccdnkligaa.Keep Go.Proofs.Ytcmomccdnkligaa.Sun Go.Proofs.Ytcmomccdnkligaa.SunA Go.Proofs.Ytcmomccdnkligaa.SunB Go.Proofs.Ytcmomccdnkligaa.SunsFacts Go.Proofs.Ytcmomccdnkligaa.DSun2
set_option linter.unusedVariables false
set_option maxRecDepth 100000
abbrev Yes := Laws6a.Yes
theorem after_form (l : List R) (p q a f t : Int) : ∃ x y z, afterV l p q a f t = .tuple #[.agg #[.int .i64 x, .int .i64 y], .bool z] := ⟨_, _, _, rfl⟩
set_option maxHeartbeats 6400000 in
theorem law (A : Option Addr) (cap : Nat) (zs : List Int) (w : World) (hr : Rd w w.heap.size A (zs.map (Value.int .u8))) (hn : zs.length ≤ maxLen) (hb : ∀ z ∈ zs, 0 ≤ z ∧ z ≤ 255) :
    Calls Try.prog 3 #[.slice A zs.length cap] w (Yes w) := by
  by_cases hbig : 65536 < zs.length
  · have HG := Lib.hid (show Draw.bigB zs.length = true from decide_eq_true hbig)
    clear hr hb
    go_enter Try.func3, Try.ntmps3
    go_wp2_with fail
    refine (Draw.big_any A cap zs.length w hn).mono ?_
    rintro e w' ⟨rfl, rfl⟩
    rw [HG.out]
    go_wp2
    go_ret
    exact ⟨rfl, Below.refl _ _⟩
  have HG := Lib.hid (show Draw.bigB zs.length = false from decide_eq_false hbig)
  have HN := Lib.hid hn; clear hn
  have HC := Lib.hid (show Draw.Src w A zs from ⟨hr, by omega, hb⟩); clear hr hb
  go_enter Try.func3, Try.ntmps3
  go_wp2_with fail
  refine (Draw.big_any A cap zs.length w HN.out).mono ?_
  rintro e w' ⟨rfl, rfl⟩
  rw [HG.out]
  clear HG hbig HN
  go_wp2_with fail
  refine (drawLoss A cap zs w HC.out).mono ?_
  rintro e w1 ⟨L, g, c, x, y, a, d, ⟨hl, a0, a1⟩, rfl, O, HB0⟩
  go_wp2_with fail
  have B := Box.new HB0 [.int .i64 x, .int .i64 y] 26 (g := w1.heap.size) rfl
  replace O := own_keep O (al (Below.refl _ _) (o := (.cells #[.int .i64 x, .int .i64 y] 26)))
  generalize (w1.alloc (.cells #[.int .i64 x, .int .i64 y] 26)) = W1 at B O ⊢
  have B_0 := B.cells 0 _ rfl
  have B_1 := B.cells 1 _ rfl
  have B_f0 := B.free 0 (by simp)
  have B_f1 := B.free 1 (by simp)
  have B_t := B.there
  obtain ⟨n, ok, hv⟩ := loss_form L x y a d
  have HV := Lib.hid hv; clear hv
  obtain ⟨gq, hgq⟩ : ∃ gq, good L = gq := ⟨_, rfl⟩
  have HQ := Lib.hid hgq; clear hgq
  have hcp := own_cap O
  go_wp2_with fail
  refine (SunH.loss_impl _ c L x y a d _ (Rd.of_own O) hcp (by omega)).mono ?_
  rintro e v2 ⟨rfl, hv2⟩
  clear B_0 B_1 B_f0 B_f1 B_t
  replace B := B.more hv2
  replace O := own_keep O hv2
  have zhv2 := hv2.size
  clear hv2
  have B_0 := B.cells 0 _ rfl
  have B_1 := B.cells 1 _ rfl
  have B_f0 := B.free 0 (by simp)
  have B_f1 := B.free 1 (by simp)
  have B_t := B.there
  rw [HV.out]
  go_wp2_with fail
  refine (SunH.loss_spec _ c L x y a d _ (Rd.of_own O) (by omega)).mono ?_
  rintro e v3 ⟨rfl, hv3⟩
  clear B_0 B_1 B_f0 B_f1 B_t
  replace B := B.more hv3
  replace O := own_keep O hv3
  have zhv3 := hv3.size
  clear hv3
  have B_0 := B.cells 0 _ rfl
  have B_1 := B.cells 1 _ rfl
  have B_f0 := B.free 0 (by simp)
  have B_f1 := B.free 1 (by simp)
  have B_t := B.there
  rw [HV.out]
  go_wp2_with fail
  refine (SunG.are_impl _ c L _ (Rd.of_own O) (by omega)).mono ?_
  rintro e v4 ⟨rfl, hv4⟩
  clear B_0 B_1 B_f0 B_f1 B_t
  replace B := B.more hv4
  replace O := own_keep O hv4
  have zhv4 := hv4.size
  clear hv4
  have B_0 := B.cells 0 _ rfl
  have B_1 := B.cells 1 _ rfl
  have B_f0 := B.free 0 (by simp)
  have B_f1 := B.free 1 (by simp)
  have B_t := B.there
  rw [HQ.out]
  go_wp2_with fail
  refine (Laws6a.are_spec _ c L _ (Rd.of_own O) (by omega)).mono ?_
  rintro e v5 ⟨rfl, hv5⟩
  clear B_0 B_1 B_f0 B_f1 B_t
  replace B := B.more hv5
  replace O := own_keep O hv5
  have zhv5 := hv5.size
  clear hv5
  have B_0 := B.cells 0 _ rfl
  have B_1 := B.cells 1 _ rfl
  have B_f0 := B.free 0 (by simp)
  have B_f1 := B.free 1 (by simp)
  have B_t := B.there
  rw [HQ.out]
  go_upto_if 86 with fail
  go_cut [] from 3 (fun wc => Below w.heap.size w wc)
  case first => as_aux_lemma =>
    cases ok
    · go_wp2
      go_meet
      case rel => exact B.below
    · obtain ⟨n0, n1, x1, a2, a3, ha, hm⟩ := loss_told HV.out
      have HA := Lib.hid ha; clear ha
      have HM := Lib.hid hm; clear hm
      have y0 : IntKind.i64.wrap (x - n) = x - n := IntWalk.i64_in _ (by omega)
      go_wp2_with fail
      refine (SunH.after_impl _ c L x y a d d _ (Rd.of_own O) hcp (by omega)).mono ?_
      rintro e v6 ⟨rfl, hv6⟩
      clear B_0 B_1 B_f0 B_f1 B_t
      replace B := B.more hv6
      replace O := own_keep O hv6
      have zhv6 := hv6.size
      clear hv6
      have B_0 := B.cells 0 _ rfl
      have B_1 := B.cells 1 _ rfl
      have B_f0 := B.free 0 (by simp)
      have B_f1 := B.free 1 (by simp)
      have B_t := B.there
      rw [HA.out]
      by_cases hlt : a < 100000
      · have hlt' : decide (a < 100000) = true := decide_eq_true hlt
        obtain ⟨m, hm, hle⟩ := HM.out hlt
        have HMV := Lib.hid hm; clear hm HM
        have y1 : IntKind.i64.wrap (a + 1) = a + 1 := IntWalk.i64_in _ (by omega)
        have hmn : decide (m < n) = false := decide_eq_false (by omega)
        go_wp2_with fail
        have B_t7 := B.there
        have E := Box.new B.below [.int .i64 (x - n), .int .i64 y] 26 (g := v6.heap.size) rfl
        clear B_0 B_1 B_f0 B_f1 B_t
        replace B := (B).alloc (.cells #[.int .i64 (x - n), .int .i64 y] 26)
        replace O := own_keep O (al (Below.refl _ _) (o := (.cells #[.int .i64 (x - n), .int .i64 y] 26)))
        generalize (v6.alloc (.cells #[.int .i64 (x - n), .int .i64 y] 26)) = W7 at E B O ⊢
        have B_0 := B.cells 0 _ rfl
        have B_1 := B.cells 1 _ rfl
        have B_f0 := B.free 0 (by simp)
        have B_f1 := B.free 1 (by simp)
        have B_t := B.there
        have E_0 := E.cells 0 _ rfl
        have E_1 := E.cells 1 _ rfl
        have E_f0 := E.free 0 (by simp)
        have E_f1 := E.free 1 (by simp)
        have E_t := E.there
        go_wp2_with fail
        refine (SunH.loss_impl _ c L x y (a + 1) d _ (Rd.of_own O) hcp (by omega)).mono ?_
        rintro e v8 ⟨rfl, hv8⟩
        clear B_0 B_1 B_f0 B_f1 B_t
        clear E_0 E_1 E_f0 E_f1 E_t
        replace B := B.more hv8
        replace E := E.more hv8
        replace O := own_keep O hv8
        have zhv8 := hv8.size
        clear hv8
        have B_0 := B.cells 0 _ rfl
        have B_1 := B.cells 1 _ rfl
        have B_f0 := B.free 0 (by simp)
        have B_f1 := B.free 1 (by simp)
        have B_t := B.there
        have E_0 := E.cells 0 _ rfl
        have E_1 := E.cells 1 _ rfl
        have E_f0 := E.free 0 (by simp)
        have E_f1 := E.free 1 (by simp)
        have E_t := E.there
        rw [HMV.out]
        go_wp2
        go_meet
        case rel => exact B.below
      · have hlt' : decide (a < 100000) = false := decide_eq_false hlt
        go_wp2
        go_meet
        case rel => exact al B.below
  case rest => as_aux_lemma =>
    go_wp2_with fail
    refine (drawAfter A cap zs wc (HC.out.below hcut)).mono ?_
    rintro e w2 ⟨L, g, c, x, y, a, f, t, hl, rfl, O, hB⟩
    have HB0 := be hcut hB
    replace O := own_base O (base' := w.heap.size) hcut.size
    clear hB hcut
    go_wp2_with fail
    have B := Box.new HB0 [.int .i64 x, .int .i64 y] 26 (g := w2.heap.size) rfl
    replace O := own_keep O (al (Below.refl _ _) (o := (.cells #[.int .i64 x, .int .i64 y] 26)))
    generalize (w2.alloc (.cells #[.int .i64 x, .int .i64 y] 26)) = W1 at B O ⊢
    have B_0 := B.cells 0 _ rfl
    have B_1 := B.cells 1 _ rfl
    have B_f0 := B.free 0 (by simp)
    have B_f1 := B.free 1 (by simp)
    have B_t := B.there
    obtain ⟨u, v, z, hv⟩ := after_form L x y a f t
    have HV := Lib.hid hv; clear hv
    have hcp := own_cap O
    go_wp2_with fail
    refine (SunH.after_impl _ c L x y a f t _ (Rd.of_own O) hcp (by omega)).mono ?_
    rintro e v2 ⟨rfl, hv2⟩
    clear B_0 B_1 B_f0 B_f1 B_t
    replace B := B.more hv2
    replace O := own_keep O hv2
    have zhv2 := hv2.size
    clear hv2
    have B_0 := B.cells 0 _ rfl
    have B_1 := B.cells 1 _ rfl
    have B_f0 := B.free 0 (by simp)
    have B_f1 := B.free 1 (by simp)
    have B_t := B.there
    rw [HV.out]
    go_wp2_with fail
    have B_t3 := B.there
    have E := Box.new B.below [.int .i64 u, .int .i64 v] 26 (g := v2.heap.size) rfl
    clear B_0 B_1 B_f0 B_f1 B_t
    replace B := (B).alloc (.cells #[.int .i64 u, .int .i64 v] 26)
    replace O := own_keep O (al (Below.refl _ _) (o := (.cells #[.int .i64 u, .int .i64 v] 26)))
    generalize (v2.alloc (.cells #[.int .i64 u, .int .i64 v] 26)) = W3 at E B O ⊢
    have B_0 := B.cells 0 _ rfl
    have B_1 := B.cells 1 _ rfl
    have B_f0 := B.free 0 (by simp)
    have B_f1 := B.free 1 (by simp)
    have B_t := B.there
    have E_0 := E.cells 0 _ rfl
    have E_1 := E.cells 1 _ rfl
    have E_f0 := E.free 0 (by simp)
    have E_f1 := E.free 1 (by simp)
    have E_t := E.there
    go_wp2_with fail
    refine (SunH.after_spec _ c L x y a f t _ (Rd.of_own O) (by omega)).mono ?_
    rintro e v4 ⟨rfl, hv4⟩
    clear B_0 B_1 B_f0 B_f1 B_t
    clear E_0 E_1 E_f0 E_f1 E_t
    replace B := B.more hv4
    replace E := E.more hv4
    replace O := own_keep O hv4
    have zhv4 := hv4.size
    clear hv4
    have B_0 := B.cells 0 _ rfl
    have B_1 := B.cells 1 _ rfl
    have B_f0 := B.free 0 (by simp)
    have B_f1 := B.free 1 (by simp)
    have B_t := B.there
    have E_0 := E.cells 0 _ rfl
    have E_1 := E.cells 1 _ rfl
    have E_f0 := E.free 0 (by simp)
    have E_f1 := E.free 1 (by simp)
    have E_t := E.there
    rw [HV.out]
    go_wp2_with fail
    have B_t5 := B.there
    have E_t5 := E.there
    have G := Box.new B.below [.int .i64 u, .int .i64 v] 26 (g := v4.heap.size) rfl
    clear B_0 B_1 B_f0 B_f1 B_t
    replace B := (B).alloc (.cells #[.int .i64 u, .int .i64 v] 26)
    clear E_0 E_1 E_f0 E_f1 E_t
    replace E := (E).alloc (.cells #[.int .i64 u, .int .i64 v] 26)
    replace O := own_keep O (al (Below.refl _ _) (o := (.cells #[.int .i64 u, .int .i64 v] 26)))
    generalize (v4.alloc (.cells #[.int .i64 u, .int .i64 v] 26)) = W5 at G B E O ⊢
    have B_0 := B.cells 0 _ rfl
    have B_1 := B.cells 1 _ rfl
    have B_f0 := B.free 0 (by simp)
    have B_f1 := B.free 1 (by simp)
    have B_t := B.there
    have E_0 := E.cells 0 _ rfl
    have E_1 := E.cells 1 _ rfl
    have E_f0 := E.free 0 (by simp)
    have E_f1 := E.free 1 (by simp)
    have E_t := E.there
    have G_0 := G.cells 0 _ rfl
    have G_1 := G.cells 1 _ rfl
    have G_f0 := G.free 0 (by simp)
    have G_f1 := G.free 1 (by simp)
    have G_t := G.there
    have HB1 := B.below
    clear B_0 B_1 B_f0 B_f1 B_t
    clear E_0 E_1 E_f0 E_f1 E_t
    clear G_0 G_1 G_f0 G_f1 G_t
    refine (DSun3.drawArea A cap zs _ (HC.out.below HB1)).mono ?_
    rintro e w3 ⟨L, g, c, x, y, f, t, m, hl, rfl, O, hB⟩
    replace O := own_base O (base' := w.heap.size) HB1.size
    replace HB0 := be HB1 hB
    clear hB HB1
    go_wp2_with fail
    have B := Box.new HB0 [.int .i64 x, .int .i64 y] 26 (g := w3.heap.size) rfl
    replace O := own_keep O (al (Below.refl _ _) (o := (.cells #[.int .i64 x, .int .i64 y] 26)))
    generalize (w3.alloc (.cells #[.int .i64 x, .int .i64 y] 26)) = W1 at B O ⊢
    have B_0 := B.cells 0 _ rfl
    have B_1 := B.cells 1 _ rfl
    have B_f0 := B.free 0 (by simp)
    have B_f1 := B.free 1 (by simp)
    have B_t := B.there
    obtain ⟨k, hk⟩ := area_of L x y f t m
    have HK := Lib.hid hk; clear hk
    obtain ⟨n, ok, hv⟩ := area_form (areaOk L x y f t m) k
    have HV := Lib.hid hv; clear hv
    have hcp := own_cap O
    go_wp2_with fail
    refine (SunM.area_impl _ c L x y f t m k HK.out _ (Rd.of_own O) hcp (by omega)).mono ?_
    rintro e v2 ⟨rfl, hv2⟩
    clear B_0 B_1 B_f0 B_f1 B_t
    replace B := B.more hv2
    replace O := own_keep O hv2
    have zhv2 := hv2.size
    clear hv2
    have B_0 := B.cells 0 _ rfl
    have B_1 := B.cells 1 _ rfl
    have B_f0 := B.free 0 (by simp)
    have B_f1 := B.free 1 (by simp)
    have B_t := B.there
    rw [HV.out]
    go_wp2_with fail
    refine (SunM.area_spec _ c L x y f t m k HK.out _ (Rd.of_own O) (by omega)).mono ?_
    rintro e v3 ⟨rfl, hv3⟩
    clear B_0 B_1 B_f0 B_f1 B_t
    replace B := B.more hv3
    replace O := own_keep O hv3
    have zhv3 := hv3.size
    clear hv3
    have B_0 := B.cells 0 _ rfl
    have B_1 := B.cells 1 _ rfl
    have B_f0 := B.free 0 (by simp)
    have B_f1 := B.free 1 (by simp)
    have B_t := B.there
    rw [HV.out]
    go_upto_if 200 with fail
    go_cut [] from 3 (fun wc => Below w.heap.size w wc)
    case first => as_aux_lemma =>
      cases ok
      · go_wp2
        go_meet
        case rel => exact B.below
      · obtain ⟨n0, n1, ⟨u, hu, hle⟩, hm⟩ := area_told HK.out HV.out
        have HA := Lib.hid hu; clear hu
        have HM := Lib.hid hm; clear hm
        have hum : decide (m < u) = false := decide_eq_false (by omega)
        go_wp2_with fail
        refine (SunH.after_impl _ c L x y n f t _ (Rd.of_own O) hcp (by omega)).mono ?_
        rintro e v4 ⟨rfl, hv4⟩
        clear B_0 B_1 B_f0 B_f1 B_t
        replace B := B.more hv4
        replace O := own_keep O hv4
        have zhv4 := hv4.size
        clear hv4
        have B_0 := B.cells 0 _ rfl
        have B_1 := B.cells 1 _ rfl
        have B_f0 := B.free 0 (by simp)
        have B_f1 := B.free 1 (by simp)
        have B_t := B.there
        rw [HA.out]
        by_cases hlt : 1 < n
        · have hlt' : decide (1 < n) = true := decide_eq_true hlt
          obtain ⟨u2, hu2, hle2⟩ := HM.out hlt
          have HMV := Lib.hid hu2; clear hu2 HM
          have y1 : IntKind.i64.wrap (n - 1) = n - 1 := IntWalk.i64_in _ (by omega)
          have hmn : decide (u2 ≤ m) = false := decide_eq_false (by omega)
          go_wp2_with fail
          have B_t5 := B.there
          have E := Box.new B.below [.int .i64 u, .int .i64 y] 26 (g := v4.heap.size) rfl
          clear B_0 B_1 B_f0 B_f1 B_t
          replace B := (B).alloc (.cells #[.int .i64 u, .int .i64 y] 26)
          replace O := own_keep O (al (Below.refl _ _) (o := (.cells #[.int .i64 u, .int .i64 y] 26)))
          generalize (v4.alloc (.cells #[.int .i64 u, .int .i64 y] 26)) = W5 at E B O ⊢
          have B_0 := B.cells 0 _ rfl
          have B_1 := B.cells 1 _ rfl
          have B_f0 := B.free 0 (by simp)
          have B_f1 := B.free 1 (by simp)
          have B_t := B.there
          have E_0 := E.cells 0 _ rfl
          have E_1 := E.cells 1 _ rfl
          have E_f0 := E.free 0 (by simp)
          have E_f1 := E.free 1 (by simp)
          have E_t := E.there
          go_wp2_with fail
          refine (SunH.after_impl _ c L x y (n - 1) f t _ (Rd.of_own O) hcp (by omega)).mono ?_
          rintro e v6 ⟨rfl, hv6⟩
          clear B_0 B_1 B_f0 B_f1 B_t
          clear E_0 E_1 E_f0 E_f1 E_t
          replace B := B.more hv6
          replace E := E.more hv6
          replace O := own_keep O hv6
          have zhv6 := hv6.size
          clear hv6
          have B_0 := B.cells 0 _ rfl
          have B_1 := B.cells 1 _ rfl
          have B_f0 := B.free 0 (by simp)
          have B_f1 := B.free 1 (by simp)
          have B_t := B.there
          have E_0 := E.cells 0 _ rfl
          have E_1 := E.cells 1 _ rfl
          have E_f0 := E.free 0 (by simp)
          have E_f1 := E.free 1 (by simp)
          have E_t := E.there
          rw [HMV.out]
          go_wp2
          go_meet
          case rel => exact al B.below
        · have hlt' : decide (1 < n) = false := decide_eq_false hlt
          go_wp2
          go_meet
          case rel => exact al B.below
    case rest => as_aux_lemma =>
      go_wp2_with fail
      refine (drawStrong A cap zs wc (HC.out.below hcut)).mono ?_
      rintro e w4 ⟨L, g, c, x, y, a, n, d, hl, rfl, O, hB⟩
      have HB0 := be hcut hB
      replace O := own_base O (base' := w.heap.size) hcut.size
      clear hB hcut
      go_wp2_with fail
      have B := Box.new HB0 [.int .i64 x, .int .i64 y] 26 (g := w4.heap.size) rfl
      replace O := own_keep O (al (Below.refl _ _) (o := (.cells #[.int .i64 x, .int .i64 y] 26)))
      generalize (w4.alloc (.cells #[.int .i64 x, .int .i64 y] 26)) = W1 at B O ⊢
      have B_0 := B.cells 0 _ rfl
      have B_1 := B.cells 1 _ rfl
      have B_f0 := B.free 0 (by simp)
      have B_f1 := B.free 1 (by simp)
      have B_t := B.there
      obtain ⟨u, z, hv⟩ := str_form L x y a n d
      have HV := Lib.hid hv; clear hv
      have hcp := own_cap O
      go_wp2_with fail
      refine (SunJ.str_impl _ c L x y a n d _ (Rd.of_own O) hcp (by omega)).mono ?_
      rintro e v2 ⟨rfl, hv2⟩
      clear B_0 B_1 B_f0 B_f1 B_t
      replace B := B.more hv2
      replace O := own_keep O hv2
      have zhv2 := hv2.size
      clear hv2
      have B_0 := B.cells 0 _ rfl
      have B_1 := B.cells 1 _ rfl
      have B_f0 := B.free 0 (by simp)
      have B_f1 := B.free 1 (by simp)
      have B_t := B.there
      rw [HV.out]
      go_wp2_with fail
      refine (SunJ.str_spec _ c L x y a n d _ (Rd.of_own O) (by omega)).mono ?_
      rintro e v3 ⟨rfl, hv3⟩
      clear B_0 B_1 B_f0 B_f1 B_t
      replace B := B.more hv3
      replace O := own_keep O hv3
      have zhv3 := hv3.size
      clear hv3
      have B_0 := B.cells 0 _ rfl
      have B_1 := B.cells 1 _ rfl
      have B_f0 := B.free 0 (by simp)
      have B_f1 := B.free 1 (by simp)
      have B_t := B.there
      rw [HV.out]
      go_wp2
      go_ret
      exact ⟨by simp, B.below⟩
end Go.Proofs.Ytcmomccdnkligaa.SunsLaw
