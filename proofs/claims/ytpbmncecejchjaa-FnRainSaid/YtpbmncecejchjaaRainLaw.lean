/- FnRain, walked. -/
import Derived.Deep.Cut
import Derived.Deep.CutBlock
import Derived.Deep.DeepCutAuto
import Derived.Test.YtpbmncecejchjaaRainFacts
import Derived.Test.YtpbmncecejchjaaLaws9a
import Derived.Test.YtpbmncecejchjaaShwN
import Derived.Test.YtpbmncecejchjaaDShw3
namespace Go.Proofs.Ytpbmncecejchjaa.RainLaw
open Go.RowKit Go.Proofs.Ytpbmncecejchjaa.Mem Go.Proofs.Ytpbmncecejchjaa.Base Go.Proofs.Ytpbmncecejchjaa.SShower Go.Proofs.Ytpbmncecejchjaa.Regn Go.Proofs.Ytpbmncecejchjaa.Boxes Go.Proofs.Ytpbmncecejchjaa.Keep Go.Proofs.Ytpbmncecejchjaa.Shw Go.Proofs.Ytpbmncecejchjaa.RainFacts
set_option linter.unusedVariables false
set_option linter.unusedSimpArgs false
set_option maxRecDepth 100000
abbrev Yes := Laws9a.Yes
set_option maxHeartbeats 8000000 in
theorem law (A : Option Addr) (cap : Nat) (zs : List Int) (w : World) (hr : Rd w w.heap.size A (zs.map (Value.int .u8))) (hn : zs.length ≤ maxLen) (hb : ∀ z ∈ zs, 0 ≤ z ∧ z ≤ 255) :
    Calls Try.prog 3 #[.slice A zs.length cap] w (Yes w) := by
  by_cases hbig : 65536 < zs.length
  · have HG := Lib.hid (show Draw.bigB zs.length = true from decide_eq_true hbig)
    clear hr hb
    go_enter Try.func3, Try.ntmps3
    go_wp2_with fail
    refine (Draw.big_any A cap zs.length w hn).mono ?_
    rintro e w' ⟨rfl, rfl⟩
    rw [HG.out]
    go_wp2
    go_ret
    exact ⟨rfl, Below.refl _ _⟩
  have HG := Lib.hid (show Draw.bigB zs.length = false from decide_eq_false hbig)
  have HN := Lib.hid hn; clear hn
  have HC := Lib.hid (show Draw.Src w A zs from ⟨hr, by omega, hb⟩); clear hr hb
  go_enter Try.func3, Try.ntmps3
  go_wp2_with fail
  refine (Draw.big_any A cap zs.length w HN.out).mono ?_
  rintro e w' ⟨rfl, rfl⟩
  rw [HG.out]
  clear HG hbig HN
  go_wp2_with fail
  refine (DShw2.drawAfter A cap zs w HC.out).mono ?_
  rintro e w1 ⟨N, g, c, x, y, a, v, d, ⟨hl, v0, v1⟩, rfl, O, HB0⟩
  go_wp2_with fail
  have B := Box.new HB0 [.int .i64 x, .int .i64 y] 26 (g := w1.heap.size) rfl
  replace O := own_keep O (al (Below.refl _ _) (o := (.cells #[.int .i64 x, .int .i64 y] 26)))
  generalize (w1.alloc (.cells #[.int .i64 x, .int .i64 y] 26)) = W1 at B O ⊢
  have B_0 := B.cells 0 _ rfl
  have B_1 := B.cells 1 _ rfl
  have B_f0 := B.free 0 (by simp)
  have B_f1 := B.free 1 (by simp)
  have B_t := B.there
  obtain ⟨u1, u2, q, hv⟩ := ShwM.aft_form N x y a v d
  have HT := Lib.hid (fun h => wet_told hv h)
  have HV := Lib.hid hv; clear hv
  obtain ⟨gd, hgd⟩ : ∃ gd, good N = gd := ⟨_, rfl⟩
  have HGD := Lib.hid hgd; clear hgd
  have hcp := own_cap O
  go_wp2_with fail
  refine (ShwM.aft_impl _ c N x y a v d _ (Rd.of_own O) hcp (by omega)).mono ?_
  rintro e v2 ⟨rfl, hv2⟩
  clear B_0 B_1 B_f0 B_f1 B_t
  replace B := B.more hv2
  replace O := own_keep O hv2
  have zhv2 := hv2.size
  clear hv2
  have B_0 := B.cells 0 _ rfl
  have B_1 := B.cells 1 _ rfl
  have B_f0 := B.free 0 (by simp)
  have B_f1 := B.free 1 (by simp)
  have B_t := B.there
  rw [HV.out]
  go_wp2_with fail
  have B_t3 := B.there
  have E := Box.new B.below [.int .i64 u1, .int .i64 u2] 26 (g := v2.heap.size) rfl
  clear B_0 B_1 B_f0 B_f1 B_t
  replace B := (B).alloc (.cells #[.int .i64 u1, .int .i64 u2] 26)
  replace O := own_keep O (al (Below.refl _ _) (o := (.cells #[.int .i64 u1, .int .i64 u2] 26)))
  generalize (v2.alloc (.cells #[.int .i64 u1, .int .i64 u2] 26)) = W3 at E B O ⊢
  have B_0 := B.cells 0 _ rfl
  have B_1 := B.cells 1 _ rfl
  have B_f0 := B.free 0 (by simp)
  have B_f1 := B.free 1 (by simp)
  have B_t := B.there
  have E_0 := E.cells 0 _ rfl
  have E_1 := E.cells 1 _ rfl
  have E_f0 := E.free 0 (by simp)
  have E_f1 := E.free 1 (by simp)
  have E_t := E.there
  go_wp2_with fail
  refine (ShwM.aft_spec _ c N x y a v d _ (Rd.of_own O) (by omega)).mono ?_
  rintro e v4 ⟨rfl, hv4⟩
  clear B_0 B_1 B_f0 B_f1 B_t
  clear E_0 E_1 E_f0 E_f1 E_t
  replace B := B.more hv4
  replace E := E.more hv4
  replace O := own_keep O hv4
  have zhv4 := hv4.size
  clear hv4
  have B_0 := B.cells 0 _ rfl
  have B_1 := B.cells 1 _ rfl
  have B_f0 := B.free 0 (by simp)
  have B_f1 := B.free 1 (by simp)
  have B_t := B.there
  have E_0 := E.cells 0 _ rfl
  have E_1 := E.cells 1 _ rfl
  have E_f0 := E.free 0 (by simp)
  have E_f1 := E.free 1 (by simp)
  have E_t := E.there
  rw [HV.out]
  go_wp2_with fail
  have B_t5 := B.there
  have E_t5 := E.there
  have F := Box.new B.below [.int .i64 u1, .int .i64 u2] 26 (g := v4.heap.size) rfl
  clear B_0 B_1 B_f0 B_f1 B_t
  replace B := (B).alloc (.cells #[.int .i64 u1, .int .i64 u2] 26)
  clear E_0 E_1 E_f0 E_f1 E_t
  replace E := (E).alloc (.cells #[.int .i64 u1, .int .i64 u2] 26)
  replace O := own_keep O (al (Below.refl _ _) (o := (.cells #[.int .i64 u1, .int .i64 u2] 26)))
  generalize (v4.alloc (.cells #[.int .i64 u1, .int .i64 u2] 26)) = W5 at F B E O ⊢
  have B_0 := B.cells 0 _ rfl
  have B_1 := B.cells 1 _ rfl
  have B_f0 := B.free 0 (by simp)
  have B_f1 := B.free 1 (by simp)
  have B_t := B.there
  have E_0 := E.cells 0 _ rfl
  have E_1 := E.cells 1 _ rfl
  have E_f0 := E.free 0 (by simp)
  have E_f1 := E.free 1 (by simp)
  have E_t := E.there
  have F_0 := F.cells 0 _ rfl
  have F_1 := F.cells 1 _ rfl
  have F_f0 := F.free 0 (by simp)
  have F_f1 := F.free 1 (by simp)
  have F_t := F.there
  go_wp2_with fail
  refine (ShwG.are_impl _ c N _ (Rd.of_own O) (by omega)).mono ?_
  rintro e v6 ⟨rfl, hv6⟩
  clear B_0 B_1 B_f0 B_f1 B_t
  clear E_0 E_1 E_f0 E_f1 E_t
  clear F_0 F_1 F_f0 F_f1 F_t
  replace B := B.more hv6
  replace E := E.more hv6
  replace F := F.more hv6
  replace O := own_keep O hv6
  have zhv6 := hv6.size
  clear hv6
  have B_0 := B.cells 0 _ rfl
  have B_1 := B.cells 1 _ rfl
  have B_f0 := B.free 0 (by simp)
  have B_f1 := B.free 1 (by simp)
  have B_t := B.there
  have E_0 := E.cells 0 _ rfl
  have E_1 := E.cells 1 _ rfl
  have E_f0 := E.free 0 (by simp)
  have E_f1 := E.free 1 (by simp)
  have E_t := E.there
  have F_0 := F.cells 0 _ rfl
  have F_1 := F.cells 1 _ rfl
  have F_f0 := F.free 0 (by simp)
  have F_f1 := F.free 1 (by simp)
  have F_t := F.there
  rw [HGD.out]
  go_wp2_with fail
  refine (Laws9a.are_spec _ c N _ (Rd.of_own O) (by omega)).mono ?_
  rintro e v7 ⟨rfl, hv7⟩
  clear B_0 B_1 B_f0 B_f1 B_t
  clear E_0 E_1 E_f0 E_f1 E_t
  clear F_0 F_1 F_f0 F_f1 F_t
  replace B := B.more hv7
  replace E := E.more hv7
  replace F := F.more hv7
  replace O := own_keep O hv7
  have zhv7 := hv7.size
  clear hv7
  have B_0 := B.cells 0 _ rfl
  have B_1 := B.cells 1 _ rfl
  have B_f0 := B.free 0 (by simp)
  have B_f1 := B.free 1 (by simp)
  have B_t := B.there
  have E_0 := E.cells 0 _ rfl
  have E_1 := E.cells 1 _ rfl
  have E_f0 := E.free 0 (by simp)
  have E_f1 := E.free 1 (by simp)
  have E_t := E.there
  have F_0 := F.cells 0 _ rfl
  have F_1 := F.cells 1 _ rfl
  have F_f0 := F.free 0 (by simp)
  have F_f1 := F.free 1 (by simp)
  have F_t := F.there
  rw [HGD.out]
  clear HGD
  go_upto_if 88 with fail
  go_cut [] from 3 (fun wc => Below w.heap.size w wc)
  case first => as_aux_lemma =>
    cases q
    · go_wp2
      go_meet
      case rel => exact B.below
    obtain ⟨k, hk, rfl, hx0, hx1, k0, k1, e1, e2, e3, e4, e5, e6, e7⟩ := HT.out rfl
    have HK := Lib.hid hk; clear hk HT HV
    have y1 : IntKind.i64.wrap (x + k) = x + k := IntWalk.i64_in _ (by omega)
    have c1 : decide (u1 < x) = false := decide_eq_false (by omega)
    have c2 : decide (x + k < u1) = false := decide_eq_false (by omega)
    have y2 : IntKind.i64.wrap (v + 1) = v + 1 := IntWalk.i64_in _ (by omega)
    go_wp2_with fail
    refine (ShwL.rain_impl _ c N a d _ (Rd.of_own O) hcp (by omega)).mono ?_
    rintro e v8 ⟨rfl, hv8⟩
    clear B_0 B_1 B_f0 B_f1 B_t
    clear E_0 E_1 E_f0 E_f1 E_t
    clear F_0 F_1 F_f0 F_f1 F_t
    replace B := B.more hv8
    replace E := E.more hv8
    replace F := F.more hv8
    replace O := own_keep O hv8
    have zhv8 := hv8.size
    clear hv8
    have B_0 := B.cells 0 _ rfl
    have B_1 := B.cells 1 _ rfl
    have B_f0 := B.free 0 (by simp)
    have B_f1 := B.free 1 (by simp)
    have B_t := B.there
    have E_0 := E.cells 0 _ rfl
    have E_1 := E.cells 1 _ rfl
    have E_f0 := E.free 0 (by simp)
    have E_f1 := E.free 1 (by simp)
    have E_t := E.there
    have F_0 := F.cells 0 _ rfl
    have F_1 := F.cells 1 _ rfl
    have F_f0 := F.free 0 (by simp)
    have F_f1 := F.free 1 (by simp)
    have F_t := F.there
    rw [HK.out]
    by_cases h100 : v = 100
    · have hu := e6 h100
      subst h100
      subst hu
      clear e1 e2 e3 e4 e5 e6 e7
      go_wp2
      go_meet
      case rel => exact B.below
    obtain ⟨z, hz, hzu⟩ := e7 (by omega)
    have HZ := Lib.hid hz; clear hz
    have c3 : decide (v < 100) = true := decide_eq_true (by omega)
    have c4 : decide (u1 < z) = false := decide_eq_false (by omega)
    have c5 : (v == 100) = false := by rw [beq_eq_false_iff_ne]; exact h100
    have HE5 := Lib.hid e5
    clear e1 e2 e3 e4 e5 e6 e7 h100 hzu
    go_upto_region 10 with fail
    go_cut [144] from 96 (fun cnd wc => cnd = .bool false ∧ v8 = wc)
    case first => as_aux_lemma =>
      by_cases h0 : v = 0
      · have hu := HE5.out h0
        subst h0
        subst hu
        go_wp2
        go_meet
        exact ⟨rfl, rfl⟩
      · have c6 : (v == 0) = false := by rw [beq_eq_false_iff_ne]; exact h0
        clear h0
        go_wp2
        go_meet
        exact ⟨rfl, rfl⟩
    case rest => as_aux_lemma =>
      obtain ⟨hz0, rfl⟩ := hcut
      subst hz0
      go_wp2_with fail
      refine (ShwM.aft_impl _ c N x u2 a (v + 1) d _ (Rd.of_own O) hcp (by omega)).mono ?_
      rintro e v9 ⟨rfl, hv9⟩
      clear B_0 B_1 B_f0 B_f1 B_t
      clear E_0 E_1 E_f0 E_f1 E_t
      clear F_0 F_1 F_f0 F_f1 F_t
      replace B := B.more hv9
      replace E := E.more hv9
      replace F := F.more hv9
      replace O := own_keep O hv9
      have zhv9 := hv9.size
      clear hv9
      have B_0 := B.cells 0 _ rfl
      have B_1 := B.cells 1 _ rfl
      have B_f0 := B.free 0 (by simp)
      have B_f1 := B.free 1 (by simp)
      have B_t := B.there
      have E_0 := E.cells 0 _ rfl
      have E_1 := E.cells 1 _ rfl
      have E_f0 := E.free 0 (by simp)
      have E_f1 := E.free 1 (by simp)
      have E_t := E.there
      have F_0 := F.cells 0 _ rfl
      have F_1 := F.cells 1 _ rfl
      have F_f0 := F.free 0 (by simp)
      have F_f1 := F.free 1 (by simp)
      have F_t := F.there
      rw [HZ.out]
      go_wp2_with fail
      have B_t10 := B.there
      have E_t10 := E.there
      have F_t10 := F.there
      have G := Box.new B.below [.int .i64 z, .int .i64 u2] 26 (g := v9.heap.size) rfl
      clear B_0 B_1 B_f0 B_f1 B_t
      replace B := (B).alloc (.cells #[.int .i64 z, .int .i64 u2] 26)
      clear E_0 E_1 E_f0 E_f1 E_t
      replace E := (E).alloc (.cells #[.int .i64 z, .int .i64 u2] 26)
      clear F_0 F_1 F_f0 F_f1 F_t
      replace F := (F).alloc (.cells #[.int .i64 z, .int .i64 u2] 26)
      replace O := own_keep O (al (Below.refl _ _) (o := (.cells #[.int .i64 z, .int .i64 u2] 26)))
      generalize (v9.alloc (.cells #[.int .i64 z, .int .i64 u2] 26)) = W10 at G B E F O ⊢
      have B_0 := B.cells 0 _ rfl
      have B_1 := B.cells 1 _ rfl
      have B_f0 := B.free 0 (by simp)
      have B_f1 := B.free 1 (by simp)
      have B_t := B.there
      have E_0 := E.cells 0 _ rfl
      have E_1 := E.cells 1 _ rfl
      have E_f0 := E.free 0 (by simp)
      have E_f1 := E.free 1 (by simp)
      have E_t := E.there
      have F_0 := F.cells 0 _ rfl
      have F_1 := F.cells 1 _ rfl
      have F_f0 := F.free 0 (by simp)
      have F_f1 := F.free 1 (by simp)
      have F_t := F.there
      have G_0 := G.cells 0 _ rfl
      have G_1 := G.cells 1 _ rfl
      have G_f0 := G.free 0 (by simp)
      have G_f1 := G.free 1 (by simp)
      have G_t := G.there
      go_wp2
      go_meet
      case rel => exact B.below
  case rest => as_aux_lemma =>
    go_wp2_with fail
    refine (DShw3.drawNeed A cap zs wc (HC.out.below hcut)).mono ?_
    rintro e w2 ⟨N, g, c, x, y, a, d, t, hl, rfl, O, hB⟩
    have HB0 := be hcut hB
    replace O := own_base O (base' := w.heap.size) hcut.size
    clear hB hcut
    go_wp2_with fail
    have B := Box.new HB0 [.int .i64 x, .int .i64 y] 26 (g := w2.heap.size) rfl
    replace O := own_keep O (al (Below.refl _ _) (o := (.cells #[.int .i64 x, .int .i64 y] 26)))
    generalize (w2.alloc (.cells #[.int .i64 x, .int .i64 y] 26)) = W1 at B O ⊢
    have B_0 := B.cells 0 _ rfl
    have B_1 := B.cells 1 _ rfl
    have B_f0 := B.free 0 (by simp)
    have B_f1 := B.free 1 (by simp)
    have B_t := B.there
    obtain ⟨n, q, hv⟩ := ShwC.need_form (ShwC.ndOk N x y a d t) (ShwC.first x (kilo N a d) t)
    have HT := Lib.hid (fun h => need_told hv h)
    have HV := Lib.hid hv; clear hv
    have hcp := own_cap O
    go_wp2_with fail
    refine (ShwC.need_impl _ c N x y a d t _ (Rd.of_own O) hcp (by omega)).mono ?_
    rintro e v2 ⟨rfl, hv2⟩
    clear B_0 B_1 B_f0 B_f1 B_t
    replace B := B.more hv2
    replace O := own_keep O hv2
    have zhv2 := hv2.size
    clear hv2
    have B_0 := B.cells 0 _ rfl
    have B_1 := B.cells 1 _ rfl
    have B_f0 := B.free 0 (by simp)
    have B_f1 := B.free 1 (by simp)
    have B_t := B.there
    rw [HV.out]
    go_wp2_with fail
    refine (ShwC.need_spec _ c N x y a d t _ (Rd.of_own O) (by omega)).mono ?_
    rintro e v3 ⟨rfl, hv3⟩
    clear B_0 B_1 B_f0 B_f1 B_t
    replace B := B.more hv3
    replace O := own_keep O hv3
    have zhv3 := hv3.size
    clear hv3
    have B_0 := B.cells 0 _ rfl
    have B_1 := B.cells 1 _ rfl
    have B_f0 := B.free 0 (by simp)
    have B_f1 := B.free 1 (by simp)
    have B_t := B.there
    rw [HV.out]
    go_upto_if 200 with fail
    go_cut [] from 3 (fun wc => Below w.heap.size w wc)
    case first => as_aux_lemma =>
      cases q
      · go_wp2
        go_meet
        case rel => exact B.below
      obtain ⟨n0, n1, ⟨z, hz, hzt⟩, hmore⟩ := HT.out rfl
      have HZ := Lib.hid hz; clear hz HT HV
      have HM := Lib.hid hmore; clear hmore
      have c1 : decide (t < z) = false := decide_eq_false (by omega)
      go_wp2_with fail
      refine (ShwM.aft_impl _ c N x y a n d _ (Rd.of_own O) hcp (by omega)).mono ?_
      rintro e v4 ⟨rfl, hv4⟩
      clear B_0 B_1 B_f0 B_f1 B_t
      replace B := B.more hv4
      replace O := own_keep O hv4
      have zhv4 := hv4.size
      clear hv4
      have B_0 := B.cells 0 _ rfl
      have B_1 := B.cells 1 _ rfl
      have B_f0 := B.free 0 (by simp)
      have B_f1 := B.free 1 (by simp)
      have B_t := B.there
      rw [HZ.out]
      go_upto_region 23 with fail
      have B_t5 := B.there
      have E := Box.new B.below [.int .i64 z, .int .i64 y] 26 (g := v4.heap.size) rfl
      clear B_0 B_1 B_f0 B_f1 B_t
      replace B := (B).alloc (.cells #[.int .i64 z, .int .i64 y] 26)
      replace O := own_keep O (al (Below.refl _ _) (o := (.cells #[.int .i64 z, .int .i64 y] 26)))
      generalize (v4.alloc (.cells #[.int .i64 z, .int .i64 y] 26)) = W5 at E B O ⊢
      have B_0 := B.cells 0 _ rfl
      have B_1 := B.cells 1 _ rfl
      have B_f0 := B.free 0 (by simp)
      have B_f1 := B.free 1 (by simp)
      have B_t := B.there
      have E_0 := E.cells 0 _ rfl
      have E_1 := E.cells 1 _ rfl
      have E_f0 := E.free 0 (by simp)
      have E_f1 := E.free 1 (by simp)
      have E_t := E.there
      by_cases h0 : 0 < n
      · obtain ⟨z2, y2, b, hz2, hb2⟩ := HM.out h0
        have HZ2 := Lib.hid hz2; clear hz2
        have HB2 := Lib.hid hb2; clear hb2
        have c2 : decide (0 < n) = true := decide_eq_true h0
        have y3 : IntKind.i64.wrap (n - 1) = n - 1 := IntWalk.i64_in _ (by omega)
        go_wp2_with fail
        refine (ShwM.aft_impl _ c N x y a (n - 1) d _ (Rd.of_own O) hcp (by omega)).mono ?_
        rintro e v6 ⟨rfl, hv6⟩
        clear B_0 B_1 B_f0 B_f1 B_t
        clear E_0 E_1 E_f0 E_f1 E_t
        replace B := B.more hv6
        replace E := E.more hv6
        replace O := own_keep O hv6
        have zhv6 := hv6.size
        clear hv6
        have B_0 := B.cells 0 _ rfl
        have B_1 := B.cells 1 _ rfl
        have B_f0 := B.free 0 (by simp)
        have B_f1 := B.free 1 (by simp)
        have B_t := B.there
        have E_0 := E.cells 0 _ rfl
        have E_1 := E.cells 1 _ rfl
        have E_f0 := E.free 0 (by simp)
        have E_f1 := E.free 1 (by simp)
        have E_t := E.there
        rw [HZ2.out]
        go_upto_region 27 with fail
        have B_t7 := B.there
        have E_t7 := E.there
        have F := Box.new B.below [.int .i64 z2, .int .i64 y2] 26 (g := v6.heap.size) rfl
        clear B_0 B_1 B_f0 B_f1 B_t
        replace B := (B).alloc (.cells #[.int .i64 z2, .int .i64 y2] 26)
        clear E_0 E_1 E_f0 E_f1 E_t
        replace E := (E).alloc (.cells #[.int .i64 z2, .int .i64 y2] 26)
        replace O := own_keep O (al (Below.refl _ _) (o := (.cells #[.int .i64 z2, .int .i64 y2] 26)))
        generalize (v6.alloc (.cells #[.int .i64 z2, .int .i64 y2] 26)) = W7 at F B E O ⊢
        have B_0 := B.cells 0 _ rfl
        have B_1 := B.cells 1 _ rfl
        have B_f0 := B.free 0 (by simp)
        have B_f1 := B.free 1 (by simp)
        have B_t := B.there
        have E_0 := E.cells 0 _ rfl
        have E_1 := E.cells 1 _ rfl
        have E_f0 := E.free 0 (by simp)
        have E_f1 := E.free 1 (by simp)
        have E_t := E.there
        have F_0 := F.cells 0 _ rfl
        have F_1 := F.cells 1 _ rfl
        have F_f0 := F.free 0 (by simp)
        have F_f1 := F.free 1 (by simp)
        have F_t := F.there
        cases b
        · go_wp2
          go_meet
          case rel => exact B.below
        · have c3 : decide (z2 ≤ t) = false := decide_eq_false (by have := HB2.out rfl; omega)
          go_wp2
          go_meet
          case rel => exact B.below
      · have c2 : decide (0 < n) = false := decide_eq_false h0
        go_wp2
        go_meet
        case rel => exact B.below
    case rest => as_aux_lemma =>
      go_wp2_with fail
      refine (DShw2.drawNet A cap zs wc (HC.out.below hcut)).mono ?_
      rintro e w2 ⟨N, g, c, M, g2, c2, x, y, a, d, ⟨hl, hl2⟩, rfl, O, O2, hB⟩
      have HB0 := be hcut hB
      replace O := own_base O (base' := w.heap.size) hcut.size
      replace O2 := own_base O2 (base' := w.heap.size) hcut.size
      clear hB hcut
      go_wp2_with fail
      have B := Box.new HB0 [.int .i64 x, .int .i64 y] 26 (g := w2.heap.size) rfl
      replace O := own_keep O (al (Below.refl _ _) (o := (.cells #[.int .i64 x, .int .i64 y] 26)))
      replace O2 := own_keep O2 (al (Below.refl _ _) (o := (.cells #[.int .i64 x, .int .i64 y] 26)))
      generalize (w2.alloc (.cells #[.int .i64 x, .int .i64 y] 26)) = W1 at B O O2 ⊢
      have B_0 := B.cells 0 _ rfl
      have B_1 := B.cells 1 _ rfl
      have B_f0 := B.free 0 (by simp)
      have B_f1 := B.free 1 (by simp)
      have B_t := B.there
      obtain ⟨u1, u2, q, hv⟩ := ShwN.net_form N M x y a d
      have HV := Lib.hid hv; clear hv
      have hcp := own_cap O
      have hcp2 := own_cap O2
      go_wp2_with fail
      refine (ShwN.net_impl _ c N _ c2 M x y a d _ (Rd.of_own O) (Rd.of_own O2) hcp hcp2 (by omega) (by omega)).mono ?_
      rintro e v2 ⟨rfl, hv2⟩
      clear B_0 B_1 B_f0 B_f1 B_t
      replace B := B.more hv2
      replace O := own_keep O hv2
      replace O2 := own_keep O2 hv2
      have zhv2 := hv2.size
      clear hv2
      have B_0 := B.cells 0 _ rfl
      have B_1 := B.cells 1 _ rfl
      have B_f0 := B.free 0 (by simp)
      have B_f1 := B.free 1 (by simp)
      have B_t := B.there
      rw [HV.out]
      go_wp2_with fail
      have B_t3 := B.there
      have E := Box.new B.below [.int .i64 u1, .int .i64 u2] 26 (g := v2.heap.size) rfl
      clear B_0 B_1 B_f0 B_f1 B_t
      replace B := (B).alloc (.cells #[.int .i64 u1, .int .i64 u2] 26)
      replace O := own_keep O (al (Below.refl _ _) (o := (.cells #[.int .i64 u1, .int .i64 u2] 26)))
      replace O2 := own_keep O2 (al (Below.refl _ _) (o := (.cells #[.int .i64 u1, .int .i64 u2] 26)))
      generalize (v2.alloc (.cells #[.int .i64 u1, .int .i64 u2] 26)) = W3 at E B O O2 ⊢
      have B_0 := B.cells 0 _ rfl
      have B_1 := B.cells 1 _ rfl
      have B_f0 := B.free 0 (by simp)
      have B_f1 := B.free 1 (by simp)
      have B_t := B.there
      have E_0 := E.cells 0 _ rfl
      have E_1 := E.cells 1 _ rfl
      have E_f0 := E.free 0 (by simp)
      have E_f1 := E.free 1 (by simp)
      have E_t := E.there
      go_wp2_with fail
      refine (ShwN.net_spec _ c N _ c2 M x y a d _ (Rd.of_own O) (Rd.of_own O2) (by omega) (by omega)).mono ?_
      rintro e v4 ⟨rfl, hv4⟩
      clear B_0 B_1 B_f0 B_f1 B_t
      clear E_0 E_1 E_f0 E_f1 E_t
      replace B := B.more hv4
      replace E := E.more hv4
      replace O := own_keep O hv4
      replace O2 := own_keep O2 hv4
      have zhv4 := hv4.size
      clear hv4
      have B_0 := B.cells 0 _ rfl
      have B_1 := B.cells 1 _ rfl
      have B_f0 := B.free 0 (by simp)
      have B_f1 := B.free 1 (by simp)
      have B_t := B.there
      have E_0 := E.cells 0 _ rfl
      have E_1 := E.cells 1 _ rfl
      have E_f0 := E.free 0 (by simp)
      have E_f1 := E.free 1 (by simp)
      have E_t := E.there
      rw [HV.out]
      go_wp2_with fail
      have B_t5 := B.there
      have E_t5 := E.there
      have F := Box.new B.below [.int .i64 u1, .int .i64 u2] 26 (g := v4.heap.size) rfl
      clear B_0 B_1 B_f0 B_f1 B_t
      replace B := (B).alloc (.cells #[.int .i64 u1, .int .i64 u2] 26)
      clear E_0 E_1 E_f0 E_f1 E_t
      replace E := (E).alloc (.cells #[.int .i64 u1, .int .i64 u2] 26)
      replace O := own_keep O (al (Below.refl _ _) (o := (.cells #[.int .i64 u1, .int .i64 u2] 26)))
      replace O2 := own_keep O2 (al (Below.refl _ _) (o := (.cells #[.int .i64 u1, .int .i64 u2] 26)))
      generalize (v4.alloc (.cells #[.int .i64 u1, .int .i64 u2] 26)) = W5 at F B E O O2 ⊢
      have B_0 := B.cells 0 _ rfl
      have B_1 := B.cells 1 _ rfl
      have B_f0 := B.free 0 (by simp)
      have B_f1 := B.free 1 (by simp)
      have B_t := B.there
      have E_0 := E.cells 0 _ rfl
      have E_1 := E.cells 1 _ rfl
      have E_f0 := E.free 0 (by simp)
      have E_f1 := E.free 1 (by simp)
      have E_t := E.there
      have F_0 := F.cells 0 _ rfl
      have F_1 := F.cells 1 _ rfl
      have F_f0 := F.free 0 (by simp)
      have F_f1 := F.free 1 (by simp)
      have F_t := F.there
      have hb1 := B.below.size
      go_wp2_with fail
      refine (DShw2.drawRain A cap zs _ (HC.out.below B.below)).mono ?_
      rintro e v6 ⟨N3, g3, c3, a3, d3, hl3, rfl, O3, hv6⟩
      clear B_0 B_1 B_f0 B_f1 B_t
      clear E_0 E_1 E_f0 E_f1 E_t
      clear F_0 F_1 F_f0 F_f1 F_t
      replace B := B.more hv6
      replace E := E.more hv6
      replace F := F.more hv6
      replace O := own_keep O hv6
      replace O2 := own_keep O2 hv6
      have zhv6 := hv6.size
      clear hv6
      have B_0 := B.cells 0 _ rfl
      have B_1 := B.cells 1 _ rfl
      have B_f0 := B.free 0 (by simp)
      have B_f1 := B.free 1 (by simp)
      have B_t := B.there
      have E_0 := E.cells 0 _ rfl
      have E_1 := E.cells 1 _ rfl
      have E_f0 := E.free 0 (by simp)
      have E_f1 := E.free 1 (by simp)
      have E_t := E.there
      have F_0 := F.cells 0 _ rfl
      have F_1 := F.cells 1 _ rfl
      have F_f0 := F.free 0 (by simp)
      have F_f1 := F.free 1 (by simp)
      have F_t := F.there
      clear O
      clear O2
      replace O3 := own_base O3 (base' := w.heap.size) hb1
      obtain ⟨k3, q3, hv⟩ := rain_form N3 a3 d3
      have HV3 := Lib.hid hv; clear hv
      go_wp2_with fail
      refine (ShwL.rain_impl _ c3 N3 a3 d3 _ (Rd.of_own O3) (own_cap O3) (by omega)).mono ?_
      rintro e v7 ⟨rfl, hv7⟩
      clear B_0 B_1 B_f0 B_f1 B_t
      clear E_0 E_1 E_f0 E_f1 E_t
      clear F_0 F_1 F_f0 F_f1 F_t
      replace B := B.more hv7
      replace E := E.more hv7
      replace F := F.more hv7
      replace O3 := own_keep O3 hv7
      have zhv7 := hv7.size
      clear hv7
      have B_0 := B.cells 0 _ rfl
      have B_1 := B.cells 1 _ rfl
      have B_f0 := B.free 0 (by simp)
      have B_f1 := B.free 1 (by simp)
      have B_t := B.there
      have E_0 := E.cells 0 _ rfl
      have E_1 := E.cells 1 _ rfl
      have E_f0 := E.free 0 (by simp)
      have E_f1 := E.free 1 (by simp)
      have E_t := E.there
      have F_0 := F.cells 0 _ rfl
      have F_1 := F.cells 1 _ rfl
      have F_f0 := F.free 0 (by simp)
      have F_f1 := F.free 1 (by simp)
      have F_t := F.there
      rw [HV3.out]
      go_wp2_with fail
      refine (ShwL.rain_spec _ c3 N3 a3 d3 _ (Rd.of_own O3) (by omega)).mono ?_
      rintro e v8 ⟨rfl, hv8⟩
      clear B_0 B_1 B_f0 B_f1 B_t
      clear E_0 E_1 E_f0 E_f1 E_t
      clear F_0 F_1 F_f0 F_f1 F_t
      replace B := B.more hv8
      replace E := E.more hv8
      replace F := F.more hv8
      replace O3 := own_keep O3 hv8
      have zhv8 := hv8.size
      clear hv8
      have B_0 := B.cells 0 _ rfl
      have B_1 := B.cells 1 _ rfl
      have B_f0 := B.free 0 (by simp)
      have B_f1 := B.free 1 (by simp)
      have B_t := B.there
      have E_0 := E.cells 0 _ rfl
      have E_1 := E.cells 1 _ rfl
      have E_f0 := E.free 0 (by simp)
      have E_f1 := E.free 1 (by simp)
      have E_t := E.there
      have F_0 := F.cells 0 _ rfl
      have F_1 := F.cells 1 _ rfl
      have F_f0 := F.free 0 (by simp)
      have F_f1 := F.free 1 (by simp)
      have F_t := F.there
      rw [HV3.out]
      go_wp2
      go_ret
      exact ⟨by simp, B.below⟩
end Go.Proofs.Ytpbmncecejchjaa.RainLaw
