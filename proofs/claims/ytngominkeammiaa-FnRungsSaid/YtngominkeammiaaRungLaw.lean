/- FnRungs, walked. Made by tools/mk_ladlaw.py. -/
import Derived.Deep.Cut
import Derived.Deep.CutBlock
import Derived.Deep.CutRange
import Derived.Deep.DeepCutAuto
import Derived.Test.YtngominkeammiaaLadFacts
import Derived.Test.YtngominkeammiaaLadU
import Derived.Test.YtngominkeammiaaLadZa
import Derived.Test.YtngominkeammiaaLadZb
import Derived.Test.YtngominkeammiaaDLad2
namespace Go.Proofs.Ytngominkeammiaa.RungLaw
open Go.RowKit Go.Proofs.Ytngominkeammiaa.Mem Go.Proofs.Ytngominkeammiaa.Base Go.Proofs.Ytngominkeammiaa.Within Go.Proofs.Ytngominkeammiaa.Brine Go.Proofs.Ytngominkeammiaa.Regn Go.Proofs.Ytngominkeammiaa.Boxes Go.Proofs.Ytngominkeammiaa.Keep Go.Proofs.Ytngominkeammiaa.LadP Go.Proofs.Ytngominkeammiaa.LadFacts Go.Proofs.Ytngominkeammiaa.DLad2
open Go.Proofs.Ytngominkeammiaa.SRung hiding RPost rpost
set_option linter.unusedVariables false
set_option linter.unusedSimpArgs false
set_option maxRecDepth 100000
abbrev Yes (w : World) (e : Ending) (w' : World) : Prop := e = .returned (.bool true) ∧ Below w.heap.size w w'
theorem bne_b (q : Bool) : (q != q) = false := by cases q <;> rfl
theorem beq_b (q : Bool) : (q == q) = true := by cases q <;> rfl
set_option maxHeartbeats 8000000 in
theorem law (A : Option Addr) (cap : Nat) (zs : List Int) (w : World) (hr : Rd w w.heap.size A (zs.map (Value.int .u8))) (hn : zs.length ≤ maxLen) (hb : ∀ z ∈ zs, 0 ≤ z ∧ z ≤ 255) :
    Calls Try.prog 4 #[.slice A zs.length cap] w (Yes w) := by
  by_cases hbig : 65536 < zs.length
  · have HG := Lib.hid (show Draw.bigB zs.length = true from decide_eq_true hbig)
    clear hr hb
    go_enter Try.func4, Try.ntmps4
    go_wp2_with fail
    refine (Draw.big_any A cap zs.length w hn).mono ?_
    rintro e w' ⟨rfl, rfl⟩
    rw [HG.out]
    go_wp2
    go_ret
    exact ⟨rfl, Below.refl _ _⟩
  have HG := Lib.hid (show Draw.bigB zs.length = false from decide_eq_false hbig)
  have HN := Lib.hid hn; clear hn
  have HC := Lib.hid (show Draw.Src w A zs from ⟨hr, by omega, hb⟩); clear hr hb
  go_enter Try.func4, Try.ntmps4
  go_wp2_with fail
  refine (Draw.big_any A cap zs.length w HN.out).mono ?_
  rintro e w' ⟨rfl, rfl⟩
  rw [HG.out]
  clear HG hbig HN
  have HB := Below.refl w.heap.size w
  go_wp2_with fail
  refine (DLad2.drawRoom A cap zs w HC.out).mono ?_
  rintro e v1 ⟨l, g, c, i, x, y, xy_r, rfl, ⟨hl, O⟩, hv1⟩
  replace HB := be HB hv1
  have zhv1 := hv1.size
  have hcp := own_cap O
  have R1 := Rd.of_own O; clear O
  go_upto_region 4 with fail
  have X := Box.new HB [.int .i64 x, .int .i64 y] 32 (g := v1.heap.size) rfl
  replace HB := be HB (al (Below.refl _ _) (o := (.cells #[.int .i64 x, .int .i64 y] 32)))
  replace R1 := rd_keep R1 (al (Below.refl _ _) (o := (.cells #[.int .i64 x, .int .i64 y] 32)))
  generalize (v1.alloc (.cells #[.int .i64 x, .int .i64 y] 32)) = W2 at X HB R1 ⊢
  have X_0 := X.cells 0 _ rfl
  have X_1 := X.cells 1 _ rfl
  have X_f0 := X.free 0 (by simp)
  have X_f1 := X.free 1 (by simp)
  have X_t := X.there
  obtain ⟨r, hr, s, hs, hk⟩ := LadFacts.room_told l i x y
  obtain ⟨aq, haq⟩ : ∃ z, asked l i x y = z := ⟨_, rfl⟩
  rw [haq] at hr hs hk
  have HRV := Lib.hid hr; have HSV := Lib.hid hs; have HK := Lib.hid hk
  clear hr hs hk haq
  have b1 := bne_b aq
  go_wp2_with fail
  refine (LadZa.room_impl _ c l i x y _ R1 (by omega)).mono ?_
  rintro e v3 ⟨rfl, hv3⟩
  clear X_0 X_1 X_f0 X_f1 X_t
  replace X := X.more hv3
  replace HB := be HB hv3
  replace R1 := rd_keep R1 hv3
  have zhv3 := hv3.size
  clear hv3
  have X_0 := X.cells 0 _ rfl
  have X_1 := X.cells 1 _ rfl
  have X_f0 := X.free 0 (by simp)
  have X_f1 := X.free 1 (by simp)
  have X_t := X.there
  rw [HRV.out]
  go_wp2_with fail
  refine (LadZb.room_spec _ c l i x y _ R1 (by omega)).mono ?_
  rintro e v4 ⟨rfl, hv4⟩
  clear X_0 X_1 X_f0 X_f1 X_t
  replace X := X.more hv4
  replace HB := be HB hv4
  replace R1 := rd_keep R1 hv4
  have zhv4 := hv4.size
  clear hv4
  have X_0 := X.cells 0 _ rfl
  have X_1 := X.cells 1 _ rfl
  have X_f0 := X.free 0 (by simp)
  have X_f1 := X.free 1 (by simp)
  have X_t := X.there
  rw [HRV.out]
  go_wp2_with fail
  refine (LadZa.sun_impl _ c l i x y _ R1 (by omega)).mono ?_
  rintro e v5 ⟨rfl, hv5⟩
  clear X_0 X_1 X_f0 X_f1 X_t
  replace X := X.more hv5
  replace HB := be HB hv5
  replace R1 := rd_keep R1 hv5
  have zhv5 := hv5.size
  clear hv5
  have X_0 := X.cells 0 _ rfl
  have X_1 := X.cells 1 _ rfl
  have X_f0 := X.free 0 (by simp)
  have X_f1 := X.free 1 (by simp)
  have X_t := X.there
  rw [HSV.out]
  go_wp2_with fail
  refine (LadZb.sun_spec _ c l i x y _ R1 (by omega)).mono ?_
  rintro e v6 ⟨rfl, hv6⟩
  clear X_0 X_1 X_f0 X_f1 X_t
  replace X := X.more hv6
  replace HB := be HB hv6
  replace R1 := rd_keep R1 hv6
  have zhv6 := hv6.size
  clear hv6
  have X_0 := X.cells 0 _ rfl
  have X_1 := X.cells 1 _ rfl
  have X_f0 := X.free 0 (by simp)
  have X_f1 := X.free 1 (by simp)
  have X_t := X.there
  rw [HSV.out]
  clear HRV HSV
  go_upto_if 90 with fail
  go_cut [14, 15, 16, 17, 18, 19] from 91 (fun s14 s15 s16 s17 s18 s19 wc => Below w.heap.size w wc)
  case first => 
    cases aq
    · go_wp2
      go_meet
      case rel => exact X.below
    · obtain ⟨k, rfl, hlt, r0, r1, s0, s1, ⟨a0, a1⟩, t1, p1, t2, p2, p3⟩ := HK.out rfl
      have e1 : IntKind.i64.wrap (x + r) = x + r := IntWalk.i64_in _ (by omega)
      have e2 : IntKind.i64.wrap (x - s) = x - s := IntWalk.i64_in _ (by omega)
      have e3 : IntKind.i64.wrap (x + r + 1) = x + r + 1 := IntWalk.i64_in _ (by omega)
      have d1 : decide (r < 0) = false := decide_eq_false (by omega)
      have d2 : decide (s < 0) = false := decide_eq_false (by omega)
      have h1 := fun W h => LadW.for_impl (some ⟨g, 0, none⟩) c l (x + r) y W h hcp (by omega)
      have h2 := fun W h => LadW.for_impl (some ⟨g, 0, none⟩) c l (x - s) y W h hcp (by omega)
      have h3 := fun W h => LadW.for_impl (some ⟨g, 0, none⟩) c l (x + r + 1) y W h hcp (by omega)
      unfold LadW.IxPost at h1 h2 h3
      have m1 := LadFacts.for_len l (x + r) y; have m2 := LadFacts.for_len l (x - s) y; have m3 := LadFacts.for_len l (x + r + 1) y
      rw [t1] at h1; rw [t2] at h2
      obtain ⟨P1, hP1⟩ : ∃ z, forL l (x + r) y = z := ⟨_, rfl⟩
      obtain ⟨P2, hP2⟩ : ∃ z, forL l (x - s) y = z := ⟨_, rfl⟩
      obtain ⟨P3, hP3⟩ : ∃ z, forL l (x + r + 1) y = z := ⟨_, rfl⟩
      obtain ⟨tb, htb⟩ : ∃ z, forOk l (x + r + 1) y = z := ⟨_, rfl⟩
      rw [hP1] at h1 m1 p1; rw [hP2] at h2 m2 p2; rw [hP3] at h3 m3 p3; rw [htb] at h3 p3
      have H1 := Lib.hid h1; have H2 := Lib.hid h2; have H3 := Lib.hid h3
      have Q1 := Lib.hid p1; have Q2 := Lib.hid p2; have Q3 := Lib.hid p3
      clear h1 h2 h3 p1 p2 p3 hP1 hP2 hP3 htb t1 t2 HK r0 r1 s0 s1 a0 a1 hlt
      go_wp2_with fail
      refine (H1.out _ R1).mono ?_
      rintro e v7 ⟨B1, d1', rfl, O1, hv7⟩
      clear X_0 X_1 X_f0 X_f1 X_t
      replace X := X.more hv7
      replace HB := be HB hv7
      replace R1 := rd_keep R1 hv7
      have zhv7 := hv7.size
      clear hv7
      have X_0 := X.cells 0 _ rfl
      have X_1 := X.cells 1 _ rfl
      have X_f0 := X.free 0 (by simp)
      have X_f1 := X.free 1 (by simp)
      have X_t := X.there
      have S1 := Rd.of_own O1; clear O1
      go_wp2_with fail
      refine (H2.out _ R1).mono ?_
      rintro e v8 ⟨B2, d2', rfl, O2, hv8⟩
      clear X_0 X_1 X_f0 X_f1 X_t
      replace X := X.more hv8
      replace HB := be HB hv8
      replace R1 := rd_keep R1 hv8
      replace S1 := rd_keep S1 hv8
      have zhv8 := hv8.size
      clear hv8
      have X_0 := X.cells 0 _ rfl
      have X_1 := X.cells 1 _ rfl
      have X_f0 := X.free 0 (by simp)
      have X_f1 := X.free 1 (by simp)
      have X_t := X.there
      have S2 := Rd.of_own O2; clear O2
      clear H1 H2
      go_wp2_with fail
      refine (DLad2.vhas_any B1 d1' P1 (k : Int) _ S1 (by omega)).mono ?_
      rintro e v9 ⟨rfl, hd⟩
      rw [Q1.out]
      have hd2 := hd.below v8.heap.size; clear hd
      clear X_0 X_1 X_f0 X_f1 X_t
      replace X := X.more hd2
      replace HB := be HB hd2
      replace R1 := rd_keep R1 hd2
      replace S1 := rd_keep S1 hd2
      replace S2 := rd_keep S2 hd2
      clear hd2
      have X_0 := X.cells 0 _ rfl
      have X_1 := X.cells 1 _ rfl
      have X_f0 := X.free 0 (by simp)
      have X_f1 := X.free 1 (by simp)
      have X_t := X.there
      go_wp2_with fail
      refine (DLad2.vhas_any B2 d2' P2 (k : Int) _ S2 (by omega)).mono ?_
      rintro e v10 ⟨rfl, hd⟩
      rw [Q2.out]
      have hd2 := hd.below v9.heap.size; clear hd
      clear X_0 X_1 X_f0 X_f1 X_t
      replace X := X.more hd2
      replace HB := be HB hd2
      replace R1 := rd_keep R1 hd2
      replace S1 := rd_keep S1 hd2
      replace S2 := rd_keep S2 hd2
      clear hd2
      have X_0 := X.cells 0 _ rfl
      have X_1 := X.cells 1 _ rfl
      have X_f0 := X.free 0 (by simp)
      have X_f1 := X.free 1 (by simp)
      have X_t := X.there
      go_wp2_with fail
      refine (H3.out _ R1).mono ?_
      rintro e v11 ⟨B3, d3', rfl, O3, hv11⟩
      clear X_0 X_1 X_f0 X_f1 X_t
      replace X := X.more hv11
      replace HB := be HB hv11
      replace R1 := rd_keep R1 hv11
      replace S1 := rd_keep S1 hv11
      replace S2 := rd_keep S2 hv11
      have zhv11 := hv11.size
      clear hv11
      have X_0 := X.cells 0 _ rfl
      have X_1 := X.cells 1 _ rfl
      have X_f0 := X.free 0 (by simp)
      have X_f1 := X.free 1 (by simp)
      have X_t := X.there
      have S3 := Rd.of_own O3; clear O3
      cases tb
      · go_wp2
        go_meet
        case rel => exact X.below
      · have Q4 := Lib.hid (Q3.out rfl)
        clear Q3
        go_wp2_with fail
        refine (DLad2.vhas_any B3 d3' P3 (k : Int) _ S3 (by omega)).mono ?_
        rintro e v12 ⟨rfl, hd⟩
        rw [Q4.out]
        have hd2 := hd.below v11.heap.size; clear hd
        clear X_0 X_1 X_f0 X_f1 X_t
        replace X := X.more hd2
        replace HB := be HB hd2
        replace R1 := rd_keep R1 hd2
        replace S1 := rd_keep S1 hd2
        replace S2 := rd_keep S2 hd2
        replace S3 := rd_keep S3 hd2
        clear hd2
        have X_0 := X.cells 0 _ rfl
        have X_1 := X.cells 1 _ rfl
        have X_f0 := X.free 0 (by simp)
        have X_f1 := X.free 1 (by simp)
        have X_t := X.there
        go_wp2
        go_meet
        case rel => exact X.below
  case rest => 
    clear HB R1 HK X b1
    have HB := hcut
    clear hcut
    go_wp2_with fail
    refine (DLad2.drawEven A cap zs _ (HC.out.below HB)).mono ?_
    rintro e v1 ⟨n0, lo, hi, rfl, hv1⟩
    replace HB := be HB hv1
    have zhv1 := hv1.size
    have hei := fun W => LadU.even_impl n0 lo hi W
    have hes := fun W => LadU.even_spec n0 lo hi W
    unfold LadV.RowPost at hei hes
    have hEl := LadFacts.even_len n0 lo hi
    obtain ⟨E, hE⟩ : ∃ z, evenL n0 lo hi = z := ⟨_, rfl⟩
    obtain ⟨eq, heq⟩ : ∃ z, evOk n0 lo hi = z := ⟨_, rfl⟩
    rw [hE, heq] at hei hes
    rw [hE] at hEl
    have HK := Lib.hid (fun h : eq = true => LadFacts.even_told hE (heq.trans h))
    have HEI := Lib.hid hei; have HES := Lib.hid hes
    clear hei hes hE heq
    go_wp2_with fail
    refine (HEI.out _).mono ?_
    rintro e v2 ⟨A1, c1, rfl, O1, hv2⟩
    replace HB := be HB hv2
    have zhv2 := hv2.size
    have R1 := Rd.of_own O1; clear O1
    go_wp2_with fail
    refine (HES.out _).mono ?_
    rintro e v3 ⟨A2, c2, rfl, O2, hv3⟩
    replace HB := be HB hv3
    replace R1 := rd_keep R1 hv3
    have zhv3 := hv3.size
    have R2 := Rd.of_own O2; clear O2
    have b2 := bne_b eq
    go_wp2_with fail
    refine (DLad2.vrungs_any A1 A2 c1 c2 E _ R1 R2 (by omega)).mono ?_
    rintro e v4 ⟨rfl, hd⟩
    have hd2 := hd.below v3.heap.size; clear hd
    replace HB := be HB hd2
    replace R1 := rd_keep R1 hd2
    replace R2 := rd_keep R2 hd2
    clear R2
    clear HEI HES
    go_upto_region 25 with fail
    go_cut [218] from 33 (fun cnd wc => cnd = .bool false ∧ Below w.heap.size w wc)
    case first => 
      cases eq
      · go_wp2
        go_meet
        exact ⟨rfl, HB⟩
      · obtain ⟨j, rfl, hj7, hlen, hgE, x0, y0, h0, h1, hx0, hlo, hy0, hhi⟩ := HK.out rfl
        have HGE := Lib.hid hgE
        have HLEN := Lib.hid hlen
        have HX0 := Lib.hid hx0; have HY0 := Lib.hid hy0
        have HLO := Lib.hid hlo; have HHI := Lib.hid hhi
        clear HK hgE hx0 hy0 hlo hhi hlen
        go_wp2_with fail
        refine (LadG.good_impl A1 c1 E _ R1 (by omega)).mono ?_
        rintro e v5 ⟨rfl, hv5⟩
        replace HB := be HB hv5
        replace R1 := rd_keep R1 hv5
        have zhv5 := hv5.size
        rw [HGE.out]
        obtain ⟨b, o, rfl, hbl, hc⟩ := R1.at (k := 0 * 2) (by rw [flat_n]; omega)
        obtain ⟨z0, _⟩ := LadS.cells2 (Below.refl _ _) hbl hc h0 HX0.out
        obtain ⟨_, z1⟩ := LadS.cells2 (Below.refl _ _) hbl hc h1 HY0.out
        have z0' := Lib.hid z0; clear z0
        have z0 := z0'.out
        rw [HLO.out, Nat.zero_mul, Nat.add_zero] at z0
        rw [HHI.out] at z1
        have q1 : IntKind.i64.wrap (j : Int) = j := IntWalk.i64_in _ (by omega)
        have i0 : (0 : Int) < (E.length : Int) := by omega
        have i1 : (j : Int) < (E.length : Int) := by omega
        have i2 : ((E.length : Int) != (j : Int) + 1) = false := by rw [bne_eq_false_iff_eq, HLEN.out]; omega
        clear z0' hc hbl HX0 HY0
        go_wp2
        go_meet
        exact ⟨rfl, HB⟩
    case rest => 
      obtain ⟨rfl, hcut2⟩ := hcut
      clear HB R1 HK hEl b2
      have HB := hcut2
      clear hcut2
      go_wp2_with fail
      refine (DLad2.drawWid A cap zs _ (HC.out.below HB)).mono ?_
      rintro e v1 ⟨l9, g9, c9, rfl, ⟨hl9, O⟩, hv1⟩
      replace HB := be HB hv1
      have zhv1 := hv1.size
      have hcp9 := own_cap O
      have R1 := Rd.of_own O; clear O
      obtain ⟨j, hv, hk⟩ := LadFacts.wid_told l9
      obtain ⟨qg, hqg⟩ : ∃ z, good l9 = z := ⟨_, rfl⟩
      rw [hqg] at hv hk
      have HV9 := Lib.hid hv; have HK := Lib.hid hk
      clear hv hk hqg
      have b3 := bne_b qg
      go_wp2_with fail
      refine (LadV.wid_impl _ c9 l9 _ R1 hcp9 (by omega)).mono ?_
      rintro e v2 ⟨rfl, hv2⟩
      replace HB := be HB hv2
      replace R1 := rd_keep R1 hv2
      have zhv2 := hv2.size
      rw [HV9.out]
      go_wp2_with fail
      refine (LadV.wid_spec _ c9 l9 _ R1 (by omega)).mono ?_
      rintro e v3 ⟨rfl, hv3⟩
      replace HB := be HB hv3
      replace R1 := rd_keep R1 hv3
      have zhv3 := hv3.size
      rw [HV9.out]
      clear HV9
      go_wp2_with fail
      go_loopw [32] (fun ii wr => ∃ k : Nat, k ≤ l9.length ∧ ii = .int .i64 k ∧ Rd wr wr.heap.size (some ⟨g9, 0, none⟩) (flat l9) ∧ Below w.heap.size w wr) (fun ii _ => l9.length - (intOf ii).toNat)
      case atStart => exact ⟨0, Nat.zero_le _, rfl, R1, HB⟩
      case round =>
        clear R1 HB
        obtain ⟨k, hkl, rfl, R1, HB⟩ := hrel
        by_cases hlt : k < l9.length
        · have hd1 : decide ((k : Int) < l9.length) = true := decide_eq_true (by omega)
          cases qg
          · go_wp2
            go_ret
            exact ⟨rfl, HB⟩
          obtain ⟨hj, hall, hmax⟩ := HK.out rfl
          have HL := Lib.hid hlt
          obtain ⟨b, o, hbo, hb, hc⟩ := R1.at (k := k * 2) (by rw [flat_n]; omega)
          injection hbo with hbo
          injection hbo with hb1 ho1 _
          subst hb1; subst ho1
          obtain ⟨x, hx⟩ : ∃ x, l9[k] = x := ⟨_, rfl⟩
          obtain ⟨y, hy⟩ : ∃ y, l9[j] = y := ⟨_, rfl⟩
          obtain ⟨x0, x1⟩ := LadS.cells2 (Below.refl _ _) hb hc hlt hx
          obtain ⟨y0, y1⟩ := LadS.cells2 (Below.refl _ _) hb hc hj hy
          rw [Nat.zero_add] at x0 x1 y0 y1
          have hle : wd x ≤ wd y := by rw [← hx, ← hy]; exact hmax k hlt hj
          obtain ⟨p0, p1, p2⟩ := okR_true (hall x (by rw [← hx]; exact List.getElem_mem hlt))
          obtain ⟨s0, s1, s2⟩ := okR_true (hall y (by rw [← hy]; exact List.getElem_mem hj))
          have e1 : IntKind.i64.wrap (x.f1 - x.f0) = x.f1 - x.f0 := IntWalk.i64_in _ (by omega)
          have e2 : IntKind.i64.wrap (y.f1 - y.f0) = y.f1 - y.f0 := IntWalk.i64_in _ (by omega)
          have hw : decide (y.f1 - y.f0 < x.f1 - x.f0) = false := decide_eq_false (by unfold wd at hle; omega)
          have i1 : (k : Int) < l9.length := by omega
          have i2 : (j : Int) < l9.length := by omega
          clear hx hy hc hall hmax hle p0 p1 p2 s0 s1 s2
          go_upto_region 35 with fail
          refine wp_region_text (fun w' => w'.cell? ⟨g9, k * 2, none⟩ = some (.int .i64 x.f0) ∧ w'.cell? ⟨g9, k * 2 + 1, none⟩ = some (.int .i64 x.f1) ∧ w'.cell? ⟨g9, j * 2, none⟩ = some (.int .i64 y.f0) ∧ w'.cell? ⟨g9, j * 2 + 1, none⟩ = some (.int .i64 y.f1) ∧ Below w.heap.size w w' ∧ Rd w' w'.heap.size (some ⟨g9, 0, none⟩) (flat l9)) (by kernel_rfl) (by kernel_rfl) ⟨LadW.cell_kept x0 (Below.refl _ _).drew, LadW.cell_kept x1 (Below.refl _ _).drew, LadW.cell_kept y0 (Below.refl _ _).drew, LadW.cell_kept y1 (Below.refl _ _).drew, be HB (Below.refl _ _).drew, rd_keep R1 (Below.refl _ _).drew⟩ ?_
          iterate 23 (
            apply SeqH.one
            · intro uw K hS hK
              obtain ⟨qx0, qx1, qy0, qy1, qHB, qR1⟩ := hS
              first
                | (go_simp; exact hK.out _ ⟨qx0, qx1, qy0, qy1, qHB, qR1⟩)
            try simp only [Act.put, List.setIfInBounds_toArray, List.set_cons_zero, List.set_cons_succ])
          refine SeqH.end' rfl ?_
          intro v1 hS
          clear x0 x1 y0 y1 HB R1
          obtain ⟨x0, x1, y0, y1, HB, R1⟩ := hS
          go_wp2
          go_roundw
          case rel => exact ⟨k + 1, HL.out, by go_num, R1, HB⟩
          case measure => have := HL.out; simp [intOf]; omega
        · have hd1 : decide ((k : Int) < l9.length) = false := decide_eq_false (by omega)
          go_wp2
          go_ret
          exact ⟨rfl, HB⟩
end Go.Proofs.Ytngominkeammiaa.RungLaw
