/- FnLadders, walked. Made by tools/mk_ladlaw.py. -/
import Derived.Deep.Cut
import Derived.Deep.CutBlock
import Derived.Deep.CutRange
import Derived.Deep.DeepCutAuto
import Derived.Test.YtngominkeammiaaLadFacts
import Derived.Test.YtngominkeammiaaLadU
import Derived.Test.YtngominkeammiaaLadZa
import Derived.Test.YtngominkeammiaaLadZb
import Derived.Test.YtngominkeammiaaDLad2
namespace Go.Proofs.Ytngominkeammiaa.LadLaw
open Go.RowKit Go.Proofs.Ytngominkeammiaa.Mem Go.Proofs.Ytngominkeammiaa.Base Go.Proofs.Ytngominkeammiaa.Within Go.Proofs.Ytngominkeammiaa.Brine Go.Proofs.Ytngominkeammiaa.Regn Go.Proofs.Ytngominkeammiaa.Boxes Go.Proofs.Ytngominkeammiaa.Keep Go.Proofs.Ytngominkeammiaa.LadP Go.Proofs.Ytngominkeammiaa.LadFacts Go.Proofs.Ytngominkeammiaa.DLad2
open Go.Proofs.Ytngominkeammiaa.SRung hiding RPost rpost
set_option linter.unusedVariables false
set_option linter.unusedSimpArgs false
set_option maxRecDepth 100000
abbrev Yes (w : World) (e : Ending) (w' : World) : Prop := e = .returned (.bool true) ∧ Below w.heap.size w w'
theorem bne_b (q : Bool) : (q != q) = false := by cases q <;> rfl
theorem beq_b (q : Bool) : (q == q) = true := by cases q <;> rfl
set_option maxHeartbeats 8000000 in
theorem law (A : Option Addr) (cap : Nat) (zs : List Int) (w : World) (hr : Rd w w.heap.size A (zs.map (Value.int .u8))) (hn : zs.length ≤ maxLen) (hb : ∀ z ∈ zs, 0 ≤ z ∧ z ≤ 255) :
    Calls Try.prog 3 #[.slice A zs.length cap] w (Yes w) := by
  by_cases hbig : 65536 < zs.length
  · have HG := Lib.hid (show Draw.bigB zs.length = true from decide_eq_true hbig)
    clear hr hb
    go_enter Try.func3, Try.ntmps3
    go_wp2_with fail
    refine (Draw.big_any A cap zs.length w hn).mono ?_
    rintro e w' ⟨rfl, rfl⟩
    rw [HG.out]
    go_wp2
    go_ret
    exact ⟨rfl, Below.refl _ _⟩
  have HG := Lib.hid (show Draw.bigB zs.length = false from decide_eq_false hbig)
  have HN := Lib.hid hn; clear hn
  have HC := Lib.hid (show Draw.Src w A zs from ⟨hr, by omega, hb⟩); clear hr hb
  go_enter Try.func3, Try.ntmps3
  go_wp2_with fail
  refine (Draw.big_any A cap zs.length w HN.out).mono ?_
  rintro e w' ⟨rfl, rfl⟩
  rw [HG.out]
  clear HG hbig HN
  have HB := Below.refl w.heap.size w
  go_wp2_with fail
  refine (DLad2.drawJoin A cap zs w HC.out).mono ?_
  rintro e v1 ⟨l, g, c, m, g', c', rfl, ⟨hl, O⟩, ⟨hm, O'⟩, hv1⟩
  replace HB := be HB hv1
  have zhv1 := hv1.size
  have hc1 := own_cap O
  have hc2 := own_cap O'
  have R1 := Rd.of_own O; have R2 := Rd.of_own O'; clear O O'
  have hji := fun W h h' => LadU.join_impl (some ⟨g, 0, none⟩) (some ⟨g', 0, none⟩) c c' l m W h h' (by omega) (by omega)
  have hjs := fun W h h' => LadV.join_spec (some ⟨g, 0, none⟩) (some ⟨g', 0, none⟩) c c' l m W h h' (by omega) (by omega)
  unfold LadV.RowPost at hji hjs
  have hJl := LadFacts.join_len l m
  obtain ⟨J, hJ⟩ : ∃ z, joinL l m = z := ⟨_, rfl⟩
  obtain ⟨q, hq⟩ : ∃ z, joinOk l m = z := ⟨_, rfl⟩
  rw [hJ, hq] at hji hjs
  rw [hJ] at hJl
  have HJI := Lib.hid hji; have HJS := Lib.hid hjs; clear hji hjs
  have HK := Lib.hid (LadFacts.join_told hJ hq)
  clear hJ hq
  go_wp2_with fail
  refine (HJI.out _ R1 R2).mono ?_
  rintro e v2 ⟨A1, c1, rfl, O1, hv2⟩
  replace HB := be HB hv2
  replace R1 := rd_keep R1 hv2
  replace R2 := rd_keep R2 hv2
  have zhv2 := hv2.size
  have hc3 := own_cap O1
  have R3 := Rd.of_own O1; clear O1
  go_wp2_with fail
  refine (HJS.out _ R1 R2).mono ?_
  rintro e v3 ⟨A2, c2, rfl, O2, hv3⟩
  replace HB := be HB hv3
  replace R1 := rd_keep R1 hv3
  replace R2 := rd_keep R2 hv3
  replace R3 := rd_keep R3 hv3
  have zhv3 := hv3.size
  have R4 := Rd.of_own O2; clear O2
  have b1 := bne_b q
  obtain ⟨qg, hqg⟩ : ∃ z, good l = z := ⟨_, rfl⟩
  have HQG := Lib.hid hqg; clear hqg
  have b2 := bne_b qg
  go_wp2_with fail
  refine (DLad2.vrungs_any A1 A2 c1 c2 J _ R3 R4 (by omega)).mono ?_
  rintro e v4 ⟨rfl, hd⟩
  have hd2 := hd.below v3.heap.size; clear hd
  replace HB := be HB hd2
  replace R1 := rd_keep R1 hd2
  replace R2 := rd_keep R2 hd2
  replace R3 := rd_keep R3 hd2
  replace R4 := rd_keep R4 hd2
  go_wp2_with fail
  refine (LadG.good_impl _ c l _ R1 (by omega)).mono ?_
  rintro e v5 ⟨rfl, hv5⟩
  replace HB := be HB hv5
  replace R1 := rd_keep R1 hv5
  replace R2 := rd_keep R2 hv5
  replace R3 := rd_keep R3 hv5
  replace R4 := rd_keep R4 hv5
  have zhv5 := hv5.size
  rw [HQG.out]
  go_wp2_with fail
  refine (LadG.is_spec _ c l _ R1 (by omega)).mono ?_
  rintro e v6 ⟨rfl, hv6⟩
  replace HB := be HB hv6
  replace R1 := rd_keep R1 hv6
  replace R2 := rd_keep R2 hv6
  replace R3 := rd_keep R3 hv6
  replace R4 := rd_keep R4 hv6
  have zhv6 := hv6.size
  rw [HQG.out]
  clear R4
  clear b1 b2 HJI HJS HQG
  go_wp2_with fail
  refine (DLad2.drawFor A cap zs _ (HC.out.below HB)).mono ?_
  rintro e v7 ⟨l2, g2, k2, x, y, xy_r, rfl, ⟨hl2, O⟩, hv7⟩
  replace HB := be HB hv7
  replace R1 := rd_keep R1 hv7
  replace R2 := rd_keep R2 hv7
  replace R3 := rd_keep R3 hv7
  have zhv7 := hv7.size
  have hc4 := own_cap O
  have R5 := Rd.of_own O; clear O
  go_upto_region 9 with fail
  have X := Box.new HB [.int .i64 x, .int .i64 y] 32 (g := v7.heap.size) rfl
  replace HB := be HB (al (Below.refl _ _) (o := (.cells #[.int .i64 x, .int .i64 y] 32)))
  replace R1 := rd_keep R1 (al (Below.refl _ _) (o := (.cells #[.int .i64 x, .int .i64 y] 32)))
  replace R2 := rd_keep R2 (al (Below.refl _ _) (o := (.cells #[.int .i64 x, .int .i64 y] 32)))
  replace R3 := rd_keep R3 (al (Below.refl _ _) (o := (.cells #[.int .i64 x, .int .i64 y] 32)))
  replace R5 := rd_keep R5 (al (Below.refl _ _) (o := (.cells #[.int .i64 x, .int .i64 y] 32)))
  generalize (v7.alloc (.cells #[.int .i64 x, .int .i64 y] 32)) = W8 at X HB R1 R2 R3 R5 ⊢
  have X_0 := X.cells 0 _ rfl
  have X_1 := X.cells 1 _ rfl
  have X_f0 := X.free 0 (by simp)
  have X_f1 := X.free 1 (by simp)
  have X_t := X.there
  have hfi := fun W h => LadW.for_impl (some ⟨g2, 0, none⟩) k2 l2 x y W h hc4 (by omega)
  have hfs := fun W h => LadW.for_spec (some ⟨g2, 0, none⟩) k2 l2 x y W h (by omega)
  unfold LadW.IxPost at hfi hfs
  have hMl := LadFacts.for_len l2 x y
  generalize forL l2 x y = M at hfi hfs hMl
  generalize forOk l2 x y = t at hfi hfs
  have HFI := Lib.hid hfi; have HFS := Lib.hid hfs; clear hfi hfs
  go_wp2_with fail
  refine (HFI.out _ R5).mono ?_
  rintro e v9 ⟨A5, c5, rfl, O5, hv9⟩
  clear X_0 X_1 X_f0 X_f1 X_t
  replace X := X.more hv9
  replace HB := be HB hv9
  replace R1 := rd_keep R1 hv9
  replace R2 := rd_keep R2 hv9
  replace R3 := rd_keep R3 hv9
  replace R5 := rd_keep R5 hv9
  have zhv9 := hv9.size
  clear hv9
  have X_0 := X.cells 0 _ rfl
  have X_1 := X.cells 1 _ rfl
  have X_f0 := X.free 0 (by simp)
  have X_f1 := X.free 1 (by simp)
  have X_t := X.there
  have R6 := Rd.of_own O5; clear O5
  go_wp2_with fail
  refine (HFS.out _ R5).mono ?_
  rintro e v10 ⟨A6, c6, rfl, O6, hv10⟩
  clear X_0 X_1 X_f0 X_f1 X_t
  replace X := X.more hv10
  replace HB := be HB hv10
  replace R1 := rd_keep R1 hv10
  replace R2 := rd_keep R2 hv10
  replace R3 := rd_keep R3 hv10
  replace R5 := rd_keep R5 hv10
  replace R6 := rd_keep R6 hv10
  have zhv10 := hv10.size
  clear hv10
  have X_0 := X.cells 0 _ rfl
  have X_1 := X.cells 1 _ rfl
  have X_f0 := X.free 0 (by simp)
  have X_f1 := X.free 1 (by simp)
  have X_t := X.there
  have R7 := Rd.of_own O6; clear O6
  have b3 := bne_b t
  go_wp2_with fail
  refine (DLad2.vints_same A5 A6 c5 c6 M _ R6 R7 (by omega)).mono ?_
  rintro e v11 ⟨rfl, hd⟩
  have hd2 := hd.below v10.heap.size; clear hd
  clear X_0 X_1 X_f0 X_f1 X_t
  replace X := X.more hd2
  replace HB := be HB hd2
  replace R1 := rd_keep R1 hd2
  replace R2 := rd_keep R2 hd2
  replace R3 := rd_keep R3 hd2
  replace R5 := rd_keep R5 hd2
  replace R6 := rd_keep R6 hd2
  replace R7 := rd_keep R7 hd2
  clear hd2
  have X_0 := X.cells 0 _ rfl
  have X_1 := X.cells 1 _ rfl
  have X_f0 := X.free 0 (by simp)
  have X_f1 := X.free 1 (by simp)
  have X_t := X.there
  clear R5
  clear R6
  clear R7
  clear HFI HFS hMl hc4 b3
  go_upto_if 93 with fail
  go_cut [15, 16, 17, 18, 19, 20, 21] from 94 (fun s15 s16 s17 s18 s19 s20 s21 wc => Below w.heap.size w wc)
  case first => 
    cases q
    · go_wp2
      go_meet
      case rel => exact X.below
    · obtain ⟨hJll, hK⟩ := HK.out rfl
      obtain ⟨⟨f1, f2, f3⟩, hHas⟩ := hK x y
      obtain ⟨ob, hob⟩ : ∃ z, okB x y = z := ⟨_, rfl⟩
      have h1 := fun W h => LadW.for_impl (some ⟨g, 0, none⟩) c l x y W h hc1 (by omega)
      have h2 := fun W h => LadW.for_impl (some ⟨g', 0, none⟩) c' m x y W h hc2 (by omega)
      have h3 := fun W h => LadW.for_impl A1 c1 J x y W h hc3 (by omega)
      unfold LadW.IxPost at h1 h2 h3
      have m1 := LadFacts.for_len l x y; have m2 := LadFacts.for_len m x y; have m3 := LadFacts.for_len J x y
      rw [f1, hob] at h1; rw [f2, hob] at h2; rw [f3, hob] at h3
      rw [hob] at hHas
      obtain ⟨P1, hP1⟩ : ∃ z, forL l x y = z := ⟨_, rfl⟩
      obtain ⟨P2, hP2⟩ : ∃ z, forL m x y = z := ⟨_, rfl⟩
      obtain ⟨P3, hP3⟩ : ∃ z, forL J x y = z := ⟨_, rfl⟩
      rw [hP1] at h1 m1 hHas; rw [hP2] at h2 m2 hHas; rw [hP3] at h3 m3 hHas
      have H1 := Lib.hid h1; have H2 := Lib.hid h2; have H3 := Lib.hid h3
      have HH := Lib.hid hHas
      clear h1 h2 h3 hHas hP1 hP2 hP3 f1 f2 f3 hob hK hJll HK
      go_wp2_with fail
      refine (H1.out _ R1).mono ?_
      rintro e v12 ⟨B1, d1, rfl, O1, hv12⟩
      clear X_0 X_1 X_f0 X_f1 X_t
      replace X := X.more hv12
      replace HB := be HB hv12
      replace R1 := rd_keep R1 hv12
      replace R2 := rd_keep R2 hv12
      replace R3 := rd_keep R3 hv12
      have zhv12 := hv12.size
      clear hv12
      have X_0 := X.cells 0 _ rfl
      have X_1 := X.cells 1 _ rfl
      have X_f0 := X.free 0 (by simp)
      have X_f1 := X.free 1 (by simp)
      have X_t := X.there
      have S1 := Rd.of_own O1; clear O1
      go_wp2_with fail
      refine (H2.out _ R2).mono ?_
      rintro e v13 ⟨B2, d2, rfl, O2, hv13⟩
      clear X_0 X_1 X_f0 X_f1 X_t
      replace X := X.more hv13
      replace HB := be HB hv13
      replace R1 := rd_keep R1 hv13
      replace R2 := rd_keep R2 hv13
      replace R3 := rd_keep R3 hv13
      replace S1 := rd_keep S1 hv13
      have zhv13 := hv13.size
      clear hv13
      have X_0 := X.cells 0 _ rfl
      have X_1 := X.cells 1 _ rfl
      have X_f0 := X.free 0 (by simp)
      have X_f1 := X.free 1 (by simp)
      have X_t := X.there
      have S2 := Rd.of_own O2; clear O2
      go_wp2_with fail
      refine (H3.out _ R3).mono ?_
      rintro e v14 ⟨B3, d3, rfl, O3, hv14⟩
      clear X_0 X_1 X_f0 X_f1 X_t
      replace X := X.more hv14
      replace HB := be HB hv14
      replace R1 := rd_keep R1 hv14
      replace R2 := rd_keep R2 hv14
      replace R3 := rd_keep R3 hv14
      replace S1 := rd_keep S1 hv14
      replace S2 := rd_keep S2 hv14
      have zhv14 := hv14.size
      clear hv14
      have X_0 := X.cells 0 _ rfl
      have X_1 := X.cells 1 _ rfl
      have X_f0 := X.free 0 (by simp)
      have X_f1 := X.free 1 (by simp)
      have X_t := X.there
      have S3 := Rd.of_own O3; clear O3
      have b4 := bne_b ob
      clear H1 H2 H3
      go_wp2_with fail
      have HX0 := Lib.hid X.below
      clear X_0 X_1 X_f0 X_f1 X_t
      clear X
      go_loopw [21] (fun i wr => ∃ k : Nat, k ≤ J.length ∧ i = .int .i64 k ∧ Rd wr wr.heap.size B1 (SInt.iv P1) ∧ Rd wr wr.heap.size B2 (SInt.iv P2) ∧ Rd wr wr.heap.size B3 (SInt.iv P3) ∧ Below w.heap.size w wr) (fun i _ => J.length - (intOf i).toNat)
      case atStart => exact ⟨0, Nat.zero_le _, rfl, S1, S2, S3, HX0.out⟩
      case round =>
        clear S1 S2 S3 HX0 HB R1 R2 R3
        obtain ⟨k, hk, rfl, S1, S2, S3, HB⟩ := hrel
        by_cases hlt : k < J.length
        · have hd1 : decide ((k : Int) < J.length) = true := decide_eq_true (by omega)
          cases ob
          · go_wp2
            go_meet
            case rel => exact HB
          have HV := Lib.hid (HH.out rfl k hlt)
          have HL := Lib.hid hlt
          obtain ⟨e1, he1⟩ : ∃ z, hasI P1 (k : Int) = z := ⟨_, rfl⟩
          obtain ⟨e2, he2⟩ : ∃ z, hasI P2 (k : Int) = z := ⟨_, rfl⟩
          have HE1 := Lib.hid he1; have HE2 := Lib.hid he2
          have HE3 := Lib.hid (show hasI P3 (k : Int) = (e1 && e2) by rw [HV.out, he1, he2])
          clear he1 he2
          go_wp2_with fail
          refine (DLad2.vhas_any B3 d3 P3 (k : Int) _ S3 (by omega)).mono ?_
          rintro e v1 ⟨rfl, hd⟩
          rw [HE3.out]
          have hd2 := hd.below wr.heap.size; clear hd
          replace HB := be HB hd2
          replace S1 := rd_keep S1 hd2
          replace S2 := rd_keep S2 hd2
          replace S3 := rd_keep S3 hd2
          go_wp2_with fail
          refine (DLad2.vhas_any B1 d1 P1 (k : Int) _ S1 (by omega)).mono ?_
          rintro e v2 ⟨rfl, hd⟩
          rw [HE1.out]
          have hd2 := hd.below v1.heap.size; clear hd
          replace HB := be HB hd2
          replace S1 := rd_keep S1 hd2
          replace S2 := rd_keep S2 hd2
          replace S3 := rd_keep S3 hd2
          cases e1
          · go_wp2
            go_roundw
            case rel => exact ⟨k + 1, HL.out, by go_num, S1, S2, S3, HB⟩
            case measure => have := HL.out; simp [intOf]; omega
          · go_wp2_with fail
            refine (DLad2.vhas_any B2 d2 P2 (k : Int) _ S2 (by omega)).mono ?_
            rintro e v3 ⟨rfl, hd⟩
            rw [HE2.out]
            have hd2 := hd.below v2.heap.size; clear hd
            replace HB := be HB hd2
            replace S1 := rd_keep S1 hd2
            replace S2 := rd_keep S2 hd2
            replace S3 := rd_keep S3 hd2
            have b5 := bne_b e2
            go_wp2
            go_roundw
            case rel => exact ⟨k + 1, HL.out, by go_num, S1, S2, S3, HB⟩
            case measure => have := HL.out; simp [intOf]; omega
        · have hd1 : decide ((k : Int) < J.length) = false := decide_eq_false (by omega)
          go_wp2
          go_meet
          case rel => exact HB
  case rest => 
    clear HB R1 R2 R3 HK X
    have HB := hcut
    clear hcut
    go_wp2_with fail
    refine (DLad2.drawKeep A cap zs _ (HC.out.below HB)).mono ?_
    rintro e v1 ⟨l3, g3, k3, s, g4, k4, rfl, ⟨hl3, O⟩, hs, OS, hv1⟩
    replace HB := be HB hv1
    have zhv1 := hv1.size
    have R1 := Rd.of_own O; have R2 := Rd.of_own OS; clear O OS
    have hki := fun W h h' => LadX.keep_impl (some ⟨g3, 0, none⟩) (some ⟨g4, 0, none⟩) k3 k4 l3 s W h h' (by omega) (by omega)
    have hks := fun W h h' => LadX.keep_spec (some ⟨g3, 0, none⟩) (some ⟨g4, 0, none⟩) k3 k4 l3 s W h h' (by omega) (by omega)
    have hoi := fun W h h' => LadX.offr_impl (some ⟨g3, 0, none⟩) (some ⟨g4, 0, none⟩) k3 k4 l3 s W h h' (by omega) (by omega)
    have hos := fun W h h' => LadX.offr_spec (some ⟨g3, 0, none⟩) (some ⟨g4, 0, none⟩) k3 k4 l3 s W h h' (by omega) (by omega)
    rw [LadFacts.keep_told] at hki hks
    unfold LadW.IxPost at hoi hos
    have hMl := LadFacts.off_len l3 s
    generalize LadX.offL l3 s = M at hki hks hoi hos hMl
    generalize LadX.offOk l3 s = fo at hki hks hoi hos
    have HQ := Lib.hid (LadX.len_eq M.length)
    generalize hkb : (fo && decide (M.length = 0)) = kb at hki hks
    have HKB := Lib.hid hkb; clear hkb
    have HKI := Lib.hid hki; have HKS := Lib.hid hks; have HOI := Lib.hid hoi; have HOS := Lib.hid hos; clear hki hks hoi hos
    go_wp2_with fail
    refine (HKI.out _ R1 R2).mono ?_
    rintro e v2 ⟨rfl, hv2⟩
    replace HB := be HB hv2
    replace R1 := rd_keep R1 hv2
    replace R2 := rd_keep R2 hv2
    have zhv2 := hv2.size
    go_wp2_with fail
    refine (HKS.out _ R1 R2).mono ?_
    rintro e v3 ⟨rfl, hv3⟩
    replace HB := be HB hv3
    replace R1 := rd_keep R1 hv3
    replace R2 := rd_keep R2 hv3
    have zhv3 := hv3.size
    have b5 := bne_b kb
    have b6 := bne_b fo
    have b7 := beq_b fo
    go_wp2_with fail
    refine (HOI.out _ R1 R2).mono ?_
    rintro e v4 ⟨A7, c7, rfl, O7, hv4⟩
    replace HB := be HB hv4
    replace R1 := rd_keep R1 hv4
    replace R2 := rd_keep R2 hv4
    have zhv4 := hv4.size
    have R8 := Rd.of_own O7; clear O7
    go_wp2_with fail
    refine (HOS.out _ R1 R2).mono ?_
    rintro e v5 ⟨A8, c8, rfl, O8, hv5⟩
    replace HB := be HB hv5
    replace R1 := rd_keep R1 hv5
    replace R2 := rd_keep R2 hv5
    replace R8 := rd_keep R8 hv5
    have zhv5 := hv5.size
    have R9 := Rd.of_own O8; clear O8
    go_wp2_with fail
    refine (DLad2.vints_same A7 A8 c7 c8 M _ R8 R9 (by omega)).mono ?_
    rintro e v6 ⟨rfl, hd⟩
    have hd2 := hd.below v5.heap.size; clear hd
    replace HB := be HB hd2
    replace R1 := rd_keep R1 hd2
    replace R2 := rd_keep R2 hd2
    replace R8 := rd_keep R8 hd2
    replace R9 := rd_keep R9 hd2
    clear HKI HKS HOI HOS
    cases fo
    · go_wp2
      go_ret
      exact ⟨rfl, HB⟩
    · have hz : ((M.length : Int) == 0) = kb := by rw [HQ.out, ← HKB.out]; rfl
      have b8 := beq_b kb
      go_wp2
      go_ret
      exact ⟨rfl, HB⟩
end Go.Proofs.Ytngominkeammiaa.LadLaw
