/- FnTrips, walked. Made by tools/mk_tripslaw.py. -/
import Derived.Deep.Cut
import Derived.Deep.CutBlock
import Derived.Deep.CutRange
import Derived.Deep.DeepCutAuto
import Derived.Test.YtknlgdahcfgbeaaTripFacts2
import Derived.Test.YtknlgdahcfgbeaaRTrip
import Derived.Test.YtknlgdahcfgbeaaDTrip3
import Derived.Test.YtknlgdahcfgbeaaTripD
import Derived.Test.YtknlgdahcfgbeaaTripB
import Derived.Test.YtknlgdahcfgbeaaTripW
namespace Go.Proofs.Ytknlgdahcfgbeaa.TripsLaw
open Go.RowKit Go.Proofs.Ytknlgdahcfgbeaa.Mem Go.Proofs.Ytknlgdahcfgbeaa.Base Go.Proofs.Ytknlgdahcfgbeaa.Within Go.Proofs.Ytknlgdahcfgbeaa.SInt Go.Proofs.Ytknlgdahcfgbeaa.Nest Go.Proofs.Ytknlgdahcfgbeaa.STrip Go.Proofs.Ytknlgdahcfgbeaa.Boxes Go.Proofs.Ytknlgdahcfgbeaa.Keep Go.Proofs.Ytknlgdahcfgbeaa.TripP Go.Proofs.Ytknlgdahcfgbeaa.TripS Go.Proofs.Ytknlgdahcfgbeaa.DTrip3
set_option linter.unusedVariables false
set_option linter.unusedSimpArgs false
set_option maxRecDepth 100000
abbrev Yes (w : World) (e : Ending) (w' : World) : Prop := e = .returned (.bool true) ∧ Below w.heap.size w w'
theorem bne_b (q : Bool) : (q != q) = false := by cases q <;> rfl
theorem ts_of {w : World} {lo : Nat} {A : Option Addr} {c : Nat} {m : List Row} {F : List (List Int)} (h : TabS.TOwn w lo w.heap.size A c m) (hm : TabS.tp m = F) (hs : TabS.Sm F) : TabS.Ts w w.heap.size A m := TabS.TOwnL.hs ⟨h, Nat.le_refl _⟩ hm hs
theorem ts_keep {w w' : World} {A : Option Addr} {l : List Row} (h : TabS.Ts w w.heap.size A l) (hb : Below w.heap.size w w') : TabS.Ts w' w'.heap.size A l := h.keep hb
theorem arr_told (x : R) : ∃ n, TripL.arrV x = .tuple #[.int .i64 n, .bool (okT x)] ∧ (okT x = true → n = arr x) := by
  cases h : okT x
  · exact ⟨_, TripL.arrV_no h, fun h => by cases h⟩
  · exact ⟨_, TripL.arrV_yes h, fun _ => rfl⟩
theorem rows_told {x : R} {m : List Row} {n : Int} (hm : TabS.tp m = TripT.secF x) (hn : okT x = true → n = arr x) : ∀ i (hi : i < m.length), ∃ a b c, m[i].ls = [a, b, c] ∧ ((i + 1 = m.length ∧ c = n) ∨ (∃ h : i + 1 < m.length, ∃ d e, m[i + 1].ls = [d, c, e])) := by
  cases h : okT x
  · intro i hi
    have : m.length = 0 := by rw [← TabS.tp_len, hm, TripT.secF_no h]; rfl
    omega
  · intro i hi
    obtain ⟨hl, hr⟩ := TripFacts2.rows_join h hm
    refine ⟨_, _, _, hr i hi, ?_⟩
    by_cases h1 : i + 1 < m.length
    · refine .inr ⟨h1, sec x (i + 1 : Nat), x.f3 + 4 * ((i + 1 : Nat) : Int) + 4, ?_⟩
      rw [hr (i + 1) h1]
      congr 1
      congr 1
      push_cast; omega
    · refine .inl ⟨by omega, ?_⟩
      rw [hn h, TripFacts2.arr_num h, ← hl]; omega
set_option maxHeartbeats 8000000 in
theorem law (A : Option Addr) (cap : Nat) (zs : List Int) (w : World) (hr : Rd w w.heap.size A (zs.map (Value.int .u8))) (hn : zs.length ≤ maxLen) (hb : ∀ z ∈ zs, 0 ≤ z ∧ z ≤ 255) :
    Calls Try.prog 3 #[.slice A zs.length cap] w (Yes w) := by
  by_cases hbig : 65536 < zs.length
  · have HG := Lib.hid (show Draw.bigB zs.length = true from decide_eq_true hbig)
    clear hr hb
    go_enter Try.func3, Try.ntmps3
    go_wp2_with fail
    refine (RLaw.rbig_any A cap zs.length w hn).mono ?_
    rintro e w' ⟨rfl, rfl⟩
    rw [HG.out]
    go_wp2
    go_ret
    exact ⟨rfl, Below.refl _ _⟩
  have HG := Lib.hid (show Draw.bigB zs.length = false from decide_eq_false hbig)
  have HN := Lib.hid hn; clear hn
  have HC := Lib.hid (show Draw.Src w A zs from ⟨hr, by omega, hb⟩); clear hr hb
  go_enter Try.func3, Try.ntmps3
  go_wp2_with fail
  refine (RLaw.rbig_any A cap zs.length w HN.out).mono ?_
  rintro e w' ⟨rfl, rfl⟩
  rw [HG.out]
  clear HG hbig HN
  go_wp2_with fail
  refine (drawSec A cap zs w HC.out).mono ?_
  rintro e w1 ⟨x, hsx, rfl, HB⟩
  clear hsx
  have HF := Lib.hid (TripT.sec_sm x)
  obtain ⟨n, hv, hn⟩ := arr_told x
  have HV := Lib.hid hv; clear hv
  have HRT := Lib.hid (fun (m : List Row) (hm : TabS.tp m = TripT.secF x) => rows_told hm hn); clear hn
  have b1 := bne_b (okT x)
  go_wp2_with fail
  have X := Box.new HB [.int .i64 x.f0, .int .i64 x.f1, .int .i64 x.f2, .int .i64 x.f3, .int .i64 x.f4] 25 (g := w1.heap.size) rfl
  replace HB := be HB (al (Below.refl _ _) (o := (.cells #[.int .i64 x.f0, .int .i64 x.f1, .int .i64 x.f2, .int .i64 x.f3, .int .i64 x.f4] 25)))
  generalize (w1.alloc (.cells #[.int .i64 x.f0, .int .i64 x.f1, .int .i64 x.f2, .int .i64 x.f3, .int .i64 x.f4] 25)) = W1 at X HB ⊢
  have X_0 := X.cells 0 _ rfl
  have X_1 := X.cells 1 _ rfl
  have X_2 := X.cells 2 _ rfl
  have X_3 := X.cells 3 _ rfl
  have X_4 := X.cells 4 _ rfl
  have X_f0 := X.free 0 (by simp)
  have X_f1 := X.free 1 (by simp)
  have X_f2 := X.free 2 (by simp)
  have X_f3 := X.free 3 (by simp)
  have X_f4 := X.free 4 (by simp)
  have X_t := X.there
  go_wp2_with fail
  refine (TripT.sec_impl x _).mono ?_
  rintro e v2 ⟨m, A3, c3, hm, rfl, T3, hv2⟩
  clear X_0 X_1 X_2 X_3 X_4 X_f0 X_f1 X_f2 X_f3 X_f4 X_t
  replace X := X.more hv2
  replace HB := be HB hv2
  have zhv2 := hv2.size
  clear hv2
  have X_0 := X.cells 0 _ rfl
  have X_1 := X.cells 1 _ rfl
  have X_2 := X.cells 2 _ rfl
  have X_3 := X.cells 3 _ rfl
  have X_4 := X.cells 4 _ rfl
  have X_f0 := X.free 0 (by simp)
  have X_f1 := X.free 1 (by simp)
  have X_f2 := X.free 2 (by simp)
  have X_f3 := X.free 3 (by simp)
  have X_f4 := X.free 4 (by simp)
  have X_t := X.there
  have T3 := ts_of T3 hm HF.out
  go_wp2_with fail
  refine (TripT.sec_spec x _).mono ?_
  rintro e v3 ⟨m2, A4, c4, hm2, rfl, T4, hv3⟩
  clear X_0 X_1 X_2 X_3 X_4 X_f0 X_f1 X_f2 X_f3 X_f4 X_t
  replace X := X.more hv3
  replace HB := be HB hv3
  replace T3 := ts_keep T3 hv3
  have zhv3 := hv3.size
  clear hv3
  have X_0 := X.cells 0 _ rfl
  have X_1 := X.cells 1 _ rfl
  have X_2 := X.cells 2 _ rfl
  have X_3 := X.cells 3 _ rfl
  have X_4 := X.cells 4 _ rfl
  have X_f0 := X.free 0 (by simp)
  have X_f1 := X.free 1 (by simp)
  have X_f2 := X.free 2 (by simp)
  have X_f3 := X.free 3 (by simp)
  have X_f4 := X.free 4 (by simp)
  have X_t := X.there
  have T4 := ts_of T4 hm2 HF.out
  have HE := Lib.hid (hm.trans hm2.symm)
  have HJ := Lib.hid (HRT.out m hm)
  clear hm hm2 HRT
  go_wp2_with fail
  refine (RTrip.rtab_same A3 A4 c3 c4 m m2 _ T3 T4 HE.out).mono ?_
  rintro e v4 ⟨rfl, hv4⟩
  clear X_0 X_1 X_2 X_3 X_4 X_f0 X_f1 X_f2 X_f3 X_f4 X_t
  replace X := X.more hv4
  replace HB := be HB hv4
  replace T3 := ts_keep T3 hv4
  have zhv4 := hv4.size
  clear hv4
  have X_0 := X.cells 0 _ rfl
  have X_1 := X.cells 1 _ rfl
  have X_2 := X.cells 2 _ rfl
  have X_3 := X.cells 3 _ rfl
  have X_4 := X.cells 4 _ rfl
  have X_f0 := X.free 0 (by simp)
  have X_f1 := X.free 1 (by simp)
  have X_f2 := X.free 2 (by simp)
  have X_f3 := X.free 3 (by simp)
  have X_f4 := X.free 4 (by simp)
  have X_t := X.there
  clear T4 HE
  go_wp2_with fail
  refine (TripL.ao_impl x _).mono ?_
  rintro e v5 ⟨rfl, hv5⟩
  clear X_0 X_1 X_2 X_3 X_4 X_f0 X_f1 X_f2 X_f3 X_f4 X_t
  replace X := X.more hv5
  replace HB := be HB hv5
  replace T3 := ts_keep T3 hv5
  have zhv5 := hv5.size
  clear hv5
  have X_0 := X.cells 0 _ rfl
  have X_1 := X.cells 1 _ rfl
  have X_2 := X.cells 2 _ rfl
  have X_3 := X.cells 3 _ rfl
  have X_4 := X.cells 4 _ rfl
  have X_f0 := X.free 0 (by simp)
  have X_f1 := X.free 1 (by simp)
  have X_f2 := X.free 2 (by simp)
  have X_f3 := X.free 3 (by simp)
  have X_f4 := X.free 4 (by simp)
  have X_t := X.there
  rw [HV.out]
  go_wp2_with fail
  refine (TripL.ao_spec x _).mono ?_
  rintro e v6 ⟨rfl, hv6⟩
  clear X_0 X_1 X_2 X_3 X_4 X_f0 X_f1 X_f2 X_f3 X_f4 X_t
  replace X := X.more hv6
  replace HB := be HB hv6
  replace T3 := ts_keep T3 hv6
  have zhv6 := hv6.size
  clear hv6
  have X_0 := X.cells 0 _ rfl
  have X_1 := X.cells 1 _ rfl
  have X_2 := X.cells 2 _ rfl
  have X_3 := X.cells 3 _ rfl
  have X_4 := X.cells 4 _ rfl
  have X_f0 := X.free 0 (by simp)
  have X_f1 := X.free 1 (by simp)
  have X_f2 := X.free 2 (by simp)
  have X_f3 := X.free 3 (by simp)
  have X_f4 := X.free 4 (by simp)
  have X_t := X.there
  rw [HV.out]
  go_wp2_with fail
  refine (one_impl x _).mono ?_
  rintro e v7 ⟨rfl, hv7⟩
  clear X_0 X_1 X_2 X_3 X_4 X_f0 X_f1 X_f2 X_f3 X_f4 X_t
  replace X := X.more hv7
  replace HB := be HB hv7
  replace T3 := ts_keep T3 hv7
  have zhv7 := hv7.size
  clear hv7
  have X_0 := X.cells 0 _ rfl
  have X_1 := X.cells 1 _ rfl
  have X_2 := X.cells 2 _ rfl
  have X_3 := X.cells 3 _ rfl
  have X_4 := X.cells 4 _ rfl
  have X_f0 := X.free 0 (by simp)
  have X_f1 := X.free 1 (by simp)
  have X_f2 := X.free 2 (by simp)
  have X_f3 := X.free 3 (by simp)
  have X_f4 := X.free 4 (by simp)
  have X_t := X.there
  clear HV
  go_upto_region 12 with fail
  have HB1 := X.below
  clear X_0 X_1 X_2 X_3 X_4 X_f0 X_f1 X_f2 X_f3 X_f4 X_t
  go_wp2_with fail
  have hml := T3.len
  have HT := Lib.hid T3; clear T3
  have HBB := Lib.hid HB1; clear HB HB1
  go_loopw [12] (fun ii wr => ∃ k : Nat, k ≤ m.length ∧ ii = .int .i64 k ∧ v7 = wr) (fun ii _ => m.length - (intOf ii).toNat)
  case atStart => exact ⟨0, Nat.zero_le _, rfl, rfl⟩
  case round =>
    obtain ⟨k, hk, rfl, hw⟩ := hrel
    subst hw
    by_cases hlt : k < m.length
    · have y1 : IntKind.i64.wrap ((k : Int) + 1) = k + 1 := IntWalk.i64_in _ (by omega)
      have HL := Lib.hid hlt
      obtain ⟨r0, r1, r2, hls, hnx⟩ := HJ.out k hlt
      obtain ⟨b, o, hA, hb, h0⟩ := HT.out.at hlt rfl
      obtain ⟨hrw, _⟩ := HT.out.row hlt rfl
      subst hA
      rw [hls] at h0 hrw
      obtain ⟨b1, o1, hA1, hb1, h1⟩ := hrw.at (k := 2) (by simp [iv])
      rw [hA1] at h0
      have g2 := h1 2 _ rfl
      clear h1 hrw
      rcases hnx with ⟨hend, hc⟩ | ⟨hlt2, d, e, hls2⟩
      · subst hc
        have hlt3 : decide ((k : Int) + 1 < m.length) = false := decide_eq_false (by omega)
        go_wp2
        go_roundw
        case rel => exact ⟨k + 1, HL.out, by go_num, trivial⟩
        case measure => have := HL.out; simp [intOf]; omega
      · have hlt3 : decide ((k : Int) + 1 < m.length) = true := decide_eq_true (by omega)
        obtain ⟨b', o', hA', hb', h0'⟩ := HT.out.at hlt2 rfl
        obtain ⟨hrw2, _⟩ := HT.out.row hlt2 rfl
        injection hA' with hA'; injection hA' with e1 e2 e3
        subst e1; subst e2
        rw [hls2] at h0' hrw2
        obtain ⟨b2, o2, hA2, hb2, h2⟩ := hrw2.at (k := 1) (by simp [iv])
        rw [hA2] at h0'
        have g1 := h2 1 _ rfl
        clear h2 hrw2
        go_wp2
        go_roundw
        case rel => exact ⟨k + 1, HL.out, by go_num, trivial⟩
        case measure => have := HL.out; simp [intOf]; omega
    · have HB := HBB.out
      clear HT HJ HBB HF
      go_wp2_with fail
      refine (drawFirst A cap zs _ (HC.out.below HB)).mono ?_
      rintro e w4 ⟨L, g, c, y, hl, hs, hsy, rfl, O, hB4⟩
      replace HB := be HB hB4
      have hcp := own_cap O
      have hgl := own_lt O
      clear hs hsy hB4
      obtain ⟨n, q, hv, ht⟩ := TripFacts2.fs_told L y
      have HV := Lib.hid hv; clear hv
      have HT := Lib.hid ht; clear ht
      go_wp2_with fail
      have Y := Box.new HB [.int .i64 y.f0, .int .i64 y.f1, .int .i64 y.f2, .int .i64 y.f3, .int .i64 y.f4] 25 (g := w4.heap.size) rfl
      replace HB := be HB (al (Below.refl _ _) (o := (.cells #[.int .i64 y.f0, .int .i64 y.f1, .int .i64 y.f2, .int .i64 y.f3, .int .i64 y.f4] 25)))
      replace O := own_keep O (al (Below.refl _ _) (o := (.cells #[.int .i64 y.f0, .int .i64 y.f1, .int .i64 y.f2, .int .i64 y.f3, .int .i64 y.f4] 25)))
      generalize (w4.alloc (.cells #[.int .i64 y.f0, .int .i64 y.f1, .int .i64 y.f2, .int .i64 y.f3, .int .i64 y.f4] 25)) = W1 at Y HB O ⊢
      have Y_0 := Y.cells 0 _ rfl
      have Y_1 := Y.cells 1 _ rfl
      have Y_2 := Y.cells 2 _ rfl
      have Y_3 := Y.cells 3 _ rfl
      have Y_4 := Y.cells 4 _ rfl
      have Y_f0 := Y.free 0 (by simp)
      have Y_f1 := Y.free 1 (by simp)
      have Y_f2 := Y.free 2 (by simp)
      have Y_f3 := Y.free 3 (by simp)
      have Y_f4 := Y.free 4 (by simp)
      have Y_t := Y.there
      go_wp2_with fail
      refine (TripF.fs_impl (some ⟨g, 0, none⟩) c L y _ (Rd.of_own O) hcp (by omega)).mono ?_
      rintro e v2 ⟨rfl, hv2⟩
      clear Y_0 Y_1 Y_2 Y_3 Y_4 Y_f0 Y_f1 Y_f2 Y_f3 Y_f4 Y_t
      replace Y := Y.more hv2
      replace HB := be HB hv2
      replace O := own_keep O hv2
      have zhv2 := hv2.size
      clear hv2
      have Y_0 := Y.cells 0 _ rfl
      have Y_1 := Y.cells 1 _ rfl
      have Y_2 := Y.cells 2 _ rfl
      have Y_3 := Y.cells 3 _ rfl
      have Y_4 := Y.cells 4 _ rfl
      have Y_f0 := Y.free 0 (by simp)
      have Y_f1 := Y.free 1 (by simp)
      have Y_f2 := Y.free 2 (by simp)
      have Y_f3 := Y.free 3 (by simp)
      have Y_f4 := Y.free 4 (by simp)
      have Y_t := Y.there
      rw [HV.out]
      go_wp2_with fail
      refine (TripF.fs_spec (some ⟨g, 0, none⟩) c L y _ (Rd.of_own O) (by omega)).mono ?_
      rintro e v3 ⟨rfl, hv3⟩
      clear Y_0 Y_1 Y_2 Y_3 Y_4 Y_f0 Y_f1 Y_f2 Y_f3 Y_f4 Y_t
      replace Y := Y.more hv3
      replace HB := be HB hv3
      replace O := own_keep O hv3
      have zhv3 := hv3.size
      clear hv3
      have Y_0 := Y.cells 0 _ rfl
      have Y_1 := Y.cells 1 _ rfl
      have Y_2 := Y.cells 2 _ rfl
      have Y_3 := Y.cells 3 _ rfl
      have Y_4 := Y.cells 4 _ rfl
      have Y_f0 := Y.free 0 (by simp)
      have Y_f1 := Y.free 1 (by simp)
      have Y_f2 := Y.free 2 (by simp)
      have Y_f3 := Y.free 3 (by simp)
      have Y_f4 := Y.free 4 (by simp)
      have Y_t := Y.there
      rw [HV.out]
      have b3 := bne_b q
      go_upto_region 23 with fail
      go_cut [146] from 34 (fun cnd wc => cnd = .bool false ∧ v3 = wc)
      case first => as_aux_lemma =>
        cases q
        · go_wp2
          go_meet
          exact ⟨rfl, rfl⟩
        · obtain ⟨h3, _⟩ := HT.out rfl
          have hlt9 : decide (n < y.f3) = false := decide_eq_false (by omega)
          go_wp2
          go_meet
          exact ⟨rfl, rfl⟩
      case rest =>
        obtain ⟨rfl, rfl⟩ := hcut
        clear b3 HV
        go_upto_if 147 with fail
        go_cut [20, 21] from 34 (fun s20 s21 wc => Below w.heap.size w wc)
        case first => as_aux_lemma =>
          cases q
          · go_wp2
            go_meet
            case rel => exact Y.below
          · obtain ⟨_, hadd⟩ := HT.out rfl
            have HAD := Lib.hid (show TripA.addOk L ⟨y.f0, y.f1, y.f2, n, y.f4⟩ = decide (L.length < 10) from hadd)
            clear hadd HT
            go_upto_region 27 with fail
            clear Y_0 Y_1 Y_2 Y_3 Y_4 Y_f0 Y_f1 Y_f2 Y_f3 Y_f4 Y_t
            have Y_t4 := Y.there
            have Y' : Box (w4.heap.size) [.int .i64 y.f0, .int .i64 y.f1, .int .i64 y.f2, .int .i64 n, .int .i64 y.f4] w _ := (Y.set 3 (.int .i64 n))
            clear Y; have Y := Y'; clear Y'
            replace O := (own_far O (k := (w4.heap.size)) (by omega) 3 (.int .i64 n))
            have sz4 : (v3.setCell ⟨w4.heap.size, 3, none⟩ (.int .i64 n)).heap.size = v3.heap.size := by simp only [size_set']
            generalize (v3.setCell ⟨w4.heap.size, 3, none⟩ (.int .i64 n)) = W4 at Y O sz4 ⊢
            replace sz4 := Lib.hid sz4
            have Y_0 := Y.cells 0 _ rfl
            have Y_1 := Y.cells 1 _ rfl
            have Y_2 := Y.cells 2 _ rfl
            have Y_3 := Y.cells 3 _ rfl
            have Y_4 := Y.cells 4 _ rfl
            have Y_f0 := Y.free 0 (by simp)
            have Y_f1 := Y.free 1 (by simp)
            have Y_f2 := Y.free 2 (by simp)
            have Y_f3 := Y.free 3 (by simp)
            have Y_f4 := Y.free 4 (by simp)
            have Y_t := Y.there
            clear HB
            go_wp2_with fail
            refine (TripD.add_impl (some ⟨g, 0, none⟩) c L ⟨y.f0, y.f1, y.f2, n, y.f4⟩ W4 (Rd.of_own O) hcp (by omega)).mono ?_
            rintro e v5 ⟨A6, c6, rfl, O6, hv5⟩
            clear Y_0 Y_1 Y_2 Y_3 Y_4 Y_f0 Y_f1 Y_f2 Y_f3 Y_f4 Y_t
            replace Y := Y.more hv5
            replace O := own_keep O hv5
            have zhv5 := hv5.size
            clear hv5
            have Y_0 := Y.cells 0 _ rfl
            have Y_1 := Y.cells 1 _ rfl
            have Y_2 := Y.cells 2 _ rfl
            have Y_3 := Y.cells 3 _ rfl
            have Y_4 := Y.cells 4 _ rfl
            have Y_f0 := Y.free 0 (by simp)
            have Y_f1 := Y.free 1 (by simp)
            have Y_f2 := Y.free 2 (by simp)
            have Y_f3 := Y.free 3 (by simp)
            have Y_f4 := Y.free 4 (by simp)
            have Y_t := Y.there
            clear O6
            rw [HAD.out]
            by_cases h10 : L.length < 10
            · have d1 : decide ((L.length : Int) < 10) = true := decide_eq_true (by omega)
              rw [decide_eq_true h10]
              go_wp2
              go_meet
              case rel => exact Y.below
            · have d1 : decide ((L.length : Int) < 10) = false := decide_eq_false (by omega)
              rw [decide_eq_false h10]
              go_wp2
              go_meet
              case rel => exact Y.below
        case rest => as_aux_lemma =>
          clear HB Y O HT
          have HB := hcut
          clear hcut
          go_wp2_with fail
          refine (drawAdd A cap zs wc (HC.out.below HB)).mono ?_
          rintro e w5 ⟨L, g, c, y, hl, hs, hsy, rfl, O, hB5⟩
          replace HB := be HB hB5
          have hcp := own_cap O
          have HR := Rd.of_own O
          clear O hs hsy hB5
          have HI := Lib.hid (fun W h => TripD.add_impl (some ⟨g, 0, none⟩) c L y W h hcp (by omega))
          have HS := Lib.hid (fun W h => TripB.add_spec g 0 c L y W h (by omega) hcp)
          have hM := TripA.add_len L y
          unfold TripA.APost at HI HS
          generalize TripA.addF L y = M at *
          generalize TripA.addOk L y = q at *
          have HMM := Lib.hid (show M.length ≤ maxLen by unfold maxLen; omega)
          have b4 := bne_b q
          go_wp2_with fail
          have Y := Box.new HB [.int .i64 y.f0, .int .i64 y.f1, .int .i64 y.f2, .int .i64 y.f3, .int .i64 y.f4] 25 (g := w5.heap.size) rfl
          replace HB := be HB (al (Below.refl _ _) (o := (.cells #[.int .i64 y.f0, .int .i64 y.f1, .int .i64 y.f2, .int .i64 y.f3, .int .i64 y.f4] 25)))
          replace HR := rd_keep HR (al (Below.refl _ _) (o := (.cells #[.int .i64 y.f0, .int .i64 y.f1, .int .i64 y.f2, .int .i64 y.f3, .int .i64 y.f4] 25)))
          generalize (w5.alloc (.cells #[.int .i64 y.f0, .int .i64 y.f1, .int .i64 y.f2, .int .i64 y.f3, .int .i64 y.f4] 25)) = W1 at Y HB HR ⊢
          have Y_0 := Y.cells 0 _ rfl
          have Y_1 := Y.cells 1 _ rfl
          have Y_2 := Y.cells 2 _ rfl
          have Y_3 := Y.cells 3 _ rfl
          have Y_4 := Y.cells 4 _ rfl
          have Y_f0 := Y.free 0 (by simp)
          have Y_f1 := Y.free 1 (by simp)
          have Y_f2 := Y.free 2 (by simp)
          have Y_f3 := Y.free 3 (by simp)
          have Y_f4 := Y.free 4 (by simp)
          have Y_t := Y.there
          go_wp2_with fail
          refine (HI.out _ HR).mono ?_
          rintro e v2 ⟨A1, c1, rfl, O1, hv2⟩
          clear Y_0 Y_1 Y_2 Y_3 Y_4 Y_f0 Y_f1 Y_f2 Y_f3 Y_f4 Y_t
          replace Y := Y.more hv2
          replace HB := be HB hv2
          replace HR := rd_keep HR hv2
          have zhv2 := hv2.size
          clear hv2
          have Y_0 := Y.cells 0 _ rfl
          have Y_1 := Y.cells 1 _ rfl
          have Y_2 := Y.cells 2 _ rfl
          have Y_3 := Y.cells 3 _ rfl
          have Y_4 := Y.cells 4 _ rfl
          have Y_f0 := Y.free 0 (by simp)
          have Y_f1 := Y.free 1 (by simp)
          have Y_f2 := Y.free 2 (by simp)
          have Y_f3 := Y.free 3 (by simp)
          have Y_f4 := Y.free 4 (by simp)
          have Y_t := Y.there
          have R1 := Rd.of_own O1
          clear O1
          go_wp2_with fail
          refine (HS.out _ HR).mono ?_
          rintro e v3 ⟨A2, c2, rfl, O2, hv3⟩
          clear Y_0 Y_1 Y_2 Y_3 Y_4 Y_f0 Y_f1 Y_f2 Y_f3 Y_f4 Y_t
          replace Y := Y.more hv3
          replace HB := be HB hv3
          replace HR := rd_keep HR hv3
          replace R1 := rd_keep R1 hv3
          have zhv3 := hv3.size
          clear hv3
          have Y_0 := Y.cells 0 _ rfl
          have Y_1 := Y.cells 1 _ rfl
          have Y_2 := Y.cells 2 _ rfl
          have Y_3 := Y.cells 3 _ rfl
          have Y_4 := Y.cells 4 _ rfl
          have Y_f0 := Y.free 0 (by simp)
          have Y_f1 := Y.free 1 (by simp)
          have Y_f2 := Y.free 2 (by simp)
          have Y_f3 := Y.free 3 (by simp)
          have Y_f4 := Y.free 4 (by simp)
          have Y_t := Y.there
          have R2 := Rd.of_own O2
          clear O2
          go_wp2_with fail
          refine (RTrip.rtrips_same A1 A2 c1 c2 M _ R1 R2 HMM.out).mono ?_
          rintro e v4 ⟨rfl, hv4⟩
          clear Y_0 Y_1 Y_2 Y_3 Y_4 Y_f0 Y_f1 Y_f2 Y_f3 Y_f4 Y_t
          replace Y := Y.more hv4
          replace HB := be HB hv4
          replace HR := rd_keep HR hv4
          replace R1 := rd_keep R1 hv4
          replace R2 := rd_keep R2 hv4
          have zhv4 := hv4.size
          clear hv4
          have Y_0 := Y.cells 0 _ rfl
          have Y_1 := Y.cells 1 _ rfl
          have Y_2 := Y.cells 2 _ rfl
          have Y_3 := Y.cells 3 _ rfl
          have Y_4 := Y.cells 4 _ rfl
          have Y_f0 := Y.free 0 (by simp)
          have Y_f1 := Y.free 1 (by simp)
          have Y_f2 := Y.free 2 (by simp)
          have Y_f3 := Y.free 3 (by simp)
          have Y_f4 := Y.free 4 (by simp)
          have Y_t := Y.there
          go_upto_region 35 with fail
          have HB := Y.below
          clear HI HS R1 R2 HR
          go_wp2_with fail
          refine (drawWay A cap zs _ (HC.out.below HB)).mono ?_
          rintro e w6 ⟨L, g, c, u, hl, hs, hu, rfl, O, hB6⟩
          replace HB := be HB hB6
          have hcp := own_cap O
          have HR := Rd.of_own O
          clear O hs hB6
          have HI := Lib.hid (fun W h => TripW.way_impl (some ⟨g, 0, none⟩) c L u W h hcp (by omega))
          have HS := Lib.hid (fun W h => TripW.way_spec (some ⟨g, 0, none⟩) c L u W h (by omega))
          have hM := TripW.way_len L u
          unfold RInt.IPost at HI HS
          generalize TripW.wayF L u = M at *
          generalize TripW.wayOk L u = q at *
          go_wp2_with fail
          refine (HI.out _ HR).mono ?_
          rintro e v1 ⟨A1, c1, rfl, O1, hv1⟩
          replace HB := be HB hv1
          replace HR := rd_keep HR hv1
          have zhv1 := hv1.size
          have R1 := Rd.of_own O1
          clear O1
          go_wp2_with fail
          refine (HS.out _ HR).mono ?_
          rintro e v2 ⟨A2, c2, rfl, O2, hv2⟩
          replace HB := be HB hv2
          replace HR := rd_keep HR hv2
          replace R1 := rd_keep R1 hv2
          have zhv2 := hv2.size
          have R2 := Rd.of_own O2
          clear O2
          have b5 : (q == q) = true := by cases q <;> rfl
          obtain ⟨qg, hqg⟩ : ∃ qg, good L = qg := ⟨_, rfl⟩
          have HQ := Lib.hid hqg; clear hqg
          have b6 : (qg == qg) = true := by cases qg <;> rfl
          go_wp2_with fail
          refine (RLaw.rints_same A1 A2 c1 c2 M _ R1 R2 (by omega)).mono ?_
          rintro e v3 ⟨rfl, hd⟩
          have hd2 := hd.below v2.heap.size; clear hd
          replace HB := be HB hd2
          replace HR := rd_keep HR hd2
          replace R1 := rd_keep R1 hd2
          replace R2 := rd_keep R2 hd2
          go_wp2_with fail
          refine (TripG.are_impl (some ⟨g, 0, none⟩) c L _ HR (by omega)).mono ?_
          rintro e v4 ⟨rfl, hv4⟩
          replace HB := be HB hv4
          replace HR := rd_keep HR hv4
          replace R1 := rd_keep R1 hv4
          replace R2 := rd_keep R2 hv4
          have zhv4 := hv4.size
          rw [HQ.out]
          go_wp2_with fail
          refine (TripL.are_spec (some ⟨g, 0, none⟩) c L _ HR (by omega)).mono ?_
          rintro e v5 ⟨rfl, hv5⟩
          replace HB := be HB hv5
          replace HR := rd_keep HR hv5
          replace R1 := rd_keep R1 hv5
          replace R2 := rd_keep R2 hv5
          have zhv5 := hv5.size
          rw [HQ.out]
          go_wp2
          go_ret
          exact ⟨rfl, HB⟩
end Go.Proofs.Ytknlgdahcfgbeaa.TripsLaw
