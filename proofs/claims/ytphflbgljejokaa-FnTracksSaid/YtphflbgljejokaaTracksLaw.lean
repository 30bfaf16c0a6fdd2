/- FnTracks, walked. Made by tools/mk_trackslaw.py. -/
import Derived.Deep.Cut
import Derived.Deep.CutBlock
import Derived.Deep.CutRange
import Derived.Deep.DeepCutAuto
import Derived.Test.YtphflbgljejokaaTripFacts
import Derived.Test.YtphflbgljejokaaRTrip
import Derived.Test.YtphflbgljejokaaDTrip3
namespace Go.Proofs.Ytphflbgljejokaa.TracksLaw
open Go.RowKit Go.Proofs.Ytphflbgljejokaa.Mem Go.Proofs.Ytphflbgljejokaa.Base Go.Proofs.Ytphflbgljejokaa.Within Go.Proofs.Ytphflbgljejokaa.SInt Go.Proofs.Ytphflbgljejokaa.Nest Go.Proofs.Ytphflbgljejokaa.STrip Go.Proofs.Ytphflbgljejokaa.Boxes Go.Proofs.Ytphflbgljejokaa.Keep Go.Proofs.Ytphflbgljejokaa.TripP Go.Proofs.Ytphflbgljejokaa.TripS Go.Proofs.Ytphflbgljejokaa.DTrip3
set_option linter.unusedVariables false
set_option linter.unusedSimpArgs false
set_option maxRecDepth 100000
abbrev Yes (w : World) (e : Ending) (w' : World) : Prop := e = .returned (.bool true) ∧ Below w.heap.size w w'
theorem bne_b (q : Bool) : (q != q) = false := by cases q <;> rfl
theorem ts_of {w : World} {lo : Nat} {A : Option Addr} {c : Nat} {m : List Row} {F : List (List Int)} (h : TabS.TOwn w lo w.heap.size A c m) (hm : TabS.tp m = F) (hs : TabS.Sm F) : TabS.Ts w w.heap.size A m := TabS.TOwnL.hs ⟨h, Nat.le_refl _⟩ hm hs
theorem ts_keep {w w' : World} {A : Option Addr} {l : List Row} (h : TabS.Ts w w.heap.size A l) (hb : Below w.heap.size w w') : TabS.Ts w' w'.heap.size A l := h.keep hb
theorem tp_nil {m : List Row} {F : List (List Int)} (h : TabS.tp m = F) (h0 : m.length = 0) : F = [] := by
  rw [← h, List.eq_nil_of_length_eq_zero h0]; rfl
theorem nil_tp {m : List Row} {F : List (List Int)} (h : TabS.tp m = F) (h0 : F = []) : m = [] := by
  have : m.length = 0 := by rw [← TabS.tp_len, h, h0]; rfl
  exact List.eq_nil_of_length_eq_zero this
set_option maxHeartbeats 8000000 in
theorem law (A : Option Addr) (cap : Nat) (zs : List Int) (w : World) (hr : Rd w w.heap.size A (zs.map (Value.int .u8))) (hn : zs.length ≤ maxLen) (hb : ∀ z ∈ zs, 0 ≤ z ∧ z ≤ 255) :
    Calls Try.prog 4 #[.slice A zs.length cap] w (Yes w) := by
  by_cases hbig : 65536 < zs.length
  · have HG := Lib.hid (show Draw.bigB zs.length = true from decide_eq_true hbig)
    clear hr hb
    go_enter Try.func4, Try.ntmps4
    go_wp2_with fail
    refine (RLaw.rbig_any A cap zs.length w hn).mono ?_
    rintro e w' ⟨rfl, rfl⟩
    rw [HG.out]
    go_wp2
    go_ret
    exact ⟨rfl, Below.refl _ _⟩
  have HG := Lib.hid (show Draw.bigB zs.length = false from decide_eq_false hbig)
  have HN := Lib.hid hn; clear hn
  have HC := Lib.hid (show Draw.Src w A zs from ⟨hr, by omega, hb⟩); clear hr hb
  go_enter Try.func4, Try.ntmps4
  go_wp2_with fail
  refine (RLaw.rbig_any A cap zs.length w HN.out).mono ?_
  rintro e w' ⟨rfl, rfl⟩
  rw [HG.out]
  clear HG hbig HN
  go_wp2_with fail
  refine (drawRev A cap zs w HC.out).mono ?_
  rintro e w1 ⟨L, g, c, id, hl, hs, hid, rfl, O, HB⟩
  have hcp := own_cap O
  have HR := Rd.of_own O
  clear O hs
  have HI := Lib.hid (fun W h => TripR.rev_impl (some ⟨g, 0, none⟩) c L id W h hcp (by omega))
  have HS := Lib.hid (fun W h => TripR.rev_spec (some ⟨g, 0, none⟩) c L id W h (by omega))
  have HT := Lib.hid (fun W h => TripU.mt_impl (some ⟨g, 0, none⟩) c L W h hcp (by omega))
  have HU := Lib.hid (fun W h => TripU.mt_spec (some ⟨g, 0, none⟩) c L W h (by omega))
  have HK := Lib.hid (fun h h2 => TripFacts.rev_back (l := L) (d := id) h h2)
  have hM := TripR.rev_len L id
  have HF := Lib.hid (TripU.mt_sm L)
  have HLL := Lib.hid (show L.length ≤ maxLen by unfold maxLen; omega)
  unfold TripR.RevPost at HI HS
  generalize TripR.revF L id = M at *
  generalize TripR.revOk L id = q at *
  generalize TripU.mtF L = F at *
  generalize good L = qg at *
  have HMM := Lib.hid (show M.length ≤ maxLen by unfold maxLen; omega)
  go_wp2_with fail
  refine (HI.out _ HR).mono ?_
  rintro e v1 ⟨A1, c1, rfl, O1, hv1⟩
  replace HB := be HB hv1
  replace HR := rd_keep HR hv1
  have zhv1 := hv1.size
  have hc1 := own_cap O1
  have R1 := Rd.of_own O1
  clear O1
  go_wp2_with fail
  refine (HS.out _ HR).mono ?_
  rintro e v2 ⟨A2, c2, rfl, O2, hv2⟩
  replace HB := be HB hv2
  replace HR := rd_keep HR hv2
  replace R1 := rd_keep R1 hv2
  have zhv2 := hv2.size
  have R2 := Rd.of_own O2
  clear O2
  have b1 := bne_b q
  have b2 := bne_b qg
  go_wp2_with fail
  refine (RTrip.rtrips_same A1 A2 c1 c2 M _ R1 R2 HMM.out).mono ?_
  rintro e v3 ⟨rfl, hv3⟩
  replace HB := be HB hv3
  replace HR := rd_keep HR hv3
  replace R1 := rd_keep R1 hv3
  replace R2 := rd_keep R2 hv3
  have zhv3 := hv3.size
  go_wp2_with fail
  refine (HT.out _ HR).mono ?_
  rintro e v4 ⟨m, A3, c3, hm, rfl, T3, hv4⟩
  replace HB := be HB hv4
  replace HR := rd_keep HR hv4
  replace R1 := rd_keep R1 hv4
  replace R2 := rd_keep R2 hv4
  have zhv4 := hv4.size
  have T3 := ts_of T3 hm HF.out
  go_wp2_with fail
  refine (HU.out _ HR).mono ?_
  rintro e v5 ⟨m2, A4, c4, hm2, rfl, T4, hv5⟩
  replace HB := be HB hv5
  replace HR := rd_keep HR hv5
  replace R1 := rd_keep R1 hv5
  replace R2 := rd_keep R2 hv5
  replace T3 := ts_keep T3 hv5
  have zhv5 := hv5.size
  have T4 := ts_of T4 hm2 HF.out
  have HE := Lib.hid (hm.trans hm2.symm)
  have HM := Lib.hid hm
  clear hm hm2
  go_wp2_with fail
  refine (RTrip.rtab_same A3 A4 c3 c4 m m2 _ T3 T4 HE.out).mono ?_
  rintro e v6 ⟨rfl, hv6⟩
  replace HB := be HB hv6
  replace HR := rd_keep HR hv6
  replace R1 := rd_keep R1 hv6
  replace R2 := rd_keep R2 hv6
  replace T3 := ts_keep T3 hv6
  have zhv6 := hv6.size
  clear T4 HE
  clear T3
  go_wp2_with fail
  refine (TripR.rev_impl A1 c1 M id _ R1 hc1 (by omega)).mono ?_
  rintro e v7 ⟨A5, c5, rfl, O5, hv7⟩
  replace HB := be HB hv7
  replace HR := rd_keep HR hv7
  replace R1 := rd_keep R1 hv7
  replace R2 := rd_keep R2 hv7
  have zhv7 := hv7.size
  have R5 := Rd.of_own O5
  clear O5
  go_upto_region 13 with fail
  go_cut [13, 14, 103] from 34 (fun s13 s14 cnd wc => cnd = .bool false ∧ Below w.heap.size w wc)
  case first => as_aux_lemma =>
    cases q
    · go_wp2
      go_meet
      exact ⟨rfl, HB⟩
    cases qg
    · go_wp2
      go_meet
      exact ⟨rfl, HB⟩
    by_cases h0 : m.length = 0
    · have h0' : ((m.length : Int) == 0) = true := by rw [h0]; rfl
      obtain ⟨e1, e2⟩ := HK.out rfl (tp_nil HM.out h0)
      rw [e2] at R5
      rw [e1, e2]
      have h0n : m = [] := List.eq_nil_of_length_eq_zero h0
      subst h0n
      go_wp2_with fail
      refine (RTrip.rtrips_same A5 (some ⟨g, 0, none⟩) c5 c L _ R5 HR HLL.out).mono ?_
      rintro e v8 ⟨rfl, hv8⟩
      replace HB := be HB hv8
      replace HR := rd_keep HR hv8
      replace R1 := rd_keep R1 hv8
      replace R2 := rd_keep R2 hv8
      replace R5 := rd_keep R5 hv8
      have zhv8 := hv8.size
      go_wp2
      go_meet
      exact ⟨rfl, HB⟩
    · have h0' : ((m.length : Int) == 0) = false := by rw [beq_eq_false_iff_ne]; omega
      go_wp2
      go_meet
      exact ⟨rfl, HB⟩
  case rest => as_aux_lemma =>
    obtain ⟨rfl, HB⟩ := hcut
    clear HI HS HT HU HK HF hM HMM HLL HM
    go_wp2_with fail
    refine (drawLoads A cap zs wc (HC.out.below HB)).mono ?_
    rintro e w2 ⟨L, g, c, s, u, hl, hs, rs, ru, rfl, O, hB2⟩
    replace HB := be HB hB2
    have hcp := own_cap O
    have HR := Rd.of_own O
    clear O hs hB2
    obtain ⟨n, q, hv⟩ := TripL.ld_form L s u
    have HV := Lib.hid hv; clear hv
    obtain ⟨k, q2, hv⟩ := TripL.ld_form L s (u + 1)
    have HV2 := Lib.hid hv; clear hv
    have b3 := bne_b q
    have y1 : IntKind.i64.wrap (u + 1) = u + 1 := IntWalk.i64_in _ (by omega)
    go_wp2_with fail
    refine (TripL.ld_impl (some ⟨g, 0, none⟩) c L s u _ HR hcp (by omega)).mono ?_
    rintro e v1 ⟨rfl, hv1⟩
    replace HB := be HB hv1
    replace HR := rd_keep HR hv1
    have zhv1 := hv1.size
    rw [HV.out]
    go_wp2_with fail
    refine (TripL.ld_spec (some ⟨g, 0, none⟩) c L s u _ HR (by omega)).mono ?_
    rintro e v2 ⟨rfl, hv2⟩
    replace HB := be HB hv2
    replace HR := rd_keep HR hv2
    have zhv2 := hv2.size
    rw [HV.out]
    go_wp2_with fail
    refine (TripL.ld_impl (some ⟨g, 0, none⟩) c L s (u + 1) _ HR hcp (by omega)).mono ?_
    rintro e v3 ⟨rfl, hv3⟩
    replace HB := be HB hv3
    replace HR := rd_keep HR hv3
    have zhv3 := hv3.size
    rw [HV2.out]
    go_upto_region 21 with fail
    go_cut [148] from 104 (fun cnd wc => cnd = .bool false ∧ Below w.heap.size w wc)
    case first => as_aux_lemma =>
      cases q
      · go_wp2
        go_meet
        exact ⟨rfl, HB⟩
      cases q2
      · go_wp2
        go_meet
        exact ⟨rfl, HB⟩
      have hle := TripFacts.ld_mono HV.out HV2.out
      have hlt : decide (k < n) = false := decide_eq_false (by omega)
      go_wp2
      go_meet
      exact ⟨rfl, HB⟩
    case rest => as_aux_lemma =>
      clear HB HR HV HV2
      obtain ⟨rfl, HB⟩ := hcut
      go_wp2_with fail
      refine (drawQuiet A cap zs wc (HC.out.below HB)).mono ?_
      rintro e w3 ⟨L, g, c, s, hl, hs, rs, rfl, O, hB3⟩
      replace HB := be HB hB3
      have hcp := own_cap O
      have HR := Rd.of_own O
      clear O hs hB3
      obtain ⟨n, q, hv, h0, hk⟩ := TripFacts.lq_told (l := L) (s := s)
      have HV := Lib.hid hv; clear hv
      have HK := Lib.hid hk; clear hk
      have hn0 : decide (n < 0) = false := decide_eq_false (by omega)
      have b4 := bne_b q
      go_wp2_with fail
      refine (TripK.lq_impl (some ⟨g, 0, none⟩) c L s _ HR hcp (by omega)).mono ?_
      rintro e v1 ⟨rfl, hv1⟩
      replace HB := be HB hv1
      replace HR := rd_keep HR hv1
      have zhv1 := hv1.size
      rw [HV.out]
      go_wp2_with fail
      refine (TripK.lq_spec (some ⟨g, 0, none⟩) c L s _ HR (by omega)).mono ?_
      rintro e v2 ⟨rfl, hv2⟩
      replace HB := be HB hv2
      replace HR := rd_keep HR hv2
      have zhv2 := hv2.size
      rw [HV.out]
      go_wp2_with fail
      refine (TripU.mt_impl (some ⟨g, 0, none⟩) c L _ HR hcp (by omega)).mono ?_
      rintro e v3 ⟨m, A3, c3, hm, rfl, T3, hv3⟩
      replace HB := be HB hv3
      replace HR := rd_keep HR hv3
      have zhv3 := hv3.size
      clear T3
      cases q
      · go_wp2
        go_ret
        exact ⟨rfl, HB⟩
      · obtain ⟨hg, hF⟩ := HK.out rfl
        have hm0 := nil_tp hm hF
        subst hm0
        rw [hg]
        go_wp2
        go_ret
        exact ⟨rfl, HB⟩
end Go.Proofs.Ytphflbgljejokaa.TracksLaw
