/- The laws on heaps, walked. Made by tools/law7.py. -/
import Derived.Test.YtoompggbdedkmaaHeapY
import Derived.Test.YtoompggbdedkmaaLaws7a
namespace Go.Proofs.Ytoompggbdedkmaa.Laws7d
open Go.RowKit Go.Proofs.Ytoompggbdedkmaa.Mem Go.Proofs.Ytoompggbdedkmaa.Base Go.Proofs.Ytoompggbdedkmaa.Regn Go.Proofs.Ytoompggbdedkmaa.Boxes Go.Proofs.Ytoompggbdedkmaa.Keep Go.Proofs.Ytoompggbdedkmaa.Nest Go.Proofs.Ytoompggbdedkmaa.HeapS Go.Proofs.Ytoompggbdedkmaa.HeapW Go.Proofs.Ytoompggbdedkmaa.HeapE Go.Proofs.Ytoompggbdedkmaa.Heap Go.Proofs.Ytoompggbdedkmaa.HeapG Go.Proofs.Ytoompggbdedkmaa.HeapT Go.Proofs.Ytoompggbdedkmaa.Heap2 Go.Proofs.Ytoompggbdedkmaa.HeapY Go.Proofs.Ytoompggbdedkmaa.Laws7a
set_option linter.unusedVariables false
set_option maxRecDepth 100000
set_option maxHeartbeats 800000 in
theorem hi_law (P : Option Addr) (cap : Nat) (l : List HeapS.R) (w : World) (hr : Arg w P l) :
    Calls Try.prog 13 #[.slice P l.length cap] w (Yes w) := by
  obtain ⟨v, hv⟩ : ∃ v, szA 1048576 l = v := ⟨_, rfl⟩
  have HSZ := Lib.hid hv
  rcases szA_ok l with hb | ⟨hb, hn, hrn⟩
  · have HE := Lib.hid hb; clear hb hv
    go_enter Try.func13, Try.ntmps13
    go_wp2_with fail
    refine (szS_any P cap l w hr).mono ?_
    rintro e v1 ⟨rfl, hb0⟩
    rw [HE.out]
    go_wp2
    go_ret
    exact ⟨rfl, hb0⟩
  obtain ⟨x, q, hv2⟩ : ∃ x q, hiV (pl l) = .tuple #[.int .i64 x, .bool q] := hiV_form (pl l)
  have HV := Lib.hid hv2; clear hv2
  have HS := Lib.hid (hr.hs hn hrn)
  have hv0 : decide (v < 0) = false := by rw [← hv]; exact decide_eq_false (by omega)
  clear hb hv hn hrn
  go_enter Try.func13, Try.ntmps13
  go_wp2_with fail
  refine (szS_any P cap l w hr).mono ?_
  rintro e v1 ⟨rfl, HB⟩
  rw [HSZ.out]
  clear hr
  go_wp2_with fail
  refine (toS_any P cap l _ (HS.out.keep HB)).mono ?_
  rintro e v2 ⟨m, hm, rfl, O, hv2⟩
  replace HB := be HB hv2
  have zhv2 := hv2.size
  have hs := hs_of O hm HS.out
  have HM := Lib.hid hm; clear hm O
  go_wp2_with fail
  refine (hi_spec _ _ m _ hs).mono ?_
  rintro e v3 ⟨rfl, hv3⟩
  replace HB := be HB hv3
  have zhv3 := hv3.size
  rw [HM.out, HV.out]
  clear hs HM
  go_wp2_with fail
  refine (toS_any P cap l _ (HS.out.keep HB)).mono ?_
  rintro e v4 ⟨m2, hm2, rfl, O2, hv4⟩
  replace HB := be HB hv4
  have zhv4 := hv4.size
  have hs2 := hs_of O2 hm2 HS.out
  have HM2 := Lib.hid hm2; clear hm2 O2
  go_wp2_with fail
  refine (hi_impl _ _ m2 _ hs2).mono ?_
  rintro e v5 ⟨rfl, hv5⟩
  replace HB := be HB hv5
  replace hs2 := Hs.keep hs2 hv5
  have zhv5 := hv5.size
  rw [HM2.out, HV.out]
  go_wp2_with fail
  refine (toS_any P cap l _ (HS.out.keep HB)).mono ?_
  rintro e v6 ⟨m3, hm3, rfl, O3, hv6⟩
  replace HB := be HB hv6
  replace hs2 := Hs.keep hs2 hv6
  have zhv6 := hv6.size
  have hs3 := hs_of O3 hm3 HS.out
  have HM3 := Lib.hid (decide_eq_true (HM2.out.trans hm3.symm)); clear hm3 O3
  go_wp2_with fail
  refine (HeapE.eqS_any _ _ _ _ m2 m3 _ hs2 hs3).mono ?_
  rintro e v7 ⟨rfl, hv7⟩
  replace HB := be HB hv7
  replace hs2 := Hs.keep hs2 hv7
  have zhv7 := hv7.size
  rw [HM3.out]
  go_wp2
  go_ret
  exact ⟨rfl, HB⟩
end Go.Proofs.Ytoompggbdedkmaa.Laws7d
