/- FnDrying, walked. -/
import Derived.Deep.Cut
import Derived.Deep.CutBlock
import Derived.Deep.CutRange
import Derived.Deep.DeepCutAuto
import Derived.Test.YthilbpklmjpmcaaCrysFacts
import Derived.Test.YthilbpklmjpmcaaDCrys
import Derived.Test.YthilbpklmjpmcaaStartG
import Derived.Test.YthilbpklmjpmcaaStartH
namespace Go.Proofs.Ythilbpklmjpmcaa.DryingLaw
open Go.RowKit Go.Proofs.Ythilbpklmjpmcaa.Mem Go.Proofs.Ythilbpklmjpmcaa.Base Go.Proofs.Ythilbpklmjpmcaa.Regn Go.Proofs.Ythilbpklmjpmcaa.Boxes Go.Proofs.Ythilbpklmjpmcaa.Keep Go.Proofs.Ythilbpklmjpmcaa.LiqP Go.Proofs.Ythilbpklmjpmcaa.StartP Go.Proofs.Ythilbpklmjpmcaa.LiqG
set_option linter.unusedVariables false
set_option linter.unusedSimpArgs false
set_option maxRecDepth 100000
abbrev Yes (w : World) (e : Ending) (w' : World) : Prop := e = .returned (.bool true) ∧ Below w.heap.size w w'
set_option maxHeartbeats 8000000 in
theorem law (A : Option Addr) (cap : Nat) (zs : List Int) (w : World) (hr : Rd w w.heap.size A (zs.map (Value.int .u8))) (hn : zs.length ≤ maxLen) (hb : ∀ z ∈ zs, 0 ≤ z ∧ z ≤ 255) :
    Calls Try.prog 4 #[.slice A zs.length cap] w (Yes w) := by
  by_cases hbig : 65536 < zs.length
  · have HG := Lib.hid (show Draw.bigB zs.length = true from decide_eq_true hbig)
    clear hr hb
    go_enter Try.func4, Try.ntmps4
    go_wp2_with fail
    refine (Draw.big_any A cap zs.length w hn).mono ?_
    rintro e w' ⟨rfl, rfl⟩
    rw [HG.out]
    go_wp2
    go_ret
    exact ⟨rfl, Below.refl _ _⟩
  have HG := Lib.hid (show Draw.bigB zs.length = false from decide_eq_false hbig)
  have HN := Lib.hid hn; clear hn
  have HC := Lib.hid (show Draw.Src w A zs from ⟨hr, by omega, hb⟩); clear hr hb
  go_enter Try.func4, Try.ntmps4
  go_wp2_with fail
  refine (Draw.big_any A cap zs.length w HN.out).mono ?_
  rintro e w' ⟨rfl, rfl⟩
  rw [HG.out]
  clear HG hbig HN
  go_wp2_with fail
  refine (DCrys.drawFirst A cap zs w HC.out).mono ?_
  rintro e w1 ⟨L, P, cp, wt, AS, cs, s, hl, hs, rfl, O, hln, OS, HB0⟩
  have K1 := DCrys.ak_of O hln OS hl hs
  clear O OS hln
  go_wp2_with fail
  have B := Box.new HB0 [.int .i64 wt, .slice AS s.length cs] 27 (g := w1.heap.size) rfl
  replace K1 := Ak.keep K1 (al (Below.refl _ _) (o := (.cells #[.int .i64 wt, .slice AS s.length cs] 27)))
  generalize (w1.alloc (.cells #[.int .i64 wt, .slice AS s.length cs] 27)) = W1 at B K1 ⊢
  have B_0 := B.cells 0 _ rfl
  have B_1 := B.cells 1 _ rfl
  have B_f0 := B.free 0 (by simp)
  have B_f1 := B.free 1 (by simp)
  have B_t := B.there
  obtain ⟨x, y, q, hv⟩ := firstV_form L wt s
  have HT := Lib.hid (fun h : q = true => CrysFacts.first_facts (show firstV L wt s = .tuple #[.int .i64 x, .int .i64 y, .bool true] by rw [hv, h]))
  have HV := Lib.hid hv; clear hv
  go_wp2_with fail
  refine (StartG.first_impl P cp L wt AS cs s _ K1).mono ?_
  rintro e v2 ⟨rfl, hv2⟩
  clear B_0 B_1 B_f0 B_f1 B_t
  replace B := B.more hv2
  replace K1 := Ak.keep K1 hv2
  have zhv2 := hv2.size
  clear hv2
  have B_0 := B.cells 0 _ rfl
  have B_1 := B.cells 1 _ rfl
  have B_f0 := B.free 0 (by simp)
  have B_f1 := B.free 1 (by simp)
  have B_t := B.there
  rw [HV.out]
  go_wp2_with fail
  refine (StartG.first_spec P cp L wt AS cs s _ K1).mono ?_
  rintro e v3 ⟨rfl, hv3⟩
  clear B_0 B_1 B_f0 B_f1 B_t
  replace B := B.more hv3
  replace K1 := Ak.keep K1 hv3
  have zhv3 := hv3.size
  clear hv3
  have B_0 := B.cells 0 _ rfl
  have B_1 := B.cells 1 _ rfl
  have B_f0 := B.free 0 (by simp)
  have B_f1 := B.free 1 (by simp)
  have B_t := B.there
  rw [HV.out]
  go_upto_if 75 with fail
  go_cut [] from 3 (fun wc => Below w.heap.size w wc)
  case first => as_aux_lemma =>
    cases q
    · go_wp2
      go_meet
      case rel => exact B.below
    obtain ⟨⟨y0, y1, y2, n6⟩, hz, hmore⟩ := HT.out rfl
    have HZ := Lib.hid hz; clear hz HT HV
    have HM := Lib.hid hmore; clear hmore
    have e1 : IntKind.i64.wrap (wt - y) = wt - y := IntWalk.i64_in _ (by omega)
    have e2 : IntKind.i64.wrap (wt - y + 1) = wt - y + 1 := IntWalk.i64_in _ (by omega)
    go_wp2_with fail
    refine (LiqG.full_impl P cp L (wt - y) AS cs s x _ K1).mono ?_
    rintro e v4 ⟨rfl, hv4⟩
    clear B_0 B_1 B_f0 B_f1 B_t
    replace B := B.more hv4
    replace K1 := Ak.keep K1 hv4
    have zhv4 := hv4.size
    clear hv4
    have B_0 := B.cells 0 _ rfl
    have B_1 := B.cells 1 _ rfl
    have B_f0 := B.free 0 (by simp)
    have B_f1 := B.free 1 (by simp)
    have B_t := B.there
    rw [HZ.out]
    go_upto_region 13 with fail
    have HX := Lib.hid B
    have HK := Lib.hid K1
    clear B B_0 B_1 B_f0 B_f1 B_t K1
    go_loopw [13] (fun iv wr => ∃ k : Nat, k ≤ L.length ∧ iv = .int .i64 k ∧ Hid (Box w1.heap.size [.int .i64 wt, .slice AS s.length cs] w wr) ∧ Hid (LiqG.Ak wr P L AS s)) (fun iv _ => 13 - (intOf iv).toNat)
    case atStart => exact ⟨0, Nat.zero_le _, rfl, HX, HK⟩
    case round =>
      clear HX HK
      obtain ⟨k, hk, rfl, HX, HK⟩ := hrel
      by_cases hlt : k < L.length
      · have d1 : decide ((k : Int) < L.length) = true := decide_eq_true (by omega)
        have d1' : decide (k < L.length) = true := decide_eq_true hlt
        by_cases hy : 0 < y
        · have d2 : decide (0 < y) = true := decide_eq_true hy
          have B0 := HX.out.cells 0 _ rfl
          have B1 := HX.out.cells 1 _ rfl
          have e3 : IntKind.i64.wrap ((k : Int) + 1) = k + 1 := IntWalk.i64_in _ (by omega)
          go_wp2_with fail
          refine (LiqG.full_impl P cp L (wt - y + 1) AS cs s k _ HK.out).mono ?_
          rw [HM.out hy k hlt]
          rintro e w5 ⟨rfl, hv5⟩
          replace HX := Lib.hid (HX.out.more hv5)
          replace HK := Lib.hid (HK.out.keep hv5)
          clear B0 B1 hv5
          go_wp2
          go_roundw
          case rel => exact ⟨k + 1, hlt, rfl, HX, HK⟩
          case measure => simp [intOf]; omega
        · have d2 : decide (0 < y) = false := decide_eq_false hy
          go_wp2
          go_meet
          case rel => exact HX.out.below
      · have d1 : decide ((k : Int) < L.length) = false := decide_eq_false (by omega)
        have d1' : decide (k < L.length) = false := decide_eq_false hlt
        go_wp2
        go_meet
        case rel => exact HX.out.below
  case rest => as_aux_lemma =>
    go_wp2_with fail
    refine (DCrys.drawKeep A cap zs wc (HC.out.below hcut)).mono ?_
    rintro e w2 ⟨L, P, cp, wt, AS, cs, s, ix, hl, hs, hx0, hx1, rfl, O, hln, OS, hB⟩
    have HB0 := be hcut hB
    have K1 := DCrys.ak_of O hln OS hl hs
    clear O OS hln hB hcut
    go_wp2_with fail
    have B := Box.new HB0 [.int .i64 wt, .slice AS s.length cs] 27 (g := w2.heap.size) rfl
    replace K1 := Ak.keep K1 (al (Below.refl _ _) (o := (.cells #[.int .i64 wt, .slice AS s.length cs] 27)))
    generalize (w2.alloc (.cells #[.int .i64 wt, .slice AS s.length cs] 27)) = W1 at B K1 ⊢
    have B_0 := B.cells 0 _ rfl
    have B_1 := B.cells 1 _ rfl
    have B_f0 := B.free 0 (by simp)
    have B_f1 := B.free 1 (by simp)
    have B_t := B.there
    obtain ⟨x, q, hv⟩ := keptV_form L wt s ix
    have HT := Lib.hid (fun h : q = true => CrysFacts.kept_facts (show keptV L wt s ix = .tuple #[.int .i64 x, .bool true] by rw [hv, h]))
    have HV := Lib.hid hv; clear hv
    go_wp2_with fail
    refine (LiqG.kept_impl P cp L wt AS cs s ix _ K1).mono ?_
    rintro e v2 ⟨rfl, hv2⟩
    clear B_0 B_1 B_f0 B_f1 B_t
    replace B := B.more hv2
    replace K1 := Ak.keep K1 hv2
    have zhv2 := hv2.size
    clear hv2
    have B_0 := B.cells 0 _ rfl
    have B_1 := B.cells 1 _ rfl
    have B_f0 := B.free 0 (by simp)
    have B_f1 := B.free 1 (by simp)
    have B_t := B.there
    rw [HV.out]
    go_wp2_with fail
    refine (LiqG.kept_spec P cp L wt AS cs s ix _ K1).mono ?_
    rintro e v3 ⟨rfl, hv3⟩
    clear B_0 B_1 B_f0 B_f1 B_t
    replace B := B.more hv3
    replace K1 := Ak.keep K1 hv3
    have zhv3 := hv3.size
    clear hv3
    have B_0 := B.cells 0 _ rfl
    have B_1 := B.cells 1 _ rfl
    have B_f0 := B.free 0 (by simp)
    have B_f1 := B.free 1 (by simp)
    have B_t := B.there
    rw [HV.out]
    go_upto_if 152 with fail
    go_cut [] from 3 (fun wc => Below w.heap.size w wc)
    case first => as_aux_lemma =>
      cases q
      · go_wp2
        go_meet
        case rel => exact B.below
      obtain ⟨⟨x0, x1, x2⟩, hz, hmore⟩ := HT.out rfl
      have HZ := Lib.hid hz; clear hz HT HV
      have HM := Lib.hid hmore; clear hmore
      have e1 : IntKind.i64.wrap (wt - x) = wt - x := IntWalk.i64_in _ (by omega)
      have e2 : IntKind.i64.wrap (wt - x - 1) = wt - x - 1 := IntWalk.i64_in _ (by omega)
      go_wp2_with fail
      refine (LiqG.full_impl P cp L (wt - x) AS cs s ix _ K1).mono ?_
      rintro e v4 ⟨rfl, hv4⟩
      clear B_0 B_1 B_f0 B_f1 B_t
      replace B := B.more hv4
      replace K1 := Ak.keep K1 hv4
      have zhv4 := hv4.size
      clear hv4
      have B_0 := B.cells 0 _ rfl
      have B_1 := B.cells 1 _ rfl
      have B_f0 := B.free 0 (by simp)
      have B_f1 := B.free 1 (by simp)
      have B_t := B.there
      rw [HZ.out]
      by_cases hx : x < wt
      · have d2 : decide (x < wt) = true := decide_eq_true hx
        go_wp2_with fail
        refine (LiqG.full_impl P cp L (wt - x - 1) AS cs s ix _ K1).mono ?_
        rintro e v5 ⟨rfl, hv5⟩
        clear B_0 B_1 B_f0 B_f1 B_t
        replace B := B.more hv5
        replace K1 := Ak.keep K1 hv5
        have zhv5 := hv5.size
        clear hv5
        have B_0 := B.cells 0 _ rfl
        have B_1 := B.cells 1 _ rfl
        have B_f0 := B.free 0 (by simp)
        have B_f1 := B.free 1 (by simp)
        have B_t := B.there
        rw [HM.out hx]
        go_wp2
        go_meet
        case rel => exact B.below
      · have d2 : decide (x < wt) = false := decide_eq_false hx
        go_wp2
        go_meet
        case rel => exact B.below
    case rest => as_aux_lemma =>
      go_wp2_with fail
      refine (DCrys.drawPure A cap zs wc (HC.out.below hcut)).mono ?_
      rintro e w3 ⟨L, P, cp, wt, AS, cs, s, ix, hl, hs, hx0, hx1, rfl, O, hln, OS, hB⟩
      have HB0 := be hcut hB
      have K1 := DCrys.ak_of O hln OS hl hs
      clear O OS hln hB hcut
      go_wp2_with fail
      have B := Box.new HB0 [.int .i64 wt, .slice AS s.length cs] 27 (g := w3.heap.size) rfl
      replace K1 := Ak.keep K1 (al (Below.refl _ _) (o := (.cells #[.int .i64 wt, .slice AS s.length cs] 27)))
      generalize (w3.alloc (.cells #[.int .i64 wt, .slice AS s.length cs] 27)) = W1 at B K1 ⊢
      have B_0 := B.cells 0 _ rfl
      have B_1 := B.cells 1 _ rfl
      have B_f0 := B.free 0 (by simp)
      have B_f1 := B.free 1 (by simp)
      have B_t := B.there
      obtain ⟨x, y, q, hv⟩ := pureV_form L wt s ix
      have HT := Lib.hid (fun h : q = true => CrysFacts.pure_facts (show pureV L wt s ix = .tuple #[.int .i64 x, .int .i64 y, .bool true] by rw [hv, h]))
      have HV := Lib.hid hv; clear hv
      go_wp2_with fail
      refine (StartH.pure_impl P cp L wt AS cs s ix _ K1).mono ?_
      rintro e v2 ⟨rfl, hv2⟩
      clear B_0 B_1 B_f0 B_f1 B_t
      replace B := B.more hv2
      replace K1 := Ak.keep K1 hv2
      have zhv2 := hv2.size
      clear hv2
      have B_0 := B.cells 0 _ rfl
      have B_1 := B.cells 1 _ rfl
      have B_f0 := B.free 0 (by simp)
      have B_f1 := B.free 1 (by simp)
      have B_t := B.there
      rw [HV.out]
      go_wp2_with fail
      refine (StartH.pure_spec P cp L wt AS cs s ix _ K1).mono ?_
      rintro e v3 ⟨rfl, hv3⟩
      clear B_0 B_1 B_f0 B_f1 B_t
      replace B := B.more hv3
      replace K1 := Ak.keep K1 hv3
      have zhv3 := hv3.size
      clear hv3
      have B_0 := B.cells 0 _ rfl
      have B_1 := B.cells 1 _ rfl
      have B_f0 := B.free 0 (by simp)
      have B_f1 := B.free 1 (by simp)
      have B_t := B.there
      rw [HV.out]
      go_upto_region 37 with fail
      have HX := Lib.hid B
      have HK := Lib.hid K1
      clear B B_0 B_1 B_f0 B_f1 B_t K1
      go_loopw [36] (fun iv wr => ∃ k : Nat, k ≤ L.length ∧ iv = .int .i64 k ∧ Hid (Box w3.heap.size [.int .i64 wt, .slice AS s.length cs] w wr) ∧ Hid (LiqG.Ak wr P L AS s)) (fun iv _ => 13 - (intOf iv).toNat)
      case atStart => exact ⟨0, Nat.zero_le _, rfl, HX, HK⟩
      case round =>
        clear HX HK
        obtain ⟨k, hk, rfl, HX, HK⟩ := hrel
        by_cases hlt : k < L.length
        · have d1 : decide ((k : Int) < L.length) = true := decide_eq_true (by omega)
          have d1' : decide (k < L.length) = true := decide_eq_true hlt
          cases q
          · go_wp2
            go_ret
            exact ⟨rfl, HX.out.below⟩
          obtain ⟨⟨x0, x1, y0, y1, w1m⟩, hall⟩ := HT.out rfl
          obtain ⟨hz, hz2⟩ := hall k hlt
          have HZ := Lib.hid hz; clear hz
          have HZ2 := Lib.hid hz2; clear hz2 hall
          have e1 : IntKind.i64.wrap (wt - x) = wt - x := IntWalk.i64_in _ (by omega)
          have e2 : IntKind.i64.wrap (wt - y) = wt - y := IntWalk.i64_in _ (by omega)
          have e3 : IntKind.i64.wrap ((k : Int) + 1) = k + 1 := IntWalk.i64_in _ (by omega)
          have B0 := HX.out.cells 0 _ rfl
          have B1 := HX.out.cells 1 _ rfl
          go_wp2_with fail
          refine (LiqG.full_impl P cp L (wt - x) AS cs s k _ HK.out).mono ?_
          rw [HZ.out]
          rintro e w5 ⟨rfl, hv5⟩
          replace HX := Lib.hid (HX.out.more hv5)
          replace HK := Lib.hid (HK.out.keep hv5)
          clear B0 B1 hv5
          have B0 := HX.out.cells 0 _ rfl
          have B1 := HX.out.cells 1 _ rfl
          go_wp2_with fail
          refine (LiqG.full_impl P cp L (wt - y) AS cs s k _ HK.out).mono ?_
          rw [HZ2.out]
          rintro e w6 ⟨rfl, hv6⟩
          replace HX := Lib.hid (HX.out.more hv6)
          replace HK := Lib.hid (HK.out.keep hv6)
          clear B0 B1 hv6 HZ HZ2
          by_cases hki : (k : Int) = ix
          · have d5 : decide ((k : Int) = ix) = true := decide_eq_true hki
            have d6 : ((k : Int) == ix) = true := by simpa using hki
            rw [d5]
            clear hki
            go_wp2
            go_roundw
            case rel => exact ⟨k + 1, hlt, rfl, HX, HK⟩
            case measure => simp [intOf]; omega
          · have d5 : decide ((k : Int) = ix) = false := decide_eq_false hki
            have d6 : ((k : Int) == ix) = false := by simpa using hki
            rw [d5]
            clear hki
            go_wp2
            go_roundw
            case rel => exact ⟨k + 1, hlt, rfl, HX, HK⟩
            case measure => simp [intOf]; omega
        · have d1 : decide ((k : Int) < L.length) = false := decide_eq_false (by omega)
          have d1' : decide (k < L.length) = false := decide_eq_false hlt
          go_wp2
          go_ret
          exact ⟨rfl, HX.out.below⟩
end Go.Proofs.Ythilbpklmjpmcaa.DryingLaw
