/- FnBrines, walked. -/
import Derived.Test.YtpblkkfafmcnpaaDoorBrinesLaw0
import Derived.Deep.Cut
import Derived.Deep.CutBlock
namespace Go.Proofs.YtpblkkfafmcnpaaDoor.BrinesLaw
open Go.RowKit Go.Proofs.YtpblkkfafmcnpaaDoor.Mem Go.Proofs.YtpblkkfafmcnpaaDoor.Base Go.Proofs.YtpblkkfafmcnpaaDoor.Draw Go.Proofs.YtpblkkfafmcnpaaDoor.Brine Go.Proofs.YtpblkkfafmcnpaaDoor.Regn Go.Proofs.YtpblkkfafmcnpaaDoor.Boxes Go.Proofs.YtpblkkfafmcnpaaDoor.Keep Go.Proofs.YtpblkkfafmcnpaaDoor.IBrine Go.Proofs.YtpblkkfafmcnpaaDoor.SBrine Go.Proofs.YtpblkkfafmcnpaaDoor.Num Go.Proofs.YtpblkkfafmcnpaaDoor.Pbr Go.Proofs.YtpblkkfafmcnpaaDoor.BrinesLaw0
set_option linter.unusedVariables false
set_option maxRecDepth 100000
set_option maxHeartbeats 6400000 in
theorem law (A : Option Addr) (cap : Nat) (zs : List Int) (w : World) (hr : Rd w w.heap.size A (zs.map (Value.int .u8))) (hn : zs.length ≤ maxLen) (hb : ∀ z ∈ zs, 0 ≤ z ∧ z ≤ 255) (hv : Vars w) (ht : Tab w) :
    Calls Tryd.prog 3 #[.slice A zs.length cap] w fun e w' => e = .returned (.bool true) ∧ Below w.heap.size w w' := by
  by_cases hbig : 65536 < zs.length
  · have HG := Lib.hid (show bigB zs.length = true from decide_eq_true hbig)
    clear hr hb hv ht
    go_enter Tryd.func3, Tryd.ntmps3
    go_wp2_with fail
    refine (big_any A cap zs.length w hn).mono ?_
    rintro e w' ⟨rfl, rfl⟩
    rw [HG.out]
    go_wp2
    go_ret
    exact ⟨rfl, Below.refl _ _⟩
  have HG := Lib.hid (show bigB zs.length = false from decide_eq_false hbig)
  have HN := Lib.hid hn; clear hn
  have HVars := Lib.hid hv; clear hv
  have HTab := Lib.hid ht; clear ht
  have HC := Lib.hid (show Src w A zs from ⟨hr, by omega, hb⟩); clear hr hb
  go_enter Tryd.func3, Tryd.ntmps3
  go_wp2_with fail
  refine (big_any A cap zs.length w HN.out).mono ?_
  rintro e w' ⟨rfl, rfl⟩
  rw [HG.out]
  clear HG hbig HN
  go_wp2_with fail
  refine (DBrine.drawText A cap zs w HC.out).mono ?_
  rintro e w1 ⟨⟨a, b, hab, rfl⟩, HB0⟩
  clear hab
  obtain ⟨t, q, x, y, p, hv, hok, hsz, hf, hq⟩ := text_form a b
  have HV := Lib.hid hv; clear hv
  have HO := Lib.hid hok; clear hok
  have HS := Lib.hid hsz; clear hsz
  have HF := Lib.hid hf; clear hf
  have HQ := Lib.hid hq; clear hq
  go_wp2_with fail
  have B := Box.new HB0 [.int .i64 a, .int .i64 b] 25 (g := w1.heap.size) rfl
  generalize (w1.alloc (.cells #[.int .i64 a, .int .i64 b] 25)) = W1 at B ⊢
  have B_0 := B.cells 0 _ rfl
  have B_1 := B.cells 1 _ rfl
  have B_f0 := B.free 0 (by simp)
  have B_f1 := B.free 1 (by simp)
  have B_t := B.there
  go_wp2_with fail
  refine (Text.btext_impl a b _ (HTab.out.below B.below)).mono ?_
  rintro e v2 ⟨rfl, hv2⟩
  clear B_0 B_1 B_f0 B_f1 B_t
  replace B := B.more hv2
  have zhv2 := hv2.size
  clear hv2
  have B_0 := B.cells 0 _ rfl
  have B_1 := B.cells 1 _ rfl
  have B_f0 := B.free 0 (by simp)
  have B_f1 := B.free 1 (by simp)
  have B_t := B.there
  rw [HV.out]
  go_wp2_with fail
  refine ((Pbr.pb_impl t _ (by have := HS.out; omega) (HVars.out.below B.below) (HTab.out.below B.below)).mono (HF.out _)).mono ?_
  rintro e w2 ⟨rfl, hv2⟩
  clear B_0 B_1 B_f0 B_f1 B_t
  replace B := B.more hv2
  have zhv2 := hv2.size
  clear hv2
  have B_0 := B.cells 0 _ rfl
  have B_1 := B.cells 1 _ rfl
  have B_f0 := B.free 0 (by simp)
  have B_f1 := B.free 1 (by simp)
  have B_t := B.there
  unfold br
  go_wp2_with fail
  have B_t3 := B.there
  have E := Box.new B.below [.int .i64 x, .int .i64 y] 25 (g := w2.heap.size) rfl
  clear B_0 B_1 B_f0 B_f1 B_t
  replace B := (B).alloc (.cells #[.int .i64 x, .int .i64 y] 25)
  generalize (w2.alloc (.cells #[.int .i64 x, .int .i64 y] 25)) = W3 at E B ⊢
  have B_0 := B.cells 0 _ rfl
  have B_1 := B.cells 1 _ rfl
  have B_f0 := B.free 0 (by simp)
  have B_f1 := B.free 1 (by simp)
  have B_t := B.there
  have E_0 := E.cells 0 _ rfl
  have E_1 := E.cells 1 _ rfl
  have E_f0 := E.free 0 (by simp)
  have E_f1 := E.free 1 (by simp)
  have E_t := E.there
  go_wp2_with fail
  refine (Text.btext_spec a b _).mono ?_
  rintro e v4 ⟨rfl, hv4⟩
  clear B_0 B_1 B_f0 B_f1 B_t
  clear E_0 E_1 E_f0 E_f1 E_t
  replace B := B.more hv4
  replace E := E.more hv4
  have zhv4 := hv4.size
  clear hv4
  have B_0 := B.cells 0 _ rfl
  have B_1 := B.cells 1 _ rfl
  have B_f0 := B.free 0 (by simp)
  have B_f1 := B.free 1 (by simp)
  have B_t := B.there
  have E_0 := E.cells 0 _ rfl
  have E_1 := E.cells 1 _ rfl
  have E_f0 := E.free 0 (by simp)
  have E_f1 := E.free 1 (by simp)
  have E_t := E.there
  rw [HV.out]
  go_upto_region 7 with fail
  go_cut [84] from 40 (fun c wc => c = .bool false ∧ Below w.heap.size w wc)
  case first => as_aux_lemma =>
    cases q
    · go_wp2_with fail
      refine (brine_impl a b _).mono ?_
      rintro e v5 ⟨rfl, hv5⟩
      clear B_0 B_1 B_f0 B_f1 B_t
      clear E_0 E_1 E_f0 E_f1 E_t
      replace B := B.more hv5
      replace E := E.more hv5
      have zhv5 := hv5.size
      clear hv5
      have B_0 := B.cells 0 _ rfl
      have B_1 := B.cells 1 _ rfl
      have B_f0 := B.free 0 (by simp)
      have B_f1 := B.free 1 (by simp)
      have B_t := B.there
      have E_0 := E.cells 0 _ rfl
      have E_1 := E.cells 1 _ rfl
      have E_f0 := E.free 0 (by simp)
      have E_f1 := E.free 1 (by simp)
      have E_t := E.there
      rw [HO.out]
      go_wp2
      go_meet
      exact ⟨rfl, B.below⟩
    · obtain ⟨rfl, rfl, rfl⟩ := HQ.out rfl
      go_wp2_with fail
      refine (brine_impl x y _).mono ?_
      rintro e v6 ⟨rfl, hv6⟩
      clear B_0 B_1 B_f0 B_f1 B_t
      clear E_0 E_1 E_f0 E_f1 E_t
      replace B := B.more hv6
      replace E := E.more hv6
      have zhv6 := hv6.size
      clear hv6
      have B_0 := B.cells 0 _ rfl
      have B_1 := B.cells 1 _ rfl
      have B_f0 := B.free 0 (by simp)
      have B_f1 := B.free 1 (by simp)
      have B_t := B.there
      have E_0 := E.cells 0 _ rfl
      have E_1 := E.cells 1 _ rfl
      have E_f0 := E.free 0 (by simp)
      have E_f1 := E.free 1 (by simp)
      have E_t := E.there
      rw [HO.out]
      go_wp2
      go_meet
      exact ⟨rfl, B.below⟩
  case rest => as_aux_lemma =>
    obtain ⟨rfl, hcut⟩ := hcut
    clear B B_0 B_1 B_f0 B_f1 B_t E E_0 E_1 E_f0 E_f1 E_t HV HO HS HF HQ HB0
    go_wp2_with fail
    refine (DBrine3.drawParse A cap zs wc (HC.out.below hcut)).mono ?_
    rintro e w3 ⟨⟨s, hs, rfl⟩, hB⟩
    have HB0 := hcut.trans (hB.mono hcut.size)
    clear hB hcut
    have HS := Lib.hid hs; clear hs
    obtain ⟨x, y, p, t, q, hf, hv, hq⟩ := read_form s
    have HV := Lib.hid hv; clear hv
    have HF := Lib.hid hf; clear hf
    have HQ := Lib.hid hq; clear hq
    go_wp2_with fail
    refine ((Pbr.pb_impl s _ (by have := HS.out; omega) (HVars.out.below HB0) (HTab.out.below HB0)).mono (HF.out _)).mono ?_
    rintro e w4 ⟨rfl, hv2⟩
    replace HB0 := HB0.trans (hv2.mono HB0.size)
    clear hv2
    unfold br
    go_wp2_with fail
    have B := Box.new HB0 [.int .i64 x, .int .i64 y] 25 (g := w4.heap.size) rfl
    generalize (w4.alloc (.cells #[.int .i64 x, .int .i64 y] 25)) = W1 at B ⊢
    have B_0 := B.cells 0 _ rfl
    have B_1 := B.cells 1 _ rfl
    have B_f0 := B.free 0 (by simp)
    have B_f1 := B.free 1 (by simp)
    have B_t := B.there
    go_wp2_with fail
    refine (Text.btext_impl x y _ (HTab.out.below B.below)).mono ?_
    rintro e v2 ⟨rfl, hv2⟩
    clear B_0 B_1 B_f0 B_f1 B_t
    replace B := B.more hv2
    have zhv2 := hv2.size
    clear hv2
    have B_0 := B.cells 0 _ rfl
    have B_1 := B.cells 1 _ rfl
    have B_f0 := B.free 0 (by simp)
    have B_f1 := B.free 1 (by simp)
    have B_t := B.there
    rw [HV.out]
    go_wp2_with fail
    refine ((Pbr.pb_spec s _ (by have := HS.out; omega)).mono (HF.out _)).mono ?_
    rintro e w5 ⟨rfl, hv2⟩
    clear B_0 B_1 B_f0 B_f1 B_t
    replace B := B.more hv2
    have zhv2 := hv2.size
    clear hv2
    have B_0 := B.cells 0 _ rfl
    have B_1 := B.cells 1 _ rfl
    have B_f0 := B.free 0 (by simp)
    have B_f1 := B.free 1 (by simp)
    have B_t := B.there
    unfold br
    go_upto_region 13 with fail
    have B_t3 := B.there
    have E := Box.new B.below [.int .i64 x, .int .i64 y] 25 (g := w5.heap.size) rfl
    clear B_0 B_1 B_f0 B_f1 B_t
    replace B := (B).alloc (.cells #[.int .i64 x, .int .i64 y] 25)
    generalize (w5.alloc (.cells #[.int .i64 x, .int .i64 y] 25)) = W3 at E B ⊢
    have B_0 := B.cells 0 _ rfl
    have B_1 := B.cells 1 _ rfl
    have B_f0 := B.free 0 (by simp)
    have B_f1 := B.free 1 (by simp)
    have B_t := B.there
    have E_0 := E.cells 0 _ rfl
    have E_1 := E.cells 1 _ rfl
    have E_f0 := E.free 0 (by simp)
    have E_f1 := E.free 1 (by simp)
    have E_t := E.there
    go_cut [121] from 40 (fun c wc => c = .bool false ∧ Below w.heap.size w wc)
    case first => as_aux_lemma =>
      cases p
      · go_wp2
        go_meet
        exact ⟨rfl, B.below⟩
      · obtain ⟨rfl, rfl⟩ := HQ.out rfl
        go_wp2
        go_meet
        exact ⟨rfl, B.below⟩
    case rest => as_aux_lemma =>
      obtain ⟨rfl, hcut⟩ := hcut
      clear B B_0 B_1 B_f0 B_f1 B_t E E_0 E_1 E_f0 E_f1 E_t HV HS HF HQ HB0
      go_wp2_with fail
      refine (DBrine.drawTake A cap zs wc (HC.out.below hcut)).mono ?_
      rintro e w6 ⟨⟨a, b, n, hab, rfl⟩, hB⟩
      have HB0 := hcut.trans (hB.mono hcut.size)
      clear hB hcut hab
      obtain ⟨x, y, u, v, q, hv, hq⟩ := take_form a b n
      have HV := Lib.hid hv; clear hv
      have HQ := Lib.hid hq; clear hq
      go_wp2_with fail
      have B := Box.new HB0 [.int .i64 a, .int .i64 b] 25 (g := w6.heap.size) rfl
      generalize (w6.alloc (.cells #[.int .i64 a, .int .i64 b] 25)) = W1 at B ⊢
      have B_0 := B.cells 0 _ rfl
      have B_1 := B.cells 1 _ rfl
      have B_f0 := B.free 0 (by simp)
      have B_f1 := B.free 1 (by simp)
      have B_t := B.there
      go_wp2_with fail
      refine (IBrine3.take_impl a b n _).mono ?_
      rintro e v2 ⟨rfl, hv2⟩
      clear B_0 B_1 B_f0 B_f1 B_t
      replace B := B.more hv2
      have zhv2 := hv2.size
      clear hv2
      have B_0 := B.cells 0 _ rfl
      have B_1 := B.cells 1 _ rfl
      have B_f0 := B.free 0 (by simp)
      have B_f1 := B.free 1 (by simp)
      have B_t := B.there
      rw [HV.out]
      unfold br
      go_wp2_with fail
      have B_t3 := B.there
      have P := (Box.new B.below [.int .i64 x, .int .i64 y] 25 (g := v2.heap.size) rfl).alloc (.cells #[.int .i64 u, .int .i64 v] 25)
      have Q := Box.new (al B.below (o := (.cells #[.int .i64 x, .int .i64 y] 25))) [.int .i64 u, .int .i64 v] 25 (g := v2.heap.size + 1) (by simp only [size_alloc'])
      clear B_0 B_1 B_f0 B_f1 B_t
      replace B := ((B).alloc (.cells #[.int .i64 x, .int .i64 y] 25)).alloc (.cells #[.int .i64 u, .int .i64 v] 25)
      generalize ((v2.alloc (.cells #[.int .i64 x, .int .i64 y] 25)).alloc (.cells #[.int .i64 u, .int .i64 v] 25)) = W3 at P Q B ⊢
      have B_0 := B.cells 0 _ rfl
      have B_1 := B.cells 1 _ rfl
      have B_f0 := B.free 0 (by simp)
      have B_f1 := B.free 1 (by simp)
      have B_t := B.there
      have P_0 := P.cells 0 _ rfl
      have P_1 := P.cells 1 _ rfl
      have P_f0 := P.free 0 (by simp)
      have P_f1 := P.free 1 (by simp)
      have P_t := P.there
      have Q_0 := Q.cells 0 _ rfl
      have Q_1 := Q.cells 1 _ rfl
      have Q_f0 := Q.free 0 (by simp)
      have Q_f1 := Q.free 1 (by simp)
      have Q_t := Q.there
      go_wp2_with fail
      refine (Brine6.take_spec a b n _).mono ?_
      rintro e v4 ⟨rfl, hv4⟩
      clear B_0 B_1 B_f0 B_f1 B_t
      clear P_0 P_1 P_f0 P_f1 P_t
      clear Q_0 Q_1 Q_f0 Q_f1 Q_t
      replace B := B.more hv4
      replace P := P.more hv4
      replace Q := Q.more hv4
      have zhv4 := hv4.size
      clear hv4
      have B_0 := B.cells 0 _ rfl
      have B_1 := B.cells 1 _ rfl
      have B_f0 := B.free 0 (by simp)
      have B_f1 := B.free 1 (by simp)
      have B_t := B.there
      have P_0 := P.cells 0 _ rfl
      have P_1 := P.cells 1 _ rfl
      have P_f0 := P.free 0 (by simp)
      have P_f1 := P.free 1 (by simp)
      have P_t := P.there
      have Q_0 := Q.cells 0 _ rfl
      have Q_1 := Q.cells 1 _ rfl
      have Q_f0 := Q.free 0 (by simp)
      have Q_f1 := Q.free 1 (by simp)
      have Q_t := Q.there
      rw [HV.out]
      unfold br
      go_upto_region 18 with fail
      have B_t5 := B.there
      have P_t5 := P.there
      have Q_t5 := Q.there
      have C := (Box.new B.below [.int .i64 x, .int .i64 y] 25 (g := v4.heap.size) rfl).alloc (.cells #[.int .i64 u, .int .i64 v] 25)
      have D := Box.new (al B.below (o := (.cells #[.int .i64 x, .int .i64 y] 25))) [.int .i64 u, .int .i64 v] 25 (g := v4.heap.size + 1) (by simp only [size_alloc'])
      clear B_0 B_1 B_f0 B_f1 B_t
      replace B := ((B).alloc (.cells #[.int .i64 x, .int .i64 y] 25)).alloc (.cells #[.int .i64 u, .int .i64 v] 25)
      clear P_0 P_1 P_f0 P_f1 P_t
      replace P := ((P).alloc (.cells #[.int .i64 x, .int .i64 y] 25)).alloc (.cells #[.int .i64 u, .int .i64 v] 25)
      clear Q_0 Q_1 Q_f0 Q_f1 Q_t
      replace Q := ((Q).alloc (.cells #[.int .i64 x, .int .i64 y] 25)).alloc (.cells #[.int .i64 u, .int .i64 v] 25)
      generalize ((v4.alloc (.cells #[.int .i64 x, .int .i64 y] 25)).alloc (.cells #[.int .i64 u, .int .i64 v] 25)) = W5 at C D B P Q ⊢
      have B_0 := B.cells 0 _ rfl
      have B_1 := B.cells 1 _ rfl
      have B_f0 := B.free 0 (by simp)
      have B_f1 := B.free 1 (by simp)
      have B_t := B.there
      have P_0 := P.cells 0 _ rfl
      have P_1 := P.cells 1 _ rfl
      have P_f0 := P.free 0 (by simp)
      have P_f1 := P.free 1 (by simp)
      have P_t := P.there
      have Q_0 := Q.cells 0 _ rfl
      have Q_1 := Q.cells 1 _ rfl
      have Q_f0 := Q.free 0 (by simp)
      have Q_f1 := Q.free 1 (by simp)
      have Q_t := Q.there
      have C_0 := C.cells 0 _ rfl
      have C_1 := C.cells 1 _ rfl
      have C_f0 := C.free 0 (by simp)
      have C_f1 := C.free 1 (by simp)
      have C_t := C.there
      have D_0 := D.cells 0 _ rfl
      have D_1 := D.cells 1 _ rfl
      have D_f0 := D.free 0 (by simp)
      have D_f1 := D.free 1 (by simp)
      have D_t := D.there
      go_upto_if 154 with fail
      go_cut [] from 40 (fun wc => Below w.heap.size w wc)
      case first => as_aux_lemma =>
        cases q
        · go_wp2
          go_meet
          case rel => exact B.below
        · obtain ⟨hm, hw⟩ := HQ.out rfl
          have HM := Lib.hid hm; clear hm
          go_wp2_with fail
          have B_t6 := B.there
          have P_t6 := P.there
          have Q_t6 := Q.there
          have C_t6 := C.there
          have D_t6 := D.there
          have M := Box.new B.below [.int .i64 x, .int .i64 y, .int .i64 u, .int .i64 v] 25 (g := W5.heap.size) rfl
          clear B_0 B_1 B_f0 B_f1 B_t
          replace B := (B).alloc (.cells #[.int .i64 x, .int .i64 y, .int .i64 u, .int .i64 v] 25)
          clear P_0 P_1 P_f0 P_f1 P_t
          replace P := (P).alloc (.cells #[.int .i64 x, .int .i64 y, .int .i64 u, .int .i64 v] 25)
          clear Q_0 Q_1 Q_f0 Q_f1 Q_t
          replace Q := (Q).alloc (.cells #[.int .i64 x, .int .i64 y, .int .i64 u, .int .i64 v] 25)
          clear C_0 C_1 C_f0 C_f1 C_t
          replace C := (C).alloc (.cells #[.int .i64 x, .int .i64 y, .int .i64 u, .int .i64 v] 25)
          clear D_0 D_1 D_f0 D_f1 D_t
          replace D := (D).alloc (.cells #[.int .i64 x, .int .i64 y, .int .i64 u, .int .i64 v] 25)
          generalize (W5.alloc (.cells #[.int .i64 x, .int .i64 y, .int .i64 u, .int .i64 v] 25)) = W6 at M B P Q C D ⊢
          have B_0 := B.cells 0 _ rfl
          have B_1 := B.cells 1 _ rfl
          have B_f0 := B.free 0 (by simp)
          have B_f1 := B.free 1 (by simp)
          have B_t := B.there
          have P_0 := P.cells 0 _ rfl
          have P_1 := P.cells 1 _ rfl
          have P_f0 := P.free 0 (by simp)
          have P_f1 := P.free 1 (by simp)
          have P_t := P.there
          have Q_0 := Q.cells 0 _ rfl
          have Q_1 := Q.cells 1 _ rfl
          have Q_f0 := Q.free 0 (by simp)
          have Q_f1 := Q.free 1 (by simp)
          have Q_t := Q.there
          have C_0 := C.cells 0 _ rfl
          have C_1 := C.cells 1 _ rfl
          have C_f0 := C.free 0 (by simp)
          have C_f1 := C.free 1 (by simp)
          have C_t := C.there
          have D_0 := D.cells 0 _ rfl
          have D_1 := D.cells 1 _ rfl
          have D_f0 := D.free 0 (by simp)
          have D_f1 := D.free 1 (by simp)
          have D_t := D.there
          have M_0 := M.cells 0 _ rfl
          have M_1 := M.cells 1 _ rfl
          have M_2 := M.cells 2 _ rfl
          have M_3 := M.cells 3 _ rfl
          have M_f0 := M.free 0 (by simp)
          have M_f1 := M.free 1 (by simp)
          have M_f2 := M.free 2 (by simp)
          have M_f3 := M.free 3 (by simp)
          have M_t := M.there
          go_wp2_with fail
          refine (Mix.mix_impl _ 2 [⟨x, y⟩, ⟨u, v⟩] _ (show Rd _ _ _ (SBrine.flat [⟨x, y⟩, ⟨u, v⟩]) from M.rd) (by simp)).mono ?_
          rintro e v7 ⟨rfl, hv7⟩
          clear B_0 B_1 B_f0 B_f1 B_t
          clear P_0 P_1 P_f0 P_f1 P_t
          clear Q_0 Q_1 Q_f0 Q_f1 Q_t
          clear C_0 C_1 C_f0 C_f1 C_t
          clear D_0 D_1 D_f0 D_f1 D_t
          clear M_0 M_1 M_2 M_3 M_f0 M_f1 M_f2 M_f3 M_t
          replace B := B.more hv7
          replace P := P.more hv7
          replace Q := Q.more hv7
          replace C := C.more hv7
          replace D := D.more hv7
          replace M := M.more hv7
          have zhv7 := hv7.size
          clear hv7
          have B_0 := B.cells 0 _ rfl
          have B_1 := B.cells 1 _ rfl
          have B_f0 := B.free 0 (by simp)
          have B_f1 := B.free 1 (by simp)
          have B_t := B.there
          have P_0 := P.cells 0 _ rfl
          have P_1 := P.cells 1 _ rfl
          have P_f0 := P.free 0 (by simp)
          have P_f1 := P.free 1 (by simp)
          have P_t := P.there
          have Q_0 := Q.cells 0 _ rfl
          have Q_1 := Q.cells 1 _ rfl
          have Q_f0 := Q.free 0 (by simp)
          have Q_f1 := Q.free 1 (by simp)
          have Q_t := Q.there
          have C_0 := C.cells 0 _ rfl
          have C_1 := C.cells 1 _ rfl
          have C_f0 := C.free 0 (by simp)
          have C_f1 := C.free 1 (by simp)
          have C_t := C.there
          have D_0 := D.cells 0 _ rfl
          have D_1 := D.cells 1 _ rfl
          have D_f0 := D.free 0 (by simp)
          have D_f1 := D.free 1 (by simp)
          have D_t := D.there
          have M_0 := M.cells 0 _ rfl
          have M_1 := M.cells 1 _ rfl
          have M_2 := M.cells 2 _ rfl
          have M_3 := M.cells 3 _ rfl
          have M_f0 := M.free 0 (by simp)
          have M_f1 := M.free 1 (by simp)
          have M_f2 := M.free 2 (by simp)
          have M_f3 := M.free 3 (by simp)
          have M_t := M.there
          rw [HM.out]
          unfold br
          go_upto_region 22 with fail
          have B_t8 := B.there
          have P_t8 := P.there
          have Q_t8 := Q.there
          have C_t8 := C.there
          have D_t8 := D.there
          have M_t8 := M.there
          have N := Box.new B.below [.int .i64 a, .int .i64 b] 25 (g := v7.heap.size) rfl
          clear B_0 B_1 B_f0 B_f1 B_t
          replace B := (B).alloc (.cells #[.int .i64 a, .int .i64 b] 25)
          clear P_0 P_1 P_f0 P_f1 P_t
          replace P := (P).alloc (.cells #[.int .i64 a, .int .i64 b] 25)
          clear Q_0 Q_1 Q_f0 Q_f1 Q_t
          replace Q := (Q).alloc (.cells #[.int .i64 a, .int .i64 b] 25)
          clear C_0 C_1 C_f0 C_f1 C_t
          replace C := (C).alloc (.cells #[.int .i64 a, .int .i64 b] 25)
          clear D_0 D_1 D_f0 D_f1 D_t
          replace D := (D).alloc (.cells #[.int .i64 a, .int .i64 b] 25)
          clear M_0 M_1 M_2 M_3 M_f0 M_f1 M_f2 M_f3 M_t
          replace M := (M).alloc (.cells #[.int .i64 a, .int .i64 b] 25)
          generalize (v7.alloc (.cells #[.int .i64 a, .int .i64 b] 25)) = W8 at N B P Q C D M ⊢
          have B_0 := B.cells 0 _ rfl
          have B_1 := B.cells 1 _ rfl
          have B_f0 := B.free 0 (by simp)
          have B_f1 := B.free 1 (by simp)
          have B_t := B.there
          have P_0 := P.cells 0 _ rfl
          have P_1 := P.cells 1 _ rfl
          have P_f0 := P.free 0 (by simp)
          have P_f1 := P.free 1 (by simp)
          have P_t := P.there
          have Q_0 := Q.cells 0 _ rfl
          have Q_1 := Q.cells 1 _ rfl
          have Q_f0 := Q.free 0 (by simp)
          have Q_f1 := Q.free 1 (by simp)
          have Q_t := Q.there
          have C_0 := C.cells 0 _ rfl
          have C_1 := C.cells 1 _ rfl
          have C_f0 := C.free 0 (by simp)
          have C_f1 := C.free 1 (by simp)
          have C_t := C.there
          have D_0 := D.cells 0 _ rfl
          have D_1 := D.cells 1 _ rfl
          have D_f0 := D.free 0 (by simp)
          have D_f1 := D.free 1 (by simp)
          have D_t := D.there
          have M_0 := M.cells 0 _ rfl
          have M_1 := M.cells 1 _ rfl
          have M_2 := M.cells 2 _ rfl
          have M_3 := M.cells 3 _ rfl
          have M_f0 := M.free 0 (by simp)
          have M_f1 := M.free 1 (by simp)
          have M_f2 := M.free 2 (by simp)
          have M_f3 := M.free 3 (by simp)
          have M_t := M.there
          have N_0 := N.cells 0 _ rfl
          have N_1 := N.cells 1 _ rfl
          have N_f0 := N.free 0 (by simp)
          have N_f1 := N.free 1 (by simp)
          have N_t := N.there
          go_wp2
          go_meet
          case rel => exact B.below
      case rest => as_aux_lemma =>
        clear B B_0 B_1 B_f0 B_f1 B_t P P_0 P_1 P_f0 P_f1 P_t Q Q_0 Q_1 Q_f0 Q_f1 Q_t C C_0 C_1 C_f0 C_f1 C_t D D_0 D_1 D_f0 D_f1 D_t HV HQ HB0
        go_wp2_with fail
        refine (DBrine.drawSplit A cap zs wc (HC.out.below hcut)).mono ?_
        rintro e w7 ⟨⟨a, b, n, hab, rfl⟩, hB⟩
        have HB0 := hcut.trans (hB.mono hcut.size)
        clear hB hcut hab
        obtain ⟨L, q, hl, hk, hlen, hq⟩ := half_form a b n
        have hi := Halve.half_impl a b n
        have hs := Halve.half_spec a b n
        unfold Halve.HalfPost at hi hs
        rw [hl, hk] at hi hs
        clear hl hk
        have HI := Lib.hid hi; clear hi
        have HS := Lib.hid hs; clear hs
        have HQ := Lib.hid hq; clear hq
        go_wp2_with fail
        have B := Box.new HB0 [.int .i64 a, .int .i64 b] 25 (g := w7.heap.size) rfl
        generalize (w7.alloc (.cells #[.int .i64 a, .int .i64 b] 25)) = W1 at B ⊢
        have B_0 := B.cells 0 _ rfl
        have B_1 := B.cells 1 _ rfl
        have B_f0 := B.free 0 (by simp)
        have B_f1 := B.free 1 (by simp)
        have B_t := B.there
        go_wp2_with fail
        refine (HI.out _).mono ?_
        rintro e v2 ⟨A1, c1, rfl, O1, hv2⟩
        clear B_0 B_1 B_f0 B_f1 B_t
        replace B := B.more hv2
        have zhv2 := hv2.size
        clear hv2
        have B_0 := B.cells 0 _ rfl
        have B_1 := B.cells 1 _ rfl
        have B_f0 := B.free 0 (by simp)
        have B_f1 := B.free 1 (by simp)
        have B_t := B.there
        go_wp2_with fail
        refine (HS.out _).mono ?_
        rintro e v3 ⟨A2, c2, rfl, O2, hv3⟩
        clear B_0 B_1 B_f0 B_f1 B_t
        replace B := B.more hv3
        replace O1 := own_keep O1 hv3
        have zhv3 := hv3.size
        clear hv3
        have B_0 := B.cells 0 _ rfl
        have B_1 := B.cells 1 _ rfl
        have B_f0 := B.free 0 (by simp)
        have B_f1 := B.free 1 (by simp)
        have B_t := B.there
        go_wp2_with fail
        refine (vbrines_same A1 A2 c1 c2 L _ (Rd.of_own O1) (Rd.of_own O2) (by unfold maxLen; omega)).mono ?_
        rintro e v4 ⟨rfl, hv4⟩
        clear B_0 B_1 B_f0 B_f1 B_t
        replace B := B.more hv4
        replace O1 := own_keep O1 hv4
        replace O2 := own_keep O2 hv4
        have zhv4 := hv4.size
        clear hv4
        have B_0 := B.cells 0 _ rfl
        have B_1 := B.cells 1 _ rfl
        have B_f0 := B.free 0 (by simp)
        have B_f1 := B.free 1 (by simp)
        have B_t := B.there
        go_upto_if 204 with fail
        go_cut [] from 40 (fun wc => Below w.heap.size w wc)
        case first => as_aux_lemma =>
          cases q
          · go_wp2
            go_meet
            case rel => exact B.below
          · obtain ⟨hm, rfl⟩ := HQ.out rfl
            have HM := Lib.hid hm; clear hm
            go_wp2_with fail
            refine (Mix.mix_impl A1 c1 L _ (Rd.of_own O1) (by omega)).mono ?_
            rintro e v5 ⟨rfl, hv5⟩
            clear B_0 B_1 B_f0 B_f1 B_t
            replace B := B.more hv5
            replace O1 := own_keep O1 hv5
            replace O2 := own_keep O2 hv5
            have zhv5 := hv5.size
            clear hv5
            have B_0 := B.cells 0 _ rfl
            have B_1 := B.cells 1 _ rfl
            have B_f0 := B.free 0 (by simp)
            have B_f1 := B.free 1 (by simp)
            have B_t := B.there
            rw [HM.out]
            unfold br
            go_upto_region 31 with fail
            have B_t6 := B.there
            have N := Box.new B.below [.int .i64 a, .int .i64 b] 25 (g := v5.heap.size) rfl
            clear B_0 B_1 B_f0 B_f1 B_t
            replace B := (B).alloc (.cells #[.int .i64 a, .int .i64 b] 25)
            replace O1 := own_keep O1 (al (Below.refl _ _) (o := (.cells #[.int .i64 a, .int .i64 b] 25)))
            replace O2 := own_keep O2 (al (Below.refl _ _) (o := (.cells #[.int .i64 a, .int .i64 b] 25)))
            generalize (v5.alloc (.cells #[.int .i64 a, .int .i64 b] 25)) = W6 at N B O1 O2 ⊢
            have B_0 := B.cells 0 _ rfl
            have B_1 := B.cells 1 _ rfl
            have B_f0 := B.free 0 (by simp)
            have B_f1 := B.free 1 (by simp)
            have B_t := B.there
            have N_0 := N.cells 0 _ rfl
            have N_1 := N.cells 1 _ rfl
            have N_f0 := N.free 0 (by simp)
            have N_f1 := N.free 1 (by simp)
            have N_t := N.there
            go_wp2
            go_meet
            case rel => exact B.below
        case rest => as_aux_lemma =>
          clear B B_0 B_1 B_f0 B_f1 B_t O1 O2 HI HS HQ HB0 hlen
          go_wp2_with fail
          refine (DBrine2.drawMix A cap zs wc (HC.out.below hcut)).mono ?_
          rintro e w8 ⟨L, g, c, hl, rfl, O, hB⟩
          have HB0 := hcut.trans (hB.mono hcut.size)
          have hz := hcut.size
          clear hB hcut
          replace O := own_base O (base' := w.heap.size) hz
          obtain ⟨x, y, q, hv⟩ := mix_form L
          have HV1 := Lib.hid hv; clear hv
          go_wp2_with fail
          refine (Mix.mix_impl (some ⟨g, 0, none⟩) c L _ (Rd.of_own O) (by omega)).mono ?_
          rintro e v1 ⟨rfl, hv1⟩
          replace HB0 := be HB0 hv1
          replace O := own_keep O hv1
          have zhv1 := hv1.size
          rw [HV1.out]
          unfold br
          go_wp2_with fail
          have B := Box.new HB0 [.int .i64 x, .int .i64 y] 25 (g := v1.heap.size) rfl
          replace HB0 := be HB0 (al (Below.refl _ _) (o := (.cells #[.int .i64 x, .int .i64 y] 25)))
          replace O := own_keep O (al (Below.refl _ _) (o := (.cells #[.int .i64 x, .int .i64 y] 25)))
          generalize (v1.alloc (.cells #[.int .i64 x, .int .i64 y] 25)) = W2 at B HB0 O ⊢
          have B_0 := B.cells 0 _ rfl
          have B_1 := B.cells 1 _ rfl
          have B_f0 := B.free 0 (by simp)
          have B_f1 := B.free 1 (by simp)
          have B_t := B.there
          go_wp2_with fail
          refine (Mix.mix_spec (some ⟨g, 0, none⟩) c L _ (Rd.of_own O) (by omega)).mono ?_
          rintro e v3 ⟨rfl, hv3⟩
          clear B_0 B_1 B_f0 B_f1 B_t
          replace B := B.more hv3
          replace HB0 := be HB0 hv3
          replace O := own_keep O hv3
          have zhv3 := hv3.size
          clear hv3
          have B_0 := B.cells 0 _ rfl
          have B_1 := B.cells 1 _ rfl
          have B_f0 := B.free 0 (by simp)
          have B_f1 := B.free 1 (by simp)
          have B_t := B.there
          rw [HV1.out]
          unfold br
          go_upto_region 36 with fail
          have B_t4 := B.there
          have R := Box.new B.below [.int .i64 x, .int .i64 y] 25 (g := v3.heap.size) rfl
          clear B_0 B_1 B_f0 B_f1 B_t
          replace B := (B).alloc (.cells #[.int .i64 x, .int .i64 y] 25)
          replace HB0 := be HB0 (al (Below.refl _ _) (o := (.cells #[.int .i64 x, .int .i64 y] 25)))
          replace O := own_keep O (al (Below.refl _ _) (o := (.cells #[.int .i64 x, .int .i64 y] 25)))
          generalize (v3.alloc (.cells #[.int .i64 x, .int .i64 y] 25)) = W4 at R B HB0 O ⊢
          have B_0 := B.cells 0 _ rfl
          have B_1 := B.cells 1 _ rfl
          have B_f0 := B.free 0 (by simp)
          have B_f1 := B.free 1 (by simp)
          have B_t := B.there
          have R_0 := R.cells 0 _ rfl
          have R_1 := R.cells 1 _ rfl
          have R_f0 := R.free 0 (by simp)
          have R_f1 := R.free 1 (by simp)
          have R_t := R.there
          go_wp2
          go_ret
          exact ⟨rfl, B.below⟩
end Go.Proofs.YtpblkkfafmcnpaaDoor.BrinesLaw
