/- FnStrengths, walked. -/
import Derived.Test.YtbbnbkdglihhhaaRates
import Derived.Test.YtbbnbkdglihhhaaDraws3
import Derived.Deep.Cut
namespace Go.Proofs.Ytbbnbkdglihhhaa.StrLaw
open Go.RowKit Go.Proofs.Ytbbnbkdglihhhaa.Mem Go.Proofs.Ytbbnbkdglihhhaa.Base Go.Proofs.Ytbbnbkdglihhhaa.Draw Go.Proofs.Ytbbnbkdglihhhaa.Brine Go.Proofs.Ytbbnbkdglihhhaa.Regn Go.Proofs.Ytbbnbkdglihhhaa.Boxes Go.Proofs.Ytbbnbkdglihhhaa.IBrine Go.Proofs.Ytbbnbkdglihhhaa.Draws3 Go.Proofs.Ytbbnbkdglihhhaa.Laws2 Go.Proofs.Ytbbnbkdglihhhaa.Rates
set_option linter.unusedVariables false
set_option maxRecDepth 100000
set_option maxHeartbeats 2000000 in
theorem law (A : Option Addr) (cap : Nat) (zs : List Int) (w : World) (hr : Rd w w.heap.size A (zs.map (Value.int .u8))) (hn : zs.length ≤ maxLen) (hb : ∀ z ∈ zs, 0 ≤ z ∧ z ≤ 255) :
    Calls Try.prog 3 #[.slice A zs.length cap] w (Yes w) := by
  by_cases hbig : 65536 < zs.length
  · have HG := Lib.hid (show bigB zs.length = true from decide_eq_true hbig)
    clear hr hb
    go_enter Try.func3, Try.ntmps3
    go_wp2_with fail
    refine (big_any A cap zs.length w hn).mono ?_
    rintro e w' ⟨rfl, rfl⟩
    rw [HG.out]
    go_wp2
    go_ret
    exact ⟨rfl, Below.refl _ _⟩
  have HG := Lib.hid (show bigB zs.length = false from decide_eq_false hbig)
  have HN := Lib.hid hn; clear hn
  have HC := Lib.hid (show Src w A zs from ⟨hr, by omega, hb⟩); clear hr hb
  go_enter Try.func3, Try.ntmps3
  go_wp2_with fail
  refine (big_any A cap zs.length w HN.out).mono ?_
  rintro e w' ⟨rfl, rfl⟩
  rw [HG.out]
  clear HG hbig HN
  go_wp2_with fail
  refine (drawWaterToLose A cap zs w HC.out).mono ?_
  rintro e w1 ⟨⟨a, b, n, d, a0, a1, b0, b1, n0, n1, d0, d1, rfl⟩, HB0⟩
  unfold br
  go_wp2_with fail
  have B := Box.new HB0 [.int .i64 a, .int .i64 b] 25 (g := w1.heap.size) rfl
  generalize (w1.alloc (.cells #[.int .i64 a, .int .i64 b] 25)) = W1 at B ⊢
  have B_0 := B.cells 0 _ rfl
  have B_1 := B.cells 1 _ rfl
  have B_f0 := B.free 0 (by simp)
  have B_f1 := B.free 1 (by simp)
  have B_t := B.there
  obtain ⟨N, ok, hv⟩ := lose_form a b n d
  have HV := Lib.hid hv; clear hv
  go_wp2_with fail
  refine (IBrine2.lose_impl a b n d _).mono ?_
  rintro e v2 ⟨rfl, hv2⟩
  clear B_0 B_1 B_f0 B_f1 B_t
  replace B := B.more hv2
  have zhv2 := hv2.size
  clear hv2
  have B_0 := B.cells 0 _ rfl
  have B_1 := B.cells 1 _ rfl
  have B_f0 := B.free 0 (by simp)
  have B_f1 := B.free 1 (by simp)
  have B_t := B.there
  rw [HV.out]
  go_wp2_with fail
  refine (Brine4.lose_spec a b n d _).mono ?_
  rintro e v3 ⟨rfl, hv3⟩
  clear B_0 B_1 B_f0 B_f1 B_t
  replace B := B.more hv3
  have zhv3 := hv3.size
  clear hv3
  have B_0 := B.cells 0 _ rfl
  have B_1 := B.cells 1 _ rfl
  have B_f0 := B.free 0 (by simp)
  have B_f1 := B.free 1 (by simp)
  have B_t := B.there
  rw [HV.out]
  go_upto_if 74 with fail
  go_cut [] from 44 (fun wc => Below w.heap.size w wc)
  case first =>
    cases ok
    · go_wp2
      go_meet
      case rel => exact B.below
    · obtain ⟨hok, rfl⟩ := lose_inv HV.out
      obtain ⟨N0, N1, ha1, hb0, hb1, ⟨p, q, hs, p0, p1, q0, q1, hlt⟩, hmore⟩ := lose_facts hok
      clear hok HV
      generalize Brine4.loseI a b n d = N at *
      have HS := Lib.hid hs; clear hs
      have HM := Lib.hid hmore; clear hmore
      have x1 : IntKind.i64.wrap (a - N) = a - N := IntWalk.i64_in _ (by omega)
      have x2 := prod p0 (by omega) d0 (by omega)
      have x3 : IntKind.i64.wrap (n * q) = n * q := by rw [Int.mul_comm]; exact prod q0 q1 n0 n1
      go_wp2_with fail
      refine (strength_impl (a - N) b _).mono ?_
      rintro e v4 ⟨rfl, hv4⟩
      clear B_0 B_1 B_f0 B_f1 B_t
      replace B := B.more hv4
      have zhv4 := hv4.size
      clear hv4
      have B_0 := B.cells 0 _ rfl
      have B_1 := B.cells 1 _ rfl
      have B_f0 := B.free 0 (by simp)
      have B_f1 := B.free 1 (by simp)
      have B_t := B.there
      rw [HS.out]
      clear HS
      by_cases hN : 0 < N
      · obtain ⟨u, v, hs, u0, u1, v0, v1, hlt2⟩ := HM.out hN
        have HS := Lib.hid hs; clear hs HM
        have y1 : IntKind.i64.wrap (a - N + 1) = a - N + 1 := IntWalk.i64_in _ (by omega)
        have y2 := prod u0 (by omega) d0 (by omega)
        have y3 : IntKind.i64.wrap (n * v) = n * v := by rw [Int.mul_comm]; exact prod v0 v1 n0 n1
        go_wp2_with fail
        refine (strength_impl (a - N + 1) b _).mono ?_
        rintro e v5 ⟨rfl, hv5⟩
        clear B_0 B_1 B_f0 B_f1 B_t
        replace B := B.more hv5
        have zhv5 := hv5.size
        clear hv5
        have B_0 := B.cells 0 _ rfl
        have B_1 := B.cells 1 _ rfl
        have B_f0 := B.free 0 (by simp)
        have B_f1 := B.free 1 (by simp)
        have B_t := B.there
        rw [HS.out]
        clear HS
        go_wp2
        go_meet
        case rel => exact B.below
      · go_wp2
        go_meet
        case rel => exact B.below
  case rest =>
    clear B B_0 B_1 B_f0 B_f1 B_t HB0 HV zhv2 zhv3 a0 a1 b0 b1 n0 n1 d0 d1
    go_wp2_with fail
    refine (drawWaterToAdd A cap zs wc (HC.out.below hcut)).mono ?_
    rintro e w2 ⟨⟨a, b, n, d, a0, a1, b0, b1, n0, n1, d0, d1, rfl⟩, hB⟩
    have HB0 := hcut.trans (hB.mono hcut.size)
    clear hB hcut
    unfold br
    go_wp2_with fail
    have B := Box.new HB0 [.int .i64 a, .int .i64 b] 25 (g := w2.heap.size) rfl
    generalize (w2.alloc (.cells #[.int .i64 a, .int .i64 b] 25)) = W1 at B ⊢
    have B_0 := B.cells 0 _ rfl
    have B_1 := B.cells 1 _ rfl
    have B_f0 := B.free 0 (by simp)
    have B_f1 := B.free 1 (by simp)
    have B_t := B.there
    obtain ⟨N, ok, hv⟩ := add_form a b n d
    have HV := Lib.hid hv; clear hv
    go_wp2_with fail
    refine (IBrine2.add_impl a b n d _).mono ?_
    rintro e v2 ⟨rfl, hv2⟩
    clear B_0 B_1 B_f0 B_f1 B_t
    replace B := B.more hv2
    have zhv2 := hv2.size
    clear hv2
    have B_0 := B.cells 0 _ rfl
    have B_1 := B.cells 1 _ rfl
    have B_f0 := B.free 0 (by simp)
    have B_f1 := B.free 1 (by simp)
    have B_t := B.there
    rw [HV.out]
    go_wp2_with fail
    refine (Brine5.add_spec a b n d _).mono ?_
    rintro e v3 ⟨rfl, hv3⟩
    clear B_0 B_1 B_f0 B_f1 B_t
    replace B := B.more hv3
    have zhv3 := hv3.size
    clear hv3
    have B_0 := B.cells 0 _ rfl
    have B_1 := B.cells 1 _ rfl
    have B_f0 := B.free 0 (by simp)
    have B_f1 := B.free 1 (by simp)
    have B_t := B.there
    rw [HV.out]
    go_upto_if 152 with fail
    go_cut [] from 124 (fun wc => Below w.heap.size w wc)
    case first =>
      cases ok
      · go_wp2
        go_meet
        case rel => exact B.below
      · obtain ⟨hok, rfl⟩ := add_inv HV.out
        obtain ⟨N0, N1, ha0, ha1, hb0, hb1, ⟨p, q, hs, p0, p1, q0, q1, hlt⟩, hmore⟩ := add_facts hok
        clear hok HV
        generalize Brine5.addI a b n d = N at *
        have HS := Lib.hid hs; clear hs
        have HM := Lib.hid hmore; clear hmore
        have x1 : IntKind.i64.wrap (a + N) = a + N := IntWalk.i64_in _ (by omega)
        have x2 := prod p0 (by omega) d0 (by omega)
        have x3 : IntKind.i64.wrap (n * q) = n * q := by rw [Int.mul_comm]; exact prod q0 q1 n0 n1
        go_wp2_with fail
        refine (strength_impl (a + N) b _).mono ?_
        rintro e v4 ⟨rfl, hv4⟩
        clear B_0 B_1 B_f0 B_f1 B_t
        replace B := B.more hv4
        have zhv4 := hv4.size
        clear hv4
        have B_0 := B.cells 0 _ rfl
        have B_1 := B.cells 1 _ rfl
        have B_f0 := B.free 0 (by simp)
        have B_f1 := B.free 1 (by simp)
        have B_t := B.there
        rw [HS.out]
        clear HS
        by_cases hN : 0 < N
        · obtain ⟨u, v, hs, u0, u1, v0, v1, hlt2⟩ := HM.out hN
          have HS := Lib.hid hs; clear hs HM
          have y1 : IntKind.i64.wrap (a + N - 1) = a + N - 1 := IntWalk.i64_in _ (by omega)
          have y2 := prod u0 (by omega) d0 (by omega)
          have y3 : IntKind.i64.wrap (n * v) = n * v := by rw [Int.mul_comm]; exact prod v0 v1 n0 n1
          go_wp2_with fail
          refine (strength_impl (a + N - 1) b _).mono ?_
          rintro e v5 ⟨rfl, hv5⟩
          clear B_0 B_1 B_f0 B_f1 B_t
          replace B := B.more hv5
          have zhv5 := hv5.size
          clear hv5
          have B_0 := B.cells 0 _ rfl
          have B_1 := B.cells 1 _ rfl
          have B_f0 := B.free 0 (by simp)
          have B_f1 := B.free 1 (by simp)
          have B_t := B.there
          rw [HS.out]
          clear HS
          go_wp2
          go_meet
          case rel => exact B.below
        · go_wp2
          go_meet
          case rel => exact B.below
    case rest =>
      clear B B_0 B_1 B_f0 B_f1 B_t HB0 HV a0 a1 b0 b1 n0 n1 d0 d1
      go_wp2_with fail
      refine (drawIsStronger A cap zs wc (HC.out.below hcut)).mono ?_
      rintro e w3 ⟨⟨x, y, u, v, x0, x1, y0, y1, u0, u1, v0, v1, rfl⟩, hB⟩
      have HB0 := hcut.trans (hB.mono hcut.size)
      clear hB hcut
      unfold br
      go_wp2_with fail
      have B := (Box.new HB0 [.int .i64 x, .int .i64 y] 25 (g := w3.heap.size) rfl).alloc (.cells #[.int .i64 u, .int .i64 v] 25)
      have C := Box.new (al HB0 (o := (.cells #[.int .i64 x, .int .i64 y] 25))) [.int .i64 u, .int .i64 v] 25 (g := w3.heap.size + 1) (by simp only [size_alloc'])
      generalize ((w3.alloc (.cells #[.int .i64 x, .int .i64 y] 25)).alloc (.cells #[.int .i64 u, .int .i64 v] 25)) = W1 at B C ⊢
      have B_0 := B.cells 0 _ rfl
      have B_1 := B.cells 1 _ rfl
      have B_f0 := B.free 0 (by simp)
      have B_f1 := B.free 1 (by simp)
      have B_t := B.there
      have C_0 := C.cells 0 _ rfl
      have C_1 := C.cells 1 _ rfl
      have C_f0 := C.free 0 (by simp)
      have C_f1 := C.free 1 (by simp)
      have C_t := C.there
      obtain ⟨f, g, q, hf, hg, hfg⟩ := strong_both x y u v
      have HF := Lib.hid hf; clear hf
      have HG := Lib.hid hg; clear hg
      go_wp2_with fail
      refine (IBrine2.strong_impl x y u v _).mono ?_
      rintro e v2 ⟨rfl, hv2⟩
      clear B_0 B_1 B_f0 B_f1 B_t
      clear C_0 C_1 C_f0 C_f1 C_t
      replace B := B.more hv2
      replace C := C.more hv2
      have zhv2 := hv2.size
      clear hv2
      have B_0 := B.cells 0 _ rfl
      have B_1 := B.cells 1 _ rfl
      have B_f0 := B.free 0 (by simp)
      have B_f1 := B.free 1 (by simp)
      have B_t := B.there
      have C_0 := C.cells 0 _ rfl
      have C_1 := C.cells 1 _ rfl
      have C_f0 := C.free 0 (by simp)
      have C_f1 := C.free 1 (by simp)
      have C_t := C.there
      rw [HF.out]
      go_wp2_with fail
      refine (IBrine2.strong_impl u v x y _).mono ?_
      rintro e v3 ⟨rfl, hv3⟩
      clear B_0 B_1 B_f0 B_f1 B_t
      clear C_0 C_1 C_f0 C_f1 C_t
      replace B := B.more hv3
      replace C := C.more hv3
      have zhv3 := hv3.size
      clear hv3
      have B_0 := B.cells 0 _ rfl
      have B_1 := B.cells 1 _ rfl
      have B_f0 := B.free 0 (by simp)
      have B_f1 := B.free 1 (by simp)
      have B_t := B.there
      have C_0 := C.cells 0 _ rfl
      have C_1 := C.cells 1 _ rfl
      have C_f0 := C.free 0 (by simp)
      have C_f1 := C.free 1 (by simp)
      have C_t := C.there
      rw [HG.out]
      go_wp2_with fail
      refine (Brine5.strong_spec x y u v _).mono ?_
      rintro e v4 ⟨rfl, hv4⟩
      clear B_0 B_1 B_f0 B_f1 B_t
      clear C_0 C_1 C_f0 C_f1 C_t
      replace B := B.more hv4
      replace C := C.more hv4
      have zhv4 := hv4.size
      clear hv4
      have B_0 := B.cells 0 _ rfl
      have B_1 := B.cells 1 _ rfl
      have B_f0 := B.free 0 (by simp)
      have B_f1 := B.free 1 (by simp)
      have B_t := B.there
      have C_0 := C.cells 0 _ rfl
      have C_1 := C.cells 1 _ rfl
      have C_f0 := C.free 0 (by simp)
      have C_f1 := C.free 1 (by simp)
      have C_t := C.there
      rw [HF.out]
      clear HF HG
      have BB := B.below
      clear B B_0 B_1 B_f0 B_f1 B_t C C_0 C_1 C_f0 C_f1 C_t HB0 x0 x1 y0 y1 u0 u1 v0 v1
      cases f
      · skip
        go_wp2_with fail
        refine (drawStrengthOf A cap zs _ (HC.out.below BB)).mono ?_
        rintro e w4 ⟨⟨s, t, s0, s1, t0, t1, rfl⟩, hB⟩
        have HB0 := BB.trans (hB.mono BB.size)
        clear hB BB
        unfold br
        go_wp2_with fail
        have B := Box.new HB0 [.int .i64 s, .int .i64 t] 25 (g := w4.heap.size) rfl
        generalize (w4.alloc (.cells #[.int .i64 s, .int .i64 t] 25)) = W1 at B ⊢
        have B_0 := B.cells 0 _ rfl
        have B_1 := B.cells 1 _ rfl
        have B_f0 := B.free 0 (by simp)
        have B_f1 := B.free 1 (by simp)
        have B_t := B.there
        obtain ⟨p, r, o, hv⟩ := str_form s t
        have HV := Lib.hid hv; clear hv
        go_wp2_with fail
        refine (strength_impl s t _).mono ?_
        rintro e v2 ⟨rfl, hv2⟩
        clear B_0 B_1 B_f0 B_f1 B_t
        replace B := B.more hv2
        have zhv2 := hv2.size
        clear hv2
        have B_0 := B.cells 0 _ rfl
        have B_1 := B.cells 1 _ rfl
        have B_f0 := B.free 0 (by simp)
        have B_f1 := B.free 1 (by simp)
        have B_t := B.there
        rw [HV.out]
        go_wp2_with fail
        refine (Brine3.strength_spec s t _).mono ?_
        rintro e v3 ⟨rfl, hv3⟩
        clear B_0 B_1 B_f0 B_f1 B_t
        replace B := B.more hv3
        have zhv3 := hv3.size
        clear hv3
        have B_0 := B.cells 0 _ rfl
        have B_1 := B.cells 1 _ rfl
        have B_f0 := B.free 0 (by simp)
        have B_f1 := B.free 1 (by simp)
        have B_t := B.there
        rw [HV.out]
        go_wp2
        go_ret
        exact ⟨rfl, B.below⟩
      · cases g
        · skip
          go_wp2_with fail
          refine (drawStrengthOf A cap zs _ (HC.out.below BB)).mono ?_
          rintro e w4 ⟨⟨s, t, s0, s1, t0, t1, rfl⟩, hB⟩
          have HB0 := BB.trans (hB.mono BB.size)
          clear hB BB
          unfold br
          go_wp2_with fail
          have B := Box.new HB0 [.int .i64 s, .int .i64 t] 25 (g := w4.heap.size) rfl
          generalize (w4.alloc (.cells #[.int .i64 s, .int .i64 t] 25)) = W1 at B ⊢
          have B_0 := B.cells 0 _ rfl
          have B_1 := B.cells 1 _ rfl
          have B_f0 := B.free 0 (by simp)
          have B_f1 := B.free 1 (by simp)
          have B_t := B.there
          obtain ⟨p, r, o, hv⟩ := str_form s t
          have HV := Lib.hid hv; clear hv
          go_wp2_with fail
          refine (strength_impl s t _).mono ?_
          rintro e v2 ⟨rfl, hv2⟩
          clear B_0 B_1 B_f0 B_f1 B_t
          replace B := B.more hv2
          have zhv2 := hv2.size
          clear hv2
          have B_0 := B.cells 0 _ rfl
          have B_1 := B.cells 1 _ rfl
          have B_f0 := B.free 0 (by simp)
          have B_f1 := B.free 1 (by simp)
          have B_t := B.there
          rw [HV.out]
          go_wp2_with fail
          refine (Brine3.strength_spec s t _).mono ?_
          rintro e v3 ⟨rfl, hv3⟩
          clear B_0 B_1 B_f0 B_f1 B_t
          replace B := B.more hv3
          have zhv3 := hv3.size
          clear hv3
          have B_0 := B.cells 0 _ rfl
          have B_1 := B.cells 1 _ rfl
          have B_f0 := B.free 0 (by simp)
          have B_f1 := B.free 1 (by simp)
          have B_t := B.there
          rw [HV.out]
          go_wp2
          go_ret
          exact ⟨rfl, B.below⟩
        · cases hfg
end Go.Proofs.Ytbbnbkdglihhhaa.StrLaw
