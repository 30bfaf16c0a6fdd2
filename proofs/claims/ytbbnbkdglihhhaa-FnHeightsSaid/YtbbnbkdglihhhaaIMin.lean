/- The program's MinutesIn, MinutesOut, FirstIn, AreaAbove. -/
import Derived.Test.YtbbnbkdglihhhaaISpan
namespace Go.Proofs.Ytbbnbkdglihhhaa.IMin
open Go.RowKit Go.Proofs.Ytbbnbkdglihhhaa.Mem Go.Proofs.Ytbbnbkdglihhhaa.Base Go.Proofs.Ytbbnbkdglihhhaa.Within Go.Proofs.Ytbbnbkdglihhhaa.SMark Go.Proofs.Ytbbnbkdglihhhaa.Regn Go.Proofs.Ytbbnbkdglihhhaa.Boxes Go.Proofs.Ytbbnbkdglihhhaa.SInt Go.Proofs.Ytbbnbkdglihhhaa.RInt Go.Proofs.Ytbbnbkdglihhhaa.Tide Go.Proofs.Ytbbnbkdglihhhaa.Tide2 Go.Proofs.Ytbbnbkdglihhhaa.Flow Go.Proofs.Ytbbnbkdglihhhaa.Span Go.Proofs.Ytbbnbkdglihhhaa.Sea Go.Proofs.Ytbbnbkdglihhhaa.ISea Go.Proofs.Ytbbnbkdglihhhaa.ISpan
set_option linter.unusedVariables false
set_option maxRecDepth 100000
theorem cin_is {l : List R} (hg : good l = true) {s p : Int} {n : Nat} (hn : n < 1441) : cin l s p n = (decide (s * den l n < num l n) && decide (p * den l n < num l n)) := by
  have hd := den_bd hg (m := n) (by omega) (by omega)
  unfold cin inAt most
  rw [Bool.eq_iff_iff, Bool.and_eq_true, decide_eq_true_eq, decide_eq_true_eq, decide_eq_true_eq]
  split
  · rename_i h
    have := Int.mul_le_mul_of_nonneg_right (Int.le_of_lt h) (show 0 ≤ den l n by omega)
    rw [Int.mul_comm]; omega
  · rename_i h
    have := Int.mul_le_mul_of_nonneg_right (Int.not_lt.1 h) (show 0 ≤ den l n by omega)
    rw [Int.mul_comm]; omega
theorem cout_is {l : List R} {s p : Int} {n : Nat} : cout l s p n = (decide (s < p) && decide (num l n < p * den l n)) := by
  unfold cout outAt; rw [Int.mul_comm]
set_option maxHeartbeats 2000000 in
theorem in_impl (P : Option Addr) (cap : Nat) (l : List R) (s p : Int) (w : World) (hr : Rd w w.heap.size P (flat l)) (hcap : l.length ≤ cap) (hn : l.length ≤ 1048576) :
    Calls Try.prog 30 #[.slice P l.length cap, .int .i64 s, .int .i64 p] w (IPost (inL l s p) (asked l s p) w) := by
  obtain ⟨hv84, hi84⟩ := zero_of_info info_flows
  have HI := Lib.hid hi84; clear hi84
  obtain ⟨Z, hZ⟩ : ∃ Z : List Value, Z = List.replicate 1441 (Value.bool false) := ⟨_, rfl⟩
  rw [← hZ] at hv84
  have HZ := Lib.hid (show flows (cin l s p) 0 = Z by rw [flows_zero, hZ]); clear hZ
  have HV84 := Lib.hid hv84; clear hv84
  have HR := Lib.hid hr; clear hr
  go_enter Try.func30, Try.ntmps30
  go_wp2_with fail
  refine (tide_impl P cap l w HR.out hn).mono ?_
  rintro e w1 ⟨rfl, HB⟩
  cases hg : good l
  · have HE := Lib.hid (show asked l s p = false by unfold asked; rw [hg]; rfl)
    go_wp2
    go_ret2
    exact i_mk (inL_no HE.out) (by first | rfl | exact HE.out) rfl (empty_own HB) (al HB)
  have HG := Lib.hid hg
  cases hs : inB s (-500) 500
  · have HE := Lib.hid (show asked l s p = false by unfold asked; rw [hs]; simp)
    go_wp2_with fail
    refine (height_impl _ _).mono ?_
    rintro e _ ⟨rfl, rfl⟩
    rw [hs]
    go_wp2
    go_ret2
    exact i_mk (inL_no HE.out) (by first | rfl | exact HE.out) rfl (empty_own HB) (al HB)
  go_wp2_with fail
  refine (height_impl _ _).mono ?_
  rintro e _ ⟨rfl, rfl⟩
  rw [hs]
  cases hp : inB p (-500) 500
  · have HE := Lib.hid (show asked l s p = false by unfold asked; rw [hp]; simp)
    go_wp2_with fail
    refine (height_impl _ _).mono ?_
    rintro e _ ⟨rfl, rfl⟩
    rw [hp]
    go_wp2
    go_ret2
    exact i_mk (inL_no HE.out) (by first | rfl | exact HE.out) rfl (empty_own HB) (al HB)
  go_wp2_with fail
  refine (height_impl _ _).mono ?_
  rintro e _ ⟨rfl, rfl⟩
  rw [hp]
  have HE := Lib.hid (show asked l s p = true by unfold asked; rw [hg, hs, hp]; rfl)
  have hsb := of_inB hs; have hpb := of_inB hp
  clear hg hs hp
  have hv84 := HV84.out
  have B0 : Box w1.heap.size (flows (cin l s p) 0) w (w1.alloc (.cells Z.toArray 84)) := by rw [HZ.out]; exact Box.new HB Z 84 rfl
  go_wp2_with fail
  clear hv84
  have HB1 := B0.below
  generalize w1.alloc (.cells Z.toArray 84) = wz at B0 HB1 ⊢
  have HS := Lib.hid (sea_impl P cap l wz (rd_keep HR.out HB1) hcap HG.out)
  generalize w1.heap.size = g at *
  clear HB
  refine HS.out.mono ?_
  rintro e w2 ⟨rfl, hv⟩
  have B := B0.more hv
  clear hv B0 HB1 HS
  obtain ⟨L, hL⟩ : ∃ L, flat (sea l) = L := ⟨_, rfl⟩
  have HL := Lib.hid hL
  rw [hL]
  clear hL
  go_wp2
  go_loopw [27] (fun i wr => ∃ n : Nat, n ≤ 1441 ∧ i = .int .i64 n ∧ Box g (flows (cin l s p) n) w wr) (fun i _ => 1441 - (intOf i).toNat)
  case atStart => exact ⟨0, by omega, rfl, B⟩
  case round =>
    clear B
    obtain ⟨n, hn1, rfl, B⟩ := hrel
    by_cases hlt : n < 1441
    · have hlti : (n : Int) < 1441 := by omega
      have hix := fun u => sea_ix HL.out hlt u
      have hdb := den_bd HG.out (m := n) (by omega) (by omega)
      have HC := Lib.hid (cin_is HG.out (l := l) (s := s) (p := p) (n := n) hlt)
      generalize num l n = x at *
      generalize den l n = y at *
      have hfl := flows_len (cin l s p) n
      have h0 := B.cells n _ (List.getElem?_eq_getElem (by rw [hfl]; exact hlt))
      have f0 := B.free n (by rw [hfl]; exact hlt)
      generalize (flows (cin l s p) n)[n]'(by rw [hfl]; exact hlt) = v0 at h0
      have HH := Lib.hid (And.intro hsb hpb)
      have HST := Lib.hid (show ∀ (b : Bool) (u : World), cin l s p n = b → Box g (flows (cin l s p) n) w u → Box g (flows (cin l s p) (n + 1)) w (u.setCell ⟨g, n, none⟩ (.bool b)) from fun b u hb hu => by
        have := hu.set n (.bool b)
        rw [← hb, flows_set _ _ hlt, hb] at this
        exact this)
      clear hfl
      have HB := B.below
      clear h0 f0
      go_wp2_with fail
      have X := Box.new HB [.int .i64 x, .int .i64 y] 86 (g := wr.heap.size) rfl
      replace B := Box.more B (al (Below.refl _ _) (o := (.cells #[.int .i64 x, .int .i64 y] 86)))
      replace HB := be HB (al (Below.refl _ _) (o := (.cells #[.int .i64 x, .int .i64 y] 86)))
      generalize (wr.alloc (.cells #[.int .i64 x, .int .i64 y] 86)) = W5 at X B HB ⊢
      have X_0 := X.cells 0 _ rfl
      have X_1 := X.cells 1 _ rfl
      have X_f0 := X.free 0 (by simp)
      have X_f1 := X.free 1 (by simp)
      have X_t := X.there
      go_wp2_with fail
      refine (higher_impl x y s (by omega) hdb.2 hsb.1 hsb.2 _).mono ?_
      rintro e v6 ⟨rfl, hv6⟩
      clear X_0 X_1 X_f0 X_f1 X_t
      replace X := X.more hv6
      replace B := Box.more B hv6
      replace HB := be HB hv6
      have zhv6 := hv6.size
      clear hv6
      have X_0 := X.cells 0 _ rfl
      have X_1 := X.cells 1 _ rfl
      have X_f0 := X.free 0 (by simp)
      have X_f1 := X.free 1 (by simp)
      have X_t := X.there
      by_cases c1 : s * y < x
      · have e1 : decide (s * y < x) = true := decide_eq_true c1
        rw [e1]
        go_wp2_with fail
        refine (higher_impl x y p (by omega) hdb.2 hpb.1 hpb.2 _).mono ?_
        rintro e v7 ⟨rfl, hv7⟩
        clear X_0 X_1 X_f0 X_f1 X_t
        replace X := X.more hv7
        replace B := Box.more B hv7
        replace HB := be HB hv7
        have zhv7 := hv7.size
        clear hv7
        have X_0 := X.cells 0 _ rfl
        have X_1 := X.cells 1 _ rfl
        have X_f0 := X.free 0 (by simp)
        have X_f1 := X.free 1 (by simp)
        have X_t := X.there
        by_cases c2 : p * y < x
        · have e2 : decide (p * y < x) = true := decide_eq_true c2
          rw [e2]
          have HDD := Lib.hid (And.intro e1 e2)
          clear c1 c2 e1 e2
          have HB2 := HST.out true _ (by rw [HC.out]; rw [HDD.out.1, HDD.out.2]; rfl) B
          have h0 := B.cells n _ (List.getElem?_eq_getElem (by rw [flows_len]; exact hlt))
          have f0 := B.free n (by rw [flows_len]; exact hlt)
          generalize (flows (cin l s p) n)[n]'(by rw [flows_len]; exact hlt) = v1 at h0
          go_wp2
          go_roundw
          case rel => exact ⟨n + 1, by omega, by go_num, HB2⟩
          case measure => simp [intOf]; omega
        · have e2 : decide (p * y < x) = false := decide_eq_false c2
          rw [e2]
          have HDD := Lib.hid (And.intro e1 e2)
          clear c1 c2 e1 e2
          have HB2 := HST.out false _ (by rw [HC.out]; rw [HDD.out.1, HDD.out.2]; rfl) B
          have h0 := B.cells n _ (List.getElem?_eq_getElem (by rw [flows_len]; exact hlt))
          have f0 := B.free n (by rw [flows_len]; exact hlt)
          generalize (flows (cin l s p) n)[n]'(by rw [flows_len]; exact hlt) = v1 at h0
          go_wp2
          go_roundw
          case rel => exact ⟨n + 1, by omega, by go_num, HB2⟩
          case measure => simp [intOf]; omega
      · have e1 : decide (s * y < x) = false := decide_eq_false c1
        rw [e1]
        have HDD := Lib.hid e1
        clear c1 e1
        have HB2 := HST.out false _ (by rw [HC.out]; rw [HDD.out]; rfl) B
        have h0 := B.cells n _ (List.getElem?_eq_getElem (by rw [flows_len]; exact hlt))
        have f0 := B.free n (by rw [flows_len]; exact hlt)
        generalize (flows (cin l s p) n)[n]'(by rw [flows_len]; exact hlt) = v1 at h0
        go_wp2
        go_roundw
        case rel => exact ⟨n + 1, by omega, by go_num, HB2⟩
        case measure => simp [intOf]; omega
    · obtain rfl : n = 1441 := by omega
      have hc0 : wr.rangeAt g 0 (flows (cin l s p) 1441) := fun j v hv => by rw [Nat.zero_add]; exact B.cells j v hv
      have HSP := Lib.hid (spans_impl (cin l s p) (flows (cin l s p) 1441) (flows_at (cin l s p)) (flows_len _ _) wr)
      go_wp2
      refine wp_load_mid 84 _ rfl g 0 rfl (flows (cin l s p) 1441) _ hc0 Try.underlying84 rfl (by rw [HI.out, flows_len]) ?_
      generalize flows (cin l s p) 1441 = F at *
      go_wp2_with fail
      refine HSP.out.mono ?_
      rintro e w3 ⟨A, c, rfl, O, hv⟩
      replace O := own_base O B.below.size
      have HB := be B.below hv
      clear hv
      go_wp2
      go_ret2
      exact i_mk (inL_yes HE.out) (by first | rfl | exact HE.out) rfl O HB
set_option maxHeartbeats 2000000 in
theorem out_impl (P : Option Addr) (cap : Nat) (l : List R) (s p : Int) (w : World) (hr : Rd w w.heap.size P (flat l)) (hcap : l.length ≤ cap) (hn : l.length ≤ 1048576) :
    Calls Try.prog 35 #[.slice P l.length cap, .int .i64 s, .int .i64 p] w (IPost (outL l s p) (asked l s p) w) := by
  obtain ⟨hv84, hi84⟩ := zero_of_info info_flows
  have HI := Lib.hid hi84; clear hi84
  obtain ⟨Z, hZ⟩ : ∃ Z : List Value, Z = List.replicate 1441 (Value.bool false) := ⟨_, rfl⟩
  rw [← hZ] at hv84
  have HZ := Lib.hid (show flows (cout l s p) 0 = Z by rw [flows_zero, hZ]); clear hZ
  have HV84 := Lib.hid hv84; clear hv84
  have HR := Lib.hid hr; clear hr
  go_enter Try.func35, Try.ntmps35
  go_wp2_with fail
  refine (tide_impl P cap l w HR.out hn).mono ?_
  rintro e w1 ⟨rfl, HB⟩
  cases hg : good l
  · have HE := Lib.hid (show asked l s p = false by unfold asked; rw [hg]; rfl)
    go_wp2
    go_ret2
    exact i_mk (outL_no HE.out) (by first | rfl | exact HE.out) rfl (empty_own HB) (al HB)
  have HG := Lib.hid hg
  cases hs : inB s (-500) 500
  · have HE := Lib.hid (show asked l s p = false by unfold asked; rw [hs]; simp)
    go_wp2_with fail
    refine (height_impl _ _).mono ?_
    rintro e _ ⟨rfl, rfl⟩
    rw [hs]
    go_wp2
    go_ret2
    exact i_mk (outL_no HE.out) (by first | rfl | exact HE.out) rfl (empty_own HB) (al HB)
  go_wp2_with fail
  refine (height_impl _ _).mono ?_
  rintro e _ ⟨rfl, rfl⟩
  rw [hs]
  cases hp : inB p (-500) 500
  · have HE := Lib.hid (show asked l s p = false by unfold asked; rw [hp]; simp)
    go_wp2_with fail
    refine (height_impl _ _).mono ?_
    rintro e _ ⟨rfl, rfl⟩
    rw [hp]
    go_wp2
    go_ret2
    exact i_mk (outL_no HE.out) (by first | rfl | exact HE.out) rfl (empty_own HB) (al HB)
  go_wp2_with fail
  refine (height_impl _ _).mono ?_
  rintro e _ ⟨rfl, rfl⟩
  rw [hp]
  have HE := Lib.hid (show asked l s p = true by unfold asked; rw [hg, hs, hp]; rfl)
  have hsb := of_inB hs; have hpb := of_inB hp
  clear hg hs hp
  have hv84 := HV84.out
  have B0 : Box w1.heap.size (flows (cout l s p) 0) w (w1.alloc (.cells Z.toArray 84)) := by rw [HZ.out]; exact Box.new HB Z 84 rfl
  go_wp2_with fail
  clear hv84
  have HB1 := B0.below
  generalize w1.alloc (.cells Z.toArray 84) = wz at B0 HB1 ⊢
  have HS := Lib.hid (sea_impl P cap l wz (rd_keep HR.out HB1) hcap HG.out)
  generalize w1.heap.size = g at *
  clear HB
  refine HS.out.mono ?_
  rintro e w2 ⟨rfl, hv⟩
  have B := B0.more hv
  clear hv B0 HB1 HS
  obtain ⟨L, hL⟩ : ∃ L, flat (sea l) = L := ⟨_, rfl⟩
  have HL := Lib.hid hL
  rw [hL]
  clear hL
  go_wp2
  go_loopw [27] (fun i wr => ∃ n : Nat, n ≤ 1441 ∧ i = .int .i64 n ∧ Box g (flows (cout l s p) n) w wr) (fun i _ => 1441 - (intOf i).toNat)
  case atStart => exact ⟨0, by omega, rfl, B⟩
  case round =>
    clear B
    obtain ⟨n, hn1, rfl, B⟩ := hrel
    by_cases hlt : n < 1441
    · have hlti : (n : Int) < 1441 := by omega
      have hix := fun u => sea_ix HL.out hlt u
      have hdb := den_bd HG.out (m := n) (by omega) (by omega)
      have HC := Lib.hid (cout_is (l := l) (s := s) (p := p) (n := n))
      generalize num l n = x at *
      generalize den l n = y at *
      have hfl := flows_len (cout l s p) n
      have h0 := B.cells n _ (List.getElem?_eq_getElem (by rw [hfl]; exact hlt))
      have f0 := B.free n (by rw [hfl]; exact hlt)
      generalize (flows (cout l s p) n)[n]'(by rw [hfl]; exact hlt) = v0 at h0
      have HH := Lib.hid (And.intro hsb hpb)
      have HST := Lib.hid (show ∀ (b : Bool) (u : World), cout l s p n = b → Box g (flows (cout l s p) n) w u → Box g (flows (cout l s p) (n + 1)) w (u.setCell ⟨g, n, none⟩ (.bool b)) from fun b u hb hu => by
        have := hu.set n (.bool b)
        rw [← hb, flows_set _ _ hlt, hb] at this
        exact this)
      clear hfl
      have HB := B.below
      clear h0 f0
      by_cases c1 : s < p
      · have e1 : decide (s < p) = true := decide_eq_true c1
        go_wp2_with fail
        have X := Box.new HB [.int .i64 x, .int .i64 y] 86 (g := wr.heap.size) rfl
        replace B := Box.more B (al (Below.refl _ _) (o := (.cells #[.int .i64 x, .int .i64 y] 86)))
        replace HB := be HB (al (Below.refl _ _) (o := (.cells #[.int .i64 x, .int .i64 y] 86)))
        generalize (wr.alloc (.cells #[.int .i64 x, .int .i64 y] 86)) = W5 at X B HB ⊢
        have X_0 := X.cells 0 _ rfl
        have X_1 := X.cells 1 _ rfl
        have X_f0 := X.free 0 (by simp)
        have X_f1 := X.free 1 (by simp)
        have X_t := X.there
        go_wp2_with fail
        refine (lower_impl x y p (by omega) hdb.2 hpb.1 hpb.2 _).mono ?_
        rintro e v6 ⟨rfl, hv6⟩
        clear X_0 X_1 X_f0 X_f1 X_t
        replace X := X.more hv6
        replace B := Box.more B hv6
        replace HB := be HB hv6
        have zhv6 := hv6.size
        clear hv6
        have X_0 := X.cells 0 _ rfl
        have X_1 := X.cells 1 _ rfl
        have X_f0 := X.free 0 (by simp)
        have X_f1 := X.free 1 (by simp)
        have X_t := X.there
        by_cases c2 : x < p * y
        · have e2 : decide (x < p * y) = true := decide_eq_true c2
          rw [e2]
          have HDD := Lib.hid (And.intro e1 e2)
          clear c1 c2 e1 e2
          have HB2 := HST.out true _ (by rw [HC.out]; rw [HDD.out.1, HDD.out.2]; rfl) B
          have h0 := B.cells n _ (List.getElem?_eq_getElem (by rw [flows_len]; exact hlt))
          have f0 := B.free n (by rw [flows_len]; exact hlt)
          generalize (flows (cout l s p) n)[n]'(by rw [flows_len]; exact hlt) = v1 at h0
          go_wp2
          go_roundw
          case rel => exact ⟨n + 1, by omega, by go_num, HB2⟩
          case measure => simp [intOf]; omega
        · have e2 : decide (x < p * y) = false := decide_eq_false c2
          rw [e2]
          have HDD := Lib.hid (And.intro e1 e2)
          clear c1 c2 e1 e2
          have HB2 := HST.out false _ (by rw [HC.out]; rw [HDD.out.1, HDD.out.2]; rfl) B
          have h0 := B.cells n _ (List.getElem?_eq_getElem (by rw [flows_len]; exact hlt))
          have f0 := B.free n (by rw [flows_len]; exact hlt)
          generalize (flows (cout l s p) n)[n]'(by rw [flows_len]; exact hlt) = v1 at h0
          go_wp2
          go_roundw
          case rel => exact ⟨n + 1, by omega, by go_num, HB2⟩
          case measure => simp [intOf]; omega
      · have e1 : decide (s < p) = false := decide_eq_false c1
        have HDD := Lib.hid e1
        have c3 : p ≤ s := by omega
        have h0 := B.cells n _ (List.getElem?_eq_getElem (by rw [flows_len]; exact hlt))
        have f0 := B.free n (by rw [flows_len]; exact hlt)
        generalize (flows (cout l s p) n)[n]'(by rw [flows_len]; exact hlt) = v1 at h0
        have HB2 := fun o => (HST.out false wr (by rw [HC.out, HDD.out]; rfl) B).alloc o
        have HB3 := Lib.hid HB2; clear HB2
        have hg9 : g < wr.heap.size := B.there
        go_wp2
        go_roundw
        case rel => exact ⟨n + 1, by omega, by go_num, HB3.out _⟩
        case measure => simp [intOf]; omega
    · obtain rfl : n = 1441 := by omega
      have hc0 : wr.rangeAt g 0 (flows (cout l s p) 1441) := fun j v hv => by rw [Nat.zero_add]; exact B.cells j v hv
      have HSP := Lib.hid (spans_impl (cout l s p) (flows (cout l s p) 1441) (flows_at (cout l s p)) (flows_len _ _) wr)
      go_wp2
      refine wp_load_mid 84 _ rfl g 0 rfl (flows (cout l s p) 1441) _ hc0 Try.underlying84 rfl (by rw [HI.out, flows_len]) ?_
      generalize flows (cout l s p) 1441 = F at *
      go_wp2_with fail
      refine HSP.out.mono ?_
      rintro e w3 ⟨A, c, rfl, O, hv⟩
      replace O := own_base O B.below.size
      have HB := be B.below hv
      clear hv
      go_wp2
      go_ret2
      exact i_mk (outL_yes HE.out) (by first | rfl | exact HE.out) rfl O HB
end Go.Proofs.Ytbbnbkdglihhhaa.IMin
