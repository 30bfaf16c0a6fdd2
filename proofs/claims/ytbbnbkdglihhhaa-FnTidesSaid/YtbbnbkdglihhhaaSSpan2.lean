/- The model's MinutesIn, MinutesOut, FirstIn, AreaAbove. -/
import Derived.Test.YtbbnbkdglihhhaaSSpan
namespace Go.Proofs.Ytbbnbkdglihhhaa.SSpan2
open Go.RowKit Go.Proofs.Ytbbnbkdglihhhaa.Mem Go.Proofs.Ytbbnbkdglihhhaa.Base Go.Proofs.Ytbbnbkdglihhhaa.SMark Go.Proofs.Ytbbnbkdglihhhaa.Boxes Go.Proofs.Ytbbnbkdglihhhaa.SInt Go.Proofs.Ytbbnbkdglihhhaa.RInt Go.Proofs.Ytbbnbkdglihhhaa.Tide Go.Proofs.Ytbbnbkdglihhhaa.Tide2 Go.Proofs.Ytbbnbkdglihhhaa.At Go.Proofs.Ytbbnbkdglihhhaa.Flow Go.Proofs.Ytbbnbkdglihhhaa.Span Go.Proofs.Ytbbnbkdglihhhaa.SSpan
set_option linter.unusedVariables false
set_option maxRecDepth 100000
theorem in_spec (P : Option Addr) (cap : Nat) (l : List R) (s p : Int) (w : World) (hr : Rd w w.heap.size P (flat l)) (hn : l.length ≤ 1048576) :
    Calls Try.prog 31 #[.slice P l.length cap, .int .i64 s, .int .i64 p] w (IPost (inL l s p) (asked l s p) w) := by
  go_enter Try.func31, Try.ntmps31
  go_wp2_with fail
  refine (asked_spec P cap l s p w hr hn).mono ?_
  rintro e w1 ⟨rfl, HB⟩
  cases ha : asked l s p
  · have HE := Lib.hid (And.intro (inL_no ha) ha)
    go_wp2
    go_ret2
    exact i_mk HE.out.1 (by first | rfl | exact HE.out.2) rfl (empty_own HB) (al HB)
  have HE := Lib.hid (And.intro (inL_yes ha) ha)
  obtain ⟨hg, hs, hp⟩ := asked_true ha
  have HH := Lib.hid (spans_spec P cap l s p 1 (cin l s p) (fun n _ => flow_is_in) w1 (rd_keep hr HB) hg hs hp)
  clear ha hg hs hp
  go_wp2_with fail
  refine HH.out.mono ?_
  rintro e w2 ⟨A, c, rfl, O, hv⟩
  replace O := own_base O HB.size
  replace HB := be HB hv
  clear hv
  go_wp2
  go_ret2
  exact i_mk HE.out.1 (by first | rfl | exact HE.out.2) rfl O HB
theorem out_spec (P : Option Addr) (cap : Nat) (l : List R) (s p : Int) (w : World) (hr : Rd w w.heap.size P (flat l)) (hn : l.length ≤ 1048576) :
    Calls Try.prog 36 #[.slice P l.length cap, .int .i64 s, .int .i64 p] w (IPost (outL l s p) (asked l s p) w) := by
  go_enter Try.func36, Try.ntmps36
  go_wp2_with fail
  refine (asked_spec P cap l s p w hr hn).mono ?_
  rintro e w1 ⟨rfl, HB⟩
  cases ha : asked l s p
  · have HE := Lib.hid (And.intro (outL_no ha) ha)
    go_wp2
    go_ret2
    exact i_mk HE.out.1 (by first | rfl | exact HE.out.2) rfl (empty_own HB) (al HB)
  have HE := Lib.hid (And.intro (outL_yes ha) ha)
  obtain ⟨hg, hs, hp⟩ := asked_true ha
  have HH := Lib.hid (spans_spec P cap l s p (-1) (cout l s p) (fun n hn => flow_is_out hg (by omega) (by omega)) w1 (rd_keep hr HB) hg hs hp)
  clear ha hg hs hp
  go_wp2_with fail
  refine HH.out.mono ?_
  rintro e w2 ⟨A, c, rfl, O, hv⟩
  replace O := own_base O HB.size
  replace HB := be HB hv
  clear hv
  go_wp2
  go_ret2
  exact i_mk HE.out.1 (by first | rfl | exact HE.out.2) rfl O HB
theorem first_no {l : List R} {s p : Int} (h : asked l s p = false) : firstV (inL l s p) = .tuple #[.int .i64 0, .bool false] := by rw [inL_no h]; rfl
theorem first_none {l : List R} {s p : Int} (h : asked l s p = true) (hn : ∀ j : Nat, j < 1441 → cin l s p j = false) : firstV (inL l s p) = .tuple #[.int .i64 0, .bool false] := by
  rw [inL_yes h, sp_none _ hn]; rfl
theorem first_at {l : List R} {s p : Int} {n : Nat} (h : asked l s p = true) (hn : ∀ j : Nat, j < n → cin l s p j = false) (hc : cin l s p n = true) (hlt : n < 1441) : firstV (inL l s p) = .tuple #[.int .i64 n, .bool true] := by
  obtain ⟨r, hr⟩ := sp_first hn hc 1441 hlt
  rw [inL_yes h, hr]; rfl
set_option maxHeartbeats 400000 in
theorem first_spec (P : Option Addr) (cap : Nat) (l : List R) (s p : Int) (w : World) (hr : Rd w w.heap.size P (flat l)) (hn : l.length ≤ 1048576) :
    Calls Try.prog 38 #[.slice P l.length cap, .int .i64 s, .int .i64 p] w (RPost (firstV (inL l s p)) w) := by
  have HR := Lib.hid hr; clear hr
  go_enter Try.func38, Try.ntmps38
  go_wp2_with fail
  refine (asked_spec P cap l s p w HR.out hn).mono ?_
  rintro e w1 ⟨rfl, HB⟩
  cases ha : asked l s p
  · have HV := Lib.hid (first_no ha)
    go_wp2
    go_ret2
    exact rpost (by rw [HV.out] <;> rfl) HB
  have HA := Lib.hid ha
  have HG := Lib.hid (asked_true ha)
  clear ha
  go_wp2
  go_loopw [8] (fun i wr => ∃ n : Nat, n ≤ 1441 ∧ i = .int .i64 n ∧ Hid (∀ j : Nat, j < n → cin l s p j = false) ∧ Below w.heap.size w wr) (fun i _ => 1441 - (intOf i).toNat)
  case atStart => exact ⟨0, by omega, rfl, Lib.hid (fun j hj => by omega), HB⟩
  case round =>
    clear HB
    obtain ⟨n, hn1, rfl, HN, HB⟩ := hrel
    by_cases hlt : n ≤ 1440
    · have hlti : (n : Int) ≤ 1440 := by omega
      have HF := Lib.hid (flow_spec P cap l s p n wr (rd_keep HR.out HB) HG.out.1 HG.out.2.1 HG.out.2.2 (by omega) (by omega))
      go_wp2_with fail
      refine HF.out.mono ?_
      rintro e w2 ⟨rfl, hv⟩
      replace HB := be HB hv
      clear hv HF
      have hcn := flow_is_in (l := l) (s := s) (p := p) (m := (n : Int))
      generalize flow l s p n = v at *
      cases hb : cin l s p n
      · have hne : v ≠ 1 := fun h => by have := hcn.1 h; unfold cin at hb; rw [this] at hb; cases hb
        have hq : (v == 1) = false := by simp [hne]
        have HN1 := Lib.hid (show ∀ j : Nat, j < n + 1 → cin l s p j = false from fun j hj => by
          rcases Nat.lt_or_ge j n with h1 | h1
          · exact HN.out j h1
          · have : j = n := by omega
            subst this; exact hb)
        clear hne hcn hb
        go_wp2
        go_roundw
        case rel => exact ⟨n + 1, by omega, by go_num, HN1, HB⟩
        case measure => simp [intOf]; omega
      · obtain rfl : v = 1 := hcn.2 hb
        have HV := Lib.hid (first_at HA.out HN.out hb (by omega))
        clear hcn hb
        go_wp2
        go_ret2
        exact rpost (by rw [HV.out] <;> rfl) HB
    · obtain rfl : n = 1441 := by omega
      have HV := Lib.hid (first_none HA.out HN.out)
      go_wp2
      go_ret2
      exact rpost (by rw [HV.out] <;> rfl) HB
theorem low_bd (n d : Int) : -(n.natAbs : Int) ≤ low n d ∧ low n d ≤ n.natAbs := Red.tdiv_bd n _
set_option maxHeartbeats 400000 in
theorem area_spec (P : Option Addr) (cap : Nat) (l : List R) (h : Int) (w : World) (hr : Rd w w.heap.size P (flat l)) (hn : l.length ≤ 1048576) :
    Calls Try.prog 50 #[.slice P l.length cap, .int .i64 h] w (RPost (areaV l h) w) := by
  have HR := Lib.hid hr; clear hr
  go_enter Try.func50, Try.ntmps50
  go_wp2_with fail
  refine (good_spec P cap l w HR.out hn).mono ?_
  rintro e w1 ⟨rfl, HB⟩
  cases hg : good l
  · have HV := Lib.hid (areaV_no (l := l) (h := h) (by unfold askH; rw [hg]; rfl))
    go_wp2
    go_ret2
    exact rpost (by rw [HV.out] <;> rfl) HB
  have HG := Lib.hid hg
  cases hh : inB h (-500) 500
  · have HV := Lib.hid (areaV_no (l := l) (h := h) (by unfold askH; rw [hh]; simp))
    go_wp2_with fail
    refine (height_spec _ _).mono ?_
    rintro e _ ⟨rfl, rfl⟩
    rw [hh]
    go_wp2
    go_ret2
    exact rpost (by rw [HV.out] <;> rfl) HB
  have HH := Lib.hid hh
  have HV := Lib.hid (areaV_yes (l := l) (h := h) (by unfold askH; rw [hg, hh]; rfl))
  have hhb := of_inB hh
  go_wp2_with fail
  refine (height_spec _ _).mono ?_
  rintro e _ ⟨rfl, rfl⟩
  rw [hh]
  clear hg hh
  go_wp2
  go_loopw [6, 7] (fun q i wr => ∃ (n : Nat) (a : Int), n ≤ 1441 ∧ i = .int .i64 n ∧ q = .int .i64 a ∧ Hid (area l h n = a) ∧ Below w.heap.size w wr) (fun _ i _ => 1441 - (intOf i).toNat)
  case atStart => exact ⟨0, 0, by omega, rfl, rfl, Lib.hid rfl, HB⟩
  case round =>
    clear HB
    obtain ⟨n, a, hn1, rfl, rfl, HA, HB⟩ := hrel
    by_cases hlt : n ≤ 1440
    · have hlti : (n : Int) ≤ 1440 := by omega
      have HF := Lib.hid (at_spec P cap l n wr (rd_keep HR.out HB) HG.out (by omega) (by omega))
      go_wp2_with fail
      refine HF.out.mono ?_
      rintro e w2 ⟨rfl, hv⟩
      replace HB := be HB hv
      clear hv HF
      have hab := area_bd HG.out HH.out n (by omega)
      rw [HA.out] at hab
      have hnb := num_bd HG.out (m := n) (by omega) (by omega)
      have hdb := den_bd HG.out (m := n) (by omega) (by omega)
      have hlb := low_bd (num l n) (den l n)
      have l3 := low'_le (n := num l n) (show 0 < den l n by omega)
      have l4 := low'_pos (n := num l n) (show 0 < den l n by omega)
      have hcb := cell_bd HG.out HH.out (m := n) (by omega) (by omega)
      have hcl := cell_low HG.out (h := h) (m := n) (by omega) (by omega)
      have HA1 := Lib.hid (show area l h (n + 1) = a + cell l h n by rw [area, HA.out])
      generalize low (num l n) (den l n) = x at *
      generalize low' (num l n) (den l n) = y at *
      generalize cell l h n = z at *
      have z1 := mul_bd (x := h) (y := y) (a := 500) (b := 1440) (by omega) (by omega) (by omega) (by omega) (by omega)
      have y1 : IntKind.i64.wrap (h * y) = h * y := IntWalk.i64_in _ (by omega)
      have y2 : IntKind.i64.wrap (x - h * y) = x - h * y := IntWalk.i64_in _ (by omega)
      have hm0 : 0 ≤ most 0 (x - h * y) := by unfold most; split <;> omega
      obtain ⟨u, hu⟩ : ∃ u, most 0 (x - h * y) = u := ⟨_, rfl⟩
      rw [hu] at hm0 hcl
      have e1 : u.tdiv y = z := by rw [Int.tdiv_eq_ediv_of_nonneg hm0]; exact hcl
      have y3 : IntKind.i64.wrap z = z := IntWalk.i64_in _ (by omega)
      have y4 : IntKind.i64.wrap (a + z) = a + z := IntWalk.i64_in _ (by omega)
      have hy0 : (y == 0) = false := by simp; omega
      have hy1 : ¬ y = 0 := by omega
      have HU := Lib.hid hu; clear hu hm0 hcl z1 hab hnb hdb hlb l3 l4 hcb
      go_wp2_with fail
      refine (most_any _ _ _).mono ?_
      rintro e _ ⟨rfl, rfl⟩
      rw [HU.out]
      go_wp2
      go_roundw
      case rel => exact ⟨n + 1, a + z, by omega, by go_num, rfl, HA1, HB⟩
      case measure => simp [intOf]; omega
    · obtain rfl : n = 1441 := by omega
      rw [HA.out] at HV
      go_wp2
      go_ret2
      exact rpost (by rw [HV.out] <;> rfl) HB
end Go.Proofs.Ytbbnbkdglihhhaa.SSpan2
