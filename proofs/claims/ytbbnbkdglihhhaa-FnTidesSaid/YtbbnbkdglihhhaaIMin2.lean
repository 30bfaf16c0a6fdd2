/- The program's FirstIn, AreaAbove. -/
import Derived.Test.YtbbnbkdglihhhaaIMin
namespace Go.Proofs.Ytbbnbkdglihhhaa.IMin2
open Go.RowKit Go.Proofs.Ytbbnbkdglihhhaa.Mem Go.Proofs.Ytbbnbkdglihhhaa.Base Go.Proofs.Ytbbnbkdglihhhaa.Within Go.Proofs.Ytbbnbkdglihhhaa.SMark Go.Proofs.Ytbbnbkdglihhhaa.Regn Go.Proofs.Ytbbnbkdglihhhaa.Boxes Go.Proofs.Ytbbnbkdglihhhaa.SInt Go.Proofs.Ytbbnbkdglihhhaa.RInt Go.Proofs.Ytbbnbkdglihhhaa.Tide Go.Proofs.Ytbbnbkdglihhhaa.Tide2 Go.Proofs.Ytbbnbkdglihhhaa.Flow Go.Proofs.Ytbbnbkdglihhhaa.Span Go.Proofs.Ytbbnbkdglihhhaa.Sea Go.Proofs.Ytbbnbkdglihhhaa.ISea Go.Proofs.Ytbbnbkdglihhhaa.IMin
set_option linter.unusedVariables false
set_option maxRecDepth 100000
set_option maxHeartbeats 400000 in
theorem first_impl (P : Option Addr) (cap : Nat) (l : List R) (s p : Int) (w : World) (hr : Rd w w.heap.size P (flat l)) (hcap : l.length ≤ cap) (hn : l.length ≤ 1048576) :
    Calls Try.prog 37 #[.slice P l.length cap, .int .i64 s, .int .i64 p] w (RPost (firstV (inL l s p)) w) := by
  go_enter Try.func37, Try.ntmps37
  go_wp2_with fail
  refine (in_impl P cap l s p w hr hcap hn).mono ?_
  rintro e w1 ⟨A, c, rfl, O, HB⟩
  cases ha : asked l s p
  · have HV := Lib.hid (show firstV (inL l s p) = .tuple #[.int .i64 0, .bool false] by rw [inL_no ha]; rfl)
    clear ha
    go_wp2
    go_ret2
    exact rpost (by rw [HV.out] <;> rfl) HB
  · obtain ⟨L, hL⟩ : ∃ L, inL l s p = L := ⟨_, rfl⟩
    rw [hL] at O ⊢
    have HL := Lib.hid hL
    clear hL ha
    cases L with
    | nil =>
      have HV := Lib.hid (show firstV (inL l s p) = .tuple #[.int .i64 0, .bool false] by rw [HL.out]; rfl)
      go_wp2
      go_ret2
      exact rpost (by rw [HV.out] <;> rfl) HB
    | cons x r =>
      have hk : (x :: r).length = r.length + 1 := rfl
      have HV := Lib.hid (show firstV (inL l s p) = .tuple #[.int .i64 x, .bool true] by rw [HL.out]; rfl)
      have hlen := inL_len l s p
      rw [HL.out] at hlen
      rw [hk] at hlen O ⊢
      obtain ⟨g, c', hA⟩ := own_some O (by omega)
      obtain ⟨rfl, rfl⟩ := hA
      have h0 : w1.cell? ⟨g, 0, none⟩ = some (.int .i64 x) := by rw [O.cellAt 0 (by omega)]; rfl
      have q0 : ((r.length : Int) + 1 == 0) = false := by simp; omega
      have q1 : (0 : Int) < (r.length : Int) + 1 := by omega
      clear hk O
      go_wp2
      go_ret2
      exact rpost (by rw [HV.out] <;> rfl) HB
set_option maxHeartbeats 1000000 in
theorem area_impl (P : Option Addr) (cap : Nat) (l : List R) (h : Int) (w : World) (hr : Rd w w.heap.size P (flat l)) (hcap : l.length ≤ cap) (hn : l.length ≤ 1048576) :
    Calls Try.prog 49 #[.slice P l.length cap, .int .i64 h] w (RPost (areaV l h) w) := by
  have HR := Lib.hid hr; clear hr
  go_enter Try.func49, Try.ntmps49
  go_wp2_with fail
  refine (tide_impl P cap l w HR.out hn).mono ?_
  rintro e w1 ⟨rfl, HB⟩
  cases hg : good l
  · have HV := Lib.hid (areaV_no (l := l) (h := h) (by unfold askH; rw [hg]; rfl))
    go_wp2
    go_ret2
    exact rpost (by rw [HV.out] <;> rfl) HB
  have HG := Lib.hid hg
  cases hh : inB h (-500) 500
  · have HV := Lib.hid (areaV_no (l := l) (h := h) (by unfold askH; rw [hh]; simp))
    go_wp2_with fail
    refine (height_impl _ _).mono ?_
    rintro e _ ⟨rfl, rfl⟩
    rw [hh]
    go_wp2
    go_ret2
    exact rpost (by rw [HV.out] <;> rfl) HB
  have HH := Lib.hid hh
  have HV := Lib.hid (areaV_yes (l := l) (h := h) (by unfold askH; rw [hg, hh]; rfl))
  have hhb := of_inB hh
  go_wp2_with fail
  refine (height_impl _ _).mono ?_
  rintro e _ ⟨rfl, rfl⟩
  rw [hh]
  clear hg hh
  have HS := Lib.hid (sea_impl P cap l w1 (rd_keep HR.out HB) hcap HG.out)
  go_wp2_with fail
  refine HS.out.mono ?_
  rintro e w2 ⟨rfl, hv⟩
  replace HB := be HB hv
  clear hv HS
  obtain ⟨L, hL⟩ : ∃ L, flat (sea l) = L := ⟨_, rfl⟩
  have HL := Lib.hid hL
  rw [hL]
  clear hL
  go_wp2
  go_loopw [6, 19] (fun q i wr => ∃ (n : Nat) (a : Int), n ≤ 1441 ∧ i = .int .i64 n ∧ q = .int .i64 a ∧ Hid (area l h n = a) ∧ Below w.heap.size w wr) (fun _ i _ => 1441 - (intOf i).toNat)
  case atStart => exact ⟨0, 0, by omega, rfl, rfl, Lib.hid rfl, HB⟩
  case round =>
    clear HB
    obtain ⟨n, a, hn1, rfl, rfl, HA, HB⟩ := hrel
    by_cases hlt : n < 1441
    · have hlti : (n : Int) < 1441 := by omega
      have hix := fun u => sea_ix HL.out hlt u
      have hab := area_bd HG.out HH.out n (by omega)
      rw [HA.out] at hab
      have hnb := num_bd HG.out (m := n) (by omega) (by omega)
      have hdb := den_bd HG.out (m := n) (by omega) (by omega)
      have hcb := cell_bd HG.out HH.out (m := n) (by omega) (by omega)
      have HA1 := Lib.hid (show area l h (n + 1) = a + cell l h n by rw [area, HA.out])
      have hcl : most 0 (num l n - h * den l n) / den l n = cell l h n := rfl
      generalize num l n = x at *
      generalize den l n = y at *
      generalize cell l h n = z at *
      have z1 := mul_bd (x := h) (y := y) (a := 500) (b := 1440) (by omega) (by omega) (by omega) (by omega) (by omega)
      obtain ⟨u, hu⟩ : ∃ u, x - h * y = u := ⟨_, rfl⟩
      have y1 : IntKind.i64.wrap (h * y) = h * y := IntWalk.i64_in _ (by omega)
      have y2 : IntKind.i64.wrap (x - h * y) = u := by rw [hu]; exact IntWalk.i64_in _ (by omega)
      have y3 : IntKind.i64.wrap z = z := IntWalk.i64_in _ (by omega)
      have y4 : IntKind.i64.wrap (a + z) = a + z := IntWalk.i64_in _ (by omega)
      have y5 : IntKind.i64.wrap a = a := IntWalk.i64_in _ (by omega)
      have hy0 : (y == 0) = false := by simp; omega
      have hy1 : ¬ y = 0 := by omega
      rw [hu] at hcl
      have HU := Lib.hid hu
      clear hu z1 hab hnb hcb
      rcases Int.lt_trichotomy u 0 with t | t | t
      · have hz0 : z = 0 := by rw [← hcl]; unfold most; rw [if_pos t]; simp
        rw [hz0] at HA1
        have t1 : u ≤ 0 := by omega
        have t2 : ¬ 0 < u := by omega
        have t3 : ¬ 0 ≤ u := by omega
        clear hcl y3 y4 hz0
        clear hdb
        go_wp2
        go_roundw
        case rel => exact ⟨n + 1, a + 0, by omega, by go_num, by simp, HA1, al HB⟩
        case measure => simp [intOf]; omega
      · subst t
        have hz0 : z = 0 := by rw [← hcl]; unfold most; simp
        rw [hz0] at HA1
        clear hcl y3 y4 hz0
        clear hdb
        go_wp2
        go_roundw
        case rel => exact ⟨n + 1, a + 0, by omega, by go_num, by simp, HA1, al HB⟩
        case measure => simp [intOf]; omega
      · have e1 : u.tdiv y = z := by rw [← hcl]; unfold most; rw [if_neg (by omega)]; exact Int.tdiv_eq_ediv_of_nonneg (by omega)
        have t1 : 0 ≤ u := by omega
        have t2 : ¬ u < 0 := by omega
        have t3 : ¬ u ≤ 0 := by omega
        clear hcl
        clear hdb
        go_wp2
        go_roundw
        case rel => exact ⟨n + 1, a + z, by omega, by go_num, rfl, HA1, al HB⟩
        case measure => simp [intOf]; omega
    · obtain rfl : n = 1441 := by omega
      rw [HA.out] at HV
      go_wp2
      go_ret2
      exact rpost (by rw [HV.out] <;> rfl) HB
end Go.Proofs.Ytbbnbkdglihhhaa.IMin2
