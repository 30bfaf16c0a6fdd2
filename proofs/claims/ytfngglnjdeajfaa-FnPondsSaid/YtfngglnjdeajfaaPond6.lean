/- BankOf, OuterBank, HoldsCubic, FreeCells: the model's and the program's. -/
import Derived.Test.YtfngglnjdeajfaaPond5
namespace Go.Proofs.Ytfngglnjdeajfaa.Pond6
open Go.RowKit Go.Proofs.Ytfngglnjdeajfaa.Mem Go.Proofs.Ytfngglnjdeajfaa.Base Go.Proofs.Ytfngglnjdeajfaa.Within Go.Proofs.Ytfngglnjdeajfaa.SPond Go.Proofs.Ytfngglnjdeajfaa.Regn Go.Proofs.Ytfngglnjdeajfaa.Boxes Go.Proofs.Ytfngglnjdeajfaa.Pond Go.Proofs.Ytfngglnjdeajfaa.Pond2 Go.Proofs.Ytfngglnjdeajfaa.Pond3 Go.Proofs.Ytfngglnjdeajfaa.Pond4 Go.Proofs.Ytfngglnjdeajfaa.IPond Go.Proofs.Ytfngglnjdeajfaa.IPond2
set_option linter.unusedVariables false
set_option maxRecDepth 100000
def findV (l : List R) (id : Int) : Value := if 0 ≤ find l id then .tuple #[.int .i64 (find l id), .bool true] else .tuple #[.int .i64 0, .bool false]
theorem findV_no {l : List R} {id : Int} (h : find l id = -1) : findV l id = .tuple #[.int .i64 0, .bool false] := by unfold findV; rw [if_neg (by omega)]
theorem findV_yes {l : List R} {id : Int} {k : Nat} (h : find l id = k) : findV l id = .tuple #[.int .i64 k, .bool true] := by unfold findV; rw [if_pos (by omega), h]
theorem find_neg {l : List R} {id : Int} (h : ¬ 0 ≤ find l id) : find l id = -1 := by have := find_range (l := l) (id := id); omega
set_option maxHeartbeats 1000000 in
theorem find_impl (P : Option Addr) (cap : Nat) (l : List R) (id : Int) (w : World) (hr : Rd w w.heap.size P (flat l)) (hcap : l.length ≤ cap) (hn : l.length ≤ 1048576) :
    Calls Try.prog 59 #[.slice P l.length cap, .int .i64 id] w (RPost (findV l id) w) := by
  have HR := Lib.hid hr; clear hr
  go_enter Try.func59, Try.ntmps59
  go_wp2_with fail
  refine (are_impl P cap l w HR.out hcap hn).mono ?_
  rintro e w1 ⟨rfl, HB0⟩
  cases hg : good l
  · have HV := Lib.hid (findV_no (find_bad (id := id) hg))
    go_wp2
    go_ret2
    exact rpost (by rw [HV.out] <;> rfl) HB0
  have HG := Lib.hid hg; clear hg
  go_wp2
  go_loopw [13] (fun i wr => ∃ k : Nat, k ≤ l.length ∧ i = .int .i64 k ∧ Hid (Not l id k) ∧ Below w.heap.size w wr) (fun i _ => l.length - (intOf i).toNat)
  case atStart => exact ⟨0, Nat.zero_le _, rfl, Lib.hid (fun j _ hj => by omega), HB0⟩
  case round =>
    clear HB0
    obtain ⟨k, hk, rfl, HN, HB0⟩ := hrel
    by_cases hlt : k < l.length
    · obtain ⟨b, o, rfl, hb, hc⟩ := HR.out.at (k := k * 6) (by rw [flat_n]; omega)
      obtain ⟨x, hx⟩ : ∃ x, l[k] = x := ⟨_, rfl⟩
      obtain ⟨h0, h1, h2, h3, h4, h5⟩ := cells6 HB0 hb hc hlt hx
      have hx0 : l[k].f0 = x.f0 := congrArg R.f0 hx
      have HX := Lib.hid hx0; clear hc hx hx0
      have HL := Lib.hid hlt
      by_cases he : x.f0 = id
      · have hq : (x.f0 == id) = true := by simp [he]
        have HV := Lib.hid (findV_yes (find_at HG.out HL.out HN.out (HX.out.trans he))); clear he
        go_wp2
        go_ret2
        exact rpost (by rw [HV.out] <;> rfl) (al HB0)
      · have hq : (x.f0 == id) = false := by simp [he]
        have HN1 := Lib.hid (HN.out.next HL.out (by rw [HX.out]; exact he)); clear he
        go_wp2
        go_roundw
        case rel => exact ⟨k + 1, HL.out, by go_num, HN1, al HB0⟩
        case measure => have := HL.out; simp [intOf]; omega
    · obtain rfl : k = l.length := by omega
      have HV := Lib.hid (findV_no (find_none HN.out))
      go_wp2
      go_ret2
      exact rpost (by rw [HV.out] <;> rfl) HB0
set_option maxHeartbeats 400000 in
theorem holds_impl (P : Option Addr) (cap : Nat) (l : List R) (id : Int) (w : World) (hr : Rd w w.heap.size P (flat l)) (hcap : l.length ≤ cap) (hn : l.length ≤ 1048576) :
    Calls Try.prog 28 #[.slice P l.length cap, .int .i64 id] w (RPost (holdsV l id) w) := by
  have HR := Lib.hid hr; clear hr
  go_enter Try.func28, Try.ntmps28
  go_wp2_with fail
  refine (find_impl P cap l id w HR.out hcap hn).mono ?_
  rintro e w1 ⟨rfl, HB⟩
  by_cases h0 : 0 ≤ find l id
  · obtain ⟨k, hk, hlt, _, hg⟩ := find_ok h0
    obtain ⟨b, o, rfl, hb, hc⟩ := HR.out.at (k := k * 6) (by rw [flat_n]; omega)
    have hox := (good_all hg).2 k hlt
    obtain ⟨x, hx⟩ : ∃ x, l[k] = x := ⟨_, rfl⟩
    rw [hx] at hox
    obtain ⟨_, _, _, _, _, _, a5, a6, a7, a8, _, _, a9, a10⟩ := okP_true hox
    obtain ⟨h0, h1, h2, h3, h4, h5⟩ := cells6 (Below.refl _ w) hb hc hlt hx
    have h0_c := ((bcell HB).1 _ _ hb).trans h0
    have h1_c := ((bcell HB).1 _ _ hb).trans h1
    have h2_c := ((bcell HB).1 _ _ hb).trans h2
    have h3_c := ((bcell HB).1 _ _ hb).trans h3
    have h4_c := ((bcell HB).1 _ _ hb).trans h4
    have h5_c := ((bcell HB).1 _ _ hb).trans h5
    have HV := Lib.hid (holds_yes hk hlt hx)
    have HA := Lib.hid (fun u => area_any x (by omega) (by omega) (by omega) (by omega) u)
    rw [findV_yes hk]
    clear hc hx hg hox hk
    have m0 : 0 ≤ x.f3 * x.f4 := Int.mul_nonneg (by omega) (by omega)
    have m1 : x.f3 * x.f4 ≤ 20 * 20 := Int.mul_le_mul a6 a8 (by omega) (by omega)
    have m2 : 0 ≤ x.f3 * x.f4 * x.f5 := Int.mul_nonneg m0 (by omega)
    have m3 : x.f3 * x.f4 * x.f5 ≤ 400 * 200 := Int.mul_le_mul (by omega) a10 (by omega) (by omega)
    have y2 : IntKind.i64.wrap (x.f3 * x.f4 * x.f5) = x.f3 * x.f4 * x.f5 := IntWalk.i64_in _ (by omega)
    clear m0 m1 m2 m3 a5 a6 a7 a8 a9 a10
    go_wp2_with fail
    refine wp_region_last 11 (fun w' => Below w.heap.size w w') (by kernel_rfl) (by kernel_rfl) (by kernel_rfl) (be HB (Below.refl _ _).drew) ?_
    clear h0_c
    clear h1_c
    clear h2_c
    clear h3_c
    clear h4_c
    clear h5_c
    simp only [List.take_succ_cons, List.take_zero]
    iterate 11 (
      apply SeqH.one
      · intro uw K hS hK
        have qHB := hS
        have qh0_c := ((bcell qHB).1 _ _ hb).trans h0
        have qh1_c := ((bcell qHB).1 _ _ hb).trans h1
        have qh2_c := ((bcell qHB).1 _ _ hb).trans h2
        have qh3_c := ((bcell qHB).1 _ _ hb).trans h3
        have qh4_c := ((bcell qHB).1 _ _ hb).trans h4
        have qh5_c := ((bcell qHB).1 _ _ hb).trans h5
        first
          | (go_simp; exact hK.out _ qHB)
          | (go_simp; go_at_call 66; (with_reducible refine (HA.out _).mono ?_); rintro e uw1 ⟨rfl, hv⟩; go_wp2_with fail; exact hK.out _ (be qHB hv))
      try simp only [Act.put, List.setIfInBounds_toArray, List.set_cons_zero, List.set_cons_succ])
    refine SeqH.rest rfl ?_
    intro v1 hS
    clear HB
    have HB := hS; clear hS
    simp only [List.drop_succ_cons, List.drop_zero]
    have h0_c := ((bcell HB).1 _ _ hb).trans h0
    have h1_c := ((bcell HB).1 _ _ hb).trans h1
    have h2_c := ((bcell HB).1 _ _ hb).trans h2
    have h3_c := ((bcell HB).1 _ _ hb).trans h3
    have h4_c := ((bcell HB).1 _ _ hb).trans h4
    have h5_c := ((bcell HB).1 _ _ hb).trans h5
    go_wp2
    go_ret2
    exact rpost (by rw [HV.out] <;> rfl) HB
  · have HV := Lib.hid (holds_no (l := l) (id := id) (by omega))
    rw [findV_no (find_neg h0)]
    clear h0
    go_wp2
    go_ret2
    exact rpost (by rw [HV.out] <;> rfl) HB
end Go.Proofs.Ytfngglnjdeajfaa.Pond6
