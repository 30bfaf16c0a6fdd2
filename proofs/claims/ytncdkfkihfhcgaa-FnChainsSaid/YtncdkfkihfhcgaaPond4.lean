/- The model's HoldsCubic, FreeCells. -/
import Derived.Test.YtncdkfkihfhcgaaPond3
namespace Go.Proofs.Ytncdkfkihfhcgaa.Pond4
open Go.RowKit Go.Proofs.Ytncdkfkihfhcgaa.Mem Go.Proofs.Ytncdkfkihfhcgaa.Base Go.Proofs.Ytncdkfkihfhcgaa.SPond Go.Proofs.Ytncdkfkihfhcgaa.Regn Go.Proofs.Ytncdkfkihfhcgaa.Boxes Go.Proofs.Ytncdkfkihfhcgaa.Pond Go.Proofs.Ytncdkfkihfhcgaa.Pond2 Go.Proofs.Ytncdkfkihfhcgaa.Pond3
set_option linter.unusedVariables false
set_option maxRecDepth 100000
theorem good_all {l : List R} (h : good l = true) : l.length ≤ 10 ∧ ∀ i (h : i < l.length), okP l[i] = true := by
  unfold good at h
  rw [Bool.and_eq_true, decide_eq_true_eq] at h
  refine ⟨h.2, fun i hi => ?_⟩
  have := List.all_eq_true.1 h.1 i (List.mem_range.2 (by omega))
  unfold okAt at this
  rw [getD_at hi] at this
  simp only [Bool.and_eq_true] at this
  exact this.1.1
theorem find_ok {l : List R} {id : Int} (h : 0 ≤ find l id) : ∃ k : Nat, find l id = k ∧ ∃ hk : k < l.length, l[k].f0 = id ∧ good l = true := by
  unfold find at *
  split at h
  · rename_i hg
    rw [if_pos hg]
    split at h
    · rename_i i hi
      obtain ⟨h1, h2, _⟩ := List.findIdx?_eq_some_iff_getElem.1 hi
      exact ⟨i, rfl, h1, by simpa using h2, hg⟩
    · omega
  · omega
def at_ (l : List R) (i : Int) : R := l.getD i.toNat zero
def holdsV (l : List R) (id : Int) : Value := if 0 ≤ find l id then .tuple #[.int .i64 ((at_ l (find l id)).f3 * (at_ l (find l id)).f4 * (at_ l (find l id)).f5), .bool true] else .tuple #[.int .i64 0, .bool false]
theorem holds_no {l : List R} {id : Int} (h : find l id < 0) : holdsV l id = .tuple #[.int .i64 0, .bool false] := by unfold holdsV; rw [if_neg (by omega)]
theorem holds_yes {l : List R} {id : Int} {k : Nat} {x : R} (h : find l id = k) (hk : k < l.length) (hx : l[k] = x) : holdsV l id = .tuple #[.int .i64 (x.f3 * x.f4 * x.f5), .bool true] := by
  unfold holdsV at_; rw [if_pos (by omega), h, Int.toNat_natCast, getD_at hk, hx]
def area (l : List R) : Int := (l.map fun x => x.f3 * x.f4).sum
def freeV (l : List R) : Value := if good l = true then .tuple #[.int .i64 (2500 - area l), .bool true] else .tuple #[.int .i64 0, .bool false]
theorem area_snoc (l : List R) (k : Nat) (h : k < l.length) : area (l.take (k + 1)) = area (l.take k) + l[k].f3 * l[k].f4 := by
  unfold area; rw [List.take_succ_eq_append_getElem h, List.map_append, List.sum_append]; simp
set_option maxHeartbeats 400000 in
theorem free_spec (P : Option Addr) (cap : Nat) (l : List R) (w : World) (hr : Rd w w.heap.size P (flat l)) (hn : l.length ≤ 1048576) :
    Calls Try.prog 12 #[.slice P l.length cap] w (RPost (freeV l) w) := by
  have HR := Lib.hid hr; clear hr
  go_enter Try.func12, Try.ntmps12
  go_wp2_with fail
  refine (good_spec P cap l w HR.out hn).mono ?_
  rintro e w1 ⟨rfl, HB1⟩
  cases hg : good l
  · have HV := Lib.hid (show freeV l = .tuple #[.int .i64 0, .bool false] by unfold freeV; rw [hg]; rfl)
    go_wp2
    go_ret2
    exact rpost (by rw [HV.out] <;> rfl) HB1
  · have HG := Lib.hid (good_all hg)
    have HV := Lib.hid (show freeV l = .tuple #[.int .i64 (2500 - area l), .bool true] by unfold freeV; rw [if_pos hg])
    clear hg
    go_wp2
    go_loopw [4, 5] (fun n i wr => ∃ (k : Nat) (s : Int), k ≤ l.length ∧ i = .int .i64 k ∧ n = .int .i64 s ∧ Hid (s = 2500 - area (l.take k)) ∧ 2500 - 400 * k ≤ s ∧ s ≤ 2500 ∧ Below w.heap.size w wr) (fun _ i _ => l.length - (intOf i).toNat)
    case atStart => exact ⟨0, 2500, Nat.zero_le _, rfl, rfl, Lib.hid (by simp [area]), by omega, by omega, HB1⟩
    case round =>
      clear HB1
      obtain ⟨k, s, hk, rfl, rfl, HS, s0, s1, HB⟩ := hrel
      by_cases hlt : k < l.length
      · obtain ⟨b, o, rfl, hb, hc⟩ := HR.out.at (k := k * 6) (by rw [flat_n]; omega)
        have hox := HG.out.2 k hlt
        obtain ⟨x, hx⟩ : ∃ x, l[k] = x := ⟨_, rfl⟩
        rw [hx] at hox
        obtain ⟨_, _, _, _, _, _, a5, a6, a7, a8, _, _, a9, a10⟩ := okP_true hox
        have h3 : wr.cell? ⟨b, o + k * 6 + 3, none⟩ = some (.int .i64 x.f3) := ((bcell HB).1 _ _ hb).trans (by rw [← hx]; exact hc _ _ (flat_3 l k hlt))
        have h4 : wr.cell? ⟨b, o + k * 6 + 4, none⟩ = some (.int .i64 x.f4) := ((bcell HB).1 _ _ hb).trans (by rw [← hx]; exact hc _ _ (flat_4 l k hlt))
        have HN := Lib.hid (show s - x.f3 * x.f4 = 2500 - area (l.take (k + 1)) by rw [area_snoc l k hlt, HS.out, hx]; omega)
        have HK := Lib.hid HG.out.1
        clear hc hx hox
        have m0 : 0 ≤ x.f3 * x.f4 := Int.mul_nonneg (by omega) (by omega)
        have m1 : x.f3 * x.f4 ≤ 20 * 20 := Int.mul_le_mul a6 a8 (by omega) (by omega)
        have y1 : IntKind.i64.wrap (x.f3 * x.f4) = x.f3 * x.f4 := IntWalk.i64_in _ (by omega)
        have y2 : IntKind.i64.wrap (s - x.f3 * x.f4) = s - x.f3 * x.f4 := IntWalk.i64_in _ (by have := HK.out; omega)
        have HM := Lib.hid (And.intro m0 m1)
        clear m0 m1 a5 a6 a7 a8 a9 a10
        go_wp2
        go_quiet (fail)
        go_wp2
        go_roundw
        case rel => exact ⟨k + 1, _, by omega, by go_num, rfl, HN, by have := HM.out; omega, by have := HM.out; omega, Below.drewN' HB _⟩
        case measure => simp [intOf]; omega
      · have HE := Lib.hid (show s = 2500 - area l by have := HS.out; rwa [List.take_of_length_le (by omega)] at this)
        go_wp2
        go_ret2
        exact rpost (by rw [HV.out, HE.out] <;> rfl) HB
end Go.Proofs.Ytncdkfkihfhcgaa.Pond4
