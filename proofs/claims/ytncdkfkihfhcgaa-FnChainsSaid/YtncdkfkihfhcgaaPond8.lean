/- OuterBank, FreeCells: the model's and the program's. -/
import Derived.Test.YtncdkfkihfhcgaaPond7
namespace Go.Proofs.Ytncdkfkihfhcgaa.Pond8
open Go.RowKit Go.Proofs.Ytncdkfkihfhcgaa.Mem Go.Proofs.Ytncdkfkihfhcgaa.Base Go.Proofs.Ytncdkfkihfhcgaa.Within Go.Proofs.Ytncdkfkihfhcgaa.SPond Go.Proofs.Ytncdkfkihfhcgaa.Regn Go.Proofs.Ytncdkfkihfhcgaa.Boxes Go.Proofs.Ytncdkfkihfhcgaa.Pond Go.Proofs.Ytncdkfkihfhcgaa.Pond2 Go.Proofs.Ytncdkfkihfhcgaa.Pond3 Go.Proofs.Ytncdkfkihfhcgaa.Pond4 Go.Proofs.Ytncdkfkihfhcgaa.IPond Go.Proofs.Ytncdkfkihfhcgaa.IPond2 Go.Proofs.Ytncdkfkihfhcgaa.Pond6
set_option linter.unusedVariables false
set_option maxRecDepth 100000
def banks (x : R) (l : List R) : Int := (l.map (bank x)).sum
theorem banks_snoc (x : R) (l : List R) (k : Nat) (h : k < l.length) : banks x (l.take (k + 1)) = banks x (l.take k) + bank x l[k] := by
  unfold banks; rw [List.take_succ_eq_append_getElem h, List.map_append, List.sum_append]; simp
theorem bank_self {x : R} (hx : okP x = true) : bank x x = 0 := by
  obtain ⟨_, _, a1, a2, a3, a4, a5, a6, a7, a8, _, _, _, _⟩ := okP_true hx
  unfold bank
  rw [if_neg (by omega), if_neg (by omega)]
def outV (l : List R) (id : Int) : Value := if 0 ≤ find l id then .tuple #[.int .i64 (2 * ((at_ l (find l id)).f3 + (at_ l (find l id)).f4) - banks (at_ l (find l id)) l), .bool true] else .tuple #[.int .i64 0, .bool false]
theorem out_no {l : List R} {id : Int} (h : find l id < 0) : outV l id = .tuple #[.int .i64 0, .bool false] := by unfold outV; rw [if_neg (by omega)]
theorem out_yes {l : List R} {id : Int} {k : Nat} {x : R} {s : Int} (h : find l id = k) (hk : k < l.length) (hx : l[k] = x) (hs : s = 2 * (x.f3 + x.f4) - banks x l) : outV l id = .tuple #[.int .i64 s, .bool true] := by
  unfold outV at_; rw [if_pos (by omega), h, Int.toNat_natCast, getD_at hk, hx, hs]
set_option maxHeartbeats 400000 in
theorem free_impl (P : Option Addr) (cap : Nat) (l : List R) (w : World) (hr : Rd w w.heap.size P (flat l)) (hcap : l.length ≤ cap) (hn : l.length ≤ 1048576) :
    Calls Try.prog 11 #[.slice P l.length cap] w (RPost (freeV l) w) := by
  have HR := Lib.hid hr; clear hr
  go_enter Try.func11, Try.ntmps11
  go_wp2_with fail
  refine (are_impl P cap l w HR.out hcap hn).mono ?_
  rintro e w1 ⟨rfl, HB⟩
  cases hg : good l
  · have HV := Lib.hid (show freeV l = .tuple #[.int .i64 0, .bool false] by unfold freeV; rw [hg]; rfl)
    go_wp2
    go_ret2
    exact rpost (by rw [HV.out] <;> rfl) HB
  · have HG := Lib.hid (good_all hg)
    have HV := Lib.hid (show freeV l = .tuple #[.int .i64 (2500 - area l), .bool true] by unfold freeV; rw [if_pos hg])
    clear hg
    go_wp2
    go_loopw [4, 12] (fun n i wr => ∃ (k : Nat) (s : Int), k ≤ l.length ∧ i = .int .i64 k ∧ n = .int .i64 s ∧ Hid (s = 2500 - area (l.take k)) ∧ 2500 - 400 * k ≤ s ∧ s ≤ 2500 ∧ Below w.heap.size w wr) (fun _ i _ => l.length - (intOf i).toNat)
    case atStart => exact ⟨0, 2500, Nat.zero_le _, rfl, rfl, Lib.hid (by simp [area]), by omega, by omega, HB⟩
    case round =>
      clear HB
      obtain ⟨k, s, hk, rfl, rfl, HS, s0, s1, HB⟩ := hrel
      by_cases hlt : k < l.length
      · obtain ⟨b, o, rfl, hb, hc⟩ := HR.out.at (k := k * 6) (by rw [flat_n]; omega)
        have hox := HG.out.2 k hlt
        obtain ⟨x, hx⟩ : ∃ x, l[k] = x := ⟨_, rfl⟩
        rw [hx] at hox
        obtain ⟨_, _, _, _, _, _, a5, a6, a7, a8, _, _, a9, a10⟩ := okP_true hox
        obtain ⟨h0, h1, h2, h3, h4, h5⟩ := cells6 HB hb hc hlt hx
        have HN := Lib.hid (show s - x.f3 * x.f4 = 2500 - area (l.take (k + 1)) by rw [area_snoc l k hlt, HS.out, hx]; omega)
        have HK := Lib.hid HG.out.1
        have HA := Lib.hid (fun u => area_any x (by omega) (by omega) (by omega) (by omega) u)
        clear hc hx hox
        have m0 : 0 ≤ x.f3 * x.f4 := Int.mul_nonneg (by omega) (by omega)
        have m1 : x.f3 * x.f4 ≤ 20 * 20 := Int.mul_le_mul a6 a8 (by omega) (by omega)
        have y2 : IntKind.i64.wrap (s - x.f3 * x.f4) = s - x.f3 * x.f4 := IntWalk.i64_in _ (by have := HK.out; omega)
        have HM := Lib.hid (And.intro m0 m1)
        have HL := Lib.hid hlt
        clear m0 m1 a5 a6 a7 a8 a9 a10
        go_wp2_with fail
        have B := Box.new HB [.int .i64 x.f0, .int .i64 x.f1, .int .i64 x.f2, .int .i64 x.f3, .int .i64 x.f4, .int .i64 x.f5] 54 (g := wr.heap.size) rfl
        replace HB := be HB (al (Below.refl _ _) (o := (.cells #[.int .i64 x.f0, .int .i64 x.f1, .int .i64 x.f2, .int .i64 x.f3, .int .i64 x.f4, .int .i64 x.f5] 54)))
        generalize (wr.alloc (.cells #[.int .i64 x.f0, .int .i64 x.f1, .int .i64 x.f2, .int .i64 x.f3, .int .i64 x.f4, .int .i64 x.f5] 54)) = W1 at B HB ⊢
        have B_0 := B.cells 0 _ rfl
        have B_1 := B.cells 1 _ rfl
        have B_2 := B.cells 2 _ rfl
        have B_3 := B.cells 3 _ rfl
        have B_4 := B.cells 4 _ rfl
        have B_5 := B.cells 5 _ rfl
        have B_f0 := B.free 0 (by simp)
        have B_f1 := B.free 1 (by simp)
        have B_f2 := B.free 2 (by simp)
        have B_f3 := B.free 3 (by simp)
        have B_f4 := B.free 4 (by simp)
        have B_f5 := B.free 5 (by simp)
        have B_t := B.there
        clear h0 h1 h2 h3 h4 h5
        go_wp2_with fail
        refine (HA.out _).mono ?_
        rintro e v2 ⟨rfl, hv2⟩
        clear B_0 B_1 B_2 B_3 B_4 B_5 B_f0 B_f1 B_f2 B_f3 B_f4 B_f5 B_t
        replace B := B.more hv2
        replace HB := be HB hv2
        have zhv2 := hv2.size
        clear hv2
        have B_0 := B.cells 0 _ rfl
        have B_1 := B.cells 1 _ rfl
        have B_2 := B.cells 2 _ rfl
        have B_3 := B.cells 3 _ rfl
        have B_4 := B.cells 4 _ rfl
        have B_5 := B.cells 5 _ rfl
        have B_f0 := B.free 0 (by simp)
        have B_f1 := B.free 1 (by simp)
        have B_f2 := B.free 2 (by simp)
        have B_f3 := B.free 3 (by simp)
        have B_f4 := B.free 4 (by simp)
        have B_f5 := B.free 5 (by simp)
        have B_t := B.there
        go_wp2
        go_roundw
        case rel => exact ⟨k + 1, _, HL.out, by go_num, rfl, HN, by have := HM.out; omega, by have := HM.out; omega, B.below⟩
        case measure => have := HL.out; simp [intOf]; omega
      · have HE := Lib.hid (show s = 2500 - area l by have := HS.out; rwa [List.take_of_length_le (by omega)] at this)
        go_wp2
        go_ret2
        exact rpost (by rw [HV.out, HE.out] <;> rfl) HB
end Go.Proofs.Ytncdkfkihfhcgaa.Pond8
