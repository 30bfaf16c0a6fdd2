/- BankOf, OuterBank, HoldsCubic, FreeCells: the model's and the program's. -/
import Derived.Test.YtncdkfkihfhcgaaPond5
namespace Go.Proofs.Ytncdkfkihfhcgaa.Pond6
open Go.RowKit Go.Proofs.Ytncdkfkihfhcgaa.Mem Go.Proofs.Ytncdkfkihfhcgaa.Base Go.Proofs.Ytncdkfkihfhcgaa.Within Go.Proofs.Ytncdkfkihfhcgaa.SPond Go.Proofs.Ytncdkfkihfhcgaa.Regn Go.Proofs.Ytncdkfkihfhcgaa.Boxes Go.Proofs.Ytncdkfkihfhcgaa.Pond Go.Proofs.Ytncdkfkihfhcgaa.Pond2 Go.Proofs.Ytncdkfkihfhcgaa.Pond3 Go.Proofs.Ytncdkfkihfhcgaa.Pond4 Go.Proofs.Ytncdkfkihfhcgaa.IPond Go.Proofs.Ytncdkfkihfhcgaa.IPond2
set_option linter.unusedVariables false
set_option maxRecDepth 100000
def findV (l : List R) (id : Int) : Value := if 0 ≤ find l id then .tuple #[.int .i64 (find l id), .bool true] else .tuple #[.int .i64 0, .bool false]
theorem findV_no {l : List R} {id : Int} (h : find l id = -1) : findV l id = .tuple #[.int .i64 0, .bool false] := by unfold findV; rw [if_neg (by omega)]
theorem findV_yes {l : List R} {id : Int} {k : Nat} (h : find l id = k) : findV l id = .tuple #[.int .i64 k, .bool true] := by unfold findV; rw [if_pos (by omega), h]
theorem find_neg {l : List R} {id : Int} (h : ¬ 0 ≤ find l id) : find l id = -1 := by have := find_range (l := l) (id := id); omega
set_option maxHeartbeats 1000000 in
theorem find_impl (P : Option Addr) (cap : Nat) (l : List R) (id : Int) (w : World) (hr : Rd w w.heap.size P (flat l)) (hcap : l.length ≤ cap) (hn : l.length ≤ 1048576) :
    Calls Try.prog 29 #[.slice P l.length cap, .int .i64 id] w (RPost (findV l id) w) := by
  have HR := Lib.hid hr; clear hr
  go_enter Try.func29, Try.ntmps29
  go_wp2_with fail
  refine (are_impl P cap l w HR.out hcap hn).mono ?_
  rintro e w1 ⟨rfl, HB0⟩
  cases hg : good l
  · have HV := Lib.hid (findV_no (find_bad (id := id) hg))
    go_wp2
    go_ret2
    exact rpost (by rw [HV.out] <;> rfl) HB0
  have HG := Lib.hid hg; clear hg
  go_wp2
  go_loopw [13] (fun i wr => ∃ k : Nat, k ≤ l.length ∧ i = .int .i64 k ∧ Hid (Not l id k) ∧ Below w.heap.size w wr) (fun i _ => l.length - (intOf i).toNat)
  case atStart => exact ⟨0, Nat.zero_le _, rfl, Lib.hid (fun j _ hj => by omega), HB0⟩
  case round =>
    clear HB0
    obtain ⟨k, hk, rfl, HN, HB0⟩ := hrel
    by_cases hlt : k < l.length
    · obtain ⟨b, o, rfl, hb, hc⟩ := HR.out.at (k := k * 6) (by rw [flat_n]; omega)
      obtain ⟨x, hx⟩ : ∃ x, l[k] = x := ⟨_, rfl⟩
      obtain ⟨h0, h1, h2, h3, h4, h5⟩ := cells6 HB0 hb hc hlt hx
      have hx0 : l[k].f0 = x.f0 := congrArg R.f0 hx
      have HX := Lib.hid hx0; clear hc hx hx0
      have HL := Lib.hid hlt
      by_cases he : x.f0 = id
      · have hq : (x.f0 == id) = true := by simp [he]
        have HV := Lib.hid (findV_yes (find_at HG.out HL.out HN.out (HX.out.trans he))); clear he
        go_wp2
        go_ret2
        exact rpost (by rw [HV.out] <;> rfl) (al HB0)
      · have hq : (x.f0 == id) = false := by simp [he]
        have HN1 := Lib.hid (HN.out.next HL.out (by rw [HX.out]; exact he)); clear he
        go_wp2
        go_roundw
        case rel => exact ⟨k + 1, HL.out, by go_num, HN1, al HB0⟩
        case measure => have := HL.out; simp [intOf]; omega
    · obtain rfl : k = l.length := by omega
      have HV := Lib.hid (findV_no (find_none HN.out))
      go_wp2
      go_ret2
      exact rpost (by rw [HV.out] <;> rfl) HB0
end Go.Proofs.Ytncdkfkihfhcgaa.Pond6
