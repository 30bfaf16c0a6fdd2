/- The model's exported functions on brines: water to lose, to add, stronger. -/
import Derived.Test.YtcmomccdnkligaaBrine3
namespace Go.Proofs.Ytcmomccdnkligaa.Brine4
open Go.RowKit Go.Proofs.Ytcmomccdnkligaa.Mem Go.Proofs.Ytcmomccdnkligaa.Base Go.Proofs.Ytcmomccdnkligaa.Brine Go.Proofs.Ytcmomccdnkligaa.Brine2
set_option linter.unusedVariables false
def okR (n d : Int) : Bool := inB n 1 d && decide (d ≤ 1000)
theorem okR_true {n d : Int} (h : okR n d = true) : 1 ≤ n ∧ n ≤ d ∧ d ≤ 1000 := by
  unfold okR at h
  rw [Bool.and_eq_true] at h
  have h1 := of_inB h.1; have h2 := of_decide_eq_true h.2; omega
theorem rate_spec (n d : Int) (w : World) : Calls Try.prog 74 #[.int .i64 n, .int .i64 d] w fun e w' => e = .returned (.bool (okR n d)) ∧ w = w' := by
  cases h1 : inB n 1 d
  · have H := Lib.hid (show okR n d = false by unfold okR; rw [h1]; rfl)
    go_enter Try.func74, Try.ntmps74
    go_wp2_with (go_at_call 76; refine (in_any _ _ _ _).mono ?_; rintro e w' ⟨rfl, rfl⟩)
    go_ret
    exact ⟨by rw [H.out]; rfl, rfl⟩
  · have H := Lib.hid (show okR n d = decide (d ≤ 1000) by unfold okR; rw [h1]; rfl)
    go_enter Try.func74, Try.ntmps74
    go_wp2_with (go_at_call 76; refine (in_any _ _ _ _).mono ?_; rintro e w' ⟨rfl, rfl⟩)
    go_ret
    exact ⟨by rw [H.out]; rfl, rfl⟩
def loseI (a b n d : Int) : Int := most 0 (a + b - b * d / n)
def loseOk (a b n d : Int) : Bool := okB a b && (!(b == 0) && okR n d)
def loseV (a b n d : Int) : Value := if loseOk a b n d = true then .tuple #[.int .i64 (loseI a b n d), .bool true] else .tuple #[.int .i64 0, .bool false]
theorem lose_no {a b n d : Int} (h : loseOk a b n d = false) : Hid (loseV a b n d = .tuple #[.int .i64 0, .bool false]) := Lib.hid (by unfold loseV; rw [h]; rfl)
theorem lose_yes {a b n d : Int} (h : loseOk a b n d = true) : Hid (loseV a b n d = .tuple #[.int .i64 (loseI a b n d), .bool true]) := Lib.hid (by unfold loseV; rw [if_pos h])
end Go.Proofs.Ytcmomccdnkligaa.Brine4
