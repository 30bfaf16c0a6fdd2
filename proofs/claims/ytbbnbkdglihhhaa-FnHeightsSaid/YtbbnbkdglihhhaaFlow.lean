/- The model's TideAt and l4Flow. -/
import Derived.Test.YtbbnbkdglihhhaaAt
namespace Go.Proofs.Ytbbnbkdglihhhaa.Flow
open Go.RowKit Go.Proofs.Ytbbnbkdglihhhaa.Mem Go.Proofs.Ytbbnbkdglihhhaa.Base Go.Proofs.Ytbbnbkdglihhhaa.SMark Go.Proofs.Ytbbnbkdglihhhaa.Regn Go.Proofs.Ytbbnbkdglihhhaa.Boxes Go.Proofs.Ytbbnbkdglihhhaa.Tide Go.Proofs.Ytbbnbkdglihhhaa.Tide2 Go.Proofs.Ytbbnbkdglihhhaa.Red Go.Proofs.Ytbbnbkdglihhhaa.At
set_option linter.unusedVariables false
set_option maxRecDepth 100000
def askAt (l : List R) (m : Int) : Bool := good l && inB m 0 1440
def atV (l : List R) (m : Int) : Value := if askAt l m = true then .tuple #[.int .i64 (low (num l m) (den l m)), .int .i64 (low' (num l m) (den l m)), .bool true] else .tuple #[.int .i64 0, .int .i64 0, .bool false]
theorem atV_no {l : List R} {m : Int} (h : askAt l m = false) : atV l m = .tuple #[.int .i64 0, .int .i64 0, .bool false] := by unfold atV; rw [h]; rfl
theorem atV_yes {l : List R} {m : Int} (h : askAt l m = true) : atV l m = .tuple #[.int .i64 (low (num l m) (den l m)), .int .i64 (low' (num l m) (den l m)), .bool true] := by unfold atV; rw [if_pos h]
theorem atV_form (l : List R) (m : Int) : ∃ x y q, atV l m = .tuple #[.int .i64 x, .int .i64 y, .bool q] := by unfold atV; split <;> exact ⟨_, _, _, rfl⟩
theorem ask_bad {l : List R} {m : Int} (h : good l = false) : askAt l m = false := by unfold askAt; rw [h]; rfl
theorem ask_far {l : List R} {m : Int} (h : inB m 0 1440 = false) : askAt l m = false := by unfold askAt; rw [h]; simp
theorem ask_in {l : List R} {m : Int} (h : good l = true) (h1 : inB m 0 1440 = true) : askAt l m = true := by unfold askAt; rw [h, h1]; rfl
theorem tideat_spec (P : Option Addr) (cap : Nat) (l : List R) (m : Int) (w : World) (hr : Rd w w.heap.size P (flat l)) (hn : l.length ≤ 1048576) :
    Calls Try.prog 41 #[.slice P l.length cap, .int .i64 m] w (RPost (atV l m) w) := by
  have HR := Lib.hid hr; clear hr
  go_enter Try.func41, Try.ntmps41
  go_wp2_with fail
  refine (good_spec P cap l w HR.out hn).mono ?_
  rintro e w1 ⟨rfl, HB⟩
  cases hg : good l
  · have HV := Lib.hid (atV_no (m := m) (ask_bad hg))
    go_wp2
    go_ret3
    exact rpost (by rw [HV.out] <;> rfl) HB
  have HG := Lib.hid hg
  cases hm : inB m 0 1440
  · have HV := Lib.hid (atV_no (l := l) (ask_far hm))
    go_wp2_with fail
    refine (minute_spec _ _).mono ?_
    rintro e _ ⟨rfl, rfl⟩
    rw [hm]
    go_wp2
    go_ret3
    exact rpost (by rw [HV.out] <;> rfl) HB
  have HV := Lib.hid (atV_yes (ask_in hg hm))
  have hmb := of_inB hm
  go_wp2_with fail
  refine (minute_spec _ _).mono ?_
  rintro e _ ⟨rfl, rfl⟩
  rw [hm]
  clear hg hm
  go_wp2_with fail
  refine (at_spec P cap l m w1 (rd_keep HR.out HB) HG.out hmb.1 hmb.2).mono ?_
  rintro e w2 ⟨rfl, hv⟩
  replace HB := be HB hv
  clear hv
  generalize low (num l m) (den l m) = x at *
  generalize low' (num l m) (den l m) = y at *
  go_wp2
  go_ret3
  exact rpost (by rw [HV.out] <;> rfl) HB
def inAt (l : List R) (s p m : Int) : Bool := decide (den l m * most s p < num l m)
def outAt (l : List R) (s p m : Int) : Bool := decide (s < p) && decide (num l m < den l m * p)
def flow (l : List R) (s p m : Int) : Int := if inAt l s p m = true then 1 else if outAt l s p m = true then -1 else 0
theorem flow_in {l : List R} {s p m : Int} (h : den l m * most s p < num l m) : flow l s p m = 1 := by unfold flow inAt; rw [if_pos (decide_eq_true h)]
theorem flow_out {l : List R} {s p m : Int} (h : ¬ den l m * most s p < num l m) (h1 : s < p) (h2 : num l m < den l m * p) : flow l s p m = -1 := by
  unfold flow inAt outAt; rw [if_neg (by simp; omega), decide_eq_true h1, decide_eq_true h2]; rfl
theorem flow_no {l : List R} {s p m : Int} (h : ¬ den l m * most s p < num l m) (h1 : ¬ (s < p ∧ num l m < den l m * p)) : flow l s p m = 0 := by
  unfold flow inAt outAt; rw [if_neg (by simp; omega), if_neg]
  simp only [Bool.and_eq_true, decide_eq_true_eq]; exact h1
theorem low'_le {n d : Int} (h : 0 < d) : low' n d ≤ d := by
  have h1 := low'_mul (n := n) h
  have h2 := gcd_pos (n := n) h
  have h3 := low'_pos (n := n) h
  have := Int.mul_le_mul_of_nonneg_right (show 1 ≤ gcd n d by omega) (Int.le_of_lt h3)
  omega
theorem most_bd {s p a b : Int} (h1 : a ≤ s) (h2 : s ≤ b) (h3 : a ≤ p) (h4 : p ≤ b) : a ≤ most s p ∧ most s p ≤ b := by unfold most; split <;> omega
set_option maxHeartbeats 400000 in
theorem flow_spec (P : Option Addr) (cap : Nat) (l : List R) (s p m : Int) (w : World) (hr : Rd w w.heap.size P (flat l)) (hg : good l = true) (hs : inB s (-500) 500 = true) (hp : inB p (-500) 500 = true) (h0 : 0 ≤ m) (h1 : m ≤ 1440) :
    Calls Try.prog 91 #[.slice P l.length cap, .int .i64 s, .int .i64 p, .int .i64 m] w (RPost (.int .i64 (flow l s p m)) w) := by
  have hd := den_bd hg h0 h1
  have L1 := fun x => low_lt (n := num l m) (x := x) (show 0 < den l m by omega)
  have L2 := fun x => low_gt (n := num l m) (x := x) (show 0 < den l m by omega)
  have l3 := low'_le (n := num l m) (show 0 < den l m by omega)
  have l4 := low'_pos (n := num l m) (show 0 < den l m by omega)
  have hsb := of_inB hs; have hpb := of_inB hp
  have hmb := most_bd hsb.1 hsb.2 hpb.1 hpb.2
  go_enter Try.func91, Try.ntmps91
  go_wp2_with fail
  refine (at_spec P cap l m w hr hg h0 h1).mono ?_
  rintro e w1 ⟨rfl, HB⟩
  generalize low (num l m) (den l m) = x at *
  generalize low' (num l m) (den l m) = y at *
  go_wp2_with fail
  refine (most_any _ _ _).mono ?_
  rintro e _ ⟨rfl, rfl⟩
  have z1 := mul_bd (x := most s p) (y := y) (a := 500) (b := 1440) (by omega) (by omega) (by omega) (by omega) (by omega)
  have z2 := mul_bd (x := p) (y := y) (a := 500) (b := 1440) (by omega) (by omega) (by omega) (by omega) (by omega)
  rw [Int.mul_comm (most s p) y] at z1
  rw [Int.mul_comm p y] at z2
  have y1 : IntKind.i64.wrap (y * most s p) = y * most s p := IntWalk.i64_in _ (by omega)
  have y2 : IntKind.i64.wrap (y * p) = y * p := IntWalk.i64_in _ (by omega)
  have K1 := L1 (most s p); have K2 := L2 p
  by_cases c1 : den l m * most s p < num l m
  · have HV := Lib.hid (flow_in c1)
    have k1 := K1.2 c1
    clear c1 K1 K2 L1 L2 z1 z2 hmb hsb hpb l3 l4 hd hs hp hg
    go_wp2
    go_ret
    exact rpost (by rw [HV.out] <;> rfl) HB
  · have k1 : ¬ y * most s p < x := fun h => c1 (K1.1 h)
    have k1' : x ≤ y * most s p := by omega
    by_cases c2 : s < p
    · by_cases c3 : num l m < den l m * p
      · have HV := Lib.hid (flow_out c1 c2 c3)
        have k2 := K2.2 c3
        clear c1 c3 K1 K2 L1 L2 z1 z2 hmb hsb hpb l3 l4 hd hs hp hg
        go_wp2
        go_ret
        exact rpost (by rw [HV.out] <;> rfl) HB
      · have HV := Lib.hid (flow_no c1 (fun h => c3 h.2))
        have k2 : ¬ x < y * p := fun h => c3 (K2.1 h)
        have k2' : y * p ≤ x := by omega
        clear c1 c3 K1 K2 L1 L2 z1 z2 hmb hsb hpb l3 l4 hd hs hp hg
        go_wp2
        go_ret
        exact rpost (by rw [HV.out] <;> rfl) HB
    · have HV := Lib.hid (flow_no c1 (fun h => c2 h.1))
      have k2' : p ≤ s := by omega
      clear c1 K1 K2 L1 L2 z1 z2 hmb hsb hpb l3 l4 hd hs hp hg
      go_wp2
      go_ret
      exact rpost (by rw [HV.out] <;> rfl) HB
end Go.Proofs.Ytbbnbkdglihhhaa.Flow
