/- Suns: the rate on a day, the sum within days. -/
import Derived.Test.YtcmomccdnkligaaSunG
namespace Go.Proofs.Ytcmomccdnkligaa.SunL
open Go.RowKit Go.Proofs.Ytcmomccdnkligaa.Mem Go.Proofs.Ytcmomccdnkligaa.Base Go.Proofs.Ytcmomccdnkligaa.Within Go.Proofs.Ytcmomccdnkligaa.SSun Go.Proofs.Ytcmomccdnkligaa.Regn Go.Proofs.Ytcmomccdnkligaa.Boxes Go.Proofs.Ytcmomccdnkligaa.Keep Go.Proofs.Ytcmomccdnkligaa.Sun Go.Proofs.Ytcmomccdnkligaa.SunS Go.Proofs.Ytcmomccdnkligaa.SunG
set_option linter.unusedVariables false
set_option maxRecDepth 100000
/-- a number, and the world as it was. -/
def IPost (n : Int) (w : World) (e : Ending) (w' : World) : Prop := e = .returned (.int .i64 n) ∧ w = w'
theorem ipost {n m : Int} {w : World} (h : m = n) : IPost n w (.returned (.int .i64 m)) w := ⟨by rw [h], rfl⟩
theorem on_spec (P : Option Addr) (cap : Nat) (l : List R) (d : Int) (w : World) (hr : Rd w w.heap.size P (flat l)) (hn : l.length ≤ 1048576) :
    Calls Try.prog 63 #[.slice P l.length cap, .int .i64 d] w (IPost (on l d) w) := by
  have HR := Lib.hid hr; clear hr
  go_enter Try.func63, Try.ntmps63
  go_wp2
  go_loopw [5] (fun i wr => ∃ k : Nat, k ≤ l.length ∧ i = .int .i64 k ∧ Hid (Not l d k) ∧ wr = w) (fun i _ => l.length - (intOf i).toNat)
  case atStart => exact ⟨0, Nat.zero_le _, rfl, Lib.hid (fun j _ hj => by omega), rfl⟩
  case round =>
    obtain ⟨k, hk, rfl, HN, rfl⟩ := hrel
    by_cases hlt : k < l.length
    · obtain ⟨b, o, rfl, hb, hc⟩ := HR.out.at (k := k * 2) (by rw [flat_n]; omega)
      obtain ⟨x, hx⟩ : ∃ x, l[k] = x := ⟨_, rfl⟩
      obtain ⟨h0, h1⟩ := cells2 (Below.refl _ _) hb hc hlt hx
      have HL := Lib.hid hlt
      clear hc
      cases he : (x.f0 == d)
      · have HN1 := Lib.hid (HN.out.next hlt (by rw [hx]; exact beq_eq_false_iff_ne.1 he)); clear hx
        go_wp2
        go_roundw
        case rel => exact ⟨k + 1, HL.out, by go_num, HN1, trivial⟩
        case measure => have := HL.out; simp [intOf]; omega
      · have HF := Lib.hid (on_at hlt HN.out hx (eq_of_beq he)); clear hx
        go_wp2
        go_ret
        exact ipost HF.out.symm
    · have HF := Lib.hid (on_none (l := l) (d := d) (fun j hj _ => HN.out j hj (by omega)))
      go_wp2
      go_ret
      exact ipost HF.out.symm
set_option maxHeartbeats 400000 in
theorem sum_spec (P : Option Addr) (cap : Nat) (l : List R) (a b : Int) (w : World) (hr : Rd w w.heap.size P (flat l)) (hs : Sane l) :
    Calls Try.prog 78 #[.slice P l.length cap, .int .i64 a, .int .i64 b] w (IPost (sumF l a b) w) := by
  have HR := Lib.hid hr; clear hr
  have HS := Lib.hid hs
  have hn := hs.1; clear hs
  go_enter Try.func78, Try.ntmps78
  go_wp2
  go_loopw [7, 8] (fun s i wr => ∃ (k : Nat) (q : Int), k ≤ l.length ∧ i = .int .i64 k ∧ s = .int .i64 q ∧ Hid (sumF (l.take k) a b = q) ∧ 0 ≤ q ∧ q ≤ 400000 ∧ wr = w) (fun _ i _ => l.length - (intOf i).toNat)
  case atStart => exact ⟨0, 0, Nat.zero_le _, rfl, rfl, Lib.hid (sum_zero l a b), by omega, by omega, rfl⟩
  case round =>
    obtain ⟨k, q, hk, rfl, rfl, HQ, q0, q1, rfl⟩ := hrel
    by_cases hlt : k < l.length
    · obtain ⟨b', o, rfl, hb, hc⟩ := HR.out.at (k := k * 2) (by rw [flat_n]; omega)
      obtain ⟨x, hx⟩ : ∃ x, l[k] = x := ⟨_, rfl⟩
      obtain ⟨h0, h1⟩ := cells2 (Below.refl _ _) hb hc hlt hx
      have HL := Lib.hid hlt
      have HX := Lib.hid (HS.out.get hlt hx)
      clear hc
      cases he : inB x.f0 a b
      · have HN1 := Lib.hid ((sum_skip hlt hx he).trans HQ.out); clear hx
        go_wp2_with (go_at_call 76; (with_reducible refine (in_any _ _ _ _).mono ?_); rintro e' w' ⟨rfl, rfl⟩)
        go_roundw
        case rel => exact ⟨k + 1, q, HL.out, by go_num, rfl, HN1, q0, q1, trivial⟩
        case measure => have := HL.out; simp [intOf]; omega
      · have HN1 := Lib.hid ((sum_yes hlt hx he).trans (by rw [HQ.out])); clear hx
        have hx1 := HX.out
        have hq2 := (HS.out.take (k + 1)).sum a b
        rw [HN1.out] at hq2
        have y1 : IntKind.i64.wrap (q + x.f1) = q + x.f1 := IntWalk.i64_in _ (by omega)
        have HQ2 := Lib.hid hq2; clear hq2 hx1
        go_wp2_with (go_at_call 76; (with_reducible refine (in_any _ _ _ _).mono ?_); rintro e' w' ⟨rfl, rfl⟩)
        go_roundw
        case rel => exact ⟨k + 1, q + x.f1, HL.out, by go_num, rfl, HN1, HQ2.out.1, HQ2.out.2, trivial⟩
        case measure => have := HL.out; simp [intOf]; omega
    · have HF := Lib.hid (show sumF l a b = q by have := HQ.out; rwa [List.take_of_length_le (by omega)] at this)
      go_wp2
      go_ret
      exact ipost HF.out.symm
set_option maxHeartbeats 400000 in
theorem sum_impl (P : Option Addr) (cap : Nat) (l : List R) (a b : Int) (w : World) (hr : Rd w w.heap.size P (flat l)) (hs : Sane l) :
    Calls Try.prog 59 #[.slice P l.length cap, .int .i64 a, .int .i64 b] w (RPost (.int .i64 (sumF l a b)) w) := by
  have HR := Lib.hid hr; clear hr
  have HS := Lib.hid hs
  have hn := hs.1; clear hs
  go_enter Try.func59, Try.ntmps59
  go_wp2
  go_loopw [7, 12] (fun s i wr => ∃ (k : Nat) (q : Int), k ≤ l.length ∧ i = .int .i64 k ∧ s = .int .i64 q ∧ Hid (sumF (l.take k) a b = q) ∧ 0 ≤ q ∧ q ≤ 400000 ∧ Below w.heap.size w wr) (fun _ i _ => l.length - (intOf i).toNat)
  case atStart => exact ⟨0, 0, Nat.zero_le _, rfl, rfl, Lib.hid (sum_zero l a b), by omega, by omega, Below.refl _ _⟩
  case round =>
    obtain ⟨k, q, hk, rfl, rfl, HQ, q0, q1, HB⟩ := hrel
    by_cases hlt : k < l.length
    · obtain ⟨b', o, rfl, hb, hc⟩ := HR.out.at (k := k * 2) (by rw [flat_n]; omega)
      obtain ⟨x, hx⟩ : ∃ x, l[k] = x := ⟨_, rfl⟩
      obtain ⟨h0, h1⟩ := cells2 HB hb hc hlt hx
      have HL := Lib.hid hlt
      have HX := Lib.hid (HS.out.get hlt hx)
      clear hc
      cases he : inB x.f0 a b
      · have HN1 := Lib.hid ((sum_skip hlt hx he).trans HQ.out); clear hx
        go_wp2_with (go_at_call 57; (with_reducible refine (within_any _ _ _ _).mono ?_); rintro e' w' ⟨rfl, rfl⟩)
        go_roundw
        case rel => exact ⟨k + 1, q, HL.out, by go_num, rfl, HN1, q0, q1, al HB⟩
        case measure => have := HL.out; simp [intOf]; omega
      · have HN1 := Lib.hid ((sum_yes hlt hx he).trans (by rw [HQ.out])); clear hx
        have hx1 := HX.out
        have hq2 := (HS.out.take (k + 1)).sum a b
        rw [HN1.out] at hq2
        have y1 : IntKind.i64.wrap (q + x.f1) = q + x.f1 := IntWalk.i64_in _ (by omega)
        have HQ2 := Lib.hid hq2; clear hq2 hx1
        go_wp2_with (go_at_call 57; (with_reducible refine (within_any _ _ _ _).mono ?_); rintro e' w' ⟨rfl, rfl⟩)
        go_roundw
        case rel => exact ⟨k + 1, q + x.f1, HL.out, by go_num, rfl, HN1, HQ2.out.1, HQ2.out.2, al HB⟩
        case measure => have := HL.out; simp [intOf]; omega
    · have HF := Lib.hid (show sumF l a b = q by have := HQ.out; rwa [List.take_of_length_le (by omega)] at this)
      go_wp2
      go_ret
      exact rpost (by rw [HF.out] <;> rfl) HB
theorem son_spec (P : Option Addr) (cap : Nat) (l : List R) (d : Int) (w : World) (hr : Rd w w.heap.size P (flat l)) (hn : l.length ≤ 1048576) :
    Calls Try.prog 41 #[.slice P l.length cap, .int .i64 d] w (RPost (onV l d) w) := by
  have HR := Lib.hid hr; clear hr
  go_enter Try.func41, Try.ntmps41
  go_wp2_with fail
  refine (good_spec P cap l w HR.out hn).mono ?_
  rintro e w1 ⟨rfl, HB⟩
  cases hg : good l
  · have HV := Lib.hid (onV_no (on1 (d := d) hg))
    go_wp2
    go_ret2
    exact rpost (by rw [HV.out] <;> rfl) HB
  cases h1 : inB d 0 4000
  · have HV := Lib.hid (onV_no (on2 (l := l) h1))
    go_wp2_with (go_at_call 61; (with_reducible refine (day_spec _ _).mono ?_); rintro e' w' ⟨rfl, rfl⟩)
    go_ret2
    exact rpost (by rw [HV.out] <;> rfl) HB
  have HV := Lib.hid (onV_yes (on3 hg h1))
  have HRW := Lib.hid ((HR.out.below HB (Nat.le_refl _)).mono HB.size)
  go_wp2_with first | (go_at_call 61; (with_reducible refine (day_spec _ _).mono ?_); rintro e' w' ⟨rfl, rfl⟩)
  refine (on_spec P cap l d w1 HRW.out hn).mono ?_
  rintro e _ ⟨rfl, rfl⟩
  go_wp2
  go_ret2
  exact rpost (by rw [HV.out] <;> rfl) HB
theorem son_impl (P : Option Addr) (cap : Nat) (l : List R) (d : Int) (w : World) (hr : Rd w w.heap.size P (flat l)) (hc : l.length ≤ cap) (hn : l.length ≤ 1048576) :
    Calls Try.prog 37 #[.slice P l.length cap, .int .i64 d] w (RPost (onV l d) w) := by
  have HR := Lib.hid hr; clear hr
  go_enter Try.func37, Try.ntmps37
  go_wp2_with fail
  refine (are_impl P cap l w HR.out hn).mono ?_
  rintro e w1 ⟨rfl, HB⟩
  cases hg : good l
  · have HV := Lib.hid (onV_no (on1 (d := d) hg))
    go_wp2
    go_ret2
    exact rpost (by rw [HV.out] <;> rfl) HB
  cases h1 : inB d 0 4000
  · have HV := Lib.hid (onV_no (on2 (l := l) h1))
    go_wp2_with (go_at_call 57; (with_reducible refine (within_any _ _ _ _).mono ?_); rintro e' w' ⟨rfl, rfl⟩)
    go_ret2
    exact rpost (by rw [HV.out] <;> rfl) HB
  have HV := Lib.hid (onV_yes (on3 hg h1))
  have HE := Lib.hid (on_sum hg d)
  have HSN := Lib.hid (good_sane hg); clear hg
  have HRW := Lib.hid ((HR.out.below HB (Nat.le_refl _)).mono HB.size)
  go_wp2_with first | (go_at_call 57; (with_reducible refine (within_any _ _ _ _).mono ?_); rintro e' w' ⟨rfl, rfl⟩)
  refine (sum_impl P cap l d d w1 HRW.out HSN.out).mono ?_
  rintro e w2 ⟨rfl, hv⟩
  go_wp2
  go_ret2
  exact rpost (by rw [HV.out, HE.out] <;> rfl) (be HB hv)
theorem ssum_spec (P : Option Addr) (cap : Nat) (l : List R) (a b : Int) (w : World) (hr : Rd w w.heap.size P (flat l)) (hn : l.length ≤ 1048576) :
    Calls Try.prog 39 #[.slice P l.length cap, .int .i64 a, .int .i64 b] w (RPost (sumV l a b) w) := by
  have HR := Lib.hid hr; clear hr
  go_enter Try.func39, Try.ntmps39
  go_wp2_with fail
  refine (good_spec P cap l w HR.out hn).mono ?_
  rintro e w1 ⟨rfl, HB⟩
  cases hg : good l
  · have HV := Lib.hid (sumV_no (sm1 (a := a) (b := b) hg))
    go_wp2
    go_ret2
    exact rpost (by rw [HV.out] <;> rfl) HB
  cases h1 : inB a 0 4000
  · have HV := Lib.hid (sumV_no (sm2 (l := l) (b := b) h1))
    go_wp2_with (go_at_call 61; (with_reducible refine (day_spec _ _).mono ?_); rintro e' w' ⟨rfl, rfl⟩)
    go_ret2
    exact rpost (by rw [HV.out] <;> rfl) HB
  cases h2 : inB b 0 4000
  · have HV := Lib.hid (sumV_no (sm3 (l := l) (a := a) h2))
    go_wp2_with (go_at_call 61; (with_reducible refine (day_spec _ _).mono ?_); rintro e' w' ⟨rfl, rfl⟩)
    go_ret2
    exact rpost (by rw [HV.out] <;> rfl) HB
  have HV := Lib.hid (sumV_yes (sm4 hg h1 h2))
  have HRW := Lib.hid ((HR.out.below HB (Nat.le_refl _)).mono HB.size)
  have HSN := Lib.hid (good_sane hg); clear hg
  go_wp2_with first | (go_at_call 61; (with_reducible refine (day_spec _ _).mono ?_); rintro e' w' ⟨rfl, rfl⟩)
  refine (sum_spec P cap l a b w1 HRW.out HSN.out).mono ?_
  rintro e _ ⟨rfl, rfl⟩
  go_wp2
  go_ret2
  exact rpost (by rw [HV.out] <;> rfl) HB
theorem ssum_impl (P : Option Addr) (cap : Nat) (l : List R) (a b : Int) (w : World) (hr : Rd w w.heap.size P (flat l)) (hc : l.length ≤ cap) (hn : l.length ≤ 1048576) :
    Calls Try.prog 32 #[.slice P l.length cap, .int .i64 a, .int .i64 b] w (RPost (sumV l a b) w) := by
  have HR := Lib.hid hr; clear hr
  go_enter Try.func32, Try.ntmps32
  go_wp2_with fail
  refine (are_impl P cap l w HR.out hn).mono ?_
  rintro e w1 ⟨rfl, HB⟩
  cases hg : good l
  · have HV := Lib.hid (sumV_no (sm1 (a := a) (b := b) hg))
    go_wp2
    go_ret2
    exact rpost (by rw [HV.out] <;> rfl) HB
  cases h1 : inB a 0 4000
  · have HV := Lib.hid (sumV_no (sm2 (l := l) (b := b) h1))
    go_wp2_with (go_at_call 57; (with_reducible refine (within_any _ _ _ _).mono ?_); rintro e' w' ⟨rfl, rfl⟩)
    go_ret2
    exact rpost (by rw [HV.out] <;> rfl) HB
  cases h2 : inB b 0 4000
  · have HV := Lib.hid (sumV_no (sm3 (l := l) (a := a) h2))
    go_wp2_with (go_at_call 57; (with_reducible refine (within_any _ _ _ _).mono ?_); rintro e' w' ⟨rfl, rfl⟩)
    go_ret2
    exact rpost (by rw [HV.out] <;> rfl) HB
  have HV := Lib.hid (sumV_yes (sm4 hg h1 h2))
  have HRW := Lib.hid ((HR.out.below HB (Nat.le_refl _)).mono HB.size)
  have HSN := Lib.hid (good_sane hg); clear hg
  go_wp2_with first | (go_at_call 57; (with_reducible refine (within_any _ _ _ _).mono ?_); rintro e' w' ⟨rfl, rfl⟩)
  refine (sum_impl P cap l a b w1 HRW.out HSN.out).mono ?_
  rintro e w2 ⟨rfl, hv⟩
  go_wp2
  go_ret2
  exact rpost (by rw [HV.out] <;> rfl) (be HB hv)
end Go.Proofs.Ytcmomccdnkligaa.SunL
