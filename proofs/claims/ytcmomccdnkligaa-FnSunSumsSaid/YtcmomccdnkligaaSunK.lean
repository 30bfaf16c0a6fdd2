/- Suns: BestStart, the model's and the program's. -/
import Derived.Test.YtcmomccdnkligaaSunB
import Derived.Test.YtcmomccdnkligaaSunL
namespace Go.Proofs.Ytcmomccdnkligaa.SunK
open Go.RowKit Go.Proofs.Ytcmomccdnkligaa.Mem Go.Proofs.Ytcmomccdnkligaa.Base Go.Proofs.Ytcmomccdnkligaa.Within Go.Proofs.Ytcmomccdnkligaa.Boxes Go.Proofs.Ytcmomccdnkligaa.Keep Go.Proofs.Ytcmomccdnkligaa.SSun Go.Proofs.Ytcmomccdnkligaa.Sun Go.Proofs.Ytcmomccdnkligaa.SunB Go.Proofs.Ytcmomccdnkligaa.SunS
set_option linter.unusedVariables false
set_option maxRecDepth 100000
set_option maxHeartbeats 800000 in
theorem best_spec (P : Option Addr) (cap : Nat) (l : List R) (d c : Int) (hb : bestOk l d = true → Best l d c) (w : World) (hr : Rd w w.heap.size P (flat l)) (hn : l.length ≤ 1048576) :
    Calls Try.prog 31 #[.slice P l.length cap, .int .i64 d] w (RPost (bestV (bestOk l d) c) w) := by
  have HR := Lib.hid hr; clear hr
  have HC := Lib.hid hb; clear hb
  go_enter Try.func31, Try.ntmps31
  go_wp2_with fail
  refine (SunG.good_spec P cap l w HR.out hn).mono ?_
  rintro e w1 ⟨rfl, HB⟩
  cases hg : good l
  · have HV := Lib.hid (best_no (b := c) (bs1 (d := d) hg))
    go_wp2
    go_ret2
    exact rpost (by rw [HV.out] <;> rfl) HB
  cases h1 : inB d 1 100
  · have HV := Lib.hid (best_no (b := c) (bs2 (l := l) h1))
    go_wp2_with (go_at_call 76; (with_reducible refine (in_any _ _ _ _).mono ?_); rintro e' w' ⟨rfl, rfl⟩)
    go_ret2
    exact rpost (by rw [HV.out] <;> rfl) HB
  have HBS := Lib.hid (HC.out (bs3 hg h1))
  have HV := Lib.hid (best_yes (b := c) (bs3 hg h1))
  have hd := of_inB h1
  have HRW := Lib.hid ((HR.out.below HB (Nat.le_refl _)).mono HB.size)
  have HG := Lib.hid hg
  have HS := Lib.hid (good_sane hg); clear hg
  go_wp2_with first | (go_at_call 76; (with_reducible refine (in_any _ _ _ _).mono ?_); rintro e' w' ⟨rfl, rfl⟩)
  clear h1
  go_loopw [6, 7] (fun b i wr => ∃ (k : Nat) (q : Int), k ≤ l.length ∧ i = .int .i64 k ∧ b = .int .i64 q ∧ Hid (Seen l d k q) ∧ wr = w1) (fun _ i _ => l.length - (intOf i).toNat)
  case atStart => exact ⟨0, 0, Nat.zero_le _, rfl, rfl, Lib.hid (Seen.start l d), rfl⟩
  case round =>
    obtain ⟨k, q, hk, rfl, rfl, HT, rfl⟩ := hrel
    by_cases hlt : k < l.length
    · obtain ⟨b, o, rfl, hb, hc⟩ := HRW.out.at (k := k * 2) (by rw [flat_n]; omega)
      obtain ⟨x, hx⟩ : ∃ x, l[k] = x := ⟨_, rfl⟩
      obtain ⟨h0, h1⟩ := cells2 (Below.refl _ _) hb hc hlt hx
      have HL := Lib.hid hlt
      have hxb := HS.out.get hlt hx
      have HE := Lib.hid (show most 0 (x.f0 - d + 1) = cand l d k by unfold cand; rw [getD_at hlt, hx]); clear hx hc h1
      have hqb := HT.out.hi HG.out hk hd.1 hd.2
      have y0 : IntKind.i64.wrap (x.f0 - d) = x.f0 - d := IntWalk.i64_in _ (by omega)
      have y1 : IntKind.i64.wrap (x.f0 - d + 1) = x.f0 - d + 1 := IntWalk.i64_in _ (by omega)
      have hcb := most_bd 0 (x.f0 - d + 1)
      rw [HE.out] at hcb
      go_wp2_with fail
      refine (most_any 0 (x.f0 - d + 1) _).mono ?_
      rintro e _ ⟨rfl, rfl⟩
      rw [HE.out]
      have HM := Lib.hid (fun h => HT.out.more (k := k) h)
      have HS0 := Lib.hid (fun h => HT.out.less HG.out HL.out h)
      clear HE y0 y1 h0
      generalize cand l d k = u at hcb HM HS0 ⊢
      have y2 : IntKind.i64.wrap (u + d) = u + d := IntWalk.i64_in _ (by omega)
      have y3 : IntKind.i64.wrap (u + d - 1) = u + d - 1 := IntWalk.i64_in _ (by omega)
      have y4 : IntKind.i64.wrap (q + d) = q + d := IntWalk.i64_in _ (by omega)
      have y5 : IntKind.i64.wrap (q + d - 1) = q + d - 1 := IntWalk.i64_in _ (by omega)
      clear hxb hqb hcb
      go_wp2_with fail
      refine (SunL.sum_spec _ cap l u (u + d - 1) _ HRW.out HS.out).mono ?_
      rintro e _ ⟨rfl, rfl⟩
      go_wp2_with fail
      refine (SunL.sum_spec _ cap l q (q + d - 1) _ HRW.out HS.out).mono ?_
      rintro e _ ⟨rfl, rfl⟩
      have e1 : sumF l u (u + d - 1) = S l d u := rfl
      have e2 : sumF l q (q + d - 1) = S l d q := rfl
      rw [e1, e2]
      clear e1 e2
      cases hs : decide (S l d q < S l d u)
      · have HN := Lib.hid (HS0.out (by have := of_decide_eq_false hs; omega))
        generalize S l d q = s1 at hs ⊢
        generalize S l d u = s2 at hs ⊢
        go_wp2
        go_roundw
        case rel => exact ⟨k + 1, q, HL.out, by go_num, rfl, HN, trivial⟩
        case measure => have := HL.out; simp [intOf]; omega
      · have HN := Lib.hid (HM.out (of_decide_eq_true hs))
        generalize S l d q = s1 at hs ⊢
        generalize S l d u = s2 at hs ⊢
        go_wp2
        go_roundw
        case rel => exact ⟨k + 1, u, HL.out, by go_num, rfl, HN, trivial⟩
        case measure => have := HL.out; simp [intOf]; omega
    · have hkk : k = l.length := by omega
      subst hkk
      have HF := Lib.hid (Best.one (HT.out.done HG.out hd.1 hd.2) HBS.out)
      go_wp2
      go_ret2
      exact rpost (by rw [HV.out, ← HF.out] <;> rfl) HB
set_option maxHeartbeats 800000 in
theorem best_impl (P : Option Addr) (cap : Nat) (l : List R) (d c : Int) (hb : bestOk l d = true → Best l d c) (w : World) (hr : Rd w w.heap.size P (flat l)) (hn : l.length ≤ 1048576) :
    Calls Try.prog 30 #[.slice P l.length cap, .int .i64 d] w (RPost (bestV (bestOk l d) c) w) := by
  have HR := Lib.hid hr; clear hr
  have HC := Lib.hid hb; clear hb
  go_enter Try.func30, Try.ntmps30
  go_wp2_with fail
  refine (SunG.are_impl P cap l w HR.out hn).mono ?_
  rintro e w1 ⟨rfl, HB⟩
  cases hg : good l
  · have HV := Lib.hid (best_no (b := c) (bs1 (d := d) hg))
    go_wp2
    go_ret2
    exact rpost (by rw [HV.out] <;> rfl) HB
  cases h1 : inB d 1 100
  · have HV := Lib.hid (best_no (b := c) (bs2 (l := l) h1))
    go_wp2_with (go_at_call 57; (with_reducible refine (within_any _ _ _ _).mono ?_); rintro e' w' ⟨rfl, rfl⟩)
    go_ret2
    exact rpost (by rw [HV.out] <;> rfl) HB
  have HBS := Lib.hid (HC.out (bs3 hg h1))
  have HV := Lib.hid (best_yes (b := c) (bs3 hg h1))
  have hd := of_inB h1
  have HS := Lib.hid (good_sane hg); clear hg
  go_wp2_with first | (go_at_call 57; (with_reducible refine (within_any _ _ _ _).mono ?_); rintro e' w' ⟨rfl, rfl⟩)
  clear h1
  go_loopw [6, 7, 8] (fun b m i wr => ∃ (n : Nat) (q s : Int), (n : Int) + d - 1 ≤ 4001 ∧ i = .int .i64 n ∧ b = .int .i64 q ∧ m = .int .i64 s ∧ Hid (Tried l d n q s) ∧ Below w.heap.size w wr) (fun _ _ i _ => 4002 - (intOf i).toNat)
  case atStart => exact ⟨0, 0, 0, by omega, rfl, rfl, rfl, Lib.hid (Tried.start l d), HB⟩
  case round =>
    clear HB
    obtain ⟨n, q, s, hn4, rfl, rfl, rfl, HT, HB⟩ := hrel
    have y2 : IntKind.i64.wrap ((n : Int) + d) = n + d := IntWalk.i64_in _ (by omega)
    have y3 : IntKind.i64.wrap ((n : Int) + d - 1) = n + d - 1 := IntWalk.i64_in _ (by omega)
    by_cases hlt : (n : Int) + d - 1 ≤ 4000
    · have hlt' : decide ((n : Int) + d - 1 ≤ 4000) = true := decide_eq_true hlt
      have y4 : IntKind.i64.wrap ((n : Int) + 1) = n + 1 := IntWalk.i64_in _ (by omega)
      go_wp2_with fail
      refine (SunL.sum_impl P cap l (n : Int) ((n : Int) + d - 1) wr ((HR.out.below HB (Nat.le_refl _)).mono HB.size) HS.out).mono ?_
      rintro e v1 ⟨rfl, hv⟩
      replace HB := be HB hv; clear hv
      have e1 : sumF l (n : Int) ((n : Int) + d - 1) = S l d n := rfl
      rw [e1]; clear e1
      have HM := Lib.hid (fun h => HT.out.more h)
      have HS0 := Lib.hid (fun h => HT.out.less HS.out h)
      generalize S l d (n : Int) = t at HM HS0 ⊢
      cases hs : decide (s < t)
      · have HN := Lib.hid (HS0.out (by have := of_decide_eq_false hs; omega))
        go_wp2
        go_roundw
        case rel => exact ⟨n + 1, q, s, by omega, by go_num, rfl, rfl, HN, HB⟩
        case measure => simp [intOf]; omega
      · have HN := Lib.hid (HM.out (of_decide_eq_true hs))
        go_wp2
        go_roundw
        case rel => exact ⟨n + 1, n, t, by omega, by go_num, rfl, rfl, HN, HB⟩
        case measure => simp [intOf]; omega
    · have hlt' : decide ((n : Int) + d - 1 ≤ 4000) = false := decide_eq_false hlt
      have HF := Lib.hid (Best.one (HT.out.done hd.1 hd.2 (by omega)) HBS.out)
      go_wp2
      go_ret2
      exact rpost (by rw [HV.out, ← HF.out] <;> rfl) HB
end Go.Proofs.Ytcmomccdnkligaa.SunK
