/- Showers: the grams on a day, the kilograms within days, who may ask; RainOnArea, RainBetween. -/
import Derived.Test.YtpbmncecejchjaaShwG
namespace Go.Proofs.Ytpbmncecejchjaa.ShwL
open Go.RowKit Go.Proofs.Ytpbmncecejchjaa.Mem Go.Proofs.Ytpbmncecejchjaa.Base Go.Proofs.Ytpbmncecejchjaa.Within Go.Proofs.Ytpbmncecejchjaa.SShower Go.Proofs.Ytpbmncecejchjaa.Regn Go.Proofs.Ytpbmncecejchjaa.Boxes Go.Proofs.Ytpbmncecejchjaa.Keep Go.Proofs.Ytpbmncecejchjaa.Shw Go.Proofs.Ytpbmncecejchjaa.ShwS Go.Proofs.Ytpbmncecejchjaa.ShwG
set_option linter.unusedVariables false
set_option maxRecDepth 100000
/-- a number, and the world as it was. -/
def IPost (n : Int) (w : World) (e : Ending) (w' : World) : Prop := e = .returned (.int .i64 n) ∧ w = w'
theorem ipost {n m : Int} {w : World} (h : m = n) : IPost n w (.returned (.int .i64 m)) w := ⟨by rw [h], rfl⟩
theorem on_spec (P : Option Addr) (cap : Nat) (l : List R) (d : Int) (w : World) (hr : Rd w w.heap.size P (flat l)) (hn : l.length ≤ 1048576) :
    Calls Try.prog 96 #[.slice P l.length cap, .int .i64 d] w (IPost (on l d) w) := by
  have HR := Lib.hid hr; clear hr
  go_enter Try.func96, Try.ntmps96
  go_wp2
  go_loopw [5] (fun i wr => ∃ k : Nat, k ≤ l.length ∧ i = .int .i64 k ∧ Hid (Not l d k) ∧ wr = w) (fun i _ => l.length - (intOf i).toNat)
  case atStart => exact ⟨0, Nat.zero_le _, rfl, Lib.hid (fun j _ hj => by omega), rfl⟩
  case round =>
    obtain ⟨k, hk, rfl, HN, rfl⟩ := hrel
    by_cases hlt : k < l.length
    · obtain ⟨b, o, rfl, hb, hc⟩ := HR.out.at (k := k * 2) (by rw [flat_n]; omega)
      obtain ⟨x, hx⟩ : ∃ x, l[k] = x := ⟨_, rfl⟩
      obtain ⟨h0, h1⟩ := cells2 (Below.refl _ _) hb hc hlt hx
      have HL := Lib.hid hlt
      clear hc
      cases he : (x.f0 == d)
      · have HN1 := Lib.hid (HN.out.next hlt (by rw [hx]; exact beq_eq_false_iff_ne.1 he)); clear hx
        go_wp2
        go_roundw
        case rel => exact ⟨k + 1, HL.out, by go_num, HN1, trivial⟩
        case measure => have := HL.out; simp [intOf]; omega
      · have HF := Lib.hid (on_at hlt HN.out hx (eq_of_beq he)); clear hx
        go_wp2
        go_ret
        exact ipost HF.out.symm
    · have HF := Lib.hid (on_none (l := l) (d := d) (fun j hj _ => HN.out j hj (by omega)))
      go_wp2
      go_ret
      exact ipost HF.out.symm
set_option maxHeartbeats 400000 in
theorem sum_impl (P : Option Addr) (cap : Nat) (l : List R) (c a b : Int) (hc0 : 1 ≤ c) (hc1 : c ≤ 100000) (w : World) (hr : Rd w w.heap.size P (flat l)) (hs : Sane l) :
    Calls Try.prog 80 #[.slice P l.length cap, .int .i64 c, .int .i64 a, .int .i64 b] w (RPost (.int .i64 (sumF l c a b)) w) := by
  have HR := Lib.hid hr; clear hr
  have HS := Lib.hid hs
  have hn := hs.1; clear hs
  go_enter Try.func80, Try.ntmps80
  go_wp2
  go_loopw [9, 14] (fun s i wr => ∃ (k : Nat) (q : Int), k ≤ l.length ∧ i = .int .i64 k ∧ s = .int .i64 q ∧ Hid (sumF (l.take k) c a b = q) ∧ 0 ≤ q ∧ q ≤ 400000000 ∧ Below w.heap.size w wr) (fun _ i _ => l.length - (intOf i).toNat)
  case atStart => exact ⟨0, 0, Nat.zero_le _, rfl, rfl, Lib.hid (sum_zero l c a b), by omega, by omega, Below.refl _ _⟩
  case round =>
    obtain ⟨k, q, hk, rfl, rfl, HQ, q0, q1, HB⟩ := hrel
    by_cases hlt : k < l.length
    · obtain ⟨b', o, rfl, hb, hc⟩ := HR.out.at (k := k * 2) (by rw [flat_n]; omega)
      obtain ⟨x, hx⟩ : ∃ x, l[k] = x := ⟨_, rfl⟩
      obtain ⟨h0, h1⟩ := cells2 HB hb hc hlt hx
      have HL := Lib.hid hlt
      have HX := Lib.hid (HS.out.get hlt hx)
      clear hc
      cases he : inB x.f0 a b
      · have HN1 := Lib.hid ((sum_skip hlt hx he).trans HQ.out); clear hx
        go_wp2_with (go_at_call 78; (with_reducible refine (within_any _ _ _ _).mono ?_); rintro e' w' ⟨rfl, rfl⟩)
        go_roundw
        case rel => exact ⟨k + 1, q, HL.out, by go_num, rfl, HN1, q0, q1, al HB⟩
        case measure => have := HL.out; simp [intOf]; omega
      · have HN1 := Lib.hid ((sum_yes hlt hx he).trans (by rw [HQ.out])); clear hx
        have hx1 := HX.out
        obtain ⟨y1, y2, y3⟩ := kil_nums (g := x.f1) (a := c) (by omega) hx1.2.2.2 hc0 hc1
        have hq2 := (HS.out.take (k + 1)).sum hc0 hc1 a b
        rw [HN1.out] at hq2
        have y4 : IntKind.i64.wrap (q + kil x.f1 c) = q + kil x.f1 c := IntWalk.i64_in _ (by omega)
        have HQ2 := Lib.hid hq2; clear hq2 hx1
        go_wp2_with (go_at_call 78; (with_reducible refine (within_any _ _ _ _).mono ?_); rintro e' w' ⟨rfl, rfl⟩)
        go_roundw
        case rel => exact ⟨k + 1, q + kil x.f1 c, HL.out, by go_num, rfl, HN1, HQ2.out.1, HQ2.out.2, al HB⟩
        case measure => have := HL.out; simp [intOf]; omega
    · have HF := Lib.hid (show sumF l c a b = q by have := HQ.out; rwa [List.take_of_length_le (by omega)] at this)
      go_wp2
      go_ret
      exact rpost (by rw [HF.out] <;> rfl) HB
theorem area_no1 {l : List R} {c : Int} (h : good l = false) : (good l && inB c 1 100000) = false := by rw [h]; rfl
theorem area_spec (P : Option Addr) (cap : Nat) (l : List R) (c : Int) (w : World) (hr : Rd w w.heap.size P (flat l)) (hn : l.length ≤ 1048576) :
    Calls Try.prog 91 #[.slice P l.length cap, .int .i64 c] w (RPost (.bool (good l && inB c 1 100000)) w) := by
  go_enter Try.func91, Try.ntmps91
  go_wp2_with fail
  refine (good_spec P cap l w hr hn).mono ?_
  rintro e w1 ⟨rfl, HB⟩
  cases hg : good l
  · go_wp2
    go_ret
    exact rpost (by rw [hg] <;> rfl) HB
  · go_wp2_with (go_at_call 82; (with_reducible refine (in_any _ _ _ _).mono ?_); rintro e' w' ⟨rfl, rfl⟩)
    go_ret
    exact rpost (by rw [hg] <;> rfl) HB
theorem can_impl (P : Option Addr) (cap : Nat) (l : List R) (c d : Int) (w : World) (hr : Rd w w.heap.size P (flat l)) (hn : l.length ≤ 1048576) :
    Calls Try.prog 76 #[.slice P l.length cap, .int .i64 c, .int .i64 d] w (RPost (.bool (canOk l c d)) w) := by
  go_enter Try.func76, Try.ntmps76
  go_wp2_with fail
  refine (are_impl P cap l w hr hn).mono ?_
  rintro e w1 ⟨rfl, HB⟩
  cases hg : good l
  · have HV := Lib.hid (can1 (c := c) (d := d) hg)
    go_wp2
    go_ret
    exact rpost (by rw [HV.out] <;> rfl) HB
  cases h1 : inB c 1 100000
  · have HV := Lib.hid (can2 (l := l) (d := d) h1)
    go_wp2_with (go_at_call 78; (with_reducible refine (within_any _ _ _ _).mono ?_); rintro e' w' ⟨rfl, rfl⟩)
    go_ret
    exact rpost (by rw [HV.out] <;> rfl) HB
  cases h2 : inB d 0 4000
  · have HV := Lib.hid (can3 (l := l) (c := c) h2)
    go_wp2_with (go_at_call 78; (with_reducible refine (within_any _ _ _ _).mono ?_); rintro e' w' ⟨rfl, rfl⟩)
    go_ret
    exact rpost (by rw [HV.out] <;> rfl) HB
  · have HV := Lib.hid (can4 hg h1 h2)
    go_wp2_with (go_at_call 78; (with_reducible refine (within_any _ _ _ _).mono ?_); rintro e' w' ⟨rfl, rfl⟩)
    go_ret
    exact rpost (by rw [HV.out] <;> rfl) HB
theorem rain_spec (P : Option Addr) (cap : Nat) (l : List R) (c d : Int) (w : World) (hr : Rd w w.heap.size P (flat l)) (hn : l.length ≤ 1048576) :
    Calls Try.prog 29 #[.slice P l.length cap, .int .i64 c, .int .i64 d] w (RPost (rainV l c d) w) := by
  have HR := Lib.hid hr; clear hr
  go_enter Try.func29, Try.ntmps29
  go_wp2_with fail
  refine (area_spec P cap l c w HR.out hn).mono ?_
  rintro e w1 ⟨rfl, HB⟩
  cases hg : (good l && inB c 1 100000)
  · have HV := Lib.hid (rainV_no (show canOk l c d = false by unfold canOk; rw [hg]; rfl))
    go_wp2
    go_ret2
    exact rpost (by rw [HV.out] <;> rfl) HB
  cases h1 : inB d 0 4000
  · have HV := Lib.hid (rainV_no (can3 (l := l) (c := c) h1))
    go_wp2_with (go_at_call 93; (with_reducible refine (day_spec _ _).mono ?_); rintro e' w' ⟨rfl, rfl⟩)
    go_ret2
    exact rpost (by rw [HV.out] <;> rfl) HB
  have hk : canOk l c d = true := by unfold canOk; rw [hg, h1]; rfl
  have HV := Lib.hid (rainV_yes hk)
  obtain ⟨g1, g2, _⟩ := can_true hk
  obtain ⟨b0, b1⟩ := on_bd g1 d
  obtain ⟨y1, y2, y3⟩ := kil_nums b0 b1 g2.1 g2.2
  have HRW := Lib.hid ((HR.out.below HB (Nat.le_refl _)).mono HB.size)
  unfold kilo at HV
  clear hk g1 g2 b0 b1
  go_wp2_with first | (go_at_call 93; (with_reducible refine (day_spec _ _).mono ?_); rintro e' w' ⟨rfl, rfl⟩)
  refine (on_spec P cap l d w1 HRW.out hn).mono ?_
  rintro e _ ⟨rfl, rfl⟩
  go_wp2
  go_ret2
  exact rpost (by rw [HV.out] <;> rfl) HB
theorem rain_impl (P : Option Addr) (cap : Nat) (l : List R) (c d : Int) (w : World) (hr : Rd w w.heap.size P (flat l)) (hc : l.length ≤ cap) (hn : l.length ≤ 1048576) :
    Calls Try.prog 21 #[.slice P l.length cap, .int .i64 c, .int .i64 d] w (RPost (rainV l c d) w) := by
  have HR := Lib.hid hr; clear hr
  go_enter Try.func21, Try.ntmps21
  go_wp2_with fail
  refine (can_impl P cap l c d w HR.out hn).mono ?_
  rintro e w1 ⟨rfl, HB⟩
  cases hg : canOk l c d
  · have HV := Lib.hid (rainV_no hg)
    go_wp2
    go_ret2
    exact rpost (by rw [HV.out] <;> rfl) HB
  have HV := Lib.hid (rainV_yes hg)
  obtain ⟨g1, g2, _⟩ := can_true hg
  have HE := Lib.hid (on_sum g1 c d)
  have HSN := Lib.hid (good_sane g1); clear hg g1
  unfold kilo at HV
  have HRW := Lib.hid ((HR.out.below HB (Nat.le_refl _)).mono HB.size)
  go_wp2_with fail
  refine (sum_impl P cap l c d d g2.1 g2.2 w1 HRW.out HSN.out).mono ?_
  rintro e w2 ⟨rfl, hv⟩
  go_wp2
  go_ret2
  exact rpost (by rw [HV.out, HE.out] <;> rfl) (be HB hv)
set_option maxHeartbeats 400000 in
theorem btw_spec (P : Option Addr) (cap : Nat) (l : List R) (c a b : Int) (w : World) (hr : Rd w w.heap.size P (flat l)) (hn : l.length ≤ 1048576) :
    Calls Try.prog 38 #[.slice P l.length cap, .int .i64 c, .int .i64 a, .int .i64 b] w (RPost (btwV l c a b) w) := by
  have HR := Lib.hid hr; clear hr
  go_enter Try.func38, Try.ntmps38
  go_wp2_with fail
  refine (area_spec P cap l c w HR.out hn).mono ?_
  rintro e w1 ⟨rfl, HB⟩
  cases hg : (good l && inB c 1 100000)
  · have HV := Lib.hid (btwV_no (show btwOk l c a b = false by unfold btwOk; rw [hg]; rfl))
    go_wp2
    go_ret2
    exact rpost (by rw [HV.out] <;> rfl) HB
  cases h1 : inB a 0 4000
  · have HV := Lib.hid (btwV_no (btw2 (l := l) (c := c) (b := b) h1))
    go_wp2_with (go_at_call 93; (with_reducible refine (day_spec _ _).mono ?_); rintro e' w' ⟨rfl, rfl⟩)
    go_ret2
    exact rpost (by rw [HV.out] <;> rfl) HB
  cases h2 : inB b 0 4000
  · have HV := Lib.hid (btwV_no (btw3 (l := l) (c := c) (a := a) h2))
    go_wp2_with (go_at_call 93; (with_reducible refine (day_spec _ _).mono ?_); rintro e' w' ⟨rfl, rfl⟩)
    go_ret2
    exact rpost (by rw [HV.out] <;> rfl) HB
  have hk : btwOk l c a b = true := by unfold btwOk; rw [hg, h1, h2]; rfl
  have HV := Lib.hid (btwV_yes hk)
  have hk2 : canOk l c a = true := by unfold canOk; rw [hg, h1]; rfl
  obtain ⟨g1, g2, _⟩ := can_true hk2
  obtain ⟨hc0, hc1⟩ := g2
  have HS := Lib.hid (good_sane g1)
  have HRW := Lib.hid ((HR.out.below HB (Nat.le_refl _)).mono HB.size)
  have hln := HS.out.1
  clear hk hk2 g1 hg
  go_wp2_with first | (go_at_call 93; (with_reducible refine (day_spec _ _).mono ?_); rintro e' w' ⟨rfl, rfl⟩)
  go_loopw [10, 11] (fun s i wr => ∃ (k : Nat) (q : Int), k ≤ l.length ∧ i = .int .i64 k ∧ s = .int .i64 q ∧ Hid (sumF (l.take k) c a b = q) ∧ 0 ≤ q ∧ q ≤ 400000000 ∧ wr = w1) (fun _ i _ => l.length - (intOf i).toNat)
  case atStart => exact ⟨0, 0, Nat.zero_le _, rfl, rfl, Lib.hid (sum_zero l c a b), by omega, by omega, rfl⟩
  case round =>
    obtain ⟨k, q, hk, rfl, rfl, HQ, q0, q1, rfl⟩ := hrel
    by_cases hlt : k < l.length
    · obtain ⟨b', o, rfl, hb, hc⟩ := HRW.out.at (k := k * 2) (by rw [flat_n]; omega)
      obtain ⟨x, hx⟩ : ∃ x, l[k] = x := ⟨_, rfl⟩
      obtain ⟨e0, e1⟩ := cells2 (Below.refl _ _) hb hc hlt hx
      have HL := Lib.hid hlt
      have HX := Lib.hid (HS.out.get hlt hx)
      clear hc
      cases he : inB x.f0 a b
      · have HN1 := Lib.hid ((sum_skip hlt hx he).trans HQ.out); clear hx
        go_wp2_with (go_at_call 82; (with_reducible refine (in_any _ _ _ _).mono ?_); rintro e' w' ⟨rfl, rfl⟩)
        go_roundw
        case rel => exact ⟨k + 1, q, HL.out, by go_num, rfl, HN1, q0, q1, trivial⟩
        case measure => have := HL.out; simp [intOf]; omega
      · have HN1 := Lib.hid ((sum_yes hlt hx he).trans (by rw [HQ.out])); clear hx
        have hx1 := HX.out
        obtain ⟨y1, y2, y3⟩ := kil_nums (g := x.f1) (a := c) (by omega) hx1.2.2.2 hc0 hc1
        have hq2 := (HS.out.take (k + 1)).sum hc0 hc1 a b
        rw [HN1.out] at hq2
        have y4 : IntKind.i64.wrap (q + kil x.f1 c) = q + kil x.f1 c := IntWalk.i64_in _ (by omega)
        have HQ2 := Lib.hid hq2; clear hq2 hx1
        go_wp2_with (go_at_call 82; (with_reducible refine (in_any _ _ _ _).mono ?_); rintro e' w' ⟨rfl, rfl⟩)
        go_roundw
        case rel => exact ⟨k + 1, q + kil x.f1 c, HL.out, by go_num, rfl, HN1, HQ2.out.1, HQ2.out.2, trivial⟩
        case measure => have := HL.out; simp [intOf]; omega
    · have HF := Lib.hid (show sumF l c a b = q by have := HQ.out; rwa [List.take_of_length_le (by omega)] at this)
      go_wp2
      go_ret2
      exact rpost (by rw [HV.out, HF.out] <;> rfl) HB
theorem btw_impl (P : Option Addr) (cap : Nat) (l : List R) (c a b : Int) (w : World) (hr : Rd w w.heap.size P (flat l)) (hc : l.length ≤ cap) (hn : l.length ≤ 1048576) :
    Calls Try.prog 36 #[.slice P l.length cap, .int .i64 c, .int .i64 a, .int .i64 b] w (RPost (btwV l c a b) w) := by
  have HR := Lib.hid hr; clear hr
  go_enter Try.func36, Try.ntmps36
  go_wp2_with fail
  refine (can_impl P cap l c a w HR.out hn).mono ?_
  rintro e w1 ⟨rfl, HB⟩
  cases hg : canOk l c a
  · have HV := Lib.hid (btwV_no (btw0 (b := b) hg))
    go_wp2
    go_ret2
    exact rpost (by rw [HV.out] <;> rfl) HB
  cases h2 : inB b 0 4000
  · have HV := Lib.hid (btwV_no (btw3 (l := l) (c := c) (a := a) h2))
    go_wp2_with (go_at_call 78; (with_reducible refine (within_any _ _ _ _).mono ?_); rintro e' w' ⟨rfl, rfl⟩)
    go_ret2
    exact rpost (by rw [HV.out] <;> rfl) HB
  have HV := Lib.hid (btwV_yes (btw4 hg h2))
  obtain ⟨g1, g2, _⟩ := can_true hg
  have HSN := Lib.hid (good_sane g1); clear hg g1
  have HRW := Lib.hid ((HR.out.below HB (Nat.le_refl _)).mono HB.size)
  go_wp2_with first | (go_at_call 78; (with_reducible refine (within_any _ _ _ _).mono ?_); rintro e' w' ⟨rfl, rfl⟩)
  refine (sum_impl P cap l c a b g2.1 g2.2 w1 HRW.out HSN.out).mono ?_
  rintro e w2 ⟨rfl, hv⟩
  go_wp2
  go_ret2
  exact rpost (by rw [HV.out] <;> rfl) (be HB hv)
end Go.Proofs.Ytpbmncecejchjaa.ShwL
