/- Workers: DaysToRake, the model's and the program's. -/
import Derived.Test.YtdikekecbapcaaaWorkL
namespace Go.Proofs.Ytdikekecbapcaaa.WorkM
open Go.RowKit Go.Proofs.Ytdikekecbapcaaa.Mem Go.Proofs.Ytdikekecbapcaaa.Base Go.Proofs.Ytdikekecbapcaaa.Within Go.Proofs.Ytdikekecbapcaaa.SWorker Go.Proofs.Ytdikekecbapcaaa.SInt Go.Proofs.Ytdikekecbapcaaa.RInt Go.Proofs.Ytdikekecbapcaaa.Regn Go.Proofs.Ytdikekecbapcaaa.Boxes Go.Proofs.Ytdikekecbapcaaa.Keep Go.Proofs.Ytdikekecbapcaaa.Work Go.Proofs.Ytdikekecbapcaaa.Work2 Go.Proofs.Ytdikekecbapcaaa.WorkS Go.Proofs.Ytdikekecbapcaaa.WorkG Go.Proofs.Ytdikekecbapcaaa.WorkR Go.Proofs.Ytdikekecbapcaaa.WorkI Go.Proofs.Ytdikekecbapcaaa.WorkJ Go.Proofs.Ytdikekecbapcaaa.WorkK Go.Proofs.Ytdikekecbapcaaa.WorkL
set_option linter.unusedVariables false
set_option maxRecDepth 100000
theorem days_no {l : List R} {g d m : Int} (h : daysOk l g d m = false) : daysV l g d m = .tuple #[.int .i64 0, .bool false] := by unfold daysV; rw [h]; rfl
theorem days_at {l : List R} {g d m : Int} {n : Nat} (h : daysOk l g d m = true) (hn : Late l g d m n) (hd : d + n ≤ 4000) (hq : m ≤ cum l g d (n + 1)) : daysV l g d m = .tuple #[.int .i64 (d + (n : Int)), .bool true] := by
  unfold daysV; rw [if_pos h, rakeN_at hn hd hq]
theorem days_none {l : List R} {g d m : Int} {n : Nat} (hn : Late l g d m n) (hd : 4000 < d + n) : daysV l g d m = .tuple #[.int .i64 0, .bool false] := by
  unfold daysV; rw [rakeN_none hn hd]; split <;> rfl
theorem days_form (l : List R) (g d m : Int) : ∃ x q, daysV l g d m = .tuple #[.int .i64 x, .bool q] := by
  unfold daysV
  split
  · split
    · exact ⟨_, _, rfl⟩
    · exact ⟨_, _, rfl⟩
  · exact ⟨_, _, rfl⟩
theorem dy1 {l : List R} {g d m : Int} (h : good l = false) : daysOk l g d m = false := by unfold daysOk allOk; rw [h]; rfl
theorem dy2 {l : List R} {g d m : Int} (h : inB g 1 5 = false) : daysOk l g d m = false := by unfold daysOk allOk; rw [h, Bool.and_false]; rfl
theorem dy3 {l : List R} {g d m : Int} (h : inB d 0 4000 = false) : daysOk l g d m = false := by unfold daysOk; rw [h, Bool.and_false]; rfl
theorem dy4 {l : List R} {g d m : Int} (h : inB m 1 10000 = false) : daysOk l g d m = false := by unfold daysOk; rw [h, Bool.and_false]
theorem dy5 {l : List R} {g d m : Int} (h : good l = true) (h1 : inB g 1 5 = true) (h2 : inB d 0 4000 = true) (h3 : inB m 1 10000 = true) : daysOk l g d m = true := by unfold daysOk allOk; rw [h, h1, h2, h3]; rfl
theorem day_of (d : Int) (n : Nat) (h : 0 ≤ d) : ∃ m : Nat, m < 7 ∧ (d + (n : Int)) % 7 = m ∧ day7 (d + (n : Int)) = m := by
  refine ⟨((d + n) % 7).toNat, by omega, by omega, ?_⟩
  unfold day7
  rw [Int.tmod_eq_emod_of_nonneg (by omega)]; omega
set_option maxHeartbeats 800000 in
theorem days_spec (P : Option Addr) (cap : Nat) (l : List R) (g d m : Int) (w : World) (hr : Rd w w.heap.size P (flat l)) (hn : l.length ≤ 1048576) :
    Calls Try.prog 31 #[.slice P l.length cap, .int .i64 g, .int .i64 d, .int .i64 m] w (RPost (daysV l g d m) w) := by
  have HR := Lib.hid hr; clear hr
  go_enter Try.func31, Try.ntmps31
  go_wp2_with fail
  refine (good_spec P cap l w HR.out hn).mono ?_
  rintro e w1 ⟨rfl, HB⟩
  cases hg : good l
  · have HV := Lib.hid (days_no (dy1 (g := g) (d := d) (m := m) hg))
    go_wp2
    go_ret2
    exact rpost (by rw [HV.out] <;> rfl) HB
  have HG := Lib.hid hg; clear hg
  cases h1 : inB g 1 5
  · have HV := Lib.hid (days_no (dy2 (l := l) (d := d) (m := m) h1))
    go_wp2_with (go_at_call 65; (with_reducible refine (gang_spec _ _).mono ?_); rintro e' w' ⟨rfl, rfl⟩)
    go_ret2
    exact rpost (by rw [HV.out] <;> rfl) HB
  cases h2 : inB d 0 4000
  · have HV := Lib.hid (days_no (dy3 (l := l) (g := g) (m := m) h2))
    go_wp2_with first | (go_at_call 65; (with_reducible refine (gang_spec _ _).mono ?_); rintro e' w' ⟨rfl, rfl⟩) | (go_at_call 80; (with_reducible refine (day_spec _ _).mono ?_); rintro e' w' ⟨rfl, rfl⟩)
    go_ret2
    exact rpost (by rw [HV.out] <;> rfl) HB
  cases h3 : inB m 1 10000
  · have HV := Lib.hid (days_no (dy4 (l := l) (g := g) (d := d) h3))
    go_wp2_with first | (go_at_call 65; (with_reducible refine (gang_spec _ _).mono ?_); rintro e' w' ⟨rfl, rfl⟩) | (go_at_call 80; (with_reducible refine (day_spec _ _).mono ?_); rintro e' w' ⟨rfl, rfl⟩) | (go_at_call 81; (with_reducible refine (in_any _ _ _ _).mono ?_); rintro e' w' ⟨rfl, rfl⟩)
    go_ret2
    exact rpost (by rw [HV.out] <;> rfl) HB
  have HOK := Lib.hid (dy5 HG.out h1 h2 h3)
  have hd0 := of_inB h2
  have HS := Lib.hid (good_sane HG.out)
  go_wp2_with first | (go_at_call 65; (with_reducible refine (gang_spec _ _).mono ?_); rintro e' w' ⟨rfl, rfl⟩) | (go_at_call 80; (with_reducible refine (day_spec _ _).mono ?_); rintro e' w' ⟨rfl, rfl⟩) | (go_at_call 81; (with_reducible refine (in_any _ _ _ _).mono ?_); rintro e' w' ⟨rfl, rfl⟩)
  clear h1 h2 h3
  go_loopw [2, 10] (fun i s wr => ∃ (n : Nat) (q : Int), d + n ≤ 4001 ∧ i = .int .i64 (d + (n : Int)) ∧ s = .int .i64 q ∧ Hid (cum l g d n = q) ∧ Hid (Late l g d m n) ∧ 0 ≤ q ∧ q ≤ 600 * n ∧ Below w.heap.size w wr) (fun i _ _ => 4001 - (intOf i).toNat)
  case atStart => exact ⟨0, 0, by omega, by simp, rfl, Lib.hid rfl, Lib.hid (fun j hj => by omega), by omega, by omega, HB⟩
  case round =>
    clear HB
    obtain ⟨n, q, hn4, rfl, rfl, HQ, HLT, q0, q1, HB⟩ := hrel
    by_cases hlt : d + n ≤ 4000
    · obtain ⟨k, hk7, y0, hk⟩ := day_of d n hd0.1
      have HK := Lib.hid hk
      clear hk
      go_wp2_with fail
      refine (raked0_spec P cap l g k wr ((HR.out.below HB (Nat.le_refl _)).mono HB.size) HS.out).mono ?_
      rintro e v1 ⟨rfl, hv⟩
      replace HB := be HB hv; clear hv
      have hb0 := HS.out.on g (k : Int)
      have HN := Lib.hid (show cum l g d (n + 1) = q + rakedOn l g k by rw [cum_snoc, HQ.out, HK.out])
      generalize rakedOn l g (k : Int) = r at *
      have y1 : IntKind.i64.wrap (q + r) = q + r := IntWalk.i64_in _ (by omega)
      have y2 : IntKind.i64.wrap (d + (n : Int) + 1) = d + (n : Int) + 1 := IntWalk.i64_in _ (by omega)
      have HBD := Lib.hid hb0; clear hb0
      by_cases hm : m ≤ q + r
      · have HV := Lib.hid (days_at HOK.out HLT.out hlt (by rw [HN.out]; exact hm))
        go_wp2
        go_ret2
        exact rpost (by rw [HV.out] <;> rfl) HB
      · have hm' : decide (m ≤ q + r) = false := decide_eq_false hm
        have HL1 := Lib.hid (HLT.out.next (by rw [HN.out]; omega))
        clear hm
        go_wp2
        go_roundw
        case rel => exact ⟨n + 1, q + r, by omega, by first | go_num | (congr 1; omega), rfl, HN, HL1, by have := HBD.out; omega, by have := HBD.out; omega, HB⟩
        case measure => simp [intOf]; omega
    · have hlt' : decide (d + (n : Int) ≤ 4000) = false := decide_eq_false hlt
      have HV := Lib.hid (days_none HLT.out (by omega))
      go_wp2
      go_ret2
      exact rpost (by rw [HV.out] <;> rfl) HB
set_option maxHeartbeats 800000 in
theorem days_impl (P : Option Addr) (cap : Nat) (l : List R) (g d m : Int) (w : World) (hr : Rd w w.heap.size P (flat l)) (hc : l.length ≤ cap) (hn : l.length ≤ 1048576) :
    Calls Try.prog 30 #[.slice P l.length cap, .int .i64 g, .int .i64 d, .int .i64 m] w (RPost (daysV l g d m) w) := by
  have HR := Lib.hid hr; clear hr
  go_enter Try.func30, Try.ntmps30
  go_wp2_with fail
  refine (are_impl P cap l w HR.out hn).mono ?_
  rintro e w1 ⟨rfl, HB⟩
  cases hg : good l
  · have HV := Lib.hid (days_no (dy1 (g := g) (d := d) (m := m) hg))
    go_wp2
    go_ret2
    exact rpost (by rw [HV.out] <;> rfl) HB
  have HG := Lib.hid hg; clear hg
  cases h1 : inB g 1 5
  · have HV := Lib.hid (days_no (dy2 (l := l) (d := d) (m := m) h1))
    go_wp2_with (go_at_call 62; (with_reducible refine (gang_impl _ _).mono ?_); rintro e' w' ⟨rfl, rfl⟩)
    go_ret2
    exact rpost (by rw [HV.out] <;> rfl) HB
  cases h2 : inB d 0 4000
  · have HV := Lib.hid (days_no (dy3 (l := l) (g := g) (m := m) h2))
    go_wp2_with first | (go_at_call 62; (with_reducible refine (gang_impl _ _).mono ?_); rintro e' w' ⟨rfl, rfl⟩) | (go_at_call 69; (with_reducible refine (within_any _ _ _ _).mono ?_); rintro e' w' ⟨rfl, rfl⟩)
    go_ret2
    exact rpost (by rw [HV.out] <;> rfl) HB
  cases h3 : inB m 1 10000
  · have HV := Lib.hid (days_no (dy4 (l := l) (g := g) (d := d) h3))
    go_wp2_with first | (go_at_call 62; (with_reducible refine (gang_impl _ _).mono ?_); rintro e' w' ⟨rfl, rfl⟩) | (go_at_call 69; (with_reducible refine (within_any _ _ _ _).mono ?_); rintro e' w' ⟨rfl, rfl⟩)
    go_ret2
    exact rpost (by rw [HV.out] <;> rfl) HB
  have HOK := Lib.hid (dy5 HG.out h1 h2 h3)
  have hd0 := of_inB h2
  have HS := Lib.hid (good_sane HG.out)
  have HRW := Lib.hid ((HR.out.below HB (Nat.le_refl _)).mono HB.size)
  go_wp2_with first | (go_at_call 62; (with_reducible refine (gang_impl _ _).mono ?_); rintro e' w' ⟨rfl, rfl⟩) | (go_at_call 69; (with_reducible refine (within_any _ _ _ _).mono ?_); rintro e' w' ⟨rfl, rfl⟩)
  clear h1 h2 h3
  refine (week_impl P cap l g w1 HRW.out HS.out).mono ?_
  rintro e v1 ⟨A1, a1, rfl, O1, hv⟩
  replace HB := be HB hv; clear hv
  obtain ⟨b, o, rfl, hb, hc2⟩ := (Rd.of_own O1).at (k := 0) (by rw [iv_len, week_len]; omega)
  have HC := Lib.hid hc2; clear hc2 O1
  have HW7 := Lib.hid (week_len l g)
  simp only [week_len]
  go_wp2
  go_loopw [11, 12] (fun s i wr => ∃ (n : Nat) (q : Int), d + n ≤ 4001 ∧ i = .int .i64 (d + (n : Int)) ∧ s = .int .i64 q ∧ Hid (cum l g d n = q) ∧ Hid (Late l g d m n) ∧ 0 ≤ q ∧ q ≤ 600 * n ∧ wr = v1) (fun _ i _ => 4001 - (intOf i).toNat)
  case atStart => exact ⟨0, 0, by omega, by simp, rfl, Lib.hid rfl, Lib.hid (fun j hj => by omega), by omega, by omega, rfl⟩
  case round =>
    obtain ⟨n, q, hn4, rfl, rfl, HQ, HLT, q0, q1, rfl⟩ := hrel
    by_cases hlt : d + n ≤ 4000
    · obtain ⟨k, hk7, y0, hk⟩ := day_of d n hd0.1
      have HK := Lib.hid hk
      clear hk
      have hb0 := HS.out.on g (k : Int)
      have HN := Lib.hid (show cum l g d (n + 1) = q + rakedOn l g k by rw [cum_snoc, HQ.out, HK.out])
      have m0 : wr.cell? ⟨b, o + k, none⟩ = some (.int .i64 (rakedOn l g k)) := by
        have := HC.out k _ (iv_get (week l g) k (by rw [week_len]; exact hk7))
        rw [this]
        congr 2
        exact weekN_get l g 7 k _
      generalize rakedOn l g (k : Int) = r at *
      have y1 : IntKind.i64.wrap (q + r) = q + r := IntWalk.i64_in _ (by omega)
      have y2 : IntKind.i64.wrap (d + (n : Int) + 1) = d + (n : Int) + 1 := IntWalk.i64_in _ (by omega)
      have HBD := Lib.hid hb0; clear hb0
      by_cases hm : m ≤ q + r
      · have HV := Lib.hid (days_at HOK.out HLT.out hlt (by rw [HN.out]; exact hm))
        go_wp2
        go_ret2
        exact rpost (by rw [HV.out] <;> rfl) HB
      · have hm' : decide (m ≤ q + r) = false := decide_eq_false hm
        have HL1 := Lib.hid (HLT.out.next (by rw [HN.out]; omega))
        clear hm
        go_wp2
        go_roundw
        case rel => exact ⟨n + 1, q + r, by omega, by first | go_num | (congr 1; omega), rfl, HN, HL1, by have := HBD.out; omega, by have := HBD.out; omega, trivial⟩
        case measure => simp [intOf]; omega
    · have hlt' : decide (d + (n : Int) ≤ 4000) = false := decide_eq_false hlt
      have HV := Lib.hid (days_none HLT.out (by omega))
      go_wp2
      go_ret2
      exact rpost (by rw [HV.out] <;> rfl) HB
end Go.Proofs.Ytdikekecbapcaaa.WorkM
