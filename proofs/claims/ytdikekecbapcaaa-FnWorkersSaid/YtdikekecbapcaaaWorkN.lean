/- Workers: RakedWeek and IdleDays, the model's and the program's. -/
import Derived.Test.YtdikekecbapcaaaWorkL
namespace Go.Proofs.Ytdikekecbapcaaa.WorkN
open Go.RowKit Go.Proofs.Ytdikekecbapcaaa.Mem Go.Proofs.Ytdikekecbapcaaa.Base Go.Proofs.Ytdikekecbapcaaa.Within Go.Proofs.Ytdikekecbapcaaa.SWorker Go.Proofs.Ytdikekecbapcaaa.SInt Go.Proofs.Ytdikekecbapcaaa.RInt Go.Proofs.Ytdikekecbapcaaa.Regn Go.Proofs.Ytdikekecbapcaaa.Boxes Go.Proofs.Ytdikekecbapcaaa.Keep Go.Proofs.Ytdikekecbapcaaa.Work Go.Proofs.Ytdikekecbapcaaa.Work2 Go.Proofs.Ytdikekecbapcaaa.WorkS Go.Proofs.Ytdikekecbapcaaa.WorkG Go.Proofs.Ytdikekecbapcaaa.WorkR Go.Proofs.Ytdikekecbapcaaa.WorkI Go.Proofs.Ytdikekecbapcaaa.WorkJ Go.Proofs.Ytdikekecbapcaaa.WorkK Go.Proofs.Ytdikekecbapcaaa.WorkL
set_option linter.unusedVariables false
set_option maxRecDepth 100000
def weekL (l : List R) (g : Int) : List Int := if allOk l g = true then week l g else []
def idleL (l : List R) (g : Int) : List Int := if allOk l g = true then idleN l g 7 else []
theorem all1 {l : List R} {g : Int} (h : good l = false) : allOk l g = false := by unfold allOk; rw [h]; rfl
theorem all2 {l : List R} {g : Int} (h : inB g 1 5 = false) : allOk l g = false := by unfold allOk; rw [h, Bool.and_false]
theorem all3 {l : List R} {g : Int} (h : good l = true) (h1 : inB g 1 5 = true) : allOk l g = true := by unfold allOk; rw [h, h1]; rfl
theorem week_no {l : List R} {g : Int} (h : allOk l g = false) : weekL l g = [] := by unfold weekL; rw [h]; rfl
theorem week_yes {l : List R} {g : Int} (h : allOk l g = true) : weekL l g = week l g := by unfold weekL; rw [if_pos h]
theorem idle_no {l : List R} {g : Int} (h : allOk l g = false) : idleL l g = [] := by unfold idleL; rw [h]; rfl
theorem idle_yes {l : List R} {g : Int} (h : allOk l g = true) : idleL l g = idleN l g 7 := by unfold idleL; rw [if_pos h]
theorem weekL_len (l : List R) (g : Int) : (weekL l g).length ≤ 100 := by unfold weekL; split <;> simp [week_len]
theorem idleL_len (l : List R) (g : Int) : (idleL l g).length ≤ 100 := by
  unfold idleL
  split
  · have := idleN_len l g 7; omega
  · simp
set_option maxHeartbeats 800000 in
theorem rweek_spec (P : Option Addr) (cap : Nat) (l : List R) (g : Int) (w : World) (hr : Rd w w.heap.size P (flat l)) (hn : l.length ≤ 1048576) :
    Calls Try.prog 19 #[.slice P l.length cap, .int .i64 g] w (IPost (weekL l g) (allOk l g) w) := by
  obtain ⟨i0, hi, hz0, hz1, hz2⟩ := info_parts info_int
  have HI := Lib.hid hz2; clear hz2
  have HI1 := Lib.hid hz1; clear hz1
  have HR := Lib.hid hr; clear hr
  have HB0 : Below w.heap.size w (w.alloc (.cells #[] 3)) := al (Below.refl _ _)
  have O0 := RInt.empty_own (Below.refl w.heap.size w)
  go_enter Try.func19, Try.ntmps19
  go_wp2_with fail
  refine (good_spec P cap l _ ((HR.out.below HB0 (Nat.le_refl _)).mono HB0.size) hn).mono ?_
  rintro e w1 ⟨rfl, hv⟩
  have HB := be HB0 hv
  have O := own_keep O0 hv
  clear HB0 O0 hv
  cases hg : good l
  · have HV := Lib.hid (all1 (g := g) hg)
    go_wp2
    go_ret2
    exact i_mk (week_no HV.out) HV.out rfl O HB
  have HG := Lib.hid hg; clear hg
  cases h1 : inB g 1 5
  · have HV := Lib.hid (all2 (l := l) h1)
    go_wp2_with (go_at_call 65; (with_reducible refine (gang_spec _ _).mono ?_); rintro e' w' ⟨rfl, rfl⟩)
    go_ret2
    exact i_mk (week_no HV.out) HV.out rfl O HB
  have HV := Lib.hid (all3 HG.out h1)
  go_wp2_with (go_at_call 65; (with_reducible refine (gang_spec _ _).mono ?_); rintro e' w' ⟨rfl, rfl⟩)
  clear h1
  go_loopw [6, 7] (fun v i wr => ∃ (k : Nat) (L : List Int) (A : Option Addr) (c : Nat), k ≤ 7 ∧ L.length ≤ k ∧ i = .int .i64 k ∧ v = .slice A L.length c ∧ Hid (weekN l g k = L) ∧ wr.ownsRow w.heap.size 3 1 (.slice A L.length c) L.length (iv L) ∧ Below w.heap.size w wr) (fun _ i _ => 7 - (intOf i).toNat)
  case atStart => exact ⟨0, [], _, _, by omega, Nat.le_refl _, rfl, rfl, Lib.hid rfl, O, HB⟩
  case round =>
    clear O HB
    obtain ⟨k, L, A, c, hk, hLk, rfl, rfl, HL, O, HB⟩ := hrel
    by_cases hlt : k < 7
    · have hki : (k : Int) < 7 := by omega
      go_wp2_with fail
      refine (raked0_spec P cap l g k wr ((HR.out.below HB (Nat.le_refl _)).mono HB.size) (good_sane HG.out)).mono ?_
      rintro e v1 ⟨rfl, hv⟩
      replace HB := be HB hv
      replace O := own_keep O hv
      clear hv
      have HN := Lib.hid (show weekN l g (k + 1) = L ++ [rakedOn l g k] by rw [weekN_snoc, HL.out])
      generalize rakedOn l g (k : Int) = r at HN ⊢
      have hm1 : L.length + 1 ≤ maxLen := by unfold maxLen; omega
      have hm2 : (L.length + 1) * 8 ≤ 140737488355328 := by omega
      go_wp2_with (at_builtin; go_must (refine wpList_append_own _ rfl _ _ 27 rfl w.heap.size 3 i0 _ 1 8 Try.underlying27 hi hz0 HI1.out HI.out rfl (by decide) _ L.length _ rfl (O.alloc _) ⟨v1.heap.size, 0, none⟩ 1 1 [.int .i64 r] rfl rfl (cell_one_new _ _ _) (one_cell rfl) hm1 hm2 (by rw [size_alloc']; have := HB.size; omega) ?_; intro v' w9 hown1 hgrow _))
      have hB9 := below_append HB O hgrow
      obtain ⟨A1, c1, rfl⟩ := own_form hown1
      have HO1 := row_app (x := r) hown1
      clear hgrow hown1 HB O hm1 hm2
      go_wp2
      go_roundw
      case rel => exact ⟨k + 1, L ++ [r], A1, c1, by omega, by rw [List.length_append]; simp; omega, by go_num, by rw [List.length_append] <;> rfl, HN, HO1, hB9⟩
      case measure => simp [intOf]; omega
    · obtain rfl : k = 7 := by omega
      have HE := Lib.hid ((week_yes HV.out).trans (show week l g = L from HL.out))
      go_wp2
      go_ret2
      exact i_mk HE.out HV.out rfl O HB
theorem rweek_impl (P : Option Addr) (cap : Nat) (l : List R) (g : Int) (w : World) (hr : Rd w w.heap.size P (flat l)) (hc : l.length ≤ cap) (hn : l.length ≤ 1048576) :
    Calls Try.prog 18 #[.slice P l.length cap, .int .i64 g] w (IPost (weekL l g) (allOk l g) w) := by
  have HR := Lib.hid hr; clear hr
  go_enter Try.func18, Try.ntmps18
  go_wp2_with fail
  refine (are_impl P cap l w HR.out hn).mono ?_
  rintro e w1 ⟨rfl, HB⟩
  have O := RInt.empty_own HB
  cases hg : good l
  · have HV := Lib.hid (all1 (g := g) hg)
    go_wp2
    go_ret2
    exact i_mk (week_no HV.out) HV.out rfl O (al HB)
  have HG := Lib.hid hg; clear hg
  cases h1 : inB g 1 5
  · have HV := Lib.hid (all2 (l := l) h1)
    go_wp2_with (go_at_call 62; (with_reducible refine (gang_impl _ _).mono ?_); rintro e' w' ⟨rfl, rfl⟩)
    go_ret2
    exact i_mk (week_no HV.out) HV.out rfl O (al HB)
  clear O
  have HV := Lib.hid (all3 HG.out h1)
  go_wp2_with (go_at_call 62; (with_reducible refine (gang_impl _ _).mono ?_); rintro e' w' ⟨rfl, rfl⟩)
  refine (week_impl P cap l g w1 ((HR.out.below HB (Nat.le_refl _)).mono HB.size) (good_sane HG.out)).mono ?_
  rintro e w2 ⟨A1, a1, rfl, O1, hv⟩
  have HB2 := be HB hv
  have HO := Lib.hid (own_base O1 HB.size); clear O1 hv
  have HE := Lib.hid (week_yes HV.out)
  go_wp2
  go_ret2
  exact i_mk HE.out HV.out rfl HO.out HB2
set_option maxHeartbeats 800000 in
theorem idle_spec (P : Option Addr) (cap : Nat) (l : List R) (g : Int) (w : World) (hr : Rd w w.heap.size P (flat l)) (hn : l.length ≤ 1048576) :
    Calls Try.prog 22 #[.slice P l.length cap, .int .i64 g] w (IPost (idleL l g) (allOk l g) w) := by
  obtain ⟨i0, hi, hz0, hz1, hz2⟩ := info_parts info_int
  have HI := Lib.hid hz2; clear hz2
  have HI1 := Lib.hid hz1; clear hz1
  have HR := Lib.hid hr; clear hr
  have HB0 : Below w.heap.size w (w.alloc (.cells #[] 3)) := al (Below.refl _ _)
  have O0 := RInt.empty_own (Below.refl w.heap.size w)
  go_enter Try.func22, Try.ntmps22
  go_wp2_with fail
  refine (good_spec P cap l _ ((HR.out.below HB0 (Nat.le_refl _)).mono HB0.size) hn).mono ?_
  rintro e w1 ⟨rfl, hv⟩
  have HB := be HB0 hv
  have O := own_keep O0 hv
  clear HB0 O0 hv
  cases hg : good l
  · have HV := Lib.hid (all1 (g := g) hg)
    go_wp2
    go_ret2
    exact i_mk (idle_no HV.out) HV.out rfl O HB
  have HG := Lib.hid hg; clear hg
  cases h1 : inB g 1 5
  · have HV := Lib.hid (all2 (l := l) h1)
    go_wp2_with (go_at_call 65; (with_reducible refine (gang_spec _ _).mono ?_); rintro e' w' ⟨rfl, rfl⟩)
    go_ret2
    exact i_mk (idle_no HV.out) HV.out rfl O HB
  have HV := Lib.hid (all3 HG.out h1)
  go_wp2_with (go_at_call 65; (with_reducible refine (gang_spec _ _).mono ?_); rintro e' w' ⟨rfl, rfl⟩)
  clear h1
  go_loopw [6, 7] (fun v i wr => ∃ (k : Nat) (L : List Int) (A : Option Addr) (c : Nat), k ≤ 7 ∧ L.length ≤ k ∧ i = .int .i64 k ∧ v = .slice A L.length c ∧ Hid (idleN l g k = L) ∧ wr.ownsRow w.heap.size 3 1 (.slice A L.length c) L.length (iv L) ∧ Below w.heap.size w wr) (fun _ i _ => 7 - (intOf i).toNat)
  case atStart => exact ⟨0, [], _, _, by omega, Nat.le_refl _, rfl, rfl, Lib.hid rfl, O, HB⟩
  case round =>
    clear O HB
    obtain ⟨k, L, A, c, hk, hLk, rfl, rfl, HL, O, HB⟩ := hrel
    by_cases hlt : k < 7
    · have hki : (k : Int) < 7 := by omega
      go_wp2_with fail
      refine (raked0_spec P cap l g k wr ((HR.out.below HB (Nat.le_refl _)).mono HB.size) (good_sane HG.out)).mono ?_
      rintro e v1 ⟨rfl, hv⟩
      replace HB := be HB hv
      replace O := own_keep O hv
      clear hv
      cases hq : works (pres l g k)
      · have HN := Lib.hid (show idleN l g (k + 1) = L ++ [(k : Int)] by rw [idleN_no hq, HL.out])
        have hm1 : L.length + 1 ≤ maxLen := by unfold maxLen; omega
        have hm2 : (L.length + 1) * 8 ≤ 140737488355328 := by omega
        go_wp2_with (at_builtin; go_must (refine wpList_append_own _ rfl _ _ 27 rfl w.heap.size 3 i0 _ 1 8 Try.underlying27 hi hz0 HI1.out HI.out rfl (by decide) _ L.length _ rfl (O.alloc _) ⟨v1.heap.size, 0, none⟩ 1 1 [.int .i64 k] rfl rfl (cell_one_new _ _ _) (one_cell rfl) hm1 hm2 (by rw [size_alloc']; have := HB.size; omega) ?_; intro v' w9 hown1 hgrow _))
        have hB9 := below_append HB O hgrow
        obtain ⟨A1, c1, rfl⟩ := own_form hown1
        have HO1 := row_app (x := (k : Int)) hown1
        clear hgrow hown1 HB O hm1 hm2
        go_wp2
        go_roundw
        case rel => exact ⟨k + 1, L ++ [(k : Int)], A1, c1, by omega, by rw [List.length_append]; simp; omega, by go_num, by rw [List.length_append] <;> rfl, HN, HO1, hB9⟩
        case measure => simp [intOf]; omega
      · have HN := Lib.hid ((idleN_yes hq).trans HL.out)
        go_wp2
        go_roundw
        case rel => exact ⟨k + 1, L, A, c, by omega, by omega, by go_num, rfl, HN, O, HB⟩
        case measure => simp [intOf]; omega
    · obtain rfl : k = 7 := by omega
      have HE := Lib.hid ((idle_yes HV.out).trans HL.out)
      go_wp2
      go_ret2
      exact i_mk HE.out HV.out rfl O HB
set_option maxHeartbeats 800000 in
theorem idle_impl (P : Option Addr) (cap : Nat) (l : List R) (g : Int) (w : World) (hr : Rd w w.heap.size P (flat l)) (hc : l.length ≤ cap) (hn : l.length ≤ 1048576) :
    Calls Try.prog 21 #[.slice P l.length cap, .int .i64 g] w (IPost (idleL l g) (allOk l g) w) := by
  obtain ⟨i0, hi, hz0, hz1, hz2⟩ := info_parts info_int
  have HI := Lib.hid hz2; clear hz2
  have HI1 := Lib.hid hz1; clear hz1
  have HR := Lib.hid hr; clear hr
  go_enter Try.func21, Try.ntmps21
  go_wp2_with fail
  refine (are_impl P cap l w HR.out hn).mono ?_
  rintro e w1 ⟨rfl, HB⟩
  have O := RInt.empty_own HB
  cases hg : good l
  · have HV := Lib.hid (all1 (g := g) hg)
    go_wp2
    go_ret2
    exact i_mk (idle_no HV.out) HV.out rfl O (al HB)
  have HG := Lib.hid hg; clear hg
  have h12 := (good_all HG.out).1
  cases h1 : inB g 1 5
  · have HV := Lib.hid (all2 (l := l) h1)
    go_wp2_with (go_at_call 62; (with_reducible refine (gang_impl _ _).mono ?_); rintro e' w' ⟨rfl, rfl⟩)
    go_ret2
    exact i_mk (idle_no HV.out) HV.out rfl O (al HB)
  have HV := Lib.hid (all3 HG.out h1)
  go_wp2_with (go_at_call 62; (with_reducible refine (gang_impl _ _).mono ?_); rintro e' w' ⟨rfl, rfl⟩)
  clear h1
  go_loopw [6, 18] (fun v i wr => ∃ (k : Nat) (L : List Int) (A : Option Addr) (c : Nat), k ≤ 7 ∧ L.length ≤ k ∧ i = .int .i64 k ∧ v = .slice A L.length c ∧ Hid (idleN l g k = L) ∧ wr.ownsRow w.heap.size 3 1 (.slice A L.length c) L.length (iv L) ∧ Below w.heap.size w wr) (fun _ i _ => 7 - (intOf i).toNat)
  case atStart => exact ⟨0, [], _, _, by omega, Nat.le_refl _, rfl, rfl, Lib.hid rfl, O, al HB⟩
  case round =>
    clear O HB
    obtain ⟨k, L, A, c, hk, hLk, rfl, rfl, HL, O, HB⟩ := hrel
    by_cases hlt : k < 7
    · have hki : (k : Int) < 7 := by omega
      go_wp2_with fail
      refine (pres_impl P cap l g k wr ((HR.out.below HB (Nat.le_refl _)).mono HB.size) h12).mono ?_
      rintro e v0 ⟨A0, a0, rfl, O0, hv⟩
      replace HB := be HB hv
      replace O := own_keep O hv
      clear hv
      go_wp2_with fail
      have hpl := (pres_sub l g k).length_le
      refine (can_impl A0 a0 (pres l g k) v0 (Rd.of_own O0) (by omega)).mono ?_
      rintro e v1 ⟨rfl, hv⟩
      replace HB := be HB hv
      replace O := own_keep O hv
      clear hv O0 hpl
      cases hq : works (pres l g k)
      · have HN := Lib.hid (show idleN l g (k + 1) = L ++ [(k : Int)] by rw [idleN_no hq, HL.out])
        have hm1 : L.length + 1 ≤ maxLen := by unfold maxLen; omega
        have hm2 : (L.length + 1) * 8 ≤ 140737488355328 := by omega
        go_wp2_with (at_builtin; go_must (refine wpList_append_own _ rfl _ _ 27 rfl w.heap.size 3 i0 _ 1 8 Try.underlying27 hi hz0 HI1.out HI.out rfl (by decide) _ L.length _ rfl (O.alloc _) ⟨v1.heap.size, 0, none⟩ 1 1 [.int .i64 k] rfl rfl (cell_one_new _ _ _) (one_cell rfl) hm1 hm2 (by rw [size_alloc']; have := HB.size; omega) ?_; intro v' w9 hown1 hgrow _))
        have hB9 := below_append HB O hgrow
        obtain ⟨A1, c1, rfl⟩ := own_form hown1
        have HO1 := row_app (x := (k : Int)) hown1
        clear hgrow hown1 HB O hm1 hm2
        go_wp2
        go_roundw
        case rel => exact ⟨k + 1, L ++ [(k : Int)], A1, c1, by omega, by rw [List.length_append]; simp; omega, by go_num, by rw [List.length_append] <;> rfl, HN, HO1, hB9⟩
        case measure => simp [intOf]; omega
      · have HN := Lib.hid ((idleN_yes hq).trans HL.out)
        go_wp2
        go_roundw
        case rel => exact ⟨k + 1, L, A, c, by omega, by omega, by go_num, rfl, HN, O, HB⟩
        case measure => simp [intOf]; omega
    · obtain rfl : k = 7 := by omega
      have HE := Lib.hid ((idle_yes HV.out).trans HL.out)
      go_wp2
      go_ret2
      exact i_mk HE.out HV.out rfl O HB
end Go.Proofs.Ytdikekecbapcaaa.WorkN
