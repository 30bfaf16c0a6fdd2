/- Workers: RakedOn and DaysToRake, the model's and the program's. -/
import Derived.Test.YtdikekecbapcaaaWorkK
namespace Go.Proofs.Ytdikekecbapcaaa.WorkL
open Go.RowKit Go.Proofs.Ytdikekecbapcaaa.Mem Go.Proofs.Ytdikekecbapcaaa.Base Go.Proofs.Ytdikekecbapcaaa.Within Go.Proofs.Ytdikekecbapcaaa.SWorker Go.Proofs.Ytdikekecbapcaaa.SInt Go.Proofs.Ytdikekecbapcaaa.RInt Go.Proofs.Ytdikekecbapcaaa.Regn Go.Proofs.Ytdikekecbapcaaa.Boxes Go.Proofs.Ytdikekecbapcaaa.Keep Go.Proofs.Ytdikekecbapcaaa.Work Go.Proofs.Ytdikekecbapcaaa.Work2 Go.Proofs.Ytdikekecbapcaaa.WorkS Go.Proofs.Ytdikekecbapcaaa.WorkG Go.Proofs.Ytdikekecbapcaaa.WorkR Go.Proofs.Ytdikekecbapcaaa.WorkI Go.Proofs.Ytdikekecbapcaaa.WorkJ Go.Proofs.Ytdikekecbapcaaa.WorkK
set_option linter.unusedVariables false
set_option maxRecDepth 100000
def onV (l : List R) (g d : Int) : Value := if onOk l g d = true then .tuple #[.int .i64 (rakedOn l g (day7 d)), .bool true] else .tuple #[.int .i64 0, .bool false]
theorem onV_no {l : List R} {g d : Int} (h : onOk l g d = false) : onV l g d = .tuple #[.int .i64 0, .bool false] := by unfold onV; rw [h]; rfl
theorem onV_yes {l : List R} {g d : Int} (h : onOk l g d = true) : onV l g d = .tuple #[.int .i64 (rakedOn l g (day7 d)), .bool true] := by unfold onV; rw [if_pos h]
theorem on1 {l : List R} {g d : Int} (h : good l = false) : onOk l g d = false := by unfold onOk allOk; rw [h]; rfl
theorem on2 {l : List R} {g d : Int} (h : inB g 1 5 = false) : onOk l g d = false := by unfold onOk allOk; rw [h, Bool.and_false]; rfl
theorem on3 {l : List R} {g d : Int} (h : inB d 0 4000 = false) : onOk l g d = false := by unfold onOk; rw [h, Bool.and_false]
theorem on4 {l : List R} {g d : Int} (h : good l = true) (h1 : inB g 1 5 = true) (h2 : inB d 0 4000 = true) : onOk l g d = true := by unfold onOk allOk; rw [h, h1, h2]; rfl
theorem day_in (d : Int) (h : inB d 0 4000 = true) : 0 ≤ day7 d ∧ day7 d ≤ 6 := by
  have := of_inB h
  unfold day7
  rw [Int.tmod_eq_emod_of_nonneg (by omega)]; omega
theorem on_spec (P : Option Addr) (cap : Nat) (l : List R) (g d : Int) (w : World) (hr : Rd w w.heap.size P (flat l)) (hn : l.length ≤ 1048576) :
    Calls Try.prog 33 #[.slice P l.length cap, .int .i64 g, .int .i64 d] w (RPost (onV l g d) w) := by
  have HR := Lib.hid hr; clear hr
  go_enter Try.func33, Try.ntmps33
  go_wp2_with fail
  refine (good_spec P cap l w HR.out hn).mono ?_
  rintro e w1 ⟨rfl, HB⟩
  cases hg : good l
  · have HV := Lib.hid (onV_no (on1 (g := g) (d := d) hg))
    go_wp2
    go_ret2
    exact rpost (by rw [HV.out] <;> rfl) HB
  have HG := Lib.hid hg; clear hg
  cases h1 : inB g 1 5
  · have HV := Lib.hid (onV_no (on2 (l := l) (d := d) h1))
    go_wp2_with (go_at_call 65; (with_reducible refine (gang_spec _ _).mono ?_); rintro e' w' ⟨rfl, rfl⟩)
    go_ret2
    exact rpost (by rw [HV.out] <;> rfl) HB
  cases h2 : inB d 0 4000
  · have HV := Lib.hid (onV_no (on3 (l := l) (g := g) h2))
    go_wp2_with first | (go_at_call 65; (with_reducible refine (gang_spec _ _).mono ?_); rintro e' w' ⟨rfl, rfl⟩) | (go_at_call 80; (with_reducible refine (day_spec _ _).mono ?_); rintro e' w' ⟨rfl, rfl⟩)
    go_ret2
    exact rpost (by rw [HV.out] <;> rfl) HB
  have HV := Lib.hid (onV_yes (on4 HG.out h1 h2))
  have HRW := Lib.hid ((HR.out.below HB (Nat.le_refl _)).mono HB.size)
  have HD := Lib.hid (day_in d h2)
  have y0 : IntKind.i64.wrap (d.tmod 7) = day7 d := IntWalk.i64_in _ (by have := HD.out; unfold day7 at this; omega)
  go_wp2_with first | (go_at_call 65; (with_reducible refine (gang_spec _ _).mono ?_); rintro e' w' ⟨rfl, rfl⟩) | (go_at_call 80; (with_reducible refine (day_spec _ _).mono ?_); rintro e' w' ⟨rfl, rfl⟩)
  refine (raked0_spec P cap l g (day7 d) w1 HRW.out (good_sane HG.out)).mono ?_
  rintro e w2 ⟨rfl, hv⟩
  go_wp2
  go_ret2
  exact rpost (by rw [HV.out] <;> rfl) (be HB hv)
theorem on_impl (P : Option Addr) (cap : Nat) (l : List R) (g d : Int) (w : World) (hr : Rd w w.heap.size P (flat l)) (hc : l.length ≤ cap) (hn : l.length ≤ 1048576) :
    Calls Try.prog 23 #[.slice P l.length cap, .int .i64 g, .int .i64 d] w (RPost (onV l g d) w) := by
  have HR := Lib.hid hr; clear hr
  go_enter Try.func23, Try.ntmps23
  go_wp2_with fail
  refine (are_impl P cap l w HR.out hn).mono ?_
  rintro e w1 ⟨rfl, HB⟩
  cases hg : good l
  · have HV := Lib.hid (onV_no (on1 (g := g) (d := d) hg))
    go_wp2
    go_ret2
    exact rpost (by rw [HV.out] <;> rfl) HB
  have HG := Lib.hid hg; clear hg
  cases h1 : inB g 1 5
  · have HV := Lib.hid (onV_no (on2 (l := l) (d := d) h1))
    go_wp2_with (go_at_call 62; (with_reducible refine (gang_impl _ _).mono ?_); rintro e' w' ⟨rfl, rfl⟩)
    go_ret2
    exact rpost (by rw [HV.out] <;> rfl) HB
  cases h2 : inB d 0 4000
  · have HV := Lib.hid (onV_no (on3 (l := l) (g := g) h2))
    go_wp2_with first | (go_at_call 62; (with_reducible refine (gang_impl _ _).mono ?_); rintro e' w' ⟨rfl, rfl⟩) | (go_at_call 69; (with_reducible refine (within_any _ _ _ _).mono ?_); rintro e' w' ⟨rfl, rfl⟩)
    go_ret2
    exact rpost (by rw [HV.out] <;> rfl) HB
  have HV := Lib.hid (onV_yes (on4 HG.out h1 h2))
  have HRW := Lib.hid ((HR.out.below HB (Nat.le_refl _)).mono HB.size)
  have HD := Lib.hid (day_in d h2)
  have y0 : IntKind.i64.wrap (d.tmod 7) = day7 d := IntWalk.i64_in _ (by have := HD.out; unfold day7 at this; omega)
  go_wp2_with first | (go_at_call 62; (with_reducible refine (gang_impl _ _).mono ?_); rintro e' w' ⟨rfl, rfl⟩) | (go_at_call 69; (with_reducible refine (within_any _ _ _ _).mono ?_); rintro e' w' ⟨rfl, rfl⟩)
  refine (pres_impl P cap l g (day7 d) w1 HRW.out (good_sane HG.out).1).mono ?_
  rintro e w2 ⟨A1, a1, rfl, O1, hv⟩
  replace HB := be HB hv; clear hv
  go_wp2_with fail
  refine (by_impl A1 a1 (pres l g (day7 d)) w2 (Rd.of_own O1) ((good_sane HG.out).sub (pres_sub l g (day7 d)))).mono ?_
  rintro e w3 ⟨rfl, hv⟩
  replace HB := be HB hv; clear hv O1
  go_wp2
  go_ret2
  exact rpost (by rw [HV.out] <;> rfl) HB
end Go.Proofs.Ytdikekecbapcaaa.WorkL
