/- Workers: slices.IndexFunc and ContainsFunc over workers; canWork, rakedBy, sumOf, weekOf, rakedByAll. -/
import Derived.Test.YtdikekecbapcaaaWorkI
import Derived.Test.YtdikekecbapcaaaRInt
import Derived.Test.YtdikekecbapcaaaWorkJa
import Derived.Shelf.Abstract
namespace Go.Proofs.Ytdikekecbapcaaa.WorkJ
open Go.RowKit Go.Proofs.Ytdikekecbapcaaa.Mem Go.Proofs.Ytdikekecbapcaaa.Base Go.Proofs.Ytdikekecbapcaaa.SWorker Go.Proofs.Ytdikekecbapcaaa.SInt Go.Proofs.Ytdikekecbapcaaa.RInt Go.Proofs.Ytdikekecbapcaaa.Regn Go.Proofs.Ytdikekecbapcaaa.Boxes Go.Proofs.Ytdikekecbapcaaa.Keep Go.Proofs.Ytdikekecbapcaaa.Work Go.Proofs.Ytdikekecbapcaaa.Work2 Go.Proofs.Ytdikekecbapcaaa.WorkS Go.Proofs.Ytdikekecbapcaaa.WorkI
set_option linter.unusedVariables false
set_option maxRecDepth 100000
theorem contains_any (P : Option Addr) (cap : Nat) (l : List R) (g : Nat) (lb : Array Value) (p : R → Bool) (eg : ∀ args w, (callFunc g args).run Try.prog w = .ok (.enter g args) w) (w : World) (hg : Gives g lb p w) (hr : Rd w w.heap.size P (flat l)) (hn : l.length ≤ 1048576) :
    Calls Try.prog 84 #[.slice P l.length cap, .func (.func g) #[] lb] w (RPost (.bool (l.any p)) w) := by
  have HI := Lib.hid (index_any P cap l g lb p eg w hg hr hn); clear hg hr eg
  go_enter Try.func84, Try.ntmps84
  go_wp2_with fail
  refine HI.out.mono ?_
  rintro e w1 ⟨i, rfl, hd, _, _, hB⟩
  have HD := Lib.hid hd; clear hd
  cases hq : decide (0 ≤ i)
  · go_wp2
    go_ret
    exact rpost (by rw [← HD.out, hq] <;> rfl) hB
  · go_wp2
    go_ret
    exact rpost (by rw [← HD.out, hq] <;> rfl) hB
theorem cart_gives (w : World) : Gives 94 #[] R.f3 w := by
  intro x W _
  show Calls Try.prog 94 #[.agg #[.int .i64 x.f0, .int .i64 x.f1, .int .i64 x.f2, .bool x.f3, .int .i64 x.f4]] W _
  go_enter Try.func94, Try.ntmps94
  go_wp2
  go_ret
  exact rpost rfl (al (Below.refl _ _))
theorem can_impl (P : Option Addr) (cap : Nat) (p : List R) (w : World) (hr : Rd w w.heap.size P (flat p)) (hn : p.length ≤ 1048576) :
    Calls Try.prog 67 #[.slice P p.length cap] w (RPost (.bool (works p)) w) := by
  have HW := Lib.hid (show works p = (decide (2 ≤ p.length) && p.any R.f3) from rfl)
  have HC := Lib.hid (contains_any P cap p 94 #[] R.f3 (enters_of Try.func94 (by kernel_rfl) rfl) w (cart_gives w) hr hn); clear hr
  by_cases h2 : 2 ≤ p.length
  · have h2' : (2 : Int) ≤ p.length := by omega
    have HW2 := Lib.hid (HW.out.trans (by rw [decide_eq_true h2, Bool.true_and])); clear HW h2
    go_enter Try.func67, Try.ntmps67
    go_wp2_with fail
    refine HC.out.mono ?_
    rintro e w1 ⟨rfl, hB⟩
    go_wp2
    go_ret
    exact rpost (by rw [HW2.out] <;> rfl) hB
  · have h2' : decide ((2 : Int) ≤ p.length) = false := decide_eq_false (by omega)
    have HW2 := Lib.hid (HW.out.trans (by rw [decide_eq_false h2, Bool.false_and])); clear HW h2
    go_enter Try.func67, Try.ntmps67
    go_wp2
    go_ret
    exact rpost (by rw [HW2.out] <;> rfl) (Below.refl _ _)
end Go.Proofs.Ytdikekecbapcaaa.WorkJ
