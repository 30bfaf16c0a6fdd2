/- The laws' helpers over Liquor: markLiquor, heldLiquor. -/
import Derived.Test.YthilbpklmjpmcaaLiqW
namespace Go.Proofs.Ythilbpklmjpmcaa.LiqM
open Go.RowKit Go.Proofs.Ythilbpklmjpmcaa.Mem Go.Proofs.Ythilbpklmjpmcaa.Base Go.Proofs.Ythilbpklmjpmcaa.SInt Go.Proofs.Ythilbpklmjpmcaa.Boxes Go.Proofs.Ythilbpklmjpmcaa.Keep Go.Proofs.Ythilbpklmjpmcaa.Nest Go.Proofs.Ythilbpklmjpmcaa.LiqW
set_option linter.unusedVariables false
set_option maxRecDepth 100000
theorem gb_after {w u V : World} {row : Option Nat} (hb : Below w.heap.size w u) (hg : u.grownBy V row) : w.grownBy V row :=
  ⟨hg.os.trans hb.os, hg.tape.trans hb.tape, hg.output.trans hb.output, Nat.le_trans hb.size hg.size, fun k hk hne => (hg.block k (Nat.lt_of_lt_of_le hk hb.size) hne).trans (hb.block k hk)⟩
theorem mark_any (x : R) (lo : Nat) (k : Int) (w : World) (ho : RowOwn w lo x.f1) (hn : x.f1.ls.length ≤ 100000000) (hk0 : 0 ≤ k) (hk1 : k ≤ 100000000000) :
    Calls Try.prog 50 #[.agg #[.int .i64 x.f0, .slice x.f1.A x.f1.ls.length x.f1.cap], .int .i64 k] w fun e w' => e = .returned (.int .i64 (k + x.f1.ls.length)) ∧ RowOwn w' lo ⟨x.f1.A, x.f1.cap, marks k x.f1.ls.length⟩ ∧ w.grownBy w' x.f1.blk := by
  go_enter Try.func50, Try.ntmps50
  go_wp2_with fail
  have X := Box.new (Below.refl _ w) [.int .i64 x.f0, .slice x.f1.A x.f1.ls.length x.f1.cap] 27 (g := w.heap.size) rfl
  generalize (w.alloc (.cells #[.int .i64 x.f0, .slice x.f1.A x.f1.ls.length x.f1.cap] 27)) = W1 at X ⊢
  have X_0 := X.cells 0 _ rfl
  have X_1 := X.cells 1 _ rfl
  have X_f0 := X.free 0 (by simp)
  have X_f1 := X.free 1 (by simp)
  have X_t := X.there
  refine (SInt.markS_any x.f1.A x.f1.cap lo x.f1.ls k W1 (ho.keep X.below) hn hk0 hk1).mono ?_
  rintro e w2 ⟨rfl, ho2, hg2⟩
  have HG := Lib.hid (gb_after X.below hg2)
  have HO := Lib.hid ho2
  clear hg2 ho2
  go_wp2
  go_ret
  refine ⟨rfl, ?_, HG.out⟩
  have h := HO.out
  show w2.ownsRow lo 3 1 (.slice x.f1.A (marks k x.f1.ls.length).length x.f1.cap) (marks k x.f1.ls.length).length (iv (marks k x.f1.ls.length))
  rw [marks_len]
  exact h
theorem held_any (y : Int) (A : Option Addr) (c : Nat) (k : Int) (m : Nat) (w : World) (hr : Rd w w.heap.size A (iv (marks k m))) (hn : m ≤ 100000000) (hk0 : 0 ≤ k) (hk1 : k ≤ 100000000000) :
    Calls Try.prog 52 #[.agg #[.int .i64 y, .slice A m c], .int .i64 k] w (RPost (.int .i64 (k + m)) w) := by
  have hq : decide (k + m < 0) = false := decide_eq_false (by omega)
  go_enter Try.func52, Try.ntmps52
  go_wp2_with fail
  have X := Box.new (Below.refl _ w) [.int .i64 y, .slice A m c] 27 (g := w.heap.size) rfl
  generalize (w.alloc (.cells #[.int .i64 y, .slice A m c] 27)) = W1 at X ⊢
  have X_0 := X.cells 0 _ rfl
  have X_1 := X.cells 1 _ rfl
  have X_f0 := X.free 0 (by simp)
  have X_f1 := X.free 1 (by simp)
  have X_t := X.there
  refine (SInt.heldS_any A c _ k m W1 (rd_keep hr X.below) hn hk0 hk1).mono ?_
  rintro e w2 ⟨rfl, hd⟩
  have HB := be X.below (hd.below _)
  go_wp2
  go_ret
  exact rpost rfl HB
end Go.Proofs.Ythilbpklmjpmcaa.LiqM
