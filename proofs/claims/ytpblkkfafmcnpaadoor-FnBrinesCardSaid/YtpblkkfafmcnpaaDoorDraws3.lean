/- The draws of chapter 2, whole. -/
import Derived.Test.YtpblkkfafmcnpaaDoorDraws2
import Derived.Test.YtpblkkfafmcnpaaDoorRegn2
import Derived.Test.YtpblkkfafmcnpaaDoorBox
import Derived.Deep.RegionWith
namespace Go.Proofs.YtpblkkfafmcnpaaDoor.Draws3
open Go.RowKit Go.Proofs.YtpblkkfafmcnpaaDoor.Mem Go.Proofs.YtpblkkfafmcnpaaDoor.Base Go.Proofs.YtpblkkfafmcnpaaDoor.Draw Go.Proofs.YtpblkkfafmcnpaaDoor.Brine Go.Proofs.YtpblkkfafmcnpaaDoor.Draws2 Go.Proofs.YtpblkkfafmcnpaaDoor.Regn Go.Proofs.YtpblkkfafmcnpaaDoor.Boxes
set_option linter.unusedVariables false
set_option maxRecDepth 100000
theorem Src.alloc {w : World} {A : Option Addr} {zs : List Int} (h : Src w A zs) (o : Obj) : Src (w.alloc o) A zs := h.below (al (Below.refl _ w))
theorem cur_at {w : World} {A : Option Addr} {zs : List Int} (h : Src w A zs) (cap : Nat) {p : Nat} (hp : p = w.heap.size) :
    Cur p zs (w.alloc (.cells #[.slice A zs.length cap, .int .i64 0, .int .u64 0] 56)) p 0 := hp ▸ cur_new h cap
/-- What lay below is as it was, when a fresh block is written. -/
theorem below_set {n : Nat} {w W : World} (h : Below n w W) {g : Nat} (hg : n ≤ g) (i : Nat) (v : Value) : Below n w (W.setCell ⟨g, i, none⟩ v) := h.setCell (p := ⟨g, i, none⟩) hg v
theorem Cur.drew' {B : Nat} {zs : List Int} {w : World} {p k : Nat} (h : Cur B zs w p k) : Cur B zs w.drew p k := ⟨h.block, h.base, h.len, h.bytes⟩
theorem cb_drew {g : Nat} {cs : List Value} {W : World} (h : Cb g cs W) : Cb g cs W.drew := h.more (Below.refl _ _).drew
theorem cb_box {g : Nat} {cs : List Value} {w W : World} (h : Cb g cs W) (hb : Below w.heap.size w W) (hg : w.heap.size ≤ g) : Box g cs w W := ⟨h.cells, h.free, hg, h.there, hb⟩
def DBrine (w : World) (e : Ending) (w' : World) : Prop := (∃ x y : Int, -1 ≤ x ∧ x ≤ 1000001 ∧ -1 ≤ y ∧ y ≤ 1000001 ∧ e = .returned (br x y)) ∧ Below w.heap.size w w'
theorem drawIsBrine (A : Option Addr) (cap : Nat) (zs : List Int) (w : World) (h : Src w A zs) :
    Calls Tryd.prog 22 #[.slice A zs.length cap] w (DBrine w) := by
  have R0 := Cb.new w [.int .i64 0, .int .i64 0] 25 (g := w.heap.size) rfl
  have HC := cur_at (Src.alloc h (.cells #[.int .i64 0, .int .i64 0] 25)) cap (asz _ _).symm
  go_enter Tryd.func22, Tryd.ntmps22
  go_wp2_with fail
  refine (brine_any _ zs _ _ 0 HC (by omega)).mono ?_
  rintro e w1 ⟨⟨x, y, x0, x1, y0, y1, rfl⟩, ⟨_, G⟩⟩
  have R1 := (R0.alloc _).went G (by omega)
  have HB := went_below (al (al (Below.refl _ w))) (by omega) G
  have b0 := R1.free 0 (by simp)
  have b1 := R1.free 1 (by simp)
  have a0 := R1.cells 0 _ rfl
  have a1 := R1.cells 1 _ rfl
  have s0 := R1.there
  clear G HC h R0
  unfold br
  go_wp2
  have Q := (R1.set 0 (.int .i64 x)).set 1 (.int .i64 y)
  have q0 := Q.cells 0 _ rfl
  have q1 := Q.cells 1 _ rfl
  exact bodyPost_ret (v := br x y) (by simp [br, results, Tryd.results22, go_sem, q0, q1]) rfl ⟨⟨x, y, x0, x1, y0, y1, rfl⟩, below_set (below_set HB (Nat.le_refl _) _ _) (Nat.le_refl _) _ _⟩
end Go.Proofs.YtpblkkfafmcnpaaDoor.Draws3
