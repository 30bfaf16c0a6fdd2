/- The draws of chapter 2, whole. -/
import Derived.Test.YtbbnbkdglihhhaaDraws2
import Derived.Test.YtbbnbkdglihhhaaRegn2
import Derived.Test.YtbbnbkdglihhhaaBox
import Derived.Deep.RegionWith
namespace Go.Proofs.Ytbbnbkdglihhhaa.Draws3
open Go.RowKit Go.Proofs.Ytbbnbkdglihhhaa.Mem Go.Proofs.Ytbbnbkdglihhhaa.Base Go.Proofs.Ytbbnbkdglihhhaa.Draw Go.Proofs.Ytbbnbkdglihhhaa.Brine Go.Proofs.Ytbbnbkdglihhhaa.Draws2 Go.Proofs.Ytbbnbkdglihhhaa.Regn Go.Proofs.Ytbbnbkdglihhhaa.Boxes
set_option linter.unusedVariables false
set_option maxRecDepth 100000
theorem Src.alloc {w : World} {A : Option Addr} {zs : List Int} (h : Src w A zs) (o : Obj) : Src (w.alloc o) A zs := h.below (al (Below.refl _ w))
theorem cur_at {w : World} {A : Option Addr} {zs : List Int} (h : Src w A zs) (cap : Nat) {p : Nat} (hp : p = w.heap.size) :
    Cur p zs (w.alloc (.cells #[.slice A zs.length cap, .int .i64 0, .int .u64 0] 70)) p 0 := hp ▸ cur_new h cap
/-- What lay below is as it was, when a fresh block is written. -/
theorem below_set {n : Nat} {w W : World} (h : Below n w W) {g : Nat} (hg : n ≤ g) (i : Nat) (v : Value) : Below n w (W.setCell ⟨g, i, none⟩ v) := h.setCell (p := ⟨g, i, none⟩) hg v
theorem Cur.drew' {B : Nat} {zs : List Int} {w : World} {p k : Nat} (h : Cur B zs w p k) : Cur B zs w.drew p k := ⟨h.block, h.base, h.len, h.bytes⟩
theorem cb_drew {g : Nat} {cs : List Value} {W : World} (h : Cb g cs W) : Cb g cs W.drew := h.more (Below.refl _ _).drew
theorem cb_box {g : Nat} {cs : List Value} {w W : World} (h : Cb g cs W) (hb : Below w.heap.size w W) (hg : w.heap.size ≤ g) : Box g cs w W := ⟨h.cells, h.free, hg, h.there, hb⟩
def DBrine (w : World) (e : Ending) (w' : World) : Prop := (∃ x y : Int, -1 ≤ x ∧ x ≤ 1000001 ∧ -1 ≤ y ∧ y ≤ 1000001 ∧ e = .returned (br x y)) ∧ Below w.heap.size w w'
theorem drawIsBrine (A : Option Addr) (cap : Nat) (zs : List Int) (w : World) (h : Src w A zs) :
    Calls Try.prog 78 #[.slice A zs.length cap] w (DBrine w) := by
  have R0 := Cb.new w [.int .i64 0, .int .i64 0] 25 (g := w.heap.size) rfl
  have HC := cur_at (Src.alloc h (.cells #[.int .i64 0, .int .i64 0] 25)) cap (asz _ _).symm
  go_enter Try.func78, Try.ntmps78
  go_wp2_with fail
  refine (brine_any _ zs _ _ 0 HC (by omega)).mono ?_
  rintro e w1 ⟨⟨x, y, x0, x1, y0, y1, rfl⟩, ⟨_, G⟩⟩
  have R1 := (R0.alloc _).went G (by omega)
  have HB := went_below (al (al (Below.refl _ w))) (by omega) G
  have b0 := R1.free 0 (by simp)
  have b1 := R1.free 1 (by simp)
  have a0 := R1.cells 0 _ rfl
  have a1 := R1.cells 1 _ rfl
  have s0 := R1.there
  clear G HC h R0
  unfold br
  go_wp2
  have Q := (R1.set 0 (.int .i64 x)).set 1 (.int .i64 y)
  have q0 := Q.cells 0 _ rfl
  have q1 := Q.cells 1 _ rfl
  exact bodyPost_ret (v := br x y) (by simp [br, results, Try.results78, go_sem, q0, q1]) rfl ⟨⟨x, y, x0, x1, y0, y1, rfl⟩, below_set (below_set HB (Nat.le_refl _) _ _) (Nat.le_refl _) _ _⟩
theorem drawStrengthOf (A : Option Addr) (cap : Nat) (zs : List Int) (w : World) (h : Src w A zs) :
    Calls Try.prog 27 #[.slice A zs.length cap] w (DBrine w) := by
  have R0 := Cb.new w [.int .i64 0, .int .i64 0] 25 (g := w.heap.size) rfl
  go_enter Try.func27, Try.ntmps27
  go_wp2_with fail
  refine (drawIsBrine A cap zs _ (Src.alloc h _)).mono ?_
  rintro e w1 ⟨⟨x, y, x0, x1, y0, y1, rfl⟩, G⟩
  have R1 := R0.more (G.mono (by rw [asz]; omega))
  have HB : Below w.heap.size w w1 := (al (Below.refl _ w)).trans (G.mono (by rw [asz]; omega))
  have b0 := R1.free 0 (by simp)
  have b1 := R1.free 1 (by simp)
  have a0 := R1.cells 0 _ rfl
  have a1 := R1.cells 1 _ rfl
  have s0 := R1.there
  clear G h R0
  unfold br
  go_wp2
  have Q := (R1.set 0 (.int .i64 x)).set 1 (.int .i64 y)
  have q0 := Q.cells 0 _ rfl
  have q1 := Q.cells 1 _ rfl
  exact bodyPost_ret (v := br x y) (by simp [br, results, Try.results27, go_sem, q0, q1]) rfl ⟨⟨x, y, x0, x1, y0, y1, rfl⟩, below_set (below_set HB (Nat.le_refl _) _ _) (Nat.le_refl _) _ _⟩
def DLose (w : World) (e : Ending) (w' : World) : Prop := (∃ x y n d : Int, -1 ≤ x ∧ x ≤ 1000001 ∧ -1 ≤ y ∧ y ≤ 1000001 ∧ 0 ≤ n ∧ n ≤ 1002 ∧ 0 ≤ d ∧ d ≤ 1001 ∧ e = .returned (.tuple #[br x y, .int .i64 n, .int .i64 d])) ∧ Below w.heap.size w w'
theorem drawWaterToLose (A : Option Addr) (cap : Nat) (zs : List Int) (w : World) (h : Src w A zs) :
    Calls Try.prog 17 #[.slice A zs.length cap] w (DLose w) := by
  have R0 := Cb.new w [.int .i64 0, .int .i64 0] 25 (g := w.heap.size) rfl
  have HC := cur_at (Src.alloc h (.cells #[.int .i64 0, .int .i64 0] 25)) cap (asz _ _).symm
  go_enter Try.func17, Try.ntmps17
  go_wp2_with fail
  refine (brine_any _ zs _ _ 0 HC (by omega)).mono ?_
  rintro e w1 ⟨⟨x, y, x0, x1, y0, y1, rfl⟩, ⟨⟨k1, hk1, C1⟩, G⟩⟩
  have R1 := (R0.alloc _).went G (by omega)
  have B1 := went_below (al (al (Below.refl _ w))) (by omega) G
  have D1 := Cb.new w1 [.int .i64 x, .int .i64 y] 25 (g := w1.heap.size) rfl
  have hl := C1.lt
  have hr := R1.there
  clear G HC h R0
  unfold br
  go_wp2_with fail
  refine (rate2_any _ zs _ _ k1 (C1.alloc _) (by omega)).mono ?_
  rintro e w2 ⟨⟨n, d, n0, n1, d0, d1, rfl⟩, ⟨⟨k2, hk2, C2⟩, G⟩⟩
  have B2 := went_below (al B1) (by omega) G
  have D2 := D1.went G (by omega)
  have R2 := (R1.alloc _).went G (by omega)
  have e0 := D2.cells 0 _ rfl
  have e1 := D2.cells 1 _ rfl
  have t0 := D2.there
  have b0 := R2.free 0 (by simp)
  have b1 := R2.free 1 (by simp)
  have a0 := R2.cells 0 _ rfl
  have a1 := R2.cells 1 _ rfl
  have s0 := R2.there
  clear G C2 C1 R1 D1 B1
  go_wp2
  have Q := (R2.set 0 (.int .i64 x)).set 1 (.int .i64 y)
  have q0 := Q.cells 0 _ rfl
  have q1 := Q.cells 1 _ rfl
  exact bodyPost_ret (v := .tuple #[br x y, .int .i64 n, .int .i64 d]) (by simp [br, results, Try.results17, go_sem, q0, q1]) rfl ⟨⟨x, y, n, d, x0, x1, y0, y1, n0, n1, d0, d1, rfl⟩, below_set (below_set B2 (Nat.le_refl _) _ _) (Nat.le_refl _) _ _⟩
theorem drawWaterToAdd (A : Option Addr) (cap : Nat) (zs : List Int) (w : World) (h : Src w A zs) :
    Calls Try.prog 21 #[.slice A zs.length cap] w (DLose w) := by
  have R0 := Cb.new w [.int .i64 0, .int .i64 0] 25 (g := w.heap.size) rfl
  go_enter Try.func21, Try.ntmps21
  go_wp2_with fail
  refine (drawWaterToLose A cap zs _ (Src.alloc h _)).mono ?_
  rintro e w1 ⟨⟨x, y, n, d, x0, x1, y0, y1, n0, n1, d0, d1, rfl⟩, G⟩
  have R1 := R0.more (G.mono (by rw [asz]; omega))
  have HB : Below w.heap.size w w1 := (al (Below.refl _ w)).trans (G.mono (by rw [asz]; omega))
  have b0 := R1.free 0 (by simp)
  have b1 := R1.free 1 (by simp)
  have a0 := R1.cells 0 _ rfl
  have a1 := R1.cells 1 _ rfl
  have s0 := R1.there
  clear G h R0
  unfold br
  go_wp2
  have Q := (R1.set 0 (.int .i64 x)).set 1 (.int .i64 y)
  have q0 := Q.cells 0 _ rfl
  have q1 := Q.cells 1 _ rfl
  exact bodyPost_ret (v := .tuple #[br x y, .int .i64 n, .int .i64 d]) (by simp [br, results, Try.results21, go_sem, q0, q1]) rfl ⟨⟨x, y, n, d, x0, x1, y0, y1, n0, n1, d0, d1, rfl⟩, below_set (below_set HB (Nat.le_refl _) _ _) (Nat.le_refl _) _ _⟩
def DTwo (w : World) (e : Ending) (w' : World) : Prop := (∃ x y u v : Int, -1 ≤ x ∧ x ≤ 1000001 ∧ -1 ≤ y ∧ y ≤ 1000001 ∧ -2 ≤ u ∧ u ≤ 2000002 ∧ -2 ≤ v ∧ v ≤ 2000002 ∧ e = .returned (.tuple #[br x y, br u v])) ∧ Below w.heap.size w w'
theorem drawIsStronger (A : Option Addr) (cap : Nat) (zs : List Int) (w : World) (h : Src w A zs) :
    Calls Try.prog 24 #[.slice A zs.length cap] w (DTwo w) := by
  have R0 := (Cb.new w [.int .i64 0, .int .i64 0] 25 (g := w.heap.size) rfl).alloc (.cells #[.int .i64 0, .int .i64 0] 25)
  have S0 := Cb.new (w.alloc (.cells #[.int .i64 0, .int .i64 0] 25)) [.int .i64 0, .int .i64 0] 25 (g := w.heap.size + 1) (asz _ _).symm
  have HC := cur_at (Src.alloc (Src.alloc h (.cells #[.int .i64 0, .int .i64 0] 25)) (.cells #[.int .i64 0, .int .i64 0] 25)) cap (p := w.heap.size + 1 + 1) (by rw [asz, asz])
  go_enter Try.func24, Try.ntmps24
  go_wp2_with fail
  refine (brine_any _ zs _ _ 0 HC (by omega)).mono ?_
  rintro e w1 ⟨⟨x, y, x0, x1, y0, y1, rfl⟩, ⟨⟨k1, hk1, C1⟩, G⟩⟩
  have R1 := (R0.alloc _).went G (by omega)
  have S1 := (S0.alloc _).went G (by omega)
  have B1 := went_below (al (al (al (Below.refl _ w)))) (by omega) G
  have D1 := Cb.new w1 [.int .i64 x, .int .i64 y] 25 (g := w1.heap.size) rfl
  have hl := C1.lt
  have hr := R1.there
  clear G HC h R0 S0
  unfold br
  go_wp2_with fail
  refine (one_any _ zs _ _ k1 6 (C1.alloc _) (by omega) (by omega) (by omega)).mono ?_
  rintro e w2 ⟨⟨q, rfl⟩, ⟨⟨k2, hk2, C2⟩, G⟩⟩
  have B2 := went_below (al B1) (by omega) G
  have D2 := D1.went G (by omega)
  have R2 := (R1.alloc _).went G (by omega)
  have S2 := (S1.alloc _).went G (by omega)
  have e0 := D2.cells 0 _ rfl
  have e1 := D2.cells 1 _ rfl
  have t0 := D2.there
  clear G C1 R1 D1 S1 B1
  cases q
  · go_wp2_with fail
    go_region_with (go_at_call 64; (with_reducible refine (brine_any _ zs _ _ k2 (Cur.drew' C2) (by omega)).mono ?_); rintro e w3 ⟨⟨u, v, u0, u1, v0, v1, rfl⟩, ⟨_, G⟩⟩; have R3 := (cb_drew R2).went G (by omega); have S3 := (cb_drew S2).went G (by omega); have D3 := (cb_drew D2).went G (by omega); have B3 := went_below B2.drew (by omega) G; have c0 := D3.cells 0 _ rfl; have c1 := D3.cells 1 _ rfl; have b0 := R3.free 0 (by simp); have b1 := R3.free 1 (by simp); have a0 := R3.cells 0 _ rfl; have a1 := R3.cells 1 _ rfl; have s0 := R3.there; have b2 := S3.free 0 (by simp); have b3 := S3.free 1 (by simp); have a2 := S3.cells 0 _ rfl; have a3 := S3.cells 1 _ rfl; have s2 := S3.there; clear G D3; unfold br; go_wp2_with fail)
    all_goals
      go_wp2
      have Q := ((((R3.set 0 (.int .i64 x)).set 1 (.int .i64 y)).far (k := w.heap.size + 1) (by omega) 0 (.int .i64 u))).far (k := w.heap.size + 1) (by omega) 1 (.int .i64 v)
      have T := (((S3.far (k := w.heap.size) (by omega) 0 (.int .i64 x)).far (k := w.heap.size) (by omega) 1 (.int .i64 y)).set 0 (.int .i64 u)).set 1 (.int .i64 v)
      have q0 := Q.cells 0 _ rfl
      have q1 := Q.cells 1 _ rfl
      have t0 := T.cells 0 _ rfl
      have t1 := T.cells 1 _ rfl
      exact bodyPost_ret (v := .tuple #[br x y, br u v]) (by simp [br, results, Try.results24, go_sem, q0, q1, t0, t1]) rfl ⟨⟨x, y, u, v, x0, x1, y0, y1, by omega, by omega, by omega, by omega, rfl⟩, below_set (below_set (below_set (below_set B3 (Nat.le_refl _) _ _) (Nat.le_refl _) _ _) (by omega) _ _) (by omega) _ _⟩
  · have m0 : IntKind.i64.wrap (2 * x) = 2 * x := IntWalk.i64_in _ (by omega)
    have m1 : IntKind.i64.wrap (2 * y) = 2 * y := IntWalk.i64_in _ (by omega)
    have R := cb_box R2 B2 (Nat.le_refl _)
    have V := cb_box S2 B2 (by omega)
    have D := cb_box D2 B2 (by omega)
    clear R2 S2 D2 C2 e0 e1 t0
    go_wp2_with fail
    have R_0 := R.cells 0 _ rfl
    have R_1 := R.cells 1 _ rfl
    have R_f0 := R.free 0 (by simp)
    have R_f1 := R.free 1 (by simp)
    have R_t := R.there
    have V_0 := V.cells 0 _ rfl
    have V_1 := V.cells 1 _ rfl
    have V_f0 := V.free 0 (by simp)
    have V_f1 := V.free 1 (by simp)
    have V_t := V.there
    have D_0 := D.cells 0 _ rfl
    have D_1 := D.cells 1 _ rfl
    have D_f0 := D.free 0 (by simp)
    have D_f1 := D.free 1 (by simp)
    have D_t := D.there
    refine wp_region_seq (fun L w' => BoxL (L 8) (w.heap.size) [.int .i64 0, .int .i64 0] [.int .i64 x, .int .i64 y] w w' ∧ BoxL (L 9) (w.heap.size + 1) [.int .i64 0, .int .i64 0] [.int .i64 (2 * x), .int .i64 (2 * y)] w w' ∧ Box (w1.heap.size) [.int .i64 x, .int .i64 y] w w') (by kernel_rfl) (by kernel_rfl) ⟨BoxL.start _ R.drew, BoxL.start _ V.drew, D.drew⟩ ?_
    clear R_0 R_1 R_f0 R_f1 R_t
    clear V_0 V_1 V_f0 V_f1 V_t
    clear D_0 D_1 D_f0 D_f1 D_t
    iterate 10 (
      apply SeqH.op
      · intro L uw K hN hS hK
        obtain ⟨qR, qV, qD⟩ := hS
        have qD_0 := qD.cells 0 _ rfl
        have qD_1 := qD.cells 1 _ rfl
        clear hN
        first
          | (go_simp; exact hK.out _ ⟨(qR).skip (by decide), (qV).skip (by decide), qD⟩)
          | (rcases qR.two with hh | hh <;> (have h0 := hh.cells 0 _ rfl; have k0 := hh.free 0 (by simp); have h1 := hh.cells 1 _ rfl; have k1 := hh.free 1 (by simp); go_simp; exact hK.out _ ⟨BoxL.put ((hh.set 0 (.int .i64 x)).set 1 (.int .i64 y)), (((qV.far hh.base (by omega) 0 (.int .i64 x)).far hh.base (by omega) 1 (.int .i64 y))).skip (by decide), ((qD.far hh.base (by omega) 0 (.int .i64 x)).far hh.base (by omega) 1 (.int .i64 y))⟩))
          | (rcases qV.two with hh | hh <;> (have h0 := hh.cells 0 _ rfl; have k0 := hh.free 0 (by simp); have h1 := hh.cells 1 _ rfl; have k1 := hh.free 1 (by simp); go_simp; exact hK.out _ ⟨(((qR.far hh.base (by omega) 0 (.int .i64 (2 * x))).far hh.base (by omega) 1 (.int .i64 (2 * y)))).skip (by decide), BoxL.put ((hh.set 0 (.int .i64 (2 * x))).set 1 (.int .i64 (2 * y))), ((qD.far hh.base (by omega) 0 (.int .i64 (2 * x))).far hh.base (by omega) 1 (.int .i64 (2 * y)))⟩))
      try simp only [Act.put, List.setIfInBounds_toArray, List.set_cons_zero, List.set_cons_succ])
    refine SeqH.done rfl ?_
    intro L v1 hL hS
    clear R V D
    obtain ⟨R, V, D⟩ := hS
    replace R := R.done (hL 8 (by decide))
    replace V := V.done (hL 9 (by decide))
    clear hL
    have R_0 := R.cells 0 _ rfl
    have R_1 := R.cells 1 _ rfl
    have R_f0 := R.free 0 (by simp)
    have R_f1 := R.free 1 (by simp)
    have R_t := R.there
    have V_0 := V.cells 0 _ rfl
    have V_1 := V.cells 1 _ rfl
    have V_f0 := V.free 0 (by simp)
    have V_f1 := V.free 1 (by simp)
    have V_t := V.there
    have D_0 := D.cells 0 _ rfl
    have D_1 := D.cells 1 _ rfl
    have D_f0 := D.free 0 (by simp)
    have D_f1 := D.free 1 (by simp)
    have D_t := D.there
    go_wp2
    exact bodyPost_ret (v := .tuple #[br x y, br (2 * x) (2 * y)]) (by simp [br, results, Try.results24, go_sem, R_0, R_1, V_0, V_1]) rfl ⟨⟨x, y, 2 * x, 2 * y, x0, x1, y0, y1, by omega, by omega, by omega, by omega, rfl⟩, R.below⟩
end Go.Proofs.Ytbbnbkdglihhhaa.Draws3
