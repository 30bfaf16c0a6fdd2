/- The draws of FnBrines. -/
import Derived.Test.YtpblkkfafmcnpaaDoorDraws3
import Derived.Test.YtpblkkfafmcnpaaDoorDr
import Derived.Test.YtpblkkfafmcnpaaDoorMBrine
import Derived.Test.YtpblkkfafmcnpaaDoorText
import Derived.Deep.RegionWith
namespace Go.Proofs.YtpblkkfafmcnpaaDoor.DBrine
open Go.RowKit Go.Proofs.YtpblkkfafmcnpaaDoor.Mem Go.Proofs.YtpblkkfafmcnpaaDoor.Base Go.Proofs.YtpblkkfafmcnpaaDoor.Draw Go.Proofs.YtpblkkfafmcnpaaDoor.Boxes Go.Proofs.YtpblkkfafmcnpaaDoor.Keep Go.Proofs.YtpblkkfafmcnpaaDoor.Dr Go.Proofs.YtpblkkfafmcnpaaDoor.Brine
set_option linter.unusedVariables false
set_option maxRecDepth 100000
theorem tdiv_bd (n : Int) (x : Nat) : -(n.natAbs : Int) ≤ n.tdiv x ∧ n.tdiv x ≤ n.natAbs := by
  have h1 : (n.tdiv x).natAbs = n.natAbs / x := by rw [Int.natAbs_tdiv]; simp; rfl
  have h2 := Nat.div_le_self n.natAbs x
  omega
theorem brine_d (B : Nat) (zs : List Int) (p K : Nat) (w : World) (h : Cu B zs p K w) (hk : K ≤ 700000000) :
    Calls Tryd.prog 30 #[.pointer (some ⟨p, 0, none⟩)] w fun e w' => ∃ x y : Int, (-1 ≤ x ∧ x ≤ 1000001 ∧ -1 ≤ y ∧ y ≤ 1000001) ∧ e = .returned (.agg #[.int .i64 x, .int .i64 y]) ∧ Cu B zs p (K + 8) w' ∧ w.grownBy w' (some p) := by
  obtain ⟨k, hk1, hc⟩ := h
  refine (Draws2.brine_any B zs w p k hc (by omega)).mono ?_
  rintro e w' ⟨⟨x, y, x0, x1, y0, y1, rfl⟩, ⟨⟨k', hk', hc'⟩, G⟩⟩
  exact ⟨x, y, ⟨x0, x1, y0, y1⟩, rfl, ⟨k', by omega, hc'⟩, G⟩
theorem below_of {w W V : World} {row : Option Nat} (h : Below w.heap.size w W) (hg : W.grownBy V row) (hr : ∀ k, row = some k → w.heap.size ≤ k) : Below w.heap.size w V := bl_grown h hg hr
theorem below_set {w W : World} (h : Below w.heap.size w W) {g : Nat} (hg : w.heap.size ≤ g) (i : Nat) (v : Value) : Below w.heap.size w (W.setCell ⟨g, i, none⟩ v) := h.setCell (p := ⟨g, i, none⟩) hg v
theorem cu_at {w : World} {A : Option Addr} {zs : List Int} (h : Src w A zs) (cap : Nat) {p : Nat} (hp : p = w.heap.size) : Cu w.heap.size zs p 0 (w.alloc (.cells #[.slice A zs.length cap, .int .i64 0, .int .u64 0] 56)) := ⟨0, Nat.le_refl _, hp ▸ cur_new h cap⟩
def DB (w : World) (e : Ending) (w' : World) : Prop := (∃ x y : Int, (-1 ≤ x ∧ x ≤ 1000001 ∧ -1 ≤ y ∧ y ≤ 1000001) ∧ e = .returned (.agg #[.int .i64 x, .int .i64 y])) ∧ Below w.heap.size w w'
theorem drawText (A : Option Addr) (cap : Nat) (zs : List Int) (w : World) (h : Src w A zs) : Calls Tryd.prog 5 #[.slice A zs.length cap] w (DB w) := by
  have R0 := Cb.new w [.int .i64 0, .int .i64 0] 25 (g := w.heap.size) rfl
  go_enter Tryd.func5, Tryd.ntmps5
  go_wp2_with fail
  refine (Draws3.drawIsBrine A cap zs _ (Draws3.Src.alloc h _)).mono ?_
  rintro e w1 ⟨⟨x, y, x0, x1, y0, y1, rfl⟩, G⟩
  have R1 := R0.more (G.mono (by rw [size_alloc']; omega))
  have HB : Below w.heap.size w w1 := (al (Below.refl _ w)).trans (G.mono (by rw [size_alloc']; omega))
  have b0 := R1.free 0 (by simp)
  have b1 := R1.free 1 (by simp)
  have a0 := R1.cells 0 _ rfl
  have a1 := R1.cells 1 _ rfl
  have s0 := R1.there
  clear G h R0
  unfold br
  go_wp2
  have Q := (R1.set 0 (.int .i64 x)).set 1 (.int .i64 y)
  have q0 := Q.cells 0 _ rfl
  have q1 := Q.cells 1 _ rfl
  exact bodyPost_ret (v := .agg #[.int .i64 x, .int .i64 y]) (by simp [results, Tryd.results5, go_sem, q0, q1]) rfl ⟨⟨x, y, ⟨x0, x1, y0, y1⟩, rfl⟩, below_set (below_set HB (Nat.le_refl _) _ _) (Nat.le_refl _) _ _⟩
def DBI (w : World) (e : Ending) (w' : World) : Prop := (∃ x y n : Int, (-1 ≤ x ∧ x ≤ 1000001 ∧ -1 ≤ y ∧ y ≤ 1000001) ∧ e = .returned (.tuple #[.agg #[.int .i64 x, .int .i64 y], .int .i64 n])) ∧ Below w.heap.size w w'
set_option maxHeartbeats 800000 in
theorem drawSplit (A : Option Addr) (cap : Nat) (zs : List Int) (w : World) (h : Src w A zs) : Calls Tryd.prog 16 #[.slice A zs.length cap] w (DBI w) := by
  have R0 := Cb.new w [.int .i64 0, .int .i64 0] 25 (g := w.heap.size) rfl
  have C0 := cu_at (Draws3.Src.alloc h (.cells #[.int .i64 0, .int .i64 0] 25)) cap (p := w.heap.size + 1) (by rw [size_alloc'])
  rw [size_alloc'] at C0
  have HC := Lib.hid C0; clear C0
  go_enter Tryd.func16, Tryd.ntmps16
  go_wp2_with fail
  refine (brine_d (w.heap.size + 1) zs (w.heap.size + 1) 0 _ HC.out (by omega)).mono ?_
  rintro e w1 ⟨x, y, hxy, rfl, C1, G⟩
  have R1 := (R0.alloc _).went G (by omega)
  have HB1 := below_of (al (al (Below.refl _ w))) G (fun k hk => by injection hk with hk; omega)
  have z1 := C1.lt
  clear G HC R0
  go_wp2_with fail
  refine (among_d (w.heap.size + 1) zs (w.heap.size + 1) _ (w1.alloc (.cells #[.int .i64 1, .int .i64 2, .int .i64 3, .int .i64 7, .int .i64 20, .int .i64 21, .int .i64 0] 3)) w1.heap.size 7 [1, 2, 3, 7, 20, 21, 0] (C1.alloc (.cells #[.int .i64 1, .int .i64 2, .int .i64 3, .int .i64 7, .int .i64 20, .int .i64 21, .int .i64 0] 3)) (by omega) (lst_at w1 _ 3 rfl) (by omega) (by simp) (by simp)).mono ?_
  rintro e w2 ⟨n, hn, rfl, C2, G⟩
  have R2 := (R1.alloc (.cells #[.int .i64 1, .int .i64 2, .int .i64 3, .int .i64 7, .int .i64 20, .int .i64 21, .int .i64 0] 3)).went G (by omega)
  have HB2 := below_of (al HB1 (o := (.cells #[.int .i64 1, .int .i64 2, .int .i64 3, .int .i64 7, .int .i64 20, .int .i64 21, .int .i64 0] 3))) G (fun k hk => by injection hk with hk; omega)
  have b0 := R2.free 0 (by simp)
  have b1 := R2.free 1 (by simp)
  have a0 := R2.cells 0 _ rfl
  have a1 := R2.cells 1 _ rfl
  have s0 := R2.there
  clear G R1 C1 C2 hn
  go_wp2
  have Q := (R2.set 0 (.int .i64 x)).set 1 (.int .i64 y)
  have q0 := Q.cells 0 _ rfl
  have q1 := Q.cells 1 _ rfl
  exact bodyPost_ret (v := .tuple #[.agg #[.int .i64 x, .int .i64 y], .int .i64 n]) (by simp [results, Tryd.results16, go_sem, q0, q1]) rfl ⟨⟨x, y, n, hxy, rfl⟩, below_set (below_set HB2 (Nat.le_refl _) _ _) (Nat.le_refl _) _ _⟩
theorem mass_any (a b : Int) (ha : -1 ≤ a) (ha1 : a ≤ 1000001) (hb : -1 ≤ b) (hb1 : b ≤ 1000001) (w : World) : Calls Tryd.prog 35 #[.agg #[.int .i64 a, .int .i64 b]] w (RPost (.int .i64 (a + b)) w) := by
  have y1 : IntKind.i64.wrap (a + b) = a + b := IntWalk.i64_in _ (by omega)
  go_enter Tryd.func35, Tryd.ntmps35
  go_wp2
  go_ret
  exact rpost rfl (al (Below.refl _ _))
set_option maxHeartbeats 1600000 in
theorem drawTake (A : Option Addr) (cap : Nat) (zs : List Int) (w : World) (h : Src w A zs) : Calls Tryd.prog 12 #[.slice A zs.length cap] w (DBI w) := by
  have R0 := Cb.new w [.int .i64 0, .int .i64 0] 25 (g := w.heap.size) rfl
  have C0 := cu_at (Draws3.Src.alloc h (.cells #[.int .i64 0, .int .i64 0] 25)) cap (p := w.heap.size + 1) (by rw [size_alloc'])
  rw [size_alloc'] at C0
  have HC := Lib.hid C0; clear C0
  go_enter Tryd.func12, Tryd.ntmps12
  go_wp2_with fail
  refine (brine_d (w.heap.size + 1) zs (w.heap.size + 1) 0 _ HC.out (by omega)).mono ?_
  rintro e w1 ⟨x, y, hxy, rfl, C1, G⟩
  have R1 := (R0.alloc _).went G (by omega)
  have HB1 := below_of (al (al (Below.refl _ w))) G (fun k hk => by injection hk with hk; omega)
  have z1 := C1.lt
  clear G HC R0
  have D1 := Cb.new w1 [.int .i64 x, .int .i64 y] 25 (g := w1.heap.size) rfl
  have hMS := Lib.hid (fun u => mass_any x y (by omega) (by omega) (by omega) (by omega) u)
  go_wp2_with fail
  refine (hMS.out _).mono ?_
  rintro e w2 ⟨rfl, hv⟩
  have R2 := (R1.alloc (.cells #[.int .i64 x, .int .i64 y] 25)).more hv
  have D2 := D1.more hv
  have HB2 := be (al HB1 (o := (.cells #[.int .i64 x, .int .i64 y] 25))) hv
  have C2 := (C1.alloc (.cells #[.int .i64 x, .int .i64 y] 25)).more hv
  have z2 := C2.lt
  have s2 := hv.size
  rw [size_alloc'] at s2
  clear hv R1 D1 HB1 C1
  obtain ⟨n, hn⟩ : ∃ n, x + y = n := ⟨_, rfl⟩
  rw [hn]
  have hnb : -2 ≤ n ∧ n ≤ 2000002 := by omega
  clear hn
  have b2 := tdiv_bd n 2; have b3 := tdiv_bd n 3
  obtain ⟨n2, h2⟩ : ∃ q, n.tdiv 2 = q := ⟨_, rfl⟩
  obtain ⟨n3, h3⟩ : ∃ q, n.tdiv 3 = q := ⟨_, rfl⟩
  have e2 : IntKind.i64.wrap (n.tdiv 2) = n2 := by rw [← h2]; exact IntWalk.i64_in _ (by have : ((2 : Nat) : Int) = 2 := rfl; rw [this] at b2; omega)
  have e3 : IntKind.i64.wrap (n.tdiv 3) = n3 := by rw [← h3]; exact IntWalk.i64_in _ (by have : ((3 : Nat) : Int) = 3 := rfl; rw [this] at b3; omega)
  have e4 : IntKind.i64.wrap (n - 1) = n - 1 := IntWalk.i64_in _ (by omega)
  have e5 : IntKind.i64.wrap (n + 1) = n + 1 := IntWalk.i64_in _ (by omega)
  clear h2 h3 b2 b3
  have c0 := D2.cells 0 _ rfl
  have c1 := D2.cells 1 _ rfl
  have t0 := D2.there
  have C2d := (C2.alloc (.cells #[.int .i64 0, .int .i64 1, .int .i64 n, .int .i64 n2, .int .i64 n3, .int .i64 (n - 1), .int .i64 (n + 1), .int .i64 (-1)] 3)).more (Below.refl _ (w2.alloc (.cells #[.int .i64 0, .int .i64 1, .int .i64 n, .int .i64 n2, .int .i64 n3, .int .i64 (n - 1), .int .i64 (n + 1), .int .i64 (-1)] 3))).drew
  have D2d := (D2.alloc (.cells #[.int .i64 0, .int .i64 1, .int .i64 n, .int .i64 n2, .int .i64 n3, .int .i64 (n - 1), .int .i64 (n + 1), .int .i64 (-1)] 3)).more (Below.refl _ (w2.alloc (.cells #[.int .i64 0, .int .i64 1, .int .i64 n, .int .i64 n2, .int .i64 n3, .int .i64 (n - 1), .int .i64 (n + 1), .int .i64 (-1)] 3))).drew
  have R2d := (R2.alloc (.cells #[.int .i64 0, .int .i64 1, .int .i64 n, .int .i64 n2, .int .i64 n3, .int .i64 (n - 1), .int .i64 (n + 1), .int .i64 (-1)] 3)).more (Below.refl _ (w2.alloc (.cells #[.int .i64 0, .int .i64 1, .int .i64 n, .int .i64 n2, .int .i64 n3, .int .i64 (n - 1), .int .i64 (n + 1), .int .i64 (-1)] 3))).drew
  have HB2d := be (al HB2 (o := (.cells #[.int .i64 0, .int .i64 1, .int .i64 n, .int .i64 n2, .int .i64 n3, .int .i64 (n - 1), .int .i64 (n + 1), .int .i64 (-1)] 3))) (Below.refl _ (w2.alloc (.cells #[.int .i64 0, .int .i64 1, .int .i64 n, .int .i64 n2, .int .i64 n3, .int .i64 (n - 1), .int .i64 (n + 1), .int .i64 (-1)] 3))).drew
  have LT : Lst (w2.alloc (.cells #[.int .i64 0, .int .i64 1, .int .i64 n, .int .i64 n2, .int .i64 n3, .int .i64 (n - 1), .int .i64 (n + 1), .int .i64 (-1)] 3)).drew w2.heap.size (([0, 1, n, n2, n3, n - 1, n + 1, -1] : List Int).map (Value.int .i64)) := lst_at w2 _ 3 rfl
  go_wp2_with fail
  go_region_with (go_at_call 36; (refine (among_d (w.heap.size + 1) zs (w.heap.size + 1) _ (w2.alloc (.cells #[.int .i64 0, .int .i64 1, .int .i64 n, .int .i64 n2, .int .i64 n3, .int .i64 (n - 1), .int .i64 (n + 1), .int .i64 (-1)] 3)).drew w2.heap.size 8 [0, 1, n, n2, n3, n - 1, n + 1, -1] C2d (by omega) LT (by omega) (by simp) (by simp)).mono ?_); rintro e w3 ⟨q, hq, rfl, C3, G⟩; have D3 := D2d.went G (by omega); have R3 := R2d.went G (by omega); have B3 := below_of HB2d G (fun k hk => by injection hk with hk; omega); have c30 := D3.cells 0 _ rfl; have c31 := D3.cells 1 _ rfl; have b0 := R3.free 0 (by simp); have b1 := R3.free 1 (by simp); have a0 := R3.cells 0 _ rfl; have a1 := R3.cells 1 _ rfl; have s0 := R3.there; clear G D3 hq; go_wp2_with fail)
  all_goals
    go_wp2
    have Q := (R3.set 0 (.int .i64 x)).set 1 (.int .i64 y)
    have q0 := Q.cells 0 _ rfl
    have q1 := Q.cells 1 _ rfl
    exact bodyPost_ret (v := .tuple #[.agg #[.int .i64 x, .int .i64 y], .int .i64 q]) (by simp [results, Tryd.results12, go_sem, q0, q1]) rfl ⟨⟨x, y, q, hxy, rfl⟩, below_set (below_set B3 (Nat.le_refl _) _ _) (Nat.le_refl _) _ _⟩
end Go.Proofs.YtpblkkfafmcnpaaDoor.DBrine
