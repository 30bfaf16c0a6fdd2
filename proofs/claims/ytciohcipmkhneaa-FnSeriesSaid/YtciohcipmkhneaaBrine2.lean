/- The model's functions on brines that ask for memory. -/
import Derived.Test.YtciohcipmkhneaaBrine
import Derived.Deep.RegionHeld3
namespace Go.Proofs.Ytciohcipmkhneaa.Brine2
open Go.RowKit Go.Proofs.Ytciohcipmkhneaa.Mem Go.Proofs.Ytciohcipmkhneaa.Base Go.Proofs.Ytciohcipmkhneaa.Brine
set_option linter.unusedVariables false
/-- A box of two cells in a world that gets new memory alone. -/
theorem held2 {g : Nat} {x y : Value} {W V V1 : World} (hg : g < W.heap.size) (h : V.cell? ⟨g, 0, none⟩ = some x ∧ V.cell? ⟨g, 1, none⟩ = some y ∧ Below W.heap.size W V) (hb : Below V.heap.size V V1) :
    V1.cell? ⟨g, 0, none⟩ = some x ∧ V1.cell? ⟨g, 1, none⟩ = some y ∧ Below W.heap.size W V1 :=
  have hs : g < V.heap.size := Nat.lt_of_lt_of_le hg h.2.2.size
  ⟨by rw [(bcell hb).1 g 0 hs]; exact h.1, by rw [(bcell hb).1 g 1 hs]; exact h.2.1, be h.2.2 hb⟩
theorem drew2 {g : Nat} {x y : Value} {W V : World} (h : V.cell? ⟨g, 0, none⟩ = some x ∧ V.cell? ⟨g, 1, none⟩ = some y ∧ Below W.heap.size W V) :
    V.drew.cell? ⟨g, 0, none⟩ = some x ∧ V.drew.cell? ⟨g, 1, none⟩ = some y ∧ Below W.heap.size W V.drew :=
  ⟨h.1, h.2.1, Below.drewN' h.2.2 1⟩
theorem start2 {g : Nat} {x y : Value} {W : World} (h : W.cell? ⟨g, 0, none⟩ = some x) (k : W.cell? ⟨g, 1, none⟩ = some y) : W.cell? ⟨g, 0, none⟩ = some x ∧ W.cell? ⟨g, 1, none⟩ = some y ∧ Below W.heap.size W W := ⟨h, k, Below.refl _ _⟩
/-- What is held of a box of two cells that one may write. -/
def Box2 (g : Nat) (x y : Value) (w W : World) : Prop :=
  W.cell? ⟨g, 0, none⟩ = some x ∧ W.cell? ⟨g, 1, none⟩ = some y ∧ (W.frozen? ⟨g, 0, none⟩ = false ∧ W.frozen? ⟨g, 1, none⟩ = false) ∧ w.heap.size ≤ g ∧ g < W.heap.size ∧ Below w.heap.size w W
theorem alloc_size (u : World) (q : Obj) : (u.alloc q).heap.size = u.heap.size + 1 := Array.size_push ..
theorem Box2.new (x y : Value) (T : TypeId) (w W : World) (h : Below w.heap.size w W) : Box2 W.heap.size x y w (W.alloc (.cells #[x, y] T)) :=
  ⟨by go_simp, by go_simp, ⟨by go_simp, by go_simp⟩, h.size, by rw [alloc_size]; omega, al h⟩
theorem Box2.more {g : Nat} {x y : Value} {w W V : World} (h : Box2 g x y w W) (hb : Below W.heap.size W V) : Box2 g x y w V :=
  ⟨by rw [(bcell hb).1 g 0 h.2.2.2.2.1]; exact h.1, by rw [(bcell hb).1 g 1 h.2.2.2.2.1]; exact h.2.1, ⟨by rw [(bcell hb).2 g 0 h.2.2.2.2.1]; exact h.2.2.1.1, by rw [(bcell hb).2 g 1 h.2.2.2.2.1]; exact h.2.2.1.2⟩, h.2.2.2.1, Nat.lt_of_lt_of_le h.2.2.2.2.1 hb.size, be h.2.2.2.2.2 hb⟩
theorem two_set {g : Nat} {x y : Value} {W : World} (h0 : W.cell? ⟨g, 0, none⟩ = some x) (h1 : W.cell? ⟨g, 1, none⟩ = some y) (a b : Value) :
    (W.setCell ⟨g, 0, none⟩ a).cell? ⟨g, 0, none⟩ = some a ∧ ((W.setCell ⟨g, 0, none⟩ a).setCell ⟨g, 1, none⟩ b).cell? ⟨g, 1, none⟩ = some b :=
  ⟨World.cell?_setCell_same W _ a h0, World.cell?_setCell_same _ _ b (by rw [World.cell?_setCell_other W _ _ a (by simp)]; exact h1)⟩
def partS (a b n : Int) : Int := b * n / (a + b)
theorem part_spec (a b n : Int) (ha : 0 ≤ a) (ha1 : a ≤ 1000000) (hb : 0 ≤ b) (hb1 : b ≤ 1000000) (hn : 0 ≤ n) (hn1 : n ≤ a + b) (w : World) :
    Calls Try.prog 132 #[.agg #[.int .i64 a, .int .i64 b], .int .i64 n] w (RPost (if n = 0 then br 0 0 else br (n - partS a b n) (partS a b n)) w) := by
  by_cases h0 : n = 0
  · subst h0
    go_enter Try.func132, Try.ntmps132
    go_wp2
    exact bodyPost_ret (v := br 0 0) (by simp [br, results, Try.results132, go_sem]) rfl (rpost (by simp) (al (al (Below.refl _ _))))
  · have m1 : 0 ≤ b * n := Int.mul_nonneg hb hn
    have m2 : b * n ≤ 1000000 * 2000000 := Int.mul_le_mul hb1 (by omega) hn (by omega)
    have m3 : IntKind.i64.wrap (b * n) = b * n := IntWalk.i64_in _ (by omega)
    have m4 : (b * n).tdiv (a + b) = partS a b n := Int.tdiv_eq_ediv_of_nonneg m1
    have m5 : 0 ≤ partS a b n := Int.ediv_nonneg m1 (by omega)
    have m6 : partS a b n ≤ n := by unfold partS; exact Int.ediv_le_of_le_mul (by omega) (by rw [Int.mul_comm n]; exact Int.mul_le_mul_of_nonneg_right (by omega) hn)
    have m7 : IntKind.i64.wrap (partS a b n) = partS a b n := IntWalk.i64_in _ (by omega)
    have m8 : ¬ (a + b = 0) := by omega
    go_enter Try.func132, Try.ntmps132
    go_wp2
    have B1 := (Box2.new (.int .i64 a) (.int .i64 b) 26 w w (Below.refl _ _)).more (al (Below.refl _ _) (o := .cells #[.int .i64 0, .int .i64 0] 26))
    have B2 := Box2.new (.int .i64 0) (.int .i64 0) 26 w (w.alloc (.cells #[.int .i64 a, .int .i64 b] 26)) (al (Below.refl _ _))
    rw [alloc_size] at B2
    generalize ((w.alloc (Obj.cells #[Value.int IntKind.i64 a, Value.int IntKind.i64 b] 26)).alloc (Obj.cells #[Value.int IntKind.i64 0, Value.int IntKind.i64 0] 26)) = W at B1 B2 ⊢
    have HB := start2 B1.1 B1.2.1
    have HG := B1.2.2.2.2.1
    have H2 := Lib.hid B2; clear B2 B1
    have M := Lib.hid (And.intro m1 m2); clear m1 m2
    go_region_held3 (fun w' => w'.cell? ⟨w.heap.size, 0, none⟩ = some (.int .i64 a) ∧ w'.cell? ⟨w.heap.size, 1, none⟩ = some (.int .i64 b) ∧ Below W.heap.size W w') (first | exact HB | assumption | exact ⟨by assumption, by assumption, by assumption⟩ | exact drew2 (by assumption) | go_keep)
      (first | (go_at_call 92; refine (mass_spec a b ha ha1 hb hb1 _).mono ?_; rintro e w1 ⟨rfl, hw1⟩; obtain ⟨k1, k2, k3⟩ := held2 HG (by assumption) hw1))
    rename_i k1 k2 k3 _
    obtain ⟨d0, d1, ⟨d2, d3⟩, d4, _, d5⟩ := H2.out.more k3
    go_wp2
    have T := two_set d0 d1 (.int .i64 (n - partS a b n)) (.int .i64 (partS a b n))
    exact bodyPost_ret (v := br (n - partS a b n) (partS a b n)) (by simp [br, results, Try.results132, go_sem, T.1, T.2]) rfl (rpost rfl ((d5.setCell (p := ⟨w.heap.size + 1, 0, none⟩) d4 _).setCell (p := ⟨w.heap.size + 1, 1, none⟩) d4 _))
end Go.Proofs.Ytciohcipmkhneaa.Brine2
