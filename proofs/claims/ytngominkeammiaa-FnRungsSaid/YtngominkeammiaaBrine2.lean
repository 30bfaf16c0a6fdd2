/- The model's functions on brines that ask for memory. -/
import Derived.Test.YtngominkeammiaaBrine
import Derived.Deep.RegionHeld3
namespace Go.Proofs.Ytngominkeammiaa.Brine2
open Go.RowKit Go.Proofs.Ytngominkeammiaa.Mem Go.Proofs.Ytngominkeammiaa.Base Go.Proofs.Ytngominkeammiaa.Brine
set_option linter.unusedVariables false
/-- A box of two cells in a world that gets new memory alone. -/
theorem held2 {g : Nat} {x y : Value} {W V V1 : World} (hg : g < W.heap.size) (h : V.cell? ⟨g, 0, none⟩ = some x ∧ V.cell? ⟨g, 1, none⟩ = some y ∧ Below W.heap.size W V) (hb : Below V.heap.size V V1) :
    V1.cell? ⟨g, 0, none⟩ = some x ∧ V1.cell? ⟨g, 1, none⟩ = some y ∧ Below W.heap.size W V1 :=
  have hs : g < V.heap.size := Nat.lt_of_lt_of_le hg h.2.2.size
  ⟨by rw [(bcell hb).1 g 0 hs]; exact h.1, by rw [(bcell hb).1 g 1 hs]; exact h.2.1, be h.2.2 hb⟩
theorem drew2 {g : Nat} {x y : Value} {W V : World} (h : V.cell? ⟨g, 0, none⟩ = some x ∧ V.cell? ⟨g, 1, none⟩ = some y ∧ Below W.heap.size W V) :
    V.drew.cell? ⟨g, 0, none⟩ = some x ∧ V.drew.cell? ⟨g, 1, none⟩ = some y ∧ Below W.heap.size W V.drew :=
  ⟨h.1, h.2.1, Below.drewN' h.2.2 1⟩
theorem start2 {g : Nat} {x y : Value} {W : World} (h : W.cell? ⟨g, 0, none⟩ = some x) (k : W.cell? ⟨g, 1, none⟩ = some y) : W.cell? ⟨g, 0, none⟩ = some x ∧ W.cell? ⟨g, 1, none⟩ = some y ∧ Below W.heap.size W W := ⟨h, k, Below.refl _ _⟩
/-- What is held of a box of two cells that one may write. -/
def Box2 (g : Nat) (x y : Value) (w W : World) : Prop :=
  W.cell? ⟨g, 0, none⟩ = some x ∧ W.cell? ⟨g, 1, none⟩ = some y ∧ (W.frozen? ⟨g, 0, none⟩ = false ∧ W.frozen? ⟨g, 1, none⟩ = false) ∧ w.heap.size ≤ g ∧ g < W.heap.size ∧ Below w.heap.size w W
theorem alloc_size (u : World) (q : Obj) : (u.alloc q).heap.size = u.heap.size + 1 := Array.size_push ..
theorem Box2.new (x y : Value) (T : TypeId) (w W : World) (h : Below w.heap.size w W) : Box2 W.heap.size x y w (W.alloc (.cells #[x, y] T)) :=
  ⟨by go_simp, by go_simp, ⟨by go_simp, by go_simp⟩, h.size, by rw [alloc_size]; omega, al h⟩
theorem Box2.more {g : Nat} {x y : Value} {w W V : World} (h : Box2 g x y w W) (hb : Below W.heap.size W V) : Box2 g x y w V :=
  ⟨by rw [(bcell hb).1 g 0 h.2.2.2.2.1]; exact h.1, by rw [(bcell hb).1 g 1 h.2.2.2.2.1]; exact h.2.1, ⟨by rw [(bcell hb).2 g 0 h.2.2.2.2.1]; exact h.2.2.1.1, by rw [(bcell hb).2 g 1 h.2.2.2.2.1]; exact h.2.2.1.2⟩, h.2.2.2.1, Nat.lt_of_lt_of_le h.2.2.2.2.1 hb.size, be h.2.2.2.2.2 hb⟩
theorem two_set {g : Nat} {x y : Value} {W : World} (h0 : W.cell? ⟨g, 0, none⟩ = some x) (h1 : W.cell? ⟨g, 1, none⟩ = some y) (a b : Value) :
    (W.setCell ⟨g, 0, none⟩ a).cell? ⟨g, 0, none⟩ = some a ∧ ((W.setCell ⟨g, 0, none⟩ a).setCell ⟨g, 1, none⟩ b).cell? ⟨g, 1, none⟩ = some b :=
  ⟨World.cell?_setCell_same W _ a h0, World.cell?_setCell_same _ _ b (by rw [World.cell?_setCell_other W _ _ a (by simp)]; exact h1)⟩
end Go.Proofs.Ytngominkeammiaa.Brine2
