/- Boxes: a block of cells that the call itself made; what is known of it lasts over new memory and over stores elsewhere. My own. -/
import Derived.Test.YtngominkeammiaaMem
import Derived.Laws.NewBlocks
namespace Go.Proofs.Ytngominkeammiaa.Boxes
open Go.RowKit Go.Proofs.Ytngominkeammiaa.Mem
set_option linter.unusedVariables false

/-- Block g holds the cells cs, may be written, is not older than the call (that began in world w). -/
structure Box (g : Nat) (cs : List Value) (w W : World) : Prop where
  cells : ∀ (i : Nat) (v : Value), cs[i]? = some v → W.cell? ⟨g, i, none⟩ = some v
  free : ∀ i : Nat, i < cs.length → W.frozen? ⟨g, i, none⟩ = false
  base : w.heap.size ≤ g
  there : g < W.heap.size
  below : Below w.heap.size w W

theorem size_alloc' (u : World) (q : Obj) : (u.alloc q).heap.size = u.heap.size + 1 := Array.size_push ..
theorem size_set' (u : World) (a : Addr) (v : Value) : (u.setCell a v).heap.size = u.heap.size := by simp [World.setCell]
theorem Box.new {w W : World} (h : Below w.heap.size w W) (cs : List Value) (T : TypeId) {g : Nat} (hg : g = W.heap.size) : Box g cs w (W.alloc (.cells cs.toArray T)) :=
  ⟨fun i v hv => by rw [World.cell?_alloc_at _ _ _ _ hg]; simpa using hv, fun i _ => World.frozen?_alloc_at _ _ _ _ hg, hg ▸ h.size, by rw [size_alloc', hg]; omega, al h⟩
theorem Box.more {g : Nat} {cs : List Value} {w W V : World} (h : Box g cs w W) (hb : Below W.heap.size W V) : Box g cs w V :=
  ⟨fun i v hv => by rw [(bcell hb).1 g i h.there]; exact h.cells i v hv, fun i hi => by rw [(bcell hb).2 g i h.there]; exact h.free i hi, h.base, Nat.lt_of_lt_of_le h.there hb.size, be h.below hb⟩
theorem Box.alloc {g : Nat} {cs : List Value} {w W : World} (h : Box g cs w W) (o : Obj) : Box g cs w (W.alloc o) := h.more (al (Below.refl _ _))
theorem Box.drew {g : Nat} {cs : List Value} {w W : World} (h : Box g cs w W) : Box g cs w W.drew := h.more (Below.refl _ _).drew
theorem Box.set {g : Nat} {cs : List Value} {w W : World} (h : Box g cs w W) (i : Nat) (v : Value) : Box g (cs.set i v) w (W.setCell ⟨g, i, none⟩ v) := by
  refine ⟨fun j u hu => ?_, fun j hj => ?_, h.base, by simpa [World.setCell] using h.there, h.below.setCell (p := ⟨g, i, none⟩) h.base v⟩
  · rw [List.getElem?_set] at hu
    split at hu
    · rename_i hij; subst hij
      split at hu
      · rename_i hlt
        injection hu with hu; subst hu
        exact World.cell?_setCell_same W _ v (h.cells i _ (List.getElem?_eq_getElem hlt))
      · cases hu
    · rename_i hij
      rw [World.cell?_setCell_other W _ _ v (by simp; try omega)]
      exact h.cells j u hu
  · rw [World.frozen?_setCell]; exact h.free j (by simpa using hj)
theorem Box.far {g k : Nat} {cs : List Value} {w W : World} (h : Box g cs w W) (hk : w.heap.size ≤ k) (hne : k ≠ g) (i : Nat) (v : Value) : Box g cs w (W.setCell ⟨k, i, none⟩ v) :=
  ⟨fun j u hu => by rw [World.cell?_setCell_other W _ _ v (by simp; try omega)]; exact h.cells j u hu, fun j hj => by rw [World.frozen?_setCell]; exact h.free j hj, h.base, by simpa [World.setCell] using h.there, h.below.setCell (p := ⟨k, i, none⟩) hk v⟩
theorem Box.at0 {g : Nat} {x : Value} {cs : List Value} {w W : World} (h : Box g (x :: cs) w W) : W.cell? ⟨g, 0, none⟩ = some x := h.cells 0 x rfl
theorem Box.at1 {g : Nat} {x y : Value} {cs : List Value} {w W : World} (h : Box g (x :: y :: cs) w W) : W.cell? ⟨g, 1, none⟩ = some y := h.cells 1 y rfl
theorem Box.at2 {g : Nat} {x y z : Value} {cs : List Value} {w W : World} (h : Box g (x :: y :: z :: cs) w W) : W.cell? ⟨g, 2, none⟩ = some z := h.cells 2 z rfl
theorem Box.at3 {g : Nat} {x y z u : Value} {cs : List Value} {w W : World} (h : Box g (x :: y :: z :: u :: cs) w W) : W.cell? ⟨g, 3, none⟩ = some u := h.cells 3 u rfl
theorem Box.at4 {g : Nat} {x y z u t : Value} {cs : List Value} {w W : World} (h : Box g (x :: y :: z :: u :: t :: cs) w W) : W.cell? ⟨g, 4, none⟩ = some t := h.cells 4 t rfl
theorem Box.all2 {g : Nat} {x y : Value} {w W : World} (h : Box g [x, y] w W) : (W.cell? ⟨g, 0, none⟩ = some x ∧ W.cell? ⟨g, 1, none⟩ = some y) ∧ W.frozen? ⟨g, 0, none⟩ = false ∧ W.frozen? ⟨g, 1, none⟩ = false :=
  ⟨⟨h.at0, h.at1⟩, h.free 0 (by simp), h.free 1 (by simp)⟩
theorem Box.rd {g : Nat} {cs : List Value} {w W : World} (h : Box g cs w W) : Rd W W.heap.size (some ⟨g, 0, none⟩) cs := .inr ⟨g, 0, rfl, h.there, fun j v hv => by rw [Nat.zero_add]; exact h.cells j v hv⟩
theorem Box.grown {g : Nat} {cs : List Value} {w W W' : World} (h : Box g cs w W) {row : Option Nat} (hg : W.grownBy W' row) (hr : ∀ k, row = some k → g < k) : Box g cs w W' := by
  have hb : W'.heap[g]? = W.heap[g]? := hg.block g h.there (fun e => by have := hr g e.symm; omega)
  exact ⟨fun i v hv => (World.cell?_of_block (w := W) hb).trans (h.cells i v hv), fun i hi => (World.frozen?_of_block (w := W) hb).trans (h.free i hi), h.base, Nat.lt_of_lt_of_le h.there hg.size,
    h.below.grown hg h.below.size (fun k hk => by have := hr k hk; have := h.base; omega)⟩
theorem own_base {w : World} {base base' : Nat} {e : TypeId} {size n : Nat} {v : Value} {xs : List Value} (h : w.ownsRow base e size v n xs) (hb : base' ≤ base) : w.ownsRow base' e size v n xs := by
  refine ⟨h.1, ?_⟩
  rcases h.2 with h2 | ⟨g, cap, cur, hv, hg, r⟩
  · exact .inl h2
  · exact .inr ⟨g, cap, cur, hv, by omega, r⟩
theorem rd_keep {w w' : World} {A : Option Addr} {xs : List Value} (h : Rd w w.heap.size A xs) (hb : Below w.heap.size w w') : Rd w' w'.heap.size A xs := (h.below hb (Nat.le_refl _)).mono hb.size
theorem rd_low {w w' : World} {B B' : Nat} {A : Option Addr} {xs : List Value} (h : Rd w B A xs) (k : Rd w' B' A xs) : Rd w' B A xs := by
  rcases h with h | ⟨b, o, hA, hb, _⟩
  · exact .inl h
  · rcases k with k | ⟨b', o', hA', _, hc⟩
    · exact .inl k
    · rw [hA] at hA'
      injection hA' with hA'
      injection hA' with h1 h2 h3
      subst h1; subst h2
      exact .inr ⟨b, o, hA, hb, hc⟩
theorem rd_grown {w w' : World} {B : Nat} {A : Option Addr} {xs : List Value} {row : Option Nat} (h : Rd w B A xs) (hg : w.grownBy w' row) (hr : ∀ k, row = some k → B ≤ k) (hB : B ≤ w.heap.size) : Rd w' B A xs :=
  h.keep fun b o hb => World.cell?_of_block (w := w) (hg.block b (by omega) (fun e => by have := hr b e.symm; omega))
theorem rd_get0 {w : World} {B b o : Nat} {v : Value} {xs : List Value} (h : Rd w B (some ⟨b, o, none⟩) xs) (hx : xs[0]? = some v) : w.cell? ⟨b, o, none⟩ = some v := by
  rcases h with rfl | ⟨b', o', hA, _, hc⟩
  · simp at hx
  · injection hA with hA; injection hA with h1 h2 h3
    subst h1; subst h2; simpa using hc 0 v hx
theorem rd_get1 {w : World} {B b o : Nat} {v : Value} {xs : List Value} (h : Rd w B (some ⟨b, o, none⟩) xs) (hx : xs[1]? = some v) : w.cell? ⟨b, o + 1, none⟩ = some v := by
  rcases h with rfl | ⟨b', o', hA, _, hc⟩
  · simp at hx
  · injection hA with hA; injection hA with h1 h2 h3
    subst h1; subst h2; exact hc 1 v hx
theorem rd_lt {w : World} {B b o : Nat} {v : Value} {xs : List Value} (h : Rd w B (some ⟨b, o, none⟩) xs) (hx : xs[0]? = some v) : b < B := by
  rcases h with rfl | ⟨b', o', hA, hb, _⟩
  · simp at hx
  · injection hA with hA; injection hA with h1 h2 h3
    subst h1; exact hb
/-- A box that one operation of a region fills: old before it (not p), new behind it (p). -/
def BoxL (p : Prop) (g : Nat) (old new : List Value) (w W : World) : Prop := (p → Box g new w W) ∧ (¬ p → Box g old w W)
theorem BoxL.two {p : Prop} {g : Nat} {o n : List Value} {w W : World} (h : BoxL p g o n w W) : Box g o w W ∨ Box g n w W := by
  by_cases hp : p
  · exact .inr (h.1 hp)
  · exact .inl (h.2 hp)
theorem BoxL.start {g : Nat} {o : List Value} {w W : World} (n : List Value) (h : Box g o w W) : BoxL False g o n w W := ⟨fun h => h.elim, fun _ => h⟩
theorem BoxL.skip {L : Nat → Prop} {i j : Nat} {g : Nat} {o n : List Value} {w W : World} (h : BoxL (L i) g o n w W) (hne : i ≠ j) : BoxL (L i ∨ i = j) g o n w W :=
  ⟨fun k => h.1 (k.resolve_right hne), fun k => h.2 fun l => k (.inl l)⟩
theorem BoxL.more {p : Prop} {g : Nat} {o n : List Value} {w W V : World} (h : BoxL p g o n w W) (hb : Below W.heap.size W V) : BoxL p g o n w V := ⟨fun k => (h.1 k).more hb, fun k => (h.2 k).more hb⟩
theorem BoxL.far {p : Prop} {g k : Nat} {o n : List Value} {w W : World} (h : BoxL p g o n w W) (hk : w.heap.size ≤ k) (hne : k ≠ g) (i : Nat) (v : Value) : BoxL p g o n w (W.setCell ⟨k, i, none⟩ v) :=
  ⟨fun q => (h.1 q).far hk hne i v, fun q => (h.2 q).far hk hne i v⟩
theorem BoxL.put {L : Nat → Prop} {i : Nat} {g : Nat} {o n : List Value} {w W : World} (h : Box g n w W) : BoxL (L i ∨ i = i) g o n w W := ⟨fun _ => h, fun k => absurd (.inr rfl) k⟩
theorem BoxL.done {p : Prop} {g : Nat} {o n : List Value} {w W : World} (h : BoxL p g o n w W) (hp : p) : Box g n w W := h.1 hp
end Go.Proofs.Ytngominkeammiaa.Boxes
