/- How facts on memory last over a row that is written or grows. My own. -/
import Derived.Test.YtngominkeammiaaBox
namespace Go.Proofs.Ytngominkeammiaa.Keep
open Go.RowKit Go.Proofs.Ytngominkeammiaa.Mem Go.Proofs.Ytngominkeammiaa.Boxes
set_option linter.unusedVariables false
/-- a slice that lies below B reads as xs, in a world that reaches B at least. -/
def RdL (w : World) (B : Nat) (A : Option Addr) (xs : List Value) : Prop := B ≤ w.heap.size ∧ Rd w B A xs
theorem RdL.of {w : World} {A : Option Addr} {xs : List Value} (h : Rd w w.heap.size A xs) : RdL w w.heap.size A xs := ⟨Nat.le_refl _, h⟩
theorem rdl_keep {w w' : World} {B : Nat} {A : Option Addr} {xs : List Value} (h : RdL w B A xs) (hb : Below w.heap.size w w') : RdL w' B A xs :=
  ⟨Nat.le_trans h.1 hb.size, h.2.below hb h.1⟩
theorem RdL.grown {w w' : World} {B : Nat} {A : Option Addr} {xs : List Value} {row : Option Nat} (h : RdL w B A xs) (hg : w.grownBy w' row) (hr : ∀ k, row = some k → B ≤ k) : RdL w' B A xs :=
  ⟨Nat.le_trans h.1 hg.size, rd_grown h.2 hg hr h.1⟩
theorem RdL.rd {w : World} {B : Nat} {A : Option Addr} {xs : List Value} (h : RdL w B A xs) : Rd w w.heap.size A xs := h.2.mono h.1
theorem bl_grown {w u v : World} {row : Option Nat} (h : Below w.heap.size w u) (hg : u.grownBy v row) (hr : ∀ k, row = some k → w.heap.size ≤ k) : Below w.heap.size w v := h.grown hg h.size hr
theorem own_grown {w w' : World} {base : Nat} {e : TypeId} {size n : Nat} {v : Value} {xs : List Value} {row : Option Nat} (h : w.ownsRow base e size v n xs) (hg : w.grownBy w' row) (hr : ∀ k, row = some k → k < base) : w'.ownsRow base e size v n xs := by
  refine ⟨h.1, ?_⟩
  rcases h.2 with h2 | ⟨g, cap, cur, hv, hgb, hh, r⟩
  · exact .inl h2
  · refine .inr ⟨g, cap, cur, hv, hgb, ?_, r⟩
    have hlt : g < w.heap.size := by
      rcases Nat.lt_or_ge g w.heap.size with hl | hl
      · exact hl
      · rw [Array.getElem?_eq_none hl] at hh; cases hh
    rw [hg.block g hlt (fun e => by have := hr g e.symm; omega)]; exact hh
theorem own_cap {w : World} {base : Nat} {e : TypeId} {size n c : Nat} {A : Option Addr} {xs : List Value} (h : w.ownsRow base e size (.slice A n c) n xs) : n ≤ c := by
  rcases h.2 with ⟨hv, hn⟩ | ⟨g', cap, cur, hv, hgb, hh, hc, r⟩
  · omega
  · injection hv with _ _ h3; omega
theorem row_at {g o n c k : Nat} (h : (Value.slice (some ⟨g, o, none⟩) n c).ownBlock = some k) : k = g := by simp [Value.ownBlock] at h; omega
theorem box_grown {g : Nat} {cs : List Value} {w W W' : World} (h : Box g cs w W) {row : Option Nat} (hg : W.grownBy W' row) (hr : ∀ k, row = some k → k ≠ g ∧ w.heap.size ≤ k) : Box g cs w W' := by
  have hb : W'.heap[g]? = W.heap[g]? := hg.block g h.there (fun e => (hr g e.symm).1 rfl)
  exact ⟨fun i v hv => (World.cell?_of_block (w := W) hb).trans (h.cells i v hv), fun i hi => (World.frozen?_of_block (w := W) hb).trans (h.free i hi), h.base, Nat.lt_of_lt_of_le h.there hg.size,
    h.below.grown hg h.below.size (fun k hk => (hr k hk).2)⟩
theorem own_lt {w : World} {base : Nat} {e : TypeId} {size n c g : Nat} {xs : List Value} (h : w.ownsRow base e size (.slice (some ⟨g, 0, none⟩) n c) n xs) : g < w.heap.size := by
  rcases h.2 with ⟨hv, _⟩ | ⟨g', cap, cur, hv, _, hh, _⟩
  · cases hv
  · injection hv with hv
    injection hv with hv
    injection hv with hv
    subst hv
    rcases Nat.lt_or_ge g w.heap.size with hl | hl
    · exact hl
    · rw [Array.getElem?_eq_none hl] at hh; cases hh
theorem own_grownN {w w' : World} {base : Nat} {e : TypeId} {size n c g : Nat} {xs : List Value} {row : Option Nat} (h : w.ownsRow base e size (.slice (some ⟨g, 0, none⟩) n c) n xs) (hg : w.grownBy w' row) (hr : ∀ k, row = some k → k ≠ g) : w'.ownsRow base e size (.slice (some ⟨g, 0, none⟩) n c) n xs := by
  have hlt := own_lt h
  refine ⟨h.1, ?_⟩
  rcases h.2 with h2 | ⟨g', cap, cur, hv, hgb, hh, r⟩
  · exact .inl h2
  · refine .inr ⟨g', cap, cur, hv, hgb, ?_, r⟩
    injection hv with hv
    injection hv with hv
    injection hv with hv
    subst hv
    rw [hg.block g hlt (fun e => hr g e.symm rfl)]; exact hh
theorem gw_grown {w W V : World} {p : Nat} {row : Option Nat} (h : w.grownBy W (some p)) (hg : W.grownBy V row) (hr : ∀ k, row = some k → w.heap.size ≤ k) : w.grownBy V (some p) :=
  ⟨hg.os.trans h.os, hg.tape.trans h.tape, hg.output.trans h.output, Nat.le_trans h.size hg.size, fun j hj hne => (hg.block j (Nat.lt_of_lt_of_le hj h.size) (fun e => by have := hr j e.symm; omega)).trans (h.block j hj hne)⟩
theorem own_far {w : World} {base : Nat} {e : TypeId} {size n c g k : Nat} {xs : List Value} (h : w.ownsRow base e size (.slice (some ⟨g, 0, none⟩) n c) n xs) (hne : k ≠ g) (i : Nat) (v : Value) : (w.setCell ⟨k, i, none⟩ v).ownsRow base e size (.slice (some ⟨g, 0, none⟩) n c) n xs := by
  refine ⟨h.1, ?_⟩
  rcases h.2 with h2 | ⟨g', cap, cur, hv, hgb, hh, r⟩
  · exact .inl h2
  · refine .inr ⟨g', cap, cur, hv, hgb, ?_, r⟩
    injection hv with hv
    injection hv with hv
    injection hv with hv
    subst hv
    rw [Below.heap_setCell w ⟨k, i, none⟩ v g (fun e => hne e.symm)]; exact hh
end Go.Proofs.Ytngominkeammiaa.Keep
