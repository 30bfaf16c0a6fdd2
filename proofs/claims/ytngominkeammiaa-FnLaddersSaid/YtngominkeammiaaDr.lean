/- Draws: the cursor and what lies beside it, in one form (the walk's words @d.. speak of it). My own. -/
import Derived.Test.YtngominkeammiaaDraw
import Derived.Test.YtngominkeammiaaKeep
namespace Go.Proofs.Ytngominkeammiaa.Dr
open Go.RowKit Go.Proofs.Ytngominkeammiaa.Mem Go.Proofs.Ytngominkeammiaa.Base Go.Proofs.Ytngominkeammiaa.Draw Go.Proofs.Ytngominkeammiaa.Boxes Go.Proofs.Ytngominkeammiaa.Keep
set_option linter.unusedVariables false
set_option maxRecDepth 100000
/-- A block of cells that the call itself made, while a cursor goes on. -/
structure Cb (g : Nat) (cs : List Value) (W : World) : Prop where
  cells : ∀ (i : Nat) (v : Value), cs[i]? = some v → W.cell? ⟨g, i, none⟩ = some v
  free : ∀ i : Nat, i < cs.length → W.frozen? ⟨g, i, none⟩ = false
  there : g < W.heap.size
theorem Cb.new (W : World) (cs : List Value) (T : TypeId) {g : Nat} (hg : g = W.heap.size) : Cb g cs (W.alloc (.cells cs.toArray T)) :=
  ⟨fun i v hv => by rw [World.cell?_alloc_at _ _ _ _ hg]; simpa using hv, fun i _ => World.frozen?_alloc_at _ _ _ _ hg, by rw [size_alloc', hg]; omega⟩
theorem Cb.more {g : Nat} {cs : List Value} {W V : World} (h : Cb g cs W) (hb : Below W.heap.size W V) : Cb g cs V :=
  ⟨fun i v hv => by rw [(bcell hb).1 g i h.there]; exact h.cells i v hv, fun i hi => by rw [(bcell hb).2 g i h.there]; exact h.free i hi, Nat.lt_of_lt_of_le h.there hb.size⟩
theorem Cb.alloc {g : Nat} {cs : List Value} {W : World} (h : Cb g cs W) (o : Obj) : Cb g cs (W.alloc o) := h.more (al (Below.refl _ _))
theorem Cb.went {g p : Nat} {cs : List Value} {W V : World} (h : Cb g cs W) (hg : W.grownBy V (some p)) (hne : g ≠ p) : Cb g cs V := by
  have hb : V.heap[g]? = W.heap[g]? := hg.block g h.there (fun e => hne (by injection e))
  exact ⟨fun i v hv => (World.cell?_of_block (w := W) hb).trans (h.cells i v hv), fun i hi => (World.frozen?_of_block (w := W) hb).trans (h.free i hi), Nat.lt_of_lt_of_le h.there hg.size⟩
theorem Cb.set {g : Nat} {cs : List Value} {W : World} (h : Cb g cs W) (i : Nat) (v : Value) : Cb g (cs.set i v) (W.setCell ⟨g, i, none⟩ v) := by
  refine ⟨fun j u hu => ?_, fun j hj => ?_, by simpa [World.setCell] using h.there⟩
  · rw [List.getElem?_set] at hu
    split at hu
    · rename_i hij; subst hij
      split at hu
      · rename_i hlt
        injection hu with hu; subst hu
        exact World.cell?_setCell_same W _ v (h.cells i _ (List.getElem?_eq_getElem hlt))
      · cases hu
    · rename_i hij
      rw [World.cell?_setCell_other W _ _ v (by first | (simp; done) | (simp; omega))]
      exact h.cells j u hu
  · rw [World.frozen?_setCell]; exact h.free j (by simpa using hj)
theorem Cb.far {g k : Nat} {cs : List Value} {W : World} (h : Cb g cs W) (hne : k ≠ g) (i : Nat) (v : Value) : Cb g cs (W.setCell ⟨k, i, none⟩ v) :=
  ⟨fun j u hu => by rw [World.cell?_setCell_other W _ _ v (by first | (simp; done) | (simp; omega))]; exact h.cells j u hu, fun j hj => by rw [World.frozen?_setCell]; exact h.free j hj, by simpa [World.setCell] using h.there⟩
theorem Cb.box {g : Nat} {cs : List Value} {w W : World} (h : Cb g cs W) (hb : Below w.heap.size w W) (hg : w.heap.size ≤ g) : Box g cs w W := ⟨h.cells, h.free, hg, h.there, hb⟩
theorem grown_set {w W : World} {r : Option Nat} (h : w.grownBy W r) {g : Nat} (hg : w.heap.size ≤ g) (i : Nat) (v : Value) : w.grownBy (W.setCell ⟨g, i, none⟩ v) r :=
  ⟨h.os, h.tape, h.output, by simpa [World.setCell] using h.size, fun j hj hne => by rw [Below.heap_setCell W ⟨g, i, none⟩ v j (by show j ≠ g; omega)]; exact h.block j hj hne⟩
theorem grown_more {w W V : World} {r : Option Nat} (h : w.grownBy W r) (hb : Below W.heap.size W V) : w.grownBy V r :=
  ⟨hb.os.trans h.os, hb.tape.trans h.tape, hb.output.trans h.output, Nat.le_trans h.size hb.size, fun j hj hne => (hb.block j (Nat.lt_of_lt_of_le hj h.size)).trans (h.block j hj hne)⟩
theorem lst_at (w : World) (xs : List Value) (t : TypeId) {g : Nat} (hg : g = w.heap.size) : Lst (w.alloc (.cells xs.toArray t)) g xs := hg ▸ lst_new w xs t
/-- The cursor in block p, at most K bytes on. -/
def Cu (B : Nat) (zs : List Int) (p K : Nat) (W : World) : Prop := ∃ k, k ≤ K ∧ Cur B zs W p k
theorem Cu.alloc {B : Nat} {zs : List Int} {p K : Nat} {W : World} (h : Cu B zs p K W) (o : Obj) : Cu B zs p K (W.alloc o) := by obtain ⟨k, hk, hc⟩ := h; exact ⟨k, hk, hc.alloc o⟩
theorem Cu.lt {B : Nat} {zs : List Int} {p K : Nat} {W : World} (h : Cu B zs p K W) : p < W.heap.size := by obtain ⟨k, hk, hc⟩ := h; exact hc.lt
theorem Cu.base {B : Nat} {zs : List Int} {p K : Nat} {W : World} (h : Cu B zs p K W) : B ≤ p := by obtain ⟨k, hk, hc⟩ := h; exact hc.base
theorem Cu.le {B : Nat} {zs : List Int} {p K K' : Nat} {W : World} (h : Cu B zs p K W) (hk' : K ≤ K') : Cu B zs p K' W := by obtain ⟨k, hk, hc⟩ := h; exact ⟨k, by omega, hc⟩
theorem Cu.more {B : Nat} {zs : List Int} {p K : Nat} {W V : World} (h : Cu B zs p K W) (hv : Below W.heap.size W V) : Cu B zs p K V := by
  obtain ⟨k, hk, hc⟩ := h
  have hp := hc.lt
  obtain ⟨⟨A, cap, sd, hblk, hr, hs⟩, hB, hl, hb⟩ := hc
  exact ⟨k, hk, ⟨A, cap, sd, by rw [hv.block p hp]; exact hblk, hr.keep (fun b o hb' => (bcell hv).1 b o (by omega)), hs⟩, hB, hl, hb⟩
theorem Cu.set {B : Nat} {zs : List Int} {p K : Nat} {W : World} (h : Cu B zs p K W) {g : Nat} (hne : g ≠ p) (hgB : B ≤ g) (i : Nat) (v : Value) : Cu B zs p K (W.setCell ⟨g, i, none⟩ v) := by
  obtain ⟨k, hk, hc⟩ := h
  obtain ⟨⟨A, cap, sd, hblk, hr, hs⟩, hB, hl, hb⟩ := hc
  exact ⟨k, hk, ⟨A, cap, sd, by rw [Below.heap_setCell W ⟨g, i, none⟩ v p (fun e => hne e.symm)]; exact hblk, hr.keep (fun b o hb' => World.cell?_setCell_other W _ _ v (by first | (simp; done) | (simp; omega))), hs⟩, hB, hl, hb⟩
theorem Cu.grown {B : Nat} {zs : List Int} {p K : Nat} {W V : World} {row : Option Nat} (h : Cu B zs p K W) (hg : W.grownBy V row) (hr : ∀ k, row = some k → p < k) : Cu B zs p K V := by
  obtain ⟨k, hk, hc⟩ := h
  have hp := hc.lt
  obtain ⟨⟨A, cap, sd, hblk, hrd, hs⟩, hB, hl, hb⟩ := hc
  exact ⟨k, hk, ⟨A, cap, sd, by rw [hg.block p hp (fun e => by have := hr p e.symm; omega)]; exact hblk, hrd.keep (fun b o hb' => World.cell?_of_block (w := W) (hg.block b (by omega) (fun e => by have := hr b e.symm; omega))), hs⟩, hB, hl, hb⟩
theorem among_d (B : Nat) (zs : List Int) (p K : Nat) (w : World) (g c : Nat) (xs : List Int) (h : Cu B zs p K w) (hk : K ≤ 900000000) (hl : Lst w g (xs.map (Value.int .i64))) (hg : g ≠ p) (hx0 : 1 ≤ xs.length) (hx1 : xs.length ≤ 65536) :
    Calls Try.prog 81 #[.pointer (some ⟨p, 0, none⟩), .slice (some ⟨g, 0, none⟩) xs.length c] w fun e w' => ∃ x, x ∈ xs ∧ e = .returned (.int .i64 x) ∧ Cu B zs p (K + 2) w' ∧ w.grownBy w' (some p) := by
  obtain ⟨k, hk1, hc⟩ := h
  refine (among_any B zs w p k g c xs hc (by omega) hl hg hx0 hx1).mono ?_
  rintro e w' ⟨⟨x, hx, rfl⟩, ⟨⟨k', hk', hc'⟩, G⟩⟩
  exact ⟨x, hx, rfl, ⟨k', by omega, hc'⟩, G⟩
theorem pick_d (B : Nat) (zs : List Int) (p K : Nat) (w : World) (n : Int) (h : Cu B zs p K w) (hk : K ≤ 900000000) (hn0 : 1 ≤ n) (hn1 : n ≤ 65536) :
    Calls Try.prog 55 #[.pointer (some ⟨p, 0, none⟩), .int .i64 n] w fun e w' => ∃ x : Int, (0 ≤ x ∧ x < n) ∧ e = .returned (.int .i64 x) ∧ Cu B zs p (K + 2) w' ∧ w.grownBy w' (some p) := by
  obtain ⟨k, hk1, hc⟩ := h
  refine (pick_any B zs w p k n hc (by omega) hn0 hn1).mono ?_
  rintro e w' ⟨⟨x, h0, h1, rfl⟩, ⟨⟨k', hk', hc'⟩, G⟩⟩
  exact ⟨x, ⟨h0, h1⟩, rfl, ⟨k', by omega, hc'⟩, G⟩
theorem one_d (B : Nat) (zs : List Int) (p K : Nat) (w : World) (n : Int) (h : Cu B zs p K w) (hk : K ≤ 900000000) (hn0 : 1 ≤ n) (hn1 : n ≤ 65536) :
    Calls Try.prog 56 #[.pointer (some ⟨p, 0, none⟩), .int .i64 n] w fun e w' => ∃ b : Bool, e = .returned (.bool b) ∧ Cu B zs p (K + 2) w' ∧ w.grownBy w' (some p) := by
  obtain ⟨k, hk1, hc⟩ := h
  refine (one_any B zs w p k n hc (by omega) hn0 hn1).mono ?_
  rintro e w' ⟨⟨b, rfl⟩, ⟨⟨k', hk', hc'⟩, G⟩⟩
  exact ⟨b, rfl, ⟨k', by omega, hc'⟩, G⟩
end Go.Proofs.Ytngominkeammiaa.Dr
