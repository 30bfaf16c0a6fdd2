/- The draws of chapter 2. -/
import Derived.Test.YtngominkeammiaaDraw
import Derived.Test.YtngominkeammiaaBrine
namespace Go.Proofs.Ytngominkeammiaa.Draws2
open Go.RowKit Go.Proofs.Ytngominkeammiaa.Mem Go.Proofs.Ytngominkeammiaa.Base Go.Proofs.Ytngominkeammiaa.Draw Go.Proofs.Ytngominkeammiaa.Brine
set_option linter.unusedVariables false
set_option maxRecDepth 100000
/-- A block of cells that the call itself made, while a cursor goes on. -/
structure Cb (g : Nat) (cs : List Value) (W : World) : Prop where
  cells : ∀ (i : Nat) (v : Value), cs[i]? = some v → W.cell? ⟨g, i, none⟩ = some v
  free : ∀ i : Nat, i < cs.length → W.frozen? ⟨g, i, none⟩ = false
  there : g < W.heap.size
theorem asz (u : World) (q : Obj) : (u.alloc q).heap.size = u.heap.size + 1 := Array.size_push ..
theorem Cb.new (W : World) (cs : List Value) (T : TypeId) {g : Nat} (hg : g = W.heap.size) : Cb g cs (W.alloc (.cells cs.toArray T)) :=
  ⟨fun i v hv => by rw [World.cell?_alloc_at _ _ _ _ hg]; simpa using hv, fun i _ => World.frozen?_alloc_at _ _ _ _ hg, by rw [asz, hg]; omega⟩
theorem Cb.more {g : Nat} {cs : List Value} {W V : World} (h : Cb g cs W) (hb : Below W.heap.size W V) : Cb g cs V :=
  ⟨fun i v hv => by rw [(bcell hb).1 g i h.there]; exact h.cells i v hv, fun i hi => by rw [(bcell hb).2 g i h.there]; exact h.free i hi, Nat.lt_of_lt_of_le h.there hb.size⟩
theorem Cb.alloc {g : Nat} {cs : List Value} {W : World} (h : Cb g cs W) (o : Obj) : Cb g cs (W.alloc o) := h.more (al (Below.refl _ _))
theorem Cb.went {g p : Nat} {cs : List Value} {W V : World} (h : Cb g cs W) (hg : W.grownBy V (some p)) (hne : g ≠ p) : Cb g cs V := by
  have hb : V.heap[g]? = W.heap[g]? := hg.block g h.there (fun e => hne (by injection e))
  exact ⟨fun i v hv => (World.cell?_of_block (w := W) hb).trans (h.cells i v hv), fun i hi => (World.frozen?_of_block (w := W) hb).trans (h.free i hi), Nat.lt_of_lt_of_le h.there hg.size⟩
theorem Cb.set {g : Nat} {cs : List Value} {W : World} (h : Cb g cs W) (i : Nat) (v : Value) : Cb g (cs.set i v) (W.setCell ⟨g, i, none⟩ v) := by
  refine ⟨fun j u hu => ?_, fun j hj => ?_, by simpa [World.setCell] using h.there⟩
  · rw [List.getElem?_set] at hu
    split at hu
    · rename_i hij; subst hij
      split at hu
      · rename_i hlt
        injection hu with hu; subst hu
        exact World.cell?_setCell_same W _ v (h.cells i _ (List.getElem?_eq_getElem hlt))
      · cases hu
    · rename_i hij
      rw [World.cell?_setCell_other W _ _ v (by first | (simp; done) | (simp; omega))]
      exact h.cells j u hu
  · rw [World.frozen?_setCell]; exact h.free j (by simpa using hj)
theorem Cb.far {g k : Nat} {cs : List Value} {W : World} (h : Cb g cs W) (hne : k ≠ g) (i : Nat) (v : Value) : Cb g cs (W.setCell ⟨k, i, none⟩ v) :=
  ⟨fun j u hu => by rw [World.cell?_setCell_other W _ _ v (by first | (simp; done) | (simp; omega))]; exact h.cells j u hu, fun j hj => by rw [World.frozen?_setCell]; exact h.free j hj, by simpa [World.setCell] using h.there⟩
theorem cur_set {B : Nat} {zs : List Int} {w : World} {p k : Nat} (h : Cur B zs w p k) {g : Nat} (hne : g ≠ p) (hgB : B ≤ g) (i : Nat) (v : Value) : Cur B zs (w.setCell ⟨g, i, none⟩ v) p k := by
  obtain ⟨⟨A, cap, sd, hblk, hr, hs⟩, hB, hl, hb⟩ := h
  exact ⟨⟨A, cap, sd, by rw [Below.heap_setCell w ⟨g, i, none⟩ v p (fun e => hne e.symm)]; exact hblk, hr.keep (fun b o hb' => World.cell?_setCell_other w _ _ v (by first | (simp; done) | (simp; omega))), hs⟩, hB, hl, hb⟩
theorem grown_set {w W : World} {r : Option Nat} (h : w.grownBy W r) {g : Nat} (hg : w.heap.size ≤ g) (i : Nat) (v : Value) : w.grownBy (W.setCell ⟨g, i, none⟩ v) r :=
  ⟨h.os, h.tape, h.output, by simpa [World.setCell] using h.size, fun j hj hne => by rw [Below.heap_setCell W ⟨g, i, none⟩ v j (by show j ≠ g; omega)]; exact h.block j hj hne⟩
theorem lst_at (w : World) (xs : List Value) (t : TypeId) {g : Nat} (hg : g = w.heap.size) : Lst (w.alloc (.cells xs.toArray t)) g xs := hg ▸ lst_new w xs t
set_option maxHeartbeats 1000000 in
theorem brine_any (B : Nat) (zs : List Int) (w : World) (p k : Nat) (h : Cur B zs w p k) (hk : k ≤ 800000000) :
    Calls Try.prog 63 #[.pointer (some ⟨p, 0, none⟩)] w fun e w' => (∃ x y : Int, -1 ≤ x ∧ x ≤ 1000001 ∧ -1 ≤ y ∧ y ≤ 1000001 ∧ e = .returned (br x y)) ∧ Went B zs p k 8 w w' := by
  have hp := h.lt
  have hB := h.base
  have R0 := (Cb.new w [.int .i64 0, .int .i64 0] 32 (g := w.heap.size) rfl)
  go_enter Try.func63, Try.ntmps63
  go_wp2_with fail
  refine (among_any B zs _ p k (w.heap.size + 1) 7 [0, 1, 90, 900, 1000, 7000, 1000000] ((h.alloc _).alloc _) (by omega) (lst_at (w.alloc _) _ _ (asz _ _).symm) (by omega) (by simp) (by simp)).mono ?_
  rintro e w1 ⟨⟨x, hx, rfl⟩, ⟨⟨k1, hk1, C1⟩, G⟩⟩
  have hx2 : -1 ≤ x ∧ x ≤ 1000001 := by simp at hx; omega
  have R1 := (R0.alloc _).went G (by omega)
  have G1 : w.grownBy w1 (some p) := grown_trans (grown_trans (grown_alloc w _ _) (grown_alloc _ _ _)) G
  have z1 := G1.size
  clear hx R0 G
  go_wp2_with fail
  refine (among_any B zs _ p k1 w1.heap.size 8 [0, 1, 10, 35, 100, 260, 2500, 1000000] (C1.alloc _) (by omega) (lst_at w1 _ _ rfl) (by omega) (by simp) (by simp)).mono ?_
  rintro e w2 ⟨⟨y, hy, rfl⟩, ⟨⟨k2, hk2, C2⟩, G⟩⟩
  have hy2 : -1 ≤ y ∧ y ≤ 1000001 := by simp at hy; omega
  have R2 := (R1.alloc _).went G (by omega)
  have G2 : w.grownBy w2 (some p) := grown_trans (grown_trans G1 (grown_alloc _ _ _)) G
  have z2 := G2.size
  clear hy R1 G G1 C1
  have D2 := Cb.new w2 [.int .i64 x, .int .i64 y] 32 (g := w2.heap.size) rfl
  have r2 := R2.there
  go_wp2_with fail
  refine (pick_any B zs _ p k2 48 (C2.alloc _) (by omega) (by omega) (by omega)).mono ?_
  rintro e w3 ⟨⟨z, zz0, zz1, rfl⟩, ⟨⟨k3, hk3, C3⟩, G⟩⟩
  have R3 := (R2.alloc _).went G (by omega)
  have D3 := D2.went G (by omega)
  have G3 : w.grownBy w3 (some p) := grown_trans (grown_trans G2 (grown_alloc _ _ _)) G
  clear G G2 C2 R2 D2
  have z3 := G3.size
  by_cases h0 : z = 0
  · subst h0
    go_wp2_with fail
    refine (among_any B zs _ p k3 w3.heap.size 2 [-1, 1000001] (C3.alloc _) (by omega) (lst_at w3 _ _ rfl) (by omega) (by simp) (by simp)).mono ?_
    rintro e w4 ⟨⟨q, hq, rfl⟩, ⟨⟨k4, hk4, C4⟩, G⟩⟩
    have hq2 : -1 ≤ q ∧ q ≤ 1000001 := by simp at hq; omega
    have R4 := (R3.alloc _).went G (by omega)
    have D4 := (D3.alloc _).went G (by omega)
    have G4 : w.grownBy w4 (some p) := grown_trans (grown_trans G3 (grown_alloc _ _ _)) G
    clear hq G G3 C3 R3 D3
    have e0 := D4.cells 0 _ rfl
    have e1 := D4.cells 1 _ rfl
    have f0 := D4.free 0 (by simp)
    have f1 := D4.free 1 (by simp)
    have t0 := D4.there
    have a0 := R4.cells 0 _ rfl
    have a1 := R4.cells 1 _ rfl
    have b0 := R4.free 0 (by simp)
    have b1 := R4.free 1 (by simp)
    have s0 := R4.there
    go_wp2
    have Q := ((R4.far (k := w2.heap.size) (by omega) 0 (.int .i64 q)).set 0 (.int .i64 q)).set 1 (.int .i64 y)
    have q0 := Q.cells 0 _ rfl
    have q1 := Q.cells 1 _ rfl
    exact bodyPost_ret (v := br q y) (by simp [br, results, Try.results63, go_sem, q0, q1]) rfl ⟨⟨q, y, hq2.1, hq2.2, hy2.1, hy2.2, rfl⟩, ⟨k4, by omega, cur_set (cur_set (cur_set C4 (by omega) (by omega) _ _) (by omega) (by omega) _ _) (by omega) (by omega) _ _⟩, grown_set (grown_set (grown_set G4 (by omega) _ _) (by omega) _ _) (by omega) _ _⟩
  · by_cases h1 : z = 1
    · subst h1
      go_wp2_with fail
      refine (among_any B zs _ p k3 w3.heap.size 2 [-1, 1000001] (C3.alloc _) (by omega) (lst_at w3 _ _ rfl) (by omega) (by simp) (by simp)).mono ?_
      rintro e w4 ⟨⟨q, hq, rfl⟩, ⟨⟨k4, hk4, C4⟩, G⟩⟩
      have hq2 : -1 ≤ q ∧ q ≤ 1000001 := by simp at hq; omega
      have R4 := (R3.alloc _).went G (by omega)
      have D4 := (D3.alloc _).went G (by omega)
      have G4 : w.grownBy w4 (some p) := grown_trans (grown_trans G3 (grown_alloc _ _ _)) G
      clear hq G G3 C3 R3 D3
      have e0 := D4.cells 0 _ rfl
      have e1 := D4.cells 1 _ rfl
      have f0 := D4.free 0 (by simp)
      have f1 := D4.free 1 (by simp)
      have t0 := D4.there
      have a0 := R4.cells 0 _ rfl
      have a1 := R4.cells 1 _ rfl
      have b0 := R4.free 0 (by simp)
      have b1 := R4.free 1 (by simp)
      have s0 := R4.there
      go_wp2
      have Q := ((R4.far (k := w2.heap.size) (by omega) 1 (.int .i64 q)).set 0 (.int .i64 x)).set 1 (.int .i64 q)
      have q0 := Q.cells 0 _ rfl
      have q1 := Q.cells 1 _ rfl
      exact bodyPost_ret (v := br x q) (by simp [br, results, Try.results63, go_sem, q0, q1]) rfl ⟨⟨x, q, hx2.1, hx2.2, hq2.1, hq2.2, rfl⟩, ⟨k4, by omega, cur_set (cur_set (cur_set C4 (by omega) (by omega) _ _) (by omega) (by omega) _ _) (by omega) (by omega) _ _⟩, grown_set (grown_set (grown_set G4 (by omega) _ _) (by omega) _ _) (by omega) _ _⟩
    · have e0 := D3.cells 0 _ rfl
      have e1 := D3.cells 1 _ rfl
      have t0 := D3.there
      have a0 := R3.cells 0 _ rfl
      have a1 := R3.cells 1 _ rfl
      have b0 := R3.free 0 (by simp)
      have b1 := R3.free 1 (by simp)
      have s0 := R3.there
      go_wp2
      have Q := (R3.set 0 (.int .i64 x)).set 1 (.int .i64 y)
      have q0 := Q.cells 0 _ rfl
      have q1 := Q.cells 1 _ rfl
      exact bodyPost_ret (v := br x y) (by simp [br, results, Try.results63, go_sem, q0, q1]) rfl ⟨⟨x, y, hx2.1, hx2.2, hy2.1, hy2.2, rfl⟩, ⟨k3, by omega, cur_set (cur_set C3 (by omega) (by omega) _ _) (by omega) (by omega) _ _⟩, grown_set (grown_set G3 (by omega) _ _) (by omega) _ _⟩
/-- A draw of a fraction. -/
def DRate (B : Nat) (zs : List Int) (p k : Nat) (w : World) (e : Ending) (w' : World) : Prop := (∃ x y : Int, 0 ≤ x ∧ x ≤ 1002 ∧ 0 ≤ y ∧ y ≤ 1001 ∧ e = .returned (.tuple #[.int .i64 x, .int .i64 y])) ∧ Went B zs p k 4 w w'
end Go.Proofs.Ytngominkeammiaa.Draws2
