/- Draws of chapter 7: what a call that draws one heap has made so far. -/
import Derived.Test.YtokgncbcknpfiaaDoorDr
import Derived.Test.YtokgncbcknpfiaaDoorDStack
import Derived.Test.YtokgncbcknpfiaaDoorHeapS
namespace Go.Proofs.YtokgncbcknpfiaaDoor.DHeap0
open Go.RowKit Go.Proofs.YtokgncbcknpfiaaDoor.Mem Go.Proofs.YtokgncbcknpfiaaDoor.Base Go.Proofs.YtokgncbcknpfiaaDoor.Draw Go.Proofs.YtokgncbcknpfiaaDoor.Boxes Go.Proofs.YtokgncbcknpfiaaDoor.Keep Go.Proofs.YtokgncbcknpfiaaDoor.Dr Go.Proofs.YtokgncbcknpfiaaDoor.SInt Go.Proofs.YtokgncbcknpfiaaDoor.Nest
set_option linter.unusedVariables false
set_option maxRecDepth 100000
theorem Cb.kept {g : Nat} {cs : List Value} {W V : World} {row : Option Nat} (h : Cb g cs W) (hg : W.grownBy V row) (hr : ∀ k, row = some k → g < k) : Cb g cs V := by
  have hb : V.heap[g]? = W.heap[g]? := hg.block g h.there (fun e => by have := hr g e.symm; omega)
  exact ⟨fun i v hv => (World.cell?_of_block (w := W) hb).trans (h.cells i v hv), fun i hi => (World.frozen?_of_block (w := W) hb).trans (h.free i hi), Nat.lt_of_lt_of_le h.there hg.size⟩
theorem own_low {w : World} {base : Nat} {e : TypeId} {size n : Nat} {v : Value} {xs : List Value} (h : w.ownsRow base e size v n xs) {k : Nat} (hk : k < base) (i : Nat) (x : Value) : (w.setCell ⟨k, i, none⟩ x).ownsRow base e size v n xs := by
  exact own_congr h (fun j hj => Below.heap_setCell w ⟨k, i, none⟩ x j (by have := own_ge h j hj; show j ≠ k; omega))
theorem cb_news {W : World} {h : Nat} {x : Value} (X : Cb h [x] W) : ∀ j u, [x][j]? = some u → W.cell? ((⟨h, 0, none⟩ : Addr).add j) = some u := by
  intro j u hu
  rw [DStack.cell_add1, Nat.zero_add]
  exact X.cells j u hu
/-- the box of the result, the box of the heap, its layers. -/
structure Hp (B : Nat) (zs : List Int) (p K : Nat) (w : World) (gR gH : Nat) (id gr : Int) (cv : Bool) (A : Option Addr) (c : Nat) (L : List Int) (W : World) : Prop where
  C : Cu B zs p K W
  GW : w.grownBy W (some p)
  R : Cb gR [.int .i64 0, .int .i64 0, .slice none 0 0, .bool false] W
  H : Cb gH [.int .i64 id, .int .i64 gr, .slice A L.length c, .bool cv] W
  O : W.ownsRow (gH + 1) 3 1 (.slice A L.length c) L.length (iv L)
  o0 : p < w.heap.size
  o1 : w.heap.size ≤ gR
  o2 : gR < gH
  bd : ∀ x ∈ L, 0 ≤ x ∧ x ≤ 501
variable {B : Nat} {zs : List Int} {p K : Nat} {w : World} {gR gH : Nat} {id gr : Int} {cv : Bool} {A : Option Addr} {c : Nat} {L : List Int} {W : World}
theorem Hp.alloc (h : Hp B zs p K w gR gH id gr cv A c L W) (o : Obj) : Hp B zs p K w gR gH id gr cv A c L (W.alloc o) :=
  ⟨h.C.alloc o, grown_trans h.GW (grown_alloc _ _ _), h.R.alloc o, h.H.alloc o, own_keep h.O (al (Below.refl _ _)), h.o0, h.o1, h.o2, h.bd⟩
theorem Hp.went {K' : Nat} {V : World} (h : Hp B zs p K w gR gH id gr cv A c L W) (C : Cu B zs p K' V) (G : W.grownBy V (some p)) : Hp B zs p K' w gR gH id gr cv A c L V := by
  have h0 := h.o0; have h1 := h.o1; have h2 := h.o2
  exact ⟨C, grown_trans h.GW G, h.R.went G (by omega), h.H.went G (by omega), own_grown h.O G (fun k hk => by injection hk with hk; omega), h0, h1, h2, h.bd⟩
theorem Hp.le {K' : Nat} (h : Hp B zs p K w gR gH id gr cv A c L W) (hk : K ≤ K') : Hp B zs p K' w gR gH id gr cv A c L W := ⟨h.C.le hk, h.GW, h.R, h.H, h.O, h.o0, h.o1, h.o2, h.bd⟩
theorem Hp.cellsH (h : Hp B zs p K w gR gH id gr cv A c L W) : W.cell? ⟨gH, 0, none⟩ = some (.int .i64 id) ∧ W.cell? ⟨gH, 1, none⟩ = some (.int .i64 gr) ∧ W.cell? ⟨gH, 2, none⟩ = some (.slice A L.length c) ∧ W.cell? ⟨gH, 3, none⟩ = some (.bool cv) :=
  ⟨h.H.cells 0 _ rfl, h.H.cells 1 _ rfl, h.H.cells 2 _ rfl, h.H.cells 3 _ rfl⟩
theorem Hp.freeH (h : Hp B zs p K w gR gH id gr cv A c L W) : W.frozen? ⟨gH, 0, none⟩ = false ∧ W.frozen? ⟨gH, 1, none⟩ = false ∧ W.frozen? ⟨gH, 2, none⟩ = false :=
  ⟨h.H.free 0 (by simp), h.H.free 1 (by simp), h.H.free 2 (by simp)⟩
theorem Hp.lt (h : Hp B zs p K w gR gH id gr cv A c L W) : gH < W.heap.size := h.H.there
theorem Hp.ge (h : Hp B zs p K w gR gH id gr cv A c L W) : ∀ k, (Value.slice A L.length c).ownBlock = some k → gH < k := fun k hk => by have := own_ge h.O k hk; omega
/-- after the append, before the store. -/
theorem Hp.mid {w1 : World} {tmp : Obj} (h : Hp B zs p K w gR gH id gr cv A c L W) (hg : (W.alloc tmp).grownBy w1 (Value.slice A L.length c).ownBlock) :
    Cu B zs p K w1 ∧ w.grownBy w1 (some p) ∧ Cb gR [.int .i64 0, .int .i64 0, .slice none 0 0, .bool false] w1 ∧ Cb gH [.int .i64 id, .int .i64 gr, .slice A L.length c, .bool cv] w1 := by
  have h0 := h.o0; have h1 := h.o1; have h2 := h.o2
  have ha := h.alloc tmp
  exact ⟨ha.C.grown hg (fun k hk => by have := h.ge k hk; omega), gw_grown ha.GW hg (fun k hk => by have := h.ge k hk; omega), Cb.kept ha.R hg (fun k hk => by have := h.ge k hk; omega), Cb.kept ha.H hg (fun k hk => h.ge k hk)⟩
theorem Hp.app {w1 : World} {tmp : Obj} {t : Int} {A' : Option Addr} {c' : Nat} (h : Hp B zs p K w gR gH id gr cv A c L W) (hg : (W.alloc tmp).grownBy w1 (Value.slice A L.length c).ownBlock)
    (ho : w1.ownsRow (gH + 1) 3 1 (.slice A' (L.length + 1) c') (L.length + 1) (iv L ++ [.int .i64 t])) (ht : 0 ≤ t ∧ t ≤ 501) :
    Hp B zs p K w gR gH id gr cv A' c' (L ++ [t]) (w1.setCell ⟨gH, 2, none⟩ (.slice A' (L.length + 1) c')) := by
  have h0 := h.o0; have h1 := h.o1; have h2 := h.o2
  obtain ⟨C, GW, R, H⟩ := h.mid hg
  have hB := C.base
  refine ⟨C.set (g := gH) (by omega) (by omega) 2 _, grown_set GW (g := gH) (by omega) 2 _, R.far (k := gH) (by omega) 2 _, ?_, ?_, h0, h1, h2, DStack.mem_app h.bd ht⟩
  · have := H.set 2 (.slice A' (L.length + 1) c')
    simpa using this
  · have := own_low ho (k := gH) (by omega) 2 (.slice A' (L.length + 1) c')
    rw [List.length_append]
    simpa [iv] using this
theorem Hp.setId (h : Hp B zs p K w gR gH id gr cv A c L W) (x : Int) : Hp B zs p K w gR gH x gr cv A c L (W.setCell ⟨gH, 0, none⟩ (.int .i64 x)) := by
  have h0 := h.o0; have h1 := h.o1; have h2 := h.o2
  have hB := h.C.base
  exact ⟨h.C.set (g := gH) (by omega) (by omega) 0 _, grown_set h.GW (g := gH) (by omega) 0 _, h.R.far (k := gH) (by omega) 0 _, by simpa using h.H.set 0 (.int .i64 x), own_low h.O (by omega) 0 _, h0, h1, h2, h.bd⟩
theorem Hp.setGr (h : Hp B zs p K w gR gH id gr cv A c L W) (x : Int) : Hp B zs p K w gR gH id x cv A c L (W.setCell ⟨gH, 1, none⟩ (.int .i64 x)) := by
  have h0 := h.o0; have h1 := h.o1; have h2 := h.o2
  have hB := h.C.base
  exact ⟨h.C.set (g := gH) (by omega) (by omega) 1 _, grown_set h.GW (g := gH) (by omega) 1 _, h.R.far (k := gH) (by omega) 1 _, by simpa using h.H.set 1 (.int .i64 x), own_low h.O (by omega) 1 _, h0, h1, h2, h.bd⟩
/-- new layers, none yet. -/
theorem Hp.fresh (h : Hp B zs p K w gR gH id gr cv A c L W) : Hp B zs p K w gR gH id gr cv (some ⟨W.heap.size, 0, none⟩) 0 [] ((W.alloc (.cells #[] 3)).setCell ⟨gH, 2, none⟩ (.slice (some ⟨W.heap.size, 0, none⟩) 0 0)) := by
  have h0 := h.o0; have h1 := h.o1; have h2 := h.o2; have h3 := h.lt
  have ha := h.alloc (.cells #[] 3)
  have hB := ha.C.base
  exact ⟨ha.C.set (g := gH) (by omega) (by omega) 2 _, grown_set ha.GW (g := gH) (by omega) 2 _, ha.R.far (k := gH) (by omega) 2 _, by simpa using ha.H.set 2 (.slice (some ⟨W.heap.size, 0, none⟩) 0 0), own_low (DStack.empty1 W (by omega)) (by omega) 2 _, h0, h1, h2, fun x hx => by cases hx⟩
/-- behind the result's stores. -/
theorem Hp.fin (h : Hp B zs p K w gR gH id gr cv A c L W) :
    ((((W.setCell ⟨gR, 0, none⟩ (.int .i64 id)).setCell ⟨gR, 1, none⟩ (.int .i64 gr)).setCell ⟨gR, 2, none⟩ (.slice A L.length c)).setCell ⟨gR, 3, none⟩ (.bool cv)).cell? ⟨gR, 0, none⟩ = some (.int .i64 id) ∧
    ((((W.setCell ⟨gR, 0, none⟩ (.int .i64 id)).setCell ⟨gR, 1, none⟩ (.int .i64 gr)).setCell ⟨gR, 2, none⟩ (.slice A L.length c)).setCell ⟨gR, 3, none⟩ (.bool cv)).cell? ⟨gR, 1, none⟩ = some (.int .i64 gr) ∧
    ((((W.setCell ⟨gR, 0, none⟩ (.int .i64 id)).setCell ⟨gR, 1, none⟩ (.int .i64 gr)).setCell ⟨gR, 2, none⟩ (.slice A L.length c)).setCell ⟨gR, 3, none⟩ (.bool cv)).cell? ⟨gR, 2, none⟩ = some (.slice A L.length c) ∧
    ((((W.setCell ⟨gR, 0, none⟩ (.int .i64 id)).setCell ⟨gR, 1, none⟩ (.int .i64 gr)).setCell ⟨gR, 2, none⟩ (.slice A L.length c)).setCell ⟨gR, 3, none⟩ (.bool cv)).cell? ⟨gR, 3, none⟩ = some (.bool cv) ∧
    RowOwn ((((W.setCell ⟨gR, 0, none⟩ (.int .i64 id)).setCell ⟨gR, 1, none⟩ (.int .i64 gr)).setCell ⟨gR, 2, none⟩ (.slice A L.length c)).setCell ⟨gR, 3, none⟩ (.bool cv)) (p + 1) ⟨A, c, L⟩ ∧
    Cu B zs p K ((((W.setCell ⟨gR, 0, none⟩ (.int .i64 id)).setCell ⟨gR, 1, none⟩ (.int .i64 gr)).setCell ⟨gR, 2, none⟩ (.slice A L.length c)).setCell ⟨gR, 3, none⟩ (.bool cv)) ∧
    w.grownBy ((((W.setCell ⟨gR, 0, none⟩ (.int .i64 id)).setCell ⟨gR, 1, none⟩ (.int .i64 gr)).setCell ⟨gR, 2, none⟩ (.slice A L.length c)).setCell ⟨gR, 3, none⟩ (.bool cv)) (some p) := by
  have h0 := h.o0; have h1 := h.o1; have h2 := h.o2
  have hB := h.C.base
  have R := (((h.R.set 0 (.int .i64 id)).set 1 (.int .i64 gr)).set 2 (.slice A L.length c)).set 3 (.bool cv)
  refine ⟨R.cells 0 _ rfl, R.cells 1 _ rfl, R.cells 2 _ rfl, R.cells 3 _ rfl, ?_, ?_, ?_⟩
  · exact own_base (own_low (own_low (own_low (own_low h.O (k := gR) (by omega) 0 _) (k := gR) (by omega) 1 _) (k := gR) (by omega) 2 _) (k := gR) (by omega) 3 _) (by omega)
  · exact (((h.C.set (g := gR) (by omega) (by omega) 0 _).set (g := gR) (by omega) (by omega) 1 _).set (g := gR) (by omega) (by omega) 2 _).set (g := gR) (by omega) (by omega) 3 _
  · exact grown_set (grown_set (grown_set (grown_set h.GW (g := gR) (by omega) 0 _) (g := gR) (by omega) 1 _) (g := gR) (by omega) 2 _) (g := gR) (by omega) 3 _
theorem Hp.among (h : Hp B zs p K w gR gH id gr cv A c L W) (hK : K ≤ 900000000) (xs : List Int) (c' : Nat) (hx0 : 1 ≤ xs.length) (hx1 : xs.length ≤ 65536) {g : Nat} (hg : g = W.heap.size) :
    Calls Tryd.prog 45 #[.pointer (some ⟨p, 0, none⟩), .slice (some ⟨g, 0, none⟩) xs.length c'] (W.alloc (.cells (xs.map (Value.int .i64)).toArray 3)) fun e V => ∃ x, x ∈ xs ∧ e = .returned (.int .i64 x) ∧ Hp B zs p (K + 2) w gR gH id gr cv A c L V := by
  have h0 := h.o0; have h1 := h.o1; have h2 := h.o2; have h3 := h.lt
  have ha := h.alloc (.cells (xs.map (Value.int .i64)).toArray 3)
  refine (among_d B zs p K _ g c' xs ha.C hK (lst_at W _ _ hg) (by omega) hx0 hx1).mono ?_
  rintro e V ⟨x, hx, rfl, C, G⟩
  exact ⟨x, hx, rfl, ha.went C G⟩
theorem Hp.pick (h : Hp B zs p K w gR gH id gr cv A c L W) (hK : K ≤ 900000000) (n : Int) (hn : 1 ≤ n) (hn1 : n ≤ 65536) :
    Calls Tryd.prog 25 #[.pointer (some ⟨p, 0, none⟩), .int .i64 n] W fun e V => ∃ x : Int, (0 ≤ x ∧ x < n) ∧ e = .returned (.int .i64 x) ∧ Hp B zs p (K + 2) w gR gH id gr cv A c L V := by
  refine (pick_d B zs p K W n h.C hK hn hn1).mono ?_
  rintro e V ⟨x, hx, rfl, C, G⟩
  exact ⟨x, hx, rfl, h.went C G⟩
end Go.Proofs.YtokgncbcknpfiaaDoor.DHeap0
