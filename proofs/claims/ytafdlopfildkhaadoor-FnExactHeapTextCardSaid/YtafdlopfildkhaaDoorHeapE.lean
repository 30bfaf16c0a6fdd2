/- The laws' helpers over heaps: eqHeap, eqHeapS, toHeapS, szHeapS. -/
import Derived.Test.YtafdlopfildkhaaDoorHeapW
import Derived.Test.YtafdlopfildkhaaDoorRegn2
import Derived.Deep.CutBlock
import Derived.Deep.CutRange
import Derived.Deep.DeepCutAuto
namespace Go.Proofs.YtafdlopfildkhaaDoor.HeapE
open Go.RowKit Go.Proofs.YtafdlopfildkhaaDoor.Mem Go.Proofs.YtafdlopfildkhaaDoor.Base Go.Proofs.YtafdlopfildkhaaDoor.SInt Go.Proofs.YtafdlopfildkhaaDoor.Boxes Go.Proofs.YtafdlopfildkhaaDoor.Keep Go.Proofs.YtafdlopfildkhaaDoor.Regn Go.Proofs.YtafdlopfildkhaaDoor.Nest Go.Proofs.YtafdlopfildkhaaDoor.HeapS Go.Proofs.YtafdlopfildkhaaDoor.HeapW
set_option linter.unusedVariables false
set_option maxRecDepth 100000
def same (x y : R) : Bool := decide (x.pure = y.pure)
theorem same_yes {x y : R} (h0 : x.f0 = y.f0) (h1 : x.f1 = y.f1) (h2 : x.f2.ls = y.f2.ls) (h3 : x.f3 = y.f3) : same x y = true := decide_eq_true (by unfold R.pure; rw [h0, h1, h2, h3])
theorem same_no {x y : R} (h : ¬ (x.f0 = y.f0 ∧ x.f1 = y.f1 ∧ x.f2.ls = y.f2.ls ∧ x.f3 = y.f3)) : same x y = false := decide_eq_false (fun e => by unfold R.pure at e; injection e with a b c d; exact h ⟨a, b, c, d⟩)
set_option maxHeartbeats 400000 in
theorem eq_any (x y : R) (w : World) (hx : Rd w w.heap.size x.f2.A (iv x.f2.ls)) (hy : Rd w w.heap.size y.f2.A (iv y.f2.ls)) (hn : x.f2.ls.length ≤ maxLen) (hm : y.f2.ls.length ≤ maxLen) :
    Calls Tryd.prog 26 #[.agg #[.int .i64 x.f0, .int .i64 x.f1, .slice x.f2.A x.f2.ls.length x.f2.cap, .bool x.f3], .agg #[.int .i64 y.f0, .int .i64 y.f1, .slice y.f2.A y.f2.ls.length y.f2.cap, .bool y.f3]] w (RPost (.bool (same x y)) w) := by
  have HX := Lib.hid hx; clear hx
  have HY := Lib.hid hy; clear hy
  cases h0 : (x.f0 != y.f0)
  · cases h1 : (x.f1 != y.f1)
    · have k0 := Lib.hid (show x.f0 = y.f0 by simpa using h0)
      have k1 := Lib.hid (show x.f1 = y.f1 by simpa using h1)
      cases h2 : decide (x.f2.ls = y.f2.ls)
      · have HD := Lib.hid (same_no (x := x) (y := y) (fun h => of_decide_eq_false h2 h.2.2.1))
        clear k0 k1
        go_enter Tryd.func26, Tryd.ntmps26
        go_upto_region 5 with fail
        have X := (Box.new (Below.refl _ w) [.int .i64 x.f0, .int .i64 x.f1, .slice x.f2.A x.f2.ls.length x.f2.cap, .bool x.f3] 41 (g := w.heap.size) rfl).alloc (.cells #[.int .i64 y.f0, .int .i64 y.f1, .slice y.f2.A y.f2.ls.length y.f2.cap, .bool y.f3] 41)
        have Y := Box.new (al (Below.refl _ w) (o := (.cells #[.int .i64 x.f0, .int .i64 x.f1, .slice x.f2.A x.f2.ls.length x.f2.cap, .bool x.f3] 41))) [.int .i64 y.f0, .int .i64 y.f1, .slice y.f2.A y.f2.ls.length y.f2.cap, .bool y.f3] 41 (g := w.heap.size + 1) (by simp only [size_alloc'])
        generalize ((w.alloc (.cells #[.int .i64 x.f0, .int .i64 x.f1, .slice x.f2.A x.f2.ls.length x.f2.cap, .bool x.f3] 41)).alloc (.cells #[.int .i64 y.f0, .int .i64 y.f1, .slice y.f2.A y.f2.ls.length y.f2.cap, .bool y.f3] 41)) = W1 at X Y ⊢
        have X_0 := X.cells 0 _ rfl
        have X_1 := X.cells 1 _ rfl
        have X_2 := X.cells 2 _ rfl
        have X_3 := X.cells 3 _ rfl
        have X_f0 := X.free 0 (by simp)
        have X_f1 := X.free 1 (by simp)
        have X_f2 := X.free 2 (by simp)
        have X_f3 := X.free 3 (by simp)
        have X_t := X.there
        have Y_0 := Y.cells 0 _ rfl
        have Y_1 := Y.cells 1 _ rfl
        have Y_2 := Y.cells 2 _ rfl
        have Y_3 := Y.cells 3 _ rfl
        have Y_f0 := Y.free 0 (by simp)
        have Y_f1 := Y.free 1 (by simp)
        have Y_f2 := Y.free 2 (by simp)
        have Y_f3 := Y.free 3 (by simp)
        have Y_t := Y.there
        have X_0 := X.cells 0 _ rfl
        have X_1 := X.cells 1 _ rfl
        have X_2 := X.cells 2 _ rfl
        have X_3 := X.cells 3 _ rfl
        have X_f0 := X.free 0 (by simp)
        have X_f1 := X.free 1 (by simp)
        have X_f2 := X.free 2 (by simp)
        have X_f3 := X.free 3 (by simp)
        have X_t := X.there
        have Y_0 := Y.cells 0 _ rfl
        have Y_1 := Y.cells 1 _ rfl
        have Y_2 := Y.cells 2 _ rfl
        have Y_3 := Y.cells 3 _ rfl
        have Y_f0 := Y.free 0 (by simp)
        have Y_f1 := Y.free 1 (by simp)
        have Y_f2 := Y.free 2 (by simp)
        have Y_f3 := Y.free 3 (by simp)
        have Y_t := Y.there
        go_wp2_with fail
        refine (eqS_any x.f2.A y.f2.A x.f2.cap y.f2.cap x.f2.ls y.f2.ls _ (rd_keep HX.out X.below) (rd_keep HY.out X.below) hn hm).mono ?_
        rintro e v2 ⟨rfl, hv2⟩
        clear X_0 X_1 X_2 X_3 X_f0 X_f1 X_f2 X_f3 X_t
        clear Y_0 Y_1 Y_2 Y_3 Y_f0 Y_f1 Y_f2 Y_f3 Y_t
        replace X := X.more hv2
        replace Y := Y.more hv2
        have zhv2 := hv2.size
        clear hv2
        have X_0 := X.cells 0 _ rfl
        have X_1 := X.cells 1 _ rfl
        have X_2 := X.cells 2 _ rfl
        have X_3 := X.cells 3 _ rfl
        have X_f0 := X.free 0 (by simp)
        have X_f1 := X.free 1 (by simp)
        have X_f2 := X.free 2 (by simp)
        have X_f3 := X.free 3 (by simp)
        have X_t := X.there
        have Y_0 := Y.cells 0 _ rfl
        have Y_1 := Y.cells 1 _ rfl
        have Y_2 := Y.cells 2 _ rfl
        have Y_3 := Y.cells 3 _ rfl
        have Y_f0 := Y.free 0 (by simp)
        have Y_f1 := Y.free 1 (by simp)
        have Y_f2 := Y.free 2 (by simp)
        have Y_f3 := Y.free 3 (by simp)
        have Y_t := Y.there
        rw [h2]
        go_wp2
        go_ret
        exact rpost (by rw [HD.out]; rfl) X.below
      have HL := Lib.hid (of_decide_eq_true h2)
      cases h3 : (!(x.f3 == y.f3))
      · have HD := Lib.hid (same_yes (x := x) (y := y) k0.out k1.out HL.out (by simpa using h3))
        go_enter Tryd.func26, Tryd.ntmps26
        go_upto_region 5 with fail
        have X := (Box.new (Below.refl _ w) [.int .i64 x.f0, .int .i64 x.f1, .slice x.f2.A x.f2.ls.length x.f2.cap, .bool x.f3] 41 (g := w.heap.size) rfl).alloc (.cells #[.int .i64 y.f0, .int .i64 y.f1, .slice y.f2.A y.f2.ls.length y.f2.cap, .bool y.f3] 41)
        have Y := Box.new (al (Below.refl _ w) (o := (.cells #[.int .i64 x.f0, .int .i64 x.f1, .slice x.f2.A x.f2.ls.length x.f2.cap, .bool x.f3] 41))) [.int .i64 y.f0, .int .i64 y.f1, .slice y.f2.A y.f2.ls.length y.f2.cap, .bool y.f3] 41 (g := w.heap.size + 1) (by simp only [size_alloc'])
        generalize ((w.alloc (.cells #[.int .i64 x.f0, .int .i64 x.f1, .slice x.f2.A x.f2.ls.length x.f2.cap, .bool x.f3] 41)).alloc (.cells #[.int .i64 y.f0, .int .i64 y.f1, .slice y.f2.A y.f2.ls.length y.f2.cap, .bool y.f3] 41)) = W1 at X Y ⊢
        have X_0 := X.cells 0 _ rfl
        have X_1 := X.cells 1 _ rfl
        have X_2 := X.cells 2 _ rfl
        have X_3 := X.cells 3 _ rfl
        have X_f0 := X.free 0 (by simp)
        have X_f1 := X.free 1 (by simp)
        have X_f2 := X.free 2 (by simp)
        have X_f3 := X.free 3 (by simp)
        have X_t := X.there
        have Y_0 := Y.cells 0 _ rfl
        have Y_1 := Y.cells 1 _ rfl
        have Y_2 := Y.cells 2 _ rfl
        have Y_3 := Y.cells 3 _ rfl
        have Y_f0 := Y.free 0 (by simp)
        have Y_f1 := Y.free 1 (by simp)
        have Y_f2 := Y.free 2 (by simp)
        have Y_f3 := Y.free 3 (by simp)
        have Y_t := Y.there
        have X_0 := X.cells 0 _ rfl
        have X_1 := X.cells 1 _ rfl
        have X_2 := X.cells 2 _ rfl
        have X_3 := X.cells 3 _ rfl
        have X_f0 := X.free 0 (by simp)
        have X_f1 := X.free 1 (by simp)
        have X_f2 := X.free 2 (by simp)
        have X_f3 := X.free 3 (by simp)
        have X_t := X.there
        have Y_0 := Y.cells 0 _ rfl
        have Y_1 := Y.cells 1 _ rfl
        have Y_2 := Y.cells 2 _ rfl
        have Y_3 := Y.cells 3 _ rfl
        have Y_f0 := Y.free 0 (by simp)
        have Y_f1 := Y.free 1 (by simp)
        have Y_f2 := Y.free 2 (by simp)
        have Y_f3 := Y.free 3 (by simp)
        have Y_t := Y.there
        go_wp2_with fail
        refine (eqS_any x.f2.A y.f2.A x.f2.cap y.f2.cap x.f2.ls y.f2.ls _ (rd_keep HX.out X.below) (rd_keep HY.out X.below) hn hm).mono ?_
        rintro e v2 ⟨rfl, hv2⟩
        clear X_0 X_1 X_2 X_3 X_f0 X_f1 X_f2 X_f3 X_t
        clear Y_0 Y_1 Y_2 Y_3 Y_f0 Y_f1 Y_f2 Y_f3 Y_t
        replace X := X.more hv2
        replace Y := Y.more hv2
        have zhv2 := hv2.size
        clear hv2
        have X_0 := X.cells 0 _ rfl
        have X_1 := X.cells 1 _ rfl
        have X_2 := X.cells 2 _ rfl
        have X_3 := X.cells 3 _ rfl
        have X_f0 := X.free 0 (by simp)
        have X_f1 := X.free 1 (by simp)
        have X_f2 := X.free 2 (by simp)
        have X_f3 := X.free 3 (by simp)
        have X_t := X.there
        have Y_0 := Y.cells 0 _ rfl
        have Y_1 := Y.cells 1 _ rfl
        have Y_2 := Y.cells 2 _ rfl
        have Y_3 := Y.cells 3 _ rfl
        have Y_f0 := Y.free 0 (by simp)
        have Y_f1 := Y.free 1 (by simp)
        have Y_f2 := Y.free 2 (by simp)
        have Y_f3 := Y.free 3 (by simp)
        have Y_t := Y.there
        rw [h2]
        go_wp2
        go_ret
        exact rpost (by rw [HD.out]; rfl) X.below
      · have HD := Lib.hid (same_no (x := x) (y := y) (fun h => by simp [h.2.2.2] at h3))
        go_enter Tryd.func26, Tryd.ntmps26
        go_upto_region 5 with fail
        have X := (Box.new (Below.refl _ w) [.int .i64 x.f0, .int .i64 x.f1, .slice x.f2.A x.f2.ls.length x.f2.cap, .bool x.f3] 41 (g := w.heap.size) rfl).alloc (.cells #[.int .i64 y.f0, .int .i64 y.f1, .slice y.f2.A y.f2.ls.length y.f2.cap, .bool y.f3] 41)
        have Y := Box.new (al (Below.refl _ w) (o := (.cells #[.int .i64 x.f0, .int .i64 x.f1, .slice x.f2.A x.f2.ls.length x.f2.cap, .bool x.f3] 41))) [.int .i64 y.f0, .int .i64 y.f1, .slice y.f2.A y.f2.ls.length y.f2.cap, .bool y.f3] 41 (g := w.heap.size + 1) (by simp only [size_alloc'])
        generalize ((w.alloc (.cells #[.int .i64 x.f0, .int .i64 x.f1, .slice x.f2.A x.f2.ls.length x.f2.cap, .bool x.f3] 41)).alloc (.cells #[.int .i64 y.f0, .int .i64 y.f1, .slice y.f2.A y.f2.ls.length y.f2.cap, .bool y.f3] 41)) = W1 at X Y ⊢
        have X_0 := X.cells 0 _ rfl
        have X_1 := X.cells 1 _ rfl
        have X_2 := X.cells 2 _ rfl
        have X_3 := X.cells 3 _ rfl
        have X_f0 := X.free 0 (by simp)
        have X_f1 := X.free 1 (by simp)
        have X_f2 := X.free 2 (by simp)
        have X_f3 := X.free 3 (by simp)
        have X_t := X.there
        have Y_0 := Y.cells 0 _ rfl
        have Y_1 := Y.cells 1 _ rfl
        have Y_2 := Y.cells 2 _ rfl
        have Y_3 := Y.cells 3 _ rfl
        have Y_f0 := Y.free 0 (by simp)
        have Y_f1 := Y.free 1 (by simp)
        have Y_f2 := Y.free 2 (by simp)
        have Y_f3 := Y.free 3 (by simp)
        have Y_t := Y.there
        have X_0 := X.cells 0 _ rfl
        have X_1 := X.cells 1 _ rfl
        have X_2 := X.cells 2 _ rfl
        have X_3 := X.cells 3 _ rfl
        have X_f0 := X.free 0 (by simp)
        have X_f1 := X.free 1 (by simp)
        have X_f2 := X.free 2 (by simp)
        have X_f3 := X.free 3 (by simp)
        have X_t := X.there
        have Y_0 := Y.cells 0 _ rfl
        have Y_1 := Y.cells 1 _ rfl
        have Y_2 := Y.cells 2 _ rfl
        have Y_3 := Y.cells 3 _ rfl
        have Y_f0 := Y.free 0 (by simp)
        have Y_f1 := Y.free 1 (by simp)
        have Y_f2 := Y.free 2 (by simp)
        have Y_f3 := Y.free 3 (by simp)
        have Y_t := Y.there
        go_wp2_with fail
        refine (eqS_any x.f2.A y.f2.A x.f2.cap y.f2.cap x.f2.ls y.f2.ls _ (rd_keep HX.out X.below) (rd_keep HY.out X.below) hn hm).mono ?_
        rintro e v2 ⟨rfl, hv2⟩
        clear X_0 X_1 X_2 X_3 X_f0 X_f1 X_f2 X_f3 X_t
        clear Y_0 Y_1 Y_2 Y_3 Y_f0 Y_f1 Y_f2 Y_f3 Y_t
        replace X := X.more hv2
        replace Y := Y.more hv2
        have zhv2 := hv2.size
        clear hv2
        have X_0 := X.cells 0 _ rfl
        have X_1 := X.cells 1 _ rfl
        have X_2 := X.cells 2 _ rfl
        have X_3 := X.cells 3 _ rfl
        have X_f0 := X.free 0 (by simp)
        have X_f1 := X.free 1 (by simp)
        have X_f2 := X.free 2 (by simp)
        have X_f3 := X.free 3 (by simp)
        have X_t := X.there
        have Y_0 := Y.cells 0 _ rfl
        have Y_1 := Y.cells 1 _ rfl
        have Y_2 := Y.cells 2 _ rfl
        have Y_3 := Y.cells 3 _ rfl
        have Y_f0 := Y.free 0 (by simp)
        have Y_f1 := Y.free 1 (by simp)
        have Y_f2 := Y.free 2 (by simp)
        have Y_f3 := Y.free 3 (by simp)
        have Y_t := Y.there
        rw [h2]
        go_wp2
        go_ret
        exact rpost (by rw [HD.out]; rfl) X.below
    · have HD := Lib.hid (same_no (x := x) (y := y) (fun h => by simp [h.2.1] at h1))
      go_enter Tryd.func26, Tryd.ntmps26
      go_wp2
      go_ret
      exact rpost (by rw [HD.out]; rfl) (al (al (Below.refl _ _)))
  · have HD := Lib.hid (same_no (x := x) (y := y) (fun h => by simp [h.1] at h0))
    go_enter Tryd.func26, Tryd.ntmps26
    go_wp2
    go_ret
    exact rpost (by rw [HD.out]; rfl) (al (al (Below.refl _ _)))
/-- heap k is written anew: all its cells; its layers in new memory. -/
theorem putAll {w w' : World} {lo top top' g c k : Nat} {l : List R} (x : R) (h : Own w lo top (some ⟨g, 0, none⟩) c l) (hk : k < l.length) (hr : RowOwn w' lo x.f2) (ht : top ≤ top')
    (hn : ∀ j, x.f2.blk = some j → j < top' ∧ j ≠ g ∧ (l[k].f2.blk = some j ∨ top ≤ j))
    (he : ∀ j, j < w.heap.size → l[k].f2.blk ≠ some j → w'.heap[j]? = w.heap[j]?) :
    Own ((((w'.setCell ⟨g, k * 4, none⟩ (.int .i64 x.f0)).setCell ⟨g, k * 4 + 1, none⟩ (.int .i64 x.f1)).setCell ⟨g, k * 4 + 2, none⟩ (.slice x.f2.A x.f2.ls.length x.f2.cap)).setCell ⟨g, k * 4 + 3, none⟩ (.bool x.f3)) lo top' (some ⟨g, 0, none⟩) c (l.set k x) := by
  have hm : l[k].f2 ∈ l.map R.f2 := List.mem_map.2 ⟨_, List.getElem_mem hk, rfl⟩
  have hgk : l[k].f2.blk ≠ some g := fun e => (h.inn.far _ hm g e).2 rfl
  have ho : w'.ownsRow lo 41 4 (.slice (some ⟨g, 0, none⟩) l.length c) l.length (flat l) :=
    own_congr h.out (fun j hj => by
      have e : g = j := by simpa [Value.ownBlock] using hj
      subst e
      exact he g (h.out.lt g rfl).2 hgk)
  refine ⟨?_, fun j hj => Nat.lt_of_lt_of_le (h.low j (by simpa [Value.ownBlock] using hj)) ht, ?_⟩
  · have := ((((ho.stored (k * 4) (.int .i64 x.f0)).1.stored (k * 4 + 1) (.int .i64 x.f1)).1.stored (k * 4 + 2) (.slice x.f2.A x.f2.ls.length x.f2.cap)).1.stored (k * 4 + 3) (.bool x.f3)).1
    rw [flat_set l k x hk] at this
    simpa using this
  · have hi : (l.map R.f2)[k]? = some l[k].f2 := by simp [hk]
    have h1 := h.inn.set (w' := w') (top' := top') (r := x.f2) hi hr ht (fun j hj => ⟨(hn j hj).1, fun e => (hn j hj).2.1 (by simpa [Value.ownBlock] using e.symm), (hn j hj).2.2⟩) (fun j h1 _ h3 => he j h1 h3)
    rw [List.map_set]
    have e : (Value.slice (some ⟨g, 0, none⟩) (l.set k x).length c).ownBlock = (Value.slice (some ⟨g, 0, none⟩) l.length c).ownBlock := rfl
    rw [e]
    refine h1.congr fun j _ _ h4 => ?_
    have hj : j ≠ g := fun e => h4 (by rw [e]; rfl)
    rw [Below.heap_setCell _ ⟨g, _, none⟩ _ j hj, Below.heap_setCell _ ⟨g, _, none⟩ _ j hj, Below.heap_setCell _ ⟨g, _, none⟩ _ j hj, Below.heap_setCell _ ⟨g, _, none⟩ _ j hj]
end Go.Proofs.YtafdlopfildkhaaDoor.HeapE
