/- The laws' helpers over heaps: eqHeap, eqHeapS, toHeapS, szHeapS. -/
import Derived.Test.YtoompggbdedkmaaHeapW
import Derived.Test.YtoompggbdedkmaaRegn2
import Derived.Deep.CutBlock
import Derived.Deep.CutRange
import Derived.Deep.DeepCutAuto
namespace Go.Proofs.Ytoompggbdedkmaa.HeapE
open Go.RowKit Go.Proofs.Ytoompggbdedkmaa.Mem Go.Proofs.Ytoompggbdedkmaa.Base Go.Proofs.Ytoompggbdedkmaa.SInt Go.Proofs.Ytoompggbdedkmaa.Boxes Go.Proofs.Ytoompggbdedkmaa.Keep Go.Proofs.Ytoompggbdedkmaa.Regn Go.Proofs.Ytoompggbdedkmaa.Nest Go.Proofs.Ytoompggbdedkmaa.HeapS Go.Proofs.Ytoompggbdedkmaa.HeapW
set_option linter.unusedVariables false
set_option maxRecDepth 100000
def same (x y : R) : Bool := decide (x.pure = y.pure)
theorem same_yes {x y : R} (h0 : x.f0 = y.f0) (h1 : x.f1 = y.f1) (h2 : x.f2.ls = y.f2.ls) (h3 : x.f3 = y.f3) : same x y = true := decide_eq_true (by unfold R.pure; rw [h0, h1, h2, h3])
theorem same_no {x y : R} (h : ¬ (x.f0 = y.f0 ∧ x.f1 = y.f1 ∧ x.f2.ls = y.f2.ls ∧ x.f3 = y.f3)) : same x y = false := decide_eq_false (fun e => by unfold R.pure at e; injection e with a b c d; exact h ⟨a, b, c, d⟩)
set_option maxHeartbeats 400000 in
theorem eq_any (x y : R) (w : World) (hx : Rd w w.heap.size x.f2.A (iv x.f2.ls)) (hy : Rd w w.heap.size y.f2.A (iv y.f2.ls)) (hn : x.f2.ls.length ≤ maxLen) (hm : y.f2.ls.length ≤ maxLen) :
    Calls Try.prog 34 #[.agg #[.int .i64 x.f0, .int .i64 x.f1, .slice x.f2.A x.f2.ls.length x.f2.cap, .bool x.f3], .agg #[.int .i64 y.f0, .int .i64 y.f1, .slice y.f2.A y.f2.ls.length y.f2.cap, .bool y.f3]] w (RPost (.bool (same x y)) w) := by
  have HX := Lib.hid hx; clear hx
  have HY := Lib.hid hy; clear hy
  cases h0 : (x.f0 != y.f0)
  · cases h1 : (x.f1 != y.f1)
    · have k0 := Lib.hid (show x.f0 = y.f0 by simpa using h0)
      have k1 := Lib.hid (show x.f1 = y.f1 by simpa using h1)
      cases h2 : decide (x.f2.ls = y.f2.ls)
      · have HD := Lib.hid (same_no (x := x) (y := y) (fun h => of_decide_eq_false h2 h.2.2.1))
        clear k0 k1
        go_enter Try.func34, Try.ntmps34
        go_upto_region 5 with fail
        have X := (Box.new (Below.refl _ w) [.int .i64 x.f0, .int .i64 x.f1, .slice x.f2.A x.f2.ls.length x.f2.cap, .bool x.f3] 43 (g := w.heap.size) rfl).alloc (.cells #[.int .i64 y.f0, .int .i64 y.f1, .slice y.f2.A y.f2.ls.length y.f2.cap, .bool y.f3] 43)
        have Y := Box.new (al (Below.refl _ w) (o := (.cells #[.int .i64 x.f0, .int .i64 x.f1, .slice x.f2.A x.f2.ls.length x.f2.cap, .bool x.f3] 43))) [.int .i64 y.f0, .int .i64 y.f1, .slice y.f2.A y.f2.ls.length y.f2.cap, .bool y.f3] 43 (g := w.heap.size + 1) (by simp only [size_alloc'])
        generalize ((w.alloc (.cells #[.int .i64 x.f0, .int .i64 x.f1, .slice x.f2.A x.f2.ls.length x.f2.cap, .bool x.f3] 43)).alloc (.cells #[.int .i64 y.f0, .int .i64 y.f1, .slice y.f2.A y.f2.ls.length y.f2.cap, .bool y.f3] 43)) = W1 at X Y ⊢
        have X_0 := X.cells 0 _ rfl
        have X_1 := X.cells 1 _ rfl
        have X_2 := X.cells 2 _ rfl
        have X_3 := X.cells 3 _ rfl
        have X_f0 := X.free 0 (by simp)
        have X_f1 := X.free 1 (by simp)
        have X_f2 := X.free 2 (by simp)
        have X_f3 := X.free 3 (by simp)
        have X_t := X.there
        have Y_0 := Y.cells 0 _ rfl
        have Y_1 := Y.cells 1 _ rfl
        have Y_2 := Y.cells 2 _ rfl
        have Y_3 := Y.cells 3 _ rfl
        have Y_f0 := Y.free 0 (by simp)
        have Y_f1 := Y.free 1 (by simp)
        have Y_f2 := Y.free 2 (by simp)
        have Y_f3 := Y.free 3 (by simp)
        have Y_t := Y.there
        have X_0 := X.cells 0 _ rfl
        have X_1 := X.cells 1 _ rfl
        have X_2 := X.cells 2 _ rfl
        have X_3 := X.cells 3 _ rfl
        have X_f0 := X.free 0 (by simp)
        have X_f1 := X.free 1 (by simp)
        have X_f2 := X.free 2 (by simp)
        have X_f3 := X.free 3 (by simp)
        have X_t := X.there
        have Y_0 := Y.cells 0 _ rfl
        have Y_1 := Y.cells 1 _ rfl
        have Y_2 := Y.cells 2 _ rfl
        have Y_3 := Y.cells 3 _ rfl
        have Y_f0 := Y.free 0 (by simp)
        have Y_f1 := Y.free 1 (by simp)
        have Y_f2 := Y.free 2 (by simp)
        have Y_f3 := Y.free 3 (by simp)
        have Y_t := Y.there
        go_wp2_with fail
        refine (eqS_any x.f2.A y.f2.A x.f2.cap y.f2.cap x.f2.ls y.f2.ls _ (rd_keep HX.out X.below) (rd_keep HY.out X.below) hn hm).mono ?_
        rintro e v2 ⟨rfl, hv2⟩
        clear X_0 X_1 X_2 X_3 X_f0 X_f1 X_f2 X_f3 X_t
        clear Y_0 Y_1 Y_2 Y_3 Y_f0 Y_f1 Y_f2 Y_f3 Y_t
        replace X := X.more hv2
        replace Y := Y.more hv2
        have zhv2 := hv2.size
        clear hv2
        have X_0 := X.cells 0 _ rfl
        have X_1 := X.cells 1 _ rfl
        have X_2 := X.cells 2 _ rfl
        have X_3 := X.cells 3 _ rfl
        have X_f0 := X.free 0 (by simp)
        have X_f1 := X.free 1 (by simp)
        have X_f2 := X.free 2 (by simp)
        have X_f3 := X.free 3 (by simp)
        have X_t := X.there
        have Y_0 := Y.cells 0 _ rfl
        have Y_1 := Y.cells 1 _ rfl
        have Y_2 := Y.cells 2 _ rfl
        have Y_3 := Y.cells 3 _ rfl
        have Y_f0 := Y.free 0 (by simp)
        have Y_f1 := Y.free 1 (by simp)
        have Y_f2 := Y.free 2 (by simp)
        have Y_f3 := Y.free 3 (by simp)
        have Y_t := Y.there
        rw [h2]
        go_wp2
        go_ret
        exact rpost (by rw [HD.out]; rfl) X.below
      have HL := Lib.hid (of_decide_eq_true h2)
      cases h3 : (!(x.f3 == y.f3))
      · have HD := Lib.hid (same_yes (x := x) (y := y) k0.out k1.out HL.out (by simpa using h3))
        go_enter Try.func34, Try.ntmps34
        go_upto_region 5 with fail
        have X := (Box.new (Below.refl _ w) [.int .i64 x.f0, .int .i64 x.f1, .slice x.f2.A x.f2.ls.length x.f2.cap, .bool x.f3] 43 (g := w.heap.size) rfl).alloc (.cells #[.int .i64 y.f0, .int .i64 y.f1, .slice y.f2.A y.f2.ls.length y.f2.cap, .bool y.f3] 43)
        have Y := Box.new (al (Below.refl _ w) (o := (.cells #[.int .i64 x.f0, .int .i64 x.f1, .slice x.f2.A x.f2.ls.length x.f2.cap, .bool x.f3] 43))) [.int .i64 y.f0, .int .i64 y.f1, .slice y.f2.A y.f2.ls.length y.f2.cap, .bool y.f3] 43 (g := w.heap.size + 1) (by simp only [size_alloc'])
        generalize ((w.alloc (.cells #[.int .i64 x.f0, .int .i64 x.f1, .slice x.f2.A x.f2.ls.length x.f2.cap, .bool x.f3] 43)).alloc (.cells #[.int .i64 y.f0, .int .i64 y.f1, .slice y.f2.A y.f2.ls.length y.f2.cap, .bool y.f3] 43)) = W1 at X Y ⊢
        have X_0 := X.cells 0 _ rfl
        have X_1 := X.cells 1 _ rfl
        have X_2 := X.cells 2 _ rfl
        have X_3 := X.cells 3 _ rfl
        have X_f0 := X.free 0 (by simp)
        have X_f1 := X.free 1 (by simp)
        have X_f2 := X.free 2 (by simp)
        have X_f3 := X.free 3 (by simp)
        have X_t := X.there
        have Y_0 := Y.cells 0 _ rfl
        have Y_1 := Y.cells 1 _ rfl
        have Y_2 := Y.cells 2 _ rfl
        have Y_3 := Y.cells 3 _ rfl
        have Y_f0 := Y.free 0 (by simp)
        have Y_f1 := Y.free 1 (by simp)
        have Y_f2 := Y.free 2 (by simp)
        have Y_f3 := Y.free 3 (by simp)
        have Y_t := Y.there
        have X_0 := X.cells 0 _ rfl
        have X_1 := X.cells 1 _ rfl
        have X_2 := X.cells 2 _ rfl
        have X_3 := X.cells 3 _ rfl
        have X_f0 := X.free 0 (by simp)
        have X_f1 := X.free 1 (by simp)
        have X_f2 := X.free 2 (by simp)
        have X_f3 := X.free 3 (by simp)
        have X_t := X.there
        have Y_0 := Y.cells 0 _ rfl
        have Y_1 := Y.cells 1 _ rfl
        have Y_2 := Y.cells 2 _ rfl
        have Y_3 := Y.cells 3 _ rfl
        have Y_f0 := Y.free 0 (by simp)
        have Y_f1 := Y.free 1 (by simp)
        have Y_f2 := Y.free 2 (by simp)
        have Y_f3 := Y.free 3 (by simp)
        have Y_t := Y.there
        go_wp2_with fail
        refine (eqS_any x.f2.A y.f2.A x.f2.cap y.f2.cap x.f2.ls y.f2.ls _ (rd_keep HX.out X.below) (rd_keep HY.out X.below) hn hm).mono ?_
        rintro e v2 ⟨rfl, hv2⟩
        clear X_0 X_1 X_2 X_3 X_f0 X_f1 X_f2 X_f3 X_t
        clear Y_0 Y_1 Y_2 Y_3 Y_f0 Y_f1 Y_f2 Y_f3 Y_t
        replace X := X.more hv2
        replace Y := Y.more hv2
        have zhv2 := hv2.size
        clear hv2
        have X_0 := X.cells 0 _ rfl
        have X_1 := X.cells 1 _ rfl
        have X_2 := X.cells 2 _ rfl
        have X_3 := X.cells 3 _ rfl
        have X_f0 := X.free 0 (by simp)
        have X_f1 := X.free 1 (by simp)
        have X_f2 := X.free 2 (by simp)
        have X_f3 := X.free 3 (by simp)
        have X_t := X.there
        have Y_0 := Y.cells 0 _ rfl
        have Y_1 := Y.cells 1 _ rfl
        have Y_2 := Y.cells 2 _ rfl
        have Y_3 := Y.cells 3 _ rfl
        have Y_f0 := Y.free 0 (by simp)
        have Y_f1 := Y.free 1 (by simp)
        have Y_f2 := Y.free 2 (by simp)
        have Y_f3 := Y.free 3 (by simp)
        have Y_t := Y.there
        rw [h2]
        go_wp2
        go_ret
        exact rpost (by rw [HD.out]; rfl) X.below
      · have HD := Lib.hid (same_no (x := x) (y := y) (fun h => by simp [h.2.2.2] at h3))
        go_enter Try.func34, Try.ntmps34
        go_upto_region 5 with fail
        have X := (Box.new (Below.refl _ w) [.int .i64 x.f0, .int .i64 x.f1, .slice x.f2.A x.f2.ls.length x.f2.cap, .bool x.f3] 43 (g := w.heap.size) rfl).alloc (.cells #[.int .i64 y.f0, .int .i64 y.f1, .slice y.f2.A y.f2.ls.length y.f2.cap, .bool y.f3] 43)
        have Y := Box.new (al (Below.refl _ w) (o := (.cells #[.int .i64 x.f0, .int .i64 x.f1, .slice x.f2.A x.f2.ls.length x.f2.cap, .bool x.f3] 43))) [.int .i64 y.f0, .int .i64 y.f1, .slice y.f2.A y.f2.ls.length y.f2.cap, .bool y.f3] 43 (g := w.heap.size + 1) (by simp only [size_alloc'])
        generalize ((w.alloc (.cells #[.int .i64 x.f0, .int .i64 x.f1, .slice x.f2.A x.f2.ls.length x.f2.cap, .bool x.f3] 43)).alloc (.cells #[.int .i64 y.f0, .int .i64 y.f1, .slice y.f2.A y.f2.ls.length y.f2.cap, .bool y.f3] 43)) = W1 at X Y ⊢
        have X_0 := X.cells 0 _ rfl
        have X_1 := X.cells 1 _ rfl
        have X_2 := X.cells 2 _ rfl
        have X_3 := X.cells 3 _ rfl
        have X_f0 := X.free 0 (by simp)
        have X_f1 := X.free 1 (by simp)
        have X_f2 := X.free 2 (by simp)
        have X_f3 := X.free 3 (by simp)
        have X_t := X.there
        have Y_0 := Y.cells 0 _ rfl
        have Y_1 := Y.cells 1 _ rfl
        have Y_2 := Y.cells 2 _ rfl
        have Y_3 := Y.cells 3 _ rfl
        have Y_f0 := Y.free 0 (by simp)
        have Y_f1 := Y.free 1 (by simp)
        have Y_f2 := Y.free 2 (by simp)
        have Y_f3 := Y.free 3 (by simp)
        have Y_t := Y.there
        have X_0 := X.cells 0 _ rfl
        have X_1 := X.cells 1 _ rfl
        have X_2 := X.cells 2 _ rfl
        have X_3 := X.cells 3 _ rfl
        have X_f0 := X.free 0 (by simp)
        have X_f1 := X.free 1 (by simp)
        have X_f2 := X.free 2 (by simp)
        have X_f3 := X.free 3 (by simp)
        have X_t := X.there
        have Y_0 := Y.cells 0 _ rfl
        have Y_1 := Y.cells 1 _ rfl
        have Y_2 := Y.cells 2 _ rfl
        have Y_3 := Y.cells 3 _ rfl
        have Y_f0 := Y.free 0 (by simp)
        have Y_f1 := Y.free 1 (by simp)
        have Y_f2 := Y.free 2 (by simp)
        have Y_f3 := Y.free 3 (by simp)
        have Y_t := Y.there
        go_wp2_with fail
        refine (eqS_any x.f2.A y.f2.A x.f2.cap y.f2.cap x.f2.ls y.f2.ls _ (rd_keep HX.out X.below) (rd_keep HY.out X.below) hn hm).mono ?_
        rintro e v2 ⟨rfl, hv2⟩
        clear X_0 X_1 X_2 X_3 X_f0 X_f1 X_f2 X_f3 X_t
        clear Y_0 Y_1 Y_2 Y_3 Y_f0 Y_f1 Y_f2 Y_f3 Y_t
        replace X := X.more hv2
        replace Y := Y.more hv2
        have zhv2 := hv2.size
        clear hv2
        have X_0 := X.cells 0 _ rfl
        have X_1 := X.cells 1 _ rfl
        have X_2 := X.cells 2 _ rfl
        have X_3 := X.cells 3 _ rfl
        have X_f0 := X.free 0 (by simp)
        have X_f1 := X.free 1 (by simp)
        have X_f2 := X.free 2 (by simp)
        have X_f3 := X.free 3 (by simp)
        have X_t := X.there
        have Y_0 := Y.cells 0 _ rfl
        have Y_1 := Y.cells 1 _ rfl
        have Y_2 := Y.cells 2 _ rfl
        have Y_3 := Y.cells 3 _ rfl
        have Y_f0 := Y.free 0 (by simp)
        have Y_f1 := Y.free 1 (by simp)
        have Y_f2 := Y.free 2 (by simp)
        have Y_f3 := Y.free 3 (by simp)
        have Y_t := Y.there
        rw [h2]
        go_wp2
        go_ret
        exact rpost (by rw [HD.out]; rfl) X.below
    · have HD := Lib.hid (same_no (x := x) (y := y) (fun h => by simp [h.2.1] at h1))
      go_enter Try.func34, Try.ntmps34
      go_wp2
      go_ret
      exact rpost (by rw [HD.out]; rfl) (al (al (Below.refl _ _)))
  · have HD := Lib.hid (same_no (x := x) (y := y) (fun h => by simp [h.1] at h0))
    go_enter Try.func34, Try.ntmps34
    go_wp2
    go_ret
    exact rpost (by rw [HD.out]; rfl) (al (al (Below.refl _ _)))
/-- heap k is written anew: all its cells; its layers in new memory. -/
theorem putAll {w w' : World} {lo top top' g c k : Nat} {l : List R} (x : R) (h : Own w lo top (some ⟨g, 0, none⟩) c l) (hk : k < l.length) (hr : RowOwn w' lo x.f2) (ht : top ≤ top')
    (hn : ∀ j, x.f2.blk = some j → j < top' ∧ j ≠ g ∧ (l[k].f2.blk = some j ∨ top ≤ j))
    (he : ∀ j, j < w.heap.size → l[k].f2.blk ≠ some j → w'.heap[j]? = w.heap[j]?) :
    Own ((((w'.setCell ⟨g, k * 4, none⟩ (.int .i64 x.f0)).setCell ⟨g, k * 4 + 1, none⟩ (.int .i64 x.f1)).setCell ⟨g, k * 4 + 2, none⟩ (.slice x.f2.A x.f2.ls.length x.f2.cap)).setCell ⟨g, k * 4 + 3, none⟩ (.bool x.f3)) lo top' (some ⟨g, 0, none⟩) c (l.set k x) := by
  have hm : l[k].f2 ∈ l.map R.f2 := List.mem_map.2 ⟨_, List.getElem_mem hk, rfl⟩
  have hgk : l[k].f2.blk ≠ some g := fun e => (h.inn.far _ hm g e).2 rfl
  have ho : w'.ownsRow lo 43 4 (.slice (some ⟨g, 0, none⟩) l.length c) l.length (flat l) :=
    own_congr h.out (fun j hj => by
      have e : g = j := by simpa [Value.ownBlock] using hj
      subst e
      exact he g (h.out.lt g rfl).2 hgk)
  refine ⟨?_, fun j hj => Nat.lt_of_lt_of_le (h.low j (by simpa [Value.ownBlock] using hj)) ht, ?_⟩
  · have := ((((ho.stored (k * 4) (.int .i64 x.f0)).1.stored (k * 4 + 1) (.int .i64 x.f1)).1.stored (k * 4 + 2) (.slice x.f2.A x.f2.ls.length x.f2.cap)).1.stored (k * 4 + 3) (.bool x.f3)).1
    rw [flat_set l k x hk] at this
    simpa using this
  · have hi : (l.map R.f2)[k]? = some l[k].f2 := by simp [hk]
    have h1 := h.inn.set (w' := w') (top' := top') (r := x.f2) hi hr ht (fun j hj => ⟨(hn j hj).1, fun e => (hn j hj).2.1 (by simpa [Value.ownBlock] using e.symm), (hn j hj).2.2⟩) (fun j h1 _ h3 => he j h1 h3)
    rw [List.map_set]
    have e : (Value.slice (some ⟨g, 0, none⟩) (l.set k x).length c).ownBlock = (Value.slice (some ⟨g, 0, none⟩) l.length c).ownBlock := rfl
    rw [e]
    refine h1.congr fun j _ _ h4 => ?_
    have hj : j ≠ g := fun e => h4 (by rw [e]; rfl)
    rw [Below.heap_setCell _ ⟨g, _, none⟩ _ j hj, Below.heap_setCell _ ⟨g, _, none⟩ _ j hj, Below.heap_setCell _ ⟨g, _, none⟩ _ j hj, Below.heap_setCell _ ⟨g, _, none⟩ _ j hj]
/-- the same heaps anew. -/
def TosPost (l : List R) (w : World) (e : Ending) (w' : World) : Prop :=
  ∃ m : List R, pl m = pl l ∧ e = .returned (.slice (some ⟨w.heap.size, 0, none⟩) m.length m.length) ∧ Own w' w.heap.size w'.heap.size (some ⟨w.heap.size, 0, none⟩) m.length m ∧ Below w.heap.size w w'
theorem pl_upto {l m : List R} (h : m.length = l.length) (hp : ∀ j (hj : j < l.length) (hm : j < m.length), m[j].pure = l[j].pure) : pl m = pl l := by
  unfold pl
  apply List.ext_getElem (by simpa using h)
  intro j h1 h2
  simp only [List.getElem_map]
  exact hp j (by simpa using h2) (by simpa using h1)
set_option maxHeartbeats 1000000 in
theorem toS_any (A : Option Addr) (cap : Nat) (l : List R) (w : World) (hr : Hs w w.heap.size A l) :
    Calls Try.prog 37 #[.slice A l.length cap] w (TosPost l w) := by
  obtain ⟨i0, hi, hz0, hz1, hz2⟩ := info_parts info_T
  have HR := Lib.hid hr
  have hn := hr.len
  clear hr
  have HI := Lib.hid hz2; clear hz2
  have HI1 := Lib.hid hz1; clear hz1
  have c1 : i0.bytes * l.length ≤ 281474976710656 := by rw [HI.out]; omega
  have c2 : l.length ≤ maxLen := by unfold maxLen; omega
  go_enter Try.func37, Try.ntmps37
  go_wp2_with (at_make; go_must (refine wpList_make_full _ rfl _ _ 24 rfl w.heap.size 43 i0 _ 4 Try.underlying24 hi hz0 HI1.out _ _ _ _ l.length rfl rfl rfl rfl c1 c2 (Nat.le_refl _) ?_; intro w1 hown1 hg1))
  have hB1 : Below w.heap.size w w1 := (Below.refl _ w).grown hg1 (Nat.le_refl _) (by intro k hk; cases hk)
  have hown : Own w1 w.heap.size w1.heap.size (some ⟨w.heap.size, 0, none⟩) l.length (List.replicate l.length zero) := by
    have h0 : w1.ownsRow w.heap.size 43 4 (.slice (some ⟨w.heap.size, 0, none⟩) (List.replicate l.length zero).length l.length) (List.replicate l.length zero).length (flat (List.replicate l.length zero)) := by
      rw [← made, List.length_replicate]; exact hown1
    refine ⟨h0, fun k hk => (h0.lt k hk).2, ?_⟩
    have hz : ∀ r ∈ (List.replicate l.length zero).map R.f2, r = Row.nil := by
      intro r hr
      obtain ⟨x, hx, rfl⟩ := List.mem_map.1 hr
      rw [(List.mem_replicate.1 hx).2]; rfl
    exact ⟨fun r hr => (by rw [hz r hr]; exact RowOwn.nil _ _), fun r hr k hk => (by have e := hz r hr; subst e; cases hk), fun i j r s hi hj _ k hk => (by have e := hz r (List.mem_of_getElem? hi); subst e; cases hk)⟩
  clear hown1 hg1 c1 c2
  go_loopw [4] (fun i wr => ∃ (k : Nat) (m : List R), k ≤ l.length ∧ i = .int .i64 k ∧ Hid (m.length = l.length) ∧ Hid (∀ j (hj : j < l.length) (hm : j < m.length), j < k → m[j].pure = l[j].pure) ∧ Own wr w.heap.size wr.heap.size (some ⟨w.heap.size, 0, none⟩) l.length m ∧ Below w.heap.size w wr) (fun i _ => l.length - (intOf i).toNat)
  case atStart => exact ⟨0, _, Nat.zero_le _, rfl, Lib.hid (by simp), Lib.hid (fun j _ _ h => by omega), hown, hB1⟩
  case round =>
    clear hown hB1
    obtain ⟨k, m, hk, rfl, HM, HP, hown, hB⟩ := hrel
    have HO := Lib.hid hown; clear hown
    have HB := Lib.hid hB; clear hB
    by_cases hlt : k < l.length
    · obtain ⟨x, hx⟩ : ∃ x, l[k] = x := ⟨_, rfl⟩
      have hS := HR.out.below HB.out (Nat.le_refl _)
      obtain ⟨b, o, rfl, hb, h0, h1, h2, h3⟩ := hS.at hlt hx
      have hrow := hS.row hlt
      rw [hx] at hrow
      clear hS
      have HX := Lib.hid hx; clear hx
      have HL := Lib.hid hlt
      go_wp2_with fail
      refine (to_any x wr (hrow.1.mono HB.out.size) hrow.2).mono ?_
      rintro e w2 ⟨r, hrl, rfl, hro, hB2⟩
      have HRO := Lib.hid hro; clear hro
      have HB2 := Lib.hid hB2; clear hB2
      have hmk : k < m.length := by rw [HM.out]; exact hlt
      have O2 := HO.out.keep HB2.out
      have HO2 := Lib.hid O2
      obtain ⟨y, hy⟩ : ∃ y, m[k] = y := ⟨_, rfl⟩
      obtain ⟨m0, m1, m2, m3⟩ := O2.at hmk hy
      have g0 : w2.frozen? ⟨w.heap.size, k * 4, none⟩ = false := O2.out.frozenAt _
      have g1 : w2.frozen? ⟨w.heap.size, k * 4 + 1, none⟩ = false := O2.out.frozenAt _
      have g2 : w2.frozen? ⟨w.heap.size, k * 4 + 2, none⟩ = false := O2.out.frozenAt _
      have g3 : w2.frozen? ⟨w.heap.size, k * 4 + 3, none⟩ = false := O2.out.frozenAt _
      have HMK := Lib.hid hmk
      have HRL := Lib.hid hrl
      clear h0 h1 h2 h3 O2 hy hmk hrl hrow
      go_wp2
      go_roundw
      case rel =>
        have hsz := HB2.out.size
        have hPA := putAll (w := wr) (w' := w2) (top' := w2.heap.size) ⟨x.f0, x.f1, r, x.f3⟩ HO.out HMK.out (HRO.out.base HB.out.size) hsz (fun j hj => by
            have := HRO.out.lt j hj
            have h1 := HB.out.size
            have h2 : w.heap.size < wr.heap.size := (HO.out.out.lt _ rfl).2
            exact ⟨this.2, by omega, .inr this.1⟩) (fun j hj _ => HB2.out.block j hj)
        refine ⟨k + 1, m.set k ⟨x.f0, x.f1, r, x.f3⟩, HL.out, by go_num, Lib.hid (by rw [List.length_set]; exact HM.out), Lib.hid (fun j hj hm hjk => ?_), ?_, ?_⟩
        · by_cases he : j = k
          · subst he
            rw [List.getElem_set_self, HX.out]
            unfold R.pure
            rw [HRL.out]
          · rw [List.getElem_set_ne (fun e => he e.symm)]
            exact HP.out j hj (by simpa using hm) (by omega)
        · simp only [size_set']; exact hPA
        · have hb3 := be HB.out HB2.out
          exact (((hb3.setCell (Nat.le_refl _) _).setCell (Nat.le_refl _) _).setCell (Nat.le_refl _) _).setCell (Nat.le_refl _) _
      case measure => simp [intOf]; omega
    · have hkk : k = l.length := by omega
      go_wp2
      go_ret
      refine ⟨m, pl_upto HM.out (fun j hj hm => HP.out j hj hm (by omega)), by rw [HM.out]; rfl, by rw [HM.out]; exact HO.out, HB.out⟩
def EqPost (l m : List R) (w : World) (e : Ending) (w' : World) : Prop := e = .returned (.bool (decide (pl l = pl m))) ∧ Below w.heap.size w w'
theorem eq_yes {l m : List R} {w w' : World} (h : pl l = pl m) (hw : Below w.heap.size w w') : EqPost l m w (.returned (.bool true)) w' := ⟨by rw [decide_eq_true h], hw⟩
theorem eq_no {l m : List R} {w w' : World} (h : pl l ≠ pl m) (hw : Below w.heap.size w w') : EqPost l m w (.returned (.bool false)) w' := ⟨by rw [decide_eq_false h], hw⟩
theorem pl_ne {l m : List R} {k : Nat} {x y : R} (h1 : k < l.length) (h2 : k < m.length) (hx : l[k] = x) (hy : m[k] = y) (h : same x y = false) : pl l ≠ pl m := by
  intro e
  have a := pl_get l k h1
  have b := pl_get m k h2
  rw [hx] at a; rw [hy] at b
  have : x.pure = y.pure := by rw [← a, ← b]; congr 1
  exact (of_decide_eq_false h) this
set_option maxHeartbeats 1000000 in
theorem eqS_any (A A' : Option Addr) (cap cap' : Nat) (l m : List R) (w : World) (hr : Hs w w.heap.size A l) (hr' : Hs w w.heap.size A' m) :
    Calls Try.prog 39 #[.slice A l.length cap, .slice A' m.length cap'] w (EqPost l m w) := by
  have hn := hr.len
  have hn' := hr'.len
  have HR := Lib.hid hr; clear hr
  have HR' := Lib.hid hr'; clear hr'
  by_cases hl : l.length = m.length
  · have hne : ((l.length : Int) != m.length) = false := by rw [bne_eq_false_iff_eq]; omega
    have HL := Lib.hid hl; clear hl
    go_enter Try.func39, Try.ntmps39
    go_wp2
    go_loopw [5] (fun i wr => ∃ k : Nat, k ≤ l.length ∧ i = .int .i64 k ∧ Hid (∀ j (hj : j < l.length) (hm : j < m.length), j < k → l[j].pure = m[j].pure) ∧ Below w.heap.size w wr) (fun i _ => l.length - (intOf i).toNat)
    case atStart => exact ⟨0, Nat.zero_le _, rfl, Lib.hid (fun j _ _ h => by omega), Below.refl _ _⟩
    case round =>
      obtain ⟨k, hk, rfl, HP, hB⟩ := hrel
      have HB := Lib.hid hB; clear hB
      by_cases hlt : k < l.length
      · have hlt' : k < m.length := by have := HL.out; omega
        obtain ⟨x, hx⟩ : ∃ x, l[k] = x := ⟨_, rfl⟩
        obtain ⟨y, hy⟩ : ∃ y, m[k] = y := ⟨_, rfl⟩
        have hS := HR.out.below HB.out (Nat.le_refl _)
        have hS' := HR'.out.below HB.out (Nat.le_refl _)
        obtain ⟨b, o, rfl, hb, h0, h1, h2, h3⟩ := hS.at hlt hx
        obtain ⟨b', o', rfl, hb', k0, k1, k2, k3⟩ := hS'.at hlt' hy
        have hrow := hS.row hlt
        have hrow' := hS'.row hlt'
        rw [hx] at hrow
        rw [hy] at hrow'
        have HX := Lib.hid hx; clear hx
        have HY := Lib.hid hy; clear hy
        have HRX := Lib.hid (hrow.1.mono HB.out.size); have HNX := Lib.hid hrow.2
        have HRY := Lib.hid (hrow'.1.mono HB.out.size); have HNY := Lib.hid hrow'.2
        have HLT := Lib.hid hlt; have HLT' := Lib.hid hlt'
        clear hS hS' hrow hrow'
        go_wp2_with fail
        go_still_tail 8, (by kernel_rfl)
        obtain ⟨w2, hw2⟩ : ∃ W : World, W = wr.drew := ⟨_, rfl⟩
        change wpList _ _ _ _ _ wr.drew
        rw [← hw2]
        have hbd : Below wr.heap.size wr w2 := by rw [hw2]; exact (Below.refl _ _).drew
        have HB2 := Lib.hid (be HB.out hbd)
        have hrx := rd_keep HRX.out hbd
        have hry := rd_keep HRY.out hbd
        clear hw2 h0 k0 h1 k1 h2 k2 h3 k3 HB hbd HRX HRY
        have HRX := Lib.hid hrx; clear hrx
        have HRY := Lib.hid hry; clear hry
        go_wp2_with fail
        refine (eq_any x y w2 HRX.out HRY.out (by have := HNX.out; unfold maxLen; omega) (by have := HNY.out; unfold maxLen; omega)).mono ?_
        rintro e w3 ⟨rfl, hB3⟩
        have HB3 := Lib.hid (be HB2.out hB3); clear hB3 HB2
        cases he : same x y
        · have HE2 := Lib.hid (pl_ne HLT.out HLT'.out HX.out HY.out he); clear he
          go_wp2
          go_ret
          exact eq_no HE2.out HB3.out
        · have HE := Lib.hid (of_decide_eq_true he); clear he
          go_wp2
          go_roundw
          case rel => exact ⟨k + 1, HLT.out, by go_num, Lib.hid (fun j hj hm hjk => by
            by_cases h1 : j = k
            · subst h1; rw [HX.out, HY.out]; exact HE.out
            · exact HP.out j hj hm (by omega)), HB3.out⟩
          case measure => have := HLT.out; simp [intOf]; omega
      · go_wp2
        go_ret
        exact eq_yes (pl_upto HL.out (fun j hj hm => HP.out j hm hj (by omega))) HB.out
  · have hne : ((l.length : Int) != m.length) = true := by rw [bne_iff_ne]; omega
    go_enter Try.func39, Try.ntmps39
    go_wp2
    go_ret
    exact eq_no (fun e => hl (by rw [← pl_len l, ← pl_len m, e])) (Below.refl _ _)
def szL (left : Int) : List R → Int
  | [] => left
  | x :: l => if szV left x.f2.ls.length < 0 then -1 else szL (szV left x.f2.ls.length) l
def szA (left : Int) (l : List R) : Int := if left < l.length then -1 else szL (left - l.length) l
theorem szL_ok {l : List R} : ∀ {left : Int}, 0 ≤ left → left ≤ 1048576 → szL left l = -1 ∨ 0 ≤ szL left l ∧ ∀ x ∈ l, x.f2.ls.length ≤ 1048576 := by
  induction l with
  | nil => intro left h0 h1; exact .inr ⟨h0, fun x h => by cases h⟩
  | cons x l ih =>
    intro left h0 h1
    unfold szL
    rcases szV_range (n := x.f2.ls.length) h0 h1 with ⟨h2, _⟩ | ⟨h2, h3, h4⟩
    · rw [if_pos (by omega)]; exact .inl rfl
    · rw [if_neg (by omega)]
      rcases ih h2 h3 with h5 | ⟨h5, h6⟩
      · exact .inl h5
      · refine .inr ⟨h5, fun y hy => ?_⟩
        rcases List.mem_cons.1 hy with rfl | hy
        · omega
        · exact h6 y hy
theorem szA_ok (l : List R) : szA 1048576 l = -1 ∨ 0 ≤ szA 1048576 l ∧ l.length ≤ 1048576 ∧ ∀ x ∈ l, x.f2.ls.length ≤ 1048576 := by
  unfold szA
  split
  · exact .inl rfl
  · rcases szL_ok (l := l) (left := 1048576 - l.length) (by omega) (by omega) with h | ⟨h, h2⟩
    · exact .inl h
    · exact .inr ⟨h, by omega, h2⟩
theorem szL_step {l : List R} {q : Int} {k : Nat} {x : R} (hk : k < l.length) (hx : l[k] = x) : szL q (l.drop k) = if szV q x.f2.ls.length < 0 then -1 else szL (szV q x.f2.ls.length) (l.drop (k + 1)) := by
  rw [List.drop_eq_getElem_cons hk, hx]; rfl
set_option maxHeartbeats 800000 in
theorem szS_any (A : Option Addr) (cap : Nat) (l : List R) (w : World) (hr : Arg w A l) :
    Calls Try.prog 35 #[.slice A l.length cap, .int .i64 1048576] w (RPost (.int .i64 (szA 1048576 l)) w) := by
  have hn := hr.len
  unfold maxLen at hn
  have HR := Lib.hid hr; clear hr
  by_cases hs : (1048576 : Int) < l.length
  · have H := Lib.hid (show szA 1048576 l = -1 by unfold szA; rw [if_pos hs])
    go_enter Try.func35, Try.ntmps35
    go_wp2
    go_ret
    exact rpost (by rw [H.out]; rfl) (Below.refl _ _)
  · have H := Lib.hid (show szL (1048576 - l.length) (l.drop 0) = szA 1048576 l by unfold szA; rw [if_neg hs]; rfl)
    go_enter Try.func35, Try.ntmps35
    go_wp2
    go_loopw [1, 5] (fun q i wr => ∃ (k : Nat) (z : Int), k ≤ l.length ∧ i = .int .i64 k ∧ q = .int .i64 z ∧ 0 ≤ z ∧ z ≤ 1048576 ∧ Hid (szL z (l.drop k) = szA 1048576 l) ∧ Below w.heap.size w wr) (fun _ i _ => l.length - (intOf i).toNat)
    case atStart => exact ⟨0, 1048576 - l.length, Nat.zero_le _, rfl, rfl, by omega, by omega, H, Below.refl _ _⟩
    case round =>
      obtain ⟨k, z, hk, rfl, rfl, hz0, hz1, HP, HB⟩ := hrel
      by_cases hlt : k < l.length
      · obtain ⟨b, o, rfl, hb, hc⟩ := HR.out.rd.at (k := k * 4) (by rw [flat_n]; omega)
        obtain ⟨x, hx⟩ : ∃ x, l[k] = x := ⟨_, rfl⟩
        have h0 : wr.cell? ⟨b, o + k * 4, none⟩ = some (.int .i64 x.f0) := by rw [← hx]; exact ((bcell HB).1 _ _ hb).trans (hc _ _ (flat_0 l k hlt))
        have h1 : wr.cell? ⟨b, o + k * 4 + 1, none⟩ = some (.int .i64 x.f1) := by rw [← hx]; exact ((bcell HB).1 _ _ hb).trans (hc _ _ (flat_1 l k hlt))
        have h2 : wr.cell? ⟨b, o + k * 4 + 2, none⟩ = some (.slice x.f2.A x.f2.ls.length x.f2.cap) := by rw [← hx]; exact ((bcell HB).1 _ _ hb).trans (hc _ _ (flat_2 l k hlt))
        have h3 : wr.cell? ⟨b, o + k * 4 + 3, none⟩ = some (.bool x.f3) := by rw [← hx]; exact ((bcell HB).1 _ _ hb).trans (hc _ _ (flat_3 l k hlt))
        have hxn : x.f2.ls.length ≤ maxLen := by rw [← hx]; exact (HR.out.rows _ (List.getElem_mem hlt)).2
        have HST := Lib.hid ((szL_step (q := z) hlt hx).symm.trans HP.out)
        have HV := szV_range (n := x.f2.ls.length) hz0 hz1
        have HL := Lib.hid hlt
        clear hc hx
        go_wp2_with fail
        refine (szH_any x z wr hz0 hz1 hxn).mono ?_
        rintro e w2 ⟨rfl, hB2⟩
        replace HB := be HB hB2
        obtain ⟨v, hv⟩ : ∃ v, szV z x.f2.ls.length = v := ⟨_, rfl⟩
        rw [hv] at HST HV ⊢
        clear hv h0 h1 h2 h3 hxn
        rcases HV with ⟨rfl, _⟩ | ⟨h5, h6, _⟩
        · go_wp2
          go_ret
          exact rpost (by rw [← HST.out]; rfl) HB
        · have HST2 := Lib.hid (show szL v (l.drop (k + 1)) = szA 1048576 l by have := HST.out; rwa [if_neg (by omega)] at this)
          clear HST HP
          go_wp2
          go_roundw
          case rel => exact ⟨k + 1, v, HL.out, by go_num, rfl, h5, h6, HST2, HB⟩
          case measure => have := HL.out; simp [intOf]; omega
      · have HE := Lib.hid (show z = szA 1048576 l by have := HP.out; rwa [List.drop_eq_nil_of_le (by omega)] at this)
        clear HP
        go_wp2
        go_ret
        exact rpost (by rw [HE.out]; rfl) HB
end Go.Proofs.Ytoompggbdedkmaa.HeapE
