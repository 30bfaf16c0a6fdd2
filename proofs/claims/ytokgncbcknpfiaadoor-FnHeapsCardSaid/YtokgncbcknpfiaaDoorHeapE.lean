/- The laws' helpers over heaps: eqHeap, eqHeapS, toHeapS, szHeapS. -/
import Derived.Test.YtokgncbcknpfiaaDoorHeapW
import Derived.Test.YtokgncbcknpfiaaDoorRegn2
import Derived.Deep.CutBlock
import Derived.Deep.CutRange
import Derived.Deep.DeepCutAuto
namespace Go.Proofs.YtokgncbcknpfiaaDoor.HeapE
open Go.RowKit Go.Proofs.YtokgncbcknpfiaaDoor.Mem Go.Proofs.YtokgncbcknpfiaaDoor.Base Go.Proofs.YtokgncbcknpfiaaDoor.SInt Go.Proofs.YtokgncbcknpfiaaDoor.Boxes Go.Proofs.YtokgncbcknpfiaaDoor.Keep Go.Proofs.YtokgncbcknpfiaaDoor.Regn Go.Proofs.YtokgncbcknpfiaaDoor.Nest Go.Proofs.YtokgncbcknpfiaaDoor.HeapS Go.Proofs.YtokgncbcknpfiaaDoor.HeapW
set_option linter.unusedVariables false
set_option maxRecDepth 100000
def same (x y : R) : Bool := decide (x.pure = y.pure)
theorem same_yes {x y : R} (h0 : x.f0 = y.f0) (h1 : x.f1 = y.f1) (h2 : x.f2.ls = y.f2.ls) (h3 : x.f3 = y.f3) : same x y = true := decide_eq_true (by unfold R.pure; rw [h0, h1, h2, h3])
theorem same_no {x y : R} (h : ¬ (x.f0 = y.f0 ∧ x.f1 = y.f1 ∧ x.f2.ls = y.f2.ls ∧ x.f3 = y.f3)) : same x y = false := decide_eq_false (fun e => by unfold R.pure at e; injection e with a b c d; exact h ⟨a, b, c, d⟩)
/-- heap k is written anew: all its cells; its layers in new memory. -/
theorem putAll {w w' : World} {lo top top' g c k : Nat} {l : List R} (x : R) (h : Own w lo top (some ⟨g, 0, none⟩) c l) (hk : k < l.length) (hr : RowOwn w' lo x.f2) (ht : top ≤ top')
    (hn : ∀ j, x.f2.blk = some j → j < top' ∧ j ≠ g ∧ (l[k].f2.blk = some j ∨ top ≤ j))
    (he : ∀ j, j < w.heap.size → l[k].f2.blk ≠ some j → w'.heap[j]? = w.heap[j]?) :
    Own ((((w'.setCell ⟨g, k * 4, none⟩ (.int .i64 x.f0)).setCell ⟨g, k * 4 + 1, none⟩ (.int .i64 x.f1)).setCell ⟨g, k * 4 + 2, none⟩ (.slice x.f2.A x.f2.ls.length x.f2.cap)).setCell ⟨g, k * 4 + 3, none⟩ (.bool x.f3)) lo top' (some ⟨g, 0, none⟩) c (l.set k x) := by
  have hm : l[k].f2 ∈ l.map R.f2 := List.mem_map.2 ⟨_, List.getElem_mem hk, rfl⟩
  have hgk : l[k].f2.blk ≠ some g := fun e => (h.inn.far _ hm g e).2 rfl
  have ho : w'.ownsRow lo 41 4 (.slice (some ⟨g, 0, none⟩) l.length c) l.length (flat l) :=
    own_congr h.out (fun j hj => by
      have e : g = j := by simpa [Value.ownBlock] using hj
      subst e
      exact he g (h.out.lt g rfl).2 hgk)
  refine ⟨?_, fun j hj => Nat.lt_of_lt_of_le (h.low j (by simpa [Value.ownBlock] using hj)) ht, ?_⟩
  · have := ((((ho.stored (k * 4) (.int .i64 x.f0)).1.stored (k * 4 + 1) (.int .i64 x.f1)).1.stored (k * 4 + 2) (.slice x.f2.A x.f2.ls.length x.f2.cap)).1.stored (k * 4 + 3) (.bool x.f3)).1
    rw [flat_set l k x hk] at this
    simpa using this
  · have hi : (l.map R.f2)[k]? = some l[k].f2 := by simp [hk]
    have h1 := h.inn.set (w' := w') (top' := top') (r := x.f2) hi hr ht (fun j hj => ⟨(hn j hj).1, fun e => (hn j hj).2.1 (by simpa [Value.ownBlock] using e.symm), (hn j hj).2.2⟩) (fun j h1 _ h3 => he j h1 h3)
    rw [List.map_set]
    have e : (Value.slice (some ⟨g, 0, none⟩) (l.set k x).length c).ownBlock = (Value.slice (some ⟨g, 0, none⟩) l.length c).ownBlock := rfl
    rw [e]
    refine h1.congr fun j _ _ h4 => ?_
    have hj : j ≠ g := fun e => h4 (by rw [e]; rfl)
    rw [Below.heap_setCell _ ⟨g, _, none⟩ _ j hj, Below.heap_setCell _ ⟨g, _, none⟩ _ j hj, Below.heap_setCell _ ⟨g, _, none⟩ _ j hj, Below.heap_setCell _ ⟨g, _, none⟩ _ j hj]
theorem pl_upto {l m : List R} (h : m.length = l.length) (hp : ∀ j (hj : j < l.length) (hm : j < m.length), m[j].pure = l[j].pure) : pl m = pl l := by
  unfold pl
  apply List.ext_getElem (by simpa using h)
  intro j h1 h2
  simp only [List.getElem_map]
  exact hp j (by simpa using h2) (by simpa using h1)
end Go.Proofs.YtokgncbcknpfiaaDoor.HeapE
