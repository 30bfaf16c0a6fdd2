/- Heaps: PutLayer and TakeTons, the model's. -/
import Derived.Test.YtpbmncecejchjaaHeapV
namespace Go.Proofs.Ytpbmncecejchjaa.HeapX
open Go.RowKit Go.Proofs.Ytpbmncecejchjaa.Mem Go.Proofs.Ytpbmncecejchjaa.Base Go.Proofs.Ytpbmncecejchjaa.Within Go.Proofs.Ytpbmncecejchjaa.SInt Go.Proofs.Ytpbmncecejchjaa.Boxes Go.Proofs.Ytpbmncecejchjaa.Keep Go.Proofs.Ytpbmncecejchjaa.Regn Go.Proofs.Ytpbmncecejchjaa.Nest Go.Proofs.Ytpbmncecejchjaa.HeapS Go.Proofs.Ytpbmncecejchjaa.HeapW Go.Proofs.Ytpbmncecejchjaa.HeapE Go.Proofs.Ytpbmncecejchjaa.Heap Go.Proofs.Ytpbmncecejchjaa.Heap2 Go.Proofs.Ytpbmncecejchjaa.Heap3 Go.Proofs.Ytpbmncecejchjaa.HeapG Go.Proofs.Ytpbmncecejchjaa.HeapP Go.Proofs.Ytpbmncecejchjaa.HeapT Go.Proofs.Ytpbmncecejchjaa.HeapC Go.Proofs.Ytpbmncecejchjaa.HeapU Go.Proofs.Ytpbmncecejchjaa.HeapV
set_option linter.unusedVariables false
set_option maxRecDepth 100000
/-- heap k written anew with this row, all else of it as it was. -/
theorem putH_same {w w' : World} {lo top' g c k : Nat} {l : List R} {y : R} (r : Row) (h : Own w lo w.heap.size (some ⟨g, 0, none⟩) c l) (hk : k < l.length) (hy : l[k] = y) (hr : RowOwn w' lo r) (ht : w'.heap.size = top') (hs : w.heap.size ≤ top')
    (hn : ∀ j, r.blk = some j → j ≠ g ∧ (y.f2.blk = some j ∨ w.heap.size ≤ j)) (he : ∀ j, j < w.heap.size → y.f2.blk ≠ some j → w'.heap[j]? = w.heap[j]?) :
    (w'.ownsRow lo 91 4 (.slice (some ⟨g, 0, none⟩) l.length c) l.length (flat l)) ∧
    Own ((((w'.setCell ⟨g, k * 4, none⟩ (.int .i64 y.f0)).setCell ⟨g, k * 4 + 1, none⟩ (.int .i64 y.f1)).setCell ⟨g, k * 4 + 2, none⟩ (.slice r.A r.ls.length r.cap)).setCell ⟨g, k * 4 + 3, none⟩ (.bool y.f3)) lo top' (some ⟨g, 0, none⟩) c (l.set k ⟨y.f0, y.f1, r, y.f3⟩) := by
  subst hy
  have hm : l[k].f2 ∈ l.map R.f2 := List.mem_map.2 ⟨_, List.getElem_mem hk, rfl⟩
  refine ⟨own_congr h.out (fun j hj => by
    have e : g = j := by simpa [Value.ownBlock] using hj
    subst e
    exact he g (h.out.lt g rfl).2 (fun e => (h.inn.far _ hm g e).2 rfl)), ?_⟩
  exact putAll ⟨l[k].f0, l[k].f1, r, l[k].f3⟩ h hk hr hs (fun j hj => ⟨by have := (hr.lt j hj).2; omega, (hn j hj).1, (hn j hj).2⟩) he
end Go.Proofs.Ytpbmncecejchjaa.HeapX
