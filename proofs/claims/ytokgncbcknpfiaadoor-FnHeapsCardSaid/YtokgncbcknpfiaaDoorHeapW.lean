/- The laws' helpers over heaps: toHeap, eqHeap, szHeap, toHeapS, eqHeapS, szHeapS; toIntS, szIntS. -/
import Derived.Test.YtokgncbcknpfiaaDoorHeapS
import Derived.Laws.MakeOwn
namespace Go.Proofs.YtokgncbcknpfiaaDoor.HeapW
open Go.RowKit Go.Proofs.YtokgncbcknpfiaaDoor.Mem Go.Proofs.YtokgncbcknpfiaaDoor.Base Go.Proofs.YtokgncbcknpfiaaDoor.SInt Go.Proofs.YtokgncbcknpfiaaDoor.Boxes Go.Proofs.YtokgncbcknpfiaaDoor.Keep Go.Proofs.YtokgncbcknpfiaaDoor.Nest Go.Proofs.YtokgncbcknpfiaaDoor.HeapS
set_option linter.unusedVariables false
set_option maxRecDepth 100000
theorem info_int : (Tryd.prog.info? 3).map (fun i => (i.zero, i.size, i.bytes)) = some (some (.int .i64 0), 1, 8) := by kernel_rfl
theorem info_T : (Tryd.prog.info? 41).map (fun i => (i.zero, i.size, i.bytes)) = some (some zero.val, 4, 48) := by kernel_rfl
theorem iv_half (l : List Int) : iv (half 0 l 0) = List.replicate l.length (.int .i64 0) := by rw [half_zero]; simp [iv]
def RPost (v : Value) (w : World) (e : Ending) (w' : World) : Prop := e = .returned v ∧ Below w.heap.size w w'
theorem rpost {v u : Value} {w w' : World} (h : u = v) (hw : Below w.heap.size w w') : RPost v w (.returned u) w' := ⟨by rw [h], hw⟩
theorem four_set {g : Nat} {x y z u : Value} {w W : World} (h : Box g [x, y, z, u] w W) (a b c d : Value) :
    (W.setCell ⟨g, 0, none⟩ a).cell? ⟨g, 0, none⟩ = some a ∧ ((W.setCell ⟨g, 0, none⟩ a).setCell ⟨g, 1, none⟩ b).cell? ⟨g, 1, none⟩ = some b ∧
    (((W.setCell ⟨g, 0, none⟩ a).setCell ⟨g, 1, none⟩ b).setCell ⟨g, 2, none⟩ c).cell? ⟨g, 2, none⟩ = some c ∧
    ((((W.setCell ⟨g, 0, none⟩ a).setCell ⟨g, 1, none⟩ b).setCell ⟨g, 2, none⟩ c).setCell ⟨g, 3, none⟩ d).cell? ⟨g, 3, none⟩ = some d :=
  ⟨(h.set 0 a).cells 0 a rfl, ((h.set 0 a).set 1 b).cells 1 b rfl, (((h.set 0 a).set 1 b).set 2 c).cells 2 c rfl, ((((h.set 0 a).set 1 b).set 2 c).set 3 d).cells 3 d rfl⟩
end Go.Proofs.YtokgncbcknpfiaaDoor.HeapW
