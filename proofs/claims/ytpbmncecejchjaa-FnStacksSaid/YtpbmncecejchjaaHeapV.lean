/- Heaps: PutLayer and TakeTons, the program's. -/
import Derived.Test.YtpbmncecejchjaaHeapC
import Derived.Test.YtpbmncecejchjaaHeapT
import Derived.Test.YtpbmncecejchjaaHeapU
namespace Go.Proofs.Ytpbmncecejchjaa.HeapV
open Go.RowKit Go.Proofs.Ytpbmncecejchjaa.Mem Go.Proofs.Ytpbmncecejchjaa.Base Go.Proofs.Ytpbmncecejchjaa.Within Go.Proofs.Ytpbmncecejchjaa.SInt Go.Proofs.Ytpbmncecejchjaa.Boxes Go.Proofs.Ytpbmncecejchjaa.Keep Go.Proofs.Ytpbmncecejchjaa.Regn Go.Proofs.Ytpbmncecejchjaa.Nest Go.Proofs.Ytpbmncecejchjaa.HeapS Go.Proofs.Ytpbmncecejchjaa.HeapW Go.Proofs.Ytpbmncecejchjaa.HeapE Go.Proofs.Ytpbmncecejchjaa.Heap Go.Proofs.Ytpbmncecejchjaa.Heap2 Go.Proofs.Ytpbmncecejchjaa.Heap3 Go.Proofs.Ytpbmncecejchjaa.HeapG Go.Proofs.Ytpbmncecejchjaa.HeapP Go.Proofs.Ytpbmncecejchjaa.HeapT Go.Proofs.Ytpbmncecejchjaa.HeapC Go.Proofs.Ytpbmncecejchjaa.HeapU
set_option linter.unusedVariables false
set_option maxRecDepth 100000
/-- a list of heaps of the call's own, and a truth. -/
def HPost (F : List H) (q : Bool) (w : World) (e : Ending) (w' : World) : Prop :=
  ∃ (m : List R) (A : Option Addr) (c : Nat), pl m = F ∧ e = .returned (.tuple #[.slice A m.length c, .bool q]) ∧ Own w' w.heap.size w'.heap.size A c m ∧ Below w.heap.size w w'
theorem h_mk {F : List H} {q r : Bool} {w w' : World} {m : List R} {A : Option Addr} {c : Nat} {v : Value} (hF : F = pl m) (hq : q = r) (h : v = .tuple #[.slice A m.length c, .bool r])
    (ho : Own w' w.heap.size w'.heap.size A c m) (hB : Below w.heap.size w w') : HPost F q w (.returned v) w' := by
  subst hq; exact ⟨m, A, c, hF.symm, by rw [h], ho, hB⟩
theorem h_none {w w1 : World} (hB : Below w.heap.size w w1) : Own (w1.alloc (.cells #[] 91)) w.heap.size (w1.alloc (.cells #[] 91)).heap.size (some ⟨w1.heap.size, 0, none⟩) 0 [] := by
  have := Own.empty w1 hB.size
  rwa [← size_alloc' w1 (.cells #[] 91)] at this
theorem at_pure {l m : List R} {k : Nat} {x : R} (hp : pl m = pl l) (hk : k < l.length) (hx : l[k] = x) : ∃ (h : k < m.length), m[k].pure = x.pure := by
  have hl : m.length = l.length := by rw [← pl_len m, hp, pl_len]
  refine ⟨by omega, ?_⟩
  have h1 := pl_get m k (by omega)
  have h2 := pl_x hk hx
  rw [← h1, ← h2]; congr 1
theorem pl_set {l m : List R} {k : Nat} {y : R} {z : H} (hp : pl m = pl l) (hz : y.pure = z) : pl (m.set k y) = (pl l).set k z := by
  rw [← hp, ← hz]; simp [pl, List.map_set]
/-- an element more on the layers of heap k. -/
theorem appRow {w w9 : World} {lo g c k g9 c9 : Nat} {l : List R} {t : Int} {o : Obj} (h : Own w lo w.heap.size (some ⟨g, 0, none⟩) c l) (hk : k < l.length)
    (hown : RowOwn w9 lo ⟨some ⟨g9, 0, none⟩, c9, l[k].f2.ls ++ [t]⟩) (hgrow : (w.alloc o).grownBy w9 l[k].f2.blk) (hat : l[k].f2.blk = some g9 ∨ g9 = (w.alloc o).heap.size) :
    w9.ownsRow lo 91 4 (.slice (some ⟨g, 0, none⟩) l.length c) l.length (flat l) ∧
    Own (w9.setCell ⟨g, k * 4 + 2, none⟩ (.slice (some ⟨g9, 0, none⟩) (l[k].f2.ls ++ [t]).length c9)) lo w9.heap.size (some ⟨g, 0, none⟩) c (l.set k ⟨l[k].f0, l[k].f1, ⟨some ⟨g9, 0, none⟩, c9, l[k].f2.ls ++ [t]⟩, l[k].f3⟩) := by
  have hm : l[k].f2 ∈ l.map R.f2 := List.mem_map.2 ⟨_, List.getElem_mem hk, rfl⟩
  have hgs : g < w.heap.size := (h.out.lt g rfl).2
  have hs : w.heap.size ≤ w9.heap.size := by have := hgrow.size; rw [size_alloc'] at this; omega
  have he : ∀ j, j < w.heap.size → l[k].f2.blk ≠ some j → w9.heap[j]? = w.heap[j]? := fun j hj hne => by
    rw [hgrow.block j (by rw [size_alloc']; omega) (fun e => hne e.symm)]
    exact (al (Below.refl w.heap.size w) (o := o)).block j hj
  have hg9 : g9 ≠ g := by
    rcases hat with h1 | h1
    · exact fun e => (h.inn.far _ hm g (by rw [← e]; exact h1)).2 rfl
    · rw [size_alloc'] at h1; omega
  refine ⟨own_congr h.out (fun j hj => by
    have e : g = j := by simpa [Value.ownBlock] using hj
    subst e
    exact he g hgs (fun e => (h.inn.far _ hm g e).2 rfl)), ?_⟩
  refine h.putRow (w' := w9) (r := ⟨some ⟨g9, 0, none⟩, c9, l[k].f2.ls ++ [t]⟩) hk hown hs (fun j hj => ?_) he
  have e : g9 = j := by simpa [Row.blk, Row.val, Value.ownBlock] using hj
  subst e
  refine ⟨(hown.lt g9 rfl).2, hg9, ?_⟩
  rcases hat with h1 | h1
  · exact .inl h1
  · rw [size_alloc'] at h1; exact .inr (by omega)
theorem blk_same (A : Option Addr) (c : Nat) (l m : List Int) : Row.blk ⟨A, c, l⟩ = Row.blk ⟨A, c, m⟩ := by cases A <;> rfl
/-- heap k's layers written in their place. -/
theorem inRow {w w9 : World} {lo g c k : Nat} {l : List R} {r : Row} (h : Own w lo w.heap.size (some ⟨g, 0, none⟩) c l) (hk : k < l.length)
    (hown : RowOwn w9 lo r) (hA : r.blk = l[k].f2.blk) (hgrow : w.grownBy w9 l[k].f2.blk) :
    w9.ownsRow lo 91 4 (.slice (some ⟨g, 0, none⟩) l.length c) l.length (flat l) ∧
    Own (w9.setCell ⟨g, k * 4 + 2, none⟩ (.slice r.A r.ls.length r.cap)) lo w9.heap.size (some ⟨g, 0, none⟩) c (l.set k ⟨l[k].f0, l[k].f1, r, l[k].f3⟩) := by
  have hm : l[k].f2 ∈ l.map R.f2 := List.mem_map.2 ⟨_, List.getElem_mem hk, rfl⟩
  have hgs : g < w.heap.size := (h.out.lt g rfl).2
  have he : ∀ j, j < w.heap.size → l[k].f2.blk ≠ some j → w9.heap[j]? = w.heap[j]? := fun j hj hne => hgrow.block j hj (fun e => hne e.symm)
  refine ⟨own_congr h.out (fun j hj => by
    have e : g = j := by simpa [Value.ownBlock] using hj
    subst e
    exact he g hgs (fun e => (h.inn.far _ hm g e).2 rfl)), ?_⟩
  refine h.putRow (w' := w9) (r := r) hk hown hgrow.size (fun j hj => ?_) he
  have hj2 : l[k].f2.blk = some j := hA ▸ hj
  exact ⟨(hown.lt j hj).2, fun e => (h.inn.far _ hm j hj2).2 (by rw [e]; rfl), .inl hj2⟩
end Go.Proofs.Ytpbmncecejchjaa.HeapV
