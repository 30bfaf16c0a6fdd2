/- The laws' helpers over heaps: markHeapS, heldHeapS. -/
import Derived.Test.YtpbmncecejchjaaHeapE
namespace Go.Proofs.Ytpbmncecejchjaa.HeapM
open Go.RowKit Go.Proofs.Ytpbmncecejchjaa.Mem Go.Proofs.Ytpbmncecejchjaa.Base Go.Proofs.Ytpbmncecejchjaa.SInt Go.Proofs.Ytpbmncecejchjaa.Boxes Go.Proofs.Ytpbmncecejchjaa.Keep Go.Proofs.Ytpbmncecejchjaa.Regn Go.Proofs.Ytpbmncecejchjaa.Nest Go.Proofs.Ytpbmncecejchjaa.HeapS Go.Proofs.Ytpbmncecejchjaa.HeapW Go.Proofs.Ytpbmncecejchjaa.HeapE
set_option linter.unusedVariables false
set_option maxRecDepth 100000
def tri (k : Int) : Bool := k % 3 == 0
def wid (x : R) : Nat := 3 + x.f2.ls.length
def tot (l : List R) : Nat := (l.map wid).sum
/-- what marking leaves of a heap. -/
def mkAt (k : Int) (x : R) : R := ⟨k, k + 1, ⟨x.f2.A, x.f2.cap, marks (k + 2) x.f2.ls.length⟩, tri (k + 2 + x.f2.ls.length)⟩
def marksL : Int → List R → List R
  | _, [] => []
  | k, x :: l => mkAt k x :: marksL (k + wid x) l
theorem tot_cons (x : R) (l : List R) : tot (x :: l) = wid x + tot l := by simp [tot]
theorem tot_snoc (l : List R) (x : R) : tot (l ++ [x]) = tot l + wid x := by simp [tot]
theorem tot_take (l : List R) (j : Nat) : tot (l.take j) ≤ tot l := by
  have h : tot l = tot (l.take j) + tot (l.drop j) := by
    have : tot (l.take j ++ l.drop j) = tot (l.take j) + tot (l.drop j) := by simp only [tot, List.map_append, List.sum_append]
    rwa [List.take_append_drop] at this
  omega
theorem marksL_len (k : Int) (l : List R) : (marksL k l).length = l.length := by
  induction l generalizing k with
  | nil => rfl
  | cons x l ih => simp [marksL, ih]
theorem marksL_app (k : Int) (l : List R) (x : R) : marksL k (l ++ [x]) = marksL k l ++ [mkAt (k + tot l) x] := by
  induction l generalizing k with
  | nil => simp [marksL, tot]
  | cons y l ih =>
    rw [List.cons_append, marksL, marksL, ih, List.cons_append, tot_cons]
    congr 4
    push_cast
    omega
theorem marksL_get (k : Int) (l : List R) (j : Nat) (h : j < l.length) : (marksL k l)[j]'(by rw [marksL_len]; exact h) = mkAt (k + tot (l.take j)) l[j] := by
  induction l generalizing k j with
  | nil => simp at h
  | cons x l ih =>
    cases j with
    | zero => simp [marksL, tot]
    | succ j =>
      have := ih (k + wid x) j (by simpa using h)
      simp only [marksL, List.getElem_cons_succ, List.take_succ_cons, tot_cons]
      rw [this]
      congr 1
      push_cast
      omega
theorem mark_bd (k : Int) (l : List R) : ∀ x ∈ marksL k l, ∃ y ∈ l, x.f2.ls.length = y.f2.ls.length := by
  intro x hx
  obtain ⟨j, hj, rfl⟩ := List.getElem_of_mem hx
  have hj' : j < l.length := by rw [marksL_len] at hj; exact hj
  rw [marksL_get k l j hj']
  exact ⟨l[j], List.getElem_mem _, by simp [mkAt, marks_len]⟩
def part (l : List R) (k : Int) (j : Nat) : List R := marksL k (l.take j) ++ l.drop j
theorem part_zero (l : List R) (k : Int) : part l k 0 = l := by simp [part, marksL]
theorem part_full (l : List R) (k : Int) : part l k l.length = marksL k l := by simp [part]
theorem part_len (l : List R) (k : Int) (j : Nat) (h : j ≤ l.length) : (part l k j).length = l.length := by simp [part, marksL_len]; omega
theorem part_at (l : List R) (k : Int) (j : Nat) (h : j < l.length) : (part l k j)[j]'(by rw [part_len l k j (by omega)]; exact h) = l[j] := by
  unfold part
  rw [List.getElem_append_right (by rw [marksL_len, List.length_take]; omega)]
  simp only [marksL_len, List.length_take]
  rw [List.getElem_drop]
  congr 1
  omega
theorem part_set (l : List R) (k : Int) (j : Nat) (h : j < l.length) : (part l k j).set j (mkAt (k + tot (l.take j)) l[j]) = part l k (j + 1) := by
  have hl : (marksL k (l.take j)).length = j := by rw [marksL_len, List.length_take]; omega
  unfold part
  rw [List.set_append_right _ _ (by omega), hl, Nat.sub_self, List.drop_eq_getElem_cons h, List.set_cons_zero, List.take_succ_eq_append_getElem h, marksL_app, List.append_assoc]
  rfl
theorem putId {w : World} {lo top g c k : Nat} {l : List R} {y : R} (z : Int) (h : Own w lo top (some ⟨g, 0, none⟩) c l) (hk : k < l.length) (hy : l[k] = y) :
    Own (w.setCell ⟨g, k * 4, none⟩ (.int .i64 z)) lo top (some ⟨g, 0, none⟩) c (l.set k ⟨z, y.f1, y.f2, y.f3⟩) := by
  subst hy
  have ef : (flat l).set (k * 4) (.int .i64 z) = flat (l.set k ⟨z, l[k].f1, l[k].f2, l[k].f3⟩) := by
    rw [← flat_set l k ⟨z, l[k].f1, l[k].f2, l[k].f3⟩ hk]
    show _ = ((((flat l).set (k * 4) (.int .i64 z)).set (k * 4 + 1) (.int .i64 l[k].f1)).set (k * 4 + 2) (.slice l[k].f2.A l[k].f2.ls.length l[k].f2.cap)).set (k * 4 + 3) (.bool l[k].f3)
    rw [set_self (v := .int .i64 l[k].f1) (by rw [List.getElem?_set_ne (by omega)]; exact flat_1 l k hk), set_self (v := .slice l[k].f2.A l[k].f2.ls.length l[k].f2.cap) (by rw [List.getElem?_set_ne (by omega)]; exact flat_2 l k hk), set_self (v := .bool l[k].f3) (by rw [List.getElem?_set_ne (by omega)]; exact flat_3 l k hk)]
  refine ⟨?_, fun j hj => h.low j (by simpa [Value.ownBlock] using hj), ?_⟩
  · have := (h.out.stored (k * 4) (.int .i64 z)).1
    rw [ef] at this
    simpa using this
  · have e : (l.set k ⟨z, l[k].f1, l[k].f2, l[k].f3⟩).map R.f2 = l.map R.f2 := by
      rw [List.map_set]
      apply List.ext_getElem?
      intro j
      rw [List.getElem?_set]
      split
      · rename_i h1; subst h1; simp [hk]
      · rfl
    rw [e]
    exact h.inn.congr fun j _ _ h4 => Below.heap_setCell w ⟨g, k * 4, none⟩ _ j (fun e => h4 (by rw [e]; rfl))
theorem putGr {w : World} {lo top g c k : Nat} {l : List R} {y : R} (z : Int) (h : Own w lo top (some ⟨g, 0, none⟩) c l) (hk : k < l.length) (hy : l[k] = y) :
    Own (w.setCell ⟨g, k * 4 + 1, none⟩ (.int .i64 z)) lo top (some ⟨g, 0, none⟩) c (l.set k ⟨y.f0, z, y.f2, y.f3⟩) := by
  subst hy
  have ef : (flat l).set (k * 4 + 1) (.int .i64 z) = flat (l.set k ⟨l[k].f0, z, l[k].f2, l[k].f3⟩) := by
    rw [← flat_set l k ⟨l[k].f0, z, l[k].f2, l[k].f3⟩ hk]
    show _ = ((((flat l).set (k * 4) (.int .i64 l[k].f0)).set (k * 4 + 1) (.int .i64 z)).set (k * 4 + 2) (.slice l[k].f2.A l[k].f2.ls.length l[k].f2.cap)).set (k * 4 + 3) (.bool l[k].f3)
    rw [set_self (flat_0 l k hk), set_self (v := .slice l[k].f2.A l[k].f2.ls.length l[k].f2.cap) (by rw [List.getElem?_set_ne (by omega)]; exact flat_2 l k hk), set_self (v := .bool l[k].f3) (by rw [List.getElem?_set_ne (by omega)]; exact flat_3 l k hk)]
  refine ⟨?_, fun j hj => h.low j (by simpa [Value.ownBlock] using hj), ?_⟩
  · have := (h.out.stored (k * 4 + 1) (.int .i64 z)).1
    rw [ef] at this
    simpa using this
  · have e : (l.set k ⟨l[k].f0, z, l[k].f2, l[k].f3⟩).map R.f2 = l.map R.f2 := by
      rw [List.map_set]
      apply List.ext_getElem?
      intro j
      rw [List.getElem?_set]
      split
      · rename_i h1; subst h1; simp [hk]
      · rfl
    rw [e]
    exact h.inn.congr fun j _ _ h4 => Below.heap_setCell w ⟨g, k * 4 + 1, none⟩ _ j (fun e => h4 (by rw [e]; rfl))
theorem putCov' {w : World} {lo top g c k : Nat} {l : List R} {y : R} (q : Bool) (h : Own w lo top (some ⟨g, 0, none⟩) c l) (hk : k < l.length) (hy : l[k] = y) :
    Own (w.setCell ⟨g, k * 4 + 3, none⟩ (.bool q)) lo top (some ⟨g, 0, none⟩) c (l.set k ⟨y.f0, y.f1, y.f2, q⟩) := by
  subst hy; exact h.putCov q hk
/-- the numbers of heap k's layers written in their place. -/
theorem putIn {w w' : World} {lo top g c k : Nat} {l : List R} {y : R} {ms : List Int} (h : Own w lo top (some ⟨g, 0, none⟩) c l) (hk : k < l.length) (hy : l[k] = y) (hl : ms.length = y.f2.ls.length)
    (hr : RowOwn w' lo ⟨y.f2.A, y.f2.cap, ms⟩) (hg : w.grownBy w' y.f2.blk) : Own w' lo top (some ⟨g, 0, none⟩) c (l.set k ⟨y.f0, y.f1, ⟨y.f2.A, y.f2.cap, ms⟩, y.f3⟩) := by
  subst hy
  have hm : l[k].f2 ∈ l.map R.f2 := List.mem_map.2 ⟨_, List.getElem_mem hk, rfl⟩
  have hb : Row.blk ⟨l[k].f2.A, l[k].f2.cap, ms⟩ = l[k].f2.blk := by
    show (Value.slice l[k].f2.A ms.length l[k].f2.cap).ownBlock = (Value.slice l[k].f2.A l[k].f2.ls.length l[k].f2.cap).ownBlock
    rw [hl]
  have ef : flat (l.set k ⟨l[k].f0, l[k].f1, ⟨l[k].f2.A, l[k].f2.cap, ms⟩, l[k].f3⟩) = flat l := by
    rw [← flat_row ⟨l[k].f2.A, l[k].f2.cap, ms⟩ hk]
    exact set_self (by rw [flat_2 l k hk]; simp [hl])
  have hgk : l[k].f2.blk ≠ some g := fun e => (h.inn.far _ hm g e).2 rfl
  refine ⟨?_, fun j hj => h.low j (by simpa [Value.ownBlock] using hj), ?_⟩
  · rw [ef, List.length_set]
    exact own_congr h.out (fun j hj => by
      have e : g = j := by simpa [Value.ownBlock] using hj
      subst e
      exact hg.block g (h.out.lt g rfl).2 (fun e => hgk e.symm))
  · have hi : (l.map R.f2)[k]? = some l[k].f2 := by simp [hk]
    rw [List.map_set]
    exact h.inn.set (top' := top) hi hr (Nat.le_refl _) (fun j hj => by
      rw [hb] at hj
      exact ⟨(h.inn.far _ hm j hj).1, (h.inn.far _ hm j hj).2, .inl hj⟩) (fun j h1 _ h3 => hg.block j h1 (fun e => h3 e.symm))
theorem tot_next {l : List R} {j : Nat} {y : R} (h : j < l.length) (hy : l[j] = y) : tot (l.take (j + 1)) = tot (l.take j) + wid y := by
  rw [List.take_succ_eq_append_getElem h, tot_snoc, hy]
end Go.Proofs.Ytpbmncecejchjaa.HeapM
