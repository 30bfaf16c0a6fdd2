/- slices.Clone over batches. -/
import Derived.Test.YtpokgnkcnibapaaSBatch
import Derived.Test.YtpokgnkcnibapaaKeep
import Derived.Lib.SliceRun
namespace Go.Proofs.Ytpokgnkcnibapaa.BatC
open Go.RowKit Go.Proofs.Ytpokgnkcnibapaa.Mem Go.Proofs.Ytpokgnkcnibapaa.Base Go.Proofs.Ytpokgnkcnibapaa.SBatch Go.Proofs.Ytpokgnkcnibapaa.Boxes Go.Proofs.Ytpokgnkcnibapaa.Keep
set_option linter.unusedVariables false
set_option maxRecDepth 100000
theorem cell_add (w : World) (b o j : Nat) : w.cell? (Addr.add ⟨b, o, none⟩ j) = w.cell? ⟨b, o + j, none⟩ := by
  unfold Addr.add; split
  · rename_i h; subst h; rfl
  · rfl
theorem flat_one (l : List R) : ∀ u ∈ flat l, u.oneCell' = true := by
  intro u hu
  unfold flat at hu
  rw [List.mem_flatMap] at hu
  obtain ⟨x, _, hx⟩ := hu
  simp [R.cells] at hx
  rcases hx with rfl | rfl | rfl <;> rfl
theorem flat_nil {l : List R} (h : flat l = []) : l = [] := by
  have := flat_n l; rw [h] at this; exact List.eq_nil_of_length_eq_zero (by simp at this; omega)
def ClPost (l : List R) (w : World) (e : Ending) (w' : World) : Prop :=
  ∃ A c, e = .returned (.slice A l.length c) ∧ w'.ownsRow w.heap.size 25 3 (.slice A l.length c) l.length (flat l) ∧ Below w.heap.size w w'
theorem cl_mk {l : List R} {w w' : World} {A : Option Addr} {c : Nat} {v : Value} (h : v = .slice A l.length c)
    (ho : w'.ownsRow w.heap.size 25 3 (.slice A l.length c) l.length (flat l)) (hB : Below w.heap.size w w') : ClPost l w (.returned v) w' := ⟨A, c, by rw [h], ho, hB⟩
theorem empty_own {w u : World} (hb : Below w.heap.size w u) : (u.alloc (.cells #[] 25)).ownsRow w.heap.size 25 3 (.slice (some ⟨u.heap.size, 0, none⟩) 0 0) 0 (flat []) := by
  have := World.ownsRow_lit u #[] 0 (e := 25) (size := 3) (base := w.heap.size) hb.size (by unfold maxLen; omega) rfl
  simpa [flat] using this
set_option maxHeartbeats 400000 in
theorem clone_any (P : Option Addr) (cap : Nat) (l : List R) (w : World) (hr : Rd w w.heap.size P (flat l)) (hn : l.length ≤ 1048576) :
    Calls Try.prog 64 #[.slice P l.length cap] w (ClPost l w) := by
  obtain ⟨i0, hi, hz0, hz1, hz2⟩ := info_parts info_T
  have HI := Lib.hid hz2; clear hz2
  have HI1 := Lib.hid hz1; clear hz1
  have qT : ∀ (w : World) (a : Option Addr) (n c n' c' : Nat), (binOp .eql 38 (.slice a n c) (.slice none n' c')).run Try.prog w = .ok (.bool a.isNone) w := fun w a n c n' c' => Lib.run_eql_slice_nil w _ _ a n c n' c' Try.underlying38
  cases P with
  | none =>
    have hl : l = [] := by
      rcases hr with h | ⟨b, o, hA, _⟩
      · exact flat_nil h
      · cases hA
    subst hl
    go_enter Try.func64, Try.ntmps64
    go_wp2
    go_ret
    exact cl_mk rfl ⟨rfl, .inl ⟨rfl, rfl⟩⟩ (Below.refl _ _)
  | some ad =>
    have hnews : ∀ j u, (flat l)[j]? = some u → (w.alloc (.cells #[] 25)).cell? (ad.add j) = some u := by
      intro j u hu
      rcases hr with h | ⟨b, o, hA, hb, hc⟩
      · rw [h] at hu; cases hu
      · injection hA with hA; subst hA
        rw [cell_add, ((bcell (al (Below.refl w.heap.size w) (o := .cells #[] 25))).1 _ _ hb)]
        exact hc j u hu
    have HN := Lib.hid hnews; clear hnews
    have O := empty_own (Below.refl _ w)
    have HO := Lib.hid O; clear O
    go_enter Try.func64, Try.ntmps64
    go_wp2_with (at_builtin; go_must (refine wpList_append_own _ rfl _ _ 38 rfl w.heap.size 25 i0 _ 3 24 Try.underlying38 hi hz0 HI1.out HI.out rfl (by decide) _ 0 _ rfl HO.out ad l.length cap (flat l) rfl (flat_n l) HN.out (flat_one l) (by unfold maxLen; omega) (by omega) (by rw [size_alloc']; omega) ?_; intro v' w9 hown1 hgrow _))
    have hB9 := bl_grown (al (Below.refl w.heap.size w) (o := .cells #[] 25)) hgrow (fun k hk => own_ge HO.out k hk)
    obtain ⟨A1, c1, rfl⟩ := own_form hown1
    have HO1 : w9.ownsRow w.heap.size 25 3 (.slice A1 l.length c1) l.length (flat l) := by simpa [flat] using hown1
    clear hgrow hown1
    go_wp2
    go_ret
    exact cl_mk (by simp) HO1 hB9
def Own (w : World) (base g c : Nat) (l : List R) : Prop := w.ownsRow base 25 3 (.slice (some ⟨g, 0, none⟩) l.length c) l.length (flat l)
theorem Own.keep {w w' : World} {base g c : Nat} {l : List R} (h : Own w base g c l) (hb : Below w.heap.size w w') : Own w' base g c l := own_keep h hb
theorem Own.ge {w : World} {base g c : Nat} {l : List R} (h : Own w base g c l) : base ≤ g := own_ge h g rfl
theorem Own.lt {w : World} {base g c : Nat} {l : List R} (h : Own w base g c l) : g < w.heap.size := own_lt h
theorem Own.base {w : World} {base base' g c : Nat} {l : List R} (h : Own w base g c l) (hb : base' ≤ base) : Own w base' g c l := own_base h hb
theorem Own.rd {w : World} {base g c : Nat} {l : List R} (h : Own w base g c l) : Rd w w.heap.size (some ⟨g, 0, none⟩) (flat l) := Rd.of_own h
theorem Own.cells {w : World} {base g c k : Nat} {l : List R} {x : R} (O : Own w base g c l) (hk : k < l.length) (hx : l[k] = x) :
    w.cell? ⟨g, k * 3, none⟩ = some (.int .i64 x.f0) ∧ w.cell? ⟨g, k * 3 + 1, none⟩ = some (.int .i64 x.f1) ∧ w.cell? ⟨g, k * 3 + 2, none⟩ = some (.int .i64 x.f2) := by
  subst hx
  have e : l.length * 3 = (flat l).length := (flat_n l).symm
  refine ⟨?_, ?_, ?_⟩
  · rw [World.ownsRow.cellAt O _ (by omega)]; exact flat_0 l k hk
  · rw [World.ownsRow.cellAt O _ (by omega)]; exact flat_1 l k hk
  · rw [World.ownsRow.cellAt O _ (by omega)]; exact flat_2 l k hk
theorem Own.free {w : World} {base g c : Nat} {l : List R} (O : Own w base g c l) (i : Nat) : w.frozen? ⟨g, i, none⟩ = false := World.ownsRow.frozenAt O i
theorem set_self {l : List Value} {i : Nat} {v : Value} (h : l[i]? = some v) : l.set i v = l := by
  apply List.ext_getElem?
  intro j
  rw [List.getElem?_set]
  split
  · rename_i e; subst e
    split
    · rw [h]
    · rename_i h2
      rw [List.getElem?_eq_none (by omega)] at h; cases h
  · rfl
/-- a batch stored at place k. -/
theorem Own.put {w : World} {base g c k : Nat} {l : List R} (O : Own w base g c l) (x : R) (hk : k < l.length) :
    Own (((w.setCell ⟨g, k * 3, none⟩ (.int .i64 x.f0)).setCell ⟨g, k * 3 + 1, none⟩ (.int .i64 x.f1)).setCell ⟨g, k * 3 + 2, none⟩ (.int .i64 x.f2)) base g c (l.set k x) := by
  have h := (World.ownsRow.stored (World.ownsRow.stored (World.ownsRow.stored O (k * 3) (.int .i64 x.f0)).1 (k * 3 + 1) (.int .i64 x.f1)).1 (k * 3 + 2) (.int .i64 x.f2)).1
  rw [flat_set l k x hk] at h
  unfold Own; rw [List.length_set]; exact h
theorem below_put {w W : World} {g i : Nat} {v0 v1 v2 : Value} (h : Below w.heap.size w W) (hg : w.heap.size ≤ g) : Below w.heap.size w (((W.setCell ⟨g, i, none⟩ v0).setCell ⟨g, i + 1, none⟩ v1).setCell ⟨g, i + 2, none⟩ v2) :=
  ((h.setCell (p := ⟨g, _, none⟩) hg _).setCell (p := ⟨g, _, none⟩) hg _).setCell (p := ⟨g, _, none⟩) hg _
def Row2 (M : List R) (y : Int) (q : Bool) (w : World) (e : Ending) (w' : World) : Prop :=
  ∃ A c, e = .returned (.tuple #[.slice A M.length c, .int .i64 y, .bool q]) ∧ w'.ownsRow w.heap.size 25 3 (.slice A M.length c) M.length (flat M) ∧ Below w.heap.size w w'
theorem row2 {L M : List R} {y z : Int} {q r : Bool} {w w' : World} {A : Option Addr} {c : Nat} {v : Value} (hL : L = M) (hy : y = z) (hq : q = r) (h : v = .tuple #[.slice A M.length c, .int .i64 z, .bool r])
    (ho : w'.ownsRow w.heap.size 25 3 (.slice A M.length c) M.length (flat M)) (hB : Below w.heap.size w w') : Row2 L y q w (.returned v) w' := by
  subst hL; subst hy; subst hq; exact ⟨A, c, by rw [h], ho, hB⟩
theorem cell_kept {w w' : World} {b o : Nat} {v : Value} (h : w.cell? ⟨b, o, none⟩ = some v) (hb : Below w.heap.size w w') : w'.cell? ⟨b, o, none⟩ = some v :=
  ((bcell hb).1 _ _ (World.block_lt_of_cell? w ⟨b, o, none⟩ h)).trans h
end Go.Proofs.Ytpokgnkcnibapaa.BatC
