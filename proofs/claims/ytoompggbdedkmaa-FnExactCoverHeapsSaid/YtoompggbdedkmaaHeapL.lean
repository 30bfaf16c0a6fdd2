/- Lists of heaps through a law: what stays readable, what stays the call's own. -/
import Derived.Test.YtoompggbdedkmaaHeapM
namespace Go.Proofs.Ytoompggbdedkmaa.HeapL
open Go.RowKit Go.Proofs.Ytoompggbdedkmaa.Mem Go.Proofs.Ytoompggbdedkmaa.Base Go.Proofs.Ytoompggbdedkmaa.SInt Go.Proofs.Ytoompggbdedkmaa.Boxes Go.Proofs.Ytoompggbdedkmaa.Keep Go.Proofs.Ytoompggbdedkmaa.Regn Go.Proofs.Ytoompggbdedkmaa.Nest Go.Proofs.Ytoompggbdedkmaa.HeapS Go.Proofs.Ytoompggbdedkmaa.HeapW Go.Proofs.Ytoompggbdedkmaa.HeapE Go.Proofs.Ytoompggbdedkmaa.HeapM
set_option linter.unusedVariables false
/-- What each walk of a law ends in. -/
def Yes (w : World) (e : Ending) (w' : World) : Prop := e = .returned (.bool true) ∧ Below w.heap.size w w'
structure HsL (w : World) (B : Nat) (A : Option Addr) (l : List R) : Prop where
  le : B ≤ w.heap.size
  hs : Hs w B A l
theorem hsl_keep {w w' : World} {B : Nat} {A : Option Addr} {l : List R} (h : HsL w B A l) (hb : Below w.heap.size w w') : HsL w' B A l := ⟨Nat.le_trans h.le hb.size, h.hs.below hb h.le⟩
theorem HsL.all {w : World} {B : Nat} {A : Option Addr} {l : List R} (h : HsL w B A l) : Hs w w.heap.size A l := h.hs.mono h.le
theorem HsL.span {w w' : World} {B lo hi : Nat} {A : Option Addr} {l : List R} (h : HsL w B A l) (hs : Span lo hi w w') (hB : B ≤ lo) (hl : lo ≤ w.heap.size) : HsL w' B A l := ⟨Nat.le_trans h.le hs.size, h.hs.span hs hB hl⟩
structure OwnL (w : World) (lo top : Nat) (A : Option Addr) (c : Nat) (l : List R) : Prop where
  own : Own w lo top A c l
  le : top ≤ w.heap.size
theorem ownl_keep {w w' : World} {lo top : Nat} {A : Option Addr} {c : Nat} {l : List R} (h : OwnL w lo top A c l) (hb : Below w.heap.size w w') : OwnL w' lo top A c l := ⟨h.own.keep hb, Nat.le_trans h.le hb.size⟩
theorem OwnL.span {w w' : World} {lo top lo' hi : Nat} {A : Option Addr} {c : Nat} {l : List R} (h : OwnL w lo top A c l) (hs : Span lo' hi w w') (hd : top ≤ lo' ∨ hi ≤ lo) : OwnL w' lo top A c l := ⟨h.own.span hs hd, Nat.le_trans h.le hs.size⟩
/-- a small answer. -/
def Sm (M : List H) : Prop := M.length ≤ 1000 ∧ ∀ x ∈ M, x.ls.length ≤ 1000
theorem sm_rows {M : List H} {m : List R} (h : pl m = M) (hs : Sm M) : m.length ≤ 1000 ∧ ∀ x ∈ m, x.f2.ls.length ≤ 1000 := by
  subst h
  refine ⟨by rw [← pl_len m]; exact hs.1, fun x hx => hs.2 x.pure (List.mem_map.2 ⟨x, hx, rfl⟩)⟩
theorem sm_tot {M : List H} {m : List R} (h : pl m = M) (hs : Sm M) : tot m ≤ 1003000 := by
  obtain ⟨h1, h2⟩ := sm_rows h hs
  have key : ∀ (k : List R), (∀ x ∈ k, x.f2.ls.length ≤ 1000) → tot k ≤ k.length * 1003 := by
    intro k
    induction k with
    | nil => intro _; simp [tot]
    | cons x k ih =>
      intro hk
      have a := hk x (by simp)
      have b := ih (fun y hy => hk y (by simp [hy]))
      rw [tot_cons, List.length_cons]
      have : wid x = 3 + x.f2.ls.length := rfl
      omega
  have := key m h2
  omega
theorem OwnL.hs {w : World} {lo top : Nat} {A : Option Addr} {c : Nat} {m : List R} {M : List H} (h : OwnL w lo top A c m) (hm : pl m = M) (hs : Sm M) : Hs w w.heap.size A m := by
  obtain ⟨h1, h2⟩ := sm_rows hm hs
  exact (h.own.hs (by omega) (fun x hx => by have := h2 x hx; omega)).mono h.le
/-- the rows of a copy are as long as those of the list. -/
theorem hs_of {w w' : World} {lo top B : Nat} {A A' : Option Addr} {c : Nat} {l m : List R} (O : Own w lo top A c m) (ht : top ≤ w.heap.size) (h : pl m = pl l) (hs : Hs w' B A' l) : Hs w w.heap.size A m := by
  have e : m.length = l.length := by rw [← pl_len m, h, pl_len]
  refine (O.hs (by rw [e]; exact hs.len) fun x hx => ?_).mono ht
  obtain ⟨k, hk, rfl⟩ := List.getElem_of_mem hx
  have h1 := pl_get m k hk
  have h2 := pl_get l k (by omega)
  have h3 : m[k].pure = l[k].pure := by rw [← h1, ← h2]; congr 1
  have h4 : m[k].f2.ls = l[k].f2.ls := congrArg H.ls h3
  rw [h4]
  exact hs.rlen _ (List.getElem_mem _)
theorem bl_span {w W W' : World} {lo hi : Nat} (h : Below w.heap.size w W) (hs : Span lo hi W W') (hl : w.heap.size ≤ lo) (hl2 : lo ≤ W.heap.size) : Below w.heap.size w W' := h.trans (hs.below hl2 hl)
/-- the layers of all heaps together, as the size check counts them. -/
def lens (l : List R) : Nat := (l.map fun x => x.f2.ls.length).sum
theorem szL_sum {l : List R} : ∀ {left : Int}, 0 ≤ left → left ≤ 1048576 → 0 ≤ szL left l → (lens l : Int) ≤ left := by
  induction l with
  | nil => intro left h0 h1 _; simp [lens]; exact h0
  | cons x l ih =>
    intro left h0 h1 h2
    unfold szL at h2
    rcases szV_range (n := x.f2.ls.length) h0 h1 with ⟨h3, _⟩ | ⟨h3, h4, h5⟩
    · rw [if_pos (by omega)] at h2; omega
    · rw [if_neg (by omega)] at h2
      have := ih h3 h4 h2
      have e : szV left x.f2.ls.length = left - x.f2.ls.length := by unfold szV; rw [if_neg (by omega)]
      rw [e] at this
      have e2 : lens (x :: l) = x.f2.ls.length + lens l := by simp [lens]
      rw [e2]; push_cast; omega
theorem tot_lens (l : List R) : tot l = 3 * l.length + lens l := by
  induction l with
  | nil => rfl
  | cons x l ih =>
    have e2 : lens (x :: l) = x.f2.ls.length + lens l := by simp [lens]
    rw [tot_cons, ih, e2, List.length_cons]
    have : wid x = 3 + x.f2.ls.length := rfl
    omega
theorem szA_tot {l : List R} (h : 0 ≤ szA 1048576 l) : tot l ≤ 5000000 := by
  unfold szA at h
  split at h
  · omega
  · have := szL_sum (l := l) (left := 1048576 - l.length) (by omega) (by omega) h
    rw [tot_lens]; omega
theorem pl_tot {l m : List R} (h : pl m = pl l) : tot m = tot l := by
  have key : ∀ k : List R, tot k = ((pl k).map fun x => 3 + x.ls.length).sum := by
    intro k
    simp only [tot, pl, List.map_map]; rfl
  rw [key m, key l, h]
end Go.Proofs.Ytoompggbdedkmaa.HeapL
