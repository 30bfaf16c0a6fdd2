/- The laws' helpers over heaps: markHeapS, heldHeapS. -/
import Derived.Test.YtoompggbdedkmaaHeapE
namespace Go.Proofs.Ytoompggbdedkmaa.HeapM
open Go.RowKit Go.Proofs.Ytoompggbdedkmaa.Mem Go.Proofs.Ytoompggbdedkmaa.Base Go.Proofs.Ytoompggbdedkmaa.SInt Go.Proofs.Ytoompggbdedkmaa.Boxes Go.Proofs.Ytoompggbdedkmaa.Keep Go.Proofs.Ytoompggbdedkmaa.Regn Go.Proofs.Ytoompggbdedkmaa.Nest Go.Proofs.Ytoompggbdedkmaa.HeapS Go.Proofs.Ytoompggbdedkmaa.HeapW Go.Proofs.Ytoompggbdedkmaa.HeapE
set_option linter.unusedVariables false
set_option maxRecDepth 100000
def tri (k : Int) : Bool := k % 3 == 0
def wid (x : R) : Nat := 3 + x.f2.ls.length
def tot (l : List R) : Nat := (l.map wid).sum
/-- what marking leaves of a heap. -/
def mkAt (k : Int) (x : R) : R := ⟨k, k + 1, ⟨x.f2.A, x.f2.cap, marks (k + 2) x.f2.ls.length⟩, tri (k + 2 + x.f2.ls.length)⟩
def marksL : Int → List R → List R
  | _, [] => []
  | k, x :: l => mkAt k x :: marksL (k + wid x) l
theorem tot_cons (x : R) (l : List R) : tot (x :: l) = wid x + tot l := by simp [tot]
theorem tot_snoc (l : List R) (x : R) : tot (l ++ [x]) = tot l + wid x := by simp [tot]
theorem tot_take (l : List R) (j : Nat) : tot (l.take j) ≤ tot l := by
  have h : tot l = tot (l.take j) + tot (l.drop j) := by
    have : tot (l.take j ++ l.drop j) = tot (l.take j) + tot (l.drop j) := by simp only [tot, List.map_append, List.sum_append]
    rwa [List.take_append_drop] at this
  omega
theorem marksL_len (k : Int) (l : List R) : (marksL k l).length = l.length := by
  induction l generalizing k with
  | nil => rfl
  | cons x l ih => simp [marksL, ih]
theorem marksL_app (k : Int) (l : List R) (x : R) : marksL k (l ++ [x]) = marksL k l ++ [mkAt (k + tot l) x] := by
  induction l generalizing k with
  | nil => simp [marksL, tot]
  | cons y l ih =>
    rw [List.cons_append, marksL, marksL, ih, List.cons_append, tot_cons]
    congr 4
    push_cast
    omega
theorem marksL_get (k : Int) (l : List R) (j : Nat) (h : j < l.length) : (marksL k l)[j]'(by rw [marksL_len]; exact h) = mkAt (k + tot (l.take j)) l[j] := by
  induction l generalizing k j with
  | nil => simp at h
  | cons x l ih =>
    cases j with
    | zero => simp [marksL, tot]
    | succ j =>
      have := ih (k + wid x) j (by simpa using h)
      simp only [marksL, List.getElem_cons_succ, List.take_succ_cons, tot_cons]
      rw [this]
      congr 1
      push_cast
      omega
theorem mark_bd (k : Int) (l : List R) : ∀ x ∈ marksL k l, ∃ y ∈ l, x.f2.ls.length = y.f2.ls.length := by
  intro x hx
  obtain ⟨j, hj, rfl⟩ := List.getElem_of_mem hx
  have hj' : j < l.length := by rw [marksL_len] at hj; exact hj
  rw [marksL_get k l j hj']
  exact ⟨l[j], List.getElem_mem _, by simp [mkAt, marks_len]⟩
def part (l : List R) (k : Int) (j : Nat) : List R := marksL k (l.take j) ++ l.drop j
theorem part_zero (l : List R) (k : Int) : part l k 0 = l := by simp [part, marksL]
theorem part_full (l : List R) (k : Int) : part l k l.length = marksL k l := by simp [part]
theorem part_len (l : List R) (k : Int) (j : Nat) (h : j ≤ l.length) : (part l k j).length = l.length := by simp [part, marksL_len]; omega
theorem part_at (l : List R) (k : Int) (j : Nat) (h : j < l.length) : (part l k j)[j]'(by rw [part_len l k j (by omega)]; exact h) = l[j] := by
  unfold part
  rw [List.getElem_append_right (by rw [marksL_len, List.length_take]; omega)]
  simp only [marksL_len, List.length_take]
  rw [List.getElem_drop]
  congr 1
  omega
theorem part_set (l : List R) (k : Int) (j : Nat) (h : j < l.length) : (part l k j).set j (mkAt (k + tot (l.take j)) l[j]) = part l k (j + 1) := by
  have hl : (marksL k (l.take j)).length = j := by rw [marksL_len, List.length_take]; omega
  unfold part
  rw [List.set_append_right _ _ (by omega), hl, Nat.sub_self, List.drop_eq_getElem_cons h, List.set_cons_zero, List.take_succ_eq_append_getElem h, marksL_app, List.append_assoc]
  rfl
theorem putId {w : World} {lo top g c k : Nat} {l : List R} {y : R} (z : Int) (h : Own w lo top (some ⟨g, 0, none⟩) c l) (hk : k < l.length) (hy : l[k] = y) :
    Own (w.setCell ⟨g, k * 4, none⟩ (.int .i64 z)) lo top (some ⟨g, 0, none⟩) c (l.set k ⟨z, y.f1, y.f2, y.f3⟩) := by
  subst hy
  have ef : (flat l).set (k * 4) (.int .i64 z) = flat (l.set k ⟨z, l[k].f1, l[k].f2, l[k].f3⟩) := by
    rw [← flat_set l k ⟨z, l[k].f1, l[k].f2, l[k].f3⟩ hk]
    show _ = ((((flat l).set (k * 4) (.int .i64 z)).set (k * 4 + 1) (.int .i64 l[k].f1)).set (k * 4 + 2) (.slice l[k].f2.A l[k].f2.ls.length l[k].f2.cap)).set (k * 4 + 3) (.bool l[k].f3)
    rw [set_self (v := .int .i64 l[k].f1) (by rw [List.getElem?_set_ne (by omega)]; exact flat_1 l k hk), set_self (v := .slice l[k].f2.A l[k].f2.ls.length l[k].f2.cap) (by rw [List.getElem?_set_ne (by omega)]; exact flat_2 l k hk), set_self (v := .bool l[k].f3) (by rw [List.getElem?_set_ne (by omega)]; exact flat_3 l k hk)]
  refine ⟨?_, fun j hj => h.low j (by simpa [Value.ownBlock] using hj), ?_⟩
  · have := (h.out.stored (k * 4) (.int .i64 z)).1
    rw [ef] at this
    simpa using this
  · have e : (l.set k ⟨z, l[k].f1, l[k].f2, l[k].f3⟩).map R.f2 = l.map R.f2 := by
      rw [List.map_set]
      apply List.ext_getElem?
      intro j
      rw [List.getElem?_set]
      split
      · rename_i h1; subst h1; simp [hk]
      · rfl
    rw [e]
    exact h.inn.congr fun j _ _ h4 => Below.heap_setCell w ⟨g, k * 4, none⟩ _ j (fun e => h4 (by rw [e]; rfl))
theorem putGr {w : World} {lo top g c k : Nat} {l : List R} {y : R} (z : Int) (h : Own w lo top (some ⟨g, 0, none⟩) c l) (hk : k < l.length) (hy : l[k] = y) :
    Own (w.setCell ⟨g, k * 4 + 1, none⟩ (.int .i64 z)) lo top (some ⟨g, 0, none⟩) c (l.set k ⟨y.f0, z, y.f2, y.f3⟩) := by
  subst hy
  have ef : (flat l).set (k * 4 + 1) (.int .i64 z) = flat (l.set k ⟨l[k].f0, z, l[k].f2, l[k].f3⟩) := by
    rw [← flat_set l k ⟨l[k].f0, z, l[k].f2, l[k].f3⟩ hk]
    show _ = ((((flat l).set (k * 4) (.int .i64 l[k].f0)).set (k * 4 + 1) (.int .i64 z)).set (k * 4 + 2) (.slice l[k].f2.A l[k].f2.ls.length l[k].f2.cap)).set (k * 4 + 3) (.bool l[k].f3)
    rw [set_self (flat_0 l k hk), set_self (v := .slice l[k].f2.A l[k].f2.ls.length l[k].f2.cap) (by rw [List.getElem?_set_ne (by omega)]; exact flat_2 l k hk), set_self (v := .bool l[k].f3) (by rw [List.getElem?_set_ne (by omega)]; exact flat_3 l k hk)]
  refine ⟨?_, fun j hj => h.low j (by simpa [Value.ownBlock] using hj), ?_⟩
  · have := (h.out.stored (k * 4 + 1) (.int .i64 z)).1
    rw [ef] at this
    simpa using this
  · have e : (l.set k ⟨l[k].f0, z, l[k].f2, l[k].f3⟩).map R.f2 = l.map R.f2 := by
      rw [List.map_set]
      apply List.ext_getElem?
      intro j
      rw [List.getElem?_set]
      split
      · rename_i h1; subst h1; simp [hk]
      · rfl
    rw [e]
    exact h.inn.congr fun j _ _ h4 => Below.heap_setCell w ⟨g, k * 4 + 1, none⟩ _ j (fun e => h4 (by rw [e]; rfl))
theorem putCov' {w : World} {lo top g c k : Nat} {l : List R} {y : R} (q : Bool) (h : Own w lo top (some ⟨g, 0, none⟩) c l) (hk : k < l.length) (hy : l[k] = y) :
    Own (w.setCell ⟨g, k * 4 + 3, none⟩ (.bool q)) lo top (some ⟨g, 0, none⟩) c (l.set k ⟨y.f0, y.f1, y.f2, q⟩) := by
  subst hy; exact h.putCov q hk
/-- the numbers of heap k's layers written in their place. -/
theorem putIn {w w' : World} {lo top g c k : Nat} {l : List R} {y : R} {ms : List Int} (h : Own w lo top (some ⟨g, 0, none⟩) c l) (hk : k < l.length) (hy : l[k] = y) (hl : ms.length = y.f2.ls.length)
    (hr : RowOwn w' lo ⟨y.f2.A, y.f2.cap, ms⟩) (hg : w.grownBy w' y.f2.blk) : Own w' lo top (some ⟨g, 0, none⟩) c (l.set k ⟨y.f0, y.f1, ⟨y.f2.A, y.f2.cap, ms⟩, y.f3⟩) := by
  subst hy
  have hm : l[k].f2 ∈ l.map R.f2 := List.mem_map.2 ⟨_, List.getElem_mem hk, rfl⟩
  have hb : Row.blk ⟨l[k].f2.A, l[k].f2.cap, ms⟩ = l[k].f2.blk := by
    show (Value.slice l[k].f2.A ms.length l[k].f2.cap).ownBlock = (Value.slice l[k].f2.A l[k].f2.ls.length l[k].f2.cap).ownBlock
    rw [hl]
  have ef : flat (l.set k ⟨l[k].f0, l[k].f1, ⟨l[k].f2.A, l[k].f2.cap, ms⟩, l[k].f3⟩) = flat l := by
    rw [← flat_row ⟨l[k].f2.A, l[k].f2.cap, ms⟩ hk]
    exact set_self (by rw [flat_2 l k hk]; simp [hl])
  have hgk : l[k].f2.blk ≠ some g := fun e => (h.inn.far _ hm g e).2 rfl
  refine ⟨?_, fun j hj => h.low j (by simpa [Value.ownBlock] using hj), ?_⟩
  · rw [ef, List.length_set]
    exact own_congr h.out (fun j hj => by
      have e : g = j := by simpa [Value.ownBlock] using hj
      subst e
      exact hg.block g (h.out.lt g rfl).2 (fun e => hgk e.symm))
  · have hi : (l.map R.f2)[k]? = some l[k].f2 := by simp [hk]
    rw [List.map_set]
    exact h.inn.set (top' := top) hi hr (Nat.le_refl _) (fun j hj => by
      rw [hb] at hj
      exact ⟨(h.inn.far _ hm j hj).1, (h.inn.far _ hm j hj).2, .inl hj⟩) (fun j h1 _ h3 => hg.block j h1 (fun e => h3 e.symm))
theorem tot_next {l : List R} {j : Nat} {y : R} (h : j < l.length) (hy : l[j] = y) : tot (l.take (j + 1)) = tot (l.take j) + wid y := by
  rw [List.take_succ_eq_append_getElem h, tot_snoc, hy]
def MkPost (l : List R) (A : Option Addr) (c lo top : Nat) (k : Int) (w : World) (e : Ending) (w' : World) : Prop :=
  e = .returned (.int .i64 (k + tot l)) ∧ Own w' lo top A c (marksL k l) ∧ Span lo top w w'
set_option maxHeartbeats 1000000 in
theorem markS_any (A : Option Addr) (c lo top : Nat) (l : List R) (k : Int) (w : World) (ho : Own w lo top A c l) (hn : l.length ≤ 100000000) (hrl : ∀ x ∈ l, x.f2.ls.length ≤ 1048576) (hk0 : 0 ≤ k) (hk1 : k + tot l ≤ 10000000000) :
    Calls Try.prog 43 #[.slice A l.length c, .int .i64 k] w (MkPost l A c lo top k w) := by
  have HO0 := Lib.hid ho; clear ho
  have HRL := Lib.hid hrl; clear hrl
  have HK1 := Lib.hid hk1; clear hk1
  go_enter Try.func43, Try.ntmps43
  go_wp2
  go_loopw [1, 5] (fun q i wr => ∃ (j : Nat) (z : Int), j ≤ l.length ∧ i = .int .i64 j ∧ q = .int .i64 z ∧ Hid (z = k + tot (l.take j)) ∧ Hid (Own wr lo top A c (part l k j)) ∧ Hid (Span lo top w wr)) (fun _ i _ => l.length - (intOf i).toNat)
  case atStart => exact ⟨0, k, Nat.zero_le _, rfl, rfl, Lib.hid (by simp [tot]), Lib.hid (by rw [part_zero]; exact HO0.out), Lib.hid (Span.refl _ _ _)⟩
  case round =>
    obtain ⟨j, z, hj, rfl, rfl, HZ, HO, HS⟩ := hrel
    by_cases hlt : j < l.length
    · have hpl := part_len l k j hj
      obtain ⟨g, rfl⟩ := HO.out.ptr (by omega)
      obtain ⟨y, hy⟩ : ∃ y, l[j] = y := ⟨_, rfl⟩
      have hjp : j < (part l k j).length := by omega
      have hyp : (part l k j)[j] = y := by rw [part_at l k j hlt, hy]
      obtain ⟨m0, m1, m2, m3⟩ := HO.out.at hjp hyp
      have g0 : wr.frozen? ⟨g, j * 4, none⟩ = false := HO.out.out.frozenAt _
      have g1 : wr.frozen? ⟨g, j * 4 + 1, none⟩ = false := HO.out.out.frozenAt _
      have htn := tot_next hlt hy
      have htt := tot_take l (j + 1)
      have hz0 : 0 ≤ z ∧ z + 3 + y.f2.ls.length ≤ 10000000000 := by
        have h1 := HZ.out
        have h2 := HK1.out
        have e : wid y = 3 + y.f2.ls.length := rfl
        rw [htn, e] at htt
        omega
      have HTN := Lib.hid htn; clear htn htt
      have HLO := Lib.hid (HO.out.out.lt g rfl).1
      have HTOP := Lib.hid (HO.out.low g rfl)
      have HO1 := Lib.hid (putId z HO.out hjp hyp)
      have HO2 := Lib.hid (putGr (z + 1) HO1.out (by rw [List.length_set]; exact hjp) (List.getElem_set_self ..))
      have hrow : RowOwn ((wr.setCell ⟨g, j * 4, none⟩ (.int .i64 z)).setCell ⟨g, j * 4 + 1, none⟩ (.int .i64 (z + 1))) lo y.f2 := by
        have := HO2.out.row (k := j) (by rw [List.length_set, List.length_set]; exact hjp)
        rw [List.getElem_set_self] at this
        exact this
      have HROW := Lib.hid hrow; clear hrow
      have HY := Lib.hid hy; have HYP := Lib.hid hyp; have HJP := Lib.hid hjp; have HPL := Lib.hid hpl
      have HLT := Lib.hid hlt
      have hyn : y.f2.ls.length ≤ 1048576 := by rw [← hy]; exact HRL.out _ (List.getElem_mem hlt)
      have y1 : IntKind.i64.wrap (z + 1) = z + 1 := IntWalk.i64_in _ (by omega)
      have y2 : IntKind.i64.wrap (z + 1 + 1) = z + 2 := by rw [IntWalk.i64_in _ (by omega)]; omega
      clear hy hyp hpl
      go_upto_region 8 with fail
      have HS2 := Lib.hid ((HS.out.set (g := g) ⟨HLO.out, HTOP.out⟩ (j * 4) (.int .i64 z)).set (g := g) ⟨HLO.out, HTOP.out⟩ (j * 4 + 1) (.int .i64 (z + 1)))
      have ho2 := HO2.out
      rw [List.set_set] at ho2
      clear HO2 HO1 m0 m1 m2 m3 g0 g1
      generalize (wr.setCell ⟨g, j * 4, none⟩ (.int .i64 z)).setCell ⟨g, j * 4 + 1, none⟩ (.int .i64 (z + 1)) = W2 at ho2 HROW HS2 ⊢
      obtain ⟨n0, n1, n2, n3⟩ := ho2.at (k := j) (by rw [List.length_set]; exact hjp) (List.getElem_set_self ..)
      have HO2 := Lib.hid ho2; clear ho2
      go_wp2_with fail
      refine (SInt.markS_any y.f2.A y.f2.cap lo y.f2.ls (z + 2) W2 HROW.out (by omega) (by omega) (by omega)).mono ?_
      rintro e w3 ⟨rfl, hom, hgm⟩
      have ho3 := putIn (ms := marks (z + 2) y.f2.ls.length) HO2.out (by rw [List.length_set]; exact hjp) (List.getElem_set_self ..) (by rw [marks_len]) (by show RowOwn w3 lo ⟨y.f2.A, y.f2.cap, marks (z + 2) y.f2.ls.length⟩; unfold RowOwn Row.val; simp only [marks_len]; exact hom) hgm
      rw [List.set_set] at ho3
      obtain ⟨k0, k1, k2, k3⟩ := ho3.at (k := j) (by rw [List.length_set]; exact hjp) (List.getElem_set_self ..)
      have g3 : w3.frozen? ⟨g, j * 4 + 3, none⟩ = false := ho3.out.frozenAt _
      have HS3 := Lib.hid (HS2.out.trans (Span.grown hgm (fun q hq => ⟨(HROW.out.lt q hq).1, by
        have hm := List.mem_map_of_mem (f := R.f2) (List.getElem_mem (show j < ((part l k j).set j ⟨z, z + 1, y.f2, y.f3⟩).length by rw [List.length_set]; exact hjp))
        have := (HO2.out.inn.far _ hm q (by rw [List.getElem_set_self]; exact hq)).1
        exact this⟩)))
      have HO3 := Lib.hid ho3; clear ho3 hom hgm n0 n1 n2 n3 k0 k1 k2 HO2 HROW HS2
      obtain ⟨c3, tc3⟩ : ∃ c, tri (z + 2 + y.f2.ls.length) = c := ⟨_, rfl⟩
      have tw3 : ((z + 2 + y.f2.ls.length) % 3 == 0) = c3 := tc3
      have y3 : IntKind.i64.wrap (z + 2 + y.f2.ls.length + 1) = z + 2 + y.f2.ls.length + 1 := IntWalk.i64_in _ (by omega)
      have TC3 := Lib.hid tc3; clear tc3
      go_wp2
      go_roundw
      case rel =>
        have hz := HZ.out
        have ho4 := putCov' c3 HO3.out (by rw [List.length_set]; exact HJP.out) (List.getElem_set_self ..)
        rw [List.set_set] at ho4
        have e : (⟨z, z + 1, ⟨y.f2.A, y.f2.cap, marks (z + 2) y.f2.ls.length⟩, c3⟩ : R) = mkAt z y := by
          unfold mkAt; rw [TC3.out]
        have hps := part_set l k j HLT.out
        have hyy : l[j]'HLT.out = y := HY.out
        rw [hyy, ← hz] at hps
        dsimp only at ho4
        rw [e, hps] at ho4
        refine ⟨j + 1, z + 2 + y.f2.ls.length + 1, HLT.out, by go_num, rfl, Lib.hid ?_, Lib.hid ho4, Lib.hid (HS3.out.set ⟨HLO.out, HTOP.out⟩ _ _)⟩
        have h1 := HTN.out
        have e2 : wid y = 3 + y.f2.ls.length := rfl
        rw [h1, e2, hz]; push_cast; omega
      case measure => have := HLT.out; simp [intOf]; omega
    · have hkk : j = l.length := by omega
      have HE := Lib.hid (show z = k + tot l by have := HZ.out; rwa [List.take_of_length_le (by omega)] at this)
      go_wp2
      go_ret
      refine ⟨by rw [← HE.out]; rfl, ?_, HS.out⟩
      have := HO.out
      rwa [hkk, part_full] at this
set_option maxHeartbeats 1000000 in
theorem heldS_any (A : Option Addr) (c B : Nat) (l : List R) (k : Int) (w : World) (hr : Rd w B A (flat (marksL k l))) (hrow : ∀ x ∈ marksL k l, Rd w B x.f2.A (iv x.f2.ls)) (hn : l.length ≤ 100000000) (hrl : ∀ x ∈ l, x.f2.ls.length ≤ 1048576) (hk0 : 0 ≤ k) (hk1 : k + tot l ≤ 10000000000) :
    Calls Try.prog 44 #[.slice A l.length c, .int .i64 k] w fun e w' => e = .returned (.int .i64 (k + tot l)) ∧ Drawn w w' := by
  have HR := Lib.hid hr; clear hr
  have HRW := Lib.hid hrow; clear hrow
  have HRL := Lib.hid hrl; clear hrl
  have HK1 := Lib.hid hk1; clear hk1
  go_enter Try.func44, Try.ntmps44
  go_wp2
  go_loopw [1, 5] (fun q i wr => ∃ (j : Nat) (z : Int), j ≤ l.length ∧ i = .int .i64 j ∧ q = .int .i64 z ∧ Hid (z = k + tot (l.take j)) ∧ Drawn w wr) (fun _ i _ => l.length - (intOf i).toNat)
  case atStart => exact ⟨0, k, Nat.zero_le _, rfl, rfl, Lib.hid (by simp [tot]), Drawn.refl _⟩
  case round =>
    obtain ⟨j, z, hj, rfl, rfl, HZ, hD⟩ := hrel
    have HD := Lib.hid hD; clear hD
    by_cases hlt : j < l.length
    · have hml : j < (marksL k l).length := by rw [marksL_len]; exact hlt
      obtain ⟨b, o, rfl, hb, hc⟩ := HR.out.at (k := j * 4) (by rw [flat_n]; omega)
      obtain ⟨y, hy⟩ : ∃ y, l[j] = y := ⟨_, rfl⟩
      have hg : (marksL k l)[j] = mkAt z y := by rw [marksL_get k l j hlt, ← HZ.out, hy]
      have h0 : wr.cell? ⟨b, o + j * 4, none⟩ = some (.int .i64 z) := (HD.out.cell _ _).trans (by have := hc _ _ (flat_0 (marksL k l) j hml); rw [hg] at this; exact this)
      have h1 : wr.cell? ⟨b, o + j * 4 + 1, none⟩ = some (.int .i64 (z + 1)) := (HD.out.cell _ _).trans (by have := hc _ _ (flat_1 (marksL k l) j hml); rw [hg] at this; exact this)
      have h2 : wr.cell? ⟨b, o + j * 4 + 2, none⟩ = some (.slice y.f2.A y.f2.ls.length y.f2.cap) := (HD.out.cell _ _).trans (by have := hc _ _ (flat_2 (marksL k l) j hml); rw [hg] at this; rw [show (mkAt z y).f2.ls.length = y.f2.ls.length from marks_len _ _] at this; exact this)
      have h3 : wr.cell? ⟨b, o + j * 4 + 3, none⟩ = some (.bool (tri (z + 2 + y.f2.ls.length))) := (HD.out.cell _ _).trans (by have := hc _ _ (flat_3 (marksL k l) j hml); rw [hg] at this; exact this)
      have hrw : Rd wr B y.f2.A (iv (marks (z + 2) y.f2.ls.length)) := by
        have h5 := HRW.out _ (List.getElem_mem hml)
        rw [hg] at h5
        exact Rd.keep h5 (fun b o _ => HD.out.cell b o)
      have HRR := Lib.hid hrw; clear hrw
      have htn := tot_next hlt hy
      have htt := tot_take l (j + 1)
      have hz0 : 0 ≤ z ∧ z + 3 + y.f2.ls.length ≤ 10000000000 := by
        have h1 := HZ.out
        have h2 := HK1.out
        have e : wid y = 3 + y.f2.ls.length := rfl
        rw [htn, e] at htt
        omega
      have HTN := Lib.hid htn; clear htn htt
      have hyn : y.f2.ls.length ≤ 1048576 := by rw [← hy]; exact HRL.out _ (List.getElem_mem hlt)
      have HLT := Lib.hid hlt
      clear hc hy hg hml
      have y1 : IntKind.i64.wrap (z + 1) = z + 1 := IntWalk.i64_in _ (by omega)
      have y2 : IntKind.i64.wrap (z + 1 + 1) = z + 2 := by rw [IntWalk.i64_in _ (by omega)]; omega
      go_wp2_with fail
      refine (SInt.heldS_any y.f2.A y.f2.cap B (z + 2) y.f2.ls.length _ HRR.out (by omega) (by omega) (by omega)).mono ?_
      rintro e w3 ⟨rfl, hd3⟩
      have h3' := (hd3.cell b (o + j * 4 + 3)).trans h3
      have HD3 := Lib.hid (HD.out.trans hd3)
      clear h0 h1 h2 h3 hd3
      obtain ⟨c3, tc3⟩ : ∃ c, tri (z + 2 + y.f2.ls.length) = c := ⟨_, rfl⟩
      have tw3 : ((z + 2 + y.f2.ls.length) % 3 == 0) = c3 := tc3
      rw [tc3] at h3'
      have TC3 := Lib.hid tc3; clear tc3
      have hneg : decide (z + 2 + (y.f2.ls.length : Int) < 0) = false := decide_eq_false (by omega)
      have y3 : IntKind.i64.wrap (z + 2 + y.f2.ls.length + 1) = z + 2 + y.f2.ls.length + 1 := IntWalk.i64_in _ (by omega)
      go_wp2
      go_roundw
      case rel =>
        refine ⟨j + 1, z + 2 + y.f2.ls.length + 1, HLT.out, by go_num, rfl, Lib.hid ?_, HD3.out⟩
        have h1 := HTN.out
        have hz := HZ.out
        have e2 : wid y = 3 + y.f2.ls.length := rfl
        rw [h1, e2, hz]; push_cast; omega
      case measure => have := HLT.out; simp [intOf]; omega
    · have HE := Lib.hid (show z = k + tot l by have := HZ.out; rwa [List.take_of_length_le (by omega)] at this)
      go_wp2
      go_ret
      exact ⟨by rw [← HE.out]; rfl, HD.out⟩
end Go.Proofs.Ytoompggbdedkmaa.HeapM
