/- Trips: ReverseTrip, the model's and the program's. Made by tools/mk_tripr.py. -/
import Derived.Test.YtphflbgljejokaaTripCl
import Derived.Test.YtphflbgljejokaaTripN
import Derived.Deep.Cut
import Derived.Deep.CutBlock
import Derived.Deep.DeepCutAuto
namespace Go.Proofs.Ytphflbgljejokaa.TripR
open Go.RowKit Go.Proofs.Ytphflbgljejokaa.Mem Go.Proofs.Ytphflbgljejokaa.Base Go.Proofs.Ytphflbgljejokaa.Within Go.Proofs.Ytphflbgljejokaa.STrip Go.Proofs.Ytphflbgljejokaa.Regn Go.Proofs.Ytphflbgljejokaa.Boxes Go.Proofs.Ytphflbgljejokaa.Keep Go.Proofs.Ytphflbgljejokaa.TripP Go.Proofs.Ytphflbgljejokaa.TripS Go.Proofs.Ytphflbgljejokaa.TripG Go.Proofs.Ytphflbgljejokaa.TripN
set_option linter.unusedVariables false
set_option linter.unusedSimpArgs false
set_option maxRecDepth 100000
def rev (x : R) : R := ⟨x.f0, x.f2, x.f1, x.f3, x.f4⟩
theorem rev_arr (x : R) : arr (rev x) = arr x := by
  unfold arr dur rev most; simp only; split <;> split <;> omega
theorem rev_ok {x : R} (h : okT x = true) : okT (rev x) = true := by
  obtain ⟨a0, a1, a2, a3, a4, a5, a6, a7, a8, a9, a10, a11, a12⟩ := okT_true h
  have e := rev_arr x
  exact okT_mk ⟨a0, a1, a4, a5, a2, a3, fun h => a6 h.symm, a7, a8, by rw [e]; exact a9, by rw [e]; exact a10, a11, a12⟩
def revT (l : List R) (d : Int) : Option (List R) := if good l = true then (match fnd l d with | some i => if freeB l (rev (l.getD i zero)) = true then some (l.set i (rev (l.getD i zero))) else none | none => none) else none
def revF (l : List R) (d : Int) : List R := (revT l d).getD []
def revOk (l : List R) (d : Int) : Bool := (revT l d).isSome
theorem rev_bad {l : List R} {d : Int} (h : good l = false) : revT l d = none := by unfold revT; rw [h]; rfl
theorem rev_none {l : List R} {d : Int} (h : fnd l d = none) : revT l d = none := by unfold revT; rw [h]; simp
theorem rev_meet {l : List R} {d : Int} {i : Nat} {x : R} (h : fnd l d = some i) (hi : i < l.length) (hx : l[i] = x) (h1 : freeB l (rev x) = false) : revT l d = none := by unfold revT; rw [h]; simp only [getD_at hi, hx, h1]; simp
theorem rev_yes {l : List R} {d : Int} {i : Nat} {x : R} (hg : good l = true) (h : fnd l d = some i) (hi : i < l.length) (hx : l[i] = x) (h1 : freeB l (rev x) = true) : revT l d = some (l.set i (rev x)) := by unfold revT; rw [if_pos hg, h]; simp only [getD_at hi, hx, h1]; simp
theorem rev_len (l : List R) (d : Int) : (revF l d).length ≤ 100 := by
  unfold revF revT
  split
  · rename_i h
    have := (good_all h).1
    split
    · split
      · simp; omega
      · simp
    · simp
  · simp
def RevPost (l : List R) (d : Int) (w : World) (e : Ending) (w' : World) : Prop :=
  ∃ (A : Option Addr) (c : Nat), e = .returned (.tuple #[.slice A (revF l d).length c, .bool (revOk l d)]) ∧ w'.ownsRow w.heap.size 25 5 (.slice A (revF l d).length c) (revF l d).length (flat (revF l d)) ∧ Below w.heap.size w w'
theorem r_bad {l : List R} {d : Int} {w u : World} (h : revT l d = none) (hb : Below w.heap.size w u) : RevPost l d w (.returned (.tuple #[.slice (some ⟨u.heap.size, 0, none⟩) 0 0, .bool false])) (u.alloc (.cells #[] 25)) := by
  have e : revF l d = [] := by unfold revF; rw [h]; rfl
  have e2 : revOk l d = false := by unfold revOk; rw [h]; rfl
  refine ⟨some ⟨u.heap.size, 0, none⟩, 0, by rw [e, e2]; rfl, ?_, al hb⟩
  rw [e]
  exact TripCl.empty_own hb
theorem r_good {l m : List R} {d : Int} {w u : World} {A : Option Addr} {c n : Nat} (h : revT l d = some m) (hn : n = m.length) (hb : Below w.heap.size w u) (O : u.ownsRow w.heap.size 25 5 (.slice A n c) n (flat m)) :
    RevPost l d w (.returned (.tuple #[.slice A n c, .bool true])) u := by
  subst hn
  have e : revF l d = m := by unfold revF; rw [h]; rfl
  have e2 : revOk l d = true := by unfold revOk; rw [h]; rfl
  exact ⟨A, c, by rw [e, e2], by rw [e]; exact O, hb⟩
theorem set_mem_ok {l : List R} {i : Nat} {y : R} (h : ∀ x ∈ l, okT x = true) (hy : okT y = true) : ∀ x ∈ l.set i y, okT x = true := by
  intro x hx
  rcases List.mem_or_eq_of_mem_set hx with h1 | h1
  · exact h x h1
  · rw [h1]; exact hy
theorem free_set {l : List R} {i : Nat} {y : R} (hi : i < l.length) (h : l[i].f0 = y.f0) : freeB (l.set i y) y = freeB l y := by
  unfold freeB
  rw [List.length_set]
  have key : ∀ j, j ∈ List.range l.length → freeAt (l.set i y) y j = freeAt l y j := by
    intro j hj
    have hj := List.mem_range.1 hj
    by_cases e : j = i
    · subst e
      rw [freeAt_same (x := y) (by rw [List.length_set]; exact hj) (by simp) rfl, freeAt_same hj rfl h]
    · unfold freeAt
      rw [getD_at (by rw [List.length_set]; exact hj), getD_at hj, List.getElem_set_ne (fun e2 => e e2.symm)]
  rw [Bool.eq_iff_iff, List.all_eq_true, List.all_eq_true]
  exact ⟨fun h j hj => by rw [← key j hj]; exact h j hj, fun h j hj => by rw [key j hj]; exact h j hj⟩
theorem set_same {α : Type} {xs : List α} {k : Nat} {v : α} (h : xs[k]? = some v) : xs.set k v = xs := by
  apply List.ext_getElem?
  intro j
  rw [List.getElem?_set]
  split
  · rename_i e; subst e
    split
    · exact h.symm
    · rename_i h1; rw [List.getElem?_eq_none (by omega)] at h; cases h
  · rfl
theorem flat_set2 {l : List R} {i : Nat} {x : R} (h : i < l.length) (hx : l[i] = x) : ((flat l).set (i * 5 + 1) (.int .i64 x.f2)).set (i * 5 + 2) (.int .i64 x.f1) = flat (l.set i (rev x)) := by
  have h0 := flat_0 l i h; have h3 := flat_3 l i h; have h4 := flat_4 l i h
  rw [hx] at h0 h3 h4
  have e := flat_set l i (rev x) h
  rw [← e]
  show _ = ((((flat l).set (i * 5) (.int .i64 x.f0)).set (i * 5 + 1) (.int .i64 x.f2)).set (i * 5 + 2) (.int .i64 x.f1) |>.set (i * 5 + 3) (.int .i64 x.f3)).set (i * 5 + 4) (.int .i64 x.f4)
  rw [set_same h0]
  generalize hM : ((flat l).set (i * 5 + 1) (.int .i64 x.f2)).set (i * 5 + 2) (.int .i64 x.f1) = M
  have k3 : M[i * 5 + 3]? = some (.int .i64 x.f3) := by rw [← hM, List.getElem?_set_ne (by omega), List.getElem?_set_ne (by omega)]; exact h3
  have k4 : M[i * 5 + 4]? = some (.int .i64 x.f4) := by rw [← hM, List.getElem?_set_ne (by omega), List.getElem?_set_ne (by omega)]; exact h4
  rw [set_same k3, set_same k4]
set_option maxHeartbeats 1600000 in
theorem rev_impl (P : Option Addr) (cap : Nat) (l : List R) (d : Int) (w : World) (hr : Rd w w.heap.size P (flat l)) (hcp : l.length ≤ cap) (hn : l.length ≤ 1048576) :
    Calls Try.prog 38 #[.slice P l.length cap, .int .i64 d] w (RevPost l d w) := by
  have HR := Lib.hid hr; clear hr
  go_enter Try.func38, Try.ntmps38
  go_wp2_with fail
  refine (find_impl P cap l d w HR.out hn).mono ?_
  rintro e w1 ⟨rfl, HB⟩
  cases hg : good l
  · rw [ftV_bad hg]
    have HV := Lib.hid (rev_bad (d := d) hg)
    go_wp2
    go_ret2
    exact r_bad HV.out HB
  cases hf : fnd l d with
  | none =>
    rw [ftV_none hg hf]
    have HV := Lib.hid (rev_none hf)
    go_wp2
    go_ret2
    exact r_bad HV.out HB
  | some i =>
  rw [ftV_some hg hf]
  have HG := Lib.hid hg; have HF := Lib.hid hf
  obtain ⟨hi, hid⟩ := fnd_some hf
  clear hg hf hid
  have h10 := (good_all HG.out).1
  obtain ⟨x, hx⟩ : ∃ x, l[i] = x := ⟨_, rfl⟩
  have hok := (good_all HG.out).2 i hi
  rw [hx] at hok
  have HOK := Lib.hid hok
  have HX := Lib.hid hx
  obtain ⟨b, o, rfl, hb, hc⟩ := HR.out.at (k := i * 5) (by rw [flat_n]; omega)
  have HC := Lib.hid hc
  clear hx hc hok
  go_wp2_with fail
  refine (TripCl.clone_any (some ⟨b, o, none⟩) cap l w1 (rd_keep HR.out HB) hn).mono ?_
  rintro e w2 ⟨A1, c1, rfl, O1, hv⟩
  have HB2 := be HB hv
  obtain ⟨g, cap', hA⟩ := own_some O1 (by omega)
  obtain ⟨rfl, rfl⟩ := hA
  have O := own_base O1 HB.size
  clear O1 hv HB
  obtain ⟨h0, h1, h2, h3, h4⟩ := cells5 HB2 hb HC.out hi HX.out
  have HI := Lib.hid (show i * 5 + 5 ≤ l.length * 5 by omega)
  have hgw := own_ge O g rfl
  have HO := Lib.hid O
  have hi5 := HI.out
  obtain ⟨u0, m0⟩ : ∃ v, w2.cell? ⟨g, i * 5, none⟩ = some v := ⟨_, (O.cellAt (i * 5) (by omega)).trans (List.getElem?_eq_getElem (by rw [flat_n]; omega))⟩
  have g0 : w2.frozen? ⟨g, i * 5, none⟩ = false := O.frozenAt _
  obtain ⟨u1, m1⟩ : ∃ v, w2.cell? ⟨g, i * 5 + 1, none⟩ = some v := ⟨_, (O.cellAt (i * 5 + 1) (by omega)).trans (List.getElem?_eq_getElem (by rw [flat_n]; omega))⟩
  have g1 : w2.frozen? ⟨g, i * 5 + 1, none⟩ = false := O.frozenAt _
  obtain ⟨u2, m2⟩ : ∃ v, w2.cell? ⟨g, i * 5 + 2, none⟩ = some v := ⟨_, (O.cellAt (i * 5 + 2) (by omega)).trans (List.getElem?_eq_getElem (by rw [flat_n]; omega))⟩
  have g2 : w2.frozen? ⟨g, i * 5 + 2, none⟩ = false := O.frozenAt _
  obtain ⟨u3, m3⟩ : ∃ v, w2.cell? ⟨g, i * 5 + 3, none⟩ = some v := ⟨_, (O.cellAt (i * 5 + 3) (by omega)).trans (List.getElem?_eq_getElem (by rw [flat_n]; omega))⟩
  have g3 : w2.frozen? ⟨g, i * 5 + 3, none⟩ = false := O.frozenAt _
  obtain ⟨u4, m4⟩ : ∃ v, w2.cell? ⟨g, i * 5 + 4, none⟩ = some v := ⟨_, (O.cellAt (i * 5 + 4) (by omega)).trans (List.getElem?_eq_getElem (by rw [flat_n]; omega))⟩
  have g4 : w2.frozen? ⟨g, i * 5 + 4, none⟩ = false := O.frozenAt _
  clear hi5 u0 m0 g0
  go_upto_region 5 with fail
  go_region
  all_goals
    have S1 := HO.out.stored (i * 5 + 1) (.int .i64 x.f2)
    have S2 := S1.1.stored (i * 5 + 2) (.int .i64 x.f1)
    have O3 := own_keep S2.1 (Below.refl _ _).drew
    rw [flat_set2 hi HX.out] at O3
    have HB3 := Lib.hid (((HB2.setCell (p := ⟨g, i * 5 + 1, none⟩) hgw (.int .i64 x.f2)).setCell (p := ⟨g, i * 5 + 2, none⟩) hgw (.int .i64 x.f1)).drew)
    clear S1 S2 h0 h1 h2 h3 h4 m1 m2 m3 m4 g1 g2 g3 g4 O HO HB2
    generalize ((w2.setCell ⟨g, i * 5 + 1, none⟩ (.int .i64 x.f2)).setCell ⟨g, i * 5 + 2, none⟩ (.int .i64 x.f1)).drew = V at O3 HB3 ⊢
    have hll : (l.set i (rev x)).length = l.length := List.length_set
    have HLL := Lib.hid hll
    have hq : ∀ j v, (flat (l.set i (rev x)))[j]? = some v → V.cell? ⟨g, j, none⟩ = some v := by
      intro j v hv
      have hj : j < l.length * 5 := by
        rcases Nat.lt_or_ge j (l.length * 5) with h | h
        · exact h
        · rw [List.getElem?_eq_none (by rw [flat_n, hll]; exact h)] at hv; cases hv
      exact (O3.cellAt j hj).trans hv
    have hgl : i < (l.set i (rev x)).length := by rw [hll]; exact hi
    have he : (l.set i (rev x))[i] = rev x := by simp
    have d0 : V.cell? ⟨g, i * 5, none⟩ = some (.int .i64 x.f0) := by have := hq _ _ (flat_0 _ i hgl); rw [he] at this; exact this
    have d1 : V.cell? ⟨g, i * 5 + 1, none⟩ = some (.int .i64 x.f2) := by have := hq _ _ (flat_1 _ i hgl); rw [he] at this; exact this
    have d2 : V.cell? ⟨g, i * 5 + 2, none⟩ = some (.int .i64 x.f1) := by have := hq _ _ (flat_2 _ i hgl); rw [he] at this; exact this
    have d3 : V.cell? ⟨g, i * 5 + 3, none⟩ = some (.int .i64 x.f3) := by have := hq _ _ (flat_3 _ i hgl); rw [he] at this; exact this
    have d4 : V.cell? ⟨g, i * 5 + 4, none⟩ = some (.int .i64 x.f4) := by have := hq _ _ (flat_4 _ i hgl); rw [he] at this; exact this
    have HO3 := Lib.hid O3
    have HFS := Lib.hid (free_set (y := rev x) hi (by rw [HX.out]; rfl))
    have HCL := Lib.hid (show Calls Try.prog 74 #[.agg #[.int .i64 x.f0, .int .i64 x.f2, .int .i64 x.f1, .int .i64 x.f3, .int .i64 x.f4], .slice (some ⟨g, 0, none⟩) l.length c1] V (RPost (.bool (!freeB l (rev x))) V) by
      have h := other_impl (some ⟨g, 0, none⟩) c1 (l.set i (rev x)) (rev x) (set_mem_ok (good_mem HG.out) (rev_ok HOK.out)) (rev_ok HOK.out) V (Rd.of_own (show V.ownsRow w.heap.size 25 5 (.slice (some ⟨g, 0, none⟩) (l.set i (rev x)).length c1) (l.set i (rev x)).length (flat (l.set i (rev x))) by rw [HLL.out]; exact O3)) (by rw [HLL.out]; omega)
      rw [HLL.out, HFS.out] at h; exact h)
    clear hq hgl he O3 hll
    go_wp2_with fail
    refine HCL.out.mono ?_
    rintro e w5 ⟨rfl, hv5⟩
    have HB5 := Lib.hid (be HB3.out hv5)
    have HO5 := Lib.hid (own_keep HO3.out hv5)
    clear hv5 HCL d0 d1 d2 d3 d4
    cases h1 : freeB l (rev x)
    · go_wp2
      go_ret2
      exact r_bad (rev_meet HF.out hi HX.out h1) HB5.out
    · go_wp2
      go_ret2
      exact r_good (rev_yes HG.out HF.out hi HX.out h1) HLL.out.symm HB5.out HO5.out
set_option maxHeartbeats 1600000 in
theorem rev_spec (P : Option Addr) (cap : Nat) (l : List R) (d : Int) (w : World) (hr : Rd w w.heap.size P (flat l)) (hn : l.length ≤ 1048576) :
    Calls Try.prog 39 #[.slice P l.length cap, .int .i64 d] w (RevPost l d w) := by
  obtain ⟨i0, hi0, hz0, hz1, hz2⟩ := info_parts info_T
  have HIN := Lib.hid hz2; clear hz2
  have HI1 := Lib.hid hz1; clear hz1
  have HR := Lib.hid hr; clear hr
  go_enter Try.func39, Try.ntmps39
  go_wp2_with fail
  refine (find_spec P cap l d w HR.out hn).mono ?_
  rintro e _ ⟨rfl, rfl⟩
  go_wp2_with fail
  refine (good_spec P cap l w HR.out hn).mono ?_
  rintro e w1 ⟨rfl, HB⟩
  cases hg : good l
  · have HV := Lib.hid (rev_bad (d := d) hg)
    go_wp2
    go_ret2
    exact r_bad HV.out HB
  cases hf : fnd l d with
  | none =>
    rw [fndI_none hf]
    have HV := Lib.hid (rev_none hf)
    go_wp2
    go_ret2
    exact r_bad HV.out HB
  | some i =>
  rw [fndI_some hf]
  have HG := Lib.hid hg; have HF := Lib.hid hf
  obtain ⟨hi, hid⟩ := fnd_some hf
  have h10 := (good_all HG.out).1
  obtain ⟨x, hx⟩ : ∃ x, l[i] = x := ⟨_, rfl⟩
  have hok := (good_all HG.out).2 i hi
  rw [hx] at hok hid
  subst hid
  clear hg hf
  have HOK := Lib.hid hok
  have HX := Lib.hid hx
  obtain ⟨b, o, rfl, hb, hc⟩ := HR.out.at (k := i * 5) (by rw [flat_n]; omega)
  have HC := Lib.hid hc
  clear hx hc hok
  have hneg : decide ((i : Int) < 0) = false := decide_eq_false (by omega)
  obtain ⟨h0, h1, h2, h3, h4⟩ := cells5 HB hb HC.out hi HX.out
  have hb2 : b < w1.heap.size := Nat.lt_of_lt_of_le hb HB.size
  go_upto_region 4 with fail
  go_region
  all_goals
    have Y := (Box.new HB [.int .i64 x.f0, .int .i64 x.f2, .int .i64 x.f1, .int .i64 x.f3, .int .i64 x.f4] 25 (g := w1.heap.size) rfl).drew
    obtain ⟨gY, hgY⟩ : ∃ g, w1.heap.size = g := ⟨_, rfl⟩
    generalize (World.alloc w1 (.cells #[.int .i64 x.f0, .int .i64 x.f2, .int .i64 x.f1, .int .i64 x.f3, .int .i64 x.f4] 25)).drew = V at Y ⊢
    rw [hgY] at Y ⊢
    clear h0 h1 h2 h3 h4 hneg hb2 hgY HB
    have HFR := Lib.hid (free_spec (some ⟨b, o, none⟩) cap l (rev x) (good_mem HG.out) (rev_ok HOK.out) V ((HR.out.below Y.below (Nat.le_refl _)).mono Y.below.size) hn)
    have Y_0 := Y.cells 0 _ rfl
    have Y_1 := Y.cells 1 _ rfl
    have Y_2 := Y.cells 2 _ rfl
    have Y_3 := Y.cells 3 _ rfl
    have Y_4 := Y.cells 4 _ rfl
    have Y_t := Y.there
    go_wp2_with fail
    refine HFR.out.mono ?_
    rintro e w3 ⟨rfl, hv3⟩
    clear Y_0 Y_1 Y_2 Y_3 Y_4 Y_t HFR
    replace Y := Y.more hv3
    clear hv3
    cases hfr : freeB l (rev x)
    · have HV := Lib.hid (rev_meet HF.out hi HX.out hfr)
      have HYB := Lib.hid Y.below
      clear Y
      go_wp2
      go_ret2
      exact r_bad HV.out HYB.out
    have HV := Lib.hid (rev_yes HG.out HF.out hi HX.out hfr)
    clear hfr
    have HYB := Lib.hid Y.below
    have Y_t := Y.there
    have HO := Lib.hid (TripCl.empty_own Y.below)
    have HN := Lib.hid (show ∀ j u, (flat l)[j]? = some u → (w3.alloc (.cells #[] 25)).cell? ((⟨b, o, none⟩ : Addr).add j) = some u by
      intro j u hu
      rw [TripCl.cell_add, (bcell (al HYB.out (o := .cells #[] 25))).1 _ _ hb]
      exact HC.out j u hu)
    go_upto_region 8 with (at_builtin; go_must (refine wpList_append_own _ rfl _ _ 35 rfl w.heap.size 25 i0 _ 5 40 Try.underlying35 hi0 hz0 HI1.out HIN.out rfl (by decide) _ 0 _ rfl HO.out ⟨b, o, none⟩ l.length cap (flat l) rfl (flat_n l) HN.out (TripCl.flat_one l) (by unfold maxLen; omega) (by omega) (by rw [size_alloc']; have := HYB.out.size; omega) ?_; intro v' w9 hown1 hgrow _))
    obtain ⟨A1, c1, rfl⟩ := own_form hown1
    have O : w9.ownsRow w.heap.size 25 5 (.slice A1 l.length c1) l.length (flat l) := by simpa [flat] using hown1
    have Y9 := box_grown (Y.alloc (.cells #[] 25)) hgrow (fun k hk => ⟨by have := row_at hk; omega, own_ge HO.out k hk⟩)
    clear hown1 hgrow Y Y_t HN HO
    obtain ⟨g, cap', hA⟩ := own_some O (by omega)
    obtain ⟨rfl, rfl⟩ := hA
    have hi5 : i * 5 + 5 ≤ l.length * 5 := by omega
    have hgw := own_ge O g rfl
    have HO := Lib.hid O
    obtain ⟨u0, m0⟩ : ∃ v, w9.cell? ⟨g, i * 5, none⟩ = some v := ⟨_, (O.cellAt (i * 5) (by omega)).trans (List.getElem?_eq_getElem (by rw [flat_n]; omega))⟩
    have g0 : w9.frozen? ⟨g, i * 5, none⟩ = false := O.frozenAt _
    obtain ⟨u1, m1⟩ : ∃ v, w9.cell? ⟨g, i * 5 + 1, none⟩ = some v := ⟨_, (O.cellAt (i * 5 + 1) (by omega)).trans (List.getElem?_eq_getElem (by rw [flat_n]; omega))⟩
    have g1 : w9.frozen? ⟨g, i * 5 + 1, none⟩ = false := O.frozenAt _
    obtain ⟨u2, m2⟩ : ∃ v, w9.cell? ⟨g, i * 5 + 2, none⟩ = some v := ⟨_, (O.cellAt (i * 5 + 2) (by omega)).trans (List.getElem?_eq_getElem (by rw [flat_n]; omega))⟩
    have g2 : w9.frozen? ⟨g, i * 5 + 2, none⟩ = false := O.frozenAt _
    obtain ⟨u3, m3⟩ : ∃ v, w9.cell? ⟨g, i * 5 + 3, none⟩ = some v := ⟨_, (O.cellAt (i * 5 + 3) (by omega)).trans (List.getElem?_eq_getElem (by rw [flat_n]; omega))⟩
    have g3 : w9.frozen? ⟨g, i * 5 + 3, none⟩ = false := O.frozenAt _
    obtain ⟨u4, m4⟩ : ∃ v, w9.cell? ⟨g, i * 5 + 4, none⟩ = some v := ⟨_, (O.cellAt (i * 5 + 4) (by omega)).trans (List.getElem?_eq_getElem (by rw [flat_n]; omega))⟩
    have g4 : w9.frozen? ⟨g, i * 5 + 4, none⟩ = false := O.frozenAt _
    have Y_0 := Y9.cells 0 _ rfl
    have Y_1 := Y9.cells 1 _ rfl
    have Y_2 := Y9.cells 2 _ rfl
    have Y_3 := Y9.cells 3 _ rfl
    have Y_4 := Y9.cells 4 _ rfl
    have Y_t := Y9.there
    have HB9 := Lib.hid (((((Y9.below.setCell (p := ⟨g, i * 5, none⟩) hgw (.int .i64 x.f0)).setCell (p := ⟨g, i * 5 + 1, none⟩) hgw (.int .i64 x.f2)).setCell (p := ⟨g, i * 5 + 2, none⟩) hgw (.int .i64 x.f1)).setCell (p := ⟨g, i * 5 + 3, none⟩) hgw (.int .i64 x.f3)).setCell (p := ⟨g, i * 5 + 4, none⟩) hgw (.int .i64 x.f4))
    have HO9 := Lib.hid (((((O.stored (i * 5) (.int .i64 x.f0)).1.stored (i * 5 + 1) (.int .i64 x.f2)).1.stored (i * 5 + 2) (.int .i64 x.f1)).1.stored (i * 5 + 3) (.int .i64 x.f3)).1.stored (i * 5 + 4) (.int .i64 x.f4)).1
    have HFS := Lib.hid (flat_set l i (rev x) hi)
    clear O hi5 Y9
    go_wp2
    go_ret2
    exact r_good (m := l.set i (rev x)) HV.out (by rw [Nat.zero_add]; exact List.length_set.symm) HB9.out (by rw [Nat.zero_add]; have h := HO9.out; have e := HFS.out; simp only [rev] at e; rw [e] at h; exact h)
end Go.Proofs.Ytphflbgljejokaa.TripR
