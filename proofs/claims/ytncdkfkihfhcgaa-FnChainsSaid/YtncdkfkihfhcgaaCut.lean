/- CutPond: the model's and the program's. -/
import Derived.Test.YtncdkfkihfhcgaaPond8
import Derived.Test.YtncdkfkihfhcgaaPClone
import Derived.Deep.RegionWith
import Derived.Deep.CutBlock
import Derived.Deep.Cut
import Derived.Deep.DeepCutAuto
import Derived.RegionTactic
import Derived.ChangeAlike
import Derived.BigRegion
namespace Go.Proofs.Ytncdkfkihfhcgaa.Cut
open Go.RowKit Go.Proofs.Ytncdkfkihfhcgaa.Mem Go.Proofs.Ytncdkfkihfhcgaa.Base Go.Proofs.Ytncdkfkihfhcgaa.Within Go.Proofs.Ytncdkfkihfhcgaa.SPond Go.Proofs.Ytncdkfkihfhcgaa.Regn Go.Proofs.Ytncdkfkihfhcgaa.Boxes Go.Proofs.Ytncdkfkihfhcgaa.Pond Go.Proofs.Ytncdkfkihfhcgaa.Pond2 Go.Proofs.Ytncdkfkihfhcgaa.Pond3 Go.Proofs.Ytncdkfkihfhcgaa.Pond4 Go.Proofs.Ytncdkfkihfhcgaa.IPond Go.Proofs.Ytncdkfkihfhcgaa.IPond2 Go.Proofs.Ytncdkfkihfhcgaa.Pond6 Go.Proofs.Ytncdkfkihfhcgaa.Keep Go.Proofs.Ytncdkfkihfhcgaa.PClone
set_option linter.unusedVariables false
set_option maxRecDepth 100000
def nextId (l : List R) : Int := (l.getD (l.length - 1) zero).f0 + 1
def left (x : R) (c : Int) : R := ⟨x.f0, x.f1, x.f2, c, x.f4, x.f5⟩
def right (x : R) (c n : Int) : R := ⟨n, x.f1 + c, x.f2, x.f3 - c, x.f4, x.f5⟩
/-- the list cut at number i. -/
def cutRow (l : List R) (i : Nat) (x : R) (c : Int) : List R := l.set i (left x c) ++ [right x c (nextId l)]
theorem cut_len (l : List R) (i : Nat) (x : R) (c : Int) : (cutRow l i x c).length = l.length + 1 := by simp [cutRow]
def cutIn (l : List R) (id c : Int) : Bool := decide (0 ≤ find l id) && inB c 1 ((at_ l (find l id)).f3 - 1)
def cutOk (l : List R) (id c : Int) : Bool := cutIn l id c && good (cutRow l (find l id).toNat (at_ l (find l id)) c)
def cutL (l : List R) (id c : Int) : List R := if cutOk l id c = true then cutRow l (find l id).toNat (at_ l (find l id)) c else []
def cutN (l : List R) (id c : Int) : Int := if cutOk l id c = true then nextId l else 0
theorem cut_no {l : List R} {id c : Int} (h : cutOk l id c = false) : cutL l id c = [] ∧ cutN l id c = 0 := by unfold cutL cutN; rw [h]; exact ⟨rfl, rfl⟩
theorem ok_neg {l : List R} {id c : Int} (h : ¬ 0 ≤ find l id) : cutOk l id c = false := by unfold cutOk cutIn; rw [decide_eq_false h]; rfl
theorem ok_out {l : List R} {id c : Int} {i : Nat} {x : R} (h : find l id = i) (hi : i < l.length) (hx : l[i] = x) (hc : inB c 1 (x.f3 - 1) = false) : cutOk l id c = false := by
  unfold cutOk cutIn at_; rw [h, Int.toNat_natCast, getD_at hi, hx, hc]; simp
theorem ok_in {l : List R} {id c : Int} {i : Nat} {x : R} (h : find l id = i) (hi : i < l.length) (hx : l[i] = x) (hc : inB c 1 (x.f3 - 1) = true) : cutOk l id c = good (cutRow l i x c) := by
  unfold cutOk cutIn at_; rw [h, Int.toNat_natCast, getD_at hi, hx, hc]; simp
theorem cut_yes {l : List R} {id c : Int} {i : Nat} {x : R} (h : find l id = i) (hi : i < l.length) (hx : l[i] = x) (hok : cutOk l id c = true) : cutL l id c = cutRow l i x c ∧ cutN l id c = nextId l := by
  unfold cutL cutN at_; rw [if_pos hok, if_pos hok, h, Int.toNat_natCast, getD_at hi, hx]; exact ⟨rfl, rfl⟩
def CutPost (L : List R) (n : Int) (q : Bool) (w : World) (e : Ending) (w' : World) : Prop :=
  ∃ A c, e = .returned (.tuple #[.slice A L.length c, .int .i64 n, .bool q]) ∧ w'.ownsRow w.heap.size 54 6 (.slice A L.length c) L.length (flat L) ∧ Below w.heap.size w w'
theorem cut_mk {L M : List R} {n m : Int} {q r : Bool} {w w' : World} {A : Option Addr} {c : Nat} {v : Value} (hL : L = M) (hn : n = m) (hq : q = r) (h : v = .tuple #[.slice A M.length c, .int .i64 m, .bool r])
    (ho : w'.ownsRow w.heap.size 54 6 (.slice A M.length c) M.length (flat M)) (hB : Below w.heap.size w w') : CutPost L n q w (.returned v) w' := by
  subst hL; subst hn; subst hq; exact ⟨A, c, by rw [h], ho, hB⟩
theorem last_id {l : List R} {k : Nat} (h : k + 1 = l.length) : nextId l = l[k].f0 + 1 := by
  unfold nextId; rw [show l.length - 1 = k by omega, getD_at (by omega)]
theorem new6 (W : World) (x : R) : ∀ j u, [Value.int .i64 x.f0, .int .i64 x.f1, .int .i64 x.f2, .int .i64 x.f3, .int .i64 x.f4, .int .i64 x.f5][j]? = some u →
    (W.alloc (.cells #[.int .i64 x.f0, .int .i64 x.f1, .int .i64 x.f2, .int .i64 x.f3, .int .i64 x.f4, .int .i64 x.f5] 54)).cell? ((⟨W.heap.size, 0, none⟩ : Addr).add j) = some u := by
  intro j u hu
  rw [cell_add, Nat.zero_add, World.cell?_alloc_at _ _ _ _ rfl]
  simpa using hu
theorem one6 (x : R) : ∀ u ∈ [Value.int .i64 x.f0, .int .i64 x.f1, .int .i64 x.f2, .int .i64 x.f3, .int .i64 x.f4, .int .i64 x.f5], u.oneCell' = true := by
  intro u hu; simp at hu; rcases hu with rfl | rfl | rfl | rfl | rfl | rfl <;> rfl
theorem flat_snoc (l : List R) (x : R) : flat (l ++ [x]) = flat l ++ [Value.int .i64 x.f0, .int .i64 x.f1, .int .i64 x.f2, .int .i64 x.f3, .int .i64 x.f4, .int .i64 x.f5] := by simp [flat, R.cells]
theorem own6 {W : World} {base g n c i : Nat} {l : List R} {x : R} (O : W.ownsRow base 54 6 (.slice (some ⟨g, 0, none⟩) n c) n (flat l)) (hi : i < l.length) (hx : l[i] = x) :
    W.cell? ⟨g, i * 6, none⟩ = some (.int .i64 x.f0) ∧ W.cell? ⟨g, i * 6 + 1, none⟩ = some (.int .i64 x.f1) ∧ W.cell? ⟨g, i * 6 + 2, none⟩ = some (.int .i64 x.f2) ∧ W.cell? ⟨g, i * 6 + 3, none⟩ = some (.int .i64 x.f3) ∧ W.cell? ⟨g, i * 6 + 4, none⟩ = some (.int .i64 x.f4) ∧ W.cell? ⟨g, i * 6 + 5, none⟩ = some (.int .i64 x.f5) := by
  obtain ⟨b, o, hA, hb, hc⟩ := (Rd.of_own O).at (k := i * 6) (by rw [flat_n]; omega)
  injection hA with hA; injection hA with e1 e2 e3
  subst e1; subst e2
  have := cells6 (Below.refl _ W) hb hc hi hx
  simpa using this
set_option maxHeartbeats 1000000 in
theorem cut_spec (P : Option Addr) (cap : Nat) (l : List R) (id cw : Int) (w : World) (hr : Rd w w.heap.size P (flat l)) (hn : l.length ≤ 1048576) :
    Calls Try.prog 20 #[.slice P l.length cap, .int .i64 id, .int .i64 cw] w (CutPost (cutL l id cw) (cutN l id cw) (cutOk l id cw) w) := by
  obtain ⟨i0, hi0, hz0, hz1, hz2⟩ := info_parts info_T
  have HI := Lib.hid hz2; clear hz2
  have HI1 := Lib.hid hz1; clear hz1
  have HR := Lib.hid hr; clear hr
  go_enter Try.func20, Try.ntmps20
  go_wp2_with fail
  refine (find_spec P cap l id w HR.out hn).mono ?_
  rintro e w1 ⟨rfl, HB⟩
  by_cases h0 : 0 ≤ find l id
  · obtain ⟨i, hi, hil, _, hg⟩ := find_ok h0
    obtain ⟨x, hx⟩ : ∃ x, l[i] = x := ⟨_, rfl⟩
    obtain ⟨b, o, rfl, hb, hc⟩ := HR.out.at (k := i * 6) (by rw [flat_n]; omega)
    have hg1 := (good_all hg).1
    have hox := (good_all hg).2 i hil; rw [hx] at hox
    obtain ⟨k, hkl⟩ : ∃ k, k + 1 = l.length := ⟨l.length - 1, by omega⟩
    obtain ⟨z, hz⟩ : ∃ z, l[k].f0 = z := ⟨_, rfl⟩
    have hoz := (good_all hg).2 k (by omega)
    have hzb := okP_true hoz
    rw [hz] at hzb
    obtain ⟨z1, z2, _⟩ := hzb
    have hzc : w.cell? ⟨b, o + k * 6, none⟩ = some (.int .i64 z) := by rw [← hz]; exact hc _ _ (flat_0 l k (by omega))
    obtain ⟨h0', h1, h2, h3, h4, h5⟩ := cells6 (Below.refl _ w) hb hc hil hx
    obtain ⟨_, _, a1, a2, a3, a4, a5, a6, a7, a8, _, _, _, _⟩ := okP_true hox
    have y1 : IntKind.i64.wrap (x.f3 - 1) = x.f3 - 1 := IntWalk.i64_in _ (by omega)
    have HNO := Lib.hid (fun h => cut_no (ok_out (c := cw) hi hil hx h))
    have HNO2 := Lib.hid (fun h => ok_out (c := cw) hi hil hx h)
    have HIN := Lib.hid (fun h => ok_in (c := cw) hi hil hx h)
    have HYES := Lib.hid (fun h => cut_yes (c := cw) hi hil hx h)
    have HLAST := Lib.hid (show nextId l = z + 1 by rw [last_id hkl, hz])
    rw [hi]; clear hi h0 hg hoz hox
    have h0'_c := ((bcell HB).1 _ _ hb).trans h0'
    have h1_c := ((bcell HB).1 _ _ hb).trans h1
    have h2_c := ((bcell HB).1 _ _ hb).trans h2
    have h3_c := ((bcell HB).1 _ _ hb).trans h3
    have h4_c := ((bcell HB).1 _ _ hb).trans h4
    have h5_c := ((bcell HB).1 _ _ hb).trans h5
    have hzc_c := ((bcell HB).1 _ _ hb).trans hzc
    go_wp2_with fail
    refine (in_any cw 1 (x.f3 - 1) _).mono ?_
    rintro e _ ⟨rfl, rfl⟩
    cases hin : inB cw 1 (x.f3 - 1)
    · go_wp2
      go_ret3
      exact cut_mk (HNO.out hin).1 (HNO.out hin).2 (HNO2.out hin) rfl (empty_own HB) (al HB)
    have hcw := of_inB hin
    have HO := Lib.hid (empty_own HB)
    have HNW := Lib.hid (show ∀ j u, (flat l)[j]? = some u → (w1.alloc (.cells #[] 54)).cell? ((⟨b, o, none⟩ : Addr).add j) = some u from fun j u hu => by rw [cell_add, (bcell (al HB (o := .cells #[] 54))).1 _ _ hb]; exact hc j u hu)
    have HC := Lib.hid hc; clear hc
    go_wp2_with (at_builtin; go_must (refine wpList_append_own _ rfl _ _ 24 rfl w.heap.size 54 i0 _ 6 48 Try.underlying24 hi0 hz0 HI1.out HI.out rfl (by decide) _ 0 _ rfl HO.out ⟨b, o, none⟩ l.length cap (flat l) rfl (flat_n l) HNW.out (flat_one l) (by unfold maxLen; omega) (by omega) (by rw [size_alloc']; have := HB.size; omega) ?_; intro v' w9 hown1 hgrow _))
    obtain ⟨A1, c1, rfl⟩ := own_form hown1
    have O : w9.ownsRow w.heap.size 54 6 (.slice A1 l.length c1) l.length (flat l) := by simpa [flat] using hown1
    obtain ⟨g, c2, rfl, rfl⟩ := own_some O (by omega)
    clear h0'_c
    clear h1_c
    clear h2_c
    clear h3_c
    clear h4_c
    clear h5_c
    clear hzc_c
    replace HB := bl_grown (al HB (o := .cells #[] 54)) hgrow (fun k hk => own_ge HO.out k hk)
    clear hgrow hown1 HNW HO h0' h1 h2 h3 h4 h5
    obtain ⟨h0, h1, h2, h3, h4, h5⟩ := own6 O hil hx
    have hg9 := own_lt O
    go_upto_region 5 with fail
    go_cut [11, 12] (fun p q wx => ∃ a b, p = .pointer (some ⟨a, 0, none⟩) ∧ q = .pointer (some ⟨b, 0, none⟩) ∧ a ≠ b ∧ g < a ∧ g < b ∧ Box a [.int .i64 x.f0, .int .i64 x.f1, .int .i64 x.f2, .int .i64 x.f3, .int .i64 x.f4, .int .i64 x.f5] w wx ∧ Box b [.int .i64 x.f0, .int .i64 x.f1, .int .i64 x.f2, .int .i64 x.f3, .int .i64 x.f4, .int .i64 x.f5] w wx ∧ wx.ownsRow w.heap.size 54 6 (.slice (some ⟨g, 0, none⟩) l.length c1) l.length (flat l))
    case first =>
      have B1 := ((Box.new HB [.int .i64 x.f0, .int .i64 x.f1, .int .i64 x.f2, .int .i64 x.f3, .int .i64 x.f4, .int .i64 x.f5] 54 (g := w9.heap.size) rfl).alloc (.cells #[.int .i64 x.f0, .int .i64 x.f1, .int .i64 x.f2, .int .i64 x.f3, .int .i64 x.f4, .int .i64 x.f5] 54)).drew
      have B2 := (Box.new (al HB (o := .cells #[.int .i64 x.f0, .int .i64 x.f1, .int .i64 x.f2, .int .i64 x.f3, .int .i64 x.f4, .int .i64 x.f5] 54)) [.int .i64 x.f0, .int .i64 x.f1, .int .i64 x.f2, .int .i64 x.f3, .int .i64 x.f4, .int .i64 x.f5] 54 (g := w9.heap.size + 1) (by simp only [size_alloc'])).drew
      have O' := own_keep O (al (al (Below.refl _ w9) (o := .cells #[.int .i64 x.f0, .int .i64 x.f1, .int .i64 x.f2, .int .i64 x.f3, .int .i64 x.f4, .int .i64 x.f5] 54)) (o := .cells #[.int .i64 x.f0, .int .i64 x.f1, .int .i64 x.f2, .int .i64 x.f3, .int .i64 x.f4, .int .i64 x.f5] 54)).drew
      go_region
      all_goals (go_wp2_with fail)
      all_goals go_meet
      all_goals first | exact ⟨_, _, rfl, rfl, by omega, by omega, by omega, B1, B2, O'⟩ | exact ⟨_, _, rfl, rfl, by omega, by omega, by omega, B2, B1, O'⟩
    case rest =>
      obtain ⟨a, d, rfl, rfl, had, hga, hgd, Ba, Bd, O⟩ := hcut
      clear h0 h1 h2 h3 h4 h5 HB
      have da1 : a ≠ d := had
      have da2 : d ≠ a := fun h => had h.symm
      have da3 : a ≠ g := by omega
      have da4 : d ≠ g := by omega
      have da5 : a ≠ b := by have := Ba.base; omega
      have da6 : b ≠ a := by have := Ba.base; omega
      have da7 : d ≠ b := by have := Bd.base; omega
      have da8 : b ≠ d := by have := Bd.base; omega
      have Ba_0 := Ba.cells 0 _ rfl
      have Ba_1 := Ba.cells 1 _ rfl
      have Ba_2 := Ba.cells 2 _ rfl
      have Ba_3 := Ba.cells 3 _ rfl
      have Ba_4 := Ba.cells 4 _ rfl
      have Ba_5 := Ba.cells 5 _ rfl
      have Ba_f0 := Ba.free 0 (by simp)
      have Ba_f1 := Ba.free 1 (by simp)
      have Ba_f2 := Ba.free 2 (by simp)
      have Ba_f3 := Ba.free 3 (by simp)
      have Ba_f4 := Ba.free 4 (by simp)
      have Ba_f5 := Ba.free 5 (by simp)
      have Ba_t := Ba.there
      have Bd_0 := Bd.cells 0 _ rfl
      have Bd_1 := Bd.cells 1 _ rfl
      have Bd_2 := Bd.cells 2 _ rfl
      have Bd_3 := Bd.cells 3 _ rfl
      have Bd_4 := Bd.cells 4 _ rfl
      have Bd_5 := Bd.cells 5 _ rfl
      have Bd_f0 := Bd.free 0 (by simp)
      have Bd_f1 := Bd.free 1 (by simp)
      have Bd_f2 := Bd.free 2 (by simp)
      have Bd_f3 := Bd.free 3 (by simp)
      have Bd_f4 := Bd.free 4 (by simp)
      have Bd_f5 := Bd.free 5 (by simp)
      have Bd_t := Bd.there
      have hzc2 := ((bcell Ba.below).1 _ _ hb).trans hzc
      have y2 : IntKind.i64.wrap ((l.length : Int) - 1) = (k : Int) := (IntWalk.i64_in _ (by omega)).trans (by omega)
      have y2' : ((l.length : Int) - 1) = (k : Int) := by omega
      have y3 : IntKind.i64.wrap (z + 1) = z + 1 := IntWalk.i64_in _ (by omega)
      have y4 : IntKind.i64.wrap (x.f1 + cw) = x.f1 + cw := IntWalk.i64_in _ (by omega)
      have y5 : IntKind.i64.wrap (x.f3 - cw) = x.f3 - cw := IntWalk.i64_in _ (by omega)
      have hkk : k < l.length := by omega
      go_upto_region 10 with fail
      have Ba' : Box a [.int .i64 x.f0, .int .i64 x.f1, .int .i64 x.f2, .int .i64 cw, .int .i64 x.f4, .int .i64 x.f5] w _ := (((Ba.set 3 (.int .i64 cw)).far Bd.base da2 0 (.int .i64 (z + 1))).far Bd.base da2 1 (.int .i64 (x.f1 + cw))).far Bd.base da2 3 (.int .i64 (x.f3 - cw))
      have Bd' : Box d [.int .i64 (z + 1), .int .i64 (x.f1 + cw), .int .i64 x.f2, .int .i64 (x.f3 - cw), .int .i64 x.f4, .int .i64 x.f5] w _ := (((Bd.far Ba.base da1 3 (.int .i64 cw)).set 0 (.int .i64 (z + 1))).set 1 (.int .i64 (x.f1 + cw))).set 3 (.int .i64 (x.f3 - cw))
      have O' := own_far (own_far (own_far (own_far O da3 3 (.int .i64 cw)) da4 0 (.int .i64 (z + 1))) da4 1 (.int .i64 (x.f1 + cw))) da4 3 (.int .i64 (x.f3 - cw))
      generalize ((((wc.setCell ⟨a, 3, none⟩ (.int .i64 cw)).setCell ⟨d, 0, none⟩ (.int .i64 (z + 1))).setCell ⟨d, 1, none⟩ (.int .i64 (x.f1 + cw))).setCell ⟨d, 3, none⟩ (.int .i64 (x.f3 - cw))) = V at Ba' Bd' O' ⊢
      clear Ba_0 Ba_1 Ba_2 Ba_3 Ba_4 Ba_5 Ba_f0 Ba_f1 Ba_f2 Ba_f3 Ba_f4 Ba_f5 Ba_t
      clear Bd_0 Bd_1 Bd_2 Bd_3 Bd_4 Bd_5 Bd_f0 Bd_f1 Bd_f2 Bd_f3 Bd_f4 Bd_f5 Bd_t
      clear Ba Bd O hzc2 y2 y2' y3 y4 y5
      have Ba := Ba'; have Bd := Bd'; have O := O'; clear Ba' Bd' O'
      have Ba_0 := Ba.cells 0 _ rfl
      have Ba_1 := Ba.cells 1 _ rfl
      have Ba_2 := Ba.cells 2 _ rfl
      have Ba_3 := Ba.cells 3 _ rfl
      have Ba_4 := Ba.cells 4 _ rfl
      have Ba_5 := Ba.cells 5 _ rfl
      have Ba_f0 := Ba.free 0 (by simp)
      have Ba_f1 := Ba.free 1 (by simp)
      have Ba_f2 := Ba.free 2 (by simp)
      have Ba_f3 := Ba.free 3 (by simp)
      have Ba_f4 := Ba.free 4 (by simp)
      have Ba_f5 := Ba.free 5 (by simp)
      have Ba_t := Ba.there
      obtain ⟨h0, h1, h2, h3, h4, h5⟩ := own6 O hil hx
      have g0 := O.frozenAt (i * 6); have g1 := O.frozenAt (i * 6 + 1); have g2 := O.frozenAt (i * 6 + 2); have g3 := O.frozenAt (i * 6 + 3); have g4 := O.frozenAt (i * 6 + 4); have g5 := O.frozenAt (i * 6 + 5)
      have hgw : w.heap.size ≤ g := own_ge O g (by simp [Value.ownBlock])
      go_upto_region 11 with fail
      have da4' : g ≠ d := fun h => da4 h.symm
      have Bd' : Box d [.int .i64 (z + 1), .int .i64 (x.f1 + cw), .int .i64 x.f2, .int .i64 (x.f3 - cw), .int .i64 x.f4, .int .i64 x.f5] w _ := ((((((Bd.far hgw da4' (i * 6) (.int .i64 x.f0)).far hgw da4' (i * 6 + 1) (.int .i64 x.f1)).far hgw da4' (i * 6 + 2) (.int .i64 x.f2)).far hgw da4' (i * 6 + 3) (.int .i64 cw)).far hgw da4' (i * 6 + 4) (.int .i64 x.f4)).far hgw da4' (i * 6 + 5) (.int .i64 x.f5))
      have O' : (((((((V.setCell ⟨g, i * 6, none⟩ (.int .i64 x.f0)).setCell ⟨g, i * 6 + 1, none⟩ (.int .i64 x.f1)).setCell ⟨g, i * 6 + 2, none⟩ (.int .i64 x.f2)).setCell ⟨g, i * 6 + 3, none⟩ (.int .i64 cw)).setCell ⟨g, i * 6 + 4, none⟩ (.int .i64 x.f4)).setCell ⟨g, i * 6 + 5, none⟩ (.int .i64 x.f5))).ownsRow w.heap.size 54 6 (.slice (some ⟨g, 0, none⟩) l.length c1) l.length (flat (l.set i (left x cw))) := by
        have := ((((((O.stored (i * 6) (.int .i64 (left x cw).f0)).1.stored (i * 6 + 1) (.int .i64 (left x cw).f1)).1.stored (i * 6 + 2) (.int .i64 (left x cw).f2)).1.stored (i * 6 + 3) (.int .i64 (left x cw).f3)).1.stored (i * 6 + 4) (.int .i64 (left x cw).f4)).1.stored (i * 6 + 5) (.int .i64 (left x cw).f5)).1
        rw [flat_set l i (left x cw) hil] at this
        exact this
      generalize ((((((V.setCell ⟨g, i * 6, none⟩ (.int .i64 x.f0)).setCell ⟨g, i * 6 + 1, none⟩ (.int .i64 x.f1)).setCell ⟨g, i * 6 + 2, none⟩ (.int .i64 x.f2)).setCell ⟨g, i * 6 + 3, none⟩ (.int .i64 cw)).setCell ⟨g, i * 6 + 4, none⟩ (.int .i64 x.f4)).setCell ⟨g, i * 6 + 5, none⟩ (.int .i64 x.f5)) = V2 at Bd' O' ⊢
      clear h0 h1 h2 h3 h4 h5 g0 g1 g2 g3 g4 g5
      clear Ba_0 Ba_1 Ba_2 Ba_3 Ba_4 Ba_5 Ba_f0 Ba_f1 Ba_f2 Ba_f3 Ba_f4 Ba_f5 Ba_t
      clear Ba Bd O
      have Bd := Bd'; have O := O'; clear Bd' O'
      have Bd_0 := Bd.cells 0 _ rfl
      have Bd_1 := Bd.cells 1 _ rfl
      have Bd_2 := Bd.cells 2 _ rfl
      have Bd_3 := Bd.cells 3 _ rfl
      have Bd_4 := Bd.cells 4 _ rfl
      have Bd_5 := Bd.cells 5 _ rfl
      have Bd_f0 := Bd.free 0 (by simp)
      have Bd_f1 := Bd.free 1 (by simp)
      have Bd_f2 := Bd.free 2 (by simp)
      have Bd_f3 := Bd.free 3 (by simp)
      have Bd_f4 := Bd.free 4 (by simp)
      have Bd_f5 := Bd.free 5 (by simp)
      have Bd_t := Bd.there
      have hV := Bd.below.size
      go_wp2_with (at_builtin; go_must (refine wpList_append_own _ rfl _ _ 24 rfl w.heap.size 54 i0 _ 6 48 Try.underlying24 hi0 hz0 HI1.out HI.out rfl (by decide) _ l.length _ (by simp <;> rfl) (O.alloc _) ⟨V2.heap.size, 0, none⟩ 1 1 [.int .i64 (z + 1), .int .i64 (x.f1 + cw), .int .i64 x.f2, .int .i64 (x.f3 - cw), .int .i64 x.f4, .int .i64 x.f5] rfl rfl (new6 V2 (right x cw (z + 1))) (one6 (right x cw (z + 1))) (by unfold maxLen; omega) (by omega) (by rw [size_alloc']; omega) ?_; intro v' w10 hown1 hgrow _))
      have hown2 : w10.ownsRow w.heap.size 54 6 v' (cutRow l i x cw).length (flat (cutRow l i x cw)) := by
        rw [cut_len]
        unfold cutRow
        rw [flat_snoc, HLAST.out]
        exact hown1
      obtain ⟨A2, c2, rfl⟩ := own_form hown2
      clear Bd_0 Bd_1 Bd_2 Bd_3 Bd_4 Bd_5 Bd_f0 Bd_f1 Bd_f2 Bd_f3 Bd_f4 Bd_f5 Bd_t
      replace Bd := box_grown (Bd.alloc (.cells #[.int .i64 (z + 1), .int .i64 (x.f1 + cw), .int .i64 x.f2, .int .i64 (x.f3 - cw), .int .i64 x.f4, .int .i64 x.f5] 54)) hgrow (fun k hk => by have := row_at hk; omega)
      clear hgrow hown1 O
      have hlen : (cutRow l i x cw).length ≤ 1048576 := by rw [cut_len]; omega
      have Bd_0 := Bd.cells 0 _ rfl
      have Bd_1 := Bd.cells 1 _ rfl
      have Bd_2 := Bd.cells 2 _ rfl
      have Bd_3 := Bd.cells 3 _ rfl
      have Bd_4 := Bd.cells 4 _ rfl
      have Bd_5 := Bd.cells 5 _ rfl
      have Bd_f0 := Bd.free 0 (by simp)
      have Bd_f1 := Bd.free 1 (by simp)
      have Bd_f2 := Bd.free 2 (by simp)
      have Bd_f3 := Bd.free 3 (by simp)
      have Bd_f4 := Bd.free 4 (by simp)
      have Bd_f5 := Bd.free 5 (by simp)
      have Bd_t := Bd.there
      go_wp2_with fail
      refine (good_spec A2 c2 (cutRow l i x cw) _ (Rd.of_own hown2) hlen).mono ?_
      rintro e v2 ⟨rfl, hv2⟩
      clear Bd_0 Bd_1 Bd_2 Bd_3 Bd_4 Bd_5 Bd_f0 Bd_f1 Bd_f2 Bd_f3 Bd_f4 Bd_f5 Bd_t
      replace Bd := Bd.more hv2
      replace hown2 := own_keep hown2 hv2
      have zhv2 := hv2.size
      clear hv2
      have Bd_0 := Bd.cells 0 _ rfl
      have Bd_1 := Bd.cells 1 _ rfl
      have Bd_2 := Bd.cells 2 _ rfl
      have Bd_3 := Bd.cells 3 _ rfl
      have Bd_4 := Bd.cells 4 _ rfl
      have Bd_5 := Bd.cells 5 _ rfl
      have Bd_f0 := Bd.free 0 (by simp)
      have Bd_f1 := Bd.free 1 (by simp)
      have Bd_f2 := Bd.free 2 (by simp)
      have Bd_f3 := Bd.free 3 (by simp)
      have Bd_f4 := Bd.free 4 (by simp)
      have Bd_f5 := Bd.free 5 (by simp)
      have Bd_t := Bd.there
      have hok := HIN.out hin
      cases hgc : good (cutRow l i x cw)
      · rw [hgc] at hok
        go_wp2
        go_ret3
        exact cut_mk (cut_no hok).1 (cut_no hok).2 hok rfl (empty_own Bd.below) (al Bd.below)
      · rw [hgc] at hok
        have HOK := Lib.hid hok; clear hok hgc
        go_wp2
        go_quiet (fail)
        go_wp2
        go_ret3
        exact cut_mk (HYES.out HOK.out).1 ((HYES.out HOK.out).2.trans HLAST.out) HOK.out rfl (own_keep hown2 (Below.drewN' (Below.refl _ _) _)) (Below.drewN' Bd.below _)
  · have HNO := Lib.hid (cut_no (ok_neg (c := cw) h0))
    have HNO2 := Lib.hid (ok_neg (c := cw) h0)
    have hneg : decide (find l id < 0) = true := decide_eq_true (by omega)
    clear h0
    go_wp2
    go_ret3
    exact cut_mk HNO.out.1 HNO.out.2 HNO2.out rfl (empty_own HB) (al HB)
end Go.Proofs.Ytncdkfkihfhcgaa.Cut
