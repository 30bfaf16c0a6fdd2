/- TurnsOf: the model's and the program's. -/
import Derived.Test.YtbbnbkdglihhhaaTide3
import Derived.Test.YtbbnbkdglihhhaaRInt
namespace Go.Proofs.Ytbbnbkdglihhhaa.Turn
open Go.RowKit Go.Proofs.Ytbbnbkdglihhhaa.Mem Go.Proofs.Ytbbnbkdglihhhaa.Base Go.Proofs.Ytbbnbkdglihhhaa.SMark Go.Proofs.Ytbbnbkdglihhhaa.Regn Go.Proofs.Ytbbnbkdglihhhaa.Boxes Go.Proofs.Ytbbnbkdglihhhaa.Tide Go.Proofs.Ytbbnbkdglihhhaa.Tide2 Go.Proofs.Ytbbnbkdglihhhaa.Tide3 Go.Proofs.Ytbbnbkdglihhhaa.SInt Go.Proofs.Ytbbnbkdglihhhaa.RInt
set_option linter.unusedVariables false
set_option maxRecDepth 100000
/-- between a and c: higher than both or lower than both. -/
def Peak (a b c : Int) : Prop := (a < b ∧ c < b) ∨ (b < a ∧ b < c)
instance (a b c : Int) : Decidable (Peak a b c) := inferInstanceAs (Decidable (_ ∨ _))
def turns (l : List R) : Nat → List Int
  | 0 => []
  | k + 1 => if 1 ≤ k ∧ Peak (at_ l (k - 1)).f1 (at_ l k).f1 (at_ l (k + 1)).f1 then turns l k ++ [(at_ l k).f0] else turns l k
theorem turns_one (l : List R) : turns l 1 = [] := by simp [turns]
theorem turns_yes {l : List R} {j : Nat} (h : Peak (at_ l j).f1 (at_ l (j + 1)).f1 (at_ l (j + 2)).f1) : turns l (j + 1 + 1) = turns l (j + 1) ++ [(at_ l (j + 1)).f0] := by
  rw [turns, if_pos ⟨by omega, h⟩]
theorem turns_no {l : List R} {j : Nat} (h : ¬ Peak (at_ l j).f1 (at_ l (j + 1)).f1 (at_ l (j + 2)).f1) : turns l (j + 1 + 1) = turns l (j + 1) := by
  rw [turns, if_neg (fun k => h k.2)]
theorem turns_len (l : List R) : ∀ k, (turns l k).length ≤ k := by
  intro k
  induction k with
  | zero => simp [turns]
  | succ k ih => unfold turns; split; · simp; omega
                 · omega
def turnsL (l : List R) : List Int := if good l = true then turns l (l.length - 1) else []
theorem turnsL_no {l : List R} (h : good l = false) : turnsL l = [] := by unfold turnsL; rw [h]; rfl
theorem turnsL_yes {l : List R} (h : good l = true) : turnsL l = turns l (l.length - 1) := by unfold turnsL; rw [if_pos h]
set_option maxHeartbeats 1000000 in
theorem turns_impl (P : Option Addr) (cap : Nat) (l : List R) (w : World) (hr : Rd w w.heap.size P (flat l)) (hcap : l.length ≤ cap) (hn : l.length ≤ 1048576) :
    Calls Try.prog 47 #[.slice P l.length cap] w (IPost (turnsL l) (good l) w) := by
  obtain ⟨i0, hi, hz0, hz1, hz2⟩ := info_parts info_int
  have HI := Lib.hid hz2; clear hz2
  have HI1 := Lib.hid hz1; clear hz1
  have HR := Lib.hid hr; clear hr
  go_enter Try.func47, Try.ntmps47
  go_wp2_with fail
  refine (tide_impl P cap l w HR.out hn).mono ?_
  rintro e w1 ⟨rfl, HB⟩
  cases hg : good l
  · have HE := Lib.hid (And.intro (turnsL_no hg) hg)
    go_wp2
    go_ret2
    exact i_mk HE.out.1 HE.out.2 rfl (empty_own HB) (al HB)
  have HE := Lib.hid (turnsL_yes hg)
  have hl2 := (good_true hg).1
  have hl12 := (good_true hg).2.1
  have HG := Lib.hid hg
  have O := empty_own HB
  go_wp2
  go_loopw [4, 5] (fun o i wr => ∃ (k : Nat) (L : List Int) (A : Option Addr) (c : Nat), 1 ≤ k ∧ k ≤ l.length - 1 ∧ i = .int .i64 k ∧ o = .slice A L.length c ∧ Hid (turns l k = L) ∧ L.length ≤ k ∧ wr.ownsRow w.heap.size 3 1 (.slice A L.length c) L.length (iv L) ∧ Below w.heap.size w wr) (fun _ i _ => l.length - (intOf i).toNat)
  case atStart => exact ⟨1, [], _, _, Nat.le_refl _, by omega, rfl, rfl, Lib.hid (turns_one l), by simp, O, al HB⟩
  case round =>
    clear HB O
    obtain ⟨k, L, A, c, hk1, hk, rfl, rfl, HL0, hLk, O, HB⟩ := hrel
    by_cases hlt : k < l.length - 1
    · obtain ⟨j, rfl⟩ : ∃ j, k = j + 1 := ⟨k - 1, by omega⟩
      obtain ⟨b, o, rfl, hb, hc⟩ := rd2 HR.out (k := j) (by omega)
      obtain ⟨x, hx⟩ : ∃ x, (at_ l j).f1 = x := ⟨_, rfl⟩
      obtain ⟨y, hy⟩ : ∃ y, at_ l (j + 1) = y := ⟨_, rfl⟩
      obtain ⟨z, hz⟩ : ∃ z, (at_ l (j + 2)).f1 = z := ⟨_, rfl⟩
      have h0 := ((bcell HB).1 _ _ hb).trans (hc j (by omega)).2
      have h1 := ((bcell HB).1 _ _ hb).trans (hc (j + 1) (by omega)).1
      have h2 := ((bcell HB).1 _ _ hb).trans (hc (j + 1) (by omega)).2
      have h3 := ((bcell HB).1 _ _ hb).trans (hc (j + 2) (by omega)).2
      rw [hx] at h0; rw [hy] at h1 h2; rw [hz] at h3
      have HT := Lib.hid (fun h : Peak x y.f1 z => show turns l (j + 1 + 1) = L ++ [y.f0] by rw [turns_yes (by rw [hx, hy, hz]; exact h), HL0.out, hy])
      have HN := Lib.hid (fun h : ¬ Peak x y.f1 z => show turns l (j + 1 + 1) = L by rw [turns_no (by rw [hx, hy, hz]; exact h), HL0.out])
      clear hc hx hy hz
      have q1 : (j : Int) + 1 < (l.length : Int) - 1 := by omega
      have q2 : IntKind.i64.wrap ((l.length : Int) - 1) = (l.length : Int) - 1 := IntWalk.i64_in _ (by omega)
      have q3 : IntKind.i64.wrap (j : Int) = j := IntWalk.i64_in _ (by omega)
      have q4 : IntKind.i64.wrap ((j : Int) + 2) = (j : Int) + 2 := IntWalk.i64_in _ (by omega)
      have q5 : j < l.length := by omega
      have q6 : j + 1 < l.length := by omega
      have q7 : j + 2 < l.length := by omega
      have hm1 : L.length + 1 ≤ maxLen := by unfold maxLen; omega
      have hm2 : (L.length + 1) * 8 ≤ 140737488355328 := by omega
      go_wp2_with fail
      go_quiet (fail)
      replace O := own_keep O (Below.drewN' (Below.refl wr.heap.size wr) nq)
      replace HB := Below.drewN' HB nq
      have g1 : (wr.drewN nq).cell? ⟨b, o + (j + 1) * 2, none⟩ = some (.int .i64 y.f0) := h1
      have g2 : (wr.drewN nq).cell? ⟨b, o + (j + 1) * 2 + 1, none⟩ = some (.int .i64 y.f1) := h2
      clear h0 h1 h2 h3
      generalize wr.drewN nq = wq at O HB g1 g2 ⊢
      rcases Int.lt_trichotomy x z with t | t | t
      · have t1 : x ≤ z := by omega
        have t2 : ¬ z < x := by omega
        have t3 : ¬ z ≤ x := by omega
        by_cases c1 : z < y.f1
        · have c1' : ¬ y.f1 ≤ z := by omega
          have HT1 := Lib.hid (HT.out (by unfold Peak; omega)); clear HT HN
          go_wp2_with (at_builtin; go_must (refine wpList_append_own _ rfl _ _ 40 rfl w.heap.size 3 i0 _ 1 8 Try.underlying40 hi hz0 HI1.out HI.out rfl (by decide) _ L.length _ rfl (own_keep O (al (Below.refl _ _))) ⟨wq.heap.size, 0, none⟩ 1 1 [.int .i64 y.f0] rfl rfl (cell_one_new _ _ _) (one_cell rfl) hm1 hm2 (by rw [size_alloc']; have := HB.size; omega) ?_; intro v' w9 hown1 hgrow _))
          have hB9 := below_append HB O hgrow
          obtain ⟨A1, c1, rfl⟩ := own_form hown1
          have HO1 := row_app hown1
          clear hgrow hown1 HB O hm1 hm2 g1 g2
          go_wp2
          go_roundw
          case rel => exact ⟨j + 1 + 1, L ++ [y.f0], A1, c1, by omega, by omega, by go_num, by rw [List.length_append] <;> rfl, HT1, by rw [List.length_append]; simp; omega, HO1, hB9⟩
          case measure => simp [intOf]; omega
        · by_cases c2 : y.f1 < x
          · have c2' : ¬ x ≤ y.f1 := by omega
            have HT1 := Lib.hid (HT.out (by unfold Peak; omega)); clear HT HN
            go_wp2_with (at_builtin; go_must (refine wpList_append_own _ rfl _ _ 40 rfl w.heap.size 3 i0 _ 1 8 Try.underlying40 hi hz0 HI1.out HI.out rfl (by decide) _ L.length _ rfl (own_keep O (al (Below.refl _ _))) ⟨wq.heap.size, 0, none⟩ 1 1 [.int .i64 y.f0] rfl rfl (cell_one_new _ _ _) (one_cell rfl) hm1 hm2 (by rw [size_alloc']; have := HB.size; omega) ?_; intro v' w9 hown1 hgrow _))
            have hB9 := below_append HB O hgrow
            obtain ⟨A1, c1, rfl⟩ := own_form hown1
            have HO1 := row_app hown1
            clear hgrow hown1 HB O hm1 hm2 g1 g2
            go_wp2
            go_roundw
            case rel => exact ⟨j + 1 + 1, L ++ [y.f0], A1, c1, by omega, by omega, by go_num, by rw [List.length_append] <;> rfl, HT1, by rw [List.length_append]; simp; omega, HO1, hB9⟩
            case measure => simp [intOf]; omega
          · have n1 : y.f1 ≤ z := by omega
            have n2 : x ≤ y.f1 := by omega
            have HN1 := Lib.hid (HN.out (by unfold Peak; omega)); clear HT HN
            go_wp2
            go_roundw
            case rel => exact ⟨j + 1 + 1, L, A, c, by omega, by omega, by go_num, rfl, HN1, by omega, O, HB⟩
            case measure => simp [intOf]; omega
      · subst t
        by_cases c1 : x < y.f1
        · have c1' : ¬ y.f1 ≤ x := by omega
          have HT1 := Lib.hid (HT.out (by unfold Peak; omega)); clear HT HN
          go_wp2_with (at_builtin; go_must (refine wpList_append_own _ rfl _ _ 40 rfl w.heap.size 3 i0 _ 1 8 Try.underlying40 hi hz0 HI1.out HI.out rfl (by decide) _ L.length _ rfl (own_keep O (al (Below.refl _ _))) ⟨wq.heap.size, 0, none⟩ 1 1 [.int .i64 y.f0] rfl rfl (cell_one_new _ _ _) (one_cell rfl) hm1 hm2 (by rw [size_alloc']; have := HB.size; omega) ?_; intro v' w9 hown1 hgrow _))
          have hB9 := below_append HB O hgrow
          obtain ⟨A1, c1, rfl⟩ := own_form hown1
          have HO1 := row_app hown1
          clear hgrow hown1 HB O hm1 hm2 g1 g2
          go_wp2
          go_roundw
          case rel => exact ⟨j + 1 + 1, L ++ [y.f0], A1, c1, by omega, by omega, by go_num, by rw [List.length_append] <;> rfl, HT1, by rw [List.length_append]; simp; omega, HO1, hB9⟩
          case measure => simp [intOf]; omega
        · by_cases c2 : y.f1 < x
          · have c2' : ¬ x ≤ y.f1 := by omega
            have HT1 := Lib.hid (HT.out (by unfold Peak; omega)); clear HT HN
            go_wp2_with (at_builtin; go_must (refine wpList_append_own _ rfl _ _ 40 rfl w.heap.size 3 i0 _ 1 8 Try.underlying40 hi hz0 HI1.out HI.out rfl (by decide) _ L.length _ rfl (own_keep O (al (Below.refl _ _))) ⟨wq.heap.size, 0, none⟩ 1 1 [.int .i64 y.f0] rfl rfl (cell_one_new _ _ _) (one_cell rfl) hm1 hm2 (by rw [size_alloc']; have := HB.size; omega) ?_; intro v' w9 hown1 hgrow _))
            have hB9 := below_append HB O hgrow
            obtain ⟨A1, c1, rfl⟩ := own_form hown1
            have HO1 := row_app hown1
            clear hgrow hown1 HB O hm1 hm2 g1 g2
            go_wp2
            go_roundw
            case rel => exact ⟨j + 1 + 1, L ++ [y.f0], A1, c1, by omega, by omega, by go_num, by rw [List.length_append] <;> rfl, HT1, by rw [List.length_append]; simp; omega, HO1, hB9⟩
            case measure => simp [intOf]; omega
          · have n1 : y.f1 ≤ x := by omega
            have n2 : x ≤ y.f1 := by omega
            have HN1 := Lib.hid (HN.out (by unfold Peak; omega)); clear HT HN
            go_wp2
            go_roundw
            case rel => exact ⟨j + 1 + 1, L, A, c, by omega, by omega, by go_num, rfl, HN1, by omega, O, HB⟩
            case measure => simp [intOf]; omega
      · have t1 : z ≤ x := by omega
        have t2 : ¬ x < z := by omega
        have t3 : ¬ x ≤ z := by omega
        by_cases c1 : x < y.f1
        · have c1' : ¬ y.f1 ≤ x := by omega
          have HT1 := Lib.hid (HT.out (by unfold Peak; omega)); clear HT HN
          go_wp2_with (at_builtin; go_must (refine wpList_append_own _ rfl _ _ 40 rfl w.heap.size 3 i0 _ 1 8 Try.underlying40 hi hz0 HI1.out HI.out rfl (by decide) _ L.length _ rfl (own_keep O (al (Below.refl _ _))) ⟨wq.heap.size, 0, none⟩ 1 1 [.int .i64 y.f0] rfl rfl (cell_one_new _ _ _) (one_cell rfl) hm1 hm2 (by rw [size_alloc']; have := HB.size; omega) ?_; intro v' w9 hown1 hgrow _))
          have hB9 := below_append HB O hgrow
          obtain ⟨A1, c1, rfl⟩ := own_form hown1
          have HO1 := row_app hown1
          clear hgrow hown1 HB O hm1 hm2 g1 g2
          go_wp2
          go_roundw
          case rel => exact ⟨j + 1 + 1, L ++ [y.f0], A1, c1, by omega, by omega, by go_num, by rw [List.length_append] <;> rfl, HT1, by rw [List.length_append]; simp; omega, HO1, hB9⟩
          case measure => simp [intOf]; omega
        · by_cases c2 : y.f1 < z
          · have c2' : ¬ z ≤ y.f1 := by omega
            have HT1 := Lib.hid (HT.out (by unfold Peak; omega)); clear HT HN
            go_wp2_with (at_builtin; go_must (refine wpList_append_own _ rfl _ _ 40 rfl w.heap.size 3 i0 _ 1 8 Try.underlying40 hi hz0 HI1.out HI.out rfl (by decide) _ L.length _ rfl (own_keep O (al (Below.refl _ _))) ⟨wq.heap.size, 0, none⟩ 1 1 [.int .i64 y.f0] rfl rfl (cell_one_new _ _ _) (one_cell rfl) hm1 hm2 (by rw [size_alloc']; have := HB.size; omega) ?_; intro v' w9 hown1 hgrow _))
            have hB9 := below_append HB O hgrow
            obtain ⟨A1, c1, rfl⟩ := own_form hown1
            have HO1 := row_app hown1
            clear hgrow hown1 HB O hm1 hm2 g1 g2
            go_wp2
            go_roundw
            case rel => exact ⟨j + 1 + 1, L ++ [y.f0], A1, c1, by omega, by omega, by go_num, by rw [List.length_append] <;> rfl, HT1, by rw [List.length_append]; simp; omega, HO1, hB9⟩
            case measure => simp [intOf]; omega
          · have n1 : y.f1 ≤ x := by omega
            have n2 : z ≤ y.f1 := by omega
            have HN1 := Lib.hid (HN.out (by unfold Peak; omega)); clear HT HN
            go_wp2
            go_roundw
            case rel => exact ⟨j + 1 + 1, L, A, c, by omega, by omega, by go_num, rfl, HN1, by omega, O, HB⟩
            case measure => simp [intOf]; omega
    · have hk9 : k = l.length - 1 := by omega
      have e := HL0.out
      rw [hk9] at e
      have q1 : ¬ (k : Int) < (l.length : Int) - 1 := by omega
      have q2 : IntKind.i64.wrap ((l.length : Int) - 1) = (l.length : Int) - 1 := IntWalk.i64_in _ (by omega)
      go_wp2
      go_ret2
      exact i_mk (HE.out.trans e) (by first | rfl | exact HG.out) rfl O HB
set_option maxHeartbeats 1000000 in
theorem turns_spec (P : Option Addr) (cap : Nat) (l : List R) (w : World) (hr : Rd w w.heap.size P (flat l)) (hn : l.length ≤ 1048576) :
    Calls Try.prog 54 #[.slice P l.length cap] w (IPost (turnsL l) (good l) w) := by
  obtain ⟨i0, hi, hz0, hz1, hz2⟩ := info_parts info_int
  have HI := Lib.hid hz2; clear hz2
  have HI1 := Lib.hid hz1; clear hz1
  have HR := Lib.hid hr; clear hr
  go_enter Try.func54, Try.ntmps54
  go_wp2_with fail
  have O := empty_own (Below.refl _ w)
  have HB : Below w.heap.size w (w.alloc (.cells #[] 3)) := al (Below.refl _ w)
  generalize w.alloc (.cells #[] 3) = V at O HB ⊢
  refine (good_spec P cap l V (rd_keep HR.out HB) hn).mono ?_
  rintro e w1 ⟨rfl, hv⟩
  replace O := own_keep O hv
  replace HB := be HB hv
  clear hv
  cases hg : good l
  · have HE := Lib.hid (And.intro (turnsL_no hg) hg)
    go_wp2
    go_ret2
    exact i_mk HE.out.1 HE.out.2 rfl O HB
  have HE := Lib.hid (turnsL_yes hg)
  have hl2 := (good_true hg).1
  have hl12 := (good_true hg).2.1
  have HG := Lib.hid hg
  go_wp2
  go_loopw [4, 5] (fun o i wr => ∃ (k : Nat) (L : List Int) (A : Option Addr) (c : Nat), 1 ≤ k ∧ k ≤ l.length - 1 ∧ i = .int .i64 k ∧ o = .slice A L.length c ∧ Hid (turns l k = L) ∧ L.length ≤ k ∧ wr.ownsRow w.heap.size 3 1 (.slice A L.length c) L.length (iv L) ∧ Below w.heap.size w wr) (fun _ i _ => l.length - (intOf i).toNat)
  case atStart => exact ⟨1, [], _, _, Nat.le_refl _, by omega, rfl, rfl, Lib.hid (turns_one l), by simp, O, HB⟩
  case round =>
    clear HB O
    obtain ⟨k, L, A, c, hk1, hk, rfl, rfl, HL0, hLk, O, HB⟩ := hrel
    by_cases hlt : k < l.length - 1
    · obtain ⟨j, rfl⟩ : ∃ j, k = j + 1 := ⟨k - 1, by omega⟩
      obtain ⟨b, o, rfl, hb, hc⟩ := rd2 HR.out (k := j) (by omega)
      obtain ⟨x, hx⟩ : ∃ x, (at_ l j).f1 = x := ⟨_, rfl⟩
      obtain ⟨y, hy⟩ : ∃ y, at_ l (j + 1) = y := ⟨_, rfl⟩
      obtain ⟨z, hz⟩ : ∃ z, (at_ l (j + 2)).f1 = z := ⟨_, rfl⟩
      have h0 := ((bcell HB).1 _ _ hb).trans (hc j (by omega)).2
      have h1 := ((bcell HB).1 _ _ hb).trans (hc (j + 1) (by omega)).1
      have h2 := ((bcell HB).1 _ _ hb).trans (hc (j + 1) (by omega)).2
      have h3 := ((bcell HB).1 _ _ hb).trans (hc (j + 2) (by omega)).2
      rw [hx] at h0; rw [hy] at h1 h2; rw [hz] at h3
      have HT := Lib.hid (fun h : Peak x y.f1 z => show turns l (j + 1 + 1) = L ++ [y.f0] by rw [turns_yes (by rw [hx, hy, hz]; exact h), HL0.out, hy])
      have HN := Lib.hid (fun h : ¬ Peak x y.f1 z => show turns l (j + 1 + 1) = L by rw [turns_no (by rw [hx, hy, hz]; exact h), HL0.out])
      clear hc hx hy hz
      have q1 : (j : Int) + 1 + 1 < (l.length : Int) := by omega
      have q8 : j + 1 + 1 < l.length := by omega
      have q9 : IntKind.i64.wrap ((j : Int) + 1 + 1) = (j : Int) + 1 + 1 := IntWalk.i64_in _ (by omega)
      have q2 : IntKind.i64.wrap ((l.length : Int) - 1) = (l.length : Int) - 1 := IntWalk.i64_in _ (by omega)
      have q3 : IntKind.i64.wrap (j : Int) = j := IntWalk.i64_in _ (by omega)
      have q4 : IntKind.i64.wrap ((j : Int) + 2) = (j : Int) + 2 := IntWalk.i64_in _ (by omega)
      have q5 : j < l.length := by omega
      have q6 : j + 1 < l.length := by omega
      have q7 : j + 2 < l.length := by omega
      have hm1 : L.length + 1 ≤ maxLen := by unfold maxLen; omega
      have hm2 : (L.length + 1) * 8 ≤ 140737488355328 := by omega
      go_wp2_with fail
      go_quiet (fail)
      replace O := own_keep O (Below.drewN' (Below.refl wr.heap.size wr) nq)
      replace HB := Below.drewN' HB nq
      have g1 : (wr.drewN nq).cell? ⟨b, o + (j + 1) * 2, none⟩ = some (.int .i64 y.f0) := h1
      have g2 : (wr.drewN nq).cell? ⟨b, o + (j + 1) * 2 + 1, none⟩ = some (.int .i64 y.f1) := h2
      clear h0 h1 h2 h3
      generalize wr.drewN nq = wq at O HB g1 g2 ⊢
      by_cases c1 : x < y.f1
      · have d1 : ¬ y.f1 < x := by omega
        have d2 : ¬ y.f1 ≤ x := by omega
        by_cases c2 : z < y.f1
        · have d3 : ¬ y.f1 ≤ z := by omega
          have HT1 := Lib.hid (HT.out (by unfold Peak; omega)); clear HT HN
          go_wp2_with (at_builtin; go_must (refine wpList_append_own _ rfl _ _ 40 rfl w.heap.size 3 i0 _ 1 8 Try.underlying40 hi hz0 HI1.out HI.out rfl (by decide) _ L.length _ rfl (own_keep O (al (Below.refl _ _))) ⟨wq.heap.size, 0, none⟩ 1 1 [.int .i64 y.f0] rfl rfl (cell_one_new _ _ _) (one_cell rfl) hm1 hm2 (by rw [size_alloc']; have := HB.size; omega) ?_; intro v' w9 hown1 hgrow _))
          have hB9 := below_append HB O hgrow
          obtain ⟨A1, c1, rfl⟩ := own_form hown1
          have HO1 := row_app hown1
          clear hgrow hown1 HB O hm1 hm2 g1 g2
          go_wp2
          go_roundw
          case rel => exact ⟨j + 1 + 1, L ++ [y.f0], A1, c1, by omega, by omega, by go_num, by rw [List.length_append] <;> rfl, HT1, by rw [List.length_append]; simp; omega, HO1, hB9⟩
          case measure => simp [intOf]; omega
        · have d3 : y.f1 ≤ z := by omega
          have HN1 := Lib.hid (HN.out (by unfold Peak; omega)); clear HT HN
          go_wp2
          go_roundw
          case rel => exact ⟨j + 1 + 1, L, A, c, by omega, by omega, by go_num, rfl, HN1, by omega, O, HB⟩
          case measure => simp [intOf]; omega
      · have d1 : y.f1 ≤ x := by omega
        by_cases c3 : y.f1 < x
        · have d2 : ¬ x ≤ y.f1 := by omega
          by_cases c4 : y.f1 < z
          · have d3 : ¬ z ≤ y.f1 := by omega
            have HT1 := Lib.hid (HT.out (by unfold Peak; omega)); clear HT HN
            go_wp2_with (at_builtin; go_must (refine wpList_append_own _ rfl _ _ 40 rfl w.heap.size 3 i0 _ 1 8 Try.underlying40 hi hz0 HI1.out HI.out rfl (by decide) _ L.length _ rfl (own_keep O (al (Below.refl _ _))) ⟨wq.heap.size, 0, none⟩ 1 1 [.int .i64 y.f0] rfl rfl (cell_one_new _ _ _) (one_cell rfl) hm1 hm2 (by rw [size_alloc']; have := HB.size; omega) ?_; intro v' w9 hown1 hgrow _))
            have hB9 := below_append HB O hgrow
            obtain ⟨A1, c1, rfl⟩ := own_form hown1
            have HO1 := row_app hown1
            clear hgrow hown1 HB O hm1 hm2 g1 g2
            go_wp2
            go_roundw
            case rel => exact ⟨j + 1 + 1, L ++ [y.f0], A1, c1, by omega, by omega, by go_num, by rw [List.length_append] <;> rfl, HT1, by rw [List.length_append]; simp; omega, HO1, hB9⟩
            case measure => simp [intOf]; omega
          · have d3 : z ≤ y.f1 := by omega
            have HN1 := Lib.hid (HN.out (by unfold Peak; omega)); clear HT HN
            go_wp2
            go_roundw
            case rel => exact ⟨j + 1 + 1, L, A, c, by omega, by omega, by go_num, rfl, HN1, by omega, O, HB⟩
            case measure => simp [intOf]; omega
        · have d2 : x ≤ y.f1 := by omega
          have HN1 := Lib.hid (HN.out (by unfold Peak; omega)); clear HT HN
          go_wp2
          go_roundw
          case rel => exact ⟨j + 1 + 1, L, A, c, by omega, by omega, by go_num, rfl, HN1, by omega, O, HB⟩
          case measure => simp [intOf]; omega
    · have hk9 : k = l.length - 1 := by omega
      have e := HL0.out
      rw [hk9] at e
      have q1 : ¬ (k : Int) + 1 < (l.length : Int) := by omega
      have q8 : ¬ k + 1 < l.length := by omega
      have q9 : IntKind.i64.wrap ((k : Int) + 1) = (k : Int) + 1 := IntWalk.i64_in _ (by omega)
      have q2 : IntKind.i64.wrap ((l.length : Int) - 1) = (l.length : Int) - 1 := IntWalk.i64_in _ (by omega)
      go_wp2
      go_ret2
      exact i_mk (HE.out.trans e) (by first | rfl | exact HG.out) rfl O HB
end Go.Proofs.Ytbbnbkdglihhhaa.Turn
