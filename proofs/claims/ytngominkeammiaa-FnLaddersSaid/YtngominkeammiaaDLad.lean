/- The draws of chapter 13: a ladder. Made by tools/mk_dlad.py. -/
import Derived.Test.YtngominkeammiaaDr
import Derived.Test.YtngominkeammiaaDraws2
import Derived.Test.YtngominkeammiaaSRung
namespace Go.Proofs.Ytngominkeammiaa.DLad
open Go.RowKit Go.Proofs.Ytngominkeammiaa.Mem Go.Proofs.Ytngominkeammiaa.Base Go.Proofs.Ytngominkeammiaa.Draw Go.Proofs.Ytngominkeammiaa.Boxes Go.Proofs.Ytngominkeammiaa.Keep Go.Proofs.Ytngominkeammiaa.Dr Go.Proofs.Ytngominkeammiaa.SRung
set_option linter.unusedVariables false
set_option linter.unusedSimpArgs false
set_option maxRecDepth 100000
def Lot (B : Nat) (zs : List Int) (p K : Nat) (w : World) (e : Ending) (w' : World) : Prop :=
  ∃ (L : List R) (g c : Nat), L.length ≤ 10 ∧ e = .returned (.slice (some ⟨g, 0, none⟩) L.length c) ∧ w'.ownsRow w.heap.size 54 2 (.slice (some ⟨g, 0, none⟩) L.length c) L.length (flat L) ∧ Cu B zs p K w' ∧ w.grownBy w' (some p)
theorem own_some0 {w : World} {base : Nat} {e : TypeId} {size n : Nat} {v : Value} {xs : List Value} (h : w.ownsRow base e size v n xs) (hv : v ≠ .slice none 0 0) : ∃ g c, v = .slice (some ⟨g, 0, none⟩) n c := by
  rcases h.2 with ⟨h1, _⟩ | ⟨g, cap, cur, h1, _⟩
  · exact absurd h1 hv
  · exact ⟨g, cap, h1⟩
theorem cell_add2 (w : World) (b o j : Nat) : w.cell? (Addr.add ⟨b, o, none⟩ j) = w.cell? ⟨b, o + j, none⟩ := by
  unfold Addr.add; split
  · rename_i h; subst h; rfl
  · rfl
theorem new2 (W : World) (x : R) : ∀ j u, [Value.int .i64 x.f0, .int .i64 x.f1][j]? = some u →
    (W.alloc (.cells #[.int .i64 x.f0, .int .i64 x.f1] 54)).cell? ((⟨W.heap.size, 0, none⟩ : Addr).add j) = some u := by
  intro j u hu
  rw [cell_add2, Nat.zero_add, World.cell?_alloc_at _ _ _ _ rfl]
  simpa using hu
theorem one2 (x : R) : ∀ u ∈ [Value.int .i64 x.f0, .int .i64 x.f1], u.oneCell' = true := by
  intro u hu; simp at hu; rcases hu with rfl | rfl <;> rfl
theorem flat_snoc (l : List R) (x : R) : flat (l ++ [x]) = flat l ++ [Value.int .i64 x.f0, .int .i64 x.f1] := by simp [flat, R.cells]
theorem empty2 (w : World) {base : Nat} (hb : base ≤ w.heap.size) : (w.alloc (.cells #[] 54)).ownsRow base 54 2 (.slice (some ⟨w.heap.size, 0, none⟩) 0 0) 0 (flat []) := by
  have := World.ownsRow_lit w #[] 0 (e := 54) (size := 2) (base := base) hb (by unfold maxLen; omega) rfl
  simpa [flat] using this
def slen : Value → Nat
  | .slice _ n _ => n
  | _ => 0
theorem least_bd {a b : Int} (h0 : 0 ≤ a) (h1 : a ≤ 2000) (h2 : 0 ≤ b) : 0 ≤ least a b ∧ least a b ≤ 2000 := by unfold least; split <;> omega
theorem brine_d (B : Nat) (zs : List Int) (p K : Nat) (w : World) (h : Cu B zs p K w) (hk : K ≤ 700000000) :
    Calls Try.prog 63 #[.pointer (some ⟨p, 0, none⟩)] w fun e w' => ∃ x y : Int, (-1 ≤ x ∧ x ≤ 1000001 ∧ -1 ≤ y ∧ y ≤ 1000001) ∧ e = .returned (.agg #[.int .i64 x, .int .i64 y]) ∧ Cu B zs p (K + 8) w' ∧ w.grownBy w' (some p) := by
  obtain ⟨k, hk1, hc⟩ := h
  refine (Draws2.brine_any B zs w p k hc (by omega)).mono ?_
  rintro e w' ⟨⟨x, y, x0, x1, y0, y1, rfl⟩, ⟨⟨k', hk', hc'⟩, G⟩⟩
  exact ⟨x, y, ⟨x0, x1, y0, y1⟩, rfl, ⟨k', by omega, hc'⟩, G⟩
theorem index_d (B : Nat) (zs : List Int) (p K : Nat) (w : World) (n : Nat) (hn : n ≤ 1000) (C : Cu B zs p K w) (hK : K ≤ 800000000) :
    Calls Try.prog 75 #[.pointer (some ⟨p, 0, none⟩), .int .i64 (n : Int)] w fun e w' => ∃ x : Int, e = .returned (.int .i64 x) ∧ Cu B zs p (K + 4) w' ∧ w.grownBy w' (some p) := by
  have e0 : IntKind.i64.wrap ((n : Int) + 1) = (n : Int) + 1 := IntWalk.i64_in _ (by omega)
  go_enter Try.func75, Try.ntmps75
  have hp := C.lt
  have hB := C.base
  have GW : w.grownBy w (some p) := grown_refl w _
  try go_wp2_with fail
  refine (pick_d B zs p (K) _ ((n : Int) + 1) C (by omega) (by omega) (by omega)).mono ?_
  rintro e u1 ⟨x, x_r, rfl, C1, G⟩
  have yu1 : w.heap.size ≤ u1.heap.size := G.size
  replace GW := grown_trans GW G
  replace C := C1
  clear C1 G
  have zu1 := GW.size
  try go_wp2_with fail
  refine (pick_d B zs p (K + 2) _ 17 C (by omega) (by omega) (by omega)).mono ?_
  rintro e u2 ⟨y, y_r, rfl, C1, G⟩
  have yu2 : u1.heap.size ≤ u2.heap.size := G.size
  replace GW := grown_trans GW G
  replace C := C1
  clear C1 G
  have zu2 := GW.size
  have e1 : y.tdiv 16 = y / 16 := Int.tdiv_eq_ediv_of_nonneg (by omega)
  have e2 : IntKind.i64.wrap (y / 16) = y / 16 := IntWalk.i64_in _ (by omega)
  have e3 : IntKind.i64.wrap (x - y / 16) = x - y / 16 := IntWalk.i64_in _ (by omega)
  have HXR := Lib.hid x_r; have HYR := Lib.hid y_r; clear x_r y_r
  go_wp2
  go_ret
  exact ⟨_, rfl, C.le (by omega), GW⟩
set_option maxHeartbeats 3200000 in
theorem ladder_d (B : Nat) (zs : List Int) (p K : Nat) (w : World) (n : Nat) (hn : n ≤ 9) (C : Cu B zs p K w) (hK : K ≤ 700000000) :
    Calls Try.prog 57 #[.pointer (some ⟨p, 0, none⟩), .int .i64 (n : Int)] w (Lot B zs p (K + 100) w) := by
  obtain ⟨i0, hi0, hz0, hz1, hz2⟩ := info_parts info_T
  have HI := Lib.hid hz2; clear hz2
  have HI1 := Lib.hid hz1; clear hz1
  go_enter Try.func57, Try.ntmps57
  have hp := C.lt
  have hB := C.base
  have GW : w.grownBy w (some p) := grown_refl w _
  go_wp2_with fail
  have O := empty2 w (Nat.le_refl _)
  replace C := C.alloc (.cells #[] 54)
  replace GW := grown_trans GW (grown_alloc _ (.cells #[] 54) _)
  have sv0 := size_alloc' w (.cells #[] 54)
  generalize w.alloc (.cells #[] 54) = v0 at C GW O sv0 ⊢
  have zv0 := GW.size
  try go_wp2_with fail
  refine (among_d B zs p (K) _ _ 4 [0, 0, 10, 30] (C.alloc (.cells #[.int .i64 0, .int .i64 0, .int .i64 10, .int .i64 30] 3)) (by omega) (lst_at v0 _ _ (by omega)) (by omega) (by simp) (by simp)).mono ?_
  rintro e u21 ⟨lo0, hx, rfl, C1, G⟩
  have lo0_r : 0 ≤ lo0 ∧ lo0 ≤ 30 := by simp at hx; omega
  clear hx
  have yu21 : v0.heap.size ≤ u21.heap.size := (by have := G.size; simp only [size_alloc'] at this; omega)
  replace O := own_grown (own_keep O (al (Below.refl _ _) (o := (.cells #[.int .i64 0, .int .i64 0, .int .i64 10, .int .i64 30] 3)))) G (fun k hk => by injection hk with hk; omega)
  replace GW := grown_trans (grown_trans GW (grown_alloc _ (.cells #[.int .i64 0, .int .i64 0, .int .i64 10, .int .i64 30] 3) _)) G
  replace C := C1
  clear C1 G
  have zu21 := GW.size
  try go_wp2_with fail
  refine (among_d B zs p (K + 2) _ _ 4 [50, 100, 300, 1000] (C.alloc (.cells #[.int .i64 50, .int .i64 100, .int .i64 300, .int .i64 1000] 3)) (by omega) (lst_at u21 _ _ (by omega)) (by omega) (by simp) (by simp)).mono ?_
  rintro e u22 ⟨hi1, hx, rfl, C1, G⟩
  have hi1_r : 50 ≤ hi1 ∧ hi1 ≤ 1000 := by simp at hx; omega
  clear hx
  have yu22 : u21.heap.size ≤ u22.heap.size := (by have := G.size; simp only [size_alloc'] at this; omega)
  replace O := own_grown (own_keep O (al (Below.refl _ _) (o := (.cells #[.int .i64 50, .int .i64 100, .int .i64 300, .int .i64 1000] 3)))) G (fun k hk => by injection hk with hk; omega)
  replace GW := grown_trans (grown_trans GW (grown_alloc _ (.cells #[.int .i64 50, .int .i64 100, .int .i64 300, .int .i64 1000] 3) _)) G
  replace C := C1
  clear C1 G
  have zu22 := GW.size
  go_wp2_with fail
  go_loopw [5, 6, 7, 8] (fun oo aa bb ii wr => ∃ (k : Nat) (L : List R) (g c : Nat) (lo hi : Int), k ≤ n ∧ ii = .int .i64 k ∧ aa = .int .i64 lo ∧ bb = .int .i64 hi ∧ 0 ≤ lo ∧ lo ≤ 2000 ∧ 0 ≤ hi ∧ hi ≤ 2000 ∧ oo = .slice (some ⟨g, 0, none⟩) L.length c ∧ L.length = k ∧ wr.ownsRow w.heap.size 54 2 (.slice (some ⟨g, 0, none⟩) L.length c) L.length (flat L) ∧ Cu B zs p (K + 4 + 4 * k) wr ∧ w.grownBy wr (some p)) (fun _ _ _ ii _ => n - (intOf ii).toNat)
  case atStart => exact ⟨0, [], _, _, lo0, hi1, Nat.zero_le _, rfl, rfl, rfl, by omega, by omega, by omega, by omega, rfl, rfl, O, C.le (by omega), GW⟩
  case round =>
    clear O C GW zv0 lo0_r hi1_r
    obtain ⟨k, L, g, c, lo, hi, hk, rfl, rfl, rfl, l0, l1, h0, h1, rfl, hLk, O, C, GW⟩ := hrel
    have HLK := Lib.hid hLk; have hLb : L.length ≤ 9 := by omega
    clear hLk
    have zwr := GW.size
    by_cases hlt : k < n
    · have HLT := Lib.hid hlt
      obtain ⟨x, hx0, hx1⟩ : ∃ x : R, x.f0 = lo ∧ x.f1 = hi := ⟨⟨lo, hi⟩, rfl, rfl⟩
      have HX0 := Lib.hid hx0; have HX1 := Lib.hid hx1; clear hx0 hx1
      obtain ⟨v, hv⟩ : ∃ v, wr = v := ⟨_, rfl⟩
      rw [hv] at O C GW zwr ⊢
      clear hv
      go_wp2_with (at_builtin; go_must (refine wpList_append_own _ rfl _ _ 24 rfl w.heap.size 54 i0 _ 2 16 Try.underlying24 hi0 hz0 HI1.out HI.out rfl (by decide) _ L.length _ rfl (O.alloc _) ⟨v.heap.size, 0, none⟩ 1 1 [.int .i64 (lo), .int .i64 (hi)] rfl rfl (new2 v ⟨lo, hi⟩) (one2 ⟨lo, hi⟩) (by unfold maxLen; omega) (by omega) (by rw [size_alloc']; omega) ?_; intro v' w10 hown1 hgrow hnil))
      have hown2 : w10.ownsRow w.heap.size 54 2 v' (L ++ [x]).length (flat (L ++ [x])) := by
        rw [flat_snoc, List.length_append, HX0.out, HX1.out]
        exact hown1
      obtain ⟨g2, c2, rfl⟩ := own_some0 hown2 (fun e => by have := (hnil.1 e).2; omega)
      have hro : ∀ k, (Value.slice (some ⟨g, 0, none⟩) L.length c).ownBlock = some k → w.heap.size ≤ k := fun k hk => own_ge O k hk
      replace C := (C.alloc (.cells #[.int .i64 (lo), .int .i64 (hi)] 54)).grown hgrow (fun k hk => by have := hro k hk; omega)
      replace GW := gw_grown (grown_trans GW (grown_alloc _ (.cells #[.int .i64 (lo), .int .i64 (hi)] 54) _)) hgrow hro
      clear hown1 hgrow hnil hro O
      have zw10 := GW.size
      have HLX := Lib.hid (show (L ++ [x]).length = k + 1 by rw [List.length_append, HLK.out]; rfl)
      try go_wp2_with fail
      refine (among_d B zs p (K + 4 + 4 * k) _ _ 4 [0, 10, 50, 100] (C.alloc (.cells #[.int .i64 0, .int .i64 10, .int .i64 50, .int .i64 100] 3)) (by omega) (lst_at w10 _ _ (by omega)) (by omega) (by simp) (by simp)).mono ?_
      rintro e u63 ⟨y, hx, rfl, C1, G⟩
      have y_r : 0 ≤ y ∧ y ≤ 100 := by simp at hx; omega
      clear hx
      have yu63 : w10.heap.size ≤ u63.heap.size := (by have := G.size; simp only [size_alloc'] at this; omega)
      replace hown2 := own_grown (own_keep hown2 (al (Below.refl _ _) (o := (.cells #[.int .i64 0, .int .i64 10, .int .i64 50, .int .i64 100] 3)))) G (fun k hk => by injection hk with hk; omega)
      replace GW := grown_trans (grown_trans GW (grown_alloc _ (.cells #[.int .i64 0, .int .i64 10, .int .i64 50, .int .i64 100] 3) _)) G
      replace C := C1
      clear C1 G
      have zu63 := GW.size
      have e1 : IntKind.i64.wrap (lo + y) = lo + y := IntWalk.i64_in _ (by omega)
      have hb1 := least_bd h0 h1 (show 0 ≤ lo + y by omega)
      go_wp2_with fail
      refine (least_any _ _ _).mono ?_
      rintro e' w' ⟨rfl, rfl⟩
      obtain ⟨lo2, hlo2⟩ : ∃ z, least hi (lo + y) = z := ⟨_, rfl⟩
      rw [hlo2] at hb1 ⊢
      clear hlo2
      try go_wp2_with fail
      refine (among_d B zs p (K + 4 + 4 * k + 2) _ _ 4 [0, 50, 100, 200] (C.alloc (.cells #[.int .i64 0, .int .i64 50, .int .i64 100, .int .i64 200] 3)) (by omega) (lst_at u63 _ _ (by omega)) (by omega) (by simp) (by simp)).mono ?_
      rintro e u64 ⟨y2, hx, rfl, C1, G⟩
      have y2_r : 0 ≤ y2 ∧ y2 ≤ 200 := by simp at hx; omega
      clear hx
      have yu64 : u63.heap.size ≤ u64.heap.size := (by have := G.size; simp only [size_alloc'] at this; omega)
      replace hown2 := own_grown (own_keep hown2 (al (Below.refl _ _) (o := (.cells #[.int .i64 0, .int .i64 50, .int .i64 100, .int .i64 200] 3)))) G (fun k hk => by injection hk with hk; omega)
      replace GW := grown_trans (grown_trans GW (grown_alloc _ (.cells #[.int .i64 0, .int .i64 50, .int .i64 100, .int .i64 200] 3) _)) G
      replace C := C1
      clear C1 G
      have zu64 := GW.size
      have e2 : IntKind.i64.wrap (hi + y2) = hi + y2 := IntWalk.i64_in _ (by omega)
      have hb2 := least_bd (a := 1000) (by omega) (by omega) (show 0 ≤ hi + y2 by omega)
      go_wp2_with fail
      refine (least_any _ _ _).mono ?_
      rintro e' w' ⟨rfl, rfl⟩
      obtain ⟨hi2, hhi2⟩ : ∃ z, least 1000 (hi + y2) = z := ⟨_, rfl⟩
      rw [hhi2] at hb2 ⊢
      clear hhi2
      go_wp2
      go_roundw
      case rel => exact ⟨k + 1, L ++ [x], g2, c2, lo2, hi2, HLT.out, by go_num, rfl, rfl, hb1.1, hb1.2, hb2.1, hb2.2, by simp, HLX.out, hown2, C.le (by omega), GW⟩
      case measure => have := HLT.out; simp [intOf]; omega
    · try go_wp2_with fail
      refine (pick_d B zs p (K + 4 + 4 * k) _ 32 C (by omega) (by omega) (by omega)).mono ?_
      rintro e u43 ⟨z, z_r, rfl, C1, G⟩
      have yu43 : wr.heap.size ≤ u43.heap.size := G.size
      replace O := own_grown O G (fun k hk => by injection hk with hk; omega)
      replace GW := grown_trans GW G
      replace C := C1
      clear C1 G
      have zu43 := GW.size
      by_cases hq0 : z = 0
      · subst hq0
        try go_wp2_with fail
        refine (among_d B zs p (K + 4 + 4 * k + 2) _ _ 2 [-1, 0] (C.alloc (.cells #[.int .i64 (-1), .int .i64 0] 3)) (by omega) (lst_at u43 _ _ (by omega)) (by omega) (by simp) (by simp)).mono ?_
        rintro e u44 ⟨a, hx, rfl, C1, G⟩
        have a_r : -1 ≤ a ∧ a ≤ 0 := by simp at hx; omega
        clear hx
        have yu44 : u43.heap.size ≤ u44.heap.size := (by have := G.size; simp only [size_alloc'] at this; omega)
        replace O := own_grown (own_keep O (al (Below.refl _ _) (o := (.cells #[.int .i64 (-1), .int .i64 0] 3)))) G (fun k hk => by injection hk with hk; omega)
        replace GW := grown_trans (grown_trans GW (grown_alloc _ (.cells #[.int .i64 (-1), .int .i64 0] 3) _)) G
        replace C := C1
        clear C1 G
        have zu44 := GW.size
        try go_wp2_with fail
        refine (among_d B zs p (K + 4 + 4 * k + 2 + 2) _ _ 2 [1001, 5] (C.alloc (.cells #[.int .i64 1001, .int .i64 5] 3)) (by omega) (lst_at u44 _ _ (by omega)) (by omega) (by simp) (by simp)).mono ?_
        rintro e u45 ⟨b, hx, rfl, C1, G⟩
        have b_r : 5 ≤ b ∧ b ≤ 1001 := by simp at hx; omega
        clear hx
        have yu45 : u44.heap.size ≤ u45.heap.size := (by have := G.size; simp only [size_alloc'] at this; omega)
        replace O := own_grown (own_keep O (al (Below.refl _ _) (o := (.cells #[.int .i64 1001, .int .i64 5] 3)))) G (fun k hk => by injection hk with hk; omega)
        replace GW := grown_trans (grown_trans GW (grown_alloc _ (.cells #[.int .i64 1001, .int .i64 5] 3) _)) G
        replace C := C1
        clear C1 G
        have zu45 := GW.size
        obtain ⟨x, hx0, hx1⟩ : ∃ x : R, x.f0 = a ∧ x.f1 = b := ⟨⟨a, b⟩, rfl, rfl⟩
        have HX0 := Lib.hid hx0; have HX1 := Lib.hid hx1; clear hx0 hx1
        obtain ⟨v, hv⟩ : ∃ v, u45 = v := ⟨_, rfl⟩
        rw [hv] at O C GW zu45 yu45 ⊢
        clear hv
        go_wp2_with (at_builtin; go_must (refine wpList_append_own _ rfl _ _ 24 rfl w.heap.size 54 i0 _ 2 16 Try.underlying24 hi0 hz0 HI1.out HI.out rfl (by decide) _ L.length _ rfl (O.alloc _) ⟨v.heap.size, 0, none⟩ 1 1 [.int .i64 (a), .int .i64 (b)] rfl rfl (new2 v ⟨a, b⟩) (one2 ⟨a, b⟩) (by unfold maxLen; omega) (by omega) (by rw [size_alloc']; omega) ?_; intro v' w10 hown1 hgrow hnil))
        have hown2 : w10.ownsRow w.heap.size 54 2 v' (L ++ [x]).length (flat (L ++ [x])) := by
          rw [flat_snoc, List.length_append, HX0.out, HX1.out]
          exact hown1
        obtain ⟨g2, c2, rfl⟩ := own_some0 hown2 (fun e => by have := (hnil.1 e).2; omega)
        have hro : ∀ k, (Value.slice (some ⟨g, 0, none⟩) L.length c).ownBlock = some k → w.heap.size ≤ k := fun k hk => own_ge O k hk
        replace C := (C.alloc (.cells #[.int .i64 (a), .int .i64 (b)] 54)).grown hgrow (fun k hk => by have := hro k hk; omega)
        replace GW := gw_grown (grown_trans GW (grown_alloc _ (.cells #[.int .i64 (a), .int .i64 (b)] 54) _)) hgrow hro
        clear hown1 hgrow hnil hro O
        have HLX := Lib.hid (show (L ++ [x]).length ≤ 10 by simp; omega)
        go_wp2
        go_ret
        exact ⟨L ++ [x], g2, c2, HLX.out, by simp, hown2, C.le (by omega), GW⟩
      have y0 : (z == 0) = false := by rw [beq_eq_false_iff_ne]; exact hq0
      by_cases hq1 : z = 1
      · subst hq1
        go_wp2
        go_ret
        exact ⟨[], _, _, by simp, by simp, empty2 _ (by omega), (C.alloc _).le (by omega), grown_trans GW (grown_alloc _ _ _)⟩
      have y1 : (z == 1) = false := by rw [beq_eq_false_iff_ne]; exact hq1
      by_cases hq2 : z = 2
      · subst hq2
        go_wp2_with fail
        go_loopw [5] (fun oo wr => ∃ (M : List R) (h9 c9 : Nat), M.length ≤ 9 ∧ oo = .slice (some ⟨h9, 0, none⟩) M.length c9 ∧ wr.ownsRow w.heap.size 54 2 (.slice (some ⟨h9, 0, none⟩) M.length c9) M.length (flat M) ∧ Cu B zs p (K + 50 + 2 * M.length) wr ∧ w.grownBy wr (some p)) (fun oo _ => 20 - slen oo)
        case atStart => exact ⟨L, g, c, by omega, rfl, O, C.le (by omega), GW⟩
        case round =>
          clear O C GW hLb HLK
          obtain ⟨M, h9, c9, hr, rfl, O, C, GW⟩ := hrel
          have zwr := GW.size
          try go_wp2_with fail
          refine (pick_d B zs p (K + 50 + 2 * M.length) _ 2 C (by omega) (by omega) (by omega)).mono ?_
          rintro e u64 ⟨y, y_r, rfl, C1, G⟩
          have yu64 : wr.heap.size ≤ u64.heap.size := G.size
          replace O := own_grown O G (fun k hk => by injection hk with hk; omega)
          replace GW := grown_trans GW G
          replace C := C1
          clear C1 G
          have zu64 := GW.size
          have e0 : IntKind.i64.wrap (8 + y) = 8 + y := IntWalk.i64_in _ (by omega)
          by_cases hlt : (M.length : Int) < 8 + y
          · have hlt' : decide ((M.length : Int) < 8 + y) = true := decide_eq_true hlt
            obtain ⟨x, hx0, hx1⟩ : ∃ x : R, x.f0 = 1000 ∧ x.f1 = 1000 := ⟨⟨1000, 1000⟩, rfl, rfl⟩
            have HX0 := Lib.hid hx0; have HX1 := Lib.hid hx1; clear hx0 hx1
            obtain ⟨v, hv⟩ : ∃ v, u64 = v := ⟨_, rfl⟩
            rw [hv] at O C GW zu64 yu64 ⊢
            clear hv
            go_wp2_with (at_builtin; go_must (refine wpList_append_own _ rfl _ _ 24 rfl w.heap.size 54 i0 _ 2 16 Try.underlying24 hi0 hz0 HI1.out HI.out rfl (by decide) _ M.length _ rfl (O.alloc _) ⟨v.heap.size, 0, none⟩ 1 1 [.int .i64 (1000), .int .i64 (1000)] rfl rfl (new2 v ⟨1000, 1000⟩) (one2 ⟨1000, 1000⟩) (by unfold maxLen; omega) (by omega) (by rw [size_alloc']; omega) ?_; intro v' w10 hown1 hgrow hnil))
            have hown2 : w10.ownsRow w.heap.size 54 2 v' (M ++ [x]).length (flat (M ++ [x])) := by
              rw [flat_snoc, List.length_append, HX0.out, HX1.out]
              exact hown1
            obtain ⟨g2, c2, rfl⟩ := own_some0 hown2 (fun e => by have := (hnil.1 e).2; omega)
            have hro : ∀ k, (Value.slice (some ⟨h9, 0, none⟩) M.length c9).ownBlock = some k → w.heap.size ≤ k := fun k hk => own_ge O k hk
            replace C := (C.alloc (.cells #[.int .i64 (1000), .int .i64 (1000)] 54)).grown hgrow (fun k hk => by have := hro k hk; omega)
            replace GW := gw_grown (grown_trans GW (grown_alloc _ (.cells #[.int .i64 (1000), .int .i64 (1000)] 54) _)) hgrow hro
            clear hown1 hgrow hnil hro O
            have HLX := Lib.hid (show (M ++ [x]).length = M.length + 1 by simp)
            go_wp2
            go_roundw
            case rel => exact ⟨M ++ [x], g2, c2, by rw [HLX.out]; omega, by simp, hown2, C.le (by rw [HLX.out]; omega), GW⟩
            case measure => simp [slen]; omega
          · have hlt' : decide ((M.length : Int) < 8 + y) = false := decide_eq_false hlt
            go_wp2
            go_ret
            exact ⟨M, h9, c9, by omega, rfl, O, C.le (by omega), GW⟩
      · have y2 : (z == 2) = false := by rw [beq_eq_false_iff_ne]; exact hq2
        go_wp2
        go_ret
        exact ⟨L, g, c, by omega, rfl, O, C.le (by omega), GW⟩
end Go.Proofs.Ytngominkeammiaa.DLad
