/- The draws of chapter 6: suns, an area, a span; a brine, a rate. -/
import Derived.Test.YtpbmncecejchjaaDr
import Derived.Test.YtpbmncecejchjaaDraws2
import Derived.Test.YtpbmncecejchjaaSunC
namespace Go.Proofs.Ytpbmncecejchjaa.DSun
open Go.RowKit Go.Proofs.Ytpbmncecejchjaa.Mem Go.Proofs.Ytpbmncecejchjaa.Base Go.Proofs.Ytpbmncecejchjaa.Draw Go.Proofs.Ytpbmncecejchjaa.Boxes Go.Proofs.Ytpbmncecejchjaa.Keep Go.Proofs.Ytpbmncecejchjaa.Dr Go.Proofs.Ytpbmncecejchjaa.SSun Go.Proofs.Ytpbmncecejchjaa.SunC
set_option linter.unusedVariables false
set_option maxRecDepth 100000
def Lot (B : Nat) (zs : List Int) (p K : Nat) (w : World) (e : Ending) (w' : World) : Prop :=
  ∃ (L : List R) (g c : Nat), L.length ≤ 25 ∧ e = .returned (.slice (some ⟨g, 0, none⟩) L.length c) ∧ w'.ownsRow w.heap.size 128 2 (.slice (some ⟨g, 0, none⟩) L.length c) L.length (flat L) ∧ Cu B zs p K w' ∧ w.grownBy w' (some p)
theorem own_some0 {w : World} {base : Nat} {e : TypeId} {size n : Nat} {v : Value} {xs : List Value} (h : w.ownsRow base e size v n xs) (hv : v ≠ .slice none 0 0) : ∃ g c, v = .slice (some ⟨g, 0, none⟩) n c := by
  rcases h.2 with ⟨h1, _⟩ | ⟨g, cap, cur, h1, _⟩
  · exact absurd h1 hv
  · exact ⟨g, cap, h1⟩
theorem new2 (W : World) (x : R) : ∀ j u, [Value.int .i64 x.f0, .int .i64 x.f1][j]? = some u →
    (W.alloc (.cells #[.int .i64 x.f0, .int .i64 x.f1] 128)).cell? ((⟨W.heap.size, 0, none⟩ : Addr).add j) = some u := by
  intro j u hu
  rw [cell_add, Nat.zero_add, World.cell?_alloc_at _ _ _ _ rfl]
  simpa using hu
theorem one2 (x : R) : ∀ u ∈ [Value.int .i64 x.f0, .int .i64 x.f1], u.oneCell' = true := by
  intro u hu; simp at hu; rcases hu with rfl | rfl <;> rfl
theorem flat_snoc (l : List R) (x : R) : flat (l ++ [x]) = flat l ++ [Value.int .i64 x.f0, .int .i64 x.f1] := by simp [flat, R.cells]
theorem brine_d (B : Nat) (zs : List Int) (p K : Nat) (w : World) (h : Cu B zs p K w) (hk : K ≤ 700000000) :
    Calls Try.prog 72 #[.pointer (some ⟨p, 0, none⟩)] w fun e w' => ∃ x y : Int, (-1 ≤ x ∧ x ≤ 1000001 ∧ -1 ≤ y ∧ y ≤ 1000001) ∧ e = .returned (.agg #[.int .i64 x, .int .i64 y]) ∧ Cu B zs p (K + 8) w' ∧ w.grownBy w' (some p) := by
  obtain ⟨k, hk1, hc⟩ := h
  refine (Draws2.brine_any B zs w p k hc (by omega)).mono ?_
  rintro e w' ⟨⟨x, y, x0, x1, y0, y1, rfl⟩, ⟨⟨k', hk', hc'⟩, G⟩⟩
  exact ⟨x, y, ⟨x0, x1, y0, y1⟩, rfl, ⟨k', by omega, hc'⟩, G⟩
theorem area_d (B : Nat) (zs : List Int) (p K : Nat) (w : World) (C : Cu B zs p K w) (hK : K ≤ 800000000) :
    Calls Try.prog 73 #[.pointer (some ⟨p, 0, none⟩)] w fun e w' => ∃ x : Int, (0 ≤ x ∧ x ≤ 100001) ∧ e = .returned (.int .i64 x) ∧ Cu B zs p (K + 2) w' ∧ w.grownBy w' (some p) := by
  go_enter Try.func73, Try.ntmps73
  have hp := C.lt
  have hB := C.base
  have GW : w.grownBy w (some p) := grown_refl w _
  try go_wp2_with fail
  refine (among_d B zs p (K) _ _ 12 [1, 10, 50, 100, 333, 1000, 100000, 100001, 0, 70, 20, 500] (C.alloc (.cells #[.int .i64 1, .int .i64 10, .int .i64 50, .int .i64 100, .int .i64 333, .int .i64 1000, .int .i64 100000, .int .i64 100001, .int .i64 0, .int .i64 70, .int .i64 20, .int .i64 500] 3)) (by omega) (lst_at w _ _ (by omega)) (by omega) (by simp) (by simp)).mono ?_
  rintro e u1 ⟨x, hx, rfl, C1, G⟩
  have x_r : 0 ≤ x ∧ x ≤ 100001 := by simp at hx; omega
  clear hx
  have yu1 : w.heap.size ≤ u1.heap.size := (by have := G.size; simp only [size_alloc'] at this; omega)
  replace GW := grown_trans (grown_trans GW (grown_alloc _ (.cells #[.int .i64 1, .int .i64 10, .int .i64 50, .int .i64 100, .int .i64 333, .int .i64 1000, .int .i64 100000, .int .i64 100001, .int .i64 0, .int .i64 70, .int .i64 20, .int .i64 500] 3) _)) G
  replace C := C1
  clear C1 G
  have zu1 := GW.size
  go_wp2
  go_ret
  exact ⟨x, x_r, rfl, C.le (by omega), GW⟩
theorem span_d (B : Nat) (zs : List Int) (p K : Nat) (w : World) (C : Cu B zs p K w) (hK : K ≤ 800000000) :
    Calls Try.prog 97 #[.pointer (some ⟨p, 0, none⟩)] w fun e w' => ∃ x y : Int, e = .returned (.tuple #[.int .i64 x, .int .i64 y]) ∧ Cu B zs p (K + 4) w' ∧ w.grownBy w' (some p) := by
  go_enter Try.func97, Try.ntmps97
  have hp := C.lt
  have hB := C.base
  have GW : w.grownBy w (some p) := grown_refl w _
  try go_wp2_with fail
  refine (among_d B zs p (K) _ _ 7 [0, 0, 1, 2, 100, 3990, -1] (C.alloc (.cells #[.int .i64 0, .int .i64 0, .int .i64 1, .int .i64 2, .int .i64 100, .int .i64 3990, .int .i64 (-1)] 3)) (by omega) (lst_at w _ _ (by omega)) (by omega) (by simp) (by simp)).mono ?_
  rintro e u1 ⟨x, hx, rfl, C1, G⟩
  have x_r : -1 ≤ x ∧ x ≤ 3990 := by simp at hx; omega
  clear hx
  have yu1 : w.heap.size ≤ u1.heap.size := (by have := G.size; simp only [size_alloc'] at this; omega)
  replace GW := grown_trans (grown_trans GW (grown_alloc _ (.cells #[.int .i64 0, .int .i64 0, .int .i64 1, .int .i64 2, .int .i64 100, .int .i64 3990, .int .i64 (-1)] 3) _)) G
  replace C := C1
  clear C1 G
  have zu1 := GW.size
  try go_wp2_with fail
  refine (among_d B zs p (K + 2) _ _ 7 [0, 1, 3, 5, 10, 4000, -1] (C.alloc (.cells #[.int .i64 0, .int .i64 1, .int .i64 3, .int .i64 5, .int .i64 10, .int .i64 4000, .int .i64 (-1)] 3)) (by omega) (lst_at u1 _ _ (by omega)) (by omega) (by simp) (by simp)).mono ?_
  rintro e u2 ⟨y, hx, rfl, C1, G⟩
  have y_r : -1 ≤ y ∧ y ≤ 4000 := by simp at hx; omega
  clear hx
  have yu2 : u1.heap.size ≤ u2.heap.size := (by have := G.size; simp only [size_alloc'] at this; omega)
  replace GW := grown_trans (grown_trans GW (grown_alloc _ (.cells #[.int .i64 0, .int .i64 1, .int .i64 3, .int .i64 5, .int .i64 10, .int .i64 4000, .int .i64 (-1)] 3) _)) G
  replace C := C1
  clear C1 G
  have zu2 := GW.size
  have e1 : IntKind.i64.wrap (x + y) = x + y := IntWalk.i64_in _ (by omega)
  go_wp2
  go_ret2
  exact ⟨x, x + y, rfl, C.le (by omega), GW⟩
set_option maxHeartbeats 3200000 in
theorem suns_d (B : Nat) (zs : List Int) (p K : Nat) (w : World) (C : Cu B zs p K w) (hK : K ≤ 700000000) :
    Calls Try.prog 87 #[.pointer (some ⟨p, 0, none⟩)] w (Lot B zs p (K + 500) w) := by
  obtain ⟨i0, hi0, hz0, hz1, hz2⟩ := info_parts info_T
  have HI := Lib.hid hz2; clear hz2
  have HI1 := Lib.hid hz1; clear hz1
  go_enter Try.func87, Try.ntmps87
  have hp := C.lt
  have hB := C.base
  have GW : w.grownBy w (some p) := grown_refl w _
  go_wp2_with fail
  have O := SunC.empty_own (Below.refl _ w)
  replace C := C.alloc (.cells #[] 128)
  replace GW := grown_trans GW (grown_alloc _ (.cells #[] 128) _)
  have sv0 := size_alloc' w (.cells #[] 128)
  generalize w.alloc (.cells #[] 128) = v0 at C GW O sv0 ⊢
  have zv0 := GW.size
  try go_wp2_with fail
  refine (among_d B zs p (K) _ _ 5 [0, 0, 1, 100, 3990] (C.alloc (.cells #[.int .i64 0, .int .i64 0, .int .i64 1, .int .i64 100, .int .i64 3990] 3)) (by omega) (lst_at v0 _ _ (by omega)) (by omega) (by simp) (by simp)).mono ?_
  rintro e u21 ⟨d0, hx, rfl, C1, G⟩
  have d0_r : 0 ≤ d0 ∧ d0 ≤ 3990 := by simp at hx; omega
  clear hx
  have yu21 : v0.heap.size ≤ u21.heap.size := (by have := G.size; simp only [size_alloc'] at this; omega)
  replace O := own_grown (own_keep O (al (Below.refl _ _) (o := (.cells #[.int .i64 0, .int .i64 0, .int .i64 1, .int .i64 100, .int .i64 3990] 3)))) G (fun k hk => by injection hk with hk; omega)
  replace GW := grown_trans (grown_trans GW (grown_alloc _ (.cells #[.int .i64 0, .int .i64 0, .int .i64 1, .int .i64 100, .int .i64 3990] 3) _)) G
  replace C := C1
  clear C1 G
  have zu21 := GW.size
  try go_wp2_with fail
  refine (pick_d B zs p (K + 2) _ 8 C (by omega) (by omega) (by omega)).mono ?_
  rintro e u22 ⟨n0, n0_r, rfl, C1, G⟩
  have yu22 : u21.heap.size ≤ u22.heap.size := G.size
  replace O := own_grown O G (fun k hk => by injection hk with hk; omega)
  replace GW := grown_trans GW G
  replace C := C1
  clear C1 G
  have zu22 := GW.size
  obtain ⟨m, rfl⟩ : ∃ m : Nat, n0 = m := ⟨n0.toNat, by omega⟩
  go_wp2_with fail
  go_loopw [3, 4, 5] (fun oo ii nn wr => ∃ (n : Nat) (L : List R) (g c : Nat) (i : Int), n ≤ 8 ∧ nn = .int .i64 n ∧ ii = .int .i64 i ∧ 0 ≤ i ∧ i ≤ 3990 + 5 * (8 - n) ∧ oo = .slice (some ⟨g, 0, none⟩) L.length c ∧ L.length + n ≤ 8 ∧ wr.ownsRow w.heap.size 128 2 (.slice (some ⟨g, 0, none⟩) L.length c) L.length (flat L) ∧ Cu B zs p (K + 4 + 4 * (8 - n)) wr ∧ w.grownBy wr (some p)) (fun _ _ nn _ => (intOf nn).toNat)
  case atStart => exact ⟨m, [], _, _, d0, by omega, rfl, rfl, by omega, by omega, rfl, by simp; omega, O, C.le (by omega), GW⟩
  case round =>
    clear O C GW zv0
    obtain ⟨n, L, g, c, i, hn, rfl, rfl, h0, h1, rfl, hL, O, C, GW⟩ := hrel
    have zwr := GW.size
    by_cases hpos : 0 < n
    · have hp0 : decide ((0 : Int) < n) = true := decide_eq_true (by omega)
      try go_wp2_with fail
      refine (among_d B zs p (K + 4 + 4 * (8 - n)) _ _ 6 [0, 1000, 3000, 5000, 7500, 20000] (C.alloc (.cells #[.int .i64 0, .int .i64 1000, .int .i64 3000, .int .i64 5000, .int .i64 7500, .int .i64 20000] 3)) (by omega) (lst_at wr _ _ (by omega)) (by omega) (by simp) (by simp)).mono ?_
      rintro e u43 ⟨r, hx, rfl, C1, G⟩
      have r_r : 0 ≤ r ∧ r ≤ 20000 := by simp at hx; omega
      clear hx
      have yu43 : wr.heap.size ≤ u43.heap.size := (by have := G.size; simp only [size_alloc'] at this; omega)
      replace O := own_grown (own_keep O (al (Below.refl _ _) (o := (.cells #[.int .i64 0, .int .i64 1000, .int .i64 3000, .int .i64 5000, .int .i64 7500, .int .i64 20000] 3)))) G (fun k hk => by injection hk with hk; omega)
      replace GW := grown_trans (grown_trans GW (grown_alloc _ (.cells #[.int .i64 0, .int .i64 1000, .int .i64 3000, .int .i64 5000, .int .i64 7500, .int .i64 20000] 3) _)) G
      replace C := C1
      clear C1 G
      have zu43 := GW.size
      obtain ⟨x, hx0, hx1⟩ : ∃ x : R, x.f0 = i ∧ x.f1 = r := ⟨⟨i, r⟩, rfl, rfl⟩
      have HX0 := Lib.hid hx0; have HX1 := Lib.hid hx1; clear hx0 hx1
      obtain ⟨v, hv⟩ : ∃ v, u43 = v := ⟨_, rfl⟩
      rw [hv] at O C GW zu43 yu43 ⊢
      clear hv
      go_wp2_with (at_builtin; go_must (refine wpList_append_own _ rfl _ _ 35 rfl w.heap.size 128 i0 _ 2 16 Try.underlying35 hi0 hz0 HI1.out HI.out rfl (by decide) _ L.length _ rfl (O.alloc _) ⟨v.heap.size, 0, none⟩ 1 1 [.int .i64 i, .int .i64 r] rfl rfl (new2 v ⟨i, r⟩) (one2 ⟨i, r⟩) (by unfold maxLen; omega) (by omega) (by rw [size_alloc']; omega) ?_; intro v' w10 hown1 hgrow hnil))
      have hown2 : w10.ownsRow w.heap.size 128 2 v' (L ++ [x]).length (flat (L ++ [x])) := by
        rw [flat_snoc, List.length_append, HX0.out, HX1.out]
        exact hown1
      obtain ⟨g2, c2, rfl⟩ := own_some0 hown2 (fun e => by have := (hnil.1 e).2; omega)
      have hro : ∀ k, (Value.slice (some ⟨g, 0, none⟩) L.length c).ownBlock = some k → w.heap.size ≤ k := fun k hk => own_ge O k hk
      replace C := (C.alloc (.cells #[.int .i64 i, .int .i64 r] 128)).grown hgrow (fun k hk => by have := hro k hk; omega)
      replace GW := gw_grown (grown_trans GW (grown_alloc _ (.cells #[.int .i64 i, .int .i64 r] 128) _)) hgrow hro
      clear hown1 hgrow hnil hro O
      have zw10 := GW.size
      have hLx : (L ++ [x]).length = L.length + 1 := by simp
      have HLX := Lib.hid hLx; clear hLx
      try go_wp2_with fail
      refine (among_d B zs p (K + 4 + 4 * (8 - n) + 2) _ _ 4 [1, 1, 2, 5] (C.alloc (.cells #[.int .i64 1, .int .i64 1, .int .i64 2, .int .i64 5] 3)) (by omega) (lst_at w10 _ _ (by omega)) (by omega) (by simp) (by simp)).mono ?_
      rintro e u64 ⟨z, hx, rfl, C1, G⟩
      have z_r : 1 ≤ z ∧ z ≤ 5 := by simp at hx; omega
      clear hx
      have yu64 : w10.heap.size ≤ u64.heap.size := (by have := G.size; simp only [size_alloc'] at this; omega)
      replace hown2 := own_grown (own_keep hown2 (al (Below.refl _ _) (o := (.cells #[.int .i64 1, .int .i64 1, .int .i64 2, .int .i64 5] 3)))) G (fun k hk => by injection hk with hk; omega)
      replace GW := grown_trans (grown_trans GW (grown_alloc _ (.cells #[.int .i64 1, .int .i64 1, .int .i64 2, .int .i64 5] 3) _)) G
      replace C := C1
      clear C1 G
      have zu64 := GW.size
      have e1 : IntKind.i64.wrap (i + z) = i + z := IntWalk.i64_in _ (by omega)
      go_wp2
      go_roundw
      case rel => exact ⟨n - 1, L ++ [x], g2, c2, i + z, by omega, by rw [show ((n - 1 : Nat) : Int) = (n : Int) - 1 by omega] <;> rfl, rfl, by omega, by omega, by simp, by rw [HLX.out]; omega, hown2, C.le (by omega), GW⟩
      case measure => simp [intOf]; omega
    · have hp0 : decide ((0 : Int) < n) = false := decide_eq_false (by omega)
      try go_wp2_with fail
      refine (pick_d B zs p (K + 4 + 4 * (8 - n)) _ 32 C (by omega) (by omega) (by omega)).mono ?_
      rintro e u43 ⟨z, z_r, rfl, C1, G⟩
      have yu43 : wr.heap.size ≤ u43.heap.size := G.size
      replace O := own_grown O G (fun k hk => by injection hk with hk; omega)
      replace GW := grown_trans GW G
      replace C := C1
      clear C1 G
      have zu43 := GW.size
      by_cases hq0 : z = 0
      · subst hq0
        try go_wp2_with fail
        refine (among_d B zs p (K + 4 + 4 * (8 - n) + 2) _ _ 3 [-1, 0, 4001] (C.alloc (.cells #[.int .i64 (-1), .int .i64 0, .int .i64 4001] 3)) (by omega) (lst_at u43 _ _ (by omega)) (by omega) (by simp) (by simp)).mono ?_
        rintro e u44 ⟨a, hx, rfl, C1, G⟩
        have a_r : -1 ≤ a ∧ a ≤ 4001 := by simp at hx; omega
        clear hx
        have yu44 : u43.heap.size ≤ u44.heap.size := (by have := G.size; simp only [size_alloc'] at this; omega)
        replace O := own_grown (own_keep O (al (Below.refl _ _) (o := (.cells #[.int .i64 (-1), .int .i64 0, .int .i64 4001] 3)))) G (fun k hk => by injection hk with hk; omega)
        replace GW := grown_trans (grown_trans GW (grown_alloc _ (.cells #[.int .i64 (-1), .int .i64 0, .int .i64 4001] 3) _)) G
        replace C := C1
        clear C1 G
        have zu44 := GW.size
        try go_wp2_with fail
        refine (among_d B zs p (K + 4 + 4 * (8 - n) + 2 + 2) _ _ 3 [-1, 5, 20001] (C.alloc (.cells #[.int .i64 (-1), .int .i64 5, .int .i64 20001] 3)) (by omega) (lst_at u44 _ _ (by omega)) (by omega) (by simp) (by simp)).mono ?_
        rintro e u45 ⟨b, hx, rfl, C1, G⟩
        have b_r : -1 ≤ b ∧ b ≤ 20001 := by simp at hx; omega
        clear hx
        have yu45 : u44.heap.size ≤ u45.heap.size := (by have := G.size; simp only [size_alloc'] at this; omega)
        replace O := own_grown (own_keep O (al (Below.refl _ _) (o := (.cells #[.int .i64 (-1), .int .i64 5, .int .i64 20001] 3)))) G (fun k hk => by injection hk with hk; omega)
        replace GW := grown_trans (grown_trans GW (grown_alloc _ (.cells #[.int .i64 (-1), .int .i64 5, .int .i64 20001] 3) _)) G
        replace C := C1
        clear C1 G
        have zu45 := GW.size
        obtain ⟨x, hx0, hx1⟩ : ∃ x : R, x.f0 = a ∧ x.f1 = b := ⟨⟨a, b⟩, rfl, rfl⟩
        have HX0 := Lib.hid hx0; have HX1 := Lib.hid hx1; clear hx0 hx1
        obtain ⟨v, hv⟩ : ∃ v, u45 = v := ⟨_, rfl⟩
        rw [hv] at O C GW zu45 yu45 ⊢
        clear hv
        go_wp2_with (at_builtin; go_must (refine wpList_append_own _ rfl _ _ 35 rfl w.heap.size 128 i0 _ 2 16 Try.underlying35 hi0 hz0 HI1.out HI.out rfl (by decide) _ L.length _ rfl (O.alloc _) ⟨v.heap.size, 0, none⟩ 1 1 [.int .i64 a, .int .i64 b] rfl rfl (new2 v ⟨a, b⟩) (one2 ⟨a, b⟩) (by unfold maxLen; omega) (by omega) (by rw [size_alloc']; omega) ?_; intro v' w10 hown1 hgrow hnil))
        have hown2 : w10.ownsRow w.heap.size 128 2 v' (L ++ [x]).length (flat (L ++ [x])) := by
          rw [flat_snoc, List.length_append, HX0.out, HX1.out]
          exact hown1
        obtain ⟨g2, c2, rfl⟩ := own_some0 hown2 (fun e => by have := (hnil.1 e).2; omega)
        have hro : ∀ k, (Value.slice (some ⟨g, 0, none⟩) L.length c).ownBlock = some k → w.heap.size ≤ k := fun k hk => own_ge O k hk
        replace C := (C.alloc (.cells #[.int .i64 a, .int .i64 b] 128)).grown hgrow (fun k hk => by have := hro k hk; omega)
        replace GW := gw_grown (grown_trans GW (grown_alloc _ (.cells #[.int .i64 a, .int .i64 b] 128) _)) hgrow hro
        clear hown1 hgrow hnil hro O
        have HLX := Lib.hid (show (L ++ [x]).length ≤ 25 by simp; omega)
        go_wp2
        go_ret
        exact ⟨L ++ [x], g2, c2, HLX.out, by simp, hown2, C.le (by omega), GW⟩
      by_cases hq1 : z = 1
      · subst hq1
        obtain ⟨M, hM⟩ : ∃ M, M = L := ⟨_, rfl⟩
        go_wp2_with fail
        go_loopw [3, 4] (fun oo ii wr => ∃ (M : List R) (h9 c9 : Nat) (i : Int), M.length ≤ 21 ∧ ii = .int .i64 i ∧ 0 ≤ i ∧ i ≤ 5000 + M.length ∧ oo = .slice (some ⟨h9, 0, none⟩) M.length c9 ∧ wr.ownsRow w.heap.size 128 2 (.slice (some ⟨h9, 0, none⟩) M.length c9) M.length (flat M) ∧ Cu B zs p (K + 200 + 2 * M.length) wr ∧ w.grownBy wr (some p)) (fun _ ii _ => 6000 - (intOf ii).toNat)
        case atStart => exact ⟨L, g, c, i, by omega, rfl, by omega, by omega, rfl, O, C.le (by omega), GW⟩
        case round =>
          clear O C GW hL h0 h1 hM
          obtain ⟨M, h9, c9, i, hr, rfl, h0, h1, rfl, O, C, GW⟩ := hrel
          have zwr := GW.size
          try go_wp2_with fail
          refine (pick_d B zs p (K + 200 + 2 * M.length) _ 2 C (by omega) (by omega) (by omega)).mono ?_
          rintro e u64 ⟨y, y_r, rfl, C1, G⟩
          have yu64 : wr.heap.size ≤ u64.heap.size := G.size
          replace O := own_grown O G (fun k hk => by injection hk with hk; omega)
          replace GW := grown_trans GW G
          replace C := C1
          clear C1 G
          have zu64 := GW.size
          have e0 : IntKind.i64.wrap (20 + y) = 20 + y := IntWalk.i64_in _ (by omega)
          by_cases hlt : (M.length : Int) < 20 + y
          · have hlt' : decide ((M.length : Int) < 20 + y) = true := decide_eq_true hlt
            have e1 : IntKind.i64.wrap (i + 1) = i + 1 := IntWalk.i64_in _ (by omega)
            obtain ⟨x, hx0, hx1⟩ : ∃ x : R, x.f0 = i ∧ x.f1 = 100 := ⟨⟨i, 100⟩, rfl, rfl⟩
            have HX0 := Lib.hid hx0; have HX1 := Lib.hid hx1; clear hx0 hx1
            obtain ⟨v, hv⟩ : ∃ v, u64 = v := ⟨_, rfl⟩
            rw [hv] at O C GW zu64 yu64 ⊢
            clear hv
            go_wp2_with (at_builtin; go_must (refine wpList_append_own _ rfl _ _ 35 rfl w.heap.size 128 i0 _ 2 16 Try.underlying35 hi0 hz0 HI1.out HI.out rfl (by decide) _ M.length _ rfl (O.alloc _) ⟨v.heap.size, 0, none⟩ 1 1 [.int .i64 i, .int .i64 100] rfl rfl (new2 v ⟨i, 100⟩) (one2 ⟨i, 100⟩) (by unfold maxLen; omega) (by omega) (by rw [size_alloc']; omega) ?_; intro v' w10 hown1 hgrow hnil))
            have hown2 : w10.ownsRow w.heap.size 128 2 v' (M ++ [x]).length (flat (M ++ [x])) := by
              rw [flat_snoc, List.length_append, HX0.out, HX1.out]
              exact hown1
            obtain ⟨g2, c2, rfl⟩ := own_some0 hown2 (fun e => by have := (hnil.1 e).2; omega)
            have hro : ∀ k, (Value.slice (some ⟨h9, 0, none⟩) M.length c9).ownBlock = some k → w.heap.size ≤ k := fun k hk => own_ge O k hk
            replace C := (C.alloc (.cells #[.int .i64 i, .int .i64 100] 128)).grown hgrow (fun k hk => by have := hro k hk; omega)
            replace GW := gw_grown (grown_trans GW (grown_alloc _ (.cells #[.int .i64 i, .int .i64 100] 128) _)) hgrow hro
            clear hown1 hgrow hnil hro O
            have HLX := Lib.hid (show (M ++ [x]).length = M.length + 1 by simp)
            go_wp2
            go_roundw
            case rel => exact ⟨M ++ [x], g2, c2, i + 1, by rw [HLX.out]; omega, rfl, by omega, by rw [HLX.out]; omega, by simp, hown2, C.le (by rw [HLX.out]; omega), GW⟩
            case measure => simp [intOf]; omega
          · have hlt' : decide ((M.length : Int) < 20 + y) = false := decide_eq_false hlt
            go_wp2
            go_ret
            exact ⟨M, h9, c9, by omega, rfl, O, C.le (by omega), GW⟩
      · have y0 : (z == 0) = false := by rw [beq_eq_false_iff_ne]; exact hq0
        have y1 : (z == 1) = false := by rw [beq_eq_false_iff_ne]; exact hq1
        go_wp2
        go_ret
        exact ⟨L, g, c, by omega, rfl, O, C.le (by omega), GW⟩
end Go.Proofs.Ytpbmncecejchjaa.DSun
