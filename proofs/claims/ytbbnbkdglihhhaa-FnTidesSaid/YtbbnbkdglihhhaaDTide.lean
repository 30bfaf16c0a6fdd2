/- The draw of a tide. -/
import Derived.Test.YtbbnbkdglihhhaaDr
import Derived.Test.YtbbnbkdglihhhaaRMark
namespace Go.Proofs.Ytbbnbkdglihhhaa.DTide
open Go.RowKit Go.Proofs.Ytbbnbkdglihhhaa.Mem Go.Proofs.Ytbbnbkdglihhhaa.Base Go.Proofs.Ytbbnbkdglihhhaa.Draw Go.Proofs.Ytbbnbkdglihhhaa.Boxes Go.Proofs.Ytbbnbkdglihhhaa.Keep Go.Proofs.Ytbbnbkdglihhhaa.Dr Go.Proofs.Ytbbnbkdglihhhaa.SMark Go.Proofs.Ytbbnbkdglihhhaa.MClone Go.Proofs.Ytbbnbkdglihhhaa.RMark
set_option linter.unusedVariables false
set_option maxRecDepth 100000
def lenOf : Value → Nat
  | .slice _ n _ => n
  | _ => 0
def Lot (B : Nat) (zs : List Int) (p K : Nat) (w : World) (e : Ending) (w' : World) : Prop :=
  ∃ (L : List R) (g c : Nat), 1 ≤ L.length ∧ L.length ≤ 20 ∧ e = .returned (.slice (some ⟨g, 0, none⟩) L.length c) ∧ w'.ownsRow w.heap.size 95 2 (.slice (some ⟨g, 0, none⟩) L.length c) L.length (flat L) ∧ Cu B zs p K w' ∧ w.grownBy w' (some p)
theorem own_some0 {w : World} {base : Nat} {e : TypeId} {size n : Nat} {v : Value} {xs : List Value} (h : w.ownsRow base e size v n xs) (hv : v ≠ .slice none 0 0) : ∃ g c, v = .slice (some ⟨g, 0, none⟩) n c := by
  rcases h.2 with ⟨h1, _⟩ | ⟨g, cap, cur, h1, _⟩
  · exact absurd h1 hv
  · exact ⟨g, cap, h1⟩
theorem own_take {w : World} {base g c n m : Nat} {l : List R} (h : w.ownsRow base 95 2 (.slice (some ⟨g, 0, none⟩) n c) n (flat l)) (hm : m ≤ n) : w.ownsRow base 95 2 (.slice (some ⟨g, 0, none⟩) m c) m (flat (l.take m)) := by
  have hl : l.length = n := by have := h.1; rw [flat_n] at this; omega
  refine ⟨by rw [flat_n, List.length_take]; omega, ?_⟩
  rcases h.2 with ⟨hv, _⟩ | ⟨g', cap, cur, hv, hg, hh, hc, hcm, hs, ht⟩
  · cases hv
  · injection hv with h1 h2 h3
    injection h1 with h1
    injection h1 with h1
    subst h1; subst h3
    refine .inr ⟨g, c, cur, rfl, hg, hh, by omega, hcm, hs, ?_⟩
    have e : (flat l).take (m * 2) = flat (l.take m) := by
      have e1 : flat l = flat (l.take m) ++ flat (l.drop m) := by unfold flat; rw [← List.flatMap_append, List.take_append_drop]
      have e2 : (flat (l.take m)).length = m * 2 := by rw [flat_n, List.length_take]; omega
      rw [e1, List.take_append_of_le_length (by omega), List.take_of_length_le (by omega)]
    rw [← e, ← ht, List.take_take]
    congr 1; omega
set_option maxHeartbeats 6400000 in
theorem tide_d (B : Nat) (zs : List Int) (p K : Nat) (w : World) (C : Cu B zs p K w) (hK : K ≤ 700000000) :
    Calls Try.prog 80 #[.pointer (some ⟨p, 0, none⟩)] w (Lot B zs p (K + 1000) w) := by
  obtain ⟨i0, hi0, hz0, hz1, hz2⟩ := info_parts info_T
  have HI := Lib.hid hz2; clear hz2
  have HI1 := Lib.hid hz1; clear hz1
  go_enter Try.func80, Try.ntmps80
  have hp := C.lt
  have hB := C.base
  have GW : w.grownBy w (some p) := grown_refl w _
  try go_wp2_with fail
  refine (among_d B zs p (K) _ _ 5 [-200, 0, 50, 100, 300] (C.alloc (.cells #[.int .i64 (-200), .int .i64 0, .int .i64 50, .int .i64 100, .int .i64 300] 3)) (by omega) (lst_at w _ _ (by omega)) (by omega) (by simp) (by simp)).mono ?_
  rintro e u1 ⟨a0, hx, rfl, C1, G⟩
  have a0_r : -200 ≤ a0 ∧ a0 ≤ 300 := by simp at hx; omega
  clear hx
  have yu1 : w.heap.size ≤ u1.heap.size := (by have := G.size; simp only [size_alloc'] at this; omega)
  replace GW := grown_trans (grown_trans GW (grown_alloc _ (.cells #[.int .i64 (-200), .int .i64 0, .int .i64 50, .int .i64 100, .int .i64 300] 3) _)) G
  replace C := C1
  clear C1 G
  have zu1 := GW.size
  go_wp2_with fail
  have O := World.ownsRow_lit u1 #[.int .i64 0, .int .i64 a0] 1 (e := 95) (size := 2) (base := w.heap.size) (by omega) (by unfold maxLen; omega) rfl
  replace C := C.alloc (.cells #[.int .i64 0, .int .i64 a0] 95)
  replace GW := grown_trans GW (grown_alloc _ (.cells #[.int .i64 0, .int .i64 a0] 95) _)
  have sv0 : (u1.alloc (.cells #[.int .i64 0, .int .i64 a0] 95)).heap.size = u1.heap.size + 1 := by simp only [size_alloc']
  generalize u1.alloc (.cells #[.int .i64 0, .int .i64 a0] 95) = v0 at C GW O sv0 ⊢
  replace O : v0.ownsRow w.heap.size 95 2 (.slice (some ⟨u1.heap.size, 0, none⟩) 1 1) 1 (flat [⟨0, a0⟩]) := by simpa [flat, R.cells] using O
  have zv0 := GW.size
  try go_wp2_with fail
  refine (among_d B zs p (K + 2) _ _ 4 [1, 60, 180, 360] (C.alloc (.cells #[.int .i64 1, .int .i64 60, .int .i64 180, .int .i64 360] 3)) (by omega) (lst_at v0 _ _ (by omega)) (by omega) (by simp) (by simp)).mono ?_
  rintro e u22 ⟨m0, hx, rfl, C1, G⟩
  have m0_r : 1 ≤ m0 ∧ m0 ≤ 360 := by simp at hx; omega
  clear hx
  have yu22 : v0.heap.size ≤ u22.heap.size := (by have := G.size; simp only [size_alloc'] at this; omega)
  replace O := own_grown (own_keep O (al (Below.refl _ _) (o := (.cells #[.int .i64 1, .int .i64 60, .int .i64 180, .int .i64 360] 3)))) G (fun k hk => by injection hk with hk; omega)
  replace GW := grown_trans (grown_trans GW (grown_alloc _ (.cells #[.int .i64 1, .int .i64 60, .int .i64 180, .int .i64 360] 3) _)) G
  replace C := C1
  clear C1 G
  have zu22 := GW.size
  try go_wp2_with fail
  refine (pick_d B zs p (K + 2 + 2) _ 4 C (by omega) (by omega) (by omega)).mono ?_
  rintro e u23 ⟨n0, n0_r, rfl, C1, G⟩
  have yu23 : u22.heap.size ≤ u23.heap.size := G.size
  replace O := own_grown O G (fun k hk => by injection hk with hk; omega)
  replace GW := grown_trans GW G
  replace C := C1
  clear C1 G
  have zu23 := GW.size
  obtain ⟨n1, rfl⟩ : ∃ m : Nat, n0 = m := ⟨n0.toNat, by omega⟩
  go_wp2_with fail
  go_loopw [3, 4, 5] (fun oo mm nn wr => ∃ (n : Nat) (L : List R) (g c : Nat) (m : Int), n ≤ 4 ∧ nn = .int .i64 n ∧ mm = .int .i64 m ∧ 0 ≤ m ∧ m ≤ 360 + 400 * (4 - n) ∧ oo = .slice (some ⟨g, 0, none⟩) L.length c ∧ 1 ≤ L.length ∧ L.length + n ≤ 5 ∧ wr.ownsRow w.heap.size 95 2 (.slice (some ⟨g, 0, none⟩) L.length c) L.length (flat L) ∧ Cu B zs p (K + 6 + 4 * (4 - n)) wr ∧ w.grownBy wr (some p)) (fun _ _ nn _ => (intOf nn).toNat)
  case atStart => exact ⟨n1, [⟨0, a0⟩], _, _, m0, by omega, rfl, rfl, by omega, by omega, rfl, by simp, by simp; omega, O, C.le (by omega), GW⟩
  case round =>
    clear O C GW zv0
    obtain ⟨n, L, g, c, m, hn, rfl, rfl, h0, h1, rfl, hL1, hL, O, C, GW⟩ := hrel
    have zwr := GW.size
    by_cases hpos : 0 < n
    · have hp0 : decide ((0 : Int) < n) = true := decide_eq_true (by omega)
      by_cases hm : m < 1440
      · have hm0' : decide (m < 1440) = true := decide_eq_true hm
        try go_wp2_with fail
        refine (among_d B zs p (K + 6 + 4 * (4 - n)) _ _ 7 [-300, -200, 0, 100, 200, 300, 500] (C.alloc (.cells #[.int .i64 (-300), .int .i64 (-200), .int .i64 0, .int .i64 100, .int .i64 200, .int .i64 300, .int .i64 500] 3)) (by omega) (lst_at wr _ _ (by omega)) (by omega) (by simp) (by simp)).mono ?_
        rintro e u44 ⟨h, hx, rfl, C1, G⟩
        have h_r : -300 ≤ h ∧ h ≤ 500 := by simp at hx; omega
        clear hx
        have yu44 : wr.heap.size ≤ u44.heap.size := (by have := G.size; simp only [size_alloc'] at this; omega)
        replace O := own_grown (own_keep O (al (Below.refl _ _) (o := (.cells #[.int .i64 (-300), .int .i64 (-200), .int .i64 0, .int .i64 100, .int .i64 200, .int .i64 300, .int .i64 500] 3)))) G (fun k hk => by injection hk with hk; omega)
        replace GW := grown_trans (grown_trans GW (grown_alloc _ (.cells #[.int .i64 (-300), .int .i64 (-200), .int .i64 0, .int .i64 100, .int .i64 200, .int .i64 300, .int .i64 500] 3) _)) G
        replace C := C1
        clear C1 G
        have zu44 := GW.size
        obtain ⟨v, hv⟩ : ∃ v, u44 = v := ⟨_, rfl⟩
        rw [hv] at O C GW zu44 yu44 ⊢
        clear hv
        go_wp2_with (at_builtin; go_must (refine wpList_append_own _ rfl _ _ 37 rfl w.heap.size 95 i0 _ 2 16 Try.underlying37 hi0 hz0 HI1.out HI.out rfl (by decide) _ L.length _ rfl (O.alloc _) ⟨v.heap.size, 0, none⟩ 1 1 [.int .i64 (m), .int .i64 (h)] rfl rfl (new2 v ⟨m, h⟩) (one2 ⟨m, h⟩) (by unfold maxLen; omega) (by omega) (by rw [size_alloc']; omega) ?_; intro v' w9 hown1 hgrow hnil))
        have hown2 : w9.ownsRow w.heap.size 95 2 v' (L ++ [(⟨m, h⟩ : R)]).length (flat (L ++ [(⟨m, h⟩ : R)])) := by
          rw [flat_snoc, List.length_append]
          exact hown1
        obtain ⟨g1, c1, rfl⟩ := own_some0 hown2 (fun e => by have := (hnil.1 e).2; omega)
        have hro : ∀ k, (Value.slice (some ⟨g, 0, none⟩) L.length c).ownBlock = some k → w.heap.size ≤ k := fun k hk => own_ge O k hk
        replace C := (C.alloc (.cells #[.int .i64 (m), .int .i64 (h)] 95)).grown hgrow (fun k hk => by have := hro k hk; omega)
        replace GW := gw_grown (grown_trans GW (grown_alloc _ (.cells #[.int .i64 (m), .int .i64 (h)] 95) _)) hgrow hro
        clear O
        have O := hown2
        clear hown1 hown2 hgrow hnil hro
        have zw9 := GW.size
        try go_wp2_with fail
        refine (among_d B zs p (K + 6 + 4 * (4 - n) + 2) _ _ 4 [1, 60, 360, 400] (C.alloc (.cells #[.int .i64 1, .int .i64 60, .int .i64 360, .int .i64 400] 3)) (by omega) (lst_at w9 _ _ (by omega)) (by omega) (by simp) (by simp)).mono ?_
        rintro e u65 ⟨d, hx, rfl, C1, G⟩
        have d_r : 1 ≤ d ∧ d ≤ 400 := by simp at hx; omega
        clear hx
        have yu65 : w9.heap.size ≤ u65.heap.size := (by have := G.size; simp only [size_alloc'] at this; omega)
        replace O := own_grown (own_keep O (al (Below.refl _ _) (o := (.cells #[.int .i64 1, .int .i64 60, .int .i64 360, .int .i64 400] 3)))) G (fun k hk => by injection hk with hk; omega)
        replace GW := grown_trans (grown_trans GW (grown_alloc _ (.cells #[.int .i64 1, .int .i64 60, .int .i64 360, .int .i64 400] 3) _)) G
        replace C := C1
        clear C1 G
        have zu65 := GW.size
        have e1 : IntKind.i64.wrap (m + d) = m + d := IntWalk.i64_in _ (by omega)
        go_wp2
        go_roundw
        case rel => exact ⟨n - 1, L ++ [⟨m, h⟩], g1, c1, m + d, by omega, by rw [show ((n - 1 : Nat) : Int) = (n : Int) - 1 by omega] <;> rfl, rfl, by omega, by omega, by simp, by simp, by simp; omega, O, C.le (by omega), GW⟩
        case measure => simp [intOf]; omega
      · have hm0' : decide (m < 1440) = false := decide_eq_false hm
        try go_wp2_with fail
        refine (among_d B zs p (K + 6 + 4 * (4 - n)) _ _ 4 [-200, 0, 100, 200] (C.alloc (.cells #[.int .i64 (-200), .int .i64 0, .int .i64 100, .int .i64 200] 3)) (by omega) (lst_at wr _ _ (by omega)) (by omega) (by simp) (by simp)).mono ?_
        rintro e u44 ⟨hb, hx, rfl, C1, G⟩
        have hb_r : -200 ≤ hb ∧ hb ≤ 200 := by simp at hx; omega
        clear hx
        have yu44 : wr.heap.size ≤ u44.heap.size := (by have := G.size; simp only [size_alloc'] at this; omega)
        replace O := own_grown (own_keep O (al (Below.refl _ _) (o := (.cells #[.int .i64 (-200), .int .i64 0, .int .i64 100, .int .i64 200] 3)))) G (fun k hk => by injection hk with hk; omega)
        replace GW := grown_trans (grown_trans GW (grown_alloc _ (.cells #[.int .i64 (-200), .int .i64 0, .int .i64 100, .int .i64 200] 3) _)) G
        replace C := C1
        clear C1 G
        have zu44 := GW.size
        obtain ⟨v, hv⟩ : ∃ v, u44 = v := ⟨_, rfl⟩
        rw [hv] at O C GW zu44 yu44 ⊢
        clear hv
        go_wp2_with (at_builtin; go_must (refine wpList_append_own _ rfl _ _ 37 rfl w.heap.size 95 i0 _ 2 16 Try.underlying37 hi0 hz0 HI1.out HI.out rfl (by decide) _ L.length _ rfl (O.alloc _) ⟨v.heap.size, 0, none⟩ 1 1 [.int .i64 (1440), .int .i64 (hb)] rfl rfl (new2 v ⟨1440, hb⟩) (one2 ⟨1440, hb⟩) (by unfold maxLen; omega) (by omega) (by rw [size_alloc']; omega) ?_; intro v' w10 hown1 hgrow hnil))
        have hown2 : w10.ownsRow w.heap.size 95 2 v' (L ++ [(⟨1440, hb⟩ : R)]).length (flat (L ++ [(⟨1440, hb⟩ : R)])) := by
          rw [flat_snoc, List.length_append]
          exact hown1
        obtain ⟨g2, c2, rfl⟩ := own_some0 hown2 (fun e => by have := (hnil.1 e).2; omega)
        have hro : ∀ k, (Value.slice (some ⟨g, 0, none⟩) L.length c).ownBlock = some k → w.heap.size ≤ k := fun k hk => own_ge O k hk
        replace C := (C.alloc (.cells #[.int .i64 (1440), .int .i64 (hb)] 95)).grown hgrow (fun k hk => by have := hro k hk; omega)
        replace GW := gw_grown (grown_trans GW (grown_alloc _ (.cells #[.int .i64 (1440), .int .i64 (hb)] 95) _)) hgrow hro
        clear O
        have O := hown2
        clear hown1 hown2 hgrow hnil hro
        have hl1 : (L ++ [(⟨1440, hb⟩ : R)]).length = L.length + 1 := by simp
        obtain ⟨M, hM⟩ : ∃ M, L ++ [(⟨1440, hb⟩ : R)] = M := ⟨_, rfl⟩
        rw [hM] at O hl1 ⊢
        have hl2 : 2 ≤ M.length := by omega
        have hl3 : M.length ≤ 6 := by omega
        clear hl1 hM
        have zw10 := GW.size
        try go_wp2_with fail
        refine (pick_d B zs p (K + 6 + 4 * (4 - n) + 2) _ 32 C (by omega) (by omega) (by omega)).mono ?_
        rintro e u65 ⟨z, z_r, rfl, C1, G⟩
        have yu65 : w10.heap.size ≤ u65.heap.size := G.size
        replace O := own_grown O G (fun k hk => by injection hk with hk; omega)
        replace GW := grown_trans GW G
        replace C := C1
        clear C1 G
        have zu65 := GW.size
        by_cases hz0' : z = 0
        · subst hz0'
          try go_wp2_with fail
          refine (among_d B zs p (K + 6 + 4 * (4 - n) + 2 + 2) _ _ 2 [0, 1] (C.alloc (.cells #[.int .i64 0, .int .i64 1] 3)) (by omega) (lst_at u65 _ _ (by omega)) (by omega) (by simp) (by simp)).mono ?_
          rintro e u66 ⟨a, hx, rfl, C1, G⟩
          have a_r : 0 ≤ a ∧ a ≤ 1 := by simp at hx; omega
          clear hx
          have yu66 : u65.heap.size ≤ u66.heap.size := (by have := G.size; simp only [size_alloc'] at this; omega)
          replace O := own_grown (own_keep O (al (Below.refl _ _) (o := (.cells #[.int .i64 0, .int .i64 1] 3)))) G (fun k hk => by injection hk with hk; omega)
          replace GW := grown_trans (grown_trans GW (grown_alloc _ (.cells #[.int .i64 0, .int .i64 1] 3) _)) G
          replace C := C1
          clear C1 G
          have zu66 := GW.size
          try go_wp2_with fail
          refine (among_d B zs p (K + 6 + 4 * (4 - n) + 2 + 2 + 2) _ _ 2 [501, -501] (C.alloc (.cells #[.int .i64 501, .int .i64 (-501)] 3)) (by omega) (lst_at u66 _ _ (by omega)) (by omega) (by simp) (by simp)).mono ?_
          rintro e u67 ⟨b, hx, rfl, C1, G⟩
          have b_r : -501 ≤ b ∧ b ≤ 501 := by simp at hx; omega
          clear hx
          have yu67 : u66.heap.size ≤ u67.heap.size := (by have := G.size; simp only [size_alloc'] at this; omega)
          replace O := own_grown (own_keep O (al (Below.refl _ _) (o := (.cells #[.int .i64 501, .int .i64 (-501)] 3)))) G (fun k hk => by injection hk with hk; omega)
          replace GW := grown_trans (grown_trans GW (grown_alloc _ (.cells #[.int .i64 501, .int .i64 (-501)] 3) _)) G
          replace C := C1
          clear C1 G
          have zu67 := GW.size
          have hgg := own_ge O g2 (by simp [Value.ownBlock])
          have s0 := O.cellAt 0 (by omega)
          have s1 := O.cellAt 1 (by omega)
          have f0 := O.frozenAt 0
          have f1 := O.frozenAt 1
          obtain ⟨m0, hm0⟩ : ∃ m, M[0]'(by omega) = m := ⟨_, rfl⟩
          rw [show (flat M)[0]? = some (.int .i64 m0.f0) by rw [← hm0]; exact flat_0 M 0 (by omega)] at s0
          rw [show (flat M)[1]? = some (.int .i64 m0.f1) by rw [← hm0]; exact flat_1 M 0 (by omega)] at s1
          obtain ⟨u, hu⟩ : ∃ u, u67 = u := ⟨_, rfl⟩
          rw [hu] at O C GW s0 s1 f0 f1 zu67 yu67 ⊢
          clear hu hm0
          have O2 : ((u.setCell ⟨g2, 0, none⟩ (.int .i64 a)).setCell ⟨g2, 1, none⟩ (.int .i64 b)).ownsRow w.heap.size 95 2 (.slice (some ⟨g2, 0, none⟩) M.length c2) M.length (flat (M.set 0 ⟨a, b⟩)) := by
            have h1 := ((O.stored 0 (.int .i64 a)).1.stored 1 (.int .i64 b)).1
            have e := flat_set M 0 ⟨a, b⟩ (by omega)
            rw [← e]; exact h1
          have C2 := (C.set (g := g2) (by omega) (by omega) 0 (.int .i64 a)).set (g := g2) (by omega) (by omega) 1 (.int .i64 b)
          have G2 := grown_set (grown_set GW (g := g2) hgg 0 (.int .i64 a)) (g := g2) hgg 1 (.int .i64 b)
          have hlp : 0 < M.length := by omega
          go_wp2
          go_ret
          exact ⟨M.set 0 ⟨a, b⟩, g2, c2, by rw [List.length_set]; omega, by rw [List.length_set]; omega, by rw [List.length_set] <;> rfl, by rw [List.length_set]; exact O2, C2.le (by omega), G2⟩
        by_cases hz1' : z = 1
        · subst hz1'
          have hcp := own_cap O
          have k1 : 1 ≤ M.length := by omega
          have k2 : 1 ≤ c2 := by omega
          have k3 : (1 : Int) ≤ M.length := by omega
          go_wp2
          go_ret
          have O2 := own_take O k1
          exact ⟨M.take 1, g2, c2, by rw [List.length_take]; omega, by rw [List.length_take]; omega, by rw [List.length_take, Nat.min_eq_left k1] <;> rfl, by rw [List.length_take, Nat.min_eq_left k1]; exact O2, C.le (by omega), GW⟩
        by_cases hz2' : z = 2
        · subst hz2'
          clear O
          go_wp2_with fail
          have O := World.ownsRow_lit u65 #[.int .i64 0, .int .i64 0] 1 (e := 95) (size := 2) (base := w.heap.size) (by omega) (by unfold maxLen; omega) rfl
          replace C := C.alloc (.cells #[.int .i64 0, .int .i64 0] 95)
          replace GW := grown_trans GW (grown_alloc _ (.cells #[.int .i64 0, .int .i64 0] 95) _)
          go_loopw [3] (fun oo wr => ∃ (L : List R) (g c : Nat), 1 ≤ L.length ∧ L.length ≤ 12 ∧ oo = .slice (some ⟨g, 0, none⟩) L.length c ∧ wr.ownsRow w.heap.size 95 2 (.slice (some ⟨g, 0, none⟩) L.length c) L.length (flat L) ∧ Cu B zs p (K + 400 + 2 * L.length) wr ∧ w.grownBy wr (some p)) (fun oo _ => 13 - lenOf oo)
          case atStart => exact ⟨[⟨0, 0⟩], _, _, by simp, by simp, rfl, (by simpa [flat, R.cells] using O), C.le (by omega), GW⟩
          case round =>
            clear O C GW
            obtain ⟨L, g, c, hl0, hl1, rfl, O, C, GW⟩ := hrel
            have zwr := GW.size
            try go_wp2_with fail
            refine (pick_d B zs p (K + 400 + 2 * L.length) _ 2 C (by omega) (by omega) (by omega)).mono ?_
            rintro e u86 ⟨y, y_r, rfl, C1, G⟩
            have yu86 : wr.heap.size ≤ u86.heap.size := G.size
            replace O := own_grown O G (fun k hk => by injection hk with hk; omega)
            replace GW := grown_trans GW G
            replace C := C1
            clear C1 G
            have zu86 := GW.size
            have e0 : IntKind.i64.wrap (11 + y) = 11 + y := IntWalk.i64_in _ (by omega)
            by_cases hlt : (L.length : Int) < 11 + y
            · have hlt' : decide ((L.length : Int) < 11 + y) = true := decide_eq_true hlt
              have e2 : Int.tmod (L.length : Int) 3 = (L.length : Int) % 3 := Int.tmod_eq_emod_of_nonneg (by omega)
              have e3 : IntKind.i64.wrap (100 * (L.length : Int)) = 100 * (L.length : Int) := IntWalk.i64_in _ (by omega)
              have e4 : IntKind.i64.wrap (50 * ((L.length : Int) % 3)) = 50 * ((L.length : Int) % 3) := IntWalk.i64_in _ (by omega)
              obtain ⟨v, hv⟩ : ∃ v, u86 = v := ⟨_, rfl⟩
              rw [hv] at O C GW zu86 yu86 ⊢
              clear hv
              go_wp2_with (at_builtin; go_must (refine wpList_append_own _ rfl _ _ 37 rfl w.heap.size 95 i0 _ 2 16 Try.underlying37 hi0 hz0 HI1.out HI.out rfl (by decide) _ L.length _ rfl (O.alloc _) ⟨v.heap.size, 0, none⟩ 1 1 [.int .i64 (100 * (L.length : Int)), .int .i64 (50 * ((L.length : Int) % 3))] rfl rfl (new2 v ⟨100 * (L.length : Int), 50 * ((L.length : Int) % 3)⟩) (one2 ⟨100 * (L.length : Int), 50 * ((L.length : Int) % 3)⟩) (by unfold maxLen; omega) (by omega) (by rw [size_alloc']; omega) ?_; intro v' w11 hown1 hgrow hnil))
              have hown2 : w11.ownsRow w.heap.size 95 2 v' (L ++ [(⟨100 * (L.length : Int), 50 * ((L.length : Int) % 3)⟩ : R)]).length (flat (L ++ [(⟨100 * (L.length : Int), 50 * ((L.length : Int) % 3)⟩ : R)])) := by
                rw [flat_snoc, List.length_append]
                exact hown1
              obtain ⟨g3, c3, rfl⟩ := own_some0 hown2 (fun e => by have := (hnil.1 e).2; omega)
              have hro : ∀ k, (Value.slice (some ⟨g, 0, none⟩) L.length c).ownBlock = some k → w.heap.size ≤ k := fun k hk => own_ge O k hk
              replace C := (C.alloc (.cells #[.int .i64 (100 * (L.length : Int)), .int .i64 (50 * ((L.length : Int) % 3))] 95)).grown hgrow (fun k hk => by have := hro k hk; omega)
              replace GW := gw_grown (grown_trans GW (grown_alloc _ (.cells #[.int .i64 (100 * (L.length : Int)), .int .i64 (50 * ((L.length : Int) % 3))] 95) _)) hgrow hro
              clear O
              have O := hown2
              clear hown1 hown2 hgrow hnil hro
              go_wp2
              go_roundw
              case rel => exact ⟨L ++ [⟨100 * (L.length : Int), 50 * ((L.length : Int) % 3)⟩], g3, c3, by simp, by simp; omega, by simp, O, C.le (by simp; omega), GW⟩
              case measure => simp [lenOf]; omega
            · have hlt' : decide ((L.length : Int) < 11 + y) = false := decide_eq_false hlt
              obtain ⟨v, hv⟩ : ∃ v, u86 = v := ⟨_, rfl⟩
              rw [hv] at O C GW zu86 yu86 ⊢
              clear hv
              go_wp2_with (at_builtin; go_must (refine wpList_append_own _ rfl _ _ 37 rfl w.heap.size 95 i0 _ 2 16 Try.underlying37 hi0 hz0 HI1.out HI.out rfl (by decide) _ L.length _ rfl (O.alloc _) ⟨v.heap.size, 0, none⟩ 1 1 [.int .i64 (1440), .int .i64 (0)] rfl rfl (new2 v ⟨1440, 0⟩) (one2 ⟨1440, 0⟩) (by unfold maxLen; omega) (by omega) (by rw [size_alloc']; omega) ?_; intro v' w11 hown1 hgrow hnil))
              have hown2 : w11.ownsRow w.heap.size 95 2 v' (L ++ [(⟨1440, 0⟩ : R)]).length (flat (L ++ [(⟨1440, 0⟩ : R)])) := by
                rw [flat_snoc, List.length_append]
                exact hown1
              obtain ⟨g3, c3, rfl⟩ := own_some0 hown2 (fun e => by have := (hnil.1 e).2; omega)
              have hro : ∀ k, (Value.slice (some ⟨g, 0, none⟩) L.length c).ownBlock = some k → w.heap.size ≤ k := fun k hk => own_ge O k hk
              replace C := (C.alloc (.cells #[.int .i64 (1440), .int .i64 (0)] 95)).grown hgrow (fun k hk => by have := hro k hk; omega)
              replace GW := gw_grown (grown_trans GW (grown_alloc _ (.cells #[.int .i64 (1440), .int .i64 (0)] 95) _)) hgrow hro
              clear O
              have O := hown2
              clear hown1 hown2 hgrow hnil hro
              go_wp2
              go_ret
              exact ⟨L ++ [⟨1440, 0⟩], g3, c3, by simp, by simp; omega, by simp, O, C.le (by omega), GW⟩
        go_wp2
        go_ret
        exact ⟨M, g2, c2, by omega, by omega, rfl, O, C.le (by omega), GW⟩
    · have hp0 : decide ((0 : Int) < n) = false := decide_eq_false (by omega)
      try go_wp2_with fail
      refine (among_d B zs p (K + 6 + 4 * (4 - n)) _ _ 4 [-200, 0, 100, 200] (C.alloc (.cells #[.int .i64 (-200), .int .i64 0, .int .i64 100, .int .i64 200] 3)) (by omega) (lst_at wr _ _ (by omega)) (by omega) (by simp) (by simp)).mono ?_
      rintro e u44 ⟨hb, hx, rfl, C1, G⟩
      have hb_r : -200 ≤ hb ∧ hb ≤ 200 := by simp at hx; omega
      clear hx
      have yu44 : wr.heap.size ≤ u44.heap.size := (by have := G.size; simp only [size_alloc'] at this; omega)
      replace O := own_grown (own_keep O (al (Below.refl _ _) (o := (.cells #[.int .i64 (-200), .int .i64 0, .int .i64 100, .int .i64 200] 3)))) G (fun k hk => by injection hk with hk; omega)
      replace GW := grown_trans (grown_trans GW (grown_alloc _ (.cells #[.int .i64 (-200), .int .i64 0, .int .i64 100, .int .i64 200] 3) _)) G
      replace C := C1
      clear C1 G
      have zu44 := GW.size
      obtain ⟨v, hv⟩ : ∃ v, u44 = v := ⟨_, rfl⟩
      rw [hv] at O C GW zu44 yu44 ⊢
      clear hv
      go_wp2_with (at_builtin; go_must (refine wpList_append_own _ rfl _ _ 37 rfl w.heap.size 95 i0 _ 2 16 Try.underlying37 hi0 hz0 HI1.out HI.out rfl (by decide) _ L.length _ rfl (O.alloc _) ⟨v.heap.size, 0, none⟩ 1 1 [.int .i64 (1440), .int .i64 (hb)] rfl rfl (new2 v ⟨1440, hb⟩) (one2 ⟨1440, hb⟩) (by unfold maxLen; omega) (by omega) (by rw [size_alloc']; omega) ?_; intro v' w10 hown1 hgrow hnil))
      have hown2 : w10.ownsRow w.heap.size 95 2 v' (L ++ [(⟨1440, hb⟩ : R)]).length (flat (L ++ [(⟨1440, hb⟩ : R)])) := by
        rw [flat_snoc, List.length_append]
        exact hown1
      obtain ⟨g2, c2, rfl⟩ := own_some0 hown2 (fun e => by have := (hnil.1 e).2; omega)
      have hro : ∀ k, (Value.slice (some ⟨g, 0, none⟩) L.length c).ownBlock = some k → w.heap.size ≤ k := fun k hk => own_ge O k hk
      replace C := (C.alloc (.cells #[.int .i64 (1440), .int .i64 (hb)] 95)).grown hgrow (fun k hk => by have := hro k hk; omega)
      replace GW := gw_grown (grown_trans GW (grown_alloc _ (.cells #[.int .i64 (1440), .int .i64 (hb)] 95) _)) hgrow hro
      clear O
      have O := hown2
      clear hown1 hown2 hgrow hnil hro
      have hl1 : (L ++ [(⟨1440, hb⟩ : R)]).length = L.length + 1 := by simp
      obtain ⟨M, hM⟩ : ∃ M, L ++ [(⟨1440, hb⟩ : R)] = M := ⟨_, rfl⟩
      rw [hM] at O hl1 ⊢
      have hl2 : 2 ≤ M.length := by omega
      have hl3 : M.length ≤ 6 := by omega
      clear hl1 hM
      have zw10 := GW.size
      try go_wp2_with fail
      refine (pick_d B zs p (K + 6 + 4 * (4 - n) + 2) _ 32 C (by omega) (by omega) (by omega)).mono ?_
      rintro e u65 ⟨z, z_r, rfl, C1, G⟩
      have yu65 : w10.heap.size ≤ u65.heap.size := G.size
      replace O := own_grown O G (fun k hk => by injection hk with hk; omega)
      replace GW := grown_trans GW G
      replace C := C1
      clear C1 G
      have zu65 := GW.size
      by_cases hz0' : z = 0
      · subst hz0'
        try go_wp2_with fail
        refine (among_d B zs p (K + 6 + 4 * (4 - n) + 2 + 2) _ _ 2 [0, 1] (C.alloc (.cells #[.int .i64 0, .int .i64 1] 3)) (by omega) (lst_at u65 _ _ (by omega)) (by omega) (by simp) (by simp)).mono ?_
        rintro e u66 ⟨a, hx, rfl, C1, G⟩
        have a_r : 0 ≤ a ∧ a ≤ 1 := by simp at hx; omega
        clear hx
        have yu66 : u65.heap.size ≤ u66.heap.size := (by have := G.size; simp only [size_alloc'] at this; omega)
        replace O := own_grown (own_keep O (al (Below.refl _ _) (o := (.cells #[.int .i64 0, .int .i64 1] 3)))) G (fun k hk => by injection hk with hk; omega)
        replace GW := grown_trans (grown_trans GW (grown_alloc _ (.cells #[.int .i64 0, .int .i64 1] 3) _)) G
        replace C := C1
        clear C1 G
        have zu66 := GW.size
        try go_wp2_with fail
        refine (among_d B zs p (K + 6 + 4 * (4 - n) + 2 + 2 + 2) _ _ 2 [501, -501] (C.alloc (.cells #[.int .i64 501, .int .i64 (-501)] 3)) (by omega) (lst_at u66 _ _ (by omega)) (by omega) (by simp) (by simp)).mono ?_
        rintro e u67 ⟨b, hx, rfl, C1, G⟩
        have b_r : -501 ≤ b ∧ b ≤ 501 := by simp at hx; omega
        clear hx
        have yu67 : u66.heap.size ≤ u67.heap.size := (by have := G.size; simp only [size_alloc'] at this; omega)
        replace O := own_grown (own_keep O (al (Below.refl _ _) (o := (.cells #[.int .i64 501, .int .i64 (-501)] 3)))) G (fun k hk => by injection hk with hk; omega)
        replace GW := grown_trans (grown_trans GW (grown_alloc _ (.cells #[.int .i64 501, .int .i64 (-501)] 3) _)) G
        replace C := C1
        clear C1 G
        have zu67 := GW.size
        have hgg := own_ge O g2 (by simp [Value.ownBlock])
        have s0 := O.cellAt 0 (by omega)
        have s1 := O.cellAt 1 (by omega)
        have f0 := O.frozenAt 0
        have f1 := O.frozenAt 1
        obtain ⟨m0, hm0⟩ : ∃ m, M[0]'(by omega) = m := ⟨_, rfl⟩
        rw [show (flat M)[0]? = some (.int .i64 m0.f0) by rw [← hm0]; exact flat_0 M 0 (by omega)] at s0
        rw [show (flat M)[1]? = some (.int .i64 m0.f1) by rw [← hm0]; exact flat_1 M 0 (by omega)] at s1
        obtain ⟨u, hu⟩ : ∃ u, u67 = u := ⟨_, rfl⟩
        rw [hu] at O C GW s0 s1 f0 f1 zu67 yu67 ⊢
        clear hu hm0
        have O2 : ((u.setCell ⟨g2, 0, none⟩ (.int .i64 a)).setCell ⟨g2, 1, none⟩ (.int .i64 b)).ownsRow w.heap.size 95 2 (.slice (some ⟨g2, 0, none⟩) M.length c2) M.length (flat (M.set 0 ⟨a, b⟩)) := by
          have h1 := ((O.stored 0 (.int .i64 a)).1.stored 1 (.int .i64 b)).1
          have e := flat_set M 0 ⟨a, b⟩ (by omega)
          rw [← e]; exact h1
        have C2 := (C.set (g := g2) (by omega) (by omega) 0 (.int .i64 a)).set (g := g2) (by omega) (by omega) 1 (.int .i64 b)
        have G2 := grown_set (grown_set GW (g := g2) hgg 0 (.int .i64 a)) (g := g2) hgg 1 (.int .i64 b)
        have hlp : 0 < M.length := by omega
        go_wp2
        go_ret
        exact ⟨M.set 0 ⟨a, b⟩, g2, c2, by rw [List.length_set]; omega, by rw [List.length_set]; omega, by rw [List.length_set] <;> rfl, by rw [List.length_set]; exact O2, C2.le (by omega), G2⟩
      by_cases hz1' : z = 1
      · subst hz1'
        have hcp := own_cap O
        have k1 : 1 ≤ M.length := by omega
        have k2 : 1 ≤ c2 := by omega
        have k3 : (1 : Int) ≤ M.length := by omega
        go_wp2
        go_ret
        have O2 := own_take O k1
        exact ⟨M.take 1, g2, c2, by rw [List.length_take]; omega, by rw [List.length_take]; omega, by rw [List.length_take, Nat.min_eq_left k1] <;> rfl, by rw [List.length_take, Nat.min_eq_left k1]; exact O2, C.le (by omega), GW⟩
      by_cases hz2' : z = 2
      · subst hz2'
        clear O
        go_wp2_with fail
        have O := World.ownsRow_lit u65 #[.int .i64 0, .int .i64 0] 1 (e := 95) (size := 2) (base := w.heap.size) (by omega) (by unfold maxLen; omega) rfl
        replace C := C.alloc (.cells #[.int .i64 0, .int .i64 0] 95)
        replace GW := grown_trans GW (grown_alloc _ (.cells #[.int .i64 0, .int .i64 0] 95) _)
        go_loopw [3] (fun oo wr => ∃ (L : List R) (g c : Nat), 1 ≤ L.length ∧ L.length ≤ 12 ∧ oo = .slice (some ⟨g, 0, none⟩) L.length c ∧ wr.ownsRow w.heap.size 95 2 (.slice (some ⟨g, 0, none⟩) L.length c) L.length (flat L) ∧ Cu B zs p (K + 400 + 2 * L.length) wr ∧ w.grownBy wr (some p)) (fun oo _ => 13 - lenOf oo)
        case atStart => exact ⟨[⟨0, 0⟩], _, _, by simp, by simp, rfl, (by simpa [flat, R.cells] using O), C.le (by omega), GW⟩
        case round =>
          clear O C GW
          obtain ⟨L, g, c, hl0, hl1, rfl, O, C, GW⟩ := hrel
          have zwr := GW.size
          try go_wp2_with fail
          refine (pick_d B zs p (K + 400 + 2 * L.length) _ 2 C (by omega) (by omega) (by omega)).mono ?_
          rintro e u86 ⟨y, y_r, rfl, C1, G⟩
          have yu86 : wr.heap.size ≤ u86.heap.size := G.size
          replace O := own_grown O G (fun k hk => by injection hk with hk; omega)
          replace GW := grown_trans GW G
          replace C := C1
          clear C1 G
          have zu86 := GW.size
          have e0 : IntKind.i64.wrap (11 + y) = 11 + y := IntWalk.i64_in _ (by omega)
          by_cases hlt : (L.length : Int) < 11 + y
          · have hlt' : decide ((L.length : Int) < 11 + y) = true := decide_eq_true hlt
            have e2 : Int.tmod (L.length : Int) 3 = (L.length : Int) % 3 := Int.tmod_eq_emod_of_nonneg (by omega)
            have e3 : IntKind.i64.wrap (100 * (L.length : Int)) = 100 * (L.length : Int) := IntWalk.i64_in _ (by omega)
            have e4 : IntKind.i64.wrap (50 * ((L.length : Int) % 3)) = 50 * ((L.length : Int) % 3) := IntWalk.i64_in _ (by omega)
            obtain ⟨v, hv⟩ : ∃ v, u86 = v := ⟨_, rfl⟩
            rw [hv] at O C GW zu86 yu86 ⊢
            clear hv
            go_wp2_with (at_builtin; go_must (refine wpList_append_own _ rfl _ _ 37 rfl w.heap.size 95 i0 _ 2 16 Try.underlying37 hi0 hz0 HI1.out HI.out rfl (by decide) _ L.length _ rfl (O.alloc _) ⟨v.heap.size, 0, none⟩ 1 1 [.int .i64 (100 * (L.length : Int)), .int .i64 (50 * ((L.length : Int) % 3))] rfl rfl (new2 v ⟨100 * (L.length : Int), 50 * ((L.length : Int) % 3)⟩) (one2 ⟨100 * (L.length : Int), 50 * ((L.length : Int) % 3)⟩) (by unfold maxLen; omega) (by omega) (by rw [size_alloc']; omega) ?_; intro v' w11 hown1 hgrow hnil))
            have hown2 : w11.ownsRow w.heap.size 95 2 v' (L ++ [(⟨100 * (L.length : Int), 50 * ((L.length : Int) % 3)⟩ : R)]).length (flat (L ++ [(⟨100 * (L.length : Int), 50 * ((L.length : Int) % 3)⟩ : R)])) := by
              rw [flat_snoc, List.length_append]
              exact hown1
            obtain ⟨g3, c3, rfl⟩ := own_some0 hown2 (fun e => by have := (hnil.1 e).2; omega)
            have hro : ∀ k, (Value.slice (some ⟨g, 0, none⟩) L.length c).ownBlock = some k → w.heap.size ≤ k := fun k hk => own_ge O k hk
            replace C := (C.alloc (.cells #[.int .i64 (100 * (L.length : Int)), .int .i64 (50 * ((L.length : Int) % 3))] 95)).grown hgrow (fun k hk => by have := hro k hk; omega)
            replace GW := gw_grown (grown_trans GW (grown_alloc _ (.cells #[.int .i64 (100 * (L.length : Int)), .int .i64 (50 * ((L.length : Int) % 3))] 95) _)) hgrow hro
            clear O
            have O := hown2
            clear hown1 hown2 hgrow hnil hro
            go_wp2
            go_roundw
            case rel => exact ⟨L ++ [⟨100 * (L.length : Int), 50 * ((L.length : Int) % 3)⟩], g3, c3, by simp, by simp; omega, by simp, O, C.le (by simp; omega), GW⟩
            case measure => simp [lenOf]; omega
          · have hlt' : decide ((L.length : Int) < 11 + y) = false := decide_eq_false hlt
            obtain ⟨v, hv⟩ : ∃ v, u86 = v := ⟨_, rfl⟩
            rw [hv] at O C GW zu86 yu86 ⊢
            clear hv
            go_wp2_with (at_builtin; go_must (refine wpList_append_own _ rfl _ _ 37 rfl w.heap.size 95 i0 _ 2 16 Try.underlying37 hi0 hz0 HI1.out HI.out rfl (by decide) _ L.length _ rfl (O.alloc _) ⟨v.heap.size, 0, none⟩ 1 1 [.int .i64 (1440), .int .i64 (0)] rfl rfl (new2 v ⟨1440, 0⟩) (one2 ⟨1440, 0⟩) (by unfold maxLen; omega) (by omega) (by rw [size_alloc']; omega) ?_; intro v' w11 hown1 hgrow hnil))
            have hown2 : w11.ownsRow w.heap.size 95 2 v' (L ++ [(⟨1440, 0⟩ : R)]).length (flat (L ++ [(⟨1440, 0⟩ : R)])) := by
              rw [flat_snoc, List.length_append]
              exact hown1
            obtain ⟨g3, c3, rfl⟩ := own_some0 hown2 (fun e => by have := (hnil.1 e).2; omega)
            have hro : ∀ k, (Value.slice (some ⟨g, 0, none⟩) L.length c).ownBlock = some k → w.heap.size ≤ k := fun k hk => own_ge O k hk
            replace C := (C.alloc (.cells #[.int .i64 (1440), .int .i64 (0)] 95)).grown hgrow (fun k hk => by have := hro k hk; omega)
            replace GW := gw_grown (grown_trans GW (grown_alloc _ (.cells #[.int .i64 (1440), .int .i64 (0)] 95) _)) hgrow hro
            clear O
            have O := hown2
            clear hown1 hown2 hgrow hnil hro
            go_wp2
            go_ret
            exact ⟨L ++ [⟨1440, 0⟩], g3, c3, by simp, by simp; omega, by simp, O, C.le (by omega), GW⟩
      go_wp2
      go_ret
      exact ⟨M, g2, c2, by omega, by omega, rfl, O, C.le (by omega), GW⟩
theorem height_d (B : Nat) (zs : List Int) (p K : Nat) (w : World) (C : Cu B zs p K w) (hK : K ≤ 800000000) :
    Calls Try.prog 81 #[.pointer (some ⟨p, 0, none⟩)] w fun e w' => ∃ x : Int, (-501 ≤ x ∧ x ≤ 501) ∧ e = .returned (.int .i64 x) ∧ Cu B zs p (K + 2) w' ∧ w.grownBy w' (some p) := by
  go_enter Try.func81, Try.ntmps81
  have hp := C.lt
  have hB := C.base
  have GW : w.grownBy w (some p) := grown_refl w _
  try go_wp2_with fail
  refine (among_d B zs p (K) _ _ 12 [0, 0, 50, 100, -100, 150, 200, 300, 500, -500, 501, -501] (C.alloc (.cells #[.int .i64 0, .int .i64 0, .int .i64 50, .int .i64 100, .int .i64 (-100), .int .i64 150, .int .i64 200, .int .i64 300, .int .i64 500, .int .i64 (-500), .int .i64 501, .int .i64 (-501)] 3)) (by omega) (lst_at w _ _ (by omega)) (by omega) (by simp) (by simp)).mono ?_
  rintro e u1 ⟨x, hx, rfl, C1, G⟩
  have x_r : -501 ≤ x ∧ x ≤ 501 := by simp at hx; omega
  clear hx
  have yu1 : w.heap.size ≤ u1.heap.size := (by have := G.size; simp only [size_alloc'] at this; omega)
  replace GW := grown_trans (grown_trans GW (grown_alloc _ (.cells #[.int .i64 0, .int .i64 0, .int .i64 50, .int .i64 100, .int .i64 (-100), .int .i64 150, .int .i64 200, .int .i64 300, .int .i64 500, .int .i64 (-500), .int .i64 501, .int .i64 (-501)] 3) _)) G
  replace C := C1
  clear C1 G
  have zu1 := GW.size
  go_wp2
  go_ret
  exact ⟨x, x_r, rfl, C, GW⟩
end Go.Proofs.Ytbbnbkdglihhhaa.DTide
