/- The draws of chapter 8: a series. Made by tools/mk_dlad.py out of DSer. -/
import Derived.Test.YtngominkeammiaaDr
import Derived.Test.YtngominkeammiaaDraws2
import Derived.Test.YtngominkeammiaaSerI
namespace Go.Proofs.Ytngominkeammiaa.DSerI
open Go.RowKit Go.Proofs.Ytngominkeammiaa.Mem Go.Proofs.Ytngominkeammiaa.Base Go.Proofs.Ytngominkeammiaa.Draw Go.Proofs.Ytngominkeammiaa.Boxes Go.Proofs.Ytngominkeammiaa.Keep Go.Proofs.Ytngominkeammiaa.Dr Go.Proofs.Ytngominkeammiaa.SerI
open Go.Proofs.Ytngominkeammiaa.SBasin hiding RPost rpost
set_option linter.unusedVariables false
set_option maxRecDepth 100000
def Lot (B : Nat) (zs : List Int) (p K : Nat) (w : World) (e : Ending) (w' : World) : Prop :=
  ∃ (L : List R) (g c : Nat), L.length ≤ 9 ∧ e = .returned (.slice (some ⟨g, 0, none⟩) L.length c) ∧ w'.ownsRow w.heap.size 94 3 (.slice (some ⟨g, 0, none⟩) L.length c) L.length (flat L) ∧ Cu B zs p K w' ∧ w.grownBy w' (some p)
theorem own_some0 {w : World} {base : Nat} {e : TypeId} {size n : Nat} {v : Value} {xs : List Value} (h : w.ownsRow base e size v n xs) (hv : v ≠ .slice none 0 0) : ∃ g c, v = .slice (some ⟨g, 0, none⟩) n c := by
  rcases h.2 with ⟨h1, _⟩ | ⟨g, cap, cur, h1, _⟩
  · exact absurd h1 hv
  · exact ⟨g, cap, h1⟩
theorem cell_add3 (w : World) (b o j : Nat) : w.cell? (Addr.add ⟨b, o, none⟩ j) = w.cell? ⟨b, o + j, none⟩ := by
  unfold Addr.add; split
  · rename_i h; subst h; rfl
  · rfl
theorem new3 (W : World) (a b c : Int) : ∀ j u, [Value.int .i64 a, .int .i64 b, .int .i64 c][j]? = some u →
    (W.alloc (.cells #[.int .i64 a, .int .i64 b, .int .i64 c] 94)).cell? ((⟨W.heap.size, 0, none⟩ : Addr).add j) = some u := by
  intro j u hu
  rw [cell_add3, Nat.zero_add, World.cell?_alloc_at _ _ _ _ rfl]
  simpa using hu
theorem one3 (a b c : Int) : ∀ u ∈ [Value.int .i64 a, .int .i64 b, .int .i64 c], u.oneCell' = true := by
  intro u hu; simp at hu; rcases hu with rfl | rfl | rfl <;> rfl
theorem flat_snoc (l : List R) (a b c : Int) : flat (l ++ [⟨a, b, c⟩]) = flat l ++ [Value.int .i64 a, .int .i64 b, .int .i64 c] := by simp [flat, R.cells]
theorem put_area {w : World} {base g c : Nat} {l : List R} (O : Own w base g c l) (h0 : 0 < l.length) (a : Int) :
    Own (w.setCell ⟨g, 0, none⟩ (.int .i64 a)) base g c (l.set 0 ⟨a, l[0].f1, l[0].f2⟩) := by
  have h := (World.ownsRow.stored O 0 (.int .i64 a)).1
  have f := flat_set l 0 ⟨a, l[0].f1, l[0].f2⟩ h0
  simp only [Nat.zero_mul, Nat.zero_add] at f
  have e1 : ((flat l).set 0 (.int .i64 a)).set 1 (.int .i64 l[0].f1) = (flat l).set 0 (.int .i64 a) := set_self (by rw [List.getElem?_set_ne (by omega)]; simpa using flat_1 l 0 h0)
  have e2 : ((flat l).set 0 (.int .i64 a)).set 2 (.int .i64 l[0].f2) = (flat l).set 0 (.int .i64 a) := set_self (by rw [List.getElem?_set_ne (by omega)]; simpa using flat_2 l 0 h0)
  rw [e1, e2] at f
  rw [f] at h
  unfold Own; rw [List.length_set]; exact h
theorem put_brine {w : World} {base g c : Nat} {l : List R} (O : Own w base g c l) (h0 : 0 < l.length) (a b : Int) :
    Own ((w.setCell ⟨g, 1, none⟩ (.int .i64 a)).setCell ⟨g, 2, none⟩ (.int .i64 b)) base g c (l.set 0 ⟨l[0].f0, a, b⟩) := by
  have h := O.put h0 rfl a b
  simpa using h
theorem empty3 (w : World) {base : Nat} (hb : base ≤ w.heap.size) : (w.alloc (.cells #[] 94)).ownsRow base 94 3 (.slice (some ⟨w.heap.size, 0, none⟩) 0 0) 0 (flat []) := by
  have := World.ownsRow_lit w #[] 0 (e := 94) (size := 3) (base := base) hb (by unfold maxLen; omega) rfl
  simpa [flat] using this
def slen : Value → Nat
  | .slice _ n _ => n
  | _ => 0
set_option maxHeartbeats 3200000 in
theorem series_d (B : Nat) (zs : List Int) (p K : Nat) (w : World) (C : Cu B zs p K w) (hK : K ≤ 700000000) :
    Calls Try.prog 70 #[.pointer (some ⟨p, 0, none⟩)] w (Lot B zs p (K + 300) w) := by
  obtain ⟨i0, hi0, hz0, hz1, hz2⟩ := info_parts info_T
  have HI := Lib.hid hz2; clear hz2
  have HI1 := Lib.hid hz1; clear hz1
  go_enter Try.func70, Try.ntmps70
  have hp := C.lt
  have hB := C.base
  have GW : w.grownBy w (some p) := grown_refl w _
  go_wp2_with fail
  have O := SerI.empty_own (Below.refl _ w)
  replace C := C.alloc (.cells #[] 94)
  replace GW := grown_trans GW (grown_alloc _ (.cells #[] 94) _)
  have sv0 := size_alloc' w (.cells #[] 94)
  generalize w.alloc (.cells #[] 94) = v0 at C GW O sv0 ⊢
  have zv0 := GW.size
  try go_wp2_with fail
  refine (pick_d B zs p (K) _ 5 C (by omega) (by omega) (by omega)).mono ?_
  rintro e u21 ⟨n0, n0_r, rfl, C1, G⟩
  have yu21 : v0.heap.size ≤ u21.heap.size := G.size
  replace O := own_grown O G (fun k hk => by injection hk with hk; omega)
  replace GW := grown_trans GW G
  replace C := C1
  clear C1 G
  have zu21 := GW.size
  obtain ⟨m, rfl⟩ : ∃ m : Nat, n0 = m := ⟨n0.toNat, by omega⟩
  have e1 : IntKind.i64.wrap (1 + (m : Int)) = 1 + m := IntWalk.i64_in _ (by omega)
  have hm4 : m < 5 := by omega
  go_wp2_with fail
  go_loopw [3, 4] (fun oo nn wr => ∃ (n : Nat) (L : List R) (g c : Nat), nn = .int .i64 n ∧ oo = .slice (some ⟨g, 0, none⟩) L.length c ∧ L.length + n = m + 1 ∧ wr.ownsRow w.heap.size 94 3 (.slice (some ⟨g, 0, none⟩) L.length c) L.length (flat L) ∧ Cu B zs p (K + 2 + 6 * L.length) wr ∧ w.grownBy wr (some p)) (fun _ nn _ => (intOf nn).toNat)
  case atStart => exact ⟨m + 1, [], _, _, by rw [show ((m + 1 : Nat) : Int) = 1 + (m : Int) by omega] <;> rfl, rfl, by simp, O, C.le (by simp), GW⟩
  case round =>
    clear O C GW zv0
    obtain ⟨n, L, g, c, rfl, rfl, hL, O, C, GW⟩ := hrel
    have zwr := GW.size
    by_cases hpos : 0 < n
    · have hp0 : decide ((0 : Int) < n) = true := decide_eq_true (by omega)
      try go_wp2_with fail
      refine (among_d B zs p (K + 2 + 6 * L.length) _ _ 5 [1, 10, 50, 100, 1000] (C.alloc (.cells #[.int .i64 1, .int .i64 10, .int .i64 50, .int .i64 100, .int .i64 1000] 3)) (by omega) (lst_at wr _ _ (by omega)) (by omega) (by simp) (by simp)).mono ?_
      rintro e u42 ⟨a, hx, rfl, C1, G⟩
      have a_r : 1 ≤ a ∧ a ≤ 1000 := by simp at hx; omega
      clear hx
      have yu42 : wr.heap.size ≤ u42.heap.size := (by have := G.size; simp only [size_alloc'] at this; omega)
      replace O := own_grown (own_keep O (al (Below.refl _ _) (o := (.cells #[.int .i64 1, .int .i64 10, .int .i64 50, .int .i64 100, .int .i64 1000] 3)))) G (fun k hk => by injection hk with hk; omega)
      replace GW := grown_trans (grown_trans GW (grown_alloc _ (.cells #[.int .i64 1, .int .i64 10, .int .i64 50, .int .i64 100, .int .i64 1000] 3) _)) G
      replace C := C1
      clear C1 G
      have zu42 := GW.size
      try go_wp2_with fail
      refine (among_d B zs p (K + 2 + 6 * L.length + 2) _ _ 6 [0, 0, 90, 500, 1000, 7000] (C.alloc (.cells #[.int .i64 0, .int .i64 0, .int .i64 90, .int .i64 500, .int .i64 1000, .int .i64 7000] 3)) (by omega) (lst_at u42 _ _ (by omega)) (by omega) (by simp) (by simp)).mono ?_
      rintro e u43 ⟨b, hx, rfl, C1, G⟩
      have b_r : 0 ≤ b ∧ b ≤ 7000 := by simp at hx; omega
      clear hx
      have yu43 : u42.heap.size ≤ u43.heap.size := (by have := G.size; simp only [size_alloc'] at this; omega)
      replace O := own_grown (own_keep O (al (Below.refl _ _) (o := (.cells #[.int .i64 0, .int .i64 0, .int .i64 90, .int .i64 500, .int .i64 1000, .int .i64 7000] 3)))) G (fun k hk => by injection hk with hk; omega)
      replace GW := grown_trans (grown_trans GW (grown_alloc _ (.cells #[.int .i64 0, .int .i64 0, .int .i64 90, .int .i64 500, .int .i64 1000, .int .i64 7000] 3) _)) G
      replace C := C1
      clear C1 G
      have zu43 := GW.size
      try go_wp2_with fail
      refine (among_d B zs p (K + 2 + 6 * L.length + 2 + 2) _ _ 5 [0, 10, 35, 100, 300] (C.alloc (.cells #[.int .i64 0, .int .i64 10, .int .i64 35, .int .i64 100, .int .i64 300] 3)) (by omega) (lst_at u43 _ _ (by omega)) (by omega) (by simp) (by simp)).mono ?_
      rintro e u44 ⟨q, hx, rfl, C1, G⟩
      have q_r : 0 ≤ q ∧ q ≤ 300 := by simp at hx; omega
      clear hx
      have yu44 : u43.heap.size ≤ u44.heap.size := (by have := G.size; simp only [size_alloc'] at this; omega)
      replace O := own_grown (own_keep O (al (Below.refl _ _) (o := (.cells #[.int .i64 0, .int .i64 10, .int .i64 35, .int .i64 100, .int .i64 300] 3)))) G (fun k hk => by injection hk with hk; omega)
      replace GW := grown_trans (grown_trans GW (grown_alloc _ (.cells #[.int .i64 0, .int .i64 10, .int .i64 35, .int .i64 100, .int .i64 300] 3) _)) G
      replace C := C1
      clear C1 G
      have zu44 := GW.size
      obtain ⟨v, hv⟩ : ∃ v, u44 = v := ⟨_, rfl⟩
      rw [hv] at O C GW zu44 yu44 ⊢
      clear hv
      go_wp2_with (at_builtin; go_must (refine wpList_append_own _ rfl _ _ 40 rfl w.heap.size 94 i0 _ 3 24 Try.underlying40 hi0 hz0 HI1.out HI.out rfl (by decide) _ L.length _ rfl (O.alloc _) ⟨v.heap.size, 0, none⟩ 1 1 [.int .i64 a, .int .i64 b, .int .i64 q] rfl rfl (new3 v a b q) (one3 a b q) (by unfold maxLen; omega) (by omega) (by rw [size_alloc']; omega) ?_; intro v' w10 hown1 hgrow hnil))
      have hown2 : w10.ownsRow w.heap.size 94 3 v' (L ++ [(⟨a, b, q⟩ : R)]).length (flat (L ++ [(⟨a, b, q⟩ : R)])) := by
        rw [flat_snoc, List.length_append]
        exact hown1
      obtain ⟨g2, c2, rfl⟩ := own_some0 hown2 (fun e => by have := (hnil.1 e).2; omega)
      have hro : ∀ k, (Value.slice (some ⟨g, 0, none⟩) L.length c).ownBlock = some k → w.heap.size ≤ k := fun k hk => own_ge O k hk
      replace C := (C.alloc (.cells #[.int .i64 a, .int .i64 b, .int .i64 q] 94)).grown hgrow (fun k hk => by have := hro k hk; omega)
      replace GW := gw_grown (grown_trans GW (grown_alloc _ (.cells #[.int .i64 a, .int .i64 b, .int .i64 q] 94) _)) hgrow hro
      clear hown1 hgrow hnil hro O
      have HLX := Lib.hid (show (L ++ [(⟨a, b, q⟩ : R)]).length = L.length + 1 by simp)
      go_wp2
      go_roundw
      case rel => exact ⟨n - 1, L ++ [⟨a, b, q⟩], g2, c2, by rw [show ((n - 1 : Nat) : Int) = (n : Int) - 1 by omega] <;> rfl, by simp, by rw [HLX.out]; omega, hown2, C.le (by rw [HLX.out]; omega), GW⟩
      case measure => simp [intOf]; omega
    · have hp0 : decide ((0 : Int) < n) = false := decide_eq_false (by omega)
      have hl0 : 0 < L.length := by omega
      try go_wp2_with fail
      refine (pick_d B zs p (K + 2 + 6 * L.length) _ 32 C (by omega) (by omega) (by omega)).mono ?_
      rintro e u42 ⟨z, z_r, rfl, C1, G⟩
      have yu42 : wr.heap.size ≤ u42.heap.size := G.size
      replace O := own_grown O G (fun k hk => by injection hk with hk; omega)
      replace GW := grown_trans GW G
      replace C := C1
      clear C1 G
      have zu42 := GW.size
      by_cases hq0 : z = 0
      · subst hq0
        try go_wp2_with fail
        refine (among_d B zs p (K + 2 + 6 * L.length + 2) _ _ 3 [0, 100000, 100001] (C.alloc (.cells #[.int .i64 0, .int .i64 100000, .int .i64 100001] 3)) (by omega) (lst_at u42 _ _ (by omega)) (by omega) (by simp) (by simp)).mono ?_
        rintro e u43 ⟨a, hx, rfl, C1, G⟩
        have a_r : 0 ≤ a ∧ a ≤ 100001 := by simp at hx; omega
        clear hx
        have yu43 : u42.heap.size ≤ u43.heap.size := (by have := G.size; simp only [size_alloc'] at this; omega)
        replace O := own_grown (own_keep O (al (Below.refl _ _) (o := (.cells #[.int .i64 0, .int .i64 100000, .int .i64 100001] 3)))) G (fun k hk => by injection hk with hk; omega)
        replace GW := grown_trans (grown_trans GW (grown_alloc _ (.cells #[.int .i64 0, .int .i64 100000, .int .i64 100001] 3) _)) G
        replace C := C1
        clear C1 G
        have zu43 := GW.size
        have hg0 := own_ge O g (by simp [Value.ownBlock])
        have hgl := own_lt O
        have c0 : (u43).cell? ⟨g, 0, none⟩ = some (.int .i64 L[0].f0) := by simpa using (SerI.Own.cells O hl0 rfl).1
        have f0 : (u43).frozen? ⟨g, 0, none⟩ = false := SerI.Own.free O 0
        have O2 := Lib.hid (put_area O hl0 a)
        have C2 := Lib.hid ((C.set (g := g) (by omega) (by omega) 0 (.int .i64 a)).le (show _ ≤ K + 300 by omega))
        have G2 := Lib.hid (grown_set GW (g := g) (by omega) 0 (.int .i64 a))
        clear O C GW
        go_wp2
        go_ret
        exact ⟨L.set 0 ⟨a, L[0].f1, L[0].f2⟩, g, c, by simp; omega, by simp, O2.out, C2.out, G2.out⟩
      have y0 : (z == 0) = false := by rw [beq_eq_false_iff_ne]; exact hq0
      by_cases hq1 : z = 1
      · subst hq1
        try go_wp2_with fail
        refine (among_d B zs p (K + 2 + 6 * L.length + 2) _ _ 3 [-1, 1000000, 1000001] (C.alloc (.cells #[.int .i64 (-1), .int .i64 1000000, .int .i64 1000001] 3)) (by omega) (lst_at u42 _ _ (by omega)) (by omega) (by simp) (by simp)).mono ?_
        rintro e u43 ⟨a, hx, rfl, C1, G⟩
        have a_r : -1 ≤ a ∧ a ≤ 1000001 := by simp at hx; omega
        clear hx
        have yu43 : u42.heap.size ≤ u43.heap.size := (by have := G.size; simp only [size_alloc'] at this; omega)
        replace O := own_grown (own_keep O (al (Below.refl _ _) (o := (.cells #[.int .i64 (-1), .int .i64 1000000, .int .i64 1000001] 3)))) G (fun k hk => by injection hk with hk; omega)
        replace GW := grown_trans (grown_trans GW (grown_alloc _ (.cells #[.int .i64 (-1), .int .i64 1000000, .int .i64 1000001] 3) _)) G
        replace C := C1
        clear C1 G
        have zu43 := GW.size
        have hg0 := own_ge O g (by simp [Value.ownBlock])
        have hgl := own_lt O
        have c1 : (u43).cell? ⟨g, 1, none⟩ = some (.int .i64 L[0].f1) := by simpa using (SerI.Own.cells O hl0 rfl).2.1
        have c2 : (u43).cell? ⟨g, 2, none⟩ = some (.int .i64 L[0].f2) := by simpa using (SerI.Own.cells O hl0 rfl).2.2
        have f1 : (u43).frozen? ⟨g, 1, none⟩ = false := SerI.Own.free O 1
        have f2 : (u43).frozen? ⟨g, 2, none⟩ = false := SerI.Own.free O 2
        have O2 := Lib.hid (put_brine O hl0 a 0)
        have C2 := Lib.hid (((C.set (g := g) (by omega) (by omega) 1 (.int .i64 a)).set (g := g) (by omega) (by omega) 2 (.int .i64 0)).le (show _ ≤ K + 300 by omega))
        have G2 := Lib.hid (grown_set (grown_set GW (g := g) (by omega) 1 (.int .i64 a)) (g := g) (by omega) 2 (.int .i64 0))
        clear O C GW
        go_wp2
        go_ret
        exact ⟨L.set 0 ⟨L[0].f0, a, 0⟩, g, c, by simp; omega, by simp, O2.out, C2.out, G2.out⟩
      have y1 : (z == 1) = false := by rw [beq_eq_false_iff_ne]; exact hq1
      by_cases hq2 : z = 2
      · subst hq2
        go_wp2
        go_ret
        exact ⟨[], _, _, by simp, by simp, empty3 _ (by omega), (C.alloc _).le (by omega), grown_trans GW (grown_alloc _ _ _)⟩
      have y2 : (z == 2) = false := by rw [beq_eq_false_iff_ne]; exact hq2
      by_cases hq3 : z = 3
      · subst hq3
        go_wp2_with fail
        go_loopw [3] (fun oo wr => ∃ (M : List R) (h9 c9 : Nat), M.length ≤ 9 ∧ oo = .slice (some ⟨h9, 0, none⟩) M.length c9 ∧ wr.ownsRow w.heap.size 94 3 (.slice (some ⟨h9, 0, none⟩) M.length c9) M.length (flat M) ∧ Cu B zs p (K + 100 + 2 * M.length) wr ∧ w.grownBy wr (some p)) (fun oo _ => 20 - slen oo)
        case atStart => exact ⟨L, g, c, by omega, rfl, O, C.le (by omega), GW⟩
        case round =>
          clear O C GW hL hl0
          obtain ⟨M, h9, c9, hr, rfl, O, C, GW⟩ := hrel
          have zwr := GW.size
          try go_wp2_with fail
          refine (pick_d B zs p (K + 100 + 2 * M.length) _ 2 C (by omega) (by omega) (by omega)).mono ?_
          rintro e u63 ⟨y, y_r, rfl, C1, G⟩
          have yu63 : wr.heap.size ≤ u63.heap.size := G.size
          replace O := own_grown O G (fun k hk => by injection hk with hk; omega)
          replace GW := grown_trans GW G
          replace C := C1
          clear C1 G
          have zu63 := GW.size
          have e0 : IntKind.i64.wrap (8 + y) = 8 + y := IntWalk.i64_in _ (by omega)
          by_cases hlt : (M.length : Int) < 8 + y
          · have hlt' : decide ((M.length : Int) < 8 + y) = true := decide_eq_true hlt
            obtain ⟨v, hv⟩ : ∃ v, u63 = v := ⟨_, rfl⟩
            rw [hv] at O C GW zu63 yu63 ⊢
            clear hv
            go_wp2_with (at_builtin; go_must (refine wpList_append_own _ rfl _ _ 40 rfl w.heap.size 94 i0 _ 3 24 Try.underlying40 hi0 hz0 HI1.out HI.out rfl (by decide) _ M.length _ rfl (O.alloc _) ⟨v.heap.size, 0, none⟩ 1 1 [.int .i64 5, .int .i64 0, .int .i64 0] rfl rfl (new3 v 5 0 0) (one3 5 0 0) (by unfold maxLen; omega) (by omega) (by rw [size_alloc']; omega) ?_; intro v' w10 hown1 hgrow hnil))
            have hown2 : w10.ownsRow w.heap.size 94 3 v' (M ++ [(⟨5, 0, 0⟩ : R)]).length (flat (M ++ [(⟨5, 0, 0⟩ : R)])) := by
              rw [flat_snoc, List.length_append]
              exact hown1
            obtain ⟨g2, c2, rfl⟩ := own_some0 hown2 (fun e => by have := (hnil.1 e).2; omega)
            have hro : ∀ k, (Value.slice (some ⟨h9, 0, none⟩) M.length c9).ownBlock = some k → w.heap.size ≤ k := fun k hk => own_ge O k hk
            replace C := (C.alloc (.cells #[.int .i64 5, .int .i64 0, .int .i64 0] 94)).grown hgrow (fun k hk => by have := hro k hk; omega)
            replace GW := gw_grown (grown_trans GW (grown_alloc _ (.cells #[.int .i64 5, .int .i64 0, .int .i64 0] 94) _)) hgrow hro
            clear hown1 hgrow hnil hro O
            have HLX := Lib.hid (show (M ++ [(⟨5, 0, 0⟩ : R)]).length = M.length + 1 by simp)
            go_wp2
            go_roundw
            case rel => exact ⟨M ++ [⟨5, 0, 0⟩], g2, c2, by rw [HLX.out]; omega, by simp, hown2, C.le (by rw [HLX.out]; omega), GW⟩
            case measure => simp [slen]; omega
          · have hlt' : decide ((M.length : Int) < 8 + y) = false := decide_eq_false hlt
            go_wp2
            go_ret
            exact ⟨M, h9, c9, by omega, rfl, O, C.le (by omega), GW⟩
      · have y3 : (z == 3) = false := by rw [beq_eq_false_iff_ne]; exact hq3
        go_wp2
        go_ret
        exact ⟨L, g, c, by omega, rfl, O, C.le (by omega), GW⟩
end Go.Proofs.Ytngominkeammiaa.DSerI
