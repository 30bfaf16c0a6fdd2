/- The draw of ponds. -/
import Derived.Test.YtncdkfkihfhcgaaDPond
import Derived.Test.YtncdkfkihfhcgaaPond2
import Derived.Test.YtncdkfkihfhcgaaCut
import Derived.Deep.AppendLies
import Derived.Deep.RegionLaw
namespace Go.Proofs.Ytncdkfkihfhcgaa.DPond2
open Go.RowKit Go.Proofs.Ytncdkfkihfhcgaa.Mem Go.Proofs.Ytncdkfkihfhcgaa.Base Go.Proofs.Ytncdkfkihfhcgaa.Draw Go.Proofs.Ytncdkfkihfhcgaa.Boxes Go.Proofs.Ytncdkfkihfhcgaa.Keep Go.Proofs.Ytncdkfkihfhcgaa.Dr Go.Proofs.Ytncdkfkihfhcgaa.SPond Go.Proofs.Ytncdkfkihfhcgaa.DPond Go.Proofs.Ytncdkfkihfhcgaa.Pond2 Go.Proofs.Ytncdkfkihfhcgaa.Cut Go.Proofs.Ytncdkfkihfhcgaa.PClone
set_option linter.unusedVariables false
set_option maxRecDepth 100000
def AllSm (l : List R) : Prop := ∀ x ∈ l, Sm x
theorem AllSm.nil : AllSm [] := fun _ h => by cases h
theorem AllSm.snoc {l : List R} {x : R} (h : AllSm l) (hx : Sm x) : AllSm (l ++ [x]) := by
  intro y hy
  rcases List.mem_append.1 hy with h1 | h1
  · exact h y h1
  · rw [List.mem_singleton.1 h1]; exact hx
def Lot (B : Nat) (zs : List Int) (p K : Nat) (w : World) (e : Ending) (w' : World) : Prop :=
  ∃ (L : List R) (g c : Nat), L.length ≤ 20 ∧ AllSm L ∧ e = .returned (.slice (some ⟨g, 0, none⟩) L.length c) ∧ w'.ownsRow w.heap.size 54 6 (.slice (some ⟨g, 0, none⟩) L.length c) L.length (flat L) ∧ Cu B zs p K w' ∧ w.grownBy w' (some p)
theorem own_some0 {w : World} {base : Nat} {e : TypeId} {size n : Nat} {v : Value} {xs : List Value} (h : w.ownsRow base e size v n xs) (hv : v ≠ .slice none 0 0) : ∃ g c, v = .slice (some ⟨g, 0, none⟩) n c := by
  rcases h.2 with ⟨h1, _⟩ | ⟨g, cap, cur, h1, _⟩
  · exact absurd h1 hv
  · exact ⟨g, cap, h1⟩
set_option maxHeartbeats 3200000 in
theorem ponds_d (B : Nat) (zs : List Int) (p K : Nat) (w : World) (C : Cu B zs p K w) (hK : K ≤ 700000000) :
    Calls Try.prog 46 #[.pointer (some ⟨p, 0, none⟩)] w (Lot B zs p (K + 1000) w) := by
  obtain ⟨i0, hi0, hz0, hz1, hz2⟩ := info_parts info_T
  have HI := Lib.hid hz2; clear hz2
  have HI1 := Lib.hid hz1; clear hz1
  go_enter Try.func46, Try.ntmps46
  have hp := C.lt
  have hB := C.base
  have GW : w.grownBy w (some p) := grown_refl w _
  go_wp2_with fail
  have O := empty_own (Below.refl _ w)
  replace C := C.alloc (.cells #[] 54)
  replace GW := grown_trans GW (grown_alloc _ (.cells #[] 54) _)
  generalize w.alloc (.cells #[] 54) = v0 at C GW O ⊢
  have zv0 := GW.size
  try go_wp2_with fail
  refine (pick_d B zs p (K) _ 16 C (by omega) (by omega) (by omega)).mono ?_
  rintro e u21 ⟨n0, n0_r, rfl, C1, G⟩
  have yu21 : v0.heap.size ≤ u21.heap.size := G.size
  replace O := own_grown O G (fun k hk => by injection hk with hk; omega)
  replace GW := grown_trans GW G
  replace C := C1
  clear C1 G
  have zu21 := GW.size
  obtain ⟨m, rfl⟩ : ∃ m : Nat, n0 = m := ⟨n0.toNat, by omega⟩
  go_wp2_with fail
  go_loopw [3, 4, 5] (fun oo ii nn wr => ∃ (n : Nat) (L : List R) (g c : Nat) (i : Int), n ≤ 16 ∧ nn = .int .i64 n ∧ ii = .int .i64 i ∧ 0 ≤ i ∧ i ≤ 2 * (16 - n) ∧ oo = .slice (some ⟨g, 0, none⟩) L.length c ∧ L.length + n ≤ 16 ∧ Hid (AllSm L) ∧ wr.ownsRow w.heap.size 54 6 (.slice (some ⟨g, 0, none⟩) L.length c) L.length (flat L) ∧ Cu B zs p (K + 2 + 20 * (16 - n)) wr ∧ w.grownBy wr (some p)) (fun _ _ nn _ => (intOf nn).toNat)
  case atStart => exact ⟨m, [], _, _, 0, by omega, rfl, rfl, by omega, by omega, rfl, by simp; omega, Lib.hid AllSm.nil, O, C.le (by omega), GW⟩
  case round =>
    clear O C GW zv0
    obtain ⟨n, L, g, c, i, hn, rfl, rfl, h0, h1, rfl, hL, HS, O, C, GW⟩ := hrel
    have zwr := GW.size
    by_cases hpos : 0 < n
    · have hp0 : decide ((0 : Int) < n) = true := decide_eq_true (by omega)
      have e1 : IntKind.i64.wrap (i + 1) = i + 1 := IntWalk.i64_in _ (by omega)
      try go_wp2_with fail
      refine (pick_d B zs p (K + 2 + 20 * (16 - n)) _ 2 C (by omega) (by omega) (by omega)).mono ?_
      rintro e u42 ⟨z, z_r, rfl, C1, G⟩
      have yu42 : wr.heap.size ≤ u42.heap.size := G.size
      replace O := own_grown O G (fun k hk => by injection hk with hk; omega)
      replace GW := grown_trans GW G
      replace C := C1
      clear C1 G
      have zu42 := GW.size
      have e2 : IntKind.i64.wrap (i + 1 + z) = i + 1 + z := IntWalk.i64_in _ (by omega)
      have hgo := own_ge O g (by simp [Value.ownBlock])
      have hgl := own_lt O
      have hgp : g ≠ p := by omega
      obtain ⟨u, hu⟩ : ∃ u, u42 = u := ⟨_, rfl⟩
      rw [hu] at O C GW hgl zu42 yu42 ⊢
      clear hu
      have E : (u.alloc (.cells #[] 54)).ownsRow u.heap.size 54 6 (.slice (some ⟨u.heap.size, 0, none⟩) 0 0) 0 (flat []) := empty_own (Below.refl _ u)
      have HNW := Lib.hid (show ∀ j v, (flat L)[j]? = some v → (u.alloc (.cells #[] 54)).cell? ((⟨g, 0, none⟩ : Addr).add j) = some v from fun j v hv => by
        have hj : j < (flat L).length := by
          rcases Nat.lt_or_ge j (flat L).length with h | h
          · exact h
          · rw [List.getElem?_eq_none h] at hv; cases hv
        rw [cell_add, Nat.zero_add, (bcell (al (Below.refl _ u) (o := .cells #[] 54))).1 _ _ hgl, O.cellAt j (by rw [flat_n] at hj; exact hj)]; exact hv)
      have hen : decide ((0 : Int) < n) = true := hp0
      go_wp2_with (at_builtin; go_must (refine wpList_append_own _ rfl _ _ 24 rfl u.heap.size 54 i0 _ 6 48 Try.underlying24 hi0 hz0 HI1.out HI.out rfl (by decide) _ 0 _ rfl E ⟨g, 0, none⟩ L.length c (flat L) rfl (flat_n L) HNW.out (flat_one L) (by unfold maxLen; omega) (by omega) (by rw [size_alloc']; omega) ?_; intro v' w9 hown1 hgrow hnil))
      obtain ⟨g1, c1, rfl⟩ := own_some0 hown1 (fun e => by have := (hnil.1 e).1; cases this)
      have O1 : w9.ownsRow u.heap.size 54 6 (.slice (some ⟨g1, 0, none⟩) L.length c1) L.length (flat L) := by simpa [flat] using hown1
      replace C := (C.alloc (.cells #[] 54)).grown hgrow (fun k hk => by have := row_at hk; omega)
      replace GW := gw_grown (grown_trans GW (grown_alloc _ (.cells #[] 54) _)) hgrow (fun k hk => by have := row_at hk; omega)
      replace O := own_grownN (own_keep O (al (Below.refl _ u) (o := .cells #[] 54))) hgrow (fun k hk => by have := row_at hk; omega)
      clear hown1 hgrow hnil HNW E
      have zw9 := GW.size
      try go_wp2_with fail
      refine (pond_d B zs p (K + 2 + 20 * (16 - n) + 2) _ (i + 1 + z) (by omega) (by omega) C (by omega)).mono ?_
      rintro e u63 ⟨x, hsx, rfl, C1, G⟩
      have yu63 : w9.heap.size ≤ u63.heap.size := G.size
      replace O := own_grown O G (fun k hk => by injection hk with hk; omega)
      replace O1 := own_grown O1 G (fun k hk => by injection hk with hk; omega)
      replace GW := grown_trans GW G
      replace C := C1
      clear C1 G
      have zu63 := GW.size
      have HX := Lib.hid hsx; clear hsx
      obtain ⟨v, hv⟩ : ∃ v, u63 = v := ⟨_, rfl⟩
      rw [hv] at O O1 C GW zu63 yu63 ⊢
      clear hv
      go_wp2_with (at_builtin; go_must (refine wpList_append_own _ rfl _ _ 24 rfl u.heap.size 54 i0 _ 6 48 Try.underlying24 hi0 hz0 HI1.out HI.out rfl (by decide) _ L.length _ rfl (O1.alloc _) ⟨v.heap.size, 0, none⟩ 1 1 [.int .i64 x.f0, .int .i64 x.f1, .int .i64 x.f2, .int .i64 x.f3, .int .i64 x.f4, .int .i64 x.f5] rfl rfl (new6 v x) (one6 x) (by unfold maxLen; omega) (by omega) (by rw [size_alloc']; have := own_lt O1; have := own_ge O1 g1 (by simp [Value.ownBlock]); omega) ?_; intro v' w10 hown1 hgrow hnil))
      have hown2 : w10.ownsRow u.heap.size 54 6 v' (L ++ [x]).length (flat (L ++ [x])) := by
        rw [flat_snoc, List.length_append]
        exact hown1
      obtain ⟨g2, c2, rfl⟩ := own_some0 hown2 (fun e => by have := (hnil.1 e).2; omega)
      have hro : ∀ k, (Value.slice (some ⟨g1, 0, none⟩) L.length c1).ownBlock = some k → u.heap.size ≤ k := fun k hk => own_ge O1 k hk
      replace C := (C.alloc (.cells #[.int .i64 x.f0, .int .i64 x.f1, .int .i64 x.f2, .int .i64 x.f3, .int .i64 x.f4, .int .i64 x.f5] 54)).grown hgrow (fun k hk => by have := hro k hk; omega)
      replace GW := gw_grown (grown_trans GW (grown_alloc _ (.cells #[.int .i64 x.f0, .int .i64 x.f1, .int .i64 x.f2, .int .i64 x.f3, .int .i64 x.f4, .int .i64 x.f5] 54) _)) hgrow (fun k hk => by have := hro k hk; omega)
      replace O := own_grownN (own_keep O (al (Below.refl _ v) (o := .cells #[.int .i64 x.f0, .int .i64 x.f1, .int .i64 x.f2, .int .i64 x.f3, .int .i64 x.f4, .int .i64 x.f5] 54))) hgrow (fun k hk => by have := hro k hk; omega)
      have O2 := hown2
      clear hown1 hown2 hgrow hnil hro O1
      have hlen : (L ++ [x]).length ≤ 1048576 := by simp; omega
      go_wp2_with fail
      refine (good_spec (some ⟨g2, 0, none⟩) c2 (L ++ [x]) w10 (Rd.of_own O2) hlen).mono ?_
      rintro e w11 ⟨rfl, hv⟩
      replace O := own_keep O hv; replace O2 := own_keep O2 hv; replace C := C.more hv; replace GW := grown_more GW hv
      clear hv
      have zw11 := GW.size
      cases hgd : good (L ++ [x])
      · try go_wp2_with fail
        refine (one_d B zs p (K + 2 + 20 * (16 - n) + 2 + 14) _ 60 C (by omega) (by omega) (by omega)).mono ?_
        rintro e u84 ⟨q, rfl, C1, G⟩
        have yu84 : w11.heap.size ≤ u84.heap.size := G.size
        replace O := own_grown O G (fun k hk => by injection hk with hk; omega)
        replace O2 := own_grown O2 G (fun k hk => by injection hk with hk; omega)
        replace GW := grown_trans GW G
        replace C := C1
        clear C1 G
        have zu84 := GW.size
        cases q
        · go_wp2
          go_roundw
          case rel => exact ⟨n - 1, L, g, c, i + 1 + z, by omega, by rw [show ((n - 1 : Nat) : Int) = (n : Int) - 1 by omega] <;> rfl, rfl, by omega, by omega, rfl, by omega, HS, O, C.le (by omega), GW⟩
          case measure => simp [intOf]; omega
        · go_wp2
          go_roundw
          case rel => exact ⟨n - 1, L ++ [x], g2, c2, i + 1 + z, by omega, by rw [show ((n - 1 : Nat) : Int) = (n : Int) - 1 by omega] <;> rfl, rfl, by omega, by omega, by simp, by simp; omega, Lib.hid (HS.out.snoc HX.out), own_base O2 (by omega), C.le (by omega), GW⟩
          case measure => simp [intOf]; omega
      · go_wp2
        go_roundw
        case rel => exact ⟨n - 1, L ++ [x], g2, c2, i + 1 + z, by omega, by rw [show ((n - 1 : Nat) : Int) = (n : Int) - 1 by omega] <;> rfl, rfl, by omega, by omega, by simp, by simp; omega, Lib.hid (HS.out.snoc HX.out), own_base O2 (by omega), C.le (by omega), GW⟩
        case measure => simp [intOf]; omega
    · have hp0 : decide ((0 : Int) < n) = false := decide_eq_false (by omega)
      try go_wp2_with fail
      refine (pick_d B zs p (K + 2 + 20 * (16 - n)) _ 30 C (by omega) (by omega) (by omega)).mono ?_
      rintro e u42 ⟨z, z_r, rfl, C1, G⟩
      have yu42 : wr.heap.size ≤ u42.heap.size := G.size
      replace O := own_grown O G (fun k hk => by injection hk with hk; omega)
      replace GW := grown_trans GW G
      replace C := C1
      clear C1 G
      have zu42 := GW.size
      by_cases hz : z = 0
      · subst hz
        clear O
        go_wp2_with fail
        have O := World.ownsRow_lit u42 #[] 0 (e := 54) (size := 6) (base := w.heap.size) (by omega) (by unfold maxLen; omega) rfl
        replace C := C.alloc (.cells #[] 54)
        replace GW := grown_trans GW (grown_alloc _ (.cells #[] 54) _)
        go_loopw [3, 7] (fun oo rr wr => ∃ (M : List R) (h9 c9 : Nat), M.length ≤ 11 ∧ rr = .int .i64 M.length ∧ oo = .slice (some ⟨h9, 0, none⟩) M.length c9 ∧ Hid (AllSm M) ∧ wr.ownsRow w.heap.size 54 6 (.slice (some ⟨h9, 0, none⟩) M.length c9) M.length (flat M) ∧ Cu B zs p (K + 400 + 2 * M.length) wr ∧ w.grownBy wr (some p)) (fun _ rr _ => 12 - (intOf rr).toNat)
        case atStart => exact ⟨[], _, _, by simp, rfl, rfl, Lib.hid AllSm.nil, (by simpa [flat] using O), C.le (by omega), GW⟩
        case round =>
          clear O C GW HS hL
          obtain ⟨M, h9, c9, hr, rfl, rfl, HS, O, C, GW⟩ := hrel
          have zwr := GW.size
          try go_wp2_with fail
          refine (pick_d B zs p (K + 400 + 2 * M.length) _ 2 C (by omega) (by omega) (by omega)).mono ?_
          rintro e u63 ⟨y, y_r, rfl, C1, G⟩
          have yu63 : wr.heap.size ≤ u63.heap.size := G.size
          replace O := own_grown O G (fun k hk => by injection hk with hk; omega)
          replace GW := grown_trans GW G
          replace C := C1
          clear C1 G
          have zu63 := GW.size
          have e0 : IntKind.i64.wrap (10 + y) = 10 + y := IntWalk.i64_in _ (by omega)
          by_cases hlt : (M.length : Int) < 10 + y
          · have hlt' : decide ((M.length : Int) < 10 + y) = true := decide_eq_true hlt
            have e1 : IntKind.i64.wrap ((M.length : Int) + 1) = (M.length : Int) + 1 := IntWalk.i64_in _ (by omega)
            have e2 : Int.tmod (M.length : Int) 5 = (M.length : Int) % 5 := Int.tmod_eq_emod_of_nonneg (by omega)
            have e3 : Int.tdiv (M.length : Int) 5 = (M.length : Int) / 5 := Int.tdiv_eq_ediv_of_nonneg (by omega)
            have e4 : IntKind.i64.wrap (4 * ((M.length : Int) % 5)) = 4 * ((M.length : Int) % 5) := IntWalk.i64_in _ (by omega)
            have e5 : IntKind.i64.wrap (3 * ((M.length : Int) / 5)) = 3 * ((M.length : Int) / 5) := IntWalk.i64_in _ (by omega)
            obtain ⟨x, hx⟩ : ∃ x : R, x = ⟨(M.length : Int) + 1, 4 * ((M.length : Int) % 5), 3 * ((M.length : Int) / 5), 4, 3, 30⟩ := ⟨_, rfl⟩
            have hsx : Sm x := by rw [hx]; unfold Sm; simp only; omega
            have HXE := Lib.hid hx; clear hx
            have HLEN := Lib.hid hr
            obtain ⟨v, hv⟩ : ∃ v, u63 = v := ⟨_, rfl⟩
            rw [hv] at O C GW zu63 yu63 ⊢
            clear hv
            go_wp2_with (at_builtin; go_must (refine wpList_append_own _ rfl _ _ 24 rfl w.heap.size 54 i0 _ 6 48 Try.underlying24 hi0 hz0 HI1.out HI.out rfl (by decide) _ M.length _ rfl (O.alloc _) ⟨v.heap.size, 0, none⟩ 1 1 [.int .i64 ((M.length : Int) + 1), .int .i64 (4 * ((M.length : Int) % 5)), .int .i64 (3 * ((M.length : Int) / 5)), .int .i64 4, .int .i64 3, .int .i64 30] rfl rfl (new6 v ⟨(M.length : Int) + 1, 4 * ((M.length : Int) % 5), 3 * ((M.length : Int) / 5), 4, 3, 30⟩) (one6 ⟨(M.length : Int) + 1, 4 * ((M.length : Int) % 5), 3 * ((M.length : Int) / 5), 4, 3, 30⟩) (by unfold maxLen; omega) (by omega) (by rw [size_alloc']; omega) ?_; intro v' w10 hown1 hgrow hnil))
            have hown2 : w10.ownsRow w.heap.size 54 6 v' (M ++ [x]).length (flat (M ++ [x])) := by
              rw [flat_snoc, List.length_append, HXE.out]
              exact hown1
            obtain ⟨g2, c2, rfl⟩ := own_some0 hown2 (fun e => by have := (hnil.1 e).2; omega)
            have hro : ∀ k, (Value.slice (some ⟨h9, 0, none⟩) M.length c9).ownBlock = some k → w.heap.size ≤ k := fun k hk => own_ge O k hk
            replace C := (C.alloc (.cells #[.int .i64 ((M.length : Int) + 1), .int .i64 (4 * ((M.length : Int) % 5)), .int .i64 (3 * ((M.length : Int) / 5)), .int .i64 4, .int .i64 3, .int .i64 30] 54)).grown hgrow (fun k hk => by have := hro k hk; omega)
            replace GW := gw_grown (grown_trans GW (grown_alloc _ (.cells #[.int .i64 ((M.length : Int) + 1), .int .i64 (4 * ((M.length : Int) % 5)), .int .i64 (3 * ((M.length : Int) / 5)), .int .i64 4, .int .i64 3, .int .i64 30] 54) _)) hgrow hro
            clear hown1 hgrow hnil hro O
            go_wp2
            go_roundw
            case rel => exact ⟨M ++ [x], g2, c2, by simp; omega, by simp, by simp, Lib.hid (HS.out.snoc hsx), hown2, C.le (by simp; omega), GW⟩
            case measure => simp [intOf]; omega
          · have hlt' : decide ((M.length : Int) < 10 + y) = false := decide_eq_false hlt
            go_wp2
            go_ret
            exact ⟨M, h9, c9, by omega, HS.out, rfl, O, C.le (by omega), GW⟩
      · by_cases hz1 : z = 1
        · subst hz1
          by_cases hl1 : 1 < L.length
          · obtain ⟨y, hy⟩ : ∃ y, L[0] = y := ⟨_, rfl⟩
            obtain ⟨l0, l1, l2, l3, l4, l5⟩ := own6 O (i := 0) (by omega) hy
            have hcl := own_cap O
            have hgl := own_lt O
            have hl1' : decide ((1 : Int) < L.length) = true := decide_eq_true (by omega)
            have hl2 : (1 : Int) ≤ L.length := by omega
            have hl0 : 0 < L.length := by omega
            have hc1 : ¬ (c = 1) := by omega
            go_upto_region 19 with fail
            obtain ⟨v, hv⟩ : ∃ v, u42 = v := ⟨_, rfl⟩
            rw [hv] at O C GW zu42 yu42 hgl l0 l1 l2 l3 l4 l5 ⊢
            clear hv
            have HSY := Lib.hid (show Sm y by rw [← hy]; exact HS.out _ (List.getElem_mem _))
            have HSD := Lib.hid (show AllSm (L.drop 1 ++ [y]) from AllSm.snoc (fun x hx => HS.out x (List.mem_of_mem_drop hx)) HSY.out)
            have HNW := Lib.hid (show ∀ W, Below v.heap.size v W → ∀ j q, (flat (L.drop 1))[j]? = some q → W.cell? ((⟨g, 6, none⟩ : Addr).add j) = some q from fun W hW j q hq => by
              rw [cell_add, (bcell hW).1 _ _ hgl]
              have e : flat L = flat (L.take 1) ++ flat (L.drop 1) := by unfold flat; rw [← List.flatMap_append, List.take_append_drop]
              have e6 : (flat (L.take 1)).length = 6 := by rw [flat_n, List.length_take]; omega
              have h6 : (flat L)[6 + j]? = some q := by rw [e, List.getElem?_append_right (by omega), e6, Nat.add_sub_cancel_left]; exact hq
              have hj : 6 + j < (flat L).length := by
                rcases Nat.lt_or_ge (6 + j) (flat L).length with h | h
                · exact h
                · rw [List.getElem?_eq_none h] at h6; cases h6
              rw [O.cellAt (6 + j) (by rw [flat_n] at hj; exact hj)]; exact h6)
            have EA := Lib.hid (show ∀ _ : Unit, (v.alloc (.cells #[] 54)).ownsRow v.heap.size 54 6 (.slice (some ⟨v.heap.size, 0, none⟩) 0 0) 0 [] from fun _ => by simpa [flat] using empty_own (Below.refl _ v))
            have EB := Lib.hid (show ∀ _ : Unit, ((v.alloc (.cells #[.int .i64 y.f0, .int .i64 y.f1, .int .i64 y.f2, .int .i64 y.f3, .int .i64 y.f4, .int .i64 y.f5] 54)).alloc (.cells #[] 54)).ownsRow v.heap.size 54 6 (.slice (some ⟨v.heap.size + 1, 0, none⟩) 0 0) 0 [] from fun _ => by
              have := World.ownsRow_lit (v.alloc (.cells #[.int .i64 y.f0, .int .i64 y.f1, .int .i64 y.f2, .int .i64 y.f3, .int .i64 y.f4, .int .i64 y.f5] 54)) #[] 0 (e := 54) (size := 6) (base := v.heap.size) (by simp only [size_alloc']; omega) (by unfold maxLen; omega) rfl
              simpa [size_alloc'] using this)
            have NX2 := Lib.hid (show ∀ j q, [.int .i64 y.f0, .int .i64 y.f1, .int .i64 y.f2, .int .i64 y.f3, .int .i64 y.f4, .int .i64 y.f5][j]? = some q → ((v.alloc (.cells #[] 54)).alloc (.cells #[.int .i64 y.f0, .int .i64 y.f1, .int .i64 y.f2, .int .i64 y.f3, .int .i64 y.f4, .int .i64 y.f5] 54)).cell? ((⟨v.heap.size + 1, 0, none⟩ : Addr).add j) = some q from fun j q hq => by have h := new6 (v.alloc (.cells #[] 54)) y j q hq; rwa [size_alloc'] at h)
            have NX3 := Lib.hid (show ∀ j q, [.int .i64 y.f0, .int .i64 y.f1, .int .i64 y.f2, .int .i64 y.f3, .int .i64 y.f4, .int .i64 y.f5][j]? = some q → ((v.alloc (.cells #[.int .i64 y.f0, .int .i64 y.f1, .int .i64 y.f2, .int .i64 y.f3, .int .i64 y.f4, .int .i64 y.f5] 54)).alloc (.cells #[] 54)).cell? ((⟨v.heap.size, 0, none⟩ : Addr).add j) = some q from fun j q hq => by
              have h := new6 v y j q hq
              rw [cell_add, Nat.zero_add] at h ⊢
              rw [(bcell (al (Below.refl _ (v.alloc (.cells #[.int .i64 y.f0, .int .i64 y.f1, .int .i64 y.f2, .int .i64 y.f3, .int .i64 y.f4, .int .i64 y.f5] 54))) (o := (.cells #[] 54)))).1 _ _ (by rw [size_alloc']; omega)]; exact h)
            go_region_law (first | (refine step_append_lies _ rfl (.tmp 64) (.tmp 66) 24 rfl v.heap.size 54 i0 _ 6 48 Try.underlying24 hi0 hz0 HI1.out HI.out rfl (by decide) _ 0 [] rfl (EA.out ()) ⟨g, 6, none⟩ (L.length - 1) (c - 1) (flat (L.drop 1)) rfl (by rw [flat_n, List.length_drop]) (HNW.out _ (show Below v.heap.size v (v.alloc (.cells #[] 54)).drew from (al (Below.refl _ _)).drew)) (flat_one _) (by omega) (by unfold maxLen; omega) (by omega) (by show v.heap.size ≤ (v.alloc _).heap.size; rw [size_alloc']; omega) _ rfl ?_; intro g4 c4 w4 hown0 hgrow4 hat4 hlt4; have hown4 : w4.ownsRow v.heap.size 54 6 (.slice (some ⟨g4, 0, none⟩) (L.length - 1) c4) (L.length - 1) (flat (L.drop 1)) := (by simpa using hown0); clear hown0; have hb4 := (show Below v.heap.size v (v.alloc (.cells #[] 54)).drew from (al (Below.refl _ _)).drew); have C4 := (C.more hb4).grown hgrow4 (fun k hk => by have := row_at hk; omega); have G4 := gw_grown (grown_more GW hb4) hgrow4 (fun k hk => by have := row_at hk; omega); have O4 := own_grownN (own_keep O hb4) hgrow4 (fun k hk => by have := row_at hk; omega); obtain ⟨l0, l1, l2, l3, l4, l5⟩ := own6 O4 (i := 0) hl0 hy) | (refine step_append_lies _ rfl (.tmp 64) (.tmp 66) 24 rfl v.heap.size 54 i0 _ 6 48 Try.underlying24 hi0 hz0 HI1.out HI.out rfl (by decide) _ 0 [] rfl (EB.out ()) ⟨g, 6, none⟩ (L.length - 1) (c - 1) (flat (L.drop 1)) rfl (by rw [flat_n, List.length_drop]) (HNW.out _ (show Below v.heap.size v ((v.alloc (.cells #[.int .i64 y.f0, .int .i64 y.f1, .int .i64 y.f2, .int .i64 y.f3, .int .i64 y.f4, .int .i64 y.f5] 54)).alloc (.cells #[] 54)).drew from (al (al (Below.refl _ _))).drew)) (flat_one _) (by omega) (by unfold maxLen; omega) (by omega) (by show v.heap.size ≤ ((v.alloc _).alloc _).heap.size; simp only [size_alloc']; omega) _ rfl ?_; intro g4 c4 w4 hown0 hgrow4 hat4 hlt4; have hown4 : w4.ownsRow v.heap.size 54 6 (.slice (some ⟨g4, 0, none⟩) (L.length - 1) c4) (L.length - 1) (flat (L.drop 1)) := (by simpa using hown0); clear hown0; have hb4 := (show Below v.heap.size v ((v.alloc (.cells #[.int .i64 y.f0, .int .i64 y.f1, .int .i64 y.f2, .int .i64 y.f3, .int .i64 y.f4, .int .i64 y.f5] 54)).alloc (.cells #[] 54)).drew from (al (al (Below.refl _ _))).drew); have C4 := (C.more hb4).grown hgrow4 (fun k hk => by have := row_at hk; omega); have G4 := gw_grown (grown_more GW hb4) hgrow4 (fun k hk => by have := row_at hk; omega); have O4 := own_grownN (own_keep O hb4) hgrow4 (fun k hk => by have := row_at hk; omega); obtain ⟨l0, l1, l2, l3, l4, l5⟩ := own6 O4 (i := 0) hl0 hy; have hx4 : ∀ j q, [.int .i64 y.f0, .int .i64 y.f1, .int .i64 y.f2, .int .i64 y.f3, .int .i64 y.f4, .int .i64 y.f5][j]? = some q → w4.cell? ((⟨v.heap.size, 0, none⟩ : Addr).add j) = some q := fun j q hq => by rw [cell_add, Nat.zero_add, (show World.grownBy ((v.alloc (.cells #[.int .i64 y.f0, .int .i64 y.f1, .int .i64 y.f2, .int .i64 y.f3, .int .i64 y.f4, .int .i64 y.f5] 54)).alloc (.cells #[] 54)).drew w4 (some (v.heap.size + 1)) from hgrow4).cell_far ⟨v.heap.size, j, none⟩ (by show v.heap.size < ((v.alloc (.cells #[.int .i64 y.f0, .int .i64 y.f1, .int .i64 y.f2, .int .i64 y.f3, .int .i64 y.f4, .int .i64 y.f5] 54)).alloc (.cells #[] 54)).heap.size; simp only [size_alloc']; omega) (by intro e; injection e with e; exact absurd e (show ¬ (v.heap.size = v.heap.size + 1) by omega))]; have := NX3.out j q hq; rw [cell_add, Nat.zero_add] at this; exact this) | (refine step_append_lies _ rfl (.tmp 67) (.tmp 71) 24 rfl v.heap.size 54 i0 _ 6 48 Try.underlying24 hi0 hz0 HI1.out HI.out rfl (by decide) _ (L.length - 1) (flat (L.drop 1)) rfl (hown4.alloc (.cells #[.int .i64 y.f0, .int .i64 y.f1, .int .i64 y.f2, .int .i64 y.f3, .int .i64 y.f4, .int .i64 y.f5] 54)) ⟨w4.heap.size, 0, none⟩ 1 1 [.int .i64 y.f0, .int .i64 y.f1, .int .i64 y.f2, .int .i64 y.f3, .int .i64 y.f4, .int .i64 y.f5] rfl rfl (new6 w4 y) (one6 y) (by omega) (by unfold maxLen; omega) (by omega) (by have := own_ge hown4 g4 (by simp [Value.ownBlock]); (try simp only [size_alloc']); omega) _ rfl ?_; intro g5 c5 w5 hown5 hgrow5 hat5 hlt5; have hr5 : ∀ k, (Value.slice (some ⟨g4, 0, none⟩) (L.length - 1) c4).ownBlock = some k → v.heap.size ≤ k := fun k hk => own_ge hown4 k hk; have C5 := (C4.alloc (.cells #[.int .i64 y.f0, .int .i64 y.f1, .int .i64 y.f2, .int .i64 y.f3, .int .i64 y.f4, .int .i64 y.f5] 54)).grown hgrow5 (fun k hk => by have := hr5 k hk; omega); have G5 := gw_grown (grown_trans G4 (grown_alloc _ (.cells #[.int .i64 y.f0, .int .i64 y.f1, .int .i64 y.f2, .int .i64 y.f3, .int .i64 y.f4, .int .i64 y.f5] 54) _)) hgrow5 (fun k hk => by have := hr5 k hk; omega)) | (refine step_append_lies _ rfl (.tmp 67) (.tmp 71) 24 rfl v.heap.size 54 i0 _ 6 48 Try.underlying24 hi0 hz0 HI1.out HI.out rfl (by decide) _ (L.length - 1) (flat (L.drop 1)) rfl hown4 ⟨v.heap.size + 1, 0, none⟩ 1 1 [.int .i64 y.f0, .int .i64 y.f1, .int .i64 y.f2, .int .i64 y.f3, .int .i64 y.f4, .int .i64 y.f5] rfl rfl hx4 (one6 y) (by omega) (by unfold maxLen; omega) (by omega) (by have := own_ge hown4 g4 (by simp [Value.ownBlock]); (try simp only [size_alloc']); omega) _ rfl ?_; intro g5 c5 w5 hown5 hgrow5 hat5 hlt5; have hr5 : ∀ k, (Value.slice (some ⟨g4, 0, none⟩) (L.length - 1) c4).ownBlock = some k → v.heap.size ≤ k := fun k hk => own_ge hown4 k hk; have C5 := C4.grown hgrow5 (fun k hk => by have := hr5 k hk; omega); have G5 := gw_grown G4 hgrow5 (fun k hk => by have := hr5 k hk; omega)) | (refine step_append_lies _ rfl (.tmp 67) (.tmp 71) 24 rfl v.heap.size 54 i0 _ 6 48 Try.underlying24 hi0 hz0 HI1.out HI.out rfl (by decide) _ (L.length - 1) (flat (L.drop 1)) rfl hown4 ⟨v.heap.size, 0, none⟩ 1 1 [.int .i64 y.f0, .int .i64 y.f1, .int .i64 y.f2, .int .i64 y.f3, .int .i64 y.f4, .int .i64 y.f5] rfl rfl hx4 (one6 y) (by omega) (by unfold maxLen; omega) (by omega) (by have := own_ge hown4 g4 (by simp [Value.ownBlock]); (try simp only [size_alloc']); omega) _ rfl ?_; intro g5 c5 w5 hown5 hgrow5 hat5 hlt5; have hr5 : ∀ k, (Value.slice (some ⟨g4, 0, none⟩) (L.length - 1) c4).ownBlock = some k → v.heap.size ≤ k := fun k hk => own_ge hown4 k hk; have C5 := C4.grown hgrow5 (fun k hk => by have := hr5 k hk; omega); have G5 := gw_grown G4 hgrow5 (fun k hk => by have := hr5 k hk; omega)) | (refine step_append_lies _ rfl (.tmp 64) (.tmp 66) 24 rfl v.heap.size 54 i0 _ 6 48 Try.underlying24 hi0 hz0 HI1.out HI.out rfl (by decide) _ 0 [] rfl ((EA.out ()).alloc (.cells #[.int .i64 y.f0, .int .i64 y.f1, .int .i64 y.f2, .int .i64 y.f3, .int .i64 y.f4, .int .i64 y.f5] 54)) ⟨g, 6, none⟩ (L.length - 1) (c - 1) (flat (L.drop 1)) rfl (by rw [flat_n, List.length_drop]) (HNW.out _ (show Below v.heap.size v ((v.alloc (.cells #[] 54)).alloc (.cells #[.int .i64 y.f0, .int .i64 y.f1, .int .i64 y.f2, .int .i64 y.f3, .int .i64 y.f4, .int .i64 y.f5] 54)).drew from (al (al (Below.refl _ _))).drew)) (flat_one _) (by omega) (by unfold maxLen; omega) (by omega) (by show v.heap.size ≤ ((v.alloc _).alloc _).heap.size; simp only [size_alloc']; omega) _ rfl ?_; intro g4 c4 w4 hown0 hgrow4 hat4 hlt4; have hown4 : w4.ownsRow v.heap.size 54 6 (.slice (some ⟨g4, 0, none⟩) (L.length - 1) c4) (L.length - 1) (flat (L.drop 1)) := (by simpa using hown0); clear hown0; have hb4 := (show Below v.heap.size v ((v.alloc (.cells #[] 54)).alloc (.cells #[.int .i64 y.f0, .int .i64 y.f1, .int .i64 y.f2, .int .i64 y.f3, .int .i64 y.f4, .int .i64 y.f5] 54)).drew from (al (al (Below.refl _ _))).drew); have C4 := (C.more hb4).grown hgrow4 (fun k hk => by have := row_at hk; omega); have G4 := gw_grown (grown_more GW hb4) hgrow4 (fun k hk => by have := row_at hk; omega); have O4 := own_grownN (own_keep O hb4) hgrow4 (fun k hk => by have := row_at hk; omega); obtain ⟨l0, l1, l2, l3, l4, l5⟩ := own6 O4 (i := 0) hl0 hy; have hx4 : ∀ j q, [.int .i64 y.f0, .int .i64 y.f1, .int .i64 y.f2, .int .i64 y.f3, .int .i64 y.f4, .int .i64 y.f5][j]? = some q → w4.cell? ((⟨v.heap.size + 1, 0, none⟩ : Addr).add j) = some q := fun j q hq => by rw [cell_add, Nat.zero_add, (show World.grownBy ((v.alloc (.cells #[] 54)).alloc (.cells #[.int .i64 y.f0, .int .i64 y.f1, .int .i64 y.f2, .int .i64 y.f3, .int .i64 y.f4, .int .i64 y.f5] 54)).drew w4 (some v.heap.size) from hgrow4).cell_far ⟨v.heap.size + 1, j, none⟩ (by show v.heap.size + 1 < ((v.alloc (.cells #[] 54)).alloc (.cells #[.int .i64 y.f0, .int .i64 y.f1, .int .i64 y.f2, .int .i64 y.f3, .int .i64 y.f4, .int .i64 y.f5] 54)).heap.size; simp only [size_alloc']; omega) (by intro e; injection e with e; exact absurd e (show ¬ (v.heap.size + 1 = v.heap.size) by omega))]; have := NX2.out j q hq; rw [cell_add, Nat.zero_add] at this; exact this))
            all_goals
              go_wp2
              go_ret
              have hM : (L.drop 1 ++ [y]).length = L.length := by simp; omega
              have O9 : w5.ownsRow w.heap.size 54 6 (.slice (some ⟨g5, 0, none⟩) (L.drop 1 ++ [y]).length c5) (L.drop 1 ++ [y]).length (flat (L.drop 1 ++ [y])) := by
                rw [flat_snoc]
                have e : (L.drop 1 ++ [y]).length = L.length - 1 + 1 := by simp
                rw [e]
                exact own_base hown5 (by omega)
              exact ⟨L.drop 1 ++ [y], g5, c5, by omega, HSD.out, by simp, O9, C5.le (by omega), G5⟩
          · have hl1' : decide ((1 : Int) < L.length) = false := decide_eq_false (by omega)
            go_wp2
            go_ret
            exact ⟨L, g, c, by omega, HS.out, rfl, O, C.le (by omega), GW⟩
        · go_wp2
          go_ret
          exact ⟨L, g, c, by omega, HS.out, rfl, O, C.le (by omega), GW⟩
end Go.Proofs.Ytncdkfkihfhcgaa.DPond2
