/- The draw of workers. -/
import Derived.Test.YtdikekecbapcaaaDWork
import Derived.Test.YtdikekecbapcaaaWClone
namespace Go.Proofs.Ytdikekecbapcaaa.DWork2
open Go.RowKit Go.Proofs.Ytdikekecbapcaaa.Mem Go.Proofs.Ytdikekecbapcaaa.Base Go.Proofs.Ytdikekecbapcaaa.Draw Go.Proofs.Ytdikekecbapcaaa.Boxes Go.Proofs.Ytdikekecbapcaaa.Keep Go.Proofs.Ytdikekecbapcaaa.Dr Go.Proofs.Ytdikekecbapcaaa.SWorker Go.Proofs.Ytdikekecbapcaaa.DWork Go.Proofs.Ytdikekecbapcaaa.WClone
set_option linter.unusedVariables false
set_option maxRecDepth 100000
def Lot (B : Nat) (zs : List Int) (p K : Nat) (w : World) (e : Ending) (w' : World) : Prop :=
  ∃ (L : List R) (g c : Nat), L.length ≤ 20 ∧ e = .returned (.slice (some ⟨g, 0, none⟩) L.length c) ∧ w'.ownsRow w.heap.size 50 5 (.slice (some ⟨g, 0, none⟩) L.length c) L.length (flat L) ∧ Cu B zs p K w' ∧ w.grownBy w' (some p)
theorem own_some0 {w : World} {base : Nat} {e : TypeId} {size n : Nat} {v : Value} {xs : List Value} (h : w.ownsRow base e size v n xs) (hv : v ≠ .slice none 0 0) : ∃ g c, v = .slice (some ⟨g, 0, none⟩) n c := by
  rcases h.2 with ⟨h1, _⟩ | ⟨g, cap, cur, h1, _⟩
  · exact absurd h1 hv
  · exact ⟨g, cap, h1⟩
theorem new5 (W : World) (x : R) : ∀ j u, [Value.int .i64 x.f0, .int .i64 x.f1, .int .i64 x.f2, .bool x.f3, .int .i64 x.f4][j]? = some u →
    (W.alloc (.cells #[.int .i64 x.f0, .int .i64 x.f1, .int .i64 x.f2, .bool x.f3, .int .i64 x.f4] 50)).cell? ((⟨W.heap.size, 0, none⟩ : Addr).add j) = some u := by
  intro j u hu
  rw [cell_add, Nat.zero_add, World.cell?_alloc_at _ _ _ _ rfl]
  simpa using hu
theorem one5 (x : R) : ∀ u ∈ [Value.int .i64 x.f0, .int .i64 x.f1, .int .i64 x.f2, .bool x.f3, .int .i64 x.f4], u.oneCell' = true := by
  intro u hu; simp at hu; rcases hu with rfl | rfl | rfl | rfl | rfl <;> rfl
theorem flat_snoc (l : List R) (x : R) : flat (l ++ [x]) = flat l ++ [Value.int .i64 x.f0, .int .i64 x.f1, .int .i64 x.f2, .bool x.f3, .int .i64 x.f4] := by simp [flat, R.cells]
set_option maxHeartbeats 3200000 in
theorem workers_d (B : Nat) (zs : List Int) (p K : Nat) (w : World) (C : Cu B zs p K w) (hK : K ≤ 700000000) :
    Calls Try.prog 60 #[.pointer (some ⟨p, 0, none⟩)] w (Lot B zs p (K + 1000) w) := by
  obtain ⟨i0, hi0, hz0, hz1, hz2⟩ := info_parts info_T
  have HI := Lib.hid hz2; clear hz2
  have HI1 := Lib.hid hz1; clear hz1
  go_enter Try.func60, Try.ntmps60
  have hp := C.lt
  have hB := C.base
  have GW : w.grownBy w (some p) := grown_refl w _
  go_wp2_with fail
  have O := WClone.empty_own (Below.refl _ w)
  replace C := C.alloc (.cells #[] 50)
  replace GW := grown_trans GW (grown_alloc _ (.cells #[] 50) _)
  generalize w.alloc (.cells #[] 50) = v0 at C GW O ⊢
  have zv0 := GW.size
  try go_wp2_with fail
  refine (pick_d B zs p (K) _ 11 C (by omega) (by omega) (by omega)).mono ?_
  rintro e u21 ⟨n0, n0_r, rfl, C1, G⟩
  have yu21 : v0.heap.size ≤ u21.heap.size := G.size
  replace O := own_grown O G (fun k hk => by injection hk with hk; omega)
  replace GW := grown_trans GW G
  replace C := C1
  clear C1 G
  have zu21 := GW.size
  obtain ⟨m, rfl⟩ : ∃ m : Nat, n0 = m := ⟨n0.toNat, by omega⟩
  go_wp2_with fail
  go_loopw [3, 4, 5] (fun oo ii nn wr => ∃ (n : Nat) (L : List R) (g c : Nat) (i : Int), n ≤ 11 ∧ nn = .int .i64 n ∧ ii = .int .i64 i ∧ 0 ≤ i ∧ i ≤ 2 * (11 - n) ∧ oo = .slice (some ⟨g, 0, none⟩) L.length c ∧ L.length + n ≤ 11 ∧ wr.ownsRow w.heap.size 50 5 (.slice (some ⟨g, 0, none⟩) L.length c) L.length (flat L) ∧ Cu B zs p (K + 2 + 20 * (11 - n)) wr ∧ w.grownBy wr (some p)) (fun _ _ nn _ => (intOf nn).toNat)
  case atStart => exact ⟨m, [], _, _, 0, by omega, rfl, rfl, by omega, by omega, rfl, by simp; omega, O, C.le (by omega), GW⟩
  case round =>
    clear O C GW zv0
    obtain ⟨n, L, g, c, i, hn, rfl, rfl, h0, h1, rfl, hL, O, C, GW⟩ := hrel
    have zwr := GW.size
    by_cases hpos : 0 < n
    · have hp0 : decide ((0 : Int) < n) = true := decide_eq_true (by omega)
      have e1 : IntKind.i64.wrap (i + 1) = i + 1 := IntWalk.i64_in _ (by omega)
      try go_wp2_with fail
      refine (pick_d B zs p (K + 2 + 20 * (11 - n)) _ 2 C (by omega) (by omega) (by omega)).mono ?_
      rintro e u42 ⟨z, z_r, rfl, C1, G⟩
      have yu42 : wr.heap.size ≤ u42.heap.size := G.size
      replace O := own_grown O G (fun k hk => by injection hk with hk; omega)
      replace GW := grown_trans GW G
      replace C := C1
      clear C1 G
      have zu42 := GW.size
      have e2 : IntKind.i64.wrap (i + 1 + z) = i + 1 + z := IntWalk.i64_in _ (by omega)
      try go_wp2_with fail
      refine (pick_d B zs p (K + 2 + 20 * (11 - n) + 2) _ 120 C (by omega) (by omega) (by omega)).mono ?_
      rintro e u43 ⟨y, y_r, rfl, C1, G⟩
      have yu43 : u42.heap.size ≤ u43.heap.size := G.size
      replace O := own_grown O G (fun k hk => by injection hk with hk; omega)
      replace GW := grown_trans GW G
      replace C := C1
      clear C1 G
      have zu43 := GW.size
      have e3 : Int.tdiv y 119 = y / 119 := Int.tdiv_eq_ediv_of_nonneg (by omega)
      have e4 : IntKind.i64.wrap (i + 1 + z - y / 119) = i + 1 + z - y / 119 := IntWalk.i64_in _ (by omega)
      obtain ⟨i2, hi2⟩ : ∃ i2, i + 1 + z - y / 119 = i2 := ⟨_, rfl⟩
      have hb2 : 0 ≤ i2 ∧ i2 ≤ i + 2 := by omega
      rw [hi2] at e4
      try go_wp2_with fail
      refine (worker_d B zs p (K + 2 + 20 * (11 - n) + 2 + 2) _ i2 C (by omega)).mono ?_
      rintro e u44 ⟨x, rfl, C1, G⟩
      have yu44 : u43.heap.size ≤ u44.heap.size := G.size
      replace O := own_grown O G (fun k hk => by injection hk with hk; omega)
      replace GW := grown_trans GW G
      replace C := C1
      clear C1 G
      have zu44 := GW.size
      obtain ⟨v, hv⟩ : ∃ v, u44 = v := ⟨_, rfl⟩
      rw [hv] at O C GW zu44 yu44 ⊢
      clear hv
      go_wp2_with (at_builtin; go_must (refine wpList_append_own _ rfl _ _ 24 rfl w.heap.size 50 i0 _ 5 40 Try.underlying24 hi0 hz0 HI1.out HI.out rfl (by decide) _ L.length _ rfl (O.alloc _) ⟨v.heap.size, 0, none⟩ 1 1 [.int .i64 x.f0, .int .i64 x.f1, .int .i64 x.f2, .bool x.f3, .int .i64 x.f4] rfl rfl (new5 v x) (one5 x) (by unfold maxLen; omega) (by omega) (by rw [size_alloc']; omega) ?_; intro v' w10 hown1 hgrow hnil))
      have hown2 : w10.ownsRow w.heap.size 50 5 v' (L ++ [x]).length (flat (L ++ [x])) := by
        rw [flat_snoc, List.length_append]
        exact hown1
      obtain ⟨g2, c2, rfl⟩ := own_some0 hown2 (fun e => by have := (hnil.1 e).2; omega)
      have hro : ∀ k, (Value.slice (some ⟨g, 0, none⟩) L.length c).ownBlock = some k → w.heap.size ≤ k := fun k hk => own_ge O k hk
      replace C := (C.alloc (.cells #[.int .i64 x.f0, .int .i64 x.f1, .int .i64 x.f2, .bool x.f3, .int .i64 x.f4] 50)).grown hgrow (fun k hk => by have := hro k hk; omega)
      replace GW := gw_grown (grown_trans GW (grown_alloc _ (.cells #[.int .i64 x.f0, .int .i64 x.f1, .int .i64 x.f2, .bool x.f3, .int .i64 x.f4] 50) _)) hgrow hro
      clear hown1 hgrow hnil hro O
      go_wp2
      go_roundw
      case rel => exact ⟨n - 1, L ++ [x], g2, c2, i2, by omega, by rw [show ((n - 1 : Nat) : Int) = (n : Int) - 1 by omega] <;> rfl, rfl, by omega, by omega, by simp, by simp; omega, hown2, C.le (by omega), GW⟩
      case measure => simp [intOf]; omega
    · have hp0 : decide ((0 : Int) < n) = false := decide_eq_false (by omega)
      try go_wp2_with fail
      refine (one_d B zs p (K + 2 + 20 * (11 - n)) _ 24 C (by omega) (by omega) (by omega)).mono ?_
      rintro e u42 ⟨q, rfl, C1, G⟩
      have yu42 : wr.heap.size ≤ u42.heap.size := G.size
      replace O := own_grown O G (fun k hk => by injection hk with hk; omega)
      replace GW := grown_trans GW G
      replace C := C1
      clear C1 G
      have zu42 := GW.size
      cases q
      · go_wp2
        go_ret
        exact ⟨L, g, c, by omega, rfl, O, C.le (by omega), GW⟩
      · clear O
        go_wp2_with fail
        have O := World.ownsRow_lit u42 #[] 0 (e := 50) (size := 5) (base := w.heap.size) (by omega) (by unfold maxLen; omega) rfl
        replace C := C.alloc (.cells #[] 50)
        replace GW := grown_trans GW (grown_alloc _ (.cells #[] 50) _)
        go_loopw [3, 6] (fun oo rr wr => ∃ (M : List R) (h9 c9 : Nat), M.length ≤ 13 ∧ rr = .int .i64 M.length ∧ oo = .slice (some ⟨h9, 0, none⟩) M.length c9 ∧ wr.ownsRow w.heap.size 50 5 (.slice (some ⟨h9, 0, none⟩) M.length c9) M.length (flat M) ∧ Cu B zs p (K + 400 + 2 * M.length) wr ∧ w.grownBy wr (some p)) (fun _ rr _ => 14 - (intOf rr).toNat)
        case atStart => exact ⟨[], _, _, by simp, rfl, rfl, (by simpa [flat] using O), C.le (by omega), GW⟩
        case round =>
          clear O C GW hL
          obtain ⟨M, h9, c9, hr, rfl, rfl, O, C, GW⟩ := hrel
          have zwr := GW.size
          try go_wp2_with fail
          refine (pick_d B zs p (K + 400 + 2 * M.length) _ 2 C (by omega) (by omega) (by omega)).mono ?_
          rintro e u63 ⟨y, y_r, rfl, C1, G⟩
          have yu63 : wr.heap.size ≤ u63.heap.size := G.size
          replace O := own_grown O G (fun k hk => by injection hk with hk; omega)
          replace GW := grown_trans GW G
          replace C := C1
          clear C1 G
          have zu63 := GW.size
          have e0 : IntKind.i64.wrap (12 + y) = 12 + y := IntWalk.i64_in _ (by omega)
          by_cases hlt : (M.length : Int) < 12 + y
          · have hlt' : decide ((M.length : Int) < 12 + y) = true := decide_eq_true hlt
            have e1 : IntKind.i64.wrap ((M.length : Int) + 1) = (M.length : Int) + 1 := IntWalk.i64_in _ (by omega)
            have e2 : Int.tmod (M.length : Int) 3 = (M.length : Int) % 3 := Int.tmod_eq_emod_of_nonneg (by omega)
            have e3 : Int.tmod (M.length : Int) 4 = (M.length : Int) % 4 := Int.tmod_eq_emod_of_nonneg (by omega)
            have e4 : Int.tmod (M.length : Int) 7 = (M.length : Int) % 7 := Int.tmod_eq_emod_of_nonneg (by omega)
            have e5 : IntKind.i64.wrap (1 + (M.length : Int) % 3) = 1 + (M.length : Int) % 3 := IntWalk.i64_in _ (by omega)
            obtain ⟨x, hx⟩ : ∃ x : R, x = ⟨(M.length : Int) + 1, 1 + (M.length : Int) % 3, 9, (M.length : Int) % 4 == 0, (M.length : Int) % 7⟩ := ⟨_, rfl⟩
            have HXE := Lib.hid hx; clear hx
            have HLEN := Lib.hid hr
            obtain ⟨v, hv⟩ : ∃ v, u63 = v := ⟨_, rfl⟩
            rw [hv] at O C GW zu63 yu63 ⊢
            clear hv
            go_wp2_with (at_builtin; go_must (refine wpList_append_own _ rfl _ _ 24 rfl w.heap.size 50 i0 _ 5 40 Try.underlying24 hi0 hz0 HI1.out HI.out rfl (by decide) _ M.length _ rfl (O.alloc _) ⟨v.heap.size, 0, none⟩ 1 1 [.int .i64 ((M.length : Int) + 1), .int .i64 (1 + (M.length : Int) % 3), .int .i64 9, .bool ((M.length : Int) % 4 == 0), .int .i64 ((M.length : Int) % 7)] rfl rfl (new5 v ⟨(M.length : Int) + 1, 1 + (M.length : Int) % 3, 9, (M.length : Int) % 4 == 0, (M.length : Int) % 7⟩) (one5 ⟨(M.length : Int) + 1, 1 + (M.length : Int) % 3, 9, (M.length : Int) % 4 == 0, (M.length : Int) % 7⟩) (by unfold maxLen; omega) (by omega) (by rw [size_alloc']; omega) ?_; intro v' w10 hown1 hgrow hnil))
            have hown2 : w10.ownsRow w.heap.size 50 5 v' (M ++ [x]).length (flat (M ++ [x])) := by
              rw [flat_snoc, List.length_append, HXE.out]
              exact hown1
            obtain ⟨g2, c2, rfl⟩ := own_some0 hown2 (fun e => by have := (hnil.1 e).2; omega)
            have hro : ∀ k, (Value.slice (some ⟨h9, 0, none⟩) M.length c9).ownBlock = some k → w.heap.size ≤ k := fun k hk => own_ge O k hk
            replace C := (C.alloc (.cells #[.int .i64 ((M.length : Int) + 1), .int .i64 (1 + (M.length : Int) % 3), .int .i64 9, .bool ((M.length : Int) % 4 == 0), .int .i64 ((M.length : Int) % 7)] 50)).grown hgrow (fun k hk => by have := hro k hk; omega)
            replace GW := gw_grown (grown_trans GW (grown_alloc _ (.cells #[.int .i64 ((M.length : Int) + 1), .int .i64 (1 + (M.length : Int) % 3), .int .i64 9, .bool ((M.length : Int) % 4 == 0), .int .i64 ((M.length : Int) % 7)] 50) _)) hgrow hro
            clear hown1 hgrow hnil hro O
            go_wp2
            go_roundw
            case rel => exact ⟨M ++ [x], g2, c2, by simp; omega, by simp, by simp, hown2, C.le (by simp; omega), GW⟩
            case measure => simp [intOf]; omega
          · have hlt' : decide ((M.length : Int) < 12 + y) = false := decide_eq_false hlt
            go_wp2
            go_ret
            exact ⟨M, h9, c9, by omega, rfl, O, C.le (by omega), GW⟩
end Go.Proofs.Ytdikekecbapcaaa.DWork2
