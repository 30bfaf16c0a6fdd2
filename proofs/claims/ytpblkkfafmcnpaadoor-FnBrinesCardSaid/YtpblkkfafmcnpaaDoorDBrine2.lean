/- The draw of a list of brines. -/
import Derived.Test.YtpblkkfafmcnpaaDoorDBrine
namespace Go.Proofs.YtpblkkfafmcnpaaDoor.DBrine2
open Go.RowKit Go.Proofs.YtpblkkfafmcnpaaDoor.Mem Go.Proofs.YtpblkkfafmcnpaaDoor.Base Go.Proofs.YtpblkkfafmcnpaaDoor.Draw Go.Proofs.YtpblkkfafmcnpaaDoor.Boxes Go.Proofs.YtpblkkfafmcnpaaDoor.Keep Go.Proofs.YtpblkkfafmcnpaaDoor.Dr Go.Proofs.YtpblkkfafmcnpaaDoor.Brine Go.Proofs.YtpblkkfafmcnpaaDoor.SBrine Go.Proofs.YtpblkkfafmcnpaaDoor.Halve Go.Proofs.YtpblkkfafmcnpaaDoor.DBrine
set_option linter.unusedVariables false
set_option maxRecDepth 100000
theorem flat_snoc (l : List R) (x : R) : flat (l ++ [x]) = flat l ++ [.int .i64 x.f0, .int .i64 x.f1] := by unfold flat; rw [List.flatMap_append]; simp [R.cells]
theorem own_some0 {w : World} {base : Nat} {e : TypeId} {size n : Nat} {v : Value} {xs : List Value} (h : w.ownsRow base e size v n xs) (hv : v ≠ .slice none 0 0) : ∃ g c, v = .slice (some ⟨g, 0, none⟩) n c := by
  rcases h.2 with ⟨h1, _⟩ | ⟨g, cap, cur, h1, _⟩
  · exact absurd h1 hv
  · exact ⟨g, cap, h1⟩
def lenOf : Value → Nat
  | .slice _ n _ => n
  | _ => 0
def DL (w : World) (e : Ending) (w' : World) : Prop := ∃ (L : List R) (g c : Nat), L.length ≤ 30 ∧ e = .returned (.slice (some ⟨g, 0, none⟩) L.length c) ∧ w'.ownsRow w.heap.size 25 2 (.slice (some ⟨g, 0, none⟩) L.length c) L.length (flat L) ∧ Below w.heap.size w w'
theorem gw_up {wo W V : World} {p : Nat} {row : Option Nat} (h : wo.grownBy W (some p)) (hg : W.grownBy V row) (hp : wo.heap.size ≤ p + 1) (hr : ∀ k, row = some k → p + 1 ≤ k) : wo.grownBy V (some p) :=
  gw_grown h hg (fun k hk => by have := hr k hk; omega)
set_option maxHeartbeats 3200000 in
theorem drawMix (A : Option Addr) (cap : Nat) (zs : List Int) (wo : World) (h : Src wo A zs) : Calls Tryd.prog 20 #[.slice A zs.length cap] wo (DL wo) := by
  obtain ⟨i0, hi0, hz0, hz1, hz2⟩ := info_parts info_T
  have HI := Lib.hid hz2; clear hz2
  have HI1 := Lib.hid hz1; clear hz1
  have C0 := cu_at h cap (p := wo.heap.size) rfl
  have O0 := World.ownsRow_lit (wo.alloc (.cells #[.slice A zs.length cap, .int .i64 0, .int .u64 0] 56)) #[] 0 (e := 25) (size := 2) (base := wo.heap.size + 1) (by rw [size_alloc']; omega) (by unfold maxLen; omega) rfl
  have HC := Lib.hid (And.intro (C0.alloc (.cells #[] 25)) O0); clear C0 O0
  go_enter Tryd.func20, Tryd.ntmps20
  go_wp2_with fail
  obtain ⟨C, O⟩ := HC.out
  clear HC
  have HG : wo.grownBy ((wo.alloc (.cells #[.slice A zs.length cap, .int .i64 0, .int .u64 0] 56)).alloc (.cells #[] 25)) (some wo.heap.size) := grown_trans (grown_alloc wo (.cells #[.slice A zs.length cap, .int .i64 0, .int .u64 0] 56) _) (grown_alloc _ (.cells #[] 25) _)
  have hsz : ((wo.alloc (.cells #[.slice A zs.length cap, .int .i64 0, .int .u64 0] 56)).alloc (.cells #[] 25)).heap.size = wo.heap.size + 2 := by simp only [size_alloc']
  rw [size_alloc'] at O
  generalize (wo.alloc (.cells #[.slice A zs.length cap, .int .i64 0, .int .u64 0] 56)).alloc (.cells #[] 25) = w at C O HG hsz ⊢
  have HWO := Lib.hid (show wo.heap.size ≤ wo.heap.size by omega)
  obtain ⟨p, hp0⟩ : ∃ p, wo.heap.size = p := ⟨_, rfl⟩
  rw [hp0] at C O HG hsz ⊢
  have HQ := Lib.hid (show wo.heap.size ≤ p + 1 by omega)
  obtain ⟨B, hBp⟩ : ∃ B, B = p := ⟨_, rfl⟩
  have C' : Cu B zs p 0 w := by rw [hBp]; exact C
  clear C
  have C := C'; clear C'
  have hp := C.lt
  have hB := C.base
  have GW : w.grownBy w (some p) := grown_refl w _
  replace GW := HG
  clear HG
  have zw : wo.heap.size ≤ w.heap.size := GW.size
  try go_wp2_with fail
  refine (pick_d B zs p (0) _ 5 C (by omega) (by omega) (by omega)).mono ?_
  rintro e u1 ⟨n0, n0_r, rfl, C1, G⟩
  have yu1 : w.heap.size ≤ u1.heap.size := G.size
  replace O := own_grown O G (fun k hk => by injection hk with hk; omega)
  replace GW := grown_trans GW G
  replace C := C1
  clear C1 G
  have zu1 := GW.size
  obtain ⟨n1, rfl⟩ : ∃ m : Nat, n0 = m := ⟨n0.toNat, by omega⟩
  go_wp2_with fail
  go_loopw [4, 5] (fun oo nn wr => ∃ (n : Nat) (L : List R) (g c : Nat), n ≤ 5 ∧ nn = .int .i64 n ∧ oo = .slice (some ⟨g, 0, none⟩) L.length c ∧ L.length + n ≤ 5 ∧ wr.ownsRow (p + 1) 25 2 (.slice (some ⟨g, 0, none⟩) L.length c) L.length (flat L) ∧ Cu B zs p (0 + 2 + 10 * (5 - n)) wr ∧ wo.grownBy wr (some p)) (fun _ nn _ => (intOf nn).toNat)
  case atStart => exact ⟨n1, [], _, _, by omega, rfl, rfl, by simp; omega, (by simpa [flat] using O), C.le (by omega), GW⟩
  case round =>
    clear O C GW zw
    obtain ⟨n, L, g, c, hn, rfl, rfl, hL, O, C, GW⟩ := hrel
    have zwr := GW.size
    by_cases hpos : 0 < n
    · have hp0' : decide ((0 : Int) < n) = true := decide_eq_true (by omega)
      try go_wp2_with fail
      refine (brine_d B zs p (0 + 2 + 10 * (5 - n)) _ C (by omega)).mono ?_
      rintro e u22 ⟨x, y, hxy, rfl, C1, G⟩
      have yu22 : wr.heap.size ≤ u22.heap.size := G.size
      replace O := own_grown O G (fun k hk => by injection hk with hk; omega)
      replace GW := grown_trans GW G
      replace C := C1
      clear C1 G
      have zu22 := GW.size
      obtain ⟨v, hv⟩ : ∃ v, u22 = v := ⟨_, rfl⟩
      rw [hv] at O C GW zu22 yu22 ⊢
      clear hv
      go_wp2_with (at_builtin; go_must (refine wpList_append_own _ rfl _ _ 38 rfl (p + 1) 25 i0 _ 2 16 Tryd.underlying38 hi0 hz0 HI1.out HI.out rfl (by decide) _ L.length _ rfl (O.alloc _) ⟨v.heap.size, 0, none⟩ 1 1 [.int .i64 (x), .int .i64 (y)] rfl rfl (two_new v _ _ _) two_cells (by unfold maxLen; omega) (by omega) (by rw [size_alloc']; omega) ?_; intro v' w9 hown1 hgrow hnil))
      have hown2 : w9.ownsRow (p + 1) 25 2 v' (L ++ [(⟨x, y⟩ : R)]).length (flat (L ++ [(⟨x, y⟩ : R)])) := by
        rw [flat_snoc, List.length_append]
        exact hown1
      obtain ⟨g1, c1, rfl⟩ := own_some0 hown2 (fun e => by have := (hnil.1 e).2; omega)
      have hro : ∀ k, (Value.slice (some ⟨g, 0, none⟩) L.length c).ownBlock = some k → p + 1 ≤ k := fun k hk => own_ge O k hk
      replace C := (C.alloc (.cells #[.int .i64 (x), .int .i64 (y)] 25)).grown hgrow (fun k hk => by have := hro k hk; omega)
      replace GW := gw_up (grown_trans GW (grown_alloc _ (.cells #[.int .i64 (x), .int .i64 (y)] 25) _)) hgrow HQ.out hro
      clear O
      have O := hown2
      clear hown1 hown2 hgrow hnil hro
      go_wp2
      go_roundw
      case rel => exact ⟨n - 1, L ++ [⟨x, y⟩], g1, c1, by omega, by rw [show ((n - 1 : Nat) : Int) = (n : Int) - 1 by omega] <;> rfl, by simp, by simp; omega, O, C.le (by omega), GW⟩
      case measure => simp [intOf]; omega
    · have hp0' : decide ((0 : Int) < n) = false := decide_eq_false (by omega)
      try go_wp2_with fail
      refine (one_d B zs p (0 + 2 + 10 * (5 - n)) _ 16 C (by omega) (by omega) (by omega)).mono ?_
      rintro e u22 ⟨q, rfl, C1, G⟩
      have yu22 : wr.heap.size ≤ u22.heap.size := G.size
      replace O := own_grown O G (fun k hk => by injection hk with hk; omega)
      replace GW := grown_trans GW G
      replace C := C1
      clear C1 G
      have zu22 := GW.size
      cases q
      · go_wp2
        go_ret
        exact ⟨L, g, c, by omega, rfl, own_base O (by omega), by rw [hp0]; exact (Below.refl _ wo).grown GW (by omega) (fun k hk => by injection hk with hk; omega)⟩
      · go_wp2_with fail
        go_loopw [4] (fun oo wr => ∃ (L : List R) (g c : Nat), L.length ≤ 21 ∧ oo = .slice (some ⟨g, 0, none⟩) L.length c ∧ wr.ownsRow (p + 1) 25 2 (.slice (some ⟨g, 0, none⟩) L.length c) L.length (flat L) ∧ Cu B zs p (0 + 100 + 2 * L.length) wr ∧ wo.grownBy wr (some p)) (fun oo _ => 22 - lenOf oo)
        case atStart => exact ⟨L, g, c, by omega, rfl, O, C.le (by omega), GW⟩
        case round =>
          clear O C GW hL
          obtain ⟨L, g, c, hl1, rfl, O, C, GW⟩ := hrel
          have zwr := GW.size
          try go_wp2_with fail
          refine (pick_d B zs p (0 + 100 + 2 * L.length) _ 2 C (by omega) (by omega) (by omega)).mono ?_
          rintro e u43 ⟨y, y_r, rfl, C1, G⟩
          have yu43 : wr.heap.size ≤ u43.heap.size := G.size
          replace O := own_grown O G (fun k hk => by injection hk with hk; omega)
          replace GW := grown_trans GW G
          replace C := C1
          clear C1 G
          have zu43 := GW.size
          have e0 : IntKind.i64.wrap (20 + y) = 20 + y := IntWalk.i64_in _ (by omega)
          by_cases hlt : (L.length : Int) < 20 + y
          · have hlt' : decide ((L.length : Int) < 20 + y) = true := decide_eq_true hlt
            obtain ⟨v, hv⟩ : ∃ v, u43 = v := ⟨_, rfl⟩
            rw [hv] at O C GW zu43 yu43 ⊢
            clear hv
            go_wp2_with (at_builtin; go_must (refine wpList_append_own _ rfl _ _ 38 rfl (p + 1) 25 i0 _ 2 16 Tryd.underlying38 hi0 hz0 HI1.out HI.out rfl (by decide) _ L.length _ rfl (O.alloc _) ⟨v.heap.size, 0, none⟩ 1 1 [.int .i64 (5), .int .i64 (1)] rfl rfl (two_new v _ _ _) two_cells (by unfold maxLen; omega) (by omega) (by rw [size_alloc']; omega) ?_; intro v' w11 hown1 hgrow hnil))
            have hown2 : w11.ownsRow (p + 1) 25 2 v' (L ++ [(⟨5, 1⟩ : R)]).length (flat (L ++ [(⟨5, 1⟩ : R)])) := by
              rw [flat_snoc, List.length_append]
              exact hown1
            obtain ⟨g3, c3, rfl⟩ := own_some0 hown2 (fun e => by have := (hnil.1 e).2; omega)
            have hro : ∀ k, (Value.slice (some ⟨g, 0, none⟩) L.length c).ownBlock = some k → p + 1 ≤ k := fun k hk => own_ge O k hk
            replace C := (C.alloc (.cells #[.int .i64 (5), .int .i64 (1)] 25)).grown hgrow (fun k hk => by have := hro k hk; omega)
            replace GW := gw_up (grown_trans GW (grown_alloc _ (.cells #[.int .i64 (5), .int .i64 (1)] 25) _)) hgrow HQ.out hro
            clear O
            have O := hown2
            clear hown1 hown2 hgrow hnil hro
            go_wp2
            go_roundw
            case rel => exact ⟨L ++ [⟨5, 1⟩], g3, c3, by simp; omega, by simp, O, C.le (by simp; omega), GW⟩
            case measure => simp [lenOf]; omega
          · have hlt' : decide ((L.length : Int) < 20 + y) = false := decide_eq_false hlt
            go_wp2
            go_ret
            exact ⟨L, g, c, by omega, rfl, own_base O (by omega), by rw [hp0]; exact (Below.refl _ wo).grown GW (by omega) (fun k hk => by injection hk with hk; omega)⟩
end Go.Proofs.YtpblkkfafmcnpaaDoor.DBrine2
