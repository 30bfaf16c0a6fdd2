/- The draw DrawStackLayers. Made by tools/mk_dstack.py. -/
import Derived.Test.YtpbmncecejchjaaDr
import Derived.Test.YtpbmncecejchjaaSInt
namespace Go.Proofs.Ytpbmncecejchjaa.DStack
open Go.RowKit Go.Proofs.Ytpbmncecejchjaa.Mem Go.Proofs.Ytpbmncecejchjaa.Base Go.Proofs.Ytpbmncecejchjaa.Draw Go.Proofs.Ytpbmncecejchjaa.Boxes Go.Proofs.Ytpbmncecejchjaa.Keep Go.Proofs.Ytpbmncecejchjaa.Dr Go.Proofs.Ytpbmncecejchjaa.SInt
set_option linter.unusedVariables false
set_option maxRecDepth 100000
theorem info_int : (Try.prog.info? 3).map (fun i => (i.zero, i.size, i.bytes)) = some (some (.int .i64 0), 1, 8) := by kernel_rfl
theorem own_some0 {w : World} {base : Nat} {e : TypeId} {size n : Nat} {v : Value} {xs : List Value} (h : w.ownsRow base e size v n xs) (hv : v ≠ .slice none 0 0) : ∃ g c, v = .slice (some ⟨g, 0, none⟩) n c := by
  rcases h.2 with ⟨h1, _⟩ | ⟨g, cap, cur, h1, _⟩
  · exact absurd h1 hv
  · exact ⟨g, cap, h1⟩
theorem cell_add1 (w : World) (b o j : Nat) : w.cell? (Addr.add ⟨b, o, none⟩ j) = w.cell? ⟨b, o + j, none⟩ := by
  unfold Addr.add; split
  · rename_i h; subst h; rfl
  · rfl
theorem new1 (W : World) (a : Int) : ∀ j u, [Value.int .i64 a][j]? = some u → (W.alloc (.cells #[.int .i64 a] 3)).cell? ((⟨W.heap.size, 0, none⟩ : Addr).add j) = some u := by
  intro j u hu
  rw [cell_add1, Nat.zero_add, World.cell?_alloc_at _ _ _ _ rfl]
  simpa using hu
theorem one1 (a : Int) : ∀ u ∈ [Value.int .i64 a], u.oneCell' = true := by
  intro u hu; simp at hu; rcases hu with rfl; rfl
theorem iv_app (a b : List Int) : iv (a ++ b) = iv a ++ iv b := by simp [iv]
theorem mem_app {l : List Int} {a : Int} (h : ∀ x ∈ l, 0 ≤ x ∧ x ≤ 501) (ha : 0 ≤ a ∧ a ≤ 501) : ∀ x ∈ l ++ [a], 0 ≤ x ∧ x ≤ 501 := by
  intro x hx
  rcases List.mem_append.1 hx with h1 | h1
  · exact h x h1
  · simp at h1; subst h1; exact ha
theorem empty1 (w : World) {base : Nat} (hb : base ≤ w.heap.size) : (w.alloc (.cells #[] 3)).ownsRow base 3 1 (.slice (some ⟨w.heap.size, 0, none⟩) 0 0) 0 (iv []) := by
  have := World.ownsRow_lit w #[] 0 (e := 3) (size := 1) (base := base) hb (by unfold maxLen; omega) rfl
  simpa [iv] using this
def slen : Value → Nat
  | .slice _ n _ => n
  | _ => 0
theorem cu_at {w : World} {A : Option Addr} {zs : List Int} (h : Src w A zs) (cap : Nat) {p : Nat} (hp : p = w.heap.size) : Cu w.heap.size zs p 0 (w.alloc (.cells #[.slice A zs.length cap, .int .i64 0, .int .u64 0] 96)) := ⟨0, Nat.le_refl _, hp ▸ cur_new h cap⟩
theorem below_of {w W : World} {p : Nat} (h : w.grownBy W (some p)) (hp : w.heap.size ≤ p) : Below w.heap.size w W := (Below.refl _ w).grown h (Nat.le_refl _) (fun k hk => by injection hk with hk; omega)
def DI (w : World) (e : Ending) (w' : World) : Prop := ∃ (L : List Int) (g c : Nat), L.length ≤ 22 ∧ (∀ x ∈ L, 0 ≤ x ∧ x ≤ 501) ∧ e = .returned (.slice (some ⟨g, 0, none⟩) L.length c) ∧ w'.ownsRow w.heap.size 3 1 (.slice (some ⟨g, 0, none⟩) L.length c) L.length (iv L) ∧ Below w.heap.size w w'
set_option maxHeartbeats 3200000 in
theorem drawStack (A : Option Addr) (cap : Nat) (zs : List Int) (w : World) (h : Draw.Src w A zs) : Calls Try.prog 63 #[.slice A zs.length cap] w (DI w) := by
  obtain ⟨i0, hi0, hz0, hz1, hz2⟩ := info_parts info_int
  have HI := Lib.hid hz2; clear hz2
  have HI1 := Lib.hid hz1; clear hz1
  have C0 := cu_at h cap (p := w.heap.size) rfl
  have G0 : w.grownBy (w.alloc (.cells #[.slice A zs.length cap, .int .i64 0, .int .u64 0] 96)) (some w.heap.size) := grown_alloc w _ _
  have S0 : (w.alloc (.cells #[.slice A zs.length cap, .int .i64 0, .int .u64 0] 96)).heap.size = w.heap.size + 1 := size_alloc' _ _
  have H0 := Lib.hid (And.intro C0 (And.intro G0 S0)); clear C0 G0 S0 h
  go_enter Try.func63, Try.ntmps63
  go_wp2_with fail
  obtain ⟨C0, GW, sv⟩ := H0.out
  clear H0
  generalize w.alloc (.cells #[.slice A zs.length cap, .int .i64 0, .int .u64 0] 96) = v at C0 GW sv ⊢
  obtain ⟨p, hpp⟩ : ∃ p, w.heap.size = p := ⟨_, rfl⟩
  rw [hpp] at C0 GW sv ⊢
  obtain ⟨B, hBB, C⟩ : ∃ B, B = p ∧ Cu B zs p 0 v := ⟨_, rfl, C0⟩
  clear C0
  have hB := C.base
  have O := empty1 v (base := p + 1) (by omega)
  rw [sv] at O
  replace C := C.alloc (.cells #[] 3)
  replace GW := grown_trans GW (grown_alloc _ (.cells #[] 3) _)
  have sv0 := size_alloc' v (.cells #[] 3)
  generalize v.alloc (.cells #[] 3) = v0 at C GW O sv0 ⊢
  have zv0 := GW.size
  have hp := C.lt
  try go_wp2_with fail
  refine (pick_d B zs p (0) _ 16 C (by omega) (by omega) (by omega)).mono ?_
  rintro e u121 ⟨n0, n0_r, rfl, C1, G⟩
  have yu121 : v0.heap.size ≤ u121.heap.size := G.size
  replace O := own_grown O G (fun k hk => by injection hk with hk; omega)
  replace GW := grown_trans GW G
  replace C := C1
  clear C1 G
  have zu121 := GW.size
  try go_wp2_with fail
  refine (one_d B zs p (0 + 2) _ 16 C (by omega) (by omega) (by omega)).mono ?_
  rintro e u122 ⟨q, rfl, C1, G⟩
  have yu122 : u121.heap.size ≤ u122.heap.size := G.size
  replace O := own_grown O G (fun k hk => by injection hk with hk; omega)
  replace GW := grown_trans GW G
  replace C := C1
  clear C1 G
  have zu122 := GW.size
  cases q
  · skip
    go_wp2_with fail
    go_loopw [4] (fun oo wr => ∃ (L : List Int) (g c : Nat), (L.length : Int) ≤ 21 ∧ Hid (∀ x ∈ L, 0 ≤ x ∧ x ≤ 501) ∧ oo = .slice (some ⟨g, 0, none⟩) L.length c ∧ wr.ownsRow (p + 1) 3 1 (.slice (some ⟨g, 0, none⟩) L.length c) L.length (iv L) ∧ Cu B zs p (20 + 2 * L.length) wr ∧ w.grownBy wr (some p)) (fun oo _ => 30 - slen oo)
    case atStart => exact ⟨[], _, 0, by simp, Lib.hid (fun x hx => by cases hx), rfl, O, C.le (by simp), GW⟩
    case round =>
      clear O C GW
      obtain ⟨L, g, c, hL, HM, rfl, O, C, GW⟩ := hrel
      have hp2 := C.lt
      have zwr := GW.size
      have hg0 := own_ge O g (by simp [Value.ownBlock])
      by_cases hlt : (L.length : Int) < n0
      · have hlt' : decide ((L.length : Int) < n0) = true := decide_eq_true hlt
        try go_wp2_with fail
        refine (among_d B zs p (20 + 2 * L.length) _ _ 8 [1, 5, 5, 20, 40, 40, 120, 500] (C.alloc (.cells #[.int .i64 1, .int .i64 5, .int .i64 5, .int .i64 20, .int .i64 40, .int .i64 40, .int .i64 120, .int .i64 500] 3)) (by omega) (lst_at wr _ _ (by omega)) (by omega) (by simp) (by simp)).mono ?_
        rintro e u143 ⟨a, hx, rfl, C1, G⟩
        have a_r : 1 ≤ a ∧ a ≤ 500 := by simp at hx; omega
        clear hx
        have yu143 : wr.heap.size ≤ u143.heap.size := (by have := G.size; simp only [size_alloc'] at this; omega)
        replace O := own_grown (own_keep O (al (Below.refl _ _) (o := (.cells #[.int .i64 1, .int .i64 5, .int .i64 5, .int .i64 20, .int .i64 40, .int .i64 40, .int .i64 120, .int .i64 500] 3)))) G (fun k hk => by injection hk with hk; omega)
        replace GW := grown_trans (grown_trans GW (grown_alloc _ (.cells #[.int .i64 1, .int .i64 5, .int .i64 5, .int .i64 20, .int .i64 40, .int .i64 40, .int .i64 120, .int .i64 500] 3) _)) G
        replace C := C1
        clear C1 G
        have zu143 := GW.size
        obtain ⟨v, hv⟩ : ∃ v, u143 = v := ⟨_, rfl⟩
        rw [hv] at O C GW zu143 ⊢
        clear hv
        go_wp2_with (at_builtin; go_must (refine wpList_append_own _ rfl _ _ 82 rfl (p + 1) 3 i0 _ 1 8 Try.underlying82 hi0 hz0 HI1.out HI.out rfl (by decide) _ L.length _ rfl (O.alloc _) ⟨v.heap.size, 0, none⟩ 1 1 [.int .i64 a] rfl rfl (new1 v a) (one1 a) (by unfold maxLen; omega) (by omega) (by rw [size_alloc']; omega) ?_; intro v' w10 hown1 hgrow hnil))
        have hown2 : w10.ownsRow (p + 1) 3 1 v' (L ++ [(a : Int)]).length (iv (L ++ [(a : Int)])) := by
          rw [iv_app, List.length_append]
          exact hown1
        obtain ⟨g2, c2, rfl⟩ := own_some0 hown2 (fun e => by have := (hnil.1 e).2; omega)
        have hro : ∀ k, (Value.slice (some ⟨g, 0, none⟩) L.length c).ownBlock = some k → w.heap.size ≤ k := fun k hk => by have := own_ge O k hk; omega
        replace C := (C.alloc (.cells #[.int .i64 a] 3)).grown hgrow (fun k hk => by have := own_ge O k hk; omega)
        replace GW := gw_grown (grown_trans GW (grown_alloc _ (.cells #[.int .i64 a] 3) _)) hgrow hro
        clear hown1 hgrow hnil hro O
        have HLX := Lib.hid (show (L ++ [(a : Int)]).length = L.length + 1 by simp)
        have HMX := Lib.hid (show ∀ x ∈ L ++ [(a : Int)], 0 ≤ x ∧ x ≤ 501 from mem_app HM.out (by omega))
        go_wp2
        go_roundw
        case rel => exact ⟨L ++ [a], g2, c2, by rw [HLX.out]; omega, HMX, by simp, hown2, C.le (by rw [HLX.out]; omega), GW⟩
        case measure => simp [slen]; omega
      · have hlt' : decide ((L.length : Int) < n0) = false := decide_eq_false hlt
        try go_wp2_with fail
        refine (pick_d B zs p (20 + 2 * L.length) _ 30 C (by omega) (by omega) (by omega)).mono ?_
        rintro e u143 ⟨z, z_r, rfl, C1, G⟩
        have yu143 : wr.heap.size ≤ u143.heap.size := G.size
        replace O := own_grown O G (fun k hk => by injection hk with hk; omega)
        replace GW := grown_trans GW G
        replace C := C1
        clear C1 G
        have zu143 := GW.size
        by_cases hq0 : z = 0
        · subst hq0
          try go_wp2_with fail
          refine (among_d B zs p (20 + 2 * L.length + 2) _ _ 2 [0, 501] (C.alloc (.cells #[.int .i64 0, .int .i64 501] 3)) (by omega) (lst_at u143 _ _ (by omega)) (by omega) (by simp) (by simp)).mono ?_
          rintro e u144 ⟨a, hx, rfl, C1, G⟩
          have a_r : 0 ≤ a ∧ a ≤ 501 := by simp at hx; omega
          clear hx
          have yu144 : u143.heap.size ≤ u144.heap.size := (by have := G.size; simp only [size_alloc'] at this; omega)
          replace O := own_grown (own_keep O (al (Below.refl _ _) (o := (.cells #[.int .i64 0, .int .i64 501] 3)))) G (fun k hk => by injection hk with hk; omega)
          replace GW := grown_trans (grown_trans GW (grown_alloc _ (.cells #[.int .i64 0, .int .i64 501] 3) _)) G
          replace C := C1
          clear C1 G
          have zu144 := GW.size
          obtain ⟨v, hv⟩ : ∃ v, u144 = v := ⟨_, rfl⟩
          rw [hv] at O C GW zu144 ⊢
          clear hv
          go_wp2_with (at_builtin; go_must (refine wpList_append_own _ rfl _ _ 82 rfl (p + 1) 3 i0 _ 1 8 Try.underlying82 hi0 hz0 HI1.out HI.out rfl (by decide) _ L.length _ rfl (O.alloc _) ⟨v.heap.size, 0, none⟩ 1 1 [.int .i64 a] rfl rfl (new1 v a) (one1 a) (by unfold maxLen; omega) (by omega) (by rw [size_alloc']; omega) ?_; intro v' w10 hown1 hgrow hnil))
          have hown2 : w10.ownsRow (p + 1) 3 1 v' (L ++ [(a : Int)]).length (iv (L ++ [(a : Int)])) := by
            rw [iv_app, List.length_append]
            exact hown1
          obtain ⟨g2, c2, rfl⟩ := own_some0 hown2 (fun e => by have := (hnil.1 e).2; omega)
          have hro : ∀ k, (Value.slice (some ⟨g, 0, none⟩) L.length c).ownBlock = some k → w.heap.size ≤ k := fun k hk => by have := own_ge O k hk; omega
          replace C := (C.alloc (.cells #[.int .i64 a] 3)).grown hgrow (fun k hk => by have := own_ge O k hk; omega)
          replace GW := gw_grown (grown_trans GW (grown_alloc _ (.cells #[.int .i64 a] 3) _)) hgrow hro
          clear hown1 hgrow hnil hro O
          have HLX := Lib.hid (show (L ++ [(a : Int)]).length = L.length + 1 by simp)
          have HMX := Lib.hid (show ∀ x ∈ L ++ [(a : Int)], 0 ≤ x ∧ x ≤ 501 from mem_app HM.out (by omega))
          have HBW := Lib.hid (below_of GW (by omega))
          clear C GW
          go_wp2
          go_ret
          exact ⟨L ++ [a], g2, c2, by rw [HLX.out]; omega, HMX.out, by simp, own_base hown2 (by omega), HBW.out⟩
        have y0 : (z == 0) = false := by rw [beq_eq_false_iff_ne]; exact hq0
        by_cases hq1 : z = 1
        · subst hq1
          go_wp2_with fail
          have O1 := empty1 u143 (base := p + 1) (by omega)
          clear O
          replace C := C.alloc (.cells #[] 3)
          replace GW := grown_trans GW (grown_alloc _ (.cells #[] 3) _)
          go_loopw [4, 6] (fun oo ii wr => ∃ (k g c : Nat) (L : List Int), k ≤ 14 ∧ ii = .int .i64 k ∧ L.length = k ∧ Hid (∀ x ∈ L, 0 ≤ x ∧ x ≤ 501) ∧ oo = .slice (some ⟨g, 0, none⟩) L.length c ∧ wr.ownsRow (p + 1) 3 1 (.slice (some ⟨g, 0, none⟩) L.length c) L.length (iv L) ∧ Cu B zs p 300 wr ∧ w.grownBy wr (some p)) (fun _ ii _ => 14 - (intOf ii).toNat)
          case atStart => exact ⟨0, _, 0, [], by omega, rfl, rfl, Lib.hid (fun x hx => by cases hx), rfl, O1, C.le (by omega), GW⟩
          case round =>
            clear O1 C GW hg0 hL hlt hlt' HM hp2
            obtain ⟨k, g, c, L, hk, rfl, hLk, HM, rfl, O, C, GW⟩ := hrel
            have hp2 := C.lt
            have zwr := GW.size
            have e3 : IntKind.i64.wrap ((k : Int) + 1) = k + 1 := IntWalk.i64_in _ (by omega)
            by_cases hlt : k < 14
            · have hd1 : decide ((k : Int) < 14) = true := decide_eq_true (by omega)
              have HLK := Lib.hid hLk
              obtain ⟨v, hv⟩ : ∃ v, wr = v := ⟨_, rfl⟩
              rw [hv] at O C GW zwr ⊢
              clear hv
              go_wp2_with (at_builtin; go_must (refine wpList_append_own _ rfl _ _ 82 rfl (p + 1) 3 i0 _ 1 8 Try.underlying82 hi0 hz0 HI1.out HI.out rfl (by decide) _ L.length _ rfl (O.alloc _) ⟨v.heap.size, 0, none⟩ 1 1 [.int .i64 7] rfl rfl (new1 v 7) (one1 7) (by unfold maxLen; omega) (by omega) (by rw [size_alloc']; omega) ?_; intro v' w10 hown1 hgrow hnil))
              have hown2 : w10.ownsRow (p + 1) 3 1 v' (L ++ [(7 : Int)]).length (iv (L ++ [(7 : Int)])) := by
                rw [iv_app, List.length_append]
                exact hown1
              obtain ⟨g2, c2, rfl⟩ := own_some0 hown2 (fun e => by have := (hnil.1 e).2; omega)
              have hro : ∀ k, (Value.slice (some ⟨g, 0, none⟩) L.length c).ownBlock = some k → w.heap.size ≤ k := fun k hk => by have := own_ge O k hk; omega
              replace C := (C.alloc (.cells #[.int .i64 7] 3)).grown hgrow (fun k hk => by have := own_ge O k hk; omega)
              replace GW := gw_grown (grown_trans GW (grown_alloc _ (.cells #[.int .i64 7] 3) _)) hgrow hro
              clear hown1 hgrow hnil hro O
              have HLX := Lib.hid (show (L ++ [(7 : Int)]).length = L.length + 1 by simp)
              have HMX := Lib.hid (show ∀ x ∈ L ++ [(7 : Int)], 0 ≤ x ∧ x ≤ 501 from mem_app HM.out (by omega))
              clear hLk
              go_wp2
              go_roundw
              case rel => exact ⟨k + 1, g2, c2, L ++ [7], hlt, by go_num, by rw [HLX.out, HLK.out], HMX, by simp, hown2, C, GW⟩
              case measure => simp [intOf]; omega
            · have hd1 : decide ((k : Int) < 14) = false := decide_eq_false (by omega)
              have HM9 := HM
              have HO := Lib.hid (own_base O (base' := w.heap.size) (by omega))
              have HLK := Lib.hid (show L.length ≤ 22 by omega)
              clear hLk O
              have HBW := Lib.hid (below_of GW (by omega))
              clear C GW
              go_wp2
              go_ret
              exact ⟨L, g, c, HLK.out, HM9.out, rfl, HO.out, HBW.out⟩
        have y1 : (z == 1) = false := by rw [beq_eq_false_iff_ne]; exact hq1
        have HO := Lib.hid (own_base O (base' := w.heap.size) (by omega))
        have HLK := Lib.hid (show L.length ≤ 22 by omega)
        clear O
        have HBW := Lib.hid (below_of GW (by omega))
        clear C GW
        go_wp2
        go_ret
        exact ⟨L, g, c, HLK.out, HM.out, rfl, HO.out, HBW.out⟩
  · try go_wp2_with fail
    refine (pick_d B zs p (0 + 2 + 2) _ 2 C (by omega) (by omega) (by omega)).mono ?_
    rintro e u123 ⟨n1, n1_r, rfl, C1, G⟩
    have yu123 : u122.heap.size ≤ u123.heap.size := G.size
    replace O := own_grown O G (fun k hk => by injection hk with hk; omega)
    replace GW := grown_trans GW G
    replace C := C1
    clear C1 G
    have zu123 := GW.size
    have e9 : IntKind.i64.wrap (20 + n1) = 20 + n1 := IntWalk.i64_in _ (by omega)
    go_wp2_with fail
    go_loopw [4] (fun oo wr => ∃ (L : List Int) (g c : Nat), (L.length : Int) ≤ 21 ∧ Hid (∀ x ∈ L, 0 ≤ x ∧ x ≤ 501) ∧ oo = .slice (some ⟨g, 0, none⟩) L.length c ∧ wr.ownsRow (p + 1) 3 1 (.slice (some ⟨g, 0, none⟩) L.length c) L.length (iv L) ∧ Cu B zs p (20 + 2 * L.length) wr ∧ w.grownBy wr (some p)) (fun oo _ => 30 - slen oo)
    case atStart => exact ⟨[], _, 0, by simp, Lib.hid (fun x hx => by cases hx), rfl, O, C.le (by simp), GW⟩
    case round =>
      clear O C GW
      obtain ⟨L, g, c, hL, HM, rfl, O, C, GW⟩ := hrel
      have hp2 := C.lt
      have zwr := GW.size
      have hg0 := own_ge O g (by simp [Value.ownBlock])
      by_cases hlt : (L.length : Int) < 20 + n1
      · have hlt' : decide ((L.length : Int) < 20 + n1) = true := decide_eq_true hlt
        try go_wp2_with fail
        refine (among_d B zs p (20 + 2 * L.length) _ _ 8 [1, 5, 5, 20, 40, 40, 120, 500] (C.alloc (.cells #[.int .i64 1, .int .i64 5, .int .i64 5, .int .i64 20, .int .i64 40, .int .i64 40, .int .i64 120, .int .i64 500] 3)) (by omega) (lst_at wr _ _ (by omega)) (by omega) (by simp) (by simp)).mono ?_
        rintro e u144 ⟨a, hx, rfl, C1, G⟩
        have a_r : 1 ≤ a ∧ a ≤ 500 := by simp at hx; omega
        clear hx
        have yu144 : wr.heap.size ≤ u144.heap.size := (by have := G.size; simp only [size_alloc'] at this; omega)
        replace O := own_grown (own_keep O (al (Below.refl _ _) (o := (.cells #[.int .i64 1, .int .i64 5, .int .i64 5, .int .i64 20, .int .i64 40, .int .i64 40, .int .i64 120, .int .i64 500] 3)))) G (fun k hk => by injection hk with hk; omega)
        replace GW := grown_trans (grown_trans GW (grown_alloc _ (.cells #[.int .i64 1, .int .i64 5, .int .i64 5, .int .i64 20, .int .i64 40, .int .i64 40, .int .i64 120, .int .i64 500] 3) _)) G
        replace C := C1
        clear C1 G
        have zu144 := GW.size
        obtain ⟨v, hv⟩ : ∃ v, u144 = v := ⟨_, rfl⟩
        rw [hv] at O C GW zu144 ⊢
        clear hv
        go_wp2_with (at_builtin; go_must (refine wpList_append_own _ rfl _ _ 82 rfl (p + 1) 3 i0 _ 1 8 Try.underlying82 hi0 hz0 HI1.out HI.out rfl (by decide) _ L.length _ rfl (O.alloc _) ⟨v.heap.size, 0, none⟩ 1 1 [.int .i64 a] rfl rfl (new1 v a) (one1 a) (by unfold maxLen; omega) (by omega) (by rw [size_alloc']; omega) ?_; intro v' w10 hown1 hgrow hnil))
        have hown2 : w10.ownsRow (p + 1) 3 1 v' (L ++ [(a : Int)]).length (iv (L ++ [(a : Int)])) := by
          rw [iv_app, List.length_append]
          exact hown1
        obtain ⟨g2, c2, rfl⟩ := own_some0 hown2 (fun e => by have := (hnil.1 e).2; omega)
        have hro : ∀ k, (Value.slice (some ⟨g, 0, none⟩) L.length c).ownBlock = some k → w.heap.size ≤ k := fun k hk => by have := own_ge O k hk; omega
        replace C := (C.alloc (.cells #[.int .i64 a] 3)).grown hgrow (fun k hk => by have := own_ge O k hk; omega)
        replace GW := gw_grown (grown_trans GW (grown_alloc _ (.cells #[.int .i64 a] 3) _)) hgrow hro
        clear hown1 hgrow hnil hro O
        have HLX := Lib.hid (show (L ++ [(a : Int)]).length = L.length + 1 by simp)
        have HMX := Lib.hid (show ∀ x ∈ L ++ [(a : Int)], 0 ≤ x ∧ x ≤ 501 from mem_app HM.out (by omega))
        go_wp2
        go_roundw
        case rel => exact ⟨L ++ [a], g2, c2, by rw [HLX.out]; omega, HMX, by simp, hown2, C.le (by rw [HLX.out]; omega), GW⟩
        case measure => simp [slen]; omega
      · have hlt' : decide ((L.length : Int) < 20 + n1) = false := decide_eq_false hlt
        try go_wp2_with fail
        refine (pick_d B zs p (20 + 2 * L.length) _ 30 C (by omega) (by omega) (by omega)).mono ?_
        rintro e u144 ⟨z, z_r, rfl, C1, G⟩
        have yu144 : wr.heap.size ≤ u144.heap.size := G.size
        replace O := own_grown O G (fun k hk => by injection hk with hk; omega)
        replace GW := grown_trans GW G
        replace C := C1
        clear C1 G
        have zu144 := GW.size
        by_cases hq0 : z = 0
        · subst hq0
          try go_wp2_with fail
          refine (among_d B zs p (20 + 2 * L.length + 2) _ _ 2 [0, 501] (C.alloc (.cells #[.int .i64 0, .int .i64 501] 3)) (by omega) (lst_at u144 _ _ (by omega)) (by omega) (by simp) (by simp)).mono ?_
          rintro e u145 ⟨a, hx, rfl, C1, G⟩
          have a_r : 0 ≤ a ∧ a ≤ 501 := by simp at hx; omega
          clear hx
          have yu145 : u144.heap.size ≤ u145.heap.size := (by have := G.size; simp only [size_alloc'] at this; omega)
          replace O := own_grown (own_keep O (al (Below.refl _ _) (o := (.cells #[.int .i64 0, .int .i64 501] 3)))) G (fun k hk => by injection hk with hk; omega)
          replace GW := grown_trans (grown_trans GW (grown_alloc _ (.cells #[.int .i64 0, .int .i64 501] 3) _)) G
          replace C := C1
          clear C1 G
          have zu145 := GW.size
          obtain ⟨v, hv⟩ : ∃ v, u145 = v := ⟨_, rfl⟩
          rw [hv] at O C GW zu145 ⊢
          clear hv
          go_wp2_with (at_builtin; go_must (refine wpList_append_own _ rfl _ _ 82 rfl (p + 1) 3 i0 _ 1 8 Try.underlying82 hi0 hz0 HI1.out HI.out rfl (by decide) _ L.length _ rfl (O.alloc _) ⟨v.heap.size, 0, none⟩ 1 1 [.int .i64 a] rfl rfl (new1 v a) (one1 a) (by unfold maxLen; omega) (by omega) (by rw [size_alloc']; omega) ?_; intro v' w10 hown1 hgrow hnil))
          have hown2 : w10.ownsRow (p + 1) 3 1 v' (L ++ [(a : Int)]).length (iv (L ++ [(a : Int)])) := by
            rw [iv_app, List.length_append]
            exact hown1
          obtain ⟨g2, c2, rfl⟩ := own_some0 hown2 (fun e => by have := (hnil.1 e).2; omega)
          have hro : ∀ k, (Value.slice (some ⟨g, 0, none⟩) L.length c).ownBlock = some k → w.heap.size ≤ k := fun k hk => by have := own_ge O k hk; omega
          replace C := (C.alloc (.cells #[.int .i64 a] 3)).grown hgrow (fun k hk => by have := own_ge O k hk; omega)
          replace GW := gw_grown (grown_trans GW (grown_alloc _ (.cells #[.int .i64 a] 3) _)) hgrow hro
          clear hown1 hgrow hnil hro O
          have HLX := Lib.hid (show (L ++ [(a : Int)]).length = L.length + 1 by simp)
          have HMX := Lib.hid (show ∀ x ∈ L ++ [(a : Int)], 0 ≤ x ∧ x ≤ 501 from mem_app HM.out (by omega))
          have HBW := Lib.hid (below_of GW (by omega))
          clear C GW
          go_wp2
          go_ret
          exact ⟨L ++ [a], g2, c2, by rw [HLX.out]; omega, HMX.out, by simp, own_base hown2 (by omega), HBW.out⟩
        have y0 : (z == 0) = false := by rw [beq_eq_false_iff_ne]; exact hq0
        by_cases hq1 : z = 1
        · subst hq1
          go_wp2_with fail
          have O1 := empty1 u144 (base := p + 1) (by omega)
          clear O
          replace C := C.alloc (.cells #[] 3)
          replace GW := grown_trans GW (grown_alloc _ (.cells #[] 3) _)
          go_loopw [4, 6] (fun oo ii wr => ∃ (k g c : Nat) (L : List Int), k ≤ 14 ∧ ii = .int .i64 k ∧ L.length = k ∧ Hid (∀ x ∈ L, 0 ≤ x ∧ x ≤ 501) ∧ oo = .slice (some ⟨g, 0, none⟩) L.length c ∧ wr.ownsRow (p + 1) 3 1 (.slice (some ⟨g, 0, none⟩) L.length c) L.length (iv L) ∧ Cu B zs p 300 wr ∧ w.grownBy wr (some p)) (fun _ ii _ => 14 - (intOf ii).toNat)
          case atStart => exact ⟨0, _, 0, [], by omega, rfl, rfl, Lib.hid (fun x hx => by cases hx), rfl, O1, C.le (by omega), GW⟩
          case round =>
            clear O1 C GW hg0 hL hlt hlt' HM hp2
            obtain ⟨k, g, c, L, hk, rfl, hLk, HM, rfl, O, C, GW⟩ := hrel
            have hp2 := C.lt
            have zwr := GW.size
            have e3 : IntKind.i64.wrap ((k : Int) + 1) = k + 1 := IntWalk.i64_in _ (by omega)
            by_cases hlt : k < 14
            · have hd1 : decide ((k : Int) < 14) = true := decide_eq_true (by omega)
              have HLK := Lib.hid hLk
              obtain ⟨v, hv⟩ : ∃ v, wr = v := ⟨_, rfl⟩
              rw [hv] at O C GW zwr ⊢
              clear hv
              go_wp2_with (at_builtin; go_must (refine wpList_append_own _ rfl _ _ 82 rfl (p + 1) 3 i0 _ 1 8 Try.underlying82 hi0 hz0 HI1.out HI.out rfl (by decide) _ L.length _ rfl (O.alloc _) ⟨v.heap.size, 0, none⟩ 1 1 [.int .i64 7] rfl rfl (new1 v 7) (one1 7) (by unfold maxLen; omega) (by omega) (by rw [size_alloc']; omega) ?_; intro v' w10 hown1 hgrow hnil))
              have hown2 : w10.ownsRow (p + 1) 3 1 v' (L ++ [(7 : Int)]).length (iv (L ++ [(7 : Int)])) := by
                rw [iv_app, List.length_append]
                exact hown1
              obtain ⟨g2, c2, rfl⟩ := own_some0 hown2 (fun e => by have := (hnil.1 e).2; omega)
              have hro : ∀ k, (Value.slice (some ⟨g, 0, none⟩) L.length c).ownBlock = some k → w.heap.size ≤ k := fun k hk => by have := own_ge O k hk; omega
              replace C := (C.alloc (.cells #[.int .i64 7] 3)).grown hgrow (fun k hk => by have := own_ge O k hk; omega)
              replace GW := gw_grown (grown_trans GW (grown_alloc _ (.cells #[.int .i64 7] 3) _)) hgrow hro
              clear hown1 hgrow hnil hro O
              have HLX := Lib.hid (show (L ++ [(7 : Int)]).length = L.length + 1 by simp)
              have HMX := Lib.hid (show ∀ x ∈ L ++ [(7 : Int)], 0 ≤ x ∧ x ≤ 501 from mem_app HM.out (by omega))
              clear hLk
              go_wp2
              go_roundw
              case rel => exact ⟨k + 1, g2, c2, L ++ [7], hlt, by go_num, by rw [HLX.out, HLK.out], HMX, by simp, hown2, C, GW⟩
              case measure => simp [intOf]; omega
            · have hd1 : decide ((k : Int) < 14) = false := decide_eq_false (by omega)
              have HM9 := HM
              have HO := Lib.hid (own_base O (base' := w.heap.size) (by omega))
              have HLK := Lib.hid (show L.length ≤ 22 by omega)
              clear hLk O
              have HBW := Lib.hid (below_of GW (by omega))
              clear C GW
              go_wp2
              go_ret
              exact ⟨L, g, c, HLK.out, HM9.out, rfl, HO.out, HBW.out⟩
        have y1 : (z == 1) = false := by rw [beq_eq_false_iff_ne]; exact hq1
        have HO := Lib.hid (own_base O (base' := w.heap.size) (by omega))
        have HLK := Lib.hid (show L.length ≤ 22 by omega)
        clear O
        have HBW := Lib.hid (below_of GW (by omega))
        clear C GW
        go_wp2
        go_ret
        exact ⟨L, g, c, HLK.out, HM.out, rfl, HO.out, HBW.out⟩
end Go.Proofs.Ytpbmncecejchjaa.DStack
