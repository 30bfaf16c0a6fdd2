/- The draws of FnSplitJoin: a text and a separator, a list of texts and a mark, two texts. -/
import Derived.Test.YtggloekjjnhhjaaDoorDr
import Derived.Test.YtggloekjjnhhjaaDoorLawSplit
namespace Go.Proofs.YtggloekjjnhhjaaDoor.DSJ
open Go.RowKit Go.Proofs.YtggloekjjnhhjaaDoor.Mem Go.Proofs.YtggloekjjnhhjaaDoor.Base Go.Proofs.YtggloekjjnhhjaaDoor.Draw Go.Proofs.YtggloekjjnhhjaaDoor.Boxes Go.Proofs.YtggloekjjnhhjaaDoor.Keep Go.Proofs.YtggloekjjnhhjaaDoor.Dr Go.Proofs.YtggloekjjnhhjaaDoor.Strs
set_option linter.unusedVariables false
set_option maxRecDepth 100000
theorem info_s : (Tryd.prog.info? 9).map (fun i => (i.zero, i.size, i.bytes)) = some (some (.string ByteArray.empty), 1, 16) := by kernel_rfl
theorem info_u8 : (Tryd.prog.info? 5).map (fun i => (i.zero, i.size, i.bytes)) = some (some (.int .u8 0), 1, 1) := by kernel_rfl
theorem cu_at {w : World} {A : Option Addr} {zs : List Int} (h : Src w A zs) (cap : Nat) {p : Nat} (hp : p = w.heap.size) : Cu w.heap.size zs p 0 (w.alloc (.cells #[.slice A zs.length cap, .int .i64 0, .int .u64 0] 37)) := ⟨0, Nat.le_refl _, hp ▸ cur_new h cap⟩
theorem below_of {w W : World} {p : Nat} (h : w.grownBy W (some p)) (hp : w.heap.size ≤ p) : Below w.heap.size w W := (Below.refl _ w).grown h (Nat.le_refl _) (fun k hk => by injection hk with hk; omega)
theorem of_d (B : Nat) (zs : List Int) (p K : Nat) (w : World) (g c : Nat) (xs : List ByteArray) (h : Cu B zs p K w) (hk : K ≤ 900000000) (hl : Lst w g (xs.map Value.string)) (hg : g ≠ p) (hx0 : 1 ≤ xs.length) (hx1 : xs.length ≤ 65536) :
    Calls Tryd.prog 14 #[.pointer (some ⟨p, 0, none⟩), .slice (some ⟨g, 0, none⟩) xs.length c] w fun e w' => ∃ x, x ∈ xs ∧ e = .returned (.string x) ∧ Cu B zs p (K + 2) w' ∧ w.grownBy w' (some p) := by
  obtain ⟨k, hk1, hc⟩ := h
  refine (of_any B zs w p k g c xs hc (by omega) hl hg hx0 hx1).mono ?_
  rintro e w' ⟨⟨x, hx, rfl⟩, ⟨⟨k', hk', hc'⟩, G⟩⟩
  exact ⟨x, hx, rfl, ⟨k', by omega, hc'⟩, G⟩
theorem any1_d (B : Nat) (zs : List Int) (p K : Nat) (w : World) (h : Cu B zs p K w) (hk : K ≤ 900000000) :
    Calls Tryd.prog 13 #[.pointer (some ⟨p, 0, none⟩)] w fun e w' => ∃ x : ByteArray, x.size ≤ 10 ∧ e = .returned (.string x) ∧ Cu B zs p (K + 2) w' ∧ w.grownBy w' (some p) := by
  obtain ⟨k, hk1, hc⟩ := h
  refine (any1_any B zs w p k hc (by omega)).mono ?_
  rintro e w' ⟨⟨x, hx, rfl⟩, ⟨⟨k', hk', hc'⟩, G⟩⟩
  exact ⟨x, hx, rfl, ⟨k', by omega, hc'⟩, G⟩
def sepL : List ByteArray := [⟨#[44]⟩, ⟨#[44]⟩, ⟨#[32]⟩, ⟨#[]⟩, ⟨#[44, 44]⟩]
theorem sepL_size : ∀ x ∈ sepL, x.size ≤ 10 := by decide
def markL : List ByteArray := [⟨#[44]⟩, ⟨#[59]⟩, ⟨#[59]⟩, ⟨#[]⟩, ⟨#[97, 98]⟩]
theorem markL_size : ∀ x ∈ markL, x.size ≤ 10 := by decide
def D2 (w : World) (e : Ending) (w' : World) : Prop := ∃ x y : ByteArray, (x.size ≤ 10 ∧ y.size ≤ 10) ∧ e = .returned (.tuple #[.string x, .string y]) ∧ Below w.heap.size w w'
def DL (w : World) (e : Ending) (w' : World) : Prop := ∃ (L : List ByteArray) (g c : Nat) (y : ByteArray), (L.length ≤ 10 ∧ (∀ s ∈ L, s.size ≤ 4100) ∧ y.size ≤ 10) ∧ e = .returned (.tuple #[.slice (some ⟨g, 0, none⟩) L.length c, .string y]) ∧
  w'.ownsRow w.heap.size 9 1 (.slice (some ⟨g, 0, none⟩) L.length c) L.length (strv L) ∧ Below w.heap.size w w'
theorem drawSplit (A : Option Addr) (cap : Nat) (zs : List Int) (w : World) (h : Src w A zs) : Calls Tryd.prog 5 #[.slice A zs.length cap] w (D2 w) := by
  have HC := Lib.hid (cu_at h cap (p := w.heap.size) rfl)
  have HG := Lib.hid (grown_alloc w (.cells #[.slice A zs.length cap, .int .i64 0, .int .u64 0] 37) (some w.heap.size))
  go_enter Tryd.func5, Tryd.ntmps5
  go_wp2_with fail
  have C := HC.out
  have GW := HG.out
  clear HC HG h
  generalize w.alloc (.cells #[.slice A zs.length cap, .int .i64 0, .int .u64 0] 37) = v at C GW ⊢
  generalize hpp : w.heap.size = p at C GW ⊢
  have HP := Lib.hid hpp; clear hpp
  refine (any1_d p zs p 0 v C (by omega)).mono ?_
  rintro e v1 ⟨s, hs, rfl, C1, G1⟩
  have GW1 := grown_trans GW G1
  have z1 := C1.lt
  clear C GW G1
  go_wp2_with fail
  refine (of_d p zs p (0 + 2) _ v1.heap.size 5 sepL (C1.alloc _) (by omega) (lst_at v1 (sepL.map Value.string) _ rfl) (by omega) (by decide) (by decide)).mono ?_
  rintro e v2 ⟨x, hx, rfl, C2, G2⟩
  have hxs := sepL_size x hx
  have GW2 := grown_trans (grown_trans GW1 (grown_alloc _ _ _)) G2
  have HB := Lib.hid (below_of GW2 (by rw [HP.out]; exact Nat.le_refl _))
  clear hx C2 G2 GW2 GW1 C1
  go_wp2
  go_ret2
  exact ⟨s, x, ⟨hs, hxs⟩, rfl, HB.out⟩
theorem drawLess (A : Option Addr) (cap : Nat) (zs : List Int) (w : World) (h : Src w A zs) : Calls Tryd.prog 10 #[.slice A zs.length cap] w (D2 w) := by
  have HC := Lib.hid (cu_at h cap (p := w.heap.size) rfl)
  have HG := Lib.hid (grown_alloc w (.cells #[.slice A zs.length cap, .int .i64 0, .int .u64 0] 37) (some w.heap.size))
  go_enter Tryd.func10, Tryd.ntmps10
  go_wp2_with fail
  have C := HC.out
  have GW := HG.out
  clear HC HG h
  generalize w.alloc (.cells #[.slice A zs.length cap, .int .i64 0, .int .u64 0] 37) = v at C GW ⊢
  generalize hpp : w.heap.size = p at C GW ⊢
  have HP := Lib.hid hpp; clear hpp
  refine (any1_d p zs p 0 v C (by omega)).mono ?_
  rintro e v1 ⟨s, hs, rfl, C1, G1⟩
  have GW1 := grown_trans GW G1
  clear C GW G1
  go_wp2_with fail
  refine (any1_d p zs p _ v1 C1 (by omega)).mono ?_
  rintro e v2 ⟨x, hxs, rfl, C2, G2⟩
  have GW2 := grown_trans GW1 G2
  have HB := Lib.hid (below_of GW2 (by rw [HP.out]; exact Nat.le_refl _))
  clear C2 G2 GW2 GW1 C1
  go_wp2
  go_ret2
  exact ⟨s, x, ⟨hs, hxs⟩, rfl, HB.out⟩
theorem cell_add (w : World) (b o j : Nat) : w.cell? (Addr.add ⟨b, o, none⟩ j) = w.cell? ⟨b, o + j, none⟩ := by
  unfold Addr.add; split
  · rename_i h; subst h; rfl
  · rfl
theorem new1 (W : World) (x : ByteArray) : ∀ j u, [Value.string x][j]? = some u → (W.alloc (.cells #[.string x] 9)).cell? ((⟨W.heap.size, 0, none⟩ : Addr).add j) = some u := by
  intro j u hu
  rw [cell_add, Nat.zero_add, World.cell?_alloc_at _ _ _ _ rfl]
  simpa using hu
theorem one1 (x : ByteArray) : ∀ u ∈ [Value.string x], u.oneCell' = true := by
  intro u hu; simp at hu; subst hu; rfl
theorem strv_snoc (l : List ByteArray) (x : ByteArray) : strv (l ++ [x]) = strv l ++ [Value.string x] := by simp [strv]
theorem own_some0 {w : World} {base : Nat} {e : TypeId} {size n : Nat} {v : Value} {xs : List Value} (h : w.ownsRow base e size v n xs) (hv : v ≠ .slice none 0 0) : ∃ g c, v = .slice (some ⟨g, 0, none⟩) n c := by
  rcases h.2 with ⟨h1, _⟩ | ⟨g, cap, cur, h1, _⟩
  · exact absurd h1 hv
  · exact ⟨g, cap, h1⟩
set_option maxHeartbeats 1600000 in
theorem drawJoin (A : Option Addr) (cap : Nat) (zs : List Int) (w : World) (h : Src w A zs) : Calls Tryd.prog 7 #[.slice A zs.length cap] w (DL w) := by
  obtain ⟨i0, hi0, hz0, hz1, hz2⟩ := info_parts info_s
  have HI := Lib.hid hz2; clear hz2
  have HI1 := Lib.hid hz1; clear hz1
  have HC := Lib.hid (cu_at h cap (p := w.heap.size) rfl)
  have HG := Lib.hid (grown_alloc w (.cells #[.slice A zs.length cap, .int .i64 0, .int .u64 0] 37) (some w.heap.size))
  go_enter Tryd.func7, Tryd.ntmps7
  go_wp2_with fail
  have C := HC.out
  have GW := HG.out
  have sv := size_alloc' w (.cells #[.slice A zs.length cap, .int .i64 0, .int .u64 0] 37)
  clear HC HG h
  generalize w.alloc (.cells #[.slice A zs.length cap, .int .i64 0, .int .u64 0] 37) = v at C GW sv ⊢
  have O := World.ownsRow_lit v #[] 0 (e := 9) (size := 1) (base := w.heap.size + 1) (by omega) (by unfold maxLen; omega) rfl
  replace C := C.alloc (.cells #[] 9)
  replace GW := grown_trans GW (grown_alloc _ (.cells #[] 9) _)
  have sv2 := size_alloc' v (.cells #[] 9)
  generalize v.alloc (.cells #[] 9) = v0 at C GW O sv2 ⊢
  have hvp : v.heap.size = w.heap.size + 1 := sv
  rw [hvp] at O sv2
  clear sv hvp
  generalize hpp : w.heap.size = p at C GW O sv2 ⊢
  have HP := Lib.hid hpp; clear hpp
  refine (pick_d p zs p 0 v0 4 C (by omega) (by omega) (by omega)).mono ?_
  rintro e v1 ⟨n0, hn0, rfl, C1, G1⟩
  replace O := own_grown O G1 (fun k hk => by injection hk with hk; omega)
  replace GW := grown_trans GW G1
  obtain ⟨m, rfl⟩ : ∃ m : Nat, n0 = m := ⟨n0.toNat, by omega⟩
  clear C G1 sv2
  go_wp2_with fail
  go_loopw [5, 7] (fun oo ii wr => ∃ (L : List ByteArray) (g c : Nat), L.length ≤ m ∧ ii = .int .i64 L.length ∧ oo = .slice (some ⟨g, 0, none⟩) L.length c ∧ Hid (∀ s ∈ L, s.size ≤ 4100) ∧ wr.ownsRow (p + 1) 9 1 (.slice (some ⟨g, 0, none⟩) L.length c) L.length (strv L) ∧ Cu p zs p (2 + 2 * L.length) wr ∧ w.grownBy wr (some p)) (fun _ ii _ => m - (intOf ii).toNat)
  case atStart => exact ⟨[], _, _, by simp, rfl, rfl, Lib.hid (fun s hs => by cases hs), (by simpa [strv] using O), C1.le (by omega), GW⟩
  case round =>
    clear O C1 GW
    obtain ⟨L, g, c, hL, rfl, rfl, HZ, O, C, GW⟩ := hrel
    have hg := own_ge O g (by simp [Value.ownBlock])
    by_cases hlt : L.length < m
    · have hlt' : decide ((L.length : Int) < m) = true := decide_eq_true (by omega)
      have e1 : IntKind.i64.wrap ((L.length : Int) + 1) = (L.length : Int) + 1 := IntWalk.i64_in _ (by omega)
      go_wp2_with fail
      refine (any1_d p zs p _ wr C (by omega)).mono ?_
      rintro e v2 ⟨x, hxs, rfl, C2, G2⟩
      have O2 := own_grown O G2 (fun k hk => by injection hk with hk; omega)
      have GW2 := grown_trans GW G2
      have z2 := C2.lt
      have HLT := Lib.hid hlt
      clear O C GW G2
      go_wp2_with (at_builtin; go_must (refine wpList_append_own _ rfl _ _ 26 rfl (p + 1) 9 i0 _ 1 16 Tryd.underlying26 hi0 hz0 HI1.out HI.out rfl (by decide) _ L.length _ rfl (O2.alloc _) ⟨v2.heap.size, 0, none⟩ 1 1 [.string x] rfl rfl (new1 v2 x) (one1 x) (by unfold maxLen; omega) (by omega) (by rw [size_alloc']; omega) ?_; intro v' w10 hown1 hgrow hnil))
      have hown2 : w10.ownsRow (p + 1) 9 1 v' (L ++ [x]).length (strv (L ++ [x])) := by
        rw [strv_snoc, List.length_append]
        exact hown1
      obtain ⟨g2, c2, rfl⟩ := own_some0 hown2 (fun e => by have := (hnil.1 e).2; omega)
      have hro : ∀ k, (Value.slice (some ⟨g, 0, none⟩) L.length c).ownBlock = some k → p + 1 ≤ k := fun k hk => own_ge O2 k hk
      have C3 := (C2.alloc (.cells #[.string x] 9)).grown hgrow (fun k hk => by have := hro k hk; omega)
      have GW3 := gw_grown (grown_trans GW2 (grown_alloc _ (.cells #[.string x] 9) _)) hgrow (fun k hk => by have := hro k hk; rw [HP.out]; omega)
      have HZ2 := Lib.hid (show ∀ s ∈ L ++ [x], s.size ≤ 4100 from fun s hs => by
        rcases List.mem_append.1 hs with h1 | h1
        · exact HZ.out s h1
        · rw [List.mem_singleton.1 h1]; omega)
      clear hown1 hgrow hnil hro O2 C2 GW2
      go_wp2
      go_roundw
      case rel => exact ⟨L ++ [x], g2, c2, by have := HLT.out; simp; omega, by simp, by simp, HZ2, hown2, C3.le (by simp; omega), GW3⟩
      case measure => have := HLT.out; simp [intOf]; omega
    · have hlt' : decide ((L.length : Int) < m) = false := decide_eq_false (by omega)
      go_wp2_with fail
      refine (one_d p zs p _ wr 20 C (by omega) (by omega) (by omega)).mono ?_
      rintro e v2 ⟨b, rfl, C2, G2⟩
      have O2 := own_grown O G2 (fun k hk => by injection hk with hk; omega)
      have GW2 := grown_trans GW G2
      have z2 := C2.lt
      clear O C GW G2
      cases b
      · go_wp2_with fail
        refine (of_d p zs p _ _ v2.heap.size 5 markL (C2.alloc _) (by omega) (lst_at v2 (markL.map Value.string) _ rfl) (by omega) (by decide) (by decide)).mono ?_
        rintro e v3 ⟨y, hy, rfl, C3, G3⟩
        have hys := markL_size y hy
        have O3 := own_grown (own_keep O2 (al (Below.refl _ _) (o := .cells (markL.map Value.string).toArray _))) G3 (fun k hk => by injection hk with hk; omega)
        have HB := Lib.hid (below_of (grown_trans (grown_trans GW2 (grown_alloc _ _ _)) G3) (by rw [HP.out]; exact Nat.le_refl _))
        have HO := Lib.hid (own_base O3 (base' := w.heap.size) (by rw [HP.out]; omega))
        clear hy C3 G3 O3 GW2 C2 O2
        go_wp2
        go_ret2
        exact ⟨L, g, c, y, ⟨by omega, HZ.out, hys⟩, rfl, HO.out, HB.out⟩
      · go_wp2_with fail
        refine (pick_d p zs p _ v2 20 C2 (by omega) (by omega) (by omega)).mono ?_
        rintro e v3 ⟨x, hx, rfl, C3, G3⟩
        have O3 := own_grown O2 G3 (fun k hk => by injection hk with hk; omega)
        have GW3 := grown_trans GW2 G3
        have z3 := C3.lt
        clear O2 C2 GW2 G3
        obtain ⟨j, rfl⟩ : ∃ j : Nat, x = j := ⟨x.toNat, by omega⟩
        obtain ⟨n, hn⟩ : ∃ n : Nat, n = 3990 + j := ⟨_, rfl⟩
        have hLn : (3990 : Int) + j = (n : Int) := by omega
        have HL := Lib.hid hLn; clear hLn
        have hn4 : n ≤ 4009 := by omega
        have HN := Lib.hid hn; clear hn
        obtain ⟨j0, hj, hy0, hy1, hy2⟩ := info_parts info_u8
        have HJ := Lib.hid hy2; clear hy2
        have HJ1 := Lib.hid hy1; clear hy1
        have c1 : j0.bytes * n ≤ 281474976710656 := by rw [HJ.out]; omega
        have c2 : n ≤ maxLen := by unfold maxLen; omega
        have y0 : IntKind.i64.wrap ((3990 : Int) + j) = (3990 : Int) + j := IntWalk.i64_in _ (by omega)
        go_wp2_with (at_make; go_must (refine wpList_make_full _ rfl _ _ 22 rfl v3.heap.size 5 j0 _ 1 Tryd.underlying22 hj hy0 HJ1.out _ _ _ _ n rfl rfl HL.out HL.out c1 c2 (Nat.le_refl _) ?_; intro w3 hown hg3))
        have hb3 : Below v3.heap.size v3 w3 := (Below.refl _ v3).grown hg3 (Nat.le_refl _) (by intro k hk; cases hk)
        have C4 := C3.more hb3
        have GW4 := grown_more GW3 hb3
        have O4 := own_keep O3 hb3
        have zb := hb3.size
        clear hg3
        have hcv := run_convert_bytes_arg (P := Tryd.prog) w3 22 5 Tryd.underlying22 Tryd.underlying5 v3.heap.size 0 n n (List.replicate n 0) (by simp) (fun i hi => by
          rw [Nat.zero_add, hown.cellAt i (by omega)]
          simp [Value.cells, toList_madeCells_one, hi]) 9 Tryd.underlying9
        have hsz : (strOfNums (List.replicate n 0)).size ≤ 4100 := by rw [strOfNums_size]; simp; omega
        clear hown C3 GW3 O3 hb3
        generalize strOfNums (List.replicate n 0) = R at hcv hsz
        go_wp2
        rw [hcv]
        go_simp
        clear hcv
        go_wp2_with (at_builtin; go_must (refine wpList_append_own _ rfl _ _ 26 rfl (p + 1) 9 i0 _ 1 16 Tryd.underlying26 hi0 hz0 HI1.out HI.out rfl (by decide) _ L.length _ rfl (O4.alloc _) ⟨w3.heap.size, 0, none⟩ 1 1 [.string R] rfl rfl (new1 w3 R) (one1 R) (by unfold maxLen; omega) (by omega) (by rw [size_alloc']; omega) ?_; intro v' w10 hown1 hgrow hnil))
        have hown2 : w10.ownsRow (p + 1) 9 1 v' (L ++ [R]).length (strv (L ++ [R])) := by
          rw [strv_snoc, List.length_append]
          exact hown1
        obtain ⟨g2, c2', rfl⟩ := own_some0 hown2 (fun e => by have := (hnil.1 e).2; omega)
        have hg2 := own_ge hown2 g2 (by simp [Value.ownBlock])
        have hro : ∀ k, (Value.slice (some ⟨g, 0, none⟩) L.length c).ownBlock = some k → p + 1 ≤ k := fun k hk => own_ge O4 k hk
        have C5 := (C4.alloc (.cells #[.string R] 9)).grown hgrow (fun k hk => by have := hro k hk; omega)
        have GW5 := gw_grown (grown_trans GW4 (grown_alloc _ (.cells #[.string R] 9) _)) hgrow (fun k hk => by have := hro k hk; rw [HP.out]; omega)
        have HZ2 := Lib.hid (show ∀ s ∈ L ++ [R], s.size ≤ 4100 from fun s hs => by
          rcases List.mem_append.1 hs with h1 | h1
          · exact HZ.out s h1
          · rw [List.mem_singleton.1 h1]; exact hsz)
        have HLN := Lib.hid (show (L ++ [R]).length ≤ 10 by simp; omega)
        have z5 := C5.lt
        clear hown1 hgrow hnil hro O4 C4 GW4
        go_wp2_with fail
        refine (of_d p zs p _ _ w10.heap.size 5 markL (C5.alloc _) (by omega) (lst_at w10 (markL.map Value.string) _ rfl) (by omega) (by decide) (by decide)).mono ?_
        rintro e v5 ⟨y, hy, rfl, C6, G6⟩
        have hys := markL_size y hy
        have O6 := own_grown (own_keep hown2 (al (Below.refl _ _) (o := .cells (markL.map Value.string).toArray _))) G6 (fun k hk => by injection hk with hk; omega)
        have HB := Lib.hid (below_of (grown_trans (grown_trans GW5 (grown_alloc _ _ _)) G6) (by rw [HP.out]; exact Nat.le_refl _))
        have HO := Lib.hid (own_base O6 (base' := w.heap.size) (by rw [HP.out]; omega))
        clear hy C6 G6 O6 GW5 C5 hown2
        go_wp2
        go_ret2
        exact ⟨L ++ [R], g2, c2', y, ⟨HLN.out, HZ2.out, hys⟩, by simp, HO.out, HB.out⟩
end Go.Proofs.YtggloekjjnhhjaaDoor.DSJ
