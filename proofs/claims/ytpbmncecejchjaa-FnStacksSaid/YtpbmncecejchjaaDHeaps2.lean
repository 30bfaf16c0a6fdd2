/- DrawRainOn and DrawCoverHeaps. Made by tools/mk_dheaps2.py. -/
import Derived.Test.YtpbmncecejchjaaDHeaps
namespace Go.Proofs.Ytpbmncecejchjaa.DHeaps2
open Go.RowKit Go.Proofs.Ytpbmncecejchjaa.Mem Go.Proofs.Ytpbmncecejchjaa.Base Go.Proofs.Ytpbmncecejchjaa.Draw Go.Proofs.Ytpbmncecejchjaa.Boxes Go.Proofs.Ytpbmncecejchjaa.Keep Go.Proofs.Ytpbmncecejchjaa.Dr Go.Proofs.Ytpbmncecejchjaa.SInt Go.Proofs.Ytpbmncecejchjaa.Nest Go.Proofs.Ytpbmncecejchjaa.HeapS Go.Proofs.Ytpbmncecejchjaa.DHeap0 Go.Proofs.Ytpbmncecejchjaa.DHeaps0
open Go.Proofs.Ytpbmncecejchjaa.DStack (cu_at below_of)
set_option linter.unusedVariables false
set_option linter.unusedSimpArgs false
set_option maxRecDepth 100000
theorem lst_pre {w : World} {g : Nat} {xs : List Value} (h : Lst w g xs) (k : Nat) : Lst w g (xs.take k) := ⟨h.1, fun j v hv => h.2 j v (by
  rw [List.getElem?_take] at hv
  split at hv
  · exact hv
  · cases hv)⟩
def DH (w : World) (e : Ending) (w' : World) : Prop :=
  ∃ (l : List R) (g c : Nat) (r : Int), l.length ≤ 20 ∧ e = .returned (.tuple #[.slice (some ⟨g, 0, none⟩) l.length c, .int .i64 r]) ∧ Hs w' w'.heap.size (some ⟨g, 0, none⟩) l ∧ Below w.heap.size w w'
set_option maxHeartbeats 3200000 in
theorem drawRain (A : Option Addr) (cap : Nat) (zs : List Int) (w : World) (h : Draw.Src w A zs) : Calls Try.prog 55 #[.slice A zs.length cap] w (DH w) := by
  have C0 := cu_at h cap (p := w.heap.size) rfl
  have G0 : w.grownBy (w.alloc (.cells #[.slice A zs.length cap, .int .i64 0, .int .u64 0] 96)) (some w.heap.size) := grown_alloc w _ _
  have S0 : (w.alloc (.cells #[.slice A zs.length cap, .int .i64 0, .int .u64 0] 96)).heap.size = w.heap.size + 1 := size_alloc' _ _
  have H0 := Lib.hid (And.intro C0 (And.intro G0 S0)); clear C0 G0 S0 h
  go_enter Try.func55, Try.ntmps55
  go_wp2_with fail
  obtain ⟨C0, GW, sv⟩ := H0.out
  clear H0
  generalize w.alloc (.cells #[.slice A zs.length cap, .int .i64 0, .int .u64 0] 96) = v at C0 GW sv ⊢
  obtain ⟨p, hpp⟩ : ∃ p, w.heap.size = p := ⟨_, rfl⟩
  rw [hpp] at C0 GW sv ⊢
  obtain ⟨B, hBB, C⟩ : ∃ B, B = p ∧ Cu B zs p 0 v := ⟨_, rfl, C0⟩
  clear C0
  have hp : p < v.heap.size := by omega
  have HGW := Lib.hid GW; clear GW
  refine (DHeaps.heaps_d B zs p 0 v C (by omega) hp).mono ?_
  rintro e V1 ⟨g, c, l, hl, rfl, hL⟩
  have HL := Lib.hid hL; clear hL C
  go_wp2_with fail
  have hLs := lst_at V1 [.int .i64 0, .int .i64 9, .int .i64 10, .int .i64 55, .int .i64 300, .int .i64 (-1), .int .i64 301] 3 (g := V1.heap.size) rfl
  have hsz : V1.heap.size ≠ p := by have := HL.out.GW.size; omega
  have ha := HL.out.alloc (.cells #[.int .i64 0, .int .i64 9, .int .i64 10, .int .i64 55, .int .i64 300, .int .i64 (-1), .int .i64 301] 3)
  refine (pick_d B zs p _ _ 24 ha.C (by omega) (by omega) (by omega)).mono ?_
  rintro e V2 ⟨x, hx, rfl, C2, G2⟩
  have HT := Lib.hid (hLs.went G2 hsz)
  replace HL := Lib.hid (ha.went C2 G2)
  clear ha hLs C2 G2 sv
  generalize V1.heap.size = gl at *
  have e0 : x.tdiv 11 = x / 11 := Int.tdiv_eq_ediv_of_nonneg (by omega)
  obtain hq | hq | hq : x / 11 = 0 ∨ x / 11 = 1 ∨ x / 11 = 2 := by omega
  · have e1 : x.tdiv 11 = 0 := e0.trans hq
    clear e0 hq
    have hT : Lst V2 gl (([0, 9, 10, 55, 300] : List Int).map (Value.int .i64)) := lst_pre HT.out 5
    go_wp2_with fail
    refine (among_d B zs p _ V2 gl 7 [0, 9, 10, 55, 300] HL.out.C (by omega) hT hsz (by simp) (by simp)).mono ?_
    rintro e V3 ⟨r, hr, rfl, C3, G3⟩
    replace HL := Lib.hid (HL.out.went C3 G3)
    clear C3 G3 hT hr
    go_wp2
    go_ret2
    exact ⟨l, g, c, r, hl, rfl, HL.out.hs (by omega), below_of (grown_trans HGW.out HL.out.GW) (by omega)⟩
  · have e1 : x.tdiv 11 = 1 := e0.trans hq
    clear e0 hq
    have hT : Lst V2 gl (([0, 9, 10, 55, 300, -1] : List Int).map (Value.int .i64)) := lst_pre HT.out 6
    go_wp2_with fail
    refine (among_d B zs p _ V2 gl 7 [0, 9, 10, 55, 300, -1] HL.out.C (by omega) hT hsz (by simp) (by simp)).mono ?_
    rintro e V3 ⟨r, hr, rfl, C3, G3⟩
    replace HL := Lib.hid (HL.out.went C3 G3)
    clear C3 G3 hT hr
    go_wp2
    go_ret2
    exact ⟨l, g, c, r, hl, rfl, HL.out.hs (by omega), below_of (grown_trans HGW.out HL.out.GW) (by omega)⟩
  · have e1 : x.tdiv 11 = 2 := e0.trans hq
    clear e0 hq
    have hT : Lst V2 gl (([0, 9, 10, 55, 300, -1, 301] : List Int).map (Value.int .i64)) := lst_pre HT.out 7
    go_wp2_with fail
    refine (among_d B zs p _ V2 gl 7 [0, 9, 10, 55, 300, -1, 301] HL.out.C (by omega) hT hsz (by simp) (by simp)).mono ?_
    rintro e V3 ⟨r, hr, rfl, C3, G3⟩
    replace HL := Lib.hid (HL.out.went C3 G3)
    clear C3 G3 hT hr
    go_wp2
    go_ret2
    exact ⟨l, g, c, r, hl, rfl, HL.out.hs (by omega), below_of (grown_trans HGW.out HL.out.GW) (by omega)⟩
set_option maxHeartbeats 3200000 in
theorem drawCover (A : Option Addr) (cap : Nat) (zs : List Int) (w : World) (h : Draw.Src w A zs) : Calls Try.prog 60 #[.slice A zs.length cap] w (DH w) := by
  have C0 := cu_at h cap (p := w.heap.size) rfl
  have G0 : w.grownBy (w.alloc (.cells #[.slice A zs.length cap, .int .i64 0, .int .u64 0] 96)) (some w.heap.size) := grown_alloc w _ _
  have S0 : (w.alloc (.cells #[.slice A zs.length cap, .int .i64 0, .int .u64 0] 96)).heap.size = w.heap.size + 1 := size_alloc' _ _
  have H0 := Lib.hid (And.intro C0 (And.intro G0 S0)); clear C0 G0 S0 h
  go_enter Try.func60, Try.ntmps60
  go_wp2_with fail
  obtain ⟨C0, GW, sv⟩ := H0.out
  clear H0
  generalize w.alloc (.cells #[.slice A zs.length cap, .int .i64 0, .int .u64 0] 96) = v at C0 GW sv ⊢
  obtain ⟨p, hpp⟩ : ∃ p, w.heap.size = p := ⟨_, rfl⟩
  rw [hpp] at C0 GW sv ⊢
  obtain ⟨B, hBB, C⟩ : ∃ B, B = p ∧ Cu B zs p 0 v := ⟨_, rfl, C0⟩
  clear C0
  have hp : p < v.heap.size := by omega
  have HGW := Lib.hid GW; clear GW
  refine (DHeaps.heaps_d B zs p 0 v C (by omega) hp).mono ?_
  rintro e V1 ⟨g, c, l, hl, rfl, hL⟩
  have HL := Lib.hid hL; clear hL C
  go_wp2_with fail
  have hLs := lst_at V1 [.int .i64 0, .int .i64 1, .int .i64 2, .int .i64 20, .int .i64 (-1), .int .i64 21] 3 (g := V1.heap.size) rfl
  have hsz : V1.heap.size ≠ p := by have := HL.out.GW.size; omega
  have ha := HL.out.alloc (.cells #[.int .i64 0, .int .i64 1, .int .i64 2, .int .i64 20, .int .i64 (-1), .int .i64 21] 3)
  refine (pick_d B zs p _ _ 24 ha.C (by omega) (by omega) (by omega)).mono ?_
  rintro e V2 ⟨x, hx, rfl, C2, G2⟩
  have HT := Lib.hid (hLs.went G2 hsz)
  replace HL := Lib.hid (ha.went C2 G2)
  clear ha hLs C2 G2 sv
  generalize V1.heap.size = gl at *
  have e0 : x.tdiv 11 = x / 11 := Int.tdiv_eq_ediv_of_nonneg (by omega)
  obtain hq | hq | hq : x / 11 = 0 ∨ x / 11 = 1 ∨ x / 11 = 2 := by omega
  · have e1 : x.tdiv 11 = 0 := e0.trans hq
    clear e0 hq
    have hT : Lst V2 gl (([0, 1, 2, 20] : List Int).map (Value.int .i64)) := lst_pre HT.out 4
    go_wp2_with fail
    refine (among_d B zs p _ V2 gl 6 [0, 1, 2, 20] HL.out.C (by omega) hT hsz (by simp) (by simp)).mono ?_
    rintro e V3 ⟨r, hr, rfl, C3, G3⟩
    replace HL := Lib.hid (HL.out.went C3 G3)
    clear C3 G3 hT hr
    go_wp2
    go_ret2
    exact ⟨l, g, c, r, hl, rfl, HL.out.hs (by omega), below_of (grown_trans HGW.out HL.out.GW) (by omega)⟩
  · have e1 : x.tdiv 11 = 1 := e0.trans hq
    clear e0 hq
    have hT : Lst V2 gl (([0, 1, 2, 20, -1] : List Int).map (Value.int .i64)) := lst_pre HT.out 5
    go_wp2_with fail
    refine (among_d B zs p _ V2 gl 6 [0, 1, 2, 20, -1] HL.out.C (by omega) hT hsz (by simp) (by simp)).mono ?_
    rintro e V3 ⟨r, hr, rfl, C3, G3⟩
    replace HL := Lib.hid (HL.out.went C3 G3)
    clear C3 G3 hT hr
    go_wp2
    go_ret2
    exact ⟨l, g, c, r, hl, rfl, HL.out.hs (by omega), below_of (grown_trans HGW.out HL.out.GW) (by omega)⟩
  · have e1 : x.tdiv 11 = 2 := e0.trans hq
    clear e0 hq
    have hT : Lst V2 gl (([0, 1, 2, 20, -1, 21] : List Int).map (Value.int .i64)) := lst_pre HT.out 6
    go_wp2_with fail
    refine (among_d B zs p _ V2 gl 6 [0, 1, 2, 20, -1, 21] HL.out.C (by omega) hT hsz (by simp) (by simp)).mono ?_
    rintro e V3 ⟨r, hr, rfl, C3, G3⟩
    replace HL := Lib.hid (HL.out.went C3 G3)
    clear C3 G3 hT hr
    go_wp2
    go_ret2
    exact ⟨l, g, c, r, hl, rfl, HL.out.hs (by omega), below_of (grown_trans HGW.out HL.out.GW) (by omega)⟩
end Go.Proofs.Ytpbmncecejchjaa.DHeaps2
