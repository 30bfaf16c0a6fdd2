/- heapId, grade7, tons7; the draws of FnHeaps. Made by tools/mk_dheaps3.py. -/
import Derived.Test.YtokgncbcknpfiaaDoorDHeaps
import Derived.Deep.Cut
namespace Go.Proofs.YtokgncbcknpfiaaDoor.DHeaps3
open Go.RowKit Go.Proofs.YtokgncbcknpfiaaDoor.Mem Go.Proofs.YtokgncbcknpfiaaDoor.Base Go.Proofs.YtokgncbcknpfiaaDoor.Draw Go.Proofs.YtokgncbcknpfiaaDoor.Boxes Go.Proofs.YtokgncbcknpfiaaDoor.Keep Go.Proofs.YtokgncbcknpfiaaDoor.Dr Go.Proofs.YtokgncbcknpfiaaDoor.SInt Go.Proofs.YtokgncbcknpfiaaDoor.Nest Go.Proofs.YtokgncbcknpfiaaDoor.HeapS Go.Proofs.YtokgncbcknpfiaaDoor.DHeap0 Go.Proofs.YtokgncbcknpfiaaDoor.DHeaps0
open Go.Proofs.YtokgncbcknpfiaaDoor.DStack (cu_at below_of)
set_option linter.unusedVariables false
set_option linter.unusedSimpArgs false
set_option maxRecDepth 100000
variable {B : Nat} {zs : List Int} {p K : Nat} {w : World} {A : Option Addr} {c : Nat} {l : List R} {W : World}
theorem lst_pre {w : World} {g : Nat} {xs : List Value} (h : Lst w g xs) (k : Nat) : Lst w g (xs.take k) := ⟨h.1, fun j v hv => h.2 j v (by
  rw [List.getElem?_take] at hv
  split at hv
  · exact hv
  · cases hv)⟩
set_option maxHeartbeats 3200000 in
theorem grade7_d (h : Lt B zs p K w A c l W) (hK : K ≤ 800000000) :
    Calls Tryd.prog 28 #[.pointer (some ⟨p, 0, none⟩)] W fun e V => ∃ x : Int, e = .returned (.int .i64 x) ∧ Lt B zs p (K + 4) w A c l V ∧ W.grownBy V (some p) := by
  have HL := Lib.hid h
  have hLs := lst_at W [.int .i64 1, .int .i64 1, .int .i64 2, .int .i64 4, .int .i64 0, .int .i64 5] 3 (g := W.heap.size) rfl
  have hsz : W.heap.size ≠ p := by have := h.GW.size; have := h.o0; omega
  have ha := h.alloc (.cells #[.int .i64 1, .int .i64 1, .int .i64 2, .int .i64 4, .int .i64 0, .int .i64 5] 3)
  have HA := Lib.hid (And.intro ha hLs)
  clear h ha hLs
  go_enter Tryd.func28, Tryd.ntmps28
  go_wp2_with fail
  refine (pick_d B zs p _ _ 24 HA.out.1.C (by omega) (by omega) (by omega)).mono ?_
  rintro e V2 ⟨x, hx, rfl, C2, G2⟩
  have HT := Lib.hid (HA.out.2.went G2 hsz)
  replace HL := Lib.hid (HA.out.1.went C2 G2)
  have HGW := Lib.hid (grown_trans (grown_alloc W (.cells #[.int .i64 1, .int .i64 1, .int .i64 2, .int .i64 4, .int .i64 0, .int .i64 5] 3) (some p)) G2)
  clear HA C2 G2
  generalize W.heap.size = gl at *
  have e0 : x.tdiv 11 = x / 11 := Int.tdiv_eq_ediv_of_nonneg (by omega)
  obtain hq | hq | hq : x / 11 = 0 ∨ x / 11 = 1 ∨ x / 11 = 2 := by omega
  · have e1 : x.tdiv 11 = 0 := e0.trans hq
    clear e0 hq
    have hT : Lst V2 gl (([1, 1, 2, 4] : List Int).map (Value.int .i64)) := lst_pre HT.out 4
    go_wp2_with fail
    refine (among_d B zs p _ V2 gl 6 [1, 1, 2, 4] HL.out.C (by omega) hT hsz (by simp) (by simp)).mono ?_
    rintro e V3 ⟨r, hr, rfl, C3, G3⟩
    replace HL := Lib.hid (HL.out.went C3 G3)
    replace HGW := Lib.hid (grown_trans HGW.out G3)
    clear C3 G3 hT hr
    go_wp2
    go_ret
    exact ⟨r, rfl, HL.out.le (by omega), HGW.out⟩
  · have e1 : x.tdiv 11 = 1 := e0.trans hq
    clear e0 hq
    have hT : Lst V2 gl (([1, 1, 2, 4, 0] : List Int).map (Value.int .i64)) := lst_pre HT.out 5
    go_wp2_with fail
    refine (among_d B zs p _ V2 gl 6 [1, 1, 2, 4, 0] HL.out.C (by omega) hT hsz (by simp) (by simp)).mono ?_
    rintro e V3 ⟨r, hr, rfl, C3, G3⟩
    replace HL := Lib.hid (HL.out.went C3 G3)
    replace HGW := Lib.hid (grown_trans HGW.out G3)
    clear C3 G3 hT hr
    go_wp2
    go_ret
    exact ⟨r, rfl, HL.out.le (by omega), HGW.out⟩
  · have e1 : x.tdiv 11 = 2 := e0.trans hq
    clear e0 hq
    have hT : Lst V2 gl (([1, 1, 2, 4, 0, 5] : List Int).map (Value.int .i64)) := lst_pre HT.out 6
    go_wp2_with fail
    refine (among_d B zs p _ V2 gl 6 [1, 1, 2, 4, 0, 5] HL.out.C (by omega) hT hsz (by simp) (by simp)).mono ?_
    rintro e V3 ⟨r, hr, rfl, C3, G3⟩
    replace HL := Lib.hid (HL.out.went C3 G3)
    replace HGW := Lib.hid (grown_trans HGW.out G3)
    clear C3 G3 hT hr
    go_wp2
    go_ret
    exact ⟨r, rfl, HL.out.le (by omega), HGW.out⟩
set_option maxHeartbeats 3200000 in
theorem tons7_d (h : Lt B zs p K w A c l W) (hK : K ≤ 800000000) :
    Calls Tryd.prog 26 #[.pointer (some ⟨p, 0, none⟩)] W fun e V => ∃ x : Int, e = .returned (.int .i64 x) ∧ Lt B zs p (K + 4) w A c l V ∧ W.grownBy V (some p) := by
  have HL := Lib.hid h
  have hLs := lst_at W [.int .i64 1, .int .i64 5, .int .i64 20, .int .i64 40, .int .i64 120, .int .i64 500, .int .i64 0, .int .i64 501] 3 (g := W.heap.size) rfl
  have hsz : W.heap.size ≠ p := by have := h.GW.size; have := h.o0; omega
  have ha := h.alloc (.cells #[.int .i64 1, .int .i64 5, .int .i64 20, .int .i64 40, .int .i64 120, .int .i64 500, .int .i64 0, .int .i64 501] 3)
  have HA := Lib.hid (And.intro ha hLs)
  clear h ha hLs
  go_enter Tryd.func26, Tryd.ntmps26
  go_wp2_with fail
  refine (pick_d B zs p _ _ 24 HA.out.1.C (by omega) (by omega) (by omega)).mono ?_
  rintro e V2 ⟨x, hx, rfl, C2, G2⟩
  have HT := Lib.hid (HA.out.2.went G2 hsz)
  replace HL := Lib.hid (HA.out.1.went C2 G2)
  have HGW := Lib.hid (grown_trans (grown_alloc W (.cells #[.int .i64 1, .int .i64 5, .int .i64 20, .int .i64 40, .int .i64 120, .int .i64 500, .int .i64 0, .int .i64 501] 3) (some p)) G2)
  clear HA C2 G2
  generalize W.heap.size = gl at *
  have e0 : x.tdiv 11 = x / 11 := Int.tdiv_eq_ediv_of_nonneg (by omega)
  obtain hq | hq | hq : x / 11 = 0 ∨ x / 11 = 1 ∨ x / 11 = 2 := by omega
  · have e1 : x.tdiv 11 = 0 := e0.trans hq
    clear e0 hq
    have hT : Lst V2 gl (([1, 5, 20, 40, 120, 500] : List Int).map (Value.int .i64)) := lst_pre HT.out 6
    go_wp2_with fail
    refine (among_d B zs p _ V2 gl 8 [1, 5, 20, 40, 120, 500] HL.out.C (by omega) hT hsz (by simp) (by simp)).mono ?_
    rintro e V3 ⟨r, hr, rfl, C3, G3⟩
    replace HL := Lib.hid (HL.out.went C3 G3)
    replace HGW := Lib.hid (grown_trans HGW.out G3)
    clear C3 G3 hT hr
    go_wp2
    go_ret
    exact ⟨r, rfl, HL.out.le (by omega), HGW.out⟩
  · have e1 : x.tdiv 11 = 1 := e0.trans hq
    clear e0 hq
    have hT : Lst V2 gl (([1, 5, 20, 40, 120, 500, 0] : List Int).map (Value.int .i64)) := lst_pre HT.out 7
    go_wp2_with fail
    refine (among_d B zs p _ V2 gl 8 [1, 5, 20, 40, 120, 500, 0] HL.out.C (by omega) hT hsz (by simp) (by simp)).mono ?_
    rintro e V3 ⟨r, hr, rfl, C3, G3⟩
    replace HL := Lib.hid (HL.out.went C3 G3)
    replace HGW := Lib.hid (grown_trans HGW.out G3)
    clear C3 G3 hT hr
    go_wp2
    go_ret
    exact ⟨r, rfl, HL.out.le (by omega), HGW.out⟩
  · have e1 : x.tdiv 11 = 2 := e0.trans hq
    clear e0 hq
    have hT : Lst V2 gl (([1, 5, 20, 40, 120, 500, 0, 501] : List Int).map (Value.int .i64)) := lst_pre HT.out 8
    go_wp2_with fail
    refine (among_d B zs p _ V2 gl 8 [1, 5, 20, 40, 120, 500, 0, 501] HL.out.C (by omega) hT hsz (by simp) (by simp)).mono ?_
    rintro e V3 ⟨r, hr, rfl, C3, G3⟩
    replace HL := Lib.hid (HL.out.went C3 G3)
    replace HGW := Lib.hid (grown_trans HGW.out G3)
    clear C3 G3 hT hr
    go_wp2
    go_ret
    exact ⟨r, rfl, HL.out.le (by omega), HGW.out⟩
set_option maxHeartbeats 3200000 in
theorem heapId_d {g : Nat} (h : Lt B zs p K w (some ⟨g, 0, none⟩) c l W) (hK : K ≤ 800000000) (hl : l.length ≤ 20) :
    Calls Tryd.prog 27 #[.pointer (some ⟨p, 0, none⟩), .slice (some ⟨g, 0, none⟩) l.length c] W fun e V => ∃ x : Int, e = .returned (.int .i64 x) ∧ Lt B zs p (K + 6) w (some ⟨g, 0, none⟩) c l V := by
  have HL := Lib.hid h
  have h0 := h.o0
  have h1 := h.GW.size
  have h2 := own_ge h.O g rfl
  clear h
  go_enter Tryd.func27, Tryd.ntmps27
  by_cases hz : l.length = 0
  · have d1 : decide ((l.length : Int) = 0) = true := decide_eq_true (by omega)
    have d2 : decide (l.length = 0) = true := decide_eq_true hz
    have d3 : ((l.length : Int) == 0) = true := by simpa using hz
    have hLs := lst_at W [.int .i64 0, .int .i64 1, .int .i64 50] 3 (g := W.heap.size) rfl
    have ha := HL.out.alloc (.cells #[.int .i64 0, .int .i64 1, .int .i64 50] 3)
    have HA := Lib.hid (And.intro ha hLs)
    clear ha hLs
    have HZ := Lib.hid hz; clear hz
    go_wp2_with fail
    refine (among_d B zs p _ _ W.heap.size 3 [0, 1, 50] HA.out.1.C (by omega) HA.out.2 (by omega) (by simp) (by simp)).mono ?_
    rintro e V3 ⟨r, hr, rfl, C3, G3⟩
    replace HL := Lib.hid (HA.out.1.went C3 G3)
    clear C3 G3 hr HA
    go_wp2
    go_ret
    exact ⟨r, rfl, HL.out.le (by omega)⟩
  · have d1 : decide ((l.length : Int) = 0) = false := decide_eq_false (by omega)
    have d2 : decide (l.length = 0) = false := decide_eq_false hz
    have d3 : ((l.length : Int) == 0) = false := by simpa using hz
    have hz2 : 0 < l.length := by omega
    have HZ := Lib.hid hz; clear hz
    go_wp2_with fail
    refine (HL.out.one (by omega) 10 (by omega) (by omega)).mono ?_
    rintro e V2 ⟨q, rfl, hp1⟩
    replace HL := Lib.hid hp1; clear hp1
    have h3 := HL.out.GW.size
    cases q
    · go_wp2_with fail
      refine (HL.out.pick (by omega) l.length (by omega) (by omega)).mono ?_
      rintro e V3 ⟨x, hx, rfl, hp1⟩
      replace HL := Lib.hid hp1; clear hp1
      obtain ⟨k, rfl⟩ : ∃ k : Nat, x = k := ⟨x.toNat, by omega⟩
      have hk : k < l.length := by omega
      have hki : (k : Int) < l.length := by omega
      have hc := (HL.out.O.cellAt (k * 4) (by omega)).trans (flat_0 l k hk)
      obtain ⟨y, hy⟩ : ∃ y, l[k].f0 = y := ⟨_, rfl⟩
      rw [hy] at hc
      clear hy
      go_wp2
      go_ret
      exact ⟨y, rfl, HL.out.le (by omega)⟩
    · have hLs := lst_at V2 [.int .i64 0, .int .i64 1, .int .i64 50] 3 (g := V2.heap.size) rfl
      have ha := HL.out.alloc (.cells #[.int .i64 0, .int .i64 1, .int .i64 50] 3)
      have HA := Lib.hid (And.intro ha hLs)
      clear ha hLs
      go_wp2_with fail
      refine (among_d B zs p _ _ V2.heap.size 3 [0, 1, 50] HA.out.1.C (by omega) HA.out.2 (by omega) (by simp) (by simp)).mono ?_
      rintro e V3 ⟨r, hr, rfl, C3, G3⟩
      replace HL := Lib.hid (HA.out.1.went C3 G3)
      clear C3 G3 hr HA
      go_wp2
      go_ret
      exact ⟨r, rfl, HL.out.le (by omega)⟩
/-- heaps and a number; heaps and two numbers. -/
def D1 (w : World) (e : Ending) (w' : World) : Prop :=
  ∃ (l : List R) (g c : Nat) (r : Int), l.length ≤ 20 ∧ e = .returned (.tuple #[.slice (some ⟨g, 0, none⟩) l.length c, .int .i64 r]) ∧ Hs w' w'.heap.size (some ⟨g, 0, none⟩) l ∧ Below w.heap.size w w'
def D2 (w : World) (e : Ending) (w' : World) : Prop :=
  ∃ (l : List R) (g c : Nat) (r s : Int), l.length ≤ 20 ∧ e = .returned (.tuple #[.slice (some ⟨g, 0, none⟩) l.length c, .int .i64 r, .int .i64 s]) ∧ Hs w' w'.heap.size (some ⟨g, 0, none⟩) l ∧ Below w.heap.size w w'
set_option maxHeartbeats 3200000 in
theorem drawTons (A : Option Addr) (cap : Nat) (zs : List Int) (w : World) (h : Draw.Src w A zs) : Calls Tryd.prog 17 #[.slice A zs.length cap] w (D1 w) := by
  have C0 := cu_at h cap (p := w.heap.size) rfl
  have G0 : w.grownBy (w.alloc (.cells #[.slice A zs.length cap, .int .i64 0, .int .u64 0] 49)) (some w.heap.size) := grown_alloc w _ _
  have S0 : (w.alloc (.cells #[.slice A zs.length cap, .int .i64 0, .int .u64 0] 49)).heap.size = w.heap.size + 1 := size_alloc' _ _
  have H0 := Lib.hid (And.intro C0 (And.intro G0 S0)); clear C0 G0 S0 h
  go_enter Tryd.func17, Tryd.ntmps17
  go_wp2_with fail
  obtain ⟨C0, GW, sv⟩ := H0.out
  clear H0
  generalize w.alloc (.cells #[.slice A zs.length cap, .int .i64 0, .int .u64 0] 49) = v at C0 GW sv ⊢
  obtain ⟨p, hpp⟩ : ∃ p, w.heap.size = p := ⟨_, rfl⟩
  rw [hpp] at C0 GW sv ⊢
  obtain ⟨B, hBB, C⟩ : ∃ B, B = p ∧ Cu B zs p 0 v := ⟨_, rfl, C0⟩
  clear C0
  have hp : p < v.heap.size := by omega
  have HGW := Lib.hid GW; clear GW
  refine (DHeaps.heaps_d B zs p 0 v C (by omega) hp).mono ?_
  rintro e V1 ⟨g, c, l, hl, rfl, hL⟩
  have HL := Lib.hid hL; clear hL C
  go_wp2_with fail
  refine (grade7_d HL.out (by omega)).mono ?_
  rintro e V ⟨r, rfl, hL, _⟩
  replace HL := Lib.hid hL; clear hL
  go_wp2
  go_ret2
  exact ⟨l, g, c, r, hl, rfl, HL.out.hs (by omega), below_of (grown_trans HGW.out HL.out.GW) (by omega)⟩
set_option maxHeartbeats 3200000 in
theorem drawFor (A : Option Addr) (cap : Nat) (zs : List Int) (w : World) (h : Draw.Src w A zs) : Calls Tryd.prog 12 #[.slice A zs.length cap] w (D2 w) := by
  have C0 := cu_at h cap (p := w.heap.size) rfl
  have G0 : w.grownBy (w.alloc (.cells #[.slice A zs.length cap, .int .i64 0, .int .u64 0] 49)) (some w.heap.size) := grown_alloc w _ _
  have S0 : (w.alloc (.cells #[.slice A zs.length cap, .int .i64 0, .int .u64 0] 49)).heap.size = w.heap.size + 1 := size_alloc' _ _
  have H0 := Lib.hid (And.intro C0 (And.intro G0 S0)); clear C0 G0 S0 h
  go_enter Tryd.func12, Tryd.ntmps12
  go_wp2_with fail
  obtain ⟨C0, GW, sv⟩ := H0.out
  clear H0
  generalize w.alloc (.cells #[.slice A zs.length cap, .int .i64 0, .int .u64 0] 49) = v at C0 GW sv ⊢
  obtain ⟨p, hpp⟩ : ∃ p, w.heap.size = p := ⟨_, rfl⟩
  rw [hpp] at C0 GW sv ⊢
  obtain ⟨B, hBB, C⟩ : ∃ B, B = p ∧ Cu B zs p 0 v := ⟨_, rfl, C0⟩
  clear C0
  have hp : p < v.heap.size := by omega
  have HGW := Lib.hid GW; clear GW
  refine (DHeaps.heaps_d B zs p 0 v C (by omega) hp).mono ?_
  rintro e V1 ⟨g, c, l, hl, rfl, hL⟩
  have HL := Lib.hid hL; clear hL C
  go_wp2_with fail
  refine (grade7_d HL.out (by omega)).mono ?_
  rintro e V ⟨r, rfl, hL, _⟩
  replace HL := Lib.hid hL; clear hL
  go_wp2_with fail
  refine (tons7_d HL.out (by omega)).mono ?_
  rintro e V ⟨s, rfl, hL, _⟩
  replace HL := Lib.hid hL; clear hL
  go_wp2
  exact bodyPost_ret (v := .tuple #[.slice (some ⟨g, 0, none⟩) l.length c, .int .i64 r, .int .i64 s]) (by simp [results, Tryd.results12, go_sem]) rfl ⟨l, g, c, r, s, hl, rfl, HL.out.hs (by omega), below_of (grown_trans HGW.out HL.out.GW) (by omega)⟩
end Go.Proofs.YtokgncbcknpfiaaDoor.DHeaps3
