/- The draws of the laws on ponds. -/
import Derived.Test.YtncdkfkihfhcgaaDPond2
namespace Go.Proofs.Ytncdkfkihfhcgaa.DPond3
open Go.RowKit Go.Proofs.Ytncdkfkihfhcgaa.Mem Go.Proofs.Ytncdkfkihfhcgaa.Base Go.Proofs.Ytncdkfkihfhcgaa.Draw Go.Proofs.Ytncdkfkihfhcgaa.Boxes Go.Proofs.Ytncdkfkihfhcgaa.Keep Go.Proofs.Ytncdkfkihfhcgaa.Dr Go.Proofs.Ytncdkfkihfhcgaa.SPond Go.Proofs.Ytncdkfkihfhcgaa.DPond Go.Proofs.Ytncdkfkihfhcgaa.DPond2 Go.Proofs.Ytncdkfkihfhcgaa.Cut Go.Proofs.Ytncdkfkihfhcgaa.PClone
set_option linter.unusedVariables false
set_option maxRecDepth 100000
set_option maxHeartbeats 800000 in
theorem pondId_d (B : Nat) (zs : List Int) (p K : Nat) (w : World) (base g c : Nat) (L : List R) (C : Cu B zs p K w) (hK : K ≤ 800000000) (O : w.ownsRow base 54 6 (.slice (some ⟨g, 0, none⟩) L.length c) L.length (flat L)) (hg : g ≠ p) (hl : L.length ≤ 20) (hs : AllSm L) :
    Calls Try.prog 47 #[.pointer (some ⟨p, 0, none⟩), .slice (some ⟨g, 0, none⟩) L.length c] w fun e w' => ∃ x : Int, (-1000 ≤ x ∧ x ≤ 1000) ∧ e = .returned (.int .i64 x) ∧ Cu B zs p (K + 4) w' ∧ w.grownBy w' (some p) := by
  have HO := Lib.hid O; clear O
  have HS := Lib.hid hs; clear hs
  by_cases h0 : L.length = 0
  · have hq : ((L.length : Int) == 0) = true := by simp; exact List.eq_nil_of_length_eq_zero h0
    clear h0
    go_enter Try.func47, Try.ntmps47
    have hp := C.lt
    have hB := C.base
    have GW : w.grownBy w (some p) := grown_refl w _
    try go_wp2_with fail
    refine (among_d B zs p (K) _ _ 3 [0, 1, 50] (C.alloc (.cells #[.int .i64 0, .int .i64 1, .int .i64 50] 3)) (by omega) (lst_at w _ _ (by omega)) (by omega) (by simp) (by simp)).mono ?_
    rintro e u1 ⟨x, hx, rfl, C1, G⟩
    have x_r : 0 ≤ x ∧ x ≤ 50 := by simp at hx; omega
    clear hx
    have yu1 : w.heap.size ≤ u1.heap.size := (by have := G.size; simp only [size_alloc'] at this; omega)
    replace GW := grown_trans (grown_trans GW (grown_alloc _ (.cells #[.int .i64 0, .int .i64 1, .int .i64 50] 3) _)) G
    replace C := C1
    clear C1 G
    have zu1 := GW.size
    go_wp2
    go_ret
    exact ⟨x, by omega, rfl, C.le (by omega), GW⟩
  · have hq : ((L.length : Int) == 0) = false := by rw [beq_eq_false_iff_ne]; omega
    go_enter Try.func47, Try.ntmps47
    have hp := C.lt
    have hB := C.base
    have GW : w.grownBy w (some p) := grown_refl w _
    try go_wp2_with fail
    refine (one_d B zs p (K) _ 10 C (by omega) (by omega) (by omega)).mono ?_
    rintro e u1 ⟨q, rfl, C1, G⟩
    have yu1 : w.heap.size ≤ u1.heap.size := G.size
    replace GW := grown_trans GW G
    replace C := C1
    clear C1 G
    have zu1 := GW.size
    cases q
    · try go_wp2_with fail
      refine (pick_d B zs p (K + 2) _ (L.length : Int) C (by omega) (by omega) (by omega)).mono ?_
      rintro e u2 ⟨y, y_r, rfl, C1, G⟩
      have yu2 : u1.heap.size ≤ u2.heap.size := G.size
      replace GW := grown_trans GW G
      replace C := C1
      clear C1 G
      have zu2 := GW.size
      obtain ⟨k, rfl⟩ : ∃ k : Nat, y = k := ⟨y.toNat, by omega⟩
      have hk : k < L.length := by omega
      obtain ⟨r, hr⟩ : ∃ r, L[k] = r := ⟨_, rfl⟩
      have hsm : Sm r := by rw [← hr]; exact HS.out _ (List.getElem_mem hk)
      have O := own_grownN HO.out GW (fun k hk => by injection hk with hk; omega)
      obtain ⟨l0, l1, l2, l3, l4, l5⟩ := own6 O hk hr
      clear O l1 l2 l3 l4 l5 hr
      go_wp2
      go_ret
      exact ⟨r.f0, ⟨hsm.1, hsm.2.1⟩, rfl, C.le (by omega), GW⟩
    · try go_wp2_with fail
      refine (among_d B zs p (K + 2) _ _ 3 [0, 1, 50] (C.alloc (.cells #[.int .i64 0, .int .i64 1, .int .i64 50] 3)) (by omega) (lst_at u1 _ _ (by omega)) (by omega) (by simp) (by simp)).mono ?_
      rintro e u2 ⟨x, hx, rfl, C1, G⟩
      have x_r : 0 ≤ x ∧ x ≤ 50 := by simp at hx; omega
      clear hx
      have yu2 : u1.heap.size ≤ u2.heap.size := (by have := G.size; simp only [size_alloc'] at this; omega)
      replace GW := grown_trans (grown_trans GW (grown_alloc _ (.cells #[.int .i64 0, .int .i64 1, .int .i64 50] 3) _)) G
      replace C := C1
      clear C1 G
      have zu2 := GW.size
      go_wp2
      go_ret
      exact ⟨x, by omega, rfl, C.le (by omega), GW⟩
def LId (w : World) (e : Ending) (w' : World) : Prop :=
  ∃ (L : List R) (g c : Nat) (id : Int), L.length ≤ 20 ∧ AllSm L ∧ (-1000 ≤ id ∧ id ≤ 1000) ∧ e = .returned (.tuple #[.slice (some ⟨g, 0, none⟩) L.length c, .int .i64 id]) ∧ w'.ownsRow w.heap.size 54 6 (.slice (some ⟨g, 0, none⟩) L.length c) L.length (flat L) ∧ Below w.heap.size w w'
def LId2 (w : World) (e : Ending) (w' : World) : Prop :=
  ∃ (L : List R) (g c : Nat) (a b : Int), L.length ≤ 20 ∧ AllSm L ∧ (-1000 ≤ a ∧ a ≤ 1000) ∧ (-1000 ≤ b ∧ b ≤ 1000) ∧ e = .returned (.tuple #[.slice (some ⟨g, 0, none⟩) L.length c, .int .i64 a, .int .i64 b]) ∧ w'.ownsRow w.heap.size 54 6 (.slice (some ⟨g, 0, none⟩) L.length c) L.length (flat L) ∧ Below w.heap.size w w'
theorem cu_new {w : World} {A : Option Addr} {zs : List Int} (h : Src w A zs) (cap : Nat) :
    Cu w.heap.size zs w.heap.size 0 (w.alloc (.cells #[.slice A zs.length cap, .int .i64 0, .int .u64 0] 67)) := ⟨0, Nat.le_refl _, cur_new h cap⟩
theorem below_of {w W V : World} {row : Option Nat} (hB : Below w.heap.size w W) (hg : W.grownBy V row) (hr : ∀ k, row = some k → w.heap.size ≤ k) : Below w.heap.size w V := bl_grown hB hg hr
set_option maxHeartbeats 800000 in
theorem drawBankOf (A : Option Addr) (cap : Nat) (zs : List Int) (w : World) (h : Src w A zs) : Calls Try.prog 28 #[.slice A zs.length cap] w (LId2 w) := by
  have C0 := cu_new h cap
  have HC := Lib.hid C0; clear C0
  go_enter Try.func28, Try.ntmps28
  go_wp2_with fail
  have HB : Below w.heap.size w (w.alloc (.cells #[.slice A zs.length cap, .int .i64 0, .int .u64 0] 67)) := al (Below.refl _ _)
  have C := HC.out
  have hsz : (w.alloc (.cells #[.slice A zs.length cap, .int .i64 0, .int .u64 0] 67)).heap.size = w.heap.size + 1 := size_alloc' _ _
  clear HC
  generalize w.alloc (.cells #[.slice A zs.length cap, .int .i64 0, .int .u64 0] 67) = v at HB C hsz ⊢
  refine (ponds_d w.heap.size zs w.heap.size 0 v C (by omega)).mono ?_
  rintro e v1 ⟨L, g, c, hl, hs, rfl, O, C1, G⟩
  have hg := own_ge O g (by simp [Value.ownBlock])
  have HB1 := below_of HB G (fun k hk => by injection hk with hk; omega)
  clear C G HB
  go_wp2_with fail
  refine (pondId_d w.heap.size zs w.heap.size _ v1 _ g c L C1 (by omega) O (by omega) hl hs).mono ?_
  rintro e v2 ⟨x, hx, rfl, C2, G2⟩
  have HB2 := below_of HB1 G2 (fun k hk => by injection hk with hk; omega)
  have O2 := own_grownN O G2 (fun k hk => by injection hk with hk; omega)
  clear O C1 G2 HB1
  go_wp2_with fail
  refine (pondId_d w.heap.size zs w.heap.size _ v2 _ g c L C2 (by omega) O2 (by omega) hl hs).mono ?_
  rintro e v3 ⟨y, hy, rfl, C3, G3⟩
  have HB3 := below_of HB2 G3 (fun k hk => by injection hk with hk; omega)
  have O3 := own_base (own_grownN O2 G3 (fun k hk => by injection hk with hk; omega)) (base' := w.heap.size) (by omega)
  clear O2 C2 C3 G3 HB2
  go_wp2
  go_ret3
  exact ⟨L, g, c, x, y, hl, hs, hx, hy, rfl, O3, HB3⟩
end Go.Proofs.Ytncdkfkihfhcgaa.DPond3
