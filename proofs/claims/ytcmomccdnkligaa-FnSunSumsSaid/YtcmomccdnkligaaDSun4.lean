/- The draws of FnSunSums, and what it compares rows by. -/
import Derived.Test.YtcmomccdnkligaaDSun
namespace Go.Proofs.Ytcmomccdnkligaa.DSun4
open Go.RowKit Go.Proofs.Ytcmomccdnkligaa.Mem Go.Proofs.Ytcmomccdnkligaa.Base Go.Proofs.Ytcmomccdnkligaa.Draw Go.Proofs.Ytcmomccdnkligaa.Boxes Go.Proofs.Ytcmomccdnkligaa.Keep Go.Proofs.Ytcmomccdnkligaa.Dr Go.Proofs.Ytcmomccdnkligaa.SSun Go.Proofs.Ytcmomccdnkligaa.SunC Go.Proofs.Ytcmomccdnkligaa.DSun
set_option linter.unusedVariables false
set_option maxRecDepth 100000
theorem cu_at {w : World} {A : Option Addr} {zs : List Int} (h : Src w A zs) (cap : Nat) {p : Nat} (hp : p = w.heap.size) : Cu w.heap.size zs p 0 (w.alloc (.cells #[.slice A zs.length cap, .int .i64 0, .int .u64 0] 68)) := ⟨0, Nat.le_refl _, hp ▸ cur_new h cap⟩
theorem below_of {w W : World} {p : Nat} (h : w.grownBy W (some p)) (hp : w.heap.size ≤ p) : Below w.heap.size w W := (Below.refl _ w).grown h (Nat.le_refl _) (fun k hk => by injection hk with hk; omega)
def DB (w : World) (e : Ending) (w' : World) : Prop := ∃ (L : List R) (g c : Nat) (d : Int), (L.length ≤ 25 ∧ 0 ≤ d ∧ d ≤ 101) ∧ e = .returned (.tuple #[.slice (some ⟨g, 0, none⟩) L.length c, .int .i64 d]) ∧
  w'.ownsRow w.heap.size 42 2 (.slice (some ⟨g, 0, none⟩) L.length c) L.length (flat L) ∧ Below w.heap.size w w'
def DS (w : World) (e : Ending) (w' : World) : Prop := ∃ (L : List R) (g c : Nat) (x y : Int), L.length ≤ 25 ∧ e = .returned (.tuple #[.slice (some ⟨g, 0, none⟩) L.length c, .int .i64 x, .int .i64 y]) ∧
  w'.ownsRow w.heap.size 42 2 (.slice (some ⟨g, 0, none⟩) L.length c) L.length (flat L) ∧ Below w.heap.size w w'
theorem drawBest (A : Option Addr) (cap : Nat) (zs : List Int) (w : World) (h : Src w A zs) : Calls Try.prog 29 #[.slice A zs.length cap] w (DB w) := by
  have HC := Lib.hid (cu_at h cap (p := w.heap.size) rfl)
  have HG := Lib.hid (grown_alloc w (.cells #[.slice A zs.length cap, .int .i64 0, .int .u64 0] 68) (some w.heap.size))
  go_enter Try.func29, Try.ntmps29
  go_wp2_with fail
  have C := HC.out
  have GW := HG.out
  have zw := size_alloc' w (.cells #[.slice A zs.length cap, .int .i64 0, .int .u64 0] 68)
  clear HC HG h
  generalize w.alloc (.cells #[.slice A zs.length cap, .int .i64 0, .int .u64 0] 68) = v at C GW zw ⊢
  generalize hpp : w.heap.size = p at C GW zw ⊢
  have HP := Lib.hid hpp; clear hpp
  refine (suns_d p zs p 0 v C (by omega)).mono ?_
  rintro e v1 ⟨L, g, c, hl, rfl, O, C1, G1⟩
  have GW1 := grown_trans GW G1
  have hg0 := own_ge O g (by simp [Value.ownBlock])
  have z1 := C1.lt
  clear C GW G1
  go_wp2_with fail
  refine (among_d p zs p _ _ v1.heap.size 8 [1, 2, 3, 5, 10, 100, 0, 101] (C1.alloc _) (by omega) (lst_at v1 _ _ rfl) (by omega) (by simp) (by simp)).mono ?_
  rintro e v2 ⟨d, hd, rfl, C2, G2⟩
  have hd2 : 0 ≤ d ∧ d ≤ 101 := by simp at hd; omega
  have GW2 := grown_trans (grown_trans GW1 (grown_alloc _ _ _)) G2
  have O2 := own_grown (own_keep O (al (Below.refl _ _) (o := .cells [Value.int .i64 1, .int .i64 2, .int .i64 3, .int .i64 5, .int .i64 10, .int .i64 100, .int .i64 0, .int .i64 101].toArray 3))) G2 (fun k hk => by injection hk with hk; omega)
  have HB := Lib.hid (below_of GW2 (by rw [HP.out]; exact Nat.le_refl _))
  have HO := Lib.hid (own_base O2 (base' := w.heap.size) (by rw [HP.out]; omega))
  clear hd C2 G2 GW2 GW1 C1 O2 O
  go_wp2
  go_ret2
  exact ⟨L, g, c, d, ⟨hl, hd2⟩, rfl, HO.out, HB.out⟩
theorem drawSum (A : Option Addr) (cap : Nat) (zs : List Int) (w : World) (h : Src w A zs) : Calls Try.prog 38 #[.slice A zs.length cap] w (DS w) := by
  have HC := Lib.hid (cu_at h cap (p := w.heap.size) rfl)
  have HG := Lib.hid (grown_alloc w (.cells #[.slice A zs.length cap, .int .i64 0, .int .u64 0] 68) (some w.heap.size))
  go_enter Try.func38, Try.ntmps38
  go_wp2_with fail
  have C := HC.out
  have GW := HG.out
  have zw := size_alloc' w (.cells #[.slice A zs.length cap, .int .i64 0, .int .u64 0] 68)
  clear HC HG h
  generalize w.alloc (.cells #[.slice A zs.length cap, .int .i64 0, .int .u64 0] 68) = v at C GW zw ⊢
  generalize hpp : w.heap.size = p at C GW zw ⊢
  have HP := Lib.hid hpp; clear hpp
  refine (span_d p zs p 0 v C (by omega)).mono ?_
  rintro e v1 ⟨x, y, rfl, C1, G1⟩
  have GW1 := grown_trans GW G1
  have z1 := C1.lt
  clear C GW G1
  go_wp2_with fail
  refine (suns_d p zs p _ v1 C1 (by omega)).mono ?_
  rintro e v2 ⟨L, g, c, hl, rfl, O, C2, G2⟩
  have GW2 := grown_trans GW1 G2
  have HB := Lib.hid (below_of GW2 (by rw [HP.out]; exact Nat.le_refl _))
  have HO := Lib.hid (own_base O (base' := w.heap.size) (by rw [HP.out]; omega))
  clear C2 G2 GW2 GW1 C1 O
  go_wp2
  go_ret3
  exact ⟨L, g, c, x, y, hl, rfl, HO.out, HB.out⟩
set_option maxHeartbeats 800000 in
theorem vsuns_any (A A' : Option Addr) (c c' : Nat) (l : List R) (w : World) (hr : Rd w w.heap.size A (flat l)) (hr' : Rd w w.heap.size A' (flat l)) (hn : l.length ≤ 1048576) :
    Calls Try.prog 36 #[.slice A l.length c, .slice A' l.length c'] w fun e w' => e = .returned (.bool true) ∧ Drawn w w' := by
  have HR := Lib.hid hr; clear hr
  have HR' := Lib.hid hr'; clear hr'
  go_enter Try.func36, Try.ntmps36
  go_wp2
  go_loopw [5] (fun i wr => ∃ k : Nat, k ≤ l.length ∧ i = .int .i64 k ∧ Drawn w wr) (fun i _ => l.length - (intOf i).toNat)
  case atStart => exact ⟨0, Nat.zero_le _, rfl, Drawn.refl _⟩
  case round =>
    obtain ⟨k, hk, rfl, hw⟩ := hrel
    have HW := Lib.hid hw; clear hw
    by_cases hlt : k < l.length
    · obtain ⟨b, o, rfl, hb, hc⟩ := HR.out.at (k := k * 2) (by rw [flat_n]; omega)
      obtain ⟨b', o', rfl, hb', hc'⟩ := HR'.out.at (k := k * 2) (by rw [flat_n]; omega)
      have h0 : wr.cell? ⟨b, o + k * 2, none⟩ = some (.int .i64 l[k].f0) := (HW.out.cell _ _).trans (hc _ _ (flat_0 l k hlt))
      have h1 : wr.cell? ⟨b, o + k * 2 + 1, none⟩ = some (.int .i64 l[k].f1) := by rw [Nat.add_assoc]; exact (HW.out.cell _ _).trans (hc _ _ (flat_1 l k hlt))
      have h2 : wr.cell? ⟨b', o' + k * 2, none⟩ = some (.int .i64 l[k].f0) := (HW.out.cell _ _).trans (hc' _ _ (flat_0 l k hlt))
      have h3 : wr.cell? ⟨b', o' + k * 2 + 1, none⟩ = some (.int .i64 l[k].f1) := by rw [Nat.add_assoc]; exact (HW.out.cell _ _).trans (hc' _ _ (flat_1 l k hlt))
      have e3 : IntKind.i64.wrap ((k : Int) + 1) = k + 1 := IntWalk.i64_in _ (by omega)
      clear hc hc'
      generalize l[k].f0 = p0 at h0 h2
      generalize l[k].f1 = p1 at h1 h3
      go_wp2_with fail
      go_quiet (fail)
      generalize nq = q1
      go_wp2
      exact ⟨⟨k + 1, hlt, by go_num, HW.out.more _⟩, by simp [intOf]; omega⟩
    · go_wp2
      go_ret
      exact ⟨rfl, HW.out⟩
end Go.Proofs.Ytcmomccdnkligaa.DSun4
