/- Series: a pass, the model's. Made by tools/mk_sert.py. -/
import Derived.Test.YtciohcipmkhneaaSerP
namespace Go.Proofs.Ytciohcipmkhneaa.SerT
open Go.RowKit Go.Proofs.Ytciohcipmkhneaa.Mem Go.Proofs.Ytciohcipmkhneaa.Base Go.Proofs.Ytciohcipmkhneaa.Within Go.Proofs.Ytciohcipmkhneaa.Brine Go.Proofs.Ytciohcipmkhneaa.Brine6 Go.Proofs.Ytciohcipmkhneaa.Regn Go.Proofs.Ytciohcipmkhneaa.Boxes Go.Proofs.Ytciohcipmkhneaa.Keep Go.Proofs.Ytciohcipmkhneaa.Ser Go.Proofs.Ytciohcipmkhneaa.SerG Go.Proofs.Ytciohcipmkhneaa.SerC Go.Proofs.Ytciohcipmkhneaa.SerQ
open Go.Proofs.Ytciohcipmkhneaa.SBasin hiding RPost rpost
set_option linter.unusedVariables false
set_option linter.unusedSimpArgs false
set_option maxRecDepth 100000
/-- what a pass of the model leaves: a new row, the pan, whether all is valid. -/
def StepPost (l : List R) (p q n : Int) (w : World) (e : Ending) (w' : World) : Prop :=
  ∃ g c, e = .returned (.tuple #[.slice (some ⟨g, 0, none⟩) l.length c, .agg #[.int .i64 (p + outW l n), .int .i64 (q + outS l n)], .bool (stepOk l p q n)]) ∧ Own w' w.heap.size g c (passL l n) ∧ Below w.heap.size w w'
/-- the pan while the basins from k on are done. -/
def Pan (l : List R) (p q n : Int) (k : Nat) (x y : Int) : Prop := (k = l.length → x = p ∧ y = q) ∧ (k < l.length → x = p + outW l n ∧ y = q + outS l n)
theorem Pan.bd {l : List R} {p q n x y : Int} {k : Nat} (h : Pan l p q n k x y) (hk : k ≤ l.length) (hp : okB p q = true) (hg : good l = true) (hn : 1 ≤ n) : 0 ≤ x ∧ x ≤ 2000000 ∧ 0 ≤ y ∧ y ≤ 2000000 := by
  have h1 := okB_true hp
  have h2 := out_bd hg hn
  rcases Nat.lt_or_ge k l.length with h3 | h3
  · have := h.2 h3; omega
  · have := h.1 (by omega); omega
set_option maxHeartbeats 8000000 in
theorem pass_spec (P : Option Addr) (cap : Nat) (l : List R) (p q n : Int) (w : World) (hr : Rd w w.heap.size P (flat l)) (hg : good l = true) (hp : okB p q = true) (hn : 1 ≤ n) :
    Calls Try.prog 81 #[.slice P l.length cap, .agg #[.int .i64 p, .int .i64 q], .int .i64 n] w (StepPost l p q n w) := by
  have HR := Lib.hid hr; clear hr
  obtain ⟨l1, l8, _⟩ := good_all hg
  have HG := Lib.hid hg; clear hg
  have HP := Lib.hid hp; clear hp
  have HN := Lib.hid hn
  go_enter Try.func81, Try.ntmps81
  go_wp2_with fail
  have N := (Box.new (Below.refl _ w) [.int .i64 p, .int .i64 q] 26 (g := w.heap.size) rfl).alloc (.cells #[.int .i64 0, .int .i64 0] 26)
  have R := Box.new (al (Below.refl _ w) (o := (.cells #[.int .i64 p, .int .i64 q] 26))) [.int .i64 0, .int .i64 0] 26 (g := w.heap.size + 1) (by simp only [size_alloc'])
  generalize ((w.alloc (.cells #[.int .i64 p, .int .i64 q] 26)).alloc (.cells #[.int .i64 0, .int .i64 0] 26)) = W1 at N R ⊢
  have N_0 := N.cells 0 _ rfl
  have N_1 := N.cells 1 _ rfl
  have N_f0 := N.free 0 (by simp)
  have N_f1 := N.free 1 (by simp)
  have N_t := N.there
  have R_0 := R.cells 0 _ rfl
  have R_1 := R.cells 1 _ rfl
  have R_f0 := R.free 0 (by simp)
  have R_f1 := R.free 1 (by simp)
  have R_t := R.there
  have hN8 := N.below.size
  have hR8 := R.there
  go_wp2_with fail
  refine (own_spec P cap l _ (rd_keep HR.out N.below) l1 (by omega)).mono ?_
  rintro e v2 ⟨g, c, rfl, O, hv2⟩
  clear N_0 N_1 N_f0 N_f1 N_t
  clear R_0 R_1 R_f0 R_f1 R_t
  replace N := N.more hv2
  replace R := R.more hv2
  have zhv2 := hv2.size
  clear hv2
  have N_0 := N.cells 0 _ rfl
  have N_1 := N.cells 1 _ rfl
  have N_f0 := N.free 0 (by simp)
  have N_f1 := N.free 1 (by simp)
  have N_t := N.there
  have R_0 := R.cells 0 _ rfl
  have R_1 := R.cells 1 _ rfl
  have R_f0 := R.free 0 (by simp)
  have R_f1 := R.free 1 (by simp)
  have R_t := R.there
  have hgu := O.ge
  have hgt := O.lt
  have hR9 : w.heap.size + 1 < g := by omega
  replace O := O.base hN8
  have hgw := O.ge
  clear N_0 N_1 N_f0 N_f1 N_t
  clear R_0 R_1 R_f0 R_f1 R_t
  go_wp2
  go_loopw [10] (fun i wr => ∃ (k : Nat) (z x y : Int), k ≤ l.length ∧ i = .int .i64 z ∧ z = (k : Int) - 1 ∧ Hid (Pan l p q n k x y) ∧ Own wr w.heap.size g c (fro l n k) ∧ Box w.heap.size [.int .i64 x, .int .i64 y] w wr ∧ Box (w.heap.size + 1) [.int .i64 0, .int .i64 0] w wr) (fun i _ => (intOf i + 1).toNat)
  case atStart => exact ⟨l.length, _, p, q, Nat.le_refl _, rfl, rfl, Lib.hid ⟨fun _ => ⟨rfl, rfl⟩, fun h => absurd h (by omega)⟩, by rw [fro_end l n (Nat.le_refl _)]; exact O, N, R⟩
  case round =>
    clear O N R hgu hgt hN8 hR8
    obtain ⟨k, z, p1, p2, hk, rfl, hz, HPN, O, N, R⟩ := hrel
    obtain ⟨bp0, bp1, bp2, bp3⟩ := HPN.out.bd hk HP.out HG.out HN.out
    by_cases hpos : 0 < k
    · obtain ⟨j, rfl⟩ : ∃ j, k = j + 1 := ⟨k - 1, by omega⟩
      obtain rfl : z = (j : Int) := by omega
      have hlt : j < l.length := by omega
      obtain ⟨x, hx⟩ : ∃ x, l[j] = x := ⟨_, rfl⟩
      have hoa := good_get HG.out hlt hx
      obtain ⟨_, _, hu0, hu1, hv0, hv1⟩ := okA_true hoa
      obtain ⟨b0, b1, b2, b3⟩ := go_bd hoa hn
      obtain ⟨m0, m1⟩ := mn_bd hoa hn
      have hlk : j < (fro l n (j + 1)).length := by rw [fro_len]; exact hlt
      have hxk : (fro l n (j + 1))[j] = x := (fro_at hlt hlk).trans hx
      have HPT := Lib.hid (fun u0 => show Calls Try.prog 132 #[.agg #[.int .i64 x.f1, .int .i64 x.f2], .int .i64 (mn x n)] u0 (RPost (.agg #[.int .i64 (gw x n), .int .i64 (gs x n)]) u0) from part_br x.f1 x.f2 (mn x n) hu0 hu1 hv0 hv1 m0 m1 u0)
      have HLS := Lib.hid (fun u0 => show Calls Try.prog 115 #[.int .i64 n, .int .i64 (x.f1 + x.f2)] u0 (fun e w' => e = .returned (.int .i64 (mn x n)) ∧ u0 = w') from least_any n (x.f1 + x.f2) u0)
      have HLF := Lib.hid (fun u0 => left_spec x.f1 x.f2 (gw x n) (gs x n) hu0 hu1 hv0 hv1 b0 (by omega) b2 (by omega) u0)
      have HIN := Lib.hid (in_next (n := n) hlt hx)
      have hle : leftAt l n j = ⟨x.f0, x.f1 - gw x n, x.f2 - gs x n⟩ := by unfold leftAt; rw [getD_at hlt, hx]
      have HS1 := Lib.hid (show (fro l n (j + 1)).set j ⟨x.f0, x.f1 - gw x n, x.f2 - gs x n⟩ = half1 l n j by rw [← hle]; rfl)
      obtain ⟨M0, hM0⟩ : ∃ M, fro l n (j + 1) = M := ⟨_, rfl⟩
      have hml := fro_len l n (j + 1)
      rw [hM0] at O HS1 hml
      have hlk0 : j < M0.length := by omega
      have hxk0 : M0[j] = x := by subst hM0; exact hxk
      have HX0 := Lib.hid hxk0; have HL0 := Lib.hid hlk0; have HML := Lib.hid hml; have HX := Lib.hid hx; have HLT := Lib.hid hlt
      clear hxk hxk0 hM0 hlk hml hx hoa hle hz m0 m1
      obtain ⟨a1, ha1⟩ : ∃ a, gw x n = a := ⟨_, rfl⟩
      obtain ⟨a2, ha2⟩ : ∃ a, gs x n = a := ⟨_, rfl⟩
      rw [ha1, ha2] at HPT HLF HIN HS1
      rw [ha1] at b0 b1
      rw [ha2] at b2 b3
      clear ha1 ha2
      have y0 : decide ((0 : Int) ≤ (j : Int)) = true := decide_eq_true (by omega)
      have y1 : (j : Int) < l.length := by omega
      go_wp2_with fail
      have TN := N.there
      have TR := R.there
      have TO := O.lt
      obtain ⟨Z, hZ0⟩ : ∃ z, wr.heap.size = z := ⟨_, rfl⟩
      rw [hZ0] at TN TR TO
      have hZ : Z ≤ wr.heap.size := by rw [hZ0]; exact Nat.le_refl _
      clear hZ0
      refine wp_region_rel [21, 22, 23, 24, 25, 26, 27, 28, 29, 30, 31, 32, 33, 34, 11] (fun L f w' => (Box w.heap.size [.int .i64 p1, .int .i64 p2] w w') ∧ (Box (w.heap.size + 1) [.int .i64 0, .int .i64 0] w w') ∧ (Own w' w.heap.size g c M0) ∧ (Z ≤ w'.heap.size) ∧ (L 0 → f 21 = .slice (some ⟨g, 0, none⟩) l.length c) ∧ (L 1 → f 22 = .int .i64 j) ∧ (L 2 → f 23 = .pointer (some ⟨g, j * 3, none⟩)) ∧ (L 3 → f 24 = .pointer (some ⟨g, j * 3 + 1, none⟩)) ∧ (L 4 → f 25 = .agg #[.int .i64 x.f1, .int .i64 x.f2]) ∧ (L 5 → f 26 = .int .i64 n) ∧ (L 6 → f 27 = .slice (some ⟨g, 0, none⟩) l.length c) ∧ (L 7 → f 28 = .int .i64 j) ∧ (L 8 → f 29 = .pointer (some ⟨g, j * 3, none⟩)) ∧ (L 9 → f 30 = .pointer (some ⟨g, j * 3 + 1, none⟩)) ∧ (L 10 → f 31 = .agg #[.int .i64 x.f1, .int .i64 x.f2]) ∧ (L 11 → f 32 = .int .i64 (x.f1 + x.f2)) ∧ (L 12 → f 33 = .int .i64 (mn x n)) ∧ (L 13 → f 34 = .agg #[.int .i64 a1, .int .i64 a2]) ∧ (L 14 → ¬ L 15 → ∃ a, f 11 = .pointer (some ⟨a, 0, none⟩) ∧ Z ≤ a ∧ Box a [.int .i64 0, .int .i64 0] w w') ∧ (L 15 → ∃ a, f 11 = .pointer (some ⟨a, 0, none⟩) ∧ Z ≤ a ∧ Box a [.int .i64 a1, .int .i64 a2] w w')) (by kernel_rfl) (by kernel_rfl) (by kernel_rfl) (fun f => ⟨N.drew, R.drew, O.keep (Below.refl _ _).drew, hZ, fun h => h.elim, fun h => h.elim, fun h => h.elim, fun h => h.elim, fun h => h.elim, fun h => h.elim, fun h => h.elim, fun h => h.elim, fun h => h.elim, fun h => h.elim, fun h => h.elim, fun h => h.elim, fun h => h.elim, fun h => h.elim, fun h => h.elim, fun h => h.elim⟩) ?_ ?_
      · apply RelH.op2
        · intro L f u K hN hS hK
          simp only [puts, Act.put, List.setIfInBounds_toArray, List.set_cons_zero, List.set_cons_succ, upd, Nat.reduceEqDiff, ↓reduceIte, if_true, if_false] at hK ⊢
          have HS9 := Lib.hid hS
          obtain ⟨qN, qR, qO, qZ, c0, c1, c2, c3, c4, c5, c6, c7, c8, c9, c10, c11, c12, c13, c14, c15⟩ := hS
          clear c0 c1 c2 c3 c4 c5 c6 c7 c8 c9 c10 c11 c12 c13 c14 c15
          go_simp
          obtain ⟨qN, qR, qO, qZ, c0, c1, c2, c3, c4, c5, c6, c7, c8, c9, c10, c11, c12, c13, c14, c15⟩ := HS9.out
          exact hK.out _ _ ⟨qN, qR, qO, qZ, fun _ => rfl, fun h => c1 (h.resolve_right (by decide)), fun h => c2 (h.resolve_right (by decide)), fun h => c3 (h.resolve_right (by decide)), fun h => c4 (h.resolve_right (by decide)), fun h => c5 (h.resolve_right (by decide)), fun h => c6 (h.resolve_right (by decide)), fun h => c7 (h.resolve_right (by decide)), fun h => c8 (h.resolve_right (by decide)), fun h => c9 (h.resolve_right (by decide)), fun h => c10 (h.resolve_right (by decide)), fun h => c11 (h.resolve_right (by decide)), fun h => c12 (h.resolve_right (by decide)), fun h => c13 (h.resolve_right (by decide)), fun h t0 => c14 (h.resolve_right (by decide)) (fun z => t0 (.inl z)), fun h => c15 (h.resolve_right (by decide))⟩ _ rfl
        apply RelH.op2
        · intro L f u K hN hS hK
          simp only [puts, Act.put, List.setIfInBounds_toArray, List.set_cons_zero, List.set_cons_succ, upd, Nat.reduceEqDiff, ↓reduceIte, if_true, if_false] at hK ⊢
          have HS9 := Lib.hid hS
          obtain ⟨qN, qR, qO, qZ, c0, c1, c2, c3, c4, c5, c6, c7, c8, c9, c10, c11, c12, c13, c14, c15⟩ := hS
          clear c0 c1 c2 c3 c4 c5 c6 c7 c8 c9 c10 c11 c12 c13 c14 c15
          go_simp
          obtain ⟨qN, qR, qO, qZ, c0, c1, c2, c3, c4, c5, c6, c7, c8, c9, c10, c11, c12, c13, c14, c15⟩ := HS9.out
          exact hK.out _ _ ⟨qN, qR, qO, qZ, fun h => c0 (h.resolve_right (by decide)), fun _ => rfl, fun h => c2 (h.resolve_right (by decide)), fun h => c3 (h.resolve_right (by decide)), fun h => c4 (h.resolve_right (by decide)), fun h => c5 (h.resolve_right (by decide)), fun h => c6 (h.resolve_right (by decide)), fun h => c7 (h.resolve_right (by decide)), fun h => c8 (h.resolve_right (by decide)), fun h => c9 (h.resolve_right (by decide)), fun h => c10 (h.resolve_right (by decide)), fun h => c11 (h.resolve_right (by decide)), fun h => c12 (h.resolve_right (by decide)), fun h => c13 (h.resolve_right (by decide)), fun h t0 => c14 (h.resolve_right (by decide)) (fun z => t0 (.inl z)), fun h => c15 (h.resolve_right (by decide))⟩ _ rfl
        apply RelH.op2
        · intro L f u K hN hS hK
          simp only [puts, Act.put, List.setIfInBounds_toArray, List.set_cons_zero, List.set_cons_succ, upd, Nat.reduceEqDiff, ↓reduceIte, if_true, if_false] at hK ⊢
          have HS9 := Lib.hid hS
          obtain ⟨qN, qR, qO, qZ, c0, c1, c2, c3, c4, c5, c6, c7, c8, c9, c10, c11, c12, c13, c14, c15⟩ := hS
          have e0 := c0 (hN.out.2 0 (by decide +kernel))
          have e1 := c1 (hN.out.2 1 (by decide +kernel))
          clear c0 c1 c2 c3 c4 c5 c6 c7 c8 c9 c10 c11 c12 c13 c14 c15
          go_simp
          obtain ⟨qN, qR, qO, qZ, c0, c1, c2, c3, c4, c5, c6, c7, c8, c9, c10, c11, c12, c13, c14, c15⟩ := HS9.out
          exact hK.out _ _ ⟨qN, qR, qO, qZ, fun h => c0 (h.resolve_right (by decide)), fun h => c1 (h.resolve_right (by decide)), fun _ => rfl, fun h => c3 (h.resolve_right (by decide)), fun h => c4 (h.resolve_right (by decide)), fun h => c5 (h.resolve_right (by decide)), fun h => c6 (h.resolve_right (by decide)), fun h => c7 (h.resolve_right (by decide)), fun h => c8 (h.resolve_right (by decide)), fun h => c9 (h.resolve_right (by decide)), fun h => c10 (h.resolve_right (by decide)), fun h => c11 (h.resolve_right (by decide)), fun h => c12 (h.resolve_right (by decide)), fun h => c13 (h.resolve_right (by decide)), fun h t0 => c14 (h.resolve_right (by decide)) (fun z => t0 (.inl z)), fun h => c15 (h.resolve_right (by decide))⟩ _ (by simp only [e0, e1])
        apply RelH.op2
        · intro L f u K hN hS hK
          simp only [puts, Act.put, List.setIfInBounds_toArray, List.set_cons_zero, List.set_cons_succ, upd, Nat.reduceEqDiff, ↓reduceIte, if_true, if_false] at hK ⊢
          have HS9 := Lib.hid hS
          obtain ⟨qN, qR, qO, qZ, c0, c1, c2, c3, c4, c5, c6, c7, c8, c9, c10, c11, c12, c13, c14, c15⟩ := hS
          have e2 := c2 (hN.out.2 2 (by decide +kernel))
          clear c0 c1 c2 c3 c4 c5 c6 c7 c8 c9 c10 c11 c12 c13 c14 c15
          go_simp
          obtain ⟨qN, qR, qO, qZ, c0, c1, c2, c3, c4, c5, c6, c7, c8, c9, c10, c11, c12, c13, c14, c15⟩ := HS9.out
          exact hK.out _ _ ⟨qN, qR, qO, qZ, fun h => c0 (h.resolve_right (by decide)), fun h => c1 (h.resolve_right (by decide)), fun h => c2 (h.resolve_right (by decide)), fun _ => rfl, fun h => c4 (h.resolve_right (by decide)), fun h => c5 (h.resolve_right (by decide)), fun h => c6 (h.resolve_right (by decide)), fun h => c7 (h.resolve_right (by decide)), fun h => c8 (h.resolve_right (by decide)), fun h => c9 (h.resolve_right (by decide)), fun h => c10 (h.resolve_right (by decide)), fun h => c11 (h.resolve_right (by decide)), fun h => c12 (h.resolve_right (by decide)), fun h => c13 (h.resolve_right (by decide)), fun h t0 => c14 (h.resolve_right (by decide)) (fun z => t0 (.inl z)), fun h => c15 (h.resolve_right (by decide))⟩ _ (by simp only [e2])
        apply RelH.op2
        · intro L f u K hN hS hK
          simp only [puts, Act.put, List.setIfInBounds_toArray, List.set_cons_zero, List.set_cons_succ, upd, Nat.reduceEqDiff, ↓reduceIte, if_true, if_false] at hK ⊢
          have HS9 := Lib.hid hS
          obtain ⟨qN, qR, qO, qZ, c0, c1, c2, c3, c4, c5, c6, c7, c8, c9, c10, c11, c12, c13, c14, c15⟩ := hS
          have e3 := c3 (hN.out.2 3 (by decide +kernel))
          obtain ⟨cc0, cc1, cc2⟩ := qO.cells HL0.out HX0.out
          clear c0 c1 c2 c3 c4 c5 c6 c7 c8 c9 c10 c11 c12 c13 c14 c15
          go_simp
          obtain ⟨qN, qR, qO, qZ, c0, c1, c2, c3, c4, c5, c6, c7, c8, c9, c10, c11, c12, c13, c14, c15⟩ := HS9.out
          exact hK.out _ _ ⟨qN, qR, qO, qZ, fun h => c0 (h.resolve_right (by decide)), fun h => c1 (h.resolve_right (by decide)), fun h => c2 (h.resolve_right (by decide)), fun h => c3 (h.resolve_right (by decide)), fun _ => rfl, fun h => c5 (h.resolve_right (by decide)), fun h => c6 (h.resolve_right (by decide)), fun h => c7 (h.resolve_right (by decide)), fun h => c8 (h.resolve_right (by decide)), fun h => c9 (h.resolve_right (by decide)), fun h => c10 (h.resolve_right (by decide)), fun h => c11 (h.resolve_right (by decide)), fun h => c12 (h.resolve_right (by decide)), fun h => c13 (h.resolve_right (by decide)), fun h t0 => c14 (h.resolve_right (by decide)) (fun z => t0 (.inl z)), fun h => c15 (h.resolve_right (by decide))⟩ _ (by simp only [e3])
        apply RelH.op2
        · intro L f u K hN hS hK
          simp only [puts, Act.put, List.setIfInBounds_toArray, List.set_cons_zero, List.set_cons_succ, upd, Nat.reduceEqDiff, ↓reduceIte, if_true, if_false] at hK ⊢
          have HS9 := Lib.hid hS
          obtain ⟨qN, qR, qO, qZ, c0, c1, c2, c3, c4, c5, c6, c7, c8, c9, c10, c11, c12, c13, c14, c15⟩ := hS
          clear c0 c1 c2 c3 c4 c5 c6 c7 c8 c9 c10 c11 c12 c13 c14 c15
          go_simp
          obtain ⟨qN, qR, qO, qZ, c0, c1, c2, c3, c4, c5, c6, c7, c8, c9, c10, c11, c12, c13, c14, c15⟩ := HS9.out
          exact hK.out _ _ ⟨qN, qR, qO, qZ, fun h => c0 (h.resolve_right (by decide)), fun h => c1 (h.resolve_right (by decide)), fun h => c2 (h.resolve_right (by decide)), fun h => c3 (h.resolve_right (by decide)), fun h => c4 (h.resolve_right (by decide)), fun _ => rfl, fun h => c6 (h.resolve_right (by decide)), fun h => c7 (h.resolve_right (by decide)), fun h => c8 (h.resolve_right (by decide)), fun h => c9 (h.resolve_right (by decide)), fun h => c10 (h.resolve_right (by decide)), fun h => c11 (h.resolve_right (by decide)), fun h => c12 (h.resolve_right (by decide)), fun h => c13 (h.resolve_right (by decide)), fun h t0 => c14 (h.resolve_right (by decide)) (fun z => t0 (.inl z)), fun h => c15 (h.resolve_right (by decide))⟩ _ rfl
        apply RelH.op2
        · intro L f u K hN hS hK
          simp only [puts, Act.put, List.setIfInBounds_toArray, List.set_cons_zero, List.set_cons_succ, upd, Nat.reduceEqDiff, ↓reduceIte, if_true, if_false] at hK ⊢
          have HS9 := Lib.hid hS
          obtain ⟨qN, qR, qO, qZ, c0, c1, c2, c3, c4, c5, c6, c7, c8, c9, c10, c11, c12, c13, c14, c15⟩ := hS
          clear c0 c1 c2 c3 c4 c5 c6 c7 c8 c9 c10 c11 c12 c13 c14 c15
          go_simp
          obtain ⟨qN, qR, qO, qZ, c0, c1, c2, c3, c4, c5, c6, c7, c8, c9, c10, c11, c12, c13, c14, c15⟩ := HS9.out
          exact hK.out _ _ ⟨qN, qR, qO, qZ, fun h => c0 (h.resolve_right (by decide)), fun h => c1 (h.resolve_right (by decide)), fun h => c2 (h.resolve_right (by decide)), fun h => c3 (h.resolve_right (by decide)), fun h => c4 (h.resolve_right (by decide)), fun h => c5 (h.resolve_right (by decide)), fun _ => rfl, fun h => c7 (h.resolve_right (by decide)), fun h => c8 (h.resolve_right (by decide)), fun h => c9 (h.resolve_right (by decide)), fun h => c10 (h.resolve_right (by decide)), fun h => c11 (h.resolve_right (by decide)), fun h => c12 (h.resolve_right (by decide)), fun h => c13 (h.resolve_right (by decide)), fun h t0 => c14 (h.resolve_right (by decide)) (fun z => t0 (.inl z)), fun h => c15 (h.resolve_right (by decide))⟩ _ rfl
        apply RelH.op2
        · intro L f u K hN hS hK
          simp only [puts, Act.put, List.setIfInBounds_toArray, List.set_cons_zero, List.set_cons_succ, upd, Nat.reduceEqDiff, ↓reduceIte, if_true, if_false] at hK ⊢
          have HS9 := Lib.hid hS
          obtain ⟨qN, qR, qO, qZ, c0, c1, c2, c3, c4, c5, c6, c7, c8, c9, c10, c11, c12, c13, c14, c15⟩ := hS
          clear c0 c1 c2 c3 c4 c5 c6 c7 c8 c9 c10 c11 c12 c13 c14 c15
          go_simp
          obtain ⟨qN, qR, qO, qZ, c0, c1, c2, c3, c4, c5, c6, c7, c8, c9, c10, c11, c12, c13, c14, c15⟩ := HS9.out
          exact hK.out _ _ ⟨qN, qR, qO, qZ, fun h => c0 (h.resolve_right (by decide)), fun h => c1 (h.resolve_right (by decide)), fun h => c2 (h.resolve_right (by decide)), fun h => c3 (h.resolve_right (by decide)), fun h => c4 (h.resolve_right (by decide)), fun h => c5 (h.resolve_right (by decide)), fun h => c6 (h.resolve_right (by decide)), fun _ => rfl, fun h => c8 (h.resolve_right (by decide)), fun h => c9 (h.resolve_right (by decide)), fun h => c10 (h.resolve_right (by decide)), fun h => c11 (h.resolve_right (by decide)), fun h => c12 (h.resolve_right (by decide)), fun h => c13 (h.resolve_right (by decide)), fun h t0 => c14 (h.resolve_right (by decide)) (fun z => t0 (.inl z)), fun h => c15 (h.resolve_right (by decide))⟩ _ rfl
        apply RelH.op2
        · intro L f u K hN hS hK
          simp only [puts, Act.put, List.setIfInBounds_toArray, List.set_cons_zero, List.set_cons_succ, upd, Nat.reduceEqDiff, ↓reduceIte, if_true, if_false] at hK ⊢
          have HS9 := Lib.hid hS
          obtain ⟨qN, qR, qO, qZ, c0, c1, c2, c3, c4, c5, c6, c7, c8, c9, c10, c11, c12, c13, c14, c15⟩ := hS
          have e6 := c6 (hN.out.2 6 (by decide +kernel))
          have e7 := c7 (hN.out.2 7 (by decide +kernel))
          clear c0 c1 c2 c3 c4 c5 c6 c7 c8 c9 c10 c11 c12 c13 c14 c15
          go_simp
          obtain ⟨qN, qR, qO, qZ, c0, c1, c2, c3, c4, c5, c6, c7, c8, c9, c10, c11, c12, c13, c14, c15⟩ := HS9.out
          exact hK.out _ _ ⟨qN, qR, qO, qZ, fun h => c0 (h.resolve_right (by decide)), fun h => c1 (h.resolve_right (by decide)), fun h => c2 (h.resolve_right (by decide)), fun h => c3 (h.resolve_right (by decide)), fun h => c4 (h.resolve_right (by decide)), fun h => c5 (h.resolve_right (by decide)), fun h => c6 (h.resolve_right (by decide)), fun h => c7 (h.resolve_right (by decide)), fun _ => rfl, fun h => c9 (h.resolve_right (by decide)), fun h => c10 (h.resolve_right (by decide)), fun h => c11 (h.resolve_right (by decide)), fun h => c12 (h.resolve_right (by decide)), fun h => c13 (h.resolve_right (by decide)), fun h t0 => c14 (h.resolve_right (by decide)) (fun z => t0 (.inl z)), fun h => c15 (h.resolve_right (by decide))⟩ _ (by simp only [e6, e7])
        apply RelH.op2
        · intro L f u K hN hS hK
          simp only [puts, Act.put, List.setIfInBounds_toArray, List.set_cons_zero, List.set_cons_succ, upd, Nat.reduceEqDiff, ↓reduceIte, if_true, if_false] at hK ⊢
          have HS9 := Lib.hid hS
          obtain ⟨qN, qR, qO, qZ, c0, c1, c2, c3, c4, c5, c6, c7, c8, c9, c10, c11, c12, c13, c14, c15⟩ := hS
          have e8 := c8 (hN.out.2 8 (by decide +kernel))
          clear c0 c1 c2 c3 c4 c5 c6 c7 c8 c9 c10 c11 c12 c13 c14 c15
          go_simp
          obtain ⟨qN, qR, qO, qZ, c0, c1, c2, c3, c4, c5, c6, c7, c8, c9, c10, c11, c12, c13, c14, c15⟩ := HS9.out
          exact hK.out _ _ ⟨qN, qR, qO, qZ, fun h => c0 (h.resolve_right (by decide)), fun h => c1 (h.resolve_right (by decide)), fun h => c2 (h.resolve_right (by decide)), fun h => c3 (h.resolve_right (by decide)), fun h => c4 (h.resolve_right (by decide)), fun h => c5 (h.resolve_right (by decide)), fun h => c6 (h.resolve_right (by decide)), fun h => c7 (h.resolve_right (by decide)), fun h => c8 (h.resolve_right (by decide)), fun _ => rfl, fun h => c10 (h.resolve_right (by decide)), fun h => c11 (h.resolve_right (by decide)), fun h => c12 (h.resolve_right (by decide)), fun h => c13 (h.resolve_right (by decide)), fun h t0 => c14 (h.resolve_right (by decide)) (fun z => t0 (.inl z)), fun h => c15 (h.resolve_right (by decide))⟩ _ (by simp only [e8])
        apply RelH.op2
        · intro L f u K hN hS hK
          simp only [puts, Act.put, List.setIfInBounds_toArray, List.set_cons_zero, List.set_cons_succ, upd, Nat.reduceEqDiff, ↓reduceIte, if_true, if_false] at hK ⊢
          have HS9 := Lib.hid hS
          obtain ⟨qN, qR, qO, qZ, c0, c1, c2, c3, c4, c5, c6, c7, c8, c9, c10, c11, c12, c13, c14, c15⟩ := hS
          have e9 := c9 (hN.out.2 9 (by decide +kernel))
          obtain ⟨cc0, cc1, cc2⟩ := qO.cells HL0.out HX0.out
          clear c0 c1 c2 c3 c4 c5 c6 c7 c8 c9 c10 c11 c12 c13 c14 c15
          go_simp
          obtain ⟨qN, qR, qO, qZ, c0, c1, c2, c3, c4, c5, c6, c7, c8, c9, c10, c11, c12, c13, c14, c15⟩ := HS9.out
          exact hK.out _ _ ⟨qN, qR, qO, qZ, fun h => c0 (h.resolve_right (by decide)), fun h => c1 (h.resolve_right (by decide)), fun h => c2 (h.resolve_right (by decide)), fun h => c3 (h.resolve_right (by decide)), fun h => c4 (h.resolve_right (by decide)), fun h => c5 (h.resolve_right (by decide)), fun h => c6 (h.resolve_right (by decide)), fun h => c7 (h.resolve_right (by decide)), fun h => c8 (h.resolve_right (by decide)), fun h => c9 (h.resolve_right (by decide)), fun _ => rfl, fun h => c11 (h.resolve_right (by decide)), fun h => c12 (h.resolve_right (by decide)), fun h => c13 (h.resolve_right (by decide)), fun h t0 => c14 (h.resolve_right (by decide)) (fun z => t0 (.inl z)), fun h => c15 (h.resolve_right (by decide))⟩ _ (by simp only [e9])
        apply RelH.op2
        · intro L f u K hN hS hK
          simp only [puts, Act.put, List.setIfInBounds_toArray, List.set_cons_zero, List.set_cons_succ, upd, Nat.reduceEqDiff, ↓reduceIte, if_true, if_false] at hK ⊢
          have HS9 := Lib.hid hS
          obtain ⟨qN, qR, qO, qZ, c0, c1, c2, c3, c4, c5, c6, c7, c8, c9, c10, c11, c12, c13, c14, c15⟩ := hS
          have e10 := c10 (hN.out.2 10 (by decide +kernel))
          have HCON := Lib.hid (mass_spec x.f1 x.f2 hu0 hu1 hv0 hv1 u)
          clear c0 c1 c2 c3 c4 c5 c6 c7 c8 c9 c10 c11 c12 c13 c14 c15
          go_simp
          go_at_call 92
          (with_reducible refine HCON.out.mono ?_)
          rintro e uw1 ⟨rfl, hv⟩
          go_wp2_with fail
          obtain ⟨qN, qR, qO, qZ, c0, c1, c2, c3, c4, c5, c6, c7, c8, c9, c10, c11, c12, c13, c14, c15⟩ := HS9.out
          exact hK.out _ _ ⟨qN.more hv, qR.more hv, qO.keep hv, (Nat.le_trans qZ hv.size), fun h => c0 (h.resolve_right (by decide)), fun h => c1 (h.resolve_right (by decide)), fun h => c2 (h.resolve_right (by decide)), fun h => c3 (h.resolve_right (by decide)), fun h => c4 (h.resolve_right (by decide)), fun h => c5 (h.resolve_right (by decide)), fun h => c6 (h.resolve_right (by decide)), fun h => c7 (h.resolve_right (by decide)), fun h => c8 (h.resolve_right (by decide)), fun h => c9 (h.resolve_right (by decide)), fun h => c10 (h.resolve_right (by decide)), fun _ => rfl, fun h => c12 (h.resolve_right (by decide)), fun h => c13 (h.resolve_right (by decide)), fun h t0 => (let ⟨a, e, z, X⟩ := (c14 (h.resolve_right (by decide)) (fun z => t0 (.inl z))); ⟨a, e, z, X.more hv⟩), fun h => (let ⟨a, e, z, X⟩ := (c15 (h.resolve_right (by decide))); ⟨a, e, z, X.more hv⟩)⟩ _ (by simp only [e10])
        apply RelH.op2
        · intro L f u K hN hS hK
          simp only [puts, Act.put, List.setIfInBounds_toArray, List.set_cons_zero, List.set_cons_succ, upd, Nat.reduceEqDiff, ↓reduceIte, if_true, if_false] at hK ⊢
          have HS9 := Lib.hid hS
          obtain ⟨qN, qR, qO, qZ, c0, c1, c2, c3, c4, c5, c6, c7, c8, c9, c10, c11, c12, c13, c14, c15⟩ := hS
          have e5 := c5 (hN.out.2 5 (by decide +kernel))
          have e11 := c11 (hN.out.2 11 (by decide +kernel))
          have HCON := Lib.hid (HLS.out u)
          clear c0 c1 c2 c3 c4 c5 c6 c7 c8 c9 c10 c11 c12 c13 c14 c15
          go_simp
          go_at_call 115
          (with_reducible refine HCON.out.mono ?_)
          rintro e uw1 ⟨rfl, rfl⟩
          go_wp2_with fail
          obtain ⟨qN, qR, qO, qZ, c0, c1, c2, c3, c4, c5, c6, c7, c8, c9, c10, c11, c12, c13, c14, c15⟩ := HS9.out
          exact hK.out _ _ ⟨qN, qR, qO, qZ, fun h => c0 (h.resolve_right (by decide)), fun h => c1 (h.resolve_right (by decide)), fun h => c2 (h.resolve_right (by decide)), fun h => c3 (h.resolve_right (by decide)), fun h => c4 (h.resolve_right (by decide)), fun h => c5 (h.resolve_right (by decide)), fun h => c6 (h.resolve_right (by decide)), fun h => c7 (h.resolve_right (by decide)), fun h => c8 (h.resolve_right (by decide)), fun h => c9 (h.resolve_right (by decide)), fun h => c10 (h.resolve_right (by decide)), fun h => c11 (h.resolve_right (by decide)), fun _ => rfl, fun h => c13 (h.resolve_right (by decide)), fun h t0 => c14 (h.resolve_right (by decide)) (fun z => t0 (.inl z)), fun h => c15 (h.resolve_right (by decide))⟩ _ (by simp only [e5, e11])
        apply RelH.op2
        · intro L f u K hN hS hK
          simp only [puts, Act.put, List.setIfInBounds_toArray, List.set_cons_zero, List.set_cons_succ, upd, Nat.reduceEqDiff, ↓reduceIte, if_true, if_false] at hK ⊢
          have HS9 := Lib.hid hS
          obtain ⟨qN, qR, qO, qZ, c0, c1, c2, c3, c4, c5, c6, c7, c8, c9, c10, c11, c12, c13, c14, c15⟩ := hS
          have e4 := c4 (hN.out.2 4 (by decide +kernel))
          have e12 := c12 (hN.out.2 12 (by decide +kernel))
          have HCON := Lib.hid (HPT.out u)
          clear c0 c1 c2 c3 c4 c5 c6 c7 c8 c9 c10 c11 c12 c13 c14 c15
          go_simp
          go_at_call 132
          (with_reducible refine HCON.out.mono ?_)
          rintro e uw1 ⟨rfl, hv⟩
          go_wp2_with fail
          obtain ⟨qN, qR, qO, qZ, c0, c1, c2, c3, c4, c5, c6, c7, c8, c9, c10, c11, c12, c13, c14, c15⟩ := HS9.out
          exact hK.out _ _ ⟨qN.more hv, qR.more hv, qO.keep hv, (Nat.le_trans qZ hv.size), fun h => c0 (h.resolve_right (by decide)), fun h => c1 (h.resolve_right (by decide)), fun h => c2 (h.resolve_right (by decide)), fun h => c3 (h.resolve_right (by decide)), fun h => c4 (h.resolve_right (by decide)), fun h => c5 (h.resolve_right (by decide)), fun h => c6 (h.resolve_right (by decide)), fun h => c7 (h.resolve_right (by decide)), fun h => c8 (h.resolve_right (by decide)), fun h => c9 (h.resolve_right (by decide)), fun h => c10 (h.resolve_right (by decide)), fun h => c11 (h.resolve_right (by decide)), fun h => c12 (h.resolve_right (by decide)), fun _ => rfl, fun h t0 => (let ⟨a, e, z, X⟩ := (c14 (h.resolve_right (by decide)) (fun z => t0 (.inl z))); ⟨a, e, z, X.more hv⟩), fun h => (let ⟨a, e, z, X⟩ := (c15 (h.resolve_right (by decide))); ⟨a, e, z, X.more hv⟩)⟩ _ (by simp only [e4, e12])
        apply RelH.op2
        · intro L f u K hN hS hK
          simp only [puts, Act.put, List.setIfInBounds_toArray, List.set_cons_zero, List.set_cons_succ, upd, Nat.reduceEqDiff, ↓reduceIte, if_true, if_false] at hK ⊢
          have HS9 := Lib.hid hS
          obtain ⟨qN, qR, qO, qZ, c0, c1, c2, c3, c4, c5, c6, c7, c8, c9, c10, c11, c12, c13, c14, c15⟩ := hS
          have hv : Below u.heap.size u (u.alloc (.cells #[.int .i64 0, .int .i64 0] 26)) := al (Below.refl _ _)
          have hX := Box.new qN.below [.int .i64 0, .int .i64 0] 26 (g := u.heap.size) rfl
          clear c0 c1 c2 c3 c4 c5 c6 c7 c8 c9 c10 c11 c12 c13 c14 c15
          go_simp
          obtain ⟨qN, qR, qO, qZ, c0, c1, c2, c3, c4, c5, c6, c7, c8, c9, c10, c11, c12, c13, c14, c15⟩ := HS9.out
          exact hK.out _ _ ⟨qN.more hv, qR.more hv, qO.keep hv, (Nat.le_trans qZ hv.size), fun h => c0 (h.resolve_right (by decide)), fun h => c1 (h.resolve_right (by decide)), fun h => c2 (h.resolve_right (by decide)), fun h => c3 (h.resolve_right (by decide)), fun h => c4 (h.resolve_right (by decide)), fun h => c5 (h.resolve_right (by decide)), fun h => c6 (h.resolve_right (by decide)), fun h => c7 (h.resolve_right (by decide)), fun h => c8 (h.resolve_right (by decide)), fun h => c9 (h.resolve_right (by decide)), fun h => c10 (h.resolve_right (by decide)), fun h => c11 (h.resolve_right (by decide)), fun h => c12 (h.resolve_right (by decide)), fun h => c13 (h.resolve_right (by decide)), fun _ _ => ⟨_, rfl, qZ, hX⟩, fun h => absurd (h.resolve_right (by decide)) (hN.out.1 15 (by decide +kernel))⟩ _ rfl
        apply RelH.op2
        · intro L f u K hN hS hK
          simp only [puts, Act.put, List.setIfInBounds_toArray, List.set_cons_zero, List.set_cons_succ, upd, Nat.reduceEqDiff, ↓reduceIte, if_true, if_false] at hK ⊢
          have HS9 := Lib.hid hS
          obtain ⟨qN, qR, qO, qZ, c0, c1, c2, c3, c4, c5, c6, c7, c8, c9, c10, c11, c12, c13, c14, c15⟩ := hS
          have e13 := c13 (hN.out.2 13 (by decide +kernel))
          obtain ⟨a, e14, z14, X⟩ := c14 (hN.out.2 14 (by decide +kernel)) (hN.out.1 15 (by decide +kernel))
          have hka : w.heap.size ≤ a := X.base
          have X_0 := X.cells 0 _ rfl
          have X_1 := X.cells 1 _ rfl
          have X_f0 := X.free 0 (by simp)
          have X_f1 := X.free 1 (by simp)
          clear c0 c1 c2 c3 c4 c5 c6 c7 c8 c9 c10 c11 c12 c13 c14 c15
          go_simp
          obtain ⟨qN, qR, qO, qZ, c0, c1, c2, c3, c4, c5, c6, c7, c8, c9, c10, c11, c12, c13, c14, c15⟩ := HS9.out
          exact hK.out undef _ ⟨(qN.far hka (by omega) 0 _).far hka (by omega) 1 _, (qR.far hka (by omega) 0 _).far hka (by omega) 1 _, (qO.far (by omega) 0 _).far (by omega) 1 _, (by rw [size_set', size_set']; exact qZ), fun h => c0 (h.resolve_right (by decide)), fun h => c1 (h.resolve_right (by decide)), fun h => c2 (h.resolve_right (by decide)), fun h => c3 (h.resolve_right (by decide)), fun h => c4 (h.resolve_right (by decide)), fun h => c5 (h.resolve_right (by decide)), fun h => c6 (h.resolve_right (by decide)), fun h => c7 (h.resolve_right (by decide)), fun h => c8 (h.resolve_right (by decide)), fun h => c9 (h.resolve_right (by decide)), fun h => c10 (h.resolve_right (by decide)), fun h => c11 (h.resolve_right (by decide)), fun h => c12 (h.resolve_right (by decide)), fun h => c13 (h.resolve_right (by decide)), fun h t0 => (t0 (by simp)).elim, fun _ => ⟨a, e14, z14, (X.set 0 (.int .i64 a1)).set 1 (.int .i64 a2)⟩⟩ _ (by simp only [e13, e14])
        exact RelH.done
      intro L f V0 hL hS
      simp only [puts, Act.put, List.setIfInBounds_toArray, List.set_cons_zero, List.set_cons_succ]
      obtain ⟨qN, qR, qO, qZ, c0, c1, c2, c3, c4, c5, c6, c7, c8, c9, c10, c11, c12, c13, c14, c15⟩ := hS
      clear N R O hZ
      obtain ⟨a, e14, z14, X⟩ := c15 (hL 15 (by decide))
      have e0 := c0 (hL 0 (by decide)); have e1 := c1 (hL 1 (by decide)); have e2 := c2 (hL 2 (by decide)); have e3 := c3 (hL 3 (by decide)); have e4 := c4 (hL 4 (by decide)); have e5 := c5 (hL 5 (by decide)); have e6 := c6 (hL 6 (by decide)); have e7 := c7 (hL 7 (by decide)); have e8 := c8 (hL 8 (by decide)); have e9 := c9 (hL 9 (by decide)); have e10 := c10 (hL 10 (by decide)); have e11 := c11 (hL 11 (by decide)); have e12 := c12 (hL 12 (by decide)); have e13 := c13 (hL 13 (by decide))
      simp only [e0, e1, e2, e3, e4, e5, e6, e7, e8, e9, e10, e11, e12, e13, e14]
      clear e0 e1 e2 e3 e4 e5 e6 e7 e8 e9 e10 e11 e12 e13 e14 c0 c1 c2 c3 c4 c5 c6 c7 c8 c9 c10 c11 c12 c13 c14 c15 hL
      have N := qN
      have R := qR
      have O := qO
      clear qN qR qO qZ
      obtain ⟨c0, c1, c2⟩ := O.cells HL0.out HX0.out
      have N_0 := N.cells 0 _ rfl
      have N_1 := N.cells 1 _ rfl
      have N_f0 := N.free 0 (by simp)
      have N_f1 := N.free 1 (by simp)
      have N_t := N.there
      have R_0 := R.cells 0 _ rfl
      have R_1 := R.cells 1 _ rfl
      have R_f0 := R.free 0 (by simp)
      have R_f1 := R.free 1 (by simp)
      have R_t := R.there
      have X_0 := X.cells 0 _ rfl
      have X_1 := X.cells 1 _ rfl
      have X_f0 := X.free 0 (by simp)
      have X_f1 := X.free 1 (by simp)
      have X_t := X.there
      go_wp2_with fail
      refine wp_region_last 11 (fun w' => Box (w.heap.size) [.int .i64 p1, .int .i64 p2] w w' ∧ Box (w.heap.size + 1) [.int .i64 0, .int .i64 0] w w' ∧ Box (a) [.int .i64 a1, .int .i64 a2] w w' ∧ Own w' w.heap.size g c M0 ∧ w'.cell? ⟨g, j * 3, none⟩ = some (.int .i64 x.f0) ∧ w'.cell? ⟨g, j * 3 + 1, none⟩ = some (.int .i64 x.f1) ∧ w'.cell? ⟨g, j * 3 + 2, none⟩ = some (.int .i64 x.f2)) (by kernel_rfl) (by kernel_rfl) (by kernel_rfl) ⟨N.drew, R.drew, X.drew, Own.keep O (Below.refl _ _).drew, cell_kept c0 (Below.refl _ _).drew, cell_kept c1 (Below.refl _ _).drew, cell_kept c2 (Below.refl _ _).drew⟩ ?_
      clear N_0 N_1 N_f0 N_f1 N_t
      clear R_0 R_1 R_f0 R_f1 R_t
      clear X_0 X_1 X_f0 X_f1 X_t
      simp only [List.take_succ_cons, List.take_zero]
      iterate 11 (
        apply SeqH.one
        · intro uw K hS hK
          obtain ⟨qN, qR, qX, qO, qc0, qc1, qc2⟩ := hS
          have qN_0 := qN.cells 0 _ rfl
          have qN_1 := qN.cells 1 _ rfl
          have qR_0 := qR.cells 0 _ rfl
          have qR_1 := qR.cells 1 _ rfl
          have qX_0 := qX.cells 0 _ rfl
          have qX_1 := qX.cells 1 _ rfl
          first
            | (go_simp; exact hK.out _ ⟨qN, qR, qX, qO, qc0, qc1, qc2⟩)
            | (go_simp; go_at_call 133; (with_reducible refine (HLF.out _).mono ?_); rintro e uw1 ⟨rfl, hv⟩; unfold br; go_wp2_with fail; exact hK.out _ ⟨qN.more hv, qR.more hv, qX.more hv, Own.keep qO hv, cell_kept qc0 hv, cell_kept qc1 hv, cell_kept qc2 hv⟩)
        try simp only [Act.put, List.setIfInBounds_toArray, List.set_cons_zero, List.set_cons_succ])
      refine SeqH.rest rfl ?_
      intro v1 hS
      clear N R X O c0 c1 c2
      obtain ⟨N, R, X, O, c0, c1, c2⟩ := hS
      simp only [List.drop_succ_cons, List.drop_zero]
      have N_0 := N.cells 0 _ rfl
      have N_1 := N.cells 1 _ rfl
      have N_f0 := N.free 0 (by simp)
      have N_f1 := N.free 1 (by simp)
      have N_t := N.there
      have R_0 := R.cells 0 _ rfl
      have R_1 := R.cells 1 _ rfl
      have R_f0 := R.free 0 (by simp)
      have R_f1 := R.free 1 (by simp)
      have R_t := R.there
      have X_0 := X.cells 0 _ rfl
      have X_1 := X.cells 1 _ rfl
      have X_f0 := X.free 0 (by simp)
      have X_f1 := X.free 1 (by simp)
      have X_t := X.there
      have f1 := O.free (j * 3 + 1)
      have f2 := O.free (j * 3 + 2)
      have hgN : g ≠ w.heap.size := by omega
      have hgR : g ≠ w.heap.size + 1 := by omega
      have hga : g ≠ a := by omega
      have O2 := O.put HL0.out HX0.out (x.f1 - a1) (x.f2 - a2)
      rw [HS1.out] at O2
      have N2 := (N.far hgw hgN (j * 3 + 1) (.int .i64 (x.f1 - a1))).far hgw hgN (j * 3 + 2) (.int .i64 (x.f2 - a2))
      have R2 := (R.far hgw hgR (j * 3 + 1) (.int .i64 (x.f1 - a1))).far hgw hgR (j * 3 + 2) (.int .i64 (x.f2 - a2))
      have X2 := (X.far hgw hga (j * 3 + 1) (.int .i64 (x.f1 - a1))).far hgw hga (j * 3 + 2) (.int .i64 (x.f2 - a2))
      have HW2 := Lib.hid (And.intro O2 (And.intro N2 (And.intro R2 X2)))
      clear O2 N2 R2 X2
      go_upto_region 7 with fail
      clear N_0 N_1 N_f0 N_f1 N_t
      clear R_0 R_1 R_f0 R_f1 R_t
      clear X_0 X_1 X_f0 X_f1 X_t
      clear O N R X c0 c1 c2 f1 f2
      obtain ⟨O, N, R, X⟩ := HW2.out
      clear HW2
      generalize ((v1.setCell ⟨g, j * 3 + 1, none⟩ (.int .i64 (x.f1 - a1))).setCell ⟨g, j * 3 + 2, none⟩ (.int .i64 (x.f2 - a2))) = W9 at O N R X ⊢
      have N_0 := N.cells 0 _ rfl
      have N_1 := N.cells 1 _ rfl
      have N_f0 := N.free 0 (by simp)
      have N_f1 := N.free 1 (by simp)
      have N_t := N.there
      have R_0 := R.cells 0 _ rfl
      have R_1 := R.cells 1 _ rfl
      have R_f0 := R.free 0 (by simp)
      have R_f1 := R.free 1 (by simp)
      have R_t := R.there
      have X_0 := X.cells 0 _ rfl
      have X_1 := X.cells 1 _ rfl
      have X_f0 := X.free 0 (by simp)
      have X_f1 := X.free 1 (by simp)
      have X_t := X.there
      by_cases hl : j + 1 = l.length
      · have e9 : ((j : Int) == (l.length : Int) - 1) = true := by rw [beq_iff_eq]; omega
        have e8 : (j : Int) = (l.length : Int) - 1 := by omega
        have HPL := Lib.hid (HPN.out.1 hl)
        have HO1 := Lib.hid (show outW l n = a1 ∧ outS l n = a2 by unfold outW outS; rw [← hl]; exact HIN.out)
        have HH := Lib.hid (half1_last (n := n) hl)
        have HE8 := Lib.hid e8
        clear hl e8
        go_wp2_with fail
        refine (Mix.sum_spec p1 p2 a1 a2 bp0 (by omega) bp2 (by omega) b0 (by omega) b2 (by omega) _).mono ?_
        rintro e v1 ⟨rfl, hv1⟩
        clear N_0 N_1 N_f0 N_f1 N_t
        clear R_0 R_1 R_f0 R_f1 R_t
        clear X_0 X_1 X_f0 X_f1 X_t
        replace N := N.more hv1
        replace R := R.more hv1
        replace X := X.more hv1
        replace O := Own.keep O hv1
        have zhv1 := hv1.size
        clear hv1
        have N_0 := N.cells 0 _ rfl
        have N_1 := N.cells 1 _ rfl
        have N_f0 := N.free 0 (by simp)
        have N_f1 := N.free 1 (by simp)
        have N_t := N.there
        have R_0 := R.cells 0 _ rfl
        have R_1 := R.cells 1 _ rfl
        have R_f0 := R.free 0 (by simp)
        have R_f1 := R.free 1 (by simp)
        have R_t := R.there
        have X_0 := X.cells 0 _ rfl
        have X_1 := X.cells 1 _ rfl
        have X_f0 := X.free 0 (by simp)
        have X_f1 := X.free 1 (by simp)
        have X_t := X.there
        unfold br
        have N3 := Lib.hid ((N.set 0 (.int .i64 (p1 + a1))).set 1 (.int .i64 (p2 + a2)))
        have hnw : w.heap.size ≠ w.heap.size + 1 := by omega
        have R3 := Lib.hid ((R.far (Nat.le_refl _) hnw 0 (.int .i64 (p1 + a1))).far (Nat.le_refl _) hnw 1 (.int .i64 (p2 + a2)))
        have hng : w.heap.size ≠ g := by omega
        have O3 := Lib.hid ((O.far hng 0 (.int .i64 (p1 + a1))).far hng 1 (.int .i64 (p2 + a2)))
        clear O
        go_wp2
        go_roundw
        case rel => exact ⟨j, _, _, _, by omega, rfl, by go_num, Lib.hid ⟨fun h => by omega, fun _ => by rw [HO1.out.1, HO1.out.2, HPL.out.1, HPL.out.2]; exact ⟨rfl, rfl⟩⟩, by rw [← HH.out]; exact O3.out, N3.out, R3.out⟩
        case measure => simp [intOf]
      · have e9 : ((j : Int) == (l.length : Int) - 1) = false := by rw [beq_eq_false_iff_ne]; omega
        have hl2 : j + 1 < l.length := by omega
        have HPL := Lib.hid (HPN.out.2 hl2)
        obtain ⟨y, hy⟩ : ∃ y, l[j + 1] = y := ⟨_, rfl⟩
        have hoy := good_get HG.out hl2 hy
        obtain ⟨_, _, hw0, hw1, hs0, hs1⟩ := okA_true hoy
        obtain ⟨v0, v1, v2, v3⟩ := go_bd hoy HN.out
        have hlh : j + 1 < (half1 l n j).length := by rw [half1_len]; exact hl2
        have hyh : (half1 l n j)[j + 1] = ⟨y.f0, y.f1 - gw y n, y.f2 - gs y n⟩ := by rw [half1_next hl2 hlh]; unfold leftAt; rw [getD_at hl2, hy]
        have hset := half1_set (n := n) hl2
        rw [SerP.passAt_eq hl2 hy, HIN.out.1, HIN.out.2] at hset
        obtain ⟨d1, hd1⟩ : ∃ d, y.f1 - gw y n = d := ⟨_, rfl⟩
        obtain ⟨d2, hd2⟩ : ∃ d, y.f2 - gs y n = d := ⟨_, rfl⟩
        rw [hd1, hd2] at hyh hset
        have hdb : 0 ≤ d1 ∧ d1 ≤ 1000000 ∧ 0 ≤ d2 ∧ d2 ≤ 1000000 := by omega
        obtain ⟨t0, t1, t2, t3⟩ := hdb
        obtain ⟨c0, c1, c2⟩ := O.cells hlh hyh
        have HYH := Lib.hid hyh; have HSET := Lib.hid hset; have HLH := Lib.hid hlh
        have q1 : IntKind.i64.wrap ((j : Int) + 1) = (j : Int) + 1 := IntWalk.i64_in _ (by omega)
        have i1 : (j : Int) + 1 < l.length := by omega
        have i3 : decide ((j : Int) + 1 < 0) = false := decide_eq_false (by omega)
        have i4 : ((j : Int) + 1).toNat = j + 1 := by omega
        have i5 : ¬ ((j : Int) + 1 < 0) := by omega
        have i6 : (0 : Int) ≤ (j : Int) + 1 := by omega
        clear hyh hset hd1 hd2 v0 v1 v2 v3 hy hoy hl hw0 hw1 hs0 hs1
        dsimp only at c0 c1 c2
        go_wp2_with fail
        refine wp_region_last 13 (fun w' => Box (w.heap.size) [.int .i64 p1, .int .i64 p2] w w' ∧ Box (w.heap.size + 1) [.int .i64 0, .int .i64 0] w w' ∧ Box (a) [.int .i64 a1, .int .i64 a2] w w' ∧ Own w' w.heap.size g c (half1 l n j) ∧ w'.cell? ⟨g, (j + 1) * 3, none⟩ = some (.int .i64 y.f0) ∧ w'.cell? ⟨g, (j + 1) * 3 + 1, none⟩ = some (.int .i64 d1) ∧ w'.cell? ⟨g, (j + 1) * 3 + 2, none⟩ = some (.int .i64 d2)) (by kernel_rfl) (by kernel_rfl) (by kernel_rfl) ⟨N.drew, R.drew, X.drew, Own.keep O (Below.refl _ _).drew, cell_kept c0 (Below.refl _ _).drew, cell_kept c1 (Below.refl _ _).drew, cell_kept c2 (Below.refl _ _).drew⟩ ?_
        clear N_0 N_1 N_f0 N_f1 N_t
        clear R_0 R_1 R_f0 R_f1 R_t
        clear X_0 X_1 X_f0 X_f1 X_t
        simp only [List.take_succ_cons, List.take_zero]
        iterate 13 (
          apply SeqH.one
          · intro uw K hS hK
            obtain ⟨qN, qR, qX, qO, qc0, qc1, qc2⟩ := hS
            have qN_0 := qN.cells 0 _ rfl
            have qN_1 := qN.cells 1 _ rfl
            have qR_0 := qR.cells 0 _ rfl
            have qR_1 := qR.cells 1 _ rfl
            have qX_0 := qX.cells 0 _ rfl
            have qX_1 := qX.cells 1 _ rfl
            first
              | (go_simp; exact hK.out _ ⟨qN, qR, qX, qO, qc0, qc1, qc2⟩)
              | (go_simp; go_at_call 94; (with_reducible refine (Mix.sum_spec d1 d2 a1 a2 t0 (by omega) t2 (by omega) b0 (by omega) b2 (by omega) _).mono ?_); rintro e uw1 ⟨rfl, hv⟩; unfold br; go_wp2_with fail; exact hK.out _ ⟨qN.more hv, qR.more hv, qX.more hv, Own.keep qO hv, cell_kept qc0 hv, cell_kept qc1 hv, cell_kept qc2 hv⟩)
          try simp only [Act.put, List.setIfInBounds_toArray, List.set_cons_zero, List.set_cons_succ])
        refine SeqH.rest rfl ?_
        intro v2 hS
        clear N R X O c0 c1 c2
        obtain ⟨N, R, X, O, c0, c1, c2⟩ := hS
        simp only [List.drop_succ_cons, List.drop_zero]
        have N_0 := N.cells 0 _ rfl
        have N_1 := N.cells 1 _ rfl
        have N_f0 := N.free 0 (by simp)
        have N_f1 := N.free 1 (by simp)
        have N_t := N.there
        have R_0 := R.cells 0 _ rfl
        have R_1 := R.cells 1 _ rfl
        have R_f0 := R.free 0 (by simp)
        have R_f1 := R.free 1 (by simp)
        have R_t := R.there
        have X_0 := X.cells 0 _ rfl
        have X_1 := X.cells 1 _ rfl
        have X_f0 := X.free 0 (by simp)
        have X_f1 := X.free 1 (by simp)
        have X_t := X.there
        have f1 := O.free ((j + 1) * 3 + 1)
        have f2 := O.free ((j + 1) * 3 + 2)
        have O2 := O.put HLH.out HYH.out (d1 + a1) (d2 + a2)
        rw [HSET.out] at O2
        have N2 := (N.far hgw hgN ((j + 1) * 3 + 1) (.int .i64 (d1 + a1))).far hgw hgN ((j + 1) * 3 + 2) (.int .i64 (d2 + a2))
        have R2 := (R.far hgw hgR ((j + 1) * 3 + 1) (.int .i64 (d1 + a1))).far hgw hgR ((j + 1) * 3 + 2) (.int .i64 (d2 + a2))
        have HW2 := Lib.hid (And.intro O2 (And.intro N2 R2))
        clear O2 N2 R2 O
        go_wp2
        go_roundw
        case rel => exact ⟨j, _, _, _, by omega, rfl, by go_num, Lib.hid ⟨fun h => by omega, fun _ => HPL.out⟩, HW2.out.1, HW2.out.2.1, HW2.out.2.2⟩
        case measure => simp [intOf]
    · have hk0 : k = 0 := by omega
      subst hk0
      have hz2 : decide ((0 : Int) ≤ z) = false := decide_eq_false (by omega)
      have HPL := Lib.hid (HPN.out.2 (by omega))
      rw [fro_zero] at O
      have HGS := Lib.hid (fun u0 (o : Own u0 w.heap.size g c (passL l n)) => show Calls Try.prog 79 #[.slice (some ⟨g, 0, none⟩) l.length c] u0 (RPost (.bool (good (passL l n))) u0) from by
        have h := good_spec (some ⟨g, 0, none⟩) c (passL l n) u0 o.rd (by rw [pass_len]; omega)
        rw [pass_len] at h; exact h)
      have HSO := Lib.hid (show stepOk l p q n = (good (passL l n) && okB p1 p2) by unfold stepOk; rw [HPL.out.1, HPL.out.2])
      have hpl := pass_len l n
      have hnw : w.heap.size + 1 ≠ g := by omega
      have N_0 := N.cells 0 _ rfl
      have N_1 := N.cells 1 _ rfl
      have N_f0 := N.free 0 (by simp)
      have N_f1 := N.free 1 (by simp)
      have N_t := N.there
      have R_0 := R.cells 0 _ rfl
      have R_1 := R.cells 1 _ rfl
      have R_f0 := R.free 0 (by simp)
      have R_f1 := R.free 1 (by simp)
      have R_t := R.there
      cases hgp : good (passL l n)
      · rw [hgp] at HGS HSO
        have HSO2 := Lib.hid (show stepOk l p q n = false from HSO.out)
        clear hgp hpl hz
        go_wp2_with fail
        refine wp_region_seq (fun L w' => Box (w.heap.size) [.int .i64 p1, .int .i64 p2] w w' ∧ BoxL (L 9) (w.heap.size + 1) [.int .i64 0, .int .i64 0] [.int .i64 p1, .int .i64 p2] w w' ∧ Own w' w.heap.size g c (passL l n)) (by kernel_rfl) (by kernel_rfl) ⟨N.drew, BoxL.start _ R.drew, Own.keep O (Below.refl _ _).drew⟩ ?_
        clear N_0 N_1 N_f0 N_f1 N_t
        clear R_0 R_1 R_f0 R_f1 R_t
        iterate 11 (
          apply SeqH.op
          · intro L uw K hN hS hK
            obtain ⟨qN, qR, qO⟩ := hS
            have qN_0 := qN.cells 0 _ rfl
            have qN_1 := qN.cells 1 _ rfl
            try (have hh0 := qR.2 (hN.out.1 9 (by decide +kernel)); have qR_0 := hh0.cells 0 _ rfl; have qR_1 := hh0.cells 1 _ rfl; clear hh0)
            clear hN
            first
              | (go_simp; exact hK.out _ ⟨qN, (qR).skip (by decide), qO⟩)
              | (go_simp; go_at_call 79; (with_reducible refine (HGS.out _ qO).mono ?_); rintro e uw1 ⟨rfl, hv⟩; go_wp2_with fail; exact hK.out _ ⟨qN.more hv, (qR.more hv).skip (by decide), Own.keep qO hv⟩)
              | (go_simp; go_at_call 80; (with_reducible refine (brine_spec p1 p2 _).mono ?_); rintro e uw1 ⟨rfl, hv⟩; go_wp2_with fail; exact hK.out _ ⟨qN.more hv, (qR.more hv).skip (by decide), Own.keep qO hv⟩)
              | (rcases qR.two with hh | hh <;> (have h0 := hh.cells 0 _ rfl; have k0 := hh.free 0 (by simp); have h1 := hh.cells 1 _ rfl; have k1 := hh.free 1 (by simp); go_simp; exact hK.out _ ⟨((qN.far hh.base (by omega) 0 (.int .i64 p1)).far hh.base (by omega) 1 (.int .i64 p2)), BoxL.put ((hh.set 0 (.int .i64 p1)).set 1 (.int .i64 p2)), ((qO.far (by omega) 0 (.int .i64 p1)).far (by omega) 1 (.int .i64 p2))⟩))
          try simp only [Act.put, List.setIfInBounds_toArray, List.set_cons_zero, List.set_cons_succ])
        refine SeqH.done rfl ?_
        intro L v1 hL hS
        clear N R O
        obtain ⟨N, R, O⟩ := hS
        replace R := R.done (hL 9 (by decide))
        clear hL
        have N_0 := N.cells 0 _ rfl
        have N_1 := N.cells 1 _ rfl
        have N_f0 := N.free 0 (by simp)
        have N_f1 := N.free 1 (by simp)
        have N_t := N.there
        have R_0 := R.cells 0 _ rfl
        have R_1 := R.cells 1 _ rfl
        have R_f0 := R.free 0 (by simp)
        have R_f1 := R.free 1 (by simp)
        have R_t := R.there
        go_wp2
        exact bodyPost_ret (v := .tuple #[.slice (some ⟨g, 0, none⟩) l.length c, .agg #[.int .i64 p1, .int .i64 p2], .bool false]) (by simp [results, Try.results81, go_sem, R_0, R_1]) rfl ⟨g, c, by rw [HSO2.out, ← HPL.out.1, ← HPL.out.2], O, R.below⟩
      · rw [hgp] at HGS HSO
        obtain ⟨bb, hob⟩ : ∃ b, okB p1 p2 = b := ⟨_, rfl⟩
        have HOB := Lib.hid hob
        have HSO2 := Lib.hid (show stepOk l p q n = bb by rw [HSO.out, hob]; rfl)
        clear hgp hpl hz hob
        go_wp2_with fail
        refine wp_region_seq (fun L w' => Box (w.heap.size) [.int .i64 p1, .int .i64 p2] w w' ∧ BoxL (L 9) (w.heap.size + 1) [.int .i64 0, .int .i64 0] [.int .i64 p1, .int .i64 p2] w w' ∧ Own w' w.heap.size g c (passL l n)) (by kernel_rfl) (by kernel_rfl) ⟨N.drew, BoxL.start _ R.drew, Own.keep O (Below.refl _ _).drew⟩ ?_
        clear N_0 N_1 N_f0 N_f1 N_t
        clear R_0 R_1 R_f0 R_f1 R_t
        iterate 11 (
          apply SeqH.op
          · intro L uw K hN hS hK
            obtain ⟨qN, qR, qO⟩ := hS
            have qN_0 := qN.cells 0 _ rfl
            have qN_1 := qN.cells 1 _ rfl
            try (have hh0 := qR.2 (hN.out.1 9 (by decide +kernel)); have qR_0 := hh0.cells 0 _ rfl; have qR_1 := hh0.cells 1 _ rfl; clear hh0)
            clear hN
            first
              | (go_simp; exact hK.out _ ⟨qN, (qR).skip (by decide), qO⟩)
              | (go_simp; go_at_call 79; (with_reducible refine (HGS.out _ qO).mono ?_); rintro e uw1 ⟨rfl, hv⟩; go_wp2_with fail; exact hK.out _ ⟨qN.more hv, (qR.more hv).skip (by decide), Own.keep qO hv⟩)
              | (go_simp; go_at_call 80; (with_reducible refine (brine_spec p1 p2 _).mono ?_); rintro e uw1 ⟨rfl, hv⟩; rw [HOB.out]; go_wp2_with fail; exact hK.out _ ⟨qN.more hv, (qR.more hv).skip (by decide), Own.keep qO hv⟩)
              | (rcases qR.two with hh | hh <;> (have h0 := hh.cells 0 _ rfl; have k0 := hh.free 0 (by simp); have h1 := hh.cells 1 _ rfl; have k1 := hh.free 1 (by simp); go_simp; exact hK.out _ ⟨((qN.far hh.base (by omega) 0 (.int .i64 p1)).far hh.base (by omega) 1 (.int .i64 p2)), BoxL.put ((hh.set 0 (.int .i64 p1)).set 1 (.int .i64 p2)), ((qO.far (by omega) 0 (.int .i64 p1)).far (by omega) 1 (.int .i64 p2))⟩))
          try simp only [Act.put, List.setIfInBounds_toArray, List.set_cons_zero, List.set_cons_succ])
        refine SeqH.done rfl ?_
        intro L v2 hL hS
        clear N R O
        obtain ⟨N, R, O⟩ := hS
        replace R := R.done (hL 9 (by decide))
        clear hL
        have N_0 := N.cells 0 _ rfl
        have N_1 := N.cells 1 _ rfl
        have N_f0 := N.free 0 (by simp)
        have N_f1 := N.free 1 (by simp)
        have N_t := N.there
        have R_0 := R.cells 0 _ rfl
        have R_1 := R.cells 1 _ rfl
        have R_f0 := R.free 0 (by simp)
        have R_f1 := R.free 1 (by simp)
        have R_t := R.there
        go_wp2
        exact bodyPost_ret (v := .tuple #[.slice (some ⟨g, 0, none⟩) l.length c, .agg #[.int .i64 p1, .int .i64 p2], .bool bb]) (by simp [results, Try.results81, go_sem, R_0, R_1]) rfl ⟨g, c, by rw [HSO2.out, ← HPL.out.1, ← HPL.out.2], O, R.below⟩
end Go.Proofs.Ytciohcipmkhneaa.SerT
