/- Series: a pass, the program's. Made by tools/mk_serp.py. -/
import Derived.Test.YtciohcipmkhneaaSerQ
import Derived.Test.YtciohcipmkhneaaRegn3
import Derived.Deep.CutBlock
import Derived.Deep.Cut
import Derived.Deep.DeepCutAuto
import Derived.Lib.MinMax
namespace Go.Proofs.Ytciohcipmkhneaa.SerP
open Go.RowKit Go.Proofs.Ytciohcipmkhneaa.Mem Go.Proofs.Ytciohcipmkhneaa.Base Go.Proofs.Ytciohcipmkhneaa.Within Go.Proofs.Ytciohcipmkhneaa.Brine Go.Proofs.Ytciohcipmkhneaa.Brine6 Go.Proofs.Ytciohcipmkhneaa.Regn Go.Proofs.Ytciohcipmkhneaa.Boxes Go.Proofs.Ytciohcipmkhneaa.Keep Go.Proofs.Ytciohcipmkhneaa.Ser Go.Proofs.Ytciohcipmkhneaa.SerG Go.Proofs.Ytciohcipmkhneaa.SerC Go.Proofs.Ytciohcipmkhneaa.SerQ
open Go.Proofs.Ytciohcipmkhneaa.SBasin hiding RPost rpost
set_option linter.unusedVariables false
set_option linter.unusedSimpArgs false
set_option maxRecDepth 100000
theorem _root_.Go.Proofs.Ytciohcipmkhneaa.SerC.Own.far {w : World} {base g c k : Nat} {l : List R} (h : Own w base g c l) (hne : k ≠ g) (i : Nat) (v : Value) : Own (w.setCell ⟨k, i, none⟩ v) base g c l := own_far h hne i v
theorem gm {u W V : World} {r : Option Nat} (h : u.grownBy W r) (hb : Below W.heap.size W V) : u.grownBy V r :=
  ⟨hb.os.trans h.os, hb.tape.trans h.tape, hb.output.trans h.output, Nat.le_trans h.size hb.size, fun j hj hne => (hb.block j (Nat.lt_of_lt_of_le hj h.size)).trans (h.block j hj hne)⟩
theorem gset_new {u W : World} {r : Option Nat} (h : u.grownBy W r) {b : Nat} (hb : u.heap.size ≤ b) (i : Nat) (v : Value) : u.grownBy (W.setCell ⟨b, i, none⟩ v) r :=
  ⟨h.os, h.tape, h.output, by rw [size_set']; exact h.size, fun j hj hne => by rw [Below.heap_setCell W ⟨b, i, none⟩ v j (by show j ≠ b; omega)]; exact h.block j hj hne⟩
theorem gset_row {u W : World} {g : Nat} (h : u.grownBy W (some g)) (i : Nat) (v : Value) : u.grownBy (W.setCell ⟨g, i, none⟩ v) (some g) :=
  ⟨h.os, h.tape, h.output, by rw [size_set']; exact h.size, fun j hj hne => by rw [Below.heap_setCell W ⟨g, i, none⟩ v j (fun e => hne (by rw [e]))]; exact h.block j hj hne⟩
def PassPost (l : List R) (n : Int) (g c : Nat) (w u : World) (e : Ending) (u' : World) : Prop :=
  ∃ (M : List R) (x y : Int), e = .returned (.tuple #[.agg #[.int .i64 x, .int .i64 y], .bool (good (passL l n))]) ∧ M.length = l.length ∧ Own u' w.heap.size g c M ∧ Below w.heap.size w u' ∧ u.grownBy u' (some g) ∧ (good (passL l n) = true → M = passL l n ∧ x = outW l n ∧ y = outS l n)
theorem pass_no {l M : List R} {n : Int} {g c : Nat} {w u u' : World} {x y : Int} {v : Value} (h : good (passL l n) = false) (hv : v = .tuple #[.agg #[.int .i64 x, .int .i64 y], .bool false]) (hl : M.length = l.length) (ho : Own u' w.heap.size g c M) (hB : Below w.heap.size w u') (hG : u.grownBy u' (some g)) : PassPost l n g c w u (.returned v) u' :=
  ⟨M, x, y, by rw [hv, h], hl, ho, hB, hG, fun e => by rw [h] at e; cases e⟩
theorem pass_yes {l M : List R} {n : Int} {g c : Nat} {w u u' : World} {x y : Int} {v : Value} (h : good (passL l n) = true) (hv : v = .tuple #[.agg #[.int .i64 x, .int .i64 y], .bool true]) (hl : M = passL l n) (hx : x = outW l n) (hy : y = outS l n) (ho : Own u' w.heap.size g c M) (hB : Below w.heap.size w u') (hG : u.grownBy u' (some g)) : PassPost l n g c w u (.returned v) u' :=
  ⟨M, x, y, by rw [hv, h], by rw [hl, pass_len], ho, hB, hG, fun _ => ⟨hl, hx, hy⟩⟩
theorem passAt_eq {l : List R} {n : Int} {k : Nat} {x : R} (hk : k < l.length) (hx : l[k] = x) : passAt l n k = ⟨x.f0, x.f1 - gw x n + inW l n k, x.f2 - gs x n + inS l n k⟩ := by unfold passAt; rw [getD_at hk, hx]
theorem mix2 {a b c d : Int} (h1 : okB a b = true) (h2 : okB c d = true) : Mix.mixV [⟨a, b⟩, ⟨c, d⟩] = if okB (a + c) (b + d) = true then .tuple #[br (a + c) (b + d), .bool true] else .tuple #[br 0 0, .bool false] := by
  have e : Mix.mixOk [⟨a, b⟩, ⟨c, d⟩] = okB (a + c) (b + d) := by
    unfold Mix.mixOk Mix.sw Mix.ss
    simp [Mix.okr, h1, h2]
  unfold Mix.mixV
  rw [e]
  simp [Mix.sw, Mix.ss]
theorem min_least (a b : Int) : min a b = least a b := by unfold least; split <;> omega
set_option maxHeartbeats 8000000 in
theorem pass_impl (g c : Nat) (l : List R) (n : Int) (w u : World) (hg : good l = true) (hn : 1 ≤ n) (HB0 : Below w.heap.size w u) (O : Own u w.heap.size g c l) :
    Calls Try.prog 88 #[.slice (some ⟨g, 0, none⟩) l.length c, .int .i64 n] u (PassPost l n g c w u) := by
  have hgw := O.ge
  have hgu := O.lt
  obtain ⟨l1, l8, _⟩ := good_all hg
  have HG := Lib.hid hg; clear hg
  go_enter Try.func88, Try.ntmps88
  go_wp2
  have G : u.grownBy u (some g) := World.grownBy.refl _ _
  have C := (Box.new HB0 [.int .i64 0, .int .i64 0] 26 (g := u.heap.size) rfl).alloc (.cells #[.int .i64 0, .int .i64 0] 26)
  have U := Box.new (al HB0 (o := (.cells #[.int .i64 0, .int .i64 0] 26))) [.int .i64 0, .int .i64 0] 26 (g := u.heap.size + 1) (by simp only [size_alloc'])
  replace O := Own.keep O (al (al (Below.refl _ _) (o := (.cells #[.int .i64 0, .int .i64 0] 26))) (o := (.cells #[.int .i64 0, .int .i64 0] 26)))
  replace G := gm G (al (al (Below.refl _ _) (o := (.cells #[.int .i64 0, .int .i64 0] 26))) (o := (.cells #[.int .i64 0, .int .i64 0] 26)))
  generalize ((u.alloc (.cells #[.int .i64 0, .int .i64 0] 26)).alloc (.cells #[.int .i64 0, .int .i64 0] 26)) = W1 at C U O G ⊢
  have C_0 := C.cells 0 _ rfl
  have C_1 := C.cells 1 _ rfl
  have C_f0 := C.free 0 (by simp)
  have C_f1 := C.free 1 (by simp)
  have C_t := C.there
  have U_0 := U.cells 0 _ rfl
  have U_1 := U.cells 1 _ rfl
  have U_f0 := U.free 0 (by simp)
  have U_f1 := U.free 1 (by simp)
  have U_t := U.there
  clear C_0 C_1 C_f0 C_f1 C_t
  clear U_0 U_1 U_f0 U_f1 U_t
  obtain ⟨pC, hpC⟩ : ∃ p, u.heap.size = p := ⟨_, rfl⟩
  rw [hpC] at C U hgu ⊢
  have hCu : u.heap.size ≤ pC := by omega
  clear HB0 hpC
  go_loopw [17] (fun i wr => ∃ k : Nat, k ≤ l.length ∧ i = .int .i64 k ∧ Hid (∀ j, j < k → okB (passAt l n j).f1 (passAt l n j).f2 = true) ∧ Own wr w.heap.size g c (mid l n k) ∧ u.grownBy wr (some g) ∧ Box pC [.int .i64 0, .int .i64 0] w wr ∧ Box (pC + 1) [.int .i64 (inW l n k), .int .i64 (inS l n k)] w wr) (fun i _ => l.length - (intOf i).toNat)
  case atStart => exact ⟨0, Nat.zero_le _, rfl, Lib.hid (fun j hj => by omega), by rw [mid_zero]; exact O, G, C, by have e1 : inW l n 0 = 0 := rfl; have e2 : inS l n 0 = 0 := rfl; rw [e1, e2]; exact U⟩
  case round =>
    clear C U O G
    obtain ⟨k, hk, rfl, HA, O, G, C, U⟩ := hrel
    by_cases hlt : k < l.length
    · obtain ⟨x, hx⟩ : ∃ x, l[k] = x := ⟨_, rfl⟩
      have hoa := good_get HG.out hlt hx
      have hlk : k < (mid l n k).length := by rw [mid_len]; exact hlt
      have hxk : (mid l n k)[k] = x := (mid_at hlt hlk).trans hx
      obtain ⟨c0, c1, c2⟩ := O.cells hlk hxk
      obtain ⟨_, _, hu0, hu1, hv0, hv1⟩ := okA_true hoa
      obtain ⟨b0, b1, b2, b3⟩ := go_bd hoa hn
      obtain ⟨j0, j1, j2, j3⟩ := in_bd HG.out hn k hk
      have HTK := Lib.hid (fun u0 => show Calls Try.prog 134 #[.agg #[.int .i64 x.f1, .int .i64 x.f2], .int .i64 (min n (x.f1 + x.f2))] u0 (RPost (.tuple #[.agg #[.int .i64 (gw x n), .int .i64 (gs x n)], .agg #[.int .i64 (x.f1 - gw x n), .int .i64 (x.f2 - gs x n)], .bool true]) u0) by
        have h := IBrine3.take_impl x.f1 x.f2 (min n (x.f1 + x.f2)) u0
        rw [min_least] at h ⊢
        have h2 := take_go hoa hn
        unfold mn at h2
        rw [h2] at h
        exact h)
      have HPA := Lib.hid (passAt_eq (n := n) hlt hx)
      have HIN := Lib.hid (in_next (n := n) hlt hx)
      have HSET := Lib.hid (mid_set (n := n) hlt)
      rw [HPA.out] at HSET
      have HBAD := Lib.hid (fun h : okB (passAt l n k).f1 (passAt l n k).f2 = false => pass_bad hlt h)
      have hml := mid_len l n k
      obtain ⟨M0, hM0⟩ : ∃ M, mid l n k = M := ⟨_, rfl⟩
      rw [hM0] at O HSET hml
      have hlk0 : k < M0.length := by omega
      have hxk0 : M0[k] = x := by subst hM0; exact hxk
      have HX0 := Lib.hid hxk0; have HL0 := Lib.hid hlk0; have HML := Lib.hid hml
      clear hxk hxk0 hM0 hlk hml hx hoa
      rw [HPA.out] at HBAD
      dsimp only at HBAD
      obtain ⟨a1, ha1⟩ : ∃ a, gw x n = a := ⟨_, rfl⟩
      obtain ⟨a2, ha2⟩ : ∃ a, gs x n = a := ⟨_, rfl⟩
      obtain ⟨i1, hi1⟩ : ∃ a, inW l n k = a := ⟨_, rfl⟩
      obtain ⟨i2, hi2⟩ : ∃ a, inS l n k = a := ⟨_, rfl⟩
      obtain ⟨d1, hd1⟩ : ∃ a, x.f1 - gw x n = a := ⟨_, rfl⟩
      obtain ⟨d2, hd2⟩ : ∃ a, x.f2 - gs x n = a := ⟨_, rfl⟩
      rw [hd1, hd2, hi1, hi2] at HSET HBAD HPA
      rw [hd1, hd2, ha1, ha2] at HTK
      rw [ha1, ha2] at HIN
      rw [hi1, hi2] at U
      rw [hi1] at j0 j1
      rw [hi2] at j2 j3
      have hob : okB d1 d2 = true := okB_mk (by omega)
      have hoi : okB i1 i2 = true := okB_mk (by omega)
      clear ha1 ha2 hi1 hi2 hd1 hd2 b0 b1 b2 b3 j0 j1 j2 j3
      have HMX := Lib.hid (mix2 hob hoi)
      clear hob hoi
      go_upto_region 5 with fail
      have C_t1 := C.there
      have U_t1 := U.there
      have B := Box.new C.below [.int .i64 x.f0, .int .i64 x.f1, .int .i64 x.f2] 50 (g := wr.heap.size) rfl
      replace C := (C).alloc (.cells #[.int .i64 x.f0, .int .i64 x.f1, .int .i64 x.f2] 50)
      replace U := (U).alloc (.cells #[.int .i64 x.f0, .int .i64 x.f1, .int .i64 x.f2] 50)
      replace O := Own.keep O (al (Below.refl _ _) (o := (.cells #[.int .i64 x.f0, .int .i64 x.f1, .int .i64 x.f2] 50)))
      replace G := gm G (al (Below.refl _ _) (o := (.cells #[.int .i64 x.f0, .int .i64 x.f1, .int .i64 x.f2] 50)))
      generalize (wr.alloc (.cells #[.int .i64 x.f0, .int .i64 x.f1, .int .i64 x.f2] 50)) = W1 at B C U O G ⊢
      have C_0 := C.cells 0 _ rfl
      have C_1 := C.cells 1 _ rfl
      have C_f0 := C.free 0 (by simp)
      have C_f1 := C.free 1 (by simp)
      have C_t := C.there
      have U_0 := U.cells 0 _ rfl
      have U_1 := U.cells 1 _ rfl
      have U_f0 := U.free 0 (by simp)
      have U_f1 := U.free 1 (by simp)
      have U_t := U.there
      have B_0 := B.cells 0 _ rfl
      have B_1 := B.cells 1 _ rfl
      have B_2 := B.cells 2 _ rfl
      have B_f0 := B.free 0 (by simp)
      have B_f1 := B.free 1 (by simp)
      have B_f2 := B.free 2 (by simp)
      have B_t := B.there
      clear B_0 B_1 B_2 B_f0 B_f1 B_f2 B_t
      clear C_0 C_1 C_f0 C_f1 C_t
      clear U_0 U_1 U_f0 U_f1 U_t
      have TB := B.there
      have TC := C.there
      have TU := U.there
      have TO := O.lt
      clear c0 c1 c2
      obtain ⟨pB, hpB⟩ : ∃ p, wr.heap.size = p := ⟨_, rfl⟩
      rw [hpB] at B TB ⊢
      obtain ⟨pU, hpU⟩ : ∃ p, pC + 1 = p := ⟨_, rfl⟩
      rw [hpU] at U TU ⊢
      obtain ⟨Z, hZ0⟩ : ∃ z, (W1).heap.size = z := ⟨_, rfl⟩
      rw [hZ0] at TB TC TU TO
      have hZ : Z ≤ (W1).heap.size := by rw [hZ0]; exact Nat.le_refl _
      have hZu : u.heap.size ≤ Z := by rw [← hZ0]; exact G.size
      clear hZ0 hpB
      refine wp_region_rel [23, 24, 25, 26, 27, 28, 29, 30, 22, 31, 32, 33, 9, 10, 11] (fun L f w' => (Box pC [.int .i64 0, .int .i64 0] w w') ∧ (Box pU [.int .i64 i1, .int .i64 i2] w w') ∧ (Box pB [.int .i64 x.f0, .int .i64 x.f1, .int .i64 x.f2] w w') ∧ (Own w' w.heap.size g c M0) ∧ (u.grownBy w' (some g)) ∧ (Z ≤ w'.heap.size) ∧ ((L 12 → L 13 → ¬ L 14 → ∃ a b, f 9 = .pointer (some ⟨a, 0, none⟩) ∧ f 10 = .pointer (some ⟨b, 0, none⟩) ∧ a ≠ b)) ∧ (L 0 → f 23 = .pointer (some ⟨pB, 1, none⟩)) ∧ (L 1 → f 24 = .agg #[.int .i64 x.f1, .int .i64 x.f2]) ∧ (L 2 → f 25 = .int .i64 n) ∧ (L 3 → f 26 = .pointer (some ⟨pB, 1, none⟩)) ∧ (L 4 → f 27 = .agg #[.int .i64 x.f1, .int .i64 x.f2]) ∧ (L 5 → f 28 = .int .i64 (x.f1 + x.f2)) ∧ (L 6 → f 29 = .int .i64 (min n (x.f1 + x.f2))) ∧ (L 7 → f 30 = .tuple #[.agg #[.int .i64 a1, .int .i64 a2], .agg #[.int .i64 d1, .int .i64 d2], .bool true]) ∧ (L 8 → f 22 = .tuple #[.agg #[.int .i64 a1, .int .i64 a2], .agg #[.int .i64 d1, .int .i64 d2], .bool true]) ∧ (L 9 → f 31 = .agg #[.int .i64 a1, .int .i64 a2]) ∧ (L 10 → f 32 = .agg #[.int .i64 d1, .int .i64 d2]) ∧ (L 11 → f 33 = .bool true) ∧ (L 12 → ¬ L 14 → ∃ a, f 9 = .pointer (some ⟨a, 0, none⟩) ∧ Z ≤ a ∧ Box a [.int .i64 0, .int .i64 0] w w') ∧ (L 13 → ¬ L 14 → ∃ a, f 10 = .pointer (some ⟨a, 0, none⟩) ∧ Z ≤ a ∧ Box a [.int .i64 0, .int .i64 0] w w') ∧ (L 14 → ¬ L 15 → ∃ a b, f 9 = .pointer (some ⟨a, 0, none⟩) ∧ f 10 = .pointer (some ⟨b, 0, none⟩) ∧ a ≠ b ∧ Z ≤ a ∧ Z ≤ b ∧ Box a [.int .i64 a1, .int .i64 a2] w w' ∧ Box b [.int .i64 0, .int .i64 0] w w') ∧ (L 15 → ∃ a b, f 9 = .pointer (some ⟨a, 0, none⟩) ∧ f 10 = .pointer (some ⟨b, 0, none⟩) ∧ a ≠ b ∧ Z ≤ a ∧ Z ≤ b ∧ Box a [.int .i64 a1, .int .i64 a2] w w' ∧ Box b [.int .i64 d1, .int .i64 d2] w w') ∧ (L 16 → f 11 = .bool true)) (by kernel_rfl) (by kernel_rfl) (by kernel_rfl) (fun f => ⟨C.drew, U.drew, B.drew, O.keep (Below.refl _ _).drew, gm G (Below.refl _ _).drew, hZ, fun h => h.elim, fun h => h.elim, fun h => h.elim, fun h => h.elim, fun h => h.elim, fun h => h.elim, fun h => h.elim, fun h => h.elim, fun h => h.elim, fun h => h.elim, fun h => h.elim, fun h => h.elim, fun h => h.elim, fun h => h.elim, fun h => h.elim, fun h => h.elim, fun h => h.elim, fun h => h.elim⟩) ?_ ?_
      · apply RelH.op2
        · intro L f u K hN hS hK
          simp only [puts, Act.put, List.setIfInBounds_toArray, List.set_cons_zero, List.set_cons_succ, upd, Nat.reduceEqDiff, ↓reduceIte, if_true, if_false] at hK ⊢
          have HS9 := Lib.hid hS
          obtain ⟨qC, qU, qB, qO, qG, qZ, qD, c0, c1, c2, c3, c4, c5, c6, c7, c8, c9, c10, c11, c12, c13, c14, c15, c16⟩ := hS
          clear qD c0 c1 c2 c3 c4 c5 c6 c7 c8 c9 c10 c11 c12 c13 c14 c15 c16
          go_simp
          obtain ⟨qC, qU, qB, qO, qG, qZ, qD, c0, c1, c2, c3, c4, c5, c6, c7, c8, c9, c10, c11, c12, c13, c14, c15, c16⟩ := HS9.out
          exact hK.out _ _ ⟨qC, qU, qB, qO, qG, qZ, fun h1 h2 h3 => qD (h1.resolve_right (by decide)) (h2.resolve_right (by decide)) (fun z => h3 (.inl z)), fun _ => rfl, fun h => c1 (h.resolve_right (by decide)), fun h => c2 (h.resolve_right (by decide)), fun h => c3 (h.resolve_right (by decide)), fun h => c4 (h.resolve_right (by decide)), fun h => c5 (h.resolve_right (by decide)), fun h => c6 (h.resolve_right (by decide)), fun h => c7 (h.resolve_right (by decide)), fun h => c8 (h.resolve_right (by decide)), fun h => c9 (h.resolve_right (by decide)), fun h => c10 (h.resolve_right (by decide)), fun h => c11 (h.resolve_right (by decide)), fun h t0 => c12 (h.resolve_right (by decide)) (fun z => t0 (.inl z)), fun h t0 => c13 (h.resolve_right (by decide)) (fun z => t0 (.inl z)), fun h t0 => c14 (h.resolve_right (by decide)) (fun z => t0 (.inl z)), fun h => c15 (h.resolve_right (by decide)), fun h => c16 (h.resolve_right (by decide))⟩ _ rfl
        apply RelH.op2
        · intro L f u K hN hS hK
          simp only [puts, Act.put, List.setIfInBounds_toArray, List.set_cons_zero, List.set_cons_succ, upd, Nat.reduceEqDiff, ↓reduceIte, if_true, if_false] at hK ⊢
          have HS9 := Lib.hid hS
          obtain ⟨qC, qU, qB, qO, qG, qZ, qD, c0, c1, c2, c3, c4, c5, c6, c7, c8, c9, c10, c11, c12, c13, c14, c15, c16⟩ := hS
          have e0 := c0 (hN.out.2 0 (by decide +kernel))
          have qB_0 := qB.cells 0 _ rfl
          have qB_1 := qB.cells 1 _ rfl
          have qB_2 := qB.cells 2 _ rfl
          clear qD c0 c1 c2 c3 c4 c5 c6 c7 c8 c9 c10 c11 c12 c13 c14 c15 c16
          go_simp
          obtain ⟨qC, qU, qB, qO, qG, qZ, qD, c0, c1, c2, c3, c4, c5, c6, c7, c8, c9, c10, c11, c12, c13, c14, c15, c16⟩ := HS9.out
          exact hK.out _ _ ⟨qC, qU, qB, qO, qG, qZ, fun h1 h2 h3 => qD (h1.resolve_right (by decide)) (h2.resolve_right (by decide)) (fun z => h3 (.inl z)), fun h => c0 (h.resolve_right (by decide)), fun _ => rfl, fun h => c2 (h.resolve_right (by decide)), fun h => c3 (h.resolve_right (by decide)), fun h => c4 (h.resolve_right (by decide)), fun h => c5 (h.resolve_right (by decide)), fun h => c6 (h.resolve_right (by decide)), fun h => c7 (h.resolve_right (by decide)), fun h => c8 (h.resolve_right (by decide)), fun h => c9 (h.resolve_right (by decide)), fun h => c10 (h.resolve_right (by decide)), fun h => c11 (h.resolve_right (by decide)), fun h t0 => c12 (h.resolve_right (by decide)) (fun z => t0 (.inl z)), fun h t0 => c13 (h.resolve_right (by decide)) (fun z => t0 (.inl z)), fun h t0 => c14 (h.resolve_right (by decide)) (fun z => t0 (.inl z)), fun h => c15 (h.resolve_right (by decide)), fun h => c16 (h.resolve_right (by decide))⟩ _ (by simp only [e0])
        apply RelH.op2
        · intro L f u K hN hS hK
          simp only [puts, Act.put, List.setIfInBounds_toArray, List.set_cons_zero, List.set_cons_succ, upd, Nat.reduceEqDiff, ↓reduceIte, if_true, if_false] at hK ⊢
          have HS9 := Lib.hid hS
          obtain ⟨qC, qU, qB, qO, qG, qZ, qD, c0, c1, c2, c3, c4, c5, c6, c7, c8, c9, c10, c11, c12, c13, c14, c15, c16⟩ := hS
          clear qD c0 c1 c2 c3 c4 c5 c6 c7 c8 c9 c10 c11 c12 c13 c14 c15 c16
          go_simp
          obtain ⟨qC, qU, qB, qO, qG, qZ, qD, c0, c1, c2, c3, c4, c5, c6, c7, c8, c9, c10, c11, c12, c13, c14, c15, c16⟩ := HS9.out
          exact hK.out _ _ ⟨qC, qU, qB, qO, qG, qZ, fun h1 h2 h3 => qD (h1.resolve_right (by decide)) (h2.resolve_right (by decide)) (fun z => h3 (.inl z)), fun h => c0 (h.resolve_right (by decide)), fun h => c1 (h.resolve_right (by decide)), fun _ => rfl, fun h => c3 (h.resolve_right (by decide)), fun h => c4 (h.resolve_right (by decide)), fun h => c5 (h.resolve_right (by decide)), fun h => c6 (h.resolve_right (by decide)), fun h => c7 (h.resolve_right (by decide)), fun h => c8 (h.resolve_right (by decide)), fun h => c9 (h.resolve_right (by decide)), fun h => c10 (h.resolve_right (by decide)), fun h => c11 (h.resolve_right (by decide)), fun h t0 => c12 (h.resolve_right (by decide)) (fun z => t0 (.inl z)), fun h t0 => c13 (h.resolve_right (by decide)) (fun z => t0 (.inl z)), fun h t0 => c14 (h.resolve_right (by decide)) (fun z => t0 (.inl z)), fun h => c15 (h.resolve_right (by decide)), fun h => c16 (h.resolve_right (by decide))⟩ _ rfl
        apply RelH.op2
        · intro L f u K hN hS hK
          simp only [puts, Act.put, List.setIfInBounds_toArray, List.set_cons_zero, List.set_cons_succ, upd, Nat.reduceEqDiff, ↓reduceIte, if_true, if_false] at hK ⊢
          have HS9 := Lib.hid hS
          obtain ⟨qC, qU, qB, qO, qG, qZ, qD, c0, c1, c2, c3, c4, c5, c6, c7, c8, c9, c10, c11, c12, c13, c14, c15, c16⟩ := hS
          clear qD c0 c1 c2 c3 c4 c5 c6 c7 c8 c9 c10 c11 c12 c13 c14 c15 c16
          go_simp
          obtain ⟨qC, qU, qB, qO, qG, qZ, qD, c0, c1, c2, c3, c4, c5, c6, c7, c8, c9, c10, c11, c12, c13, c14, c15, c16⟩ := HS9.out
          exact hK.out _ _ ⟨qC, qU, qB, qO, qG, qZ, fun h1 h2 h3 => qD (h1.resolve_right (by decide)) (h2.resolve_right (by decide)) (fun z => h3 (.inl z)), fun h => c0 (h.resolve_right (by decide)), fun h => c1 (h.resolve_right (by decide)), fun h => c2 (h.resolve_right (by decide)), fun _ => rfl, fun h => c4 (h.resolve_right (by decide)), fun h => c5 (h.resolve_right (by decide)), fun h => c6 (h.resolve_right (by decide)), fun h => c7 (h.resolve_right (by decide)), fun h => c8 (h.resolve_right (by decide)), fun h => c9 (h.resolve_right (by decide)), fun h => c10 (h.resolve_right (by decide)), fun h => c11 (h.resolve_right (by decide)), fun h t0 => c12 (h.resolve_right (by decide)) (fun z => t0 (.inl z)), fun h t0 => c13 (h.resolve_right (by decide)) (fun z => t0 (.inl z)), fun h t0 => c14 (h.resolve_right (by decide)) (fun z => t0 (.inl z)), fun h => c15 (h.resolve_right (by decide)), fun h => c16 (h.resolve_right (by decide))⟩ _ rfl
        apply RelH.op2
        · intro L f u K hN hS hK
          simp only [puts, Act.put, List.setIfInBounds_toArray, List.set_cons_zero, List.set_cons_succ, upd, Nat.reduceEqDiff, ↓reduceIte, if_true, if_false] at hK ⊢
          have HS9 := Lib.hid hS
          obtain ⟨qC, qU, qB, qO, qG, qZ, qD, c0, c1, c2, c3, c4, c5, c6, c7, c8, c9, c10, c11, c12, c13, c14, c15, c16⟩ := hS
          have e3 := c3 (hN.out.2 3 (by decide +kernel))
          have qB_0 := qB.cells 0 _ rfl
          have qB_1 := qB.cells 1 _ rfl
          have qB_2 := qB.cells 2 _ rfl
          clear qD c0 c1 c2 c3 c4 c5 c6 c7 c8 c9 c10 c11 c12 c13 c14 c15 c16
          go_simp
          obtain ⟨qC, qU, qB, qO, qG, qZ, qD, c0, c1, c2, c3, c4, c5, c6, c7, c8, c9, c10, c11, c12, c13, c14, c15, c16⟩ := HS9.out
          exact hK.out _ _ ⟨qC, qU, qB, qO, qG, qZ, fun h1 h2 h3 => qD (h1.resolve_right (by decide)) (h2.resolve_right (by decide)) (fun z => h3 (.inl z)), fun h => c0 (h.resolve_right (by decide)), fun h => c1 (h.resolve_right (by decide)), fun h => c2 (h.resolve_right (by decide)), fun h => c3 (h.resolve_right (by decide)), fun _ => rfl, fun h => c5 (h.resolve_right (by decide)), fun h => c6 (h.resolve_right (by decide)), fun h => c7 (h.resolve_right (by decide)), fun h => c8 (h.resolve_right (by decide)), fun h => c9 (h.resolve_right (by decide)), fun h => c10 (h.resolve_right (by decide)), fun h => c11 (h.resolve_right (by decide)), fun h t0 => c12 (h.resolve_right (by decide)) (fun z => t0 (.inl z)), fun h t0 => c13 (h.resolve_right (by decide)) (fun z => t0 (.inl z)), fun h t0 => c14 (h.resolve_right (by decide)) (fun z => t0 (.inl z)), fun h => c15 (h.resolve_right (by decide)), fun h => c16 (h.resolve_right (by decide))⟩ _ (by simp only [e3])
        apply RelH.op2
        · intro L f u K hN hS hK
          simp only [puts, Act.put, List.setIfInBounds_toArray, List.set_cons_zero, List.set_cons_succ, upd, Nat.reduceEqDiff, ↓reduceIte, if_true, if_false] at hK ⊢
          have HS9 := Lib.hid hS
          obtain ⟨qC, qU, qB, qO, qG, qZ, qD, c0, c1, c2, c3, c4, c5, c6, c7, c8, c9, c10, c11, c12, c13, c14, c15, c16⟩ := hS
          have e4 := c4 (hN.out.2 4 (by decide +kernel))
          have HCON := Lib.hid (IBrine.mass_impl x.f1 x.f2 hu0 hu1 hv0 hv1 u)
          clear qD c0 c1 c2 c3 c4 c5 c6 c7 c8 c9 c10 c11 c12 c13 c14 c15 c16
          go_simp
          go_at_call 98
          (with_reducible refine HCON.out.mono ?_)
          rintro e uw1 ⟨rfl, hv⟩
          go_wp2_with fail
          obtain ⟨qC, qU, qB, qO, qG, qZ, qD, c0, c1, c2, c3, c4, c5, c6, c7, c8, c9, c10, c11, c12, c13, c14, c15, c16⟩ := HS9.out
          exact hK.out _ _ ⟨qC.more hv, qU.more hv, qB.more hv, qO.keep hv, gm qG hv, (Nat.le_trans qZ hv.size), fun h1 h2 h3 => qD (h1.resolve_right (by decide)) (h2.resolve_right (by decide)) (fun z => h3 (.inl z)), fun h => c0 (h.resolve_right (by decide)), fun h => c1 (h.resolve_right (by decide)), fun h => c2 (h.resolve_right (by decide)), fun h => c3 (h.resolve_right (by decide)), fun h => c4 (h.resolve_right (by decide)), fun _ => rfl, fun h => c6 (h.resolve_right (by decide)), fun h => c7 (h.resolve_right (by decide)), fun h => c8 (h.resolve_right (by decide)), fun h => c9 (h.resolve_right (by decide)), fun h => c10 (h.resolve_right (by decide)), fun h => c11 (h.resolve_right (by decide)), fun h t0 => (let ⟨a, e, z, X⟩ := (c12 (h.resolve_right (by decide)) (fun z => t0 (.inl z))); ⟨a, e, z, X.more hv⟩), fun h t0 => (let ⟨a, e, z, X⟩ := (c13 (h.resolve_right (by decide)) (fun z => t0 (.inl z))); ⟨a, e, z, X.more hv⟩), fun h t0 => (let ⟨a, b, e, e2, n, z, z2, X, Y⟩ := (c14 (h.resolve_right (by decide)) (fun z => t0 (.inl z))); ⟨a, b, e, e2, n, z, z2, X.more hv, Y.more hv⟩), fun h => (let ⟨a, b, e, e2, n, z, z2, X, Y⟩ := (c15 (h.resolve_right (by decide))); ⟨a, b, e, e2, n, z, z2, X.more hv, Y.more hv⟩), fun h => c16 (h.resolve_right (by decide))⟩ _ (by simp only [e4])
        apply RelH.op2
        · intro L f u K hN hS hK
          simp only [puts, Act.put, List.setIfInBounds_toArray, List.set_cons_zero, List.set_cons_succ, upd, Nat.reduceEqDiff, ↓reduceIte, if_true, if_false] at hK ⊢
          have HS9 := Lib.hid hS
          obtain ⟨qC, qU, qB, qO, qG, qZ, qD, c0, c1, c2, c3, c4, c5, c6, c7, c8, c9, c10, c11, c12, c13, c14, c15, c16⟩ := hS
          have e2 := c2 (hN.out.2 2 (by decide +kernel))
          have e5 := c5 (hN.out.2 5 (by decide +kernel))
          clear qD c0 c1 c2 c3 c4 c5 c6 c7 c8 c9 c10 c11 c12 c13 c14 c15 c16
          go_simp
          obtain ⟨qC, qU, qB, qO, qG, qZ, qD, c0, c1, c2, c3, c4, c5, c6, c7, c8, c9, c10, c11, c12, c13, c14, c15, c16⟩ := HS9.out
          exact hK.out _ _ ⟨qC, qU, qB, qO, qG, qZ, fun h1 h2 h3 => qD (h1.resolve_right (by decide)) (h2.resolve_right (by decide)) (fun z => h3 (.inl z)), fun h => c0 (h.resolve_right (by decide)), fun h => c1 (h.resolve_right (by decide)), fun h => c2 (h.resolve_right (by decide)), fun h => c3 (h.resolve_right (by decide)), fun h => c4 (h.resolve_right (by decide)), fun h => c5 (h.resolve_right (by decide)), fun _ => rfl, fun h => c7 (h.resolve_right (by decide)), fun h => c8 (h.resolve_right (by decide)), fun h => c9 (h.resolve_right (by decide)), fun h => c10 (h.resolve_right (by decide)), fun h => c11 (h.resolve_right (by decide)), fun h t0 => c12 (h.resolve_right (by decide)) (fun z => t0 (.inl z)), fun h t0 => c13 (h.resolve_right (by decide)) (fun z => t0 (.inl z)), fun h t0 => c14 (h.resolve_right (by decide)) (fun z => t0 (.inl z)), fun h => c15 (h.resolve_right (by decide)), fun h => c16 (h.resolve_right (by decide))⟩ _ (by simp only [e2, e5])
        apply RelH.op2
        · intro L f u K hN hS hK
          simp only [puts, Act.put, List.setIfInBounds_toArray, List.set_cons_zero, List.set_cons_succ, upd, Nat.reduceEqDiff, ↓reduceIte, if_true, if_false] at hK ⊢
          have HS9 := Lib.hid hS
          obtain ⟨qC, qU, qB, qO, qG, qZ, qD, c0, c1, c2, c3, c4, c5, c6, c7, c8, c9, c10, c11, c12, c13, c14, c15, c16⟩ := hS
          have e1 := c1 (hN.out.2 1 (by decide +kernel))
          have e6 := c6 (hN.out.2 6 (by decide +kernel))
          have HCON := Lib.hid (HTK.out u)
          clear qD c0 c1 c2 c3 c4 c5 c6 c7 c8 c9 c10 c11 c12 c13 c14 c15 c16
          go_simp
          go_at_call 134
          (with_reducible refine HCON.out.mono ?_)
          rintro e uw1 ⟨rfl, hv⟩
          go_wp2_with fail
          obtain ⟨qC, qU, qB, qO, qG, qZ, qD, c0, c1, c2, c3, c4, c5, c6, c7, c8, c9, c10, c11, c12, c13, c14, c15, c16⟩ := HS9.out
          exact hK.out _ _ ⟨qC.more hv, qU.more hv, qB.more hv, qO.keep hv, gm qG hv, (Nat.le_trans qZ hv.size), fun h1 h2 h3 => qD (h1.resolve_right (by decide)) (h2.resolve_right (by decide)) (fun z => h3 (.inl z)), fun h => c0 (h.resolve_right (by decide)), fun h => c1 (h.resolve_right (by decide)), fun h => c2 (h.resolve_right (by decide)), fun h => c3 (h.resolve_right (by decide)), fun h => c4 (h.resolve_right (by decide)), fun h => c5 (h.resolve_right (by decide)), fun h => c6 (h.resolve_right (by decide)), fun _ => rfl, fun h => c8 (h.resolve_right (by decide)), fun h => c9 (h.resolve_right (by decide)), fun h => c10 (h.resolve_right (by decide)), fun h => c11 (h.resolve_right (by decide)), fun h t0 => (let ⟨a, e, z, X⟩ := (c12 (h.resolve_right (by decide)) (fun z => t0 (.inl z))); ⟨a, e, z, X.more hv⟩), fun h t0 => (let ⟨a, e, z, X⟩ := (c13 (h.resolve_right (by decide)) (fun z => t0 (.inl z))); ⟨a, e, z, X.more hv⟩), fun h t0 => (let ⟨a, b, e, e2, n, z, z2, X, Y⟩ := (c14 (h.resolve_right (by decide)) (fun z => t0 (.inl z))); ⟨a, b, e, e2, n, z, z2, X.more hv, Y.more hv⟩), fun h => (let ⟨a, b, e, e2, n, z, z2, X, Y⟩ := (c15 (h.resolve_right (by decide))); ⟨a, b, e, e2, n, z, z2, X.more hv, Y.more hv⟩), fun h => c16 (h.resolve_right (by decide))⟩ _ (by simp only [e1, e6])
        apply RelH.op2
        · intro L f u K hN hS hK
          simp only [puts, Act.put, List.setIfInBounds_toArray, List.set_cons_zero, List.set_cons_succ, upd, Nat.reduceEqDiff, ↓reduceIte, if_true, if_false] at hK ⊢
          have HS9 := Lib.hid hS
          obtain ⟨qC, qU, qB, qO, qG, qZ, qD, c0, c1, c2, c3, c4, c5, c6, c7, c8, c9, c10, c11, c12, c13, c14, c15, c16⟩ := hS
          have e7 := c7 (hN.out.2 7 (by decide +kernel))
          clear qD c0 c1 c2 c3 c4 c5 c6 c7 c8 c9 c10 c11 c12 c13 c14 c15 c16
          go_simp
          obtain ⟨qC, qU, qB, qO, qG, qZ, qD, c0, c1, c2, c3, c4, c5, c6, c7, c8, c9, c10, c11, c12, c13, c14, c15, c16⟩ := HS9.out
          exact hK.out _ _ ⟨qC, qU, qB, qO, qG, qZ, fun h1 h2 h3 => qD (h1.resolve_right (by decide)) (h2.resolve_right (by decide)) (fun z => h3 (.inl z)), fun h => c0 (h.resolve_right (by decide)), fun h => c1 (h.resolve_right (by decide)), fun h => c2 (h.resolve_right (by decide)), fun h => c3 (h.resolve_right (by decide)), fun h => c4 (h.resolve_right (by decide)), fun h => c5 (h.resolve_right (by decide)), fun h => c6 (h.resolve_right (by decide)), fun h => c7 (h.resolve_right (by decide)), fun _ => rfl, fun h => c9 (h.resolve_right (by decide)), fun h => c10 (h.resolve_right (by decide)), fun h => c11 (h.resolve_right (by decide)), fun h t0 => c12 (h.resolve_right (by decide)) (fun z => t0 (.inl z)), fun h t0 => c13 (h.resolve_right (by decide)) (fun z => t0 (.inl z)), fun h t0 => c14 (h.resolve_right (by decide)) (fun z => t0 (.inl z)), fun h => c15 (h.resolve_right (by decide)), fun h => c16 (h.resolve_right (by decide))⟩ _ (by simp only [e7])
        apply RelH.op2
        · intro L f u K hN hS hK
          simp only [puts, Act.put, List.setIfInBounds_toArray, List.set_cons_zero, List.set_cons_succ, upd, Nat.reduceEqDiff, ↓reduceIte, if_true, if_false] at hK ⊢
          have HS9 := Lib.hid hS
          obtain ⟨qC, qU, qB, qO, qG, qZ, qD, c0, c1, c2, c3, c4, c5, c6, c7, c8, c9, c10, c11, c12, c13, c14, c15, c16⟩ := hS
          have e8 := c8 (hN.out.2 8 (by decide +kernel))
          clear qD c0 c1 c2 c3 c4 c5 c6 c7 c8 c9 c10 c11 c12 c13 c14 c15 c16
          go_simp
          obtain ⟨qC, qU, qB, qO, qG, qZ, qD, c0, c1, c2, c3, c4, c5, c6, c7, c8, c9, c10, c11, c12, c13, c14, c15, c16⟩ := HS9.out
          exact hK.out _ _ ⟨qC, qU, qB, qO, qG, qZ, fun h1 h2 h3 => qD (h1.resolve_right (by decide)) (h2.resolve_right (by decide)) (fun z => h3 (.inl z)), fun h => c0 (h.resolve_right (by decide)), fun h => c1 (h.resolve_right (by decide)), fun h => c2 (h.resolve_right (by decide)), fun h => c3 (h.resolve_right (by decide)), fun h => c4 (h.resolve_right (by decide)), fun h => c5 (h.resolve_right (by decide)), fun h => c6 (h.resolve_right (by decide)), fun h => c7 (h.resolve_right (by decide)), fun h => c8 (h.resolve_right (by decide)), fun _ => rfl, fun h => c10 (h.resolve_right (by decide)), fun h => c11 (h.resolve_right (by decide)), fun h t0 => c12 (h.resolve_right (by decide)) (fun z => t0 (.inl z)), fun h t0 => c13 (h.resolve_right (by decide)) (fun z => t0 (.inl z)), fun h t0 => c14 (h.resolve_right (by decide)) (fun z => t0 (.inl z)), fun h => c15 (h.resolve_right (by decide)), fun h => c16 (h.resolve_right (by decide))⟩ _ (by simp only [e8])
        apply RelH.op2
        · intro L f u K hN hS hK
          simp only [puts, Act.put, List.setIfInBounds_toArray, List.set_cons_zero, List.set_cons_succ, upd, Nat.reduceEqDiff, ↓reduceIte, if_true, if_false] at hK ⊢
          have HS9 := Lib.hid hS
          obtain ⟨qC, qU, qB, qO, qG, qZ, qD, c0, c1, c2, c3, c4, c5, c6, c7, c8, c9, c10, c11, c12, c13, c14, c15, c16⟩ := hS
          have e8 := c8 (hN.out.2 8 (by decide +kernel))
          clear qD c0 c1 c2 c3 c4 c5 c6 c7 c8 c9 c10 c11 c12 c13 c14 c15 c16
          go_simp
          obtain ⟨qC, qU, qB, qO, qG, qZ, qD, c0, c1, c2, c3, c4, c5, c6, c7, c8, c9, c10, c11, c12, c13, c14, c15, c16⟩ := HS9.out
          exact hK.out _ _ ⟨qC, qU, qB, qO, qG, qZ, fun h1 h2 h3 => qD (h1.resolve_right (by decide)) (h2.resolve_right (by decide)) (fun z => h3 (.inl z)), fun h => c0 (h.resolve_right (by decide)), fun h => c1 (h.resolve_right (by decide)), fun h => c2 (h.resolve_right (by decide)), fun h => c3 (h.resolve_right (by decide)), fun h => c4 (h.resolve_right (by decide)), fun h => c5 (h.resolve_right (by decide)), fun h => c6 (h.resolve_right (by decide)), fun h => c7 (h.resolve_right (by decide)), fun h => c8 (h.resolve_right (by decide)), fun h => c9 (h.resolve_right (by decide)), fun _ => rfl, fun h => c11 (h.resolve_right (by decide)), fun h t0 => c12 (h.resolve_right (by decide)) (fun z => t0 (.inl z)), fun h t0 => c13 (h.resolve_right (by decide)) (fun z => t0 (.inl z)), fun h t0 => c14 (h.resolve_right (by decide)) (fun z => t0 (.inl z)), fun h => c15 (h.resolve_right (by decide)), fun h => c16 (h.resolve_right (by decide))⟩ _ (by simp only [e8])
        apply RelH.op2
        · intro L f u K hN hS hK
          simp only [puts, Act.put, List.setIfInBounds_toArray, List.set_cons_zero, List.set_cons_succ, upd, Nat.reduceEqDiff, ↓reduceIte, if_true, if_false] at hK ⊢
          have HS9 := Lib.hid hS
          obtain ⟨qC, qU, qB, qO, qG, qZ, qD, c0, c1, c2, c3, c4, c5, c6, c7, c8, c9, c10, c11, c12, c13, c14, c15, c16⟩ := hS
          have e8 := c8 (hN.out.2 8 (by decide +kernel))
          clear qD c0 c1 c2 c3 c4 c5 c6 c7 c8 c9 c10 c11 c12 c13 c14 c15 c16
          go_simp
          obtain ⟨qC, qU, qB, qO, qG, qZ, qD, c0, c1, c2, c3, c4, c5, c6, c7, c8, c9, c10, c11, c12, c13, c14, c15, c16⟩ := HS9.out
          exact hK.out _ _ ⟨qC, qU, qB, qO, qG, qZ, fun h1 h2 h3 => qD (h1.resolve_right (by decide)) (h2.resolve_right (by decide)) (fun z => h3 (.inl z)), fun h => c0 (h.resolve_right (by decide)), fun h => c1 (h.resolve_right (by decide)), fun h => c2 (h.resolve_right (by decide)), fun h => c3 (h.resolve_right (by decide)), fun h => c4 (h.resolve_right (by decide)), fun h => c5 (h.resolve_right (by decide)), fun h => c6 (h.resolve_right (by decide)), fun h => c7 (h.resolve_right (by decide)), fun h => c8 (h.resolve_right (by decide)), fun h => c9 (h.resolve_right (by decide)), fun h => c10 (h.resolve_right (by decide)), fun _ => rfl, fun h t0 => c12 (h.resolve_right (by decide)) (fun z => t0 (.inl z)), fun h t0 => c13 (h.resolve_right (by decide)) (fun z => t0 (.inl z)), fun h t0 => c14 (h.resolve_right (by decide)) (fun z => t0 (.inl z)), fun h => c15 (h.resolve_right (by decide)), fun h => c16 (h.resolve_right (by decide))⟩ _ (by simp only [e8])
        apply RelH.op2
        · intro L f u K hN hS hK
          simp only [puts, Act.put, List.setIfInBounds_toArray, List.set_cons_zero, List.set_cons_succ, upd, Nat.reduceEqDiff, ↓reduceIte, if_true, if_false] at hK ⊢
          have HS9 := Lib.hid hS
          obtain ⟨qC, qU, qB, qO, qG, qZ, qD, c0, c1, c2, c3, c4, c5, c6, c7, c8, c9, c10, c11, c12, c13, c14, c15, c16⟩ := hS
          have hv : Below u.heap.size u (u.alloc (.cells #[.int .i64 0, .int .i64 0] 26)) := al (Below.refl _ _)
          have hX := Box.new qB.below [.int .i64 0, .int .i64 0] 26 (g := u.heap.size) rfl
          have n14 := hN.out.1 14 (by decide +kernel)
          clear qD c0 c1 c2 c3 c4 c5 c6 c7 c8 c9 c10 c11 c12 c13 c14 c15 c16
          go_simp
          obtain ⟨qC, qU, qB, qO, qG, qZ, qD, c0, c1, c2, c3, c4, c5, c6, c7, c8, c9, c10, c11, c12, c13, c14, c15, c16⟩ := HS9.out
          exact hK.out _ _ ⟨qC.more hv, qU.more hv, qB.more hv, qO.keep hv, gm qG hv, (Nat.le_trans qZ hv.size), fun _ h2 h3 => (let ⟨b, e, _, X⟩ := c13 (h2.resolve_right (by decide)) n14; ⟨_, b, rfl, e, by have := X.there; omega⟩), fun h => c0 (h.resolve_right (by decide)), fun h => c1 (h.resolve_right (by decide)), fun h => c2 (h.resolve_right (by decide)), fun h => c3 (h.resolve_right (by decide)), fun h => c4 (h.resolve_right (by decide)), fun h => c5 (h.resolve_right (by decide)), fun h => c6 (h.resolve_right (by decide)), fun h => c7 (h.resolve_right (by decide)), fun h => c8 (h.resolve_right (by decide)), fun h => c9 (h.resolve_right (by decide)), fun h => c10 (h.resolve_right (by decide)), fun h => c11 (h.resolve_right (by decide)), fun _ _ => ⟨_, rfl, qZ, hX⟩, fun h t0 => (let ⟨a, e, z, X⟩ := (c13 (h.resolve_right (by decide)) (fun z => t0 (.inl z))); ⟨a, e, z, X.more hv⟩), fun h => absurd (h.resolve_right (by decide)) n14, fun h => absurd (h.resolve_right (by decide)) (hN.out.1 15 (by decide +kernel)), fun h => c16 (h.resolve_right (by decide))⟩ _ rfl
        apply RelH.op2
        · intro L f u K hN hS hK
          simp only [puts, Act.put, List.setIfInBounds_toArray, List.set_cons_zero, List.set_cons_succ, upd, Nat.reduceEqDiff, ↓reduceIte, if_true, if_false] at hK ⊢
          have HS9 := Lib.hid hS
          obtain ⟨qC, qU, qB, qO, qG, qZ, qD, c0, c1, c2, c3, c4, c5, c6, c7, c8, c9, c10, c11, c12, c13, c14, c15, c16⟩ := hS
          have hv : Below u.heap.size u (u.alloc (.cells #[.int .i64 0, .int .i64 0] 26)) := al (Below.refl _ _)
          have hX := Box.new qB.below [.int .i64 0, .int .i64 0] 26 (g := u.heap.size) rfl
          have n14 := hN.out.1 14 (by decide +kernel)
          clear qD c0 c1 c2 c3 c4 c5 c6 c7 c8 c9 c10 c11 c12 c13 c14 c15 c16
          go_simp
          obtain ⟨qC, qU, qB, qO, qG, qZ, qD, c0, c1, c2, c3, c4, c5, c6, c7, c8, c9, c10, c11, c12, c13, c14, c15, c16⟩ := HS9.out
          exact hK.out _ _ ⟨qC.more hv, qU.more hv, qB.more hv, qO.keep hv, gm qG hv, (Nat.le_trans qZ hv.size), fun h1 _ h3 => (let ⟨a, e, _, X⟩ := c12 (h1.resolve_right (by decide)) n14; ⟨a, _, e, rfl, by have := X.there; omega⟩), fun h => c0 (h.resolve_right (by decide)), fun h => c1 (h.resolve_right (by decide)), fun h => c2 (h.resolve_right (by decide)), fun h => c3 (h.resolve_right (by decide)), fun h => c4 (h.resolve_right (by decide)), fun h => c5 (h.resolve_right (by decide)), fun h => c6 (h.resolve_right (by decide)), fun h => c7 (h.resolve_right (by decide)), fun h => c8 (h.resolve_right (by decide)), fun h => c9 (h.resolve_right (by decide)), fun h => c10 (h.resolve_right (by decide)), fun h => c11 (h.resolve_right (by decide)), fun h t0 => (let ⟨a, e, z, X⟩ := (c12 (h.resolve_right (by decide)) (fun z => t0 (.inl z))); ⟨a, e, z, X.more hv⟩), fun _ _ => ⟨_, rfl, qZ, hX⟩, fun h => absurd (h.resolve_right (by decide)) n14, fun h => absurd (h.resolve_right (by decide)) (hN.out.1 15 (by decide +kernel)), fun h => c16 (h.resolve_right (by decide))⟩ _ rfl
        apply RelH.op2
        · intro L f u K hN hS hK
          simp only [puts, Act.put, List.setIfInBounds_toArray, List.set_cons_zero, List.set_cons_succ, upd, Nat.reduceEqDiff, ↓reduceIte, if_true, if_false] at hK ⊢
          have HS9 := Lib.hid hS
          obtain ⟨qC, qU, qB, qO, qG, qZ, qD, c0, c1, c2, c3, c4, c5, c6, c7, c8, c9, c10, c11, c12, c13, c14, c15, c16⟩ := hS
          have e9 := c9 (hN.out.2 9 (by decide +kernel))
          have HNL := hN.out.1 14 (by decide +kernel)
          have hd := qD (hN.out.2 12 (by decide +kernel)) (hN.out.2 13 (by decide +kernel)) HNL
          obtain ⟨a, e12, z12, X⟩ := c12 (hN.out.2 12 (by decide +kernel)) HNL
          obtain ⟨b, e13, z13, Y⟩ := c13 (hN.out.2 13 (by decide +kernel)) HNL
          have hab : a ≠ b := by obtain ⟨a9, b9, h1, h2, h3⟩ := hd; rw [e12] at h1; rw [e13] at h2; cases h1; cases h2; exact h3
          have hka : w.heap.size ≤ a := X.base
          have X_0 := X.cells 0 _ rfl
          have X_1 := X.cells 1 _ rfl
          have X_f0 := X.free 0 (by simp)
          have X_f1 := X.free 1 (by simp)
          clear qD c0 c1 c2 c3 c4 c5 c6 c7 c8 c9 c10 c11 c12 c13 c14 c15 c16
          go_simp
          obtain ⟨qC, qU, qB, qO, qG, qZ, qD, c0, c1, c2, c3, c4, c5, c6, c7, c8, c9, c10, c11, c12, c13, c14, c15, c16⟩ := HS9.out
          exact hK.out undef _ ⟨(qC.far hka (by omega) 0 _).far hka (by omega) 1 _, (qU.far hka (by omega) 0 _).far hka (by omega) 1 _, (qB.far hka (by omega) 0 _).far hka (by omega) 1 _, (qO.far (by omega) 0 _).far (by omega) 1 _, gset_new (gset_new qG (Nat.le_trans hZu z12) 0 _) (Nat.le_trans hZu z12) 1 _, (by rw [size_set', size_set']; exact qZ), fun _ _ h3 => (h3 (by simp)).elim, fun h => c0 (h.resolve_right (by decide)), fun h => c1 (h.resolve_right (by decide)), fun h => c2 (h.resolve_right (by decide)), fun h => c3 (h.resolve_right (by decide)), fun h => c4 (h.resolve_right (by decide)), fun h => c5 (h.resolve_right (by decide)), fun h => c6 (h.resolve_right (by decide)), fun h => c7 (h.resolve_right (by decide)), fun h => c8 (h.resolve_right (by decide)), fun h => c9 (h.resolve_right (by decide)), fun h => c10 (h.resolve_right (by decide)), fun h => c11 (h.resolve_right (by decide)), fun h t0 => (t0 (by simp)).elim, fun h t0 => (t0 (by simp)).elim, fun _ _ => ⟨a, b, e12, e13, hab, z12, z13, (X.set 0 (.int .i64 a1)).set 1 (.int .i64 a2), (Y.far hka hab 0 _).far hka hab 1 _⟩, fun h => absurd (h.resolve_right (by decide)) (hN.out.1 15 (by decide +kernel)), fun h => c16 (h.resolve_right (by decide))⟩ _ (by simp only [e9, e12, e13])
        apply RelH.op2
        · intro L f u K hN hS hK
          simp only [puts, Act.put, List.setIfInBounds_toArray, List.set_cons_zero, List.set_cons_succ, upd, Nat.reduceEqDiff, ↓reduceIte, if_true, if_false] at hK ⊢
          have HS9 := Lib.hid hS
          obtain ⟨qC, qU, qB, qO, qG, qZ, qD, c0, c1, c2, c3, c4, c5, c6, c7, c8, c9, c10, c11, c12, c13, c14, c15, c16⟩ := hS
          have e10 := c10 (hN.out.2 10 (by decide +kernel))
          have HNL := hN.out.1 15 (by decide +kernel)
          obtain ⟨a, b, e12, e13, hab, z12, z13, X, Y⟩ := c14 (hN.out.2 14 (by decide +kernel)) HNL
          have hka : w.heap.size ≤ b := Y.base
          have X_0 := Y.cells 0 _ rfl
          have X_1 := Y.cells 1 _ rfl
          have X_f0 := Y.free 0 (by simp)
          have X_f1 := Y.free 1 (by simp)
          clear qD c0 c1 c2 c3 c4 c5 c6 c7 c8 c9 c10 c11 c12 c13 c14 c15 c16
          go_simp
          obtain ⟨qC, qU, qB, qO, qG, qZ, qD, c0, c1, c2, c3, c4, c5, c6, c7, c8, c9, c10, c11, c12, c13, c14, c15, c16⟩ := HS9.out
          exact hK.out undef _ ⟨(qC.far hka (by omega) 0 _).far hka (by omega) 1 _, (qU.far hka (by omega) 0 _).far hka (by omega) 1 _, (qB.far hka (by omega) 0 _).far hka (by omega) 1 _, (qO.far (by omega) 0 _).far (by omega) 1 _, gset_new (gset_new qG (Nat.le_trans hZu z13) 0 _) (Nat.le_trans hZu z13) 1 _, (by rw [size_set', size_set']; exact qZ), fun h1 h2 h3 => qD (h1.resolve_right (by decide)) (h2.resolve_right (by decide)) (fun z => h3 (.inl z)), fun h => c0 (h.resolve_right (by decide)), fun h => c1 (h.resolve_right (by decide)), fun h => c2 (h.resolve_right (by decide)), fun h => c3 (h.resolve_right (by decide)), fun h => c4 (h.resolve_right (by decide)), fun h => c5 (h.resolve_right (by decide)), fun h => c6 (h.resolve_right (by decide)), fun h => c7 (h.resolve_right (by decide)), fun h => c8 (h.resolve_right (by decide)), fun h => c9 (h.resolve_right (by decide)), fun h => c10 (h.resolve_right (by decide)), fun h => c11 (h.resolve_right (by decide)), fun h t0 => (t0 (.inl (hN.out.2 14 (by decide +kernel)))).elim, fun h t0 => (t0 (.inl (hN.out.2 14 (by decide +kernel)))).elim, fun h t0 => (t0 (by simp)).elim, fun _ => ⟨a, b, e12, e13, hab, z12, z13, (X.far hka (fun h => hab h.symm) 0 _).far hka (fun h => hab h.symm) 1 _, (Y.set 0 (.int .i64 d1)).set 1 (.int .i64 d2)⟩, fun h => c16 (h.resolve_right (by decide))⟩ _ (by simp only [e10, e12, e13])
        apply RelH.op2
        · intro L f u K hN hS hK
          simp only [puts, Act.put, List.setIfInBounds_toArray, List.set_cons_zero, List.set_cons_succ, upd, Nat.reduceEqDiff, ↓reduceIte, if_true, if_false] at hK ⊢
          have HS9 := Lib.hid hS
          obtain ⟨qC, qU, qB, qO, qG, qZ, qD, c0, c1, c2, c3, c4, c5, c6, c7, c8, c9, c10, c11, c12, c13, c14, c15, c16⟩ := hS
          have e11 := c11 (hN.out.2 11 (by decide +kernel))
          clear qD c0 c1 c2 c3 c4 c5 c6 c7 c8 c9 c10 c11 c12 c13 c14 c15 c16
          go_simp
          obtain ⟨qC, qU, qB, qO, qG, qZ, qD, c0, c1, c2, c3, c4, c5, c6, c7, c8, c9, c10, c11, c12, c13, c14, c15, c16⟩ := HS9.out
          exact hK.out _ _ ⟨qC, qU, qB, qO, qG, qZ, fun h1 h2 h3 => qD (h1.resolve_right (by decide)) (h2.resolve_right (by decide)) (fun z => h3 (.inl z)), fun h => c0 (h.resolve_right (by decide)), fun h => c1 (h.resolve_right (by decide)), fun h => c2 (h.resolve_right (by decide)), fun h => c3 (h.resolve_right (by decide)), fun h => c4 (h.resolve_right (by decide)), fun h => c5 (h.resolve_right (by decide)), fun h => c6 (h.resolve_right (by decide)), fun h => c7 (h.resolve_right (by decide)), fun h => c8 (h.resolve_right (by decide)), fun h => c9 (h.resolve_right (by decide)), fun h => c10 (h.resolve_right (by decide)), fun h => c11 (h.resolve_right (by decide)), fun h t0 => c12 (h.resolve_right (by decide)) (fun z => t0 (.inl z)), fun h t0 => c13 (h.resolve_right (by decide)) (fun z => t0 (.inl z)), fun h t0 => c14 (h.resolve_right (by decide)) (fun z => t0 (.inl z)), fun h => c15 (h.resolve_right (by decide)), fun _ => rfl⟩ _ (by simp only [e11])
        exact RelH.done
      intro L f V0 hL hS
      simp only [puts, Act.put, List.setIfInBounds_toArray, List.set_cons_zero, List.set_cons_succ]
      obtain ⟨qC, qU, qB, qO, qG, qZ, qD, c0, c1, c2, c3, c4, c5, c6, c7, c8, c9, c10, c11, c12, c13, c14, c15, c16⟩ := hS
      clear C U B O G hZ
      obtain ⟨a, b, e12, e13, hab, z12, z13, X, Y⟩ := c15 (hL 15 (by decide))
      have e0 := c0 (hL 0 (by decide)); have e1 := c1 (hL 1 (by decide)); have e2 := c2 (hL 2 (by decide)); have e3 := c3 (hL 3 (by decide)); have e4 := c4 (hL 4 (by decide)); have e5 := c5 (hL 5 (by decide)); have e6 := c6 (hL 6 (by decide)); have e7 := c7 (hL 7 (by decide)); have e8 := c8 (hL 8 (by decide)); have e9 := c9 (hL 9 (by decide)); have e10 := c10 (hL 10 (by decide)); have e11 := c11 (hL 11 (by decide)); have e16 := c16 (hL 16 (by decide))
      simp only [e0, e1, e2, e3, e4, e5, e6, e7, e8, e9, e10, e11, e12, e13, e16]
      clear e0 e1 e2 e3 e4 e5 e6 e7 e8 e9 e10 e11 e12 e13 e16 c0 c1 c2 c3 c4 c5 c6 c7 c8 c9 c10 c11 c12 c13 c14 c15 c16 hL qD
      have C := qC
      have U := qU
      have O := qO
      have G := qG
      clear qC qU qB qO qG
      subst hpU
      have C_0 := C.cells 0 _ rfl
      have C_1 := C.cells 1 _ rfl
      have C_f0 := C.free 0 (by simp)
      have C_f1 := C.free 1 (by simp)
      have C_t := C.there
      have U_0 := U.cells 0 _ rfl
      have U_1 := U.cells 1 _ rfl
      have U_f0 := U.free 0 (by simp)
      have U_f1 := U.free 1 (by simp)
      have U_t := U.there
      have X_0 := X.cells 0 _ rfl
      have X_1 := X.cells 1 _ rfl
      have X_f0 := X.free 0 (by simp)
      have X_f1 := X.free 1 (by simp)
      have X_t := X.there
      have Y_0 := Y.cells 0 _ rfl
      have Y_1 := Y.cells 1 _ rfl
      have Y_f0 := Y.free 0 (by simp)
      have Y_f1 := Y.free 1 (by simp)
      have Y_t := Y.there
      go_wp2_with fail
      have C_t1 := C.there
      have U_t1 := U.there
      have X_t1 := X.there
      have Y_t1 := Y.there
      have S := Box.new C.below [.int .i64 d1, .int .i64 d2, .int .i64 i1, .int .i64 i2] 26 (g := V0.heap.size) rfl
      clear C_0 C_1 C_f0 C_f1 C_t
      replace C := (C).alloc (.cells #[.int .i64 d1, .int .i64 d2, .int .i64 i1, .int .i64 i2] 26)
      clear U_0 U_1 U_f0 U_f1 U_t
      replace U := (U).alloc (.cells #[.int .i64 d1, .int .i64 d2, .int .i64 i1, .int .i64 i2] 26)
      clear X_0 X_1 X_f0 X_f1 X_t
      replace X := (X).alloc (.cells #[.int .i64 d1, .int .i64 d2, .int .i64 i1, .int .i64 i2] 26)
      clear Y_0 Y_1 Y_f0 Y_f1 Y_t
      replace Y := (Y).alloc (.cells #[.int .i64 d1, .int .i64 d2, .int .i64 i1, .int .i64 i2] 26)
      replace O := Own.keep O (al (Below.refl _ _) (o := (.cells #[.int .i64 d1, .int .i64 d2, .int .i64 i1, .int .i64 i2] 26)))
      replace G := gm G (al (Below.refl _ _) (o := (.cells #[.int .i64 d1, .int .i64 d2, .int .i64 i1, .int .i64 i2] 26)))
      generalize (V0.alloc (.cells #[.int .i64 d1, .int .i64 d2, .int .i64 i1, .int .i64 i2] 26)) = W1 at S C U X Y O G ⊢
      have C_0 := C.cells 0 _ rfl
      have C_1 := C.cells 1 _ rfl
      have C_f0 := C.free 0 (by simp)
      have C_f1 := C.free 1 (by simp)
      have C_t := C.there
      have U_0 := U.cells 0 _ rfl
      have U_1 := U.cells 1 _ rfl
      have U_f0 := U.free 0 (by simp)
      have U_f1 := U.free 1 (by simp)
      have U_t := U.there
      have X_0 := X.cells 0 _ rfl
      have X_1 := X.cells 1 _ rfl
      have X_f0 := X.free 0 (by simp)
      have X_f1 := X.free 1 (by simp)
      have X_t := X.there
      have Y_0 := Y.cells 0 _ rfl
      have Y_1 := Y.cells 1 _ rfl
      have Y_f0 := Y.free 0 (by simp)
      have Y_f1 := Y.free 1 (by simp)
      have Y_t := Y.there
      have S_0 := S.cells 0 _ rfl
      have S_1 := S.cells 1 _ rfl
      have S_2 := S.cells 2 _ rfl
      have S_3 := S.cells 3 _ rfl
      have S_f0 := S.free 0 (by simp)
      have S_f1 := S.free 1 (by simp)
      have S_f2 := S.free 2 (by simp)
      have S_f3 := S.free 3 (by simp)
      have S_t := S.there
      go_wp2_with fail
      refine (Mix.mix_impl _ _ [⟨d1, d2⟩, ⟨i1, i2⟩] _ S.rd (by simp)).mono ?_
      rintro e v2 ⟨rfl, hv2⟩
      clear C_0 C_1 C_f0 C_f1 C_t
      clear U_0 U_1 U_f0 U_f1 U_t
      clear X_0 X_1 X_f0 X_f1 X_t
      clear Y_0 Y_1 Y_f0 Y_f1 Y_t
      clear S_0 S_1 S_2 S_3 S_f0 S_f1 S_f2 S_f3 S_t
      replace C := C.more hv2
      replace U := U.more hv2
      replace X := X.more hv2
      replace Y := Y.more hv2
      replace S := S.more hv2
      replace O := Own.keep O hv2
      replace G := gm G hv2
      have zhv2 := hv2.size
      clear hv2
      have C_0 := C.cells 0 _ rfl
      have C_1 := C.cells 1 _ rfl
      have C_f0 := C.free 0 (by simp)
      have C_f1 := C.free 1 (by simp)
      have C_t := C.there
      have U_0 := U.cells 0 _ rfl
      have U_1 := U.cells 1 _ rfl
      have U_f0 := U.free 0 (by simp)
      have U_f1 := U.free 1 (by simp)
      have U_t := U.there
      have X_0 := X.cells 0 _ rfl
      have X_1 := X.cells 1 _ rfl
      have X_f0 := X.free 0 (by simp)
      have X_f1 := X.free 1 (by simp)
      have X_t := X.there
      have Y_0 := Y.cells 0 _ rfl
      have Y_1 := Y.cells 1 _ rfl
      have Y_f0 := Y.free 0 (by simp)
      have Y_f1 := Y.free 1 (by simp)
      have Y_t := Y.there
      have S_0 := S.cells 0 _ rfl
      have S_1 := S.cells 1 _ rfl
      have S_2 := S.cells 2 _ rfl
      have S_3 := S.cells 3 _ rfl
      have S_f0 := S.free 0 (by simp)
      have S_f1 := S.free 1 (by simp)
      have S_f2 := S.free 2 (by simp)
      have S_f3 := S.free 3 (by simp)
      have S_t := S.there
      rw [HMX.out]
      cases ho : okB (d1 + i1) (d2 + i2)
      · have HB9 := Lib.hid (HBAD.out ho)
        simp only [Bool.false_eq_true, if_false]
        unfold br
        go_upto_region 7 with fail
        have C_t3 := C.there
        have U_t3 := U.there
        have X_t3 := X.there
        have Y_t3 := Y.there
        have S_t3 := S.there
        have E := Box.new C.below [.int .i64 0, .int .i64 0] 26 (g := v2.heap.size) rfl
        clear C_0 C_1 C_f0 C_f1 C_t
        replace C := (C).alloc (.cells #[.int .i64 0, .int .i64 0] 26)
        clear U_0 U_1 U_f0 U_f1 U_t
        replace U := (U).alloc (.cells #[.int .i64 0, .int .i64 0] 26)
        clear X_0 X_1 X_f0 X_f1 X_t
        replace X := (X).alloc (.cells #[.int .i64 0, .int .i64 0] 26)
        clear Y_0 Y_1 Y_f0 Y_f1 Y_t
        replace Y := (Y).alloc (.cells #[.int .i64 0, .int .i64 0] 26)
        clear S_0 S_1 S_2 S_3 S_f0 S_f1 S_f2 S_f3 S_t
        replace S := (S).alloc (.cells #[.int .i64 0, .int .i64 0] 26)
        replace O := Own.keep O (al (Below.refl _ _) (o := (.cells #[.int .i64 0, .int .i64 0] 26)))
        replace G := gm G (al (Below.refl _ _) (o := (.cells #[.int .i64 0, .int .i64 0] 26)))
        generalize (v2.alloc (.cells #[.int .i64 0, .int .i64 0] 26)) = W3 at E C U X Y S O G ⊢
        have C_0 := C.cells 0 _ rfl
        have C_1 := C.cells 1 _ rfl
        have C_f0 := C.free 0 (by simp)
        have C_f1 := C.free 1 (by simp)
        have C_t := C.there
        have U_0 := U.cells 0 _ rfl
        have U_1 := U.cells 1 _ rfl
        have U_f0 := U.free 0 (by simp)
        have U_f1 := U.free 1 (by simp)
        have U_t := U.there
        have X_0 := X.cells 0 _ rfl
        have X_1 := X.cells 1 _ rfl
        have X_f0 := X.free 0 (by simp)
        have X_f1 := X.free 1 (by simp)
        have X_t := X.there
        have Y_0 := Y.cells 0 _ rfl
        have Y_1 := Y.cells 1 _ rfl
        have Y_f0 := Y.free 0 (by simp)
        have Y_f1 := Y.free 1 (by simp)
        have Y_t := Y.there
        have S_0 := S.cells 0 _ rfl
        have S_1 := S.cells 1 _ rfl
        have S_2 := S.cells 2 _ rfl
        have S_3 := S.cells 3 _ rfl
        have S_f0 := S.free 0 (by simp)
        have S_f1 := S.free 1 (by simp)
        have S_f2 := S.free 2 (by simp)
        have S_f3 := S.free 3 (by simp)
        have S_t := S.there
        have E_0 := E.cells 0 _ rfl
        have E_1 := E.cells 1 _ rfl
        have E_f0 := E.free 0 (by simp)
        have E_f1 := E.free 1 (by simp)
        have E_t := E.there
        go_wp2
        have C2 := (C.set 0 (.int .i64 0)).set 1 (.int .i64 0)
        have O2 := (O.far (show pC ≠ g by omega) 0 (.int .i64 0)).far (show pC ≠ g by omega) 1 (.int .i64 0)
        have G2 := gset_new (gset_new G hCu 0 (.int .i64 0)) hCu 1 (.int .i64 0)
        have r0 := C2.cells 0 _ rfl
        have r1 := C2.cells 1 _ rfl
        exact bodyPost_ret (v := .tuple #[.agg #[.int .i64 0, .int .i64 0], .bool false]) (by simp [results, Try.results88, go_sem, r0, r1]) rfl (pass_no HB9.out rfl HML.out O2 C2.below G2)
      · have HA2 := Lib.hid (show ∀ j, j < k + 1 → okB (passAt l n j).f1 (passAt l n j).f2 = true from fun j hj => by
          rcases Nat.lt_or_ge j k with h | h
          · exact HA.out j h
          · have : j = k := by omega
            subst this
            rw [HPA.out]; exact ho)
        simp only [if_true]
        unfold br
        go_upto_region 7 with fail
        have C_t4 := C.there
        have U_t4 := U.there
        have X_t4 := X.there
        have Y_t4 := Y.there
        have S_t4 := S.there
        have E := Box.new C.below [.int .i64 (d1+i1), .int .i64 (d2+i2)] 26 (g := v2.heap.size) rfl
        clear C_0 C_1 C_f0 C_f1 C_t
        replace C := (C).alloc (.cells #[.int .i64 (d1+i1), .int .i64 (d2+i2)] 26)
        clear U_0 U_1 U_f0 U_f1 U_t
        replace U := (U).alloc (.cells #[.int .i64 (d1+i1), .int .i64 (d2+i2)] 26)
        clear X_0 X_1 X_f0 X_f1 X_t
        replace X := (X).alloc (.cells #[.int .i64 (d1+i1), .int .i64 (d2+i2)] 26)
        clear Y_0 Y_1 Y_f0 Y_f1 Y_t
        replace Y := (Y).alloc (.cells #[.int .i64 (d1+i1), .int .i64 (d2+i2)] 26)
        clear S_0 S_1 S_2 S_3 S_f0 S_f1 S_f2 S_f3 S_t
        replace S := (S).alloc (.cells #[.int .i64 (d1+i1), .int .i64 (d2+i2)] 26)
        replace O := Own.keep O (al (Below.refl _ _) (o := (.cells #[.int .i64 (d1+i1), .int .i64 (d2+i2)] 26)))
        replace G := gm G (al (Below.refl _ _) (o := (.cells #[.int .i64 (d1+i1), .int .i64 (d2+i2)] 26)))
        generalize (v2.alloc (.cells #[.int .i64 (d1+i1), .int .i64 (d2+i2)] 26)) = W4 at E C U X Y S O G ⊢
        have C_0 := C.cells 0 _ rfl
        have C_1 := C.cells 1 _ rfl
        have C_f0 := C.free 0 (by simp)
        have C_f1 := C.free 1 (by simp)
        have C_t := C.there
        have U_0 := U.cells 0 _ rfl
        have U_1 := U.cells 1 _ rfl
        have U_f0 := U.free 0 (by simp)
        have U_f1 := U.free 1 (by simp)
        have U_t := U.there
        have X_0 := X.cells 0 _ rfl
        have X_1 := X.cells 1 _ rfl
        have X_f0 := X.free 0 (by simp)
        have X_f1 := X.free 1 (by simp)
        have X_t := X.there
        have Y_0 := Y.cells 0 _ rfl
        have Y_1 := Y.cells 1 _ rfl
        have Y_f0 := Y.free 0 (by simp)
        have Y_f1 := Y.free 1 (by simp)
        have Y_t := Y.there
        have S_0 := S.cells 0 _ rfl
        have S_1 := S.cells 1 _ rfl
        have S_2 := S.cells 2 _ rfl
        have S_3 := S.cells 3 _ rfl
        have S_f0 := S.free 0 (by simp)
        have S_f1 := S.free 1 (by simp)
        have S_f2 := S.free 2 (by simp)
        have S_f3 := S.free 3 (by simp)
        have S_t := S.there
        have E_0 := E.cells 0 _ rfl
        have E_1 := E.cells 1 _ rfl
        have E_f0 := E.free 0 (by simp)
        have E_f1 := E.free 1 (by simp)
        have E_t := E.there
        obtain ⟨r0, r1, r2⟩ := O.cells HL0.out HX0.out
        have f1 := O.free (k * 3 + 1)
        have f2 := O.free (k * 3 + 2)
        have hpg : pC + 1 ≠ g := by omega
        have hcg : g ≠ pC := by omega
        have hug : g ≠ pC + 1 := by omega
        have hcu : pC + 1 ≠ pC := by omega
        have hub : w.heap.size ≤ pC + 1 := U.base
        have O2 := Lib.hid (((O.put HL0.out HX0.out (d1 + i1) (d2 + i2)).far hpg 0 (.int .i64 a1)).far hpg 1 (.int .i64 a2))
        have C2 := Lib.hid ((((C.far hgw hcg (k * 3 + 1) (.int .i64 (d1 + i1))).far hgw hcg (k * 3 + 2) (.int .i64 (d2 + i2))).far hub hcu 0 (.int .i64 a1)).far hub hcu 1 (.int .i64 a2))
        have U2 := Lib.hid ((((U.far hgw hug (k * 3 + 1) (.int .i64 (d1 + i1))).far hgw hug (k * 3 + 2) (.int .i64 (d2 + i2))).set 0 (.int .i64 a1)).set 1 (.int .i64 a2))
        have hUu : u.heap.size ≤ pC + 1 := by omega
        have G2 := Lib.hid (gset_new (gset_new (gset_row (gset_row G (k * 3 + 1) (.int .i64 (d1 + i1))) (k * 3 + 2) (.int .i64 (d2 + i2))) hUu 0 (.int .i64 a1)) hUu 1 (.int .i64 a2))
        clear O G HBAD HPA
        go_wp2
        go_roundw
        case rel => exact ⟨k + 1, by omega, by go_num, HA2, by have h := O2.out; rw [HSET.out] at h; exact h, G2.out, C2.out, by rw [HIN.out.1, HIN.out.2]; exact U2.out⟩
        case measure => simp [intOf]; omega
    · have hkk : k = l.length := by omega
      have hgd := pass_good (n := n) HG.out (fun j hj => HA.out j (by omega))
      have HGD := Lib.hid hgd
      have HMA := Lib.hid (mid_all l n (k := k) (by omega))
      have hx1 : inW l n k = outW l n := by rw [hkk]; rfl
      have hx2 : inS l n k = outS l n := by rw [hkk]; rfl
      rw [hx1, hx2] at U
      rw [HMA.out] at O
      obtain ⟨x1, hy1⟩ : ∃ a, outW l n = a := ⟨_, rfl⟩
      obtain ⟨x2, hy2⟩ : ∃ a, outS l n = a := ⟨_, rfl⟩
      rw [hy1, hy2] at U
      have HY := Lib.hid (And.intro hy1 hy2)
      have TU := U.there
      clear hgd hx1 hx2 hy1 hy2 hkk
      have C_0 := C.cells 0 _ rfl
      have C_1 := C.cells 1 _ rfl
      have C_f0 := C.free 0 (by simp)
      have C_f1 := C.free 1 (by simp)
      have C_t := C.there
      have U_0 := U.cells 0 _ rfl
      have U_1 := U.cells 1 _ rfl
      have U_f0 := U.free 0 (by simp)
      have U_f1 := U.free 1 (by simp)
      have U_t := U.there
      go_wp2
      have C2 := (C.set 0 (.int .i64 x1)).set 1 (.int .i64 x2)
      have O2 := (O.far (show pC ≠ g by omega) 0 (.int .i64 x1)).far (show pC ≠ g by omega) 1 (.int .i64 x2)
      have r0 := C2.cells 0 _ rfl
      have r1 := C2.cells 1 _ rfl
      exact bodyPost_ret (v := .tuple #[.agg #[.int .i64 x1, .int .i64 x2], .bool true]) (by simp [results, Try.results88, go_sem, r0, r1]) rfl (pass_yes HGD.out rfl rfl HY.out.1.symm HY.out.2.symm O2 C2.below (gset_new (gset_new G hCu 0 (.int .i64 x1)) hCu 1 (.int .i64 x2)))
end Go.Proofs.Ytciohcipmkhneaa.SerP
